/-
  What spec.DrawValAdd draws, over this translation: whatever the code, some two values; nothing that was there turns.
-/
import Derived.Test.YtfgpmbeianbimaaVal
namespace Go.Proofs.Ytfgpmbeianbimaa
open Go.ChangeShapes Go.WideShapes Go.ChangeAt Go.RowKit Go.Joins
attribute [local go_sem ↓] Go.wp_at_zero Go.wp_at_succ
set_option maxHeartbeats 2000000 in
theorem drawAdd_any (a : Option Addr) (len cap : Nat) (w : World) (h : Code0 w a len cap) :
    Calls Try.prog 11 #[.slice a len cap] w fun e w' => ∃ k n l m, e = .returned (.tuple #[.agg #[.int .i64 k, .int .i64 n], .agg #[.int .i64 l, .int .i64 m]]) ∧ (-100 ≤ k ∧ k ≤ 100 ∧ -100 ≤ n ∧ n ≤ 100 ∧ -100 ≤ l ∧ l ≤ 100 ∧ -100 ≤ m ∧ m ≤ 100) ∧ Below w.heap.size w w' := by
  go_enter Try.func11, Try.ntmps11
  go_wp2_with fail
  refine (open_any a len cap _ (h.below (((Below.refl _ _).alloc (Nat.le_refl _) _).alloc (by simp) _))).mono ?_
  rintro e w1 ⟨rfl, hbw1, hR1'⟩
  have hR1 : Rd (w.heap.size + 1 + 1) 0 w1 := by simpa using hR1'
  clear hR1'
  have hzw1 := hbw1.size
  try simp at hzw1
  have x00w1 : w1.cell? ⟨w.heap.size, 0, none⟩ = some (.int .i64 0) := by rw [hbw1.cell (p := ⟨w.heap.size, 0, none⟩) (by dsimp only; (try simp) <;> omega)]; first | assumption | (rw [World.cell?_alloc_past _ _ _ (by omega)]; assumption) | (simp [go_sem]; done)
  have f00w1 : w1.frozen? ⟨w.heap.size, 0, none⟩ = false := by rw [hbw1.frozen (p := ⟨w.heap.size, 0, none⟩) (by dsimp only; (try simp) <;> omega)]; first | assumption | (rw [((Below.refl _ _).alloc (Nat.le_refl _) _).frozen (by dsimp only; omega)]; assumption) | (simp [go_sem]; done)
  have x01w1 : w1.cell? ⟨w.heap.size, 1, none⟩ = some (.int .i64 0) := by rw [hbw1.cell (p := ⟨w.heap.size, 1, none⟩) (by dsimp only; (try simp) <;> omega)]; first | assumption | (rw [World.cell?_alloc_past _ _ _ (by omega)]; assumption) | (simp [go_sem]; done)
  have f01w1 : w1.frozen? ⟨w.heap.size, 1, none⟩ = false := by rw [hbw1.frozen (p := ⟨w.heap.size, 1, none⟩) (by dsimp only; (try simp) <;> omega)]; first | assumption | (rw [((Below.refl _ _).alloc (Nat.le_refl _) _).frozen (by dsimp only; omega)]; assumption) | (simp [go_sem]; done)
  have x10w1 : w1.cell? ⟨w.heap.size + 1, 0, none⟩ = some (.int .i64 0) := by rw [hbw1.cell (p := ⟨w.heap.size + 1, 0, none⟩) (by dsimp only; (try simp) <;> omega)]; first | assumption | (rw [World.cell?_alloc_past _ _ _ (by omega)]; assumption) | (simp [go_sem]; done)
  have f10w1 : w1.frozen? ⟨w.heap.size + 1, 0, none⟩ = false := by rw [hbw1.frozen (p := ⟨w.heap.size + 1, 0, none⟩) (by dsimp only; (try simp) <;> omega)]; first | assumption | (rw [((Below.refl _ _).alloc (Nat.le_refl _) _).frozen (by dsimp only; omega)]; assumption) | (simp [go_sem]; done)
  have x11w1 : w1.cell? ⟨w.heap.size + 1, 1, none⟩ = some (.int .i64 0) := by rw [hbw1.cell (p := ⟨w.heap.size + 1, 1, none⟩) (by dsimp only; (try simp) <;> omega)]; first | assumption | (rw [World.cell?_alloc_past _ _ _ (by omega)]; assumption) | (simp [go_sem]; done)
  have f11w1 : w1.frozen? ⟨w.heap.size + 1, 1, none⟩ = false := by rw [hbw1.frozen (p := ⟨w.heap.size + 1, 1, none⟩) (by dsimp only; (try simp) <;> omega)]; first | assumption | (rw [((Below.refl _ _).alloc (Nat.le_refl _) _).frozen (by dsimp only; omega)]; assumption) | (simp [go_sem]; done)
  have hB1 : Below w.heap.size w w1 := (((Below.refl _ _).alloc (Nat.le_refl _) _).alloc (by simp) _).trans (hbw1.mono (by simp; omega))
  have hl1 := hR1.lt
  clear hbw1
  go_wp2_with fail
  refine (val_any (w.heap.size + 1 + 1) 0 _ hR1 (by omega)).mono ?_
  rintro e w2 ⟨k, n, p2, rfl, hkn, hbw2, hp2, hR2⟩
  have hzw2 := hbw2.size
  try simp at hzw2
  have x00w2 : w2.cell? ⟨w.heap.size, 0, none⟩ = some (.int .i64 0) := by rw [hbw2.cell (p := ⟨w.heap.size, 0, none⟩) (by dsimp only; (try simp) <;> omega) (by dsimp only; omega)]; first | assumption | (rw [World.cell?_alloc_past _ _ _ (by omega)]; assumption) | (simp [go_sem]; done)
  have f00w2 : w2.frozen? ⟨w.heap.size, 0, none⟩ = false := by rw [hbw2.frozen (p := ⟨w.heap.size, 0, none⟩) (by dsimp only; (try simp) <;> omega) (by dsimp only; omega)]; first | assumption | (rw [((Below.refl _ _).alloc (Nat.le_refl _) _).frozen (by dsimp only; omega)]; assumption) | (simp [go_sem]; done)
  have x01w2 : w2.cell? ⟨w.heap.size, 1, none⟩ = some (.int .i64 0) := by rw [hbw2.cell (p := ⟨w.heap.size, 1, none⟩) (by dsimp only; (try simp) <;> omega) (by dsimp only; omega)]; first | assumption | (rw [World.cell?_alloc_past _ _ _ (by omega)]; assumption) | (simp [go_sem]; done)
  have f01w2 : w2.frozen? ⟨w.heap.size, 1, none⟩ = false := by rw [hbw2.frozen (p := ⟨w.heap.size, 1, none⟩) (by dsimp only; (try simp) <;> omega) (by dsimp only; omega)]; first | assumption | (rw [((Below.refl _ _).alloc (Nat.le_refl _) _).frozen (by dsimp only; omega)]; assumption) | (simp [go_sem]; done)
  have x10w2 : w2.cell? ⟨w.heap.size + 1, 0, none⟩ = some (.int .i64 0) := by rw [hbw2.cell (p := ⟨w.heap.size + 1, 0, none⟩) (by dsimp only; (try simp) <;> omega) (by dsimp only; omega)]; first | assumption | (rw [World.cell?_alloc_past _ _ _ (by omega)]; assumption) | (simp [go_sem]; done)
  have f10w2 : w2.frozen? ⟨w.heap.size + 1, 0, none⟩ = false := by rw [hbw2.frozen (p := ⟨w.heap.size + 1, 0, none⟩) (by dsimp only; (try simp) <;> omega) (by dsimp only; omega)]; first | assumption | (rw [((Below.refl _ _).alloc (Nat.le_refl _) _).frozen (by dsimp only; omega)]; assumption) | (simp [go_sem]; done)
  have x11w2 : w2.cell? ⟨w.heap.size + 1, 1, none⟩ = some (.int .i64 0) := by rw [hbw2.cell (p := ⟨w.heap.size + 1, 1, none⟩) (by dsimp only; (try simp) <;> omega) (by dsimp only; omega)]; first | assumption | (rw [World.cell?_alloc_past _ _ _ (by omega)]; assumption) | (simp [go_sem]; done)
  have f11w2 : w2.frozen? ⟨w.heap.size + 1, 1, none⟩ = false := by rw [hbw2.frozen (p := ⟨w.heap.size + 1, 1, none⟩) (by dsimp only; (try simp) <;> omega) (by dsimp only; omega)]; first | assumption | (rw [((Below.refl _ _).alloc (Nat.le_refl _) _).frozen (by dsimp only; omega)]; assumption) | (simp [go_sem]; done)
  clear x00w1 f00w1 x01w1 f01w1 x10w1 f10w1 x11w1 f11w1
  have hB2 : Below w.heap.size w w2 := hB1.trans (hbw2.below (by omega) (by omega))
  clear hbw2 hR1 hB1
  go_wp2_with fail
  refine (val_any (w.heap.size + 1 + 1) p2 _ (hR2.below ((Below.refl _ _).alloc (Nat.le_refl _) _)) (by omega)).mono ?_
  rintro e w3 ⟨l, m, p3, rfl, hlm, hbw3, hp3, hR3⟩
  have hzw3 := hbw3.size
  try simp at hzw3
  have x00w3 : w3.cell? ⟨w.heap.size, 0, none⟩ = some (.int .i64 0) := by rw [hbw3.cell (p := ⟨w.heap.size, 0, none⟩) (by dsimp only; (try simp) <;> omega) (by dsimp only; omega)]; first | assumption | (rw [World.cell?_alloc_past _ _ _ (by omega)]; assumption) | (simp [go_sem]; done)
  have f00w3 : w3.frozen? ⟨w.heap.size, 0, none⟩ = false := by rw [hbw3.frozen (p := ⟨w.heap.size, 0, none⟩) (by dsimp only; (try simp) <;> omega) (by dsimp only; omega)]; first | assumption | (rw [((Below.refl _ _).alloc (Nat.le_refl _) _).frozen (by dsimp only; omega)]; assumption) | (simp [go_sem]; done)
  have x01w3 : w3.cell? ⟨w.heap.size, 1, none⟩ = some (.int .i64 0) := by rw [hbw3.cell (p := ⟨w.heap.size, 1, none⟩) (by dsimp only; (try simp) <;> omega) (by dsimp only; omega)]; first | assumption | (rw [World.cell?_alloc_past _ _ _ (by omega)]; assumption) | (simp [go_sem]; done)
  have f01w3 : w3.frozen? ⟨w.heap.size, 1, none⟩ = false := by rw [hbw3.frozen (p := ⟨w.heap.size, 1, none⟩) (by dsimp only; (try simp) <;> omega) (by dsimp only; omega)]; first | assumption | (rw [((Below.refl _ _).alloc (Nat.le_refl _) _).frozen (by dsimp only; omega)]; assumption) | (simp [go_sem]; done)
  have x10w3 : w3.cell? ⟨w.heap.size + 1, 0, none⟩ = some (.int .i64 0) := by rw [hbw3.cell (p := ⟨w.heap.size + 1, 0, none⟩) (by dsimp only; (try simp) <;> omega) (by dsimp only; omega)]; first | assumption | (rw [World.cell?_alloc_past _ _ _ (by omega)]; assumption) | (simp [go_sem]; done)
  have f10w3 : w3.frozen? ⟨w.heap.size + 1, 0, none⟩ = false := by rw [hbw3.frozen (p := ⟨w.heap.size + 1, 0, none⟩) (by dsimp only; (try simp) <;> omega) (by dsimp only; omega)]; first | assumption | (rw [((Below.refl _ _).alloc (Nat.le_refl _) _).frozen (by dsimp only; omega)]; assumption) | (simp [go_sem]; done)
  have x11w3 : w3.cell? ⟨w.heap.size + 1, 1, none⟩ = some (.int .i64 0) := by rw [hbw3.cell (p := ⟨w.heap.size + 1, 1, none⟩) (by dsimp only; (try simp) <;> omega) (by dsimp only; omega)]; first | assumption | (rw [World.cell?_alloc_past _ _ _ (by omega)]; assumption) | (simp [go_sem]; done)
  have f11w3 : w3.frozen? ⟨w.heap.size + 1, 1, none⟩ = false := by rw [hbw3.frozen (p := ⟨w.heap.size + 1, 1, none⟩) (by dsimp only; (try simp) <;> omega) (by dsimp only; omega)]; first | assumption | (rw [((Below.refl _ _).alloc (Nat.le_refl _) _).frozen (by dsimp only; omega)]; assumption) | (simp [go_sem]; done)
  have x20w3 : w3.cell? ⟨w2.heap.size, 0, none⟩ = some (.int .i64 k) := by rw [hbw3.cell (p := ⟨w2.heap.size, 0, none⟩) (by dsimp only; (try simp) <;> omega) (by dsimp only; omega)]; first | assumption | (rw [World.cell?_alloc_past _ _ _ (by omega)]; assumption) | (simp [go_sem]; done)
  have f20w3 : w3.frozen? ⟨w2.heap.size, 0, none⟩ = false := by rw [hbw3.frozen (p := ⟨w2.heap.size, 0, none⟩) (by dsimp only; (try simp) <;> omega) (by dsimp only; omega)]; first | assumption | (rw [((Below.refl _ _).alloc (Nat.le_refl _) _).frozen (by dsimp only; omega)]; assumption) | (simp [go_sem]; done)
  have x21w3 : w3.cell? ⟨w2.heap.size, 1, none⟩ = some (.int .i64 n) := by rw [hbw3.cell (p := ⟨w2.heap.size, 1, none⟩) (by dsimp only; (try simp) <;> omega) (by dsimp only; omega)]; first | assumption | (rw [World.cell?_alloc_past _ _ _ (by omega)]; assumption) | (simp [go_sem]; done)
  have f21w3 : w3.frozen? ⟨w2.heap.size, 1, none⟩ = false := by rw [hbw3.frozen (p := ⟨w2.heap.size, 1, none⟩) (by dsimp only; (try simp) <;> omega) (by dsimp only; omega)]; first | assumption | (rw [((Below.refl _ _).alloc (Nat.le_refl _) _).frozen (by dsimp only; omega)]; assumption) | (simp [go_sem]; done)
  clear x00w2 f00w2 x01w2 f01w2 x10w2 f10w2 x11w2 f11w2
  have hB3 : Below w.heap.size w w3 := (hB2.alloc (by omega) _).trans (hbw3.below (by omega) (by simp; omega))
  clear hbw3 hR2 hB2
  go_wp2_with fail
  refine (pick_any (w.heap.size + 1 + 1) p3 3 _ (hR3.below ((Below.refl _ _).alloc (Nat.le_refl _) _)) (by omega) (by omega) (by omega)).mono ?_
  rintro e w4 ⟨r, rfl, hr, hbw4, hR4⟩
  have hzw4 := hbw4.size
  try simp at hzw4
  have x00w4 : w4.cell? ⟨w.heap.size, 0, none⟩ = some (.int .i64 0) := by rw [hbw4.cell (p := ⟨w.heap.size, 0, none⟩) (by dsimp only; (try simp) <;> omega) (by dsimp only; omega)]; first | assumption | (rw [World.cell?_alloc_past _ _ _ (by omega)]; assumption) | (simp [go_sem]; done)
  have f00w4 : w4.frozen? ⟨w.heap.size, 0, none⟩ = false := by rw [hbw4.frozen (p := ⟨w.heap.size, 0, none⟩) (by dsimp only; (try simp) <;> omega) (by dsimp only; omega)]; first | assumption | (rw [((Below.refl _ _).alloc (Nat.le_refl _) _).frozen (by dsimp only; omega)]; assumption) | (simp [go_sem]; done)
  have x01w4 : w4.cell? ⟨w.heap.size, 1, none⟩ = some (.int .i64 0) := by rw [hbw4.cell (p := ⟨w.heap.size, 1, none⟩) (by dsimp only; (try simp) <;> omega) (by dsimp only; omega)]; first | assumption | (rw [World.cell?_alloc_past _ _ _ (by omega)]; assumption) | (simp [go_sem]; done)
  have f01w4 : w4.frozen? ⟨w.heap.size, 1, none⟩ = false := by rw [hbw4.frozen (p := ⟨w.heap.size, 1, none⟩) (by dsimp only; (try simp) <;> omega) (by dsimp only; omega)]; first | assumption | (rw [((Below.refl _ _).alloc (Nat.le_refl _) _).frozen (by dsimp only; omega)]; assumption) | (simp [go_sem]; done)
  have x10w4 : w4.cell? ⟨w.heap.size + 1, 0, none⟩ = some (.int .i64 0) := by rw [hbw4.cell (p := ⟨w.heap.size + 1, 0, none⟩) (by dsimp only; (try simp) <;> omega) (by dsimp only; omega)]; first | assumption | (rw [World.cell?_alloc_past _ _ _ (by omega)]; assumption) | (simp [go_sem]; done)
  have f10w4 : w4.frozen? ⟨w.heap.size + 1, 0, none⟩ = false := by rw [hbw4.frozen (p := ⟨w.heap.size + 1, 0, none⟩) (by dsimp only; (try simp) <;> omega) (by dsimp only; omega)]; first | assumption | (rw [((Below.refl _ _).alloc (Nat.le_refl _) _).frozen (by dsimp only; omega)]; assumption) | (simp [go_sem]; done)
  have x11w4 : w4.cell? ⟨w.heap.size + 1, 1, none⟩ = some (.int .i64 0) := by rw [hbw4.cell (p := ⟨w.heap.size + 1, 1, none⟩) (by dsimp only; (try simp) <;> omega) (by dsimp only; omega)]; first | assumption | (rw [World.cell?_alloc_past _ _ _ (by omega)]; assumption) | (simp [go_sem]; done)
  have f11w4 : w4.frozen? ⟨w.heap.size + 1, 1, none⟩ = false := by rw [hbw4.frozen (p := ⟨w.heap.size + 1, 1, none⟩) (by dsimp only; (try simp) <;> omega) (by dsimp only; omega)]; first | assumption | (rw [((Below.refl _ _).alloc (Nat.le_refl _) _).frozen (by dsimp only; omega)]; assumption) | (simp [go_sem]; done)
  have x20w4 : w4.cell? ⟨w2.heap.size, 0, none⟩ = some (.int .i64 k) := by rw [hbw4.cell (p := ⟨w2.heap.size, 0, none⟩) (by dsimp only; (try simp) <;> omega) (by dsimp only; omega)]; first | assumption | (rw [World.cell?_alloc_past _ _ _ (by omega)]; assumption) | (simp [go_sem]; done)
  have f20w4 : w4.frozen? ⟨w2.heap.size, 0, none⟩ = false := by rw [hbw4.frozen (p := ⟨w2.heap.size, 0, none⟩) (by dsimp only; (try simp) <;> omega) (by dsimp only; omega)]; first | assumption | (rw [((Below.refl _ _).alloc (Nat.le_refl _) _).frozen (by dsimp only; omega)]; assumption) | (simp [go_sem]; done)
  have x21w4 : w4.cell? ⟨w2.heap.size, 1, none⟩ = some (.int .i64 n) := by rw [hbw4.cell (p := ⟨w2.heap.size, 1, none⟩) (by dsimp only; (try simp) <;> omega) (by dsimp only; omega)]; first | assumption | (rw [World.cell?_alloc_past _ _ _ (by omega)]; assumption) | (simp [go_sem]; done)
  have f21w4 : w4.frozen? ⟨w2.heap.size, 1, none⟩ = false := by rw [hbw4.frozen (p := ⟨w2.heap.size, 1, none⟩) (by dsimp only; (try simp) <;> omega) (by dsimp only; omega)]; first | assumption | (rw [((Below.refl _ _).alloc (Nat.le_refl _) _).frozen (by dsimp only; omega)]; assumption) | (simp [go_sem]; done)
  have x30w4 : w4.cell? ⟨w3.heap.size, 0, none⟩ = some (.int .i64 l) := by rw [hbw4.cell (p := ⟨w3.heap.size, 0, none⟩) (by dsimp only; (try simp) <;> omega) (by dsimp only; omega)]; first | assumption | (rw [World.cell?_alloc_past _ _ _ (by omega)]; assumption) | (simp [go_sem]; done)
  have f30w4 : w4.frozen? ⟨w3.heap.size, 0, none⟩ = false := by rw [hbw4.frozen (p := ⟨w3.heap.size, 0, none⟩) (by dsimp only; (try simp) <;> omega) (by dsimp only; omega)]; first | assumption | (rw [((Below.refl _ _).alloc (Nat.le_refl _) _).frozen (by dsimp only; omega)]; assumption) | (simp [go_sem]; done)
  have x31w4 : w4.cell? ⟨w3.heap.size, 1, none⟩ = some (.int .i64 m) := by rw [hbw4.cell (p := ⟨w3.heap.size, 1, none⟩) (by dsimp only; (try simp) <;> omega) (by dsimp only; omega)]; first | assumption | (rw [World.cell?_alloc_past _ _ _ (by omega)]; assumption) | (simp [go_sem]; done)
  have f31w4 : w4.frozen? ⟨w3.heap.size, 1, none⟩ = false := by rw [hbw4.frozen (p := ⟨w3.heap.size, 1, none⟩) (by dsimp only; (try simp) <;> omega) (by dsimp only; omega)]; first | assumption | (rw [((Below.refl _ _).alloc (Nat.le_refl _) _).frozen (by dsimp only; omega)]; assumption) | (simp [go_sem]; done)
  clear x00w3 f00w3 x01w3 f01w3 x10w3 f10w3 x11w3 f11w3 x20w3 f20w3 x21w3 f21w3
  have hB4 : Below w.heap.size w w4 := (hB3.alloc (by omega) _).trans (hbw4.below (by omega) (by simp; omega))
  clear hbw4 hR3 hB3
  generalize w2.heap.size = b5 at *
  generalize w3.heap.size = b6 at *
  have n1 : b5 ≠ w.heap.size := by omega
  have n2 : b5 ≠ w.heap.size + 1 := by omega
  have n3 : b6 ≠ w.heap.size := by omega
  have n4 : b6 ≠ w.heap.size + 1 := by omega
  have n5 : b5 ≠ b6 := by omega
  have hB4' : ∀ v1 v2 v3 v4, Below w.heap.size w ((((w4.setCell ⟨w.heap.size, 0, none⟩ v1).setCell ⟨w.heap.size, 1, none⟩ v2).setCell ⟨w.heap.size + 1, 0, none⟩ v3).setCell ⟨w.heap.size + 1, 1, none⟩ v4) := fun _ _ _ _ => (((hB4.setCell (by dsimp only; omega) _).setCell (by dsimp only; omega) _).setCell (by dsimp only; omega) _).setCell (by dsimp only; omega) _
  by_cases hr0 : r = 0
  · subst hr0
    go_upto_region 7 with (fail)
    go_region
    go_wp2_with fail
    exact bodyPost_ret (v := .tuple #[.agg #[.int .i64 k, .int .i64 n], .agg #[.int .i64 l, .int .i64 m]]) (by simp [results, Try.results11, go_sem, x00w4, x01w4, x10w4, x11w4]) rfl
      ⟨k, n, l, m, rfl, by omega, (hB4' _ _ _ _).drew⟩
  · have hr1 : (0 : Int) < r := by omega
    go_wp2_with fail
    refine (pick_any (w.heap.size + 1 + 1) (p3 + 1) 120 _ hR4 (by omega) (by omega) (by omega)).mono ?_
    rintro e w5 ⟨q, rfl, hq, hbw5, hR5⟩
    have hzw5 := hbw5.size
    try simp at hzw5
    have x00w5 : w5.cell? ⟨w.heap.size, 0, none⟩ = some (.int .i64 0) := by rw [hbw5.cell (p := ⟨w.heap.size, 0, none⟩) (by dsimp only; (try simp) <;> omega) (by dsimp only; omega)]; first | assumption | (rw [World.cell?_alloc_past _ _ _ (by omega)]; assumption) | (simp [go_sem]; done)
    have f00w5 : w5.frozen? ⟨w.heap.size, 0, none⟩ = false := by rw [hbw5.frozen (p := ⟨w.heap.size, 0, none⟩) (by dsimp only; (try simp) <;> omega) (by dsimp only; omega)]; first | assumption | (rw [((Below.refl _ _).alloc (Nat.le_refl _) _).frozen (by dsimp only; omega)]; assumption) | (simp [go_sem]; done)
    have x01w5 : w5.cell? ⟨w.heap.size, 1, none⟩ = some (.int .i64 0) := by rw [hbw5.cell (p := ⟨w.heap.size, 1, none⟩) (by dsimp only; (try simp) <;> omega) (by dsimp only; omega)]; first | assumption | (rw [World.cell?_alloc_past _ _ _ (by omega)]; assumption) | (simp [go_sem]; done)
    have f01w5 : w5.frozen? ⟨w.heap.size, 1, none⟩ = false := by rw [hbw5.frozen (p := ⟨w.heap.size, 1, none⟩) (by dsimp only; (try simp) <;> omega) (by dsimp only; omega)]; first | assumption | (rw [((Below.refl _ _).alloc (Nat.le_refl _) _).frozen (by dsimp only; omega)]; assumption) | (simp [go_sem]; done)
    have x10w5 : w5.cell? ⟨w.heap.size + 1, 0, none⟩ = some (.int .i64 0) := by rw [hbw5.cell (p := ⟨w.heap.size + 1, 0, none⟩) (by dsimp only; (try simp) <;> omega) (by dsimp only; omega)]; first | assumption | (rw [World.cell?_alloc_past _ _ _ (by omega)]; assumption) | (simp [go_sem]; done)
    have f10w5 : w5.frozen? ⟨w.heap.size + 1, 0, none⟩ = false := by rw [hbw5.frozen (p := ⟨w.heap.size + 1, 0, none⟩) (by dsimp only; (try simp) <;> omega) (by dsimp only; omega)]; first | assumption | (rw [((Below.refl _ _).alloc (Nat.le_refl _) _).frozen (by dsimp only; omega)]; assumption) | (simp [go_sem]; done)
    have x11w5 : w5.cell? ⟨w.heap.size + 1, 1, none⟩ = some (.int .i64 0) := by rw [hbw5.cell (p := ⟨w.heap.size + 1, 1, none⟩) (by dsimp only; (try simp) <;> omega) (by dsimp only; omega)]; first | assumption | (rw [World.cell?_alloc_past _ _ _ (by omega)]; assumption) | (simp [go_sem]; done)
    have f11w5 : w5.frozen? ⟨w.heap.size + 1, 1, none⟩ = false := by rw [hbw5.frozen (p := ⟨w.heap.size + 1, 1, none⟩) (by dsimp only; (try simp) <;> omega) (by dsimp only; omega)]; first | assumption | (rw [((Below.refl _ _).alloc (Nat.le_refl _) _).frozen (by dsimp only; omega)]; assumption) | (simp [go_sem]; done)
    have x20w5 : w5.cell? ⟨b5, 0, none⟩ = some (.int .i64 k) := by rw [hbw5.cell (p := ⟨b5, 0, none⟩) (by dsimp only; (try simp) <;> omega) (by dsimp only; omega)]; first | assumption | (rw [World.cell?_alloc_past _ _ _ (by omega)]; assumption) | (simp [go_sem]; done)
    have f20w5 : w5.frozen? ⟨b5, 0, none⟩ = false := by rw [hbw5.frozen (p := ⟨b5, 0, none⟩) (by dsimp only; (try simp) <;> omega) (by dsimp only; omega)]; first | assumption | (rw [((Below.refl _ _).alloc (Nat.le_refl _) _).frozen (by dsimp only; omega)]; assumption) | (simp [go_sem]; done)
    have x21w5 : w5.cell? ⟨b5, 1, none⟩ = some (.int .i64 n) := by rw [hbw5.cell (p := ⟨b5, 1, none⟩) (by dsimp only; (try simp) <;> omega) (by dsimp only; omega)]; first | assumption | (rw [World.cell?_alloc_past _ _ _ (by omega)]; assumption) | (simp [go_sem]; done)
    have f21w5 : w5.frozen? ⟨b5, 1, none⟩ = false := by rw [hbw5.frozen (p := ⟨b5, 1, none⟩) (by dsimp only; (try simp) <;> omega) (by dsimp only; omega)]; first | assumption | (rw [((Below.refl _ _).alloc (Nat.le_refl _) _).frozen (by dsimp only; omega)]; assumption) | (simp [go_sem]; done)
    have x30w5 : w5.cell? ⟨b6, 0, none⟩ = some (.int .i64 l) := by rw [hbw5.cell (p := ⟨b6, 0, none⟩) (by dsimp only; (try simp) <;> omega) (by dsimp only; omega)]; first | assumption | (rw [World.cell?_alloc_past _ _ _ (by omega)]; assumption) | (simp [go_sem]; done)
    have f30w5 : w5.frozen? ⟨b6, 0, none⟩ = false := by rw [hbw5.frozen (p := ⟨b6, 0, none⟩) (by dsimp only; (try simp) <;> omega) (by dsimp only; omega)]; first | assumption | (rw [((Below.refl _ _).alloc (Nat.le_refl _) _).frozen (by dsimp only; omega)]; assumption) | (simp [go_sem]; done)
    have x31w5 : w5.cell? ⟨b6, 1, none⟩ = some (.int .i64 m) := by rw [hbw5.cell (p := ⟨b6, 1, none⟩) (by dsimp only; (try simp) <;> omega) (by dsimp only; omega)]; first | assumption | (rw [World.cell?_alloc_past _ _ _ (by omega)]; assumption) | (simp [go_sem]; done)
    have f31w5 : w5.frozen? ⟨b6, 1, none⟩ = false := by rw [hbw5.frozen (p := ⟨b6, 1, none⟩) (by dsimp only; (try simp) <;> omega) (by dsimp only; omega)]; first | assumption | (rw [((Below.refl _ _).alloc (Nat.le_refl _) _).frozen (by dsimp only; omega)]; assumption) | (simp [go_sem]; done)
    clear x00w4 f00w4 x01w4 f01w4 x10w4 f10w4 x11w4 f11w4 x20w4 f20w4 x21w4 f21w4 x30w4 f30w4 x31w4 f31w4
    have hB5 : Below w.heap.size w w5 := hB4.trans (hbw5.below (by omega) (by omega))
    have hc5 : b5 < w5.heap.size := by omega
    have hc6 : b6 < w5.heap.size := by omega
    clear hbw5 hR4 hB4' hB4
    have hRv : Rd (w.heap.size + 1 + 1) (p3 + 1 + 1) ((w5.setCell ⟨b5, 0, none⟩ (.int .i64 1)).setCell ⟨b5, 1, none⟩ (.int .i64 (q - 60))) := hR5.but (C := b5) ((But.setCell (R := b5) (But.refl _ _) (p := ⟨b5, 0, none⟩) rfl _).setCell (p := ⟨b5, 1, none⟩) rfl _) (by omega)
    have hBv : Below w.heap.size w ((w5.setCell ⟨b5, 0, none⟩ (.int .i64 1)).setCell ⟨b5, 1, none⟩ (.int .i64 (q - 60))) := (hB5.setCell (by dsimp only; omega) _).setCell (by dsimp only; omega) _
    have hsv : w5.heap.size ≤ ((w5.setCell ⟨b5, 0, none⟩ (.int .i64 1)).setCell ⟨b5, 1, none⟩ (.int .i64 (q - 60))).heap.size := by simp [World.setCell]
    have x00v5 : ((w5.setCell ⟨b5, 0, none⟩ (.int .i64 1)).setCell ⟨b5, 1, none⟩ (.int .i64 (q - 60))).cell? ⟨w.heap.size, 0, none⟩ = some (.int .i64 0) := by simp [go_sem, x00w5]
    have f00v5 : ((w5.setCell ⟨b5, 0, none⟩ (.int .i64 1)).setCell ⟨b5, 1, none⟩ (.int .i64 (q - 60))).frozen? ⟨w.heap.size, 0, none⟩ = false := by simp [go_sem, f00w5]
    have x01v5 : ((w5.setCell ⟨b5, 0, none⟩ (.int .i64 1)).setCell ⟨b5, 1, none⟩ (.int .i64 (q - 60))).cell? ⟨w.heap.size, 1, none⟩ = some (.int .i64 0) := by simp [go_sem, x01w5]
    have f01v5 : ((w5.setCell ⟨b5, 0, none⟩ (.int .i64 1)).setCell ⟨b5, 1, none⟩ (.int .i64 (q - 60))).frozen? ⟨w.heap.size, 1, none⟩ = false := by simp [go_sem, f01w5]
    have x10v5 : ((w5.setCell ⟨b5, 0, none⟩ (.int .i64 1)).setCell ⟨b5, 1, none⟩ (.int .i64 (q - 60))).cell? ⟨w.heap.size + 1, 0, none⟩ = some (.int .i64 0) := by simp [go_sem, x10w5]
    have f10v5 : ((w5.setCell ⟨b5, 0, none⟩ (.int .i64 1)).setCell ⟨b5, 1, none⟩ (.int .i64 (q - 60))).frozen? ⟨w.heap.size + 1, 0, none⟩ = false := by simp [go_sem, f10w5]
    have x11v5 : ((w5.setCell ⟨b5, 0, none⟩ (.int .i64 1)).setCell ⟨b5, 1, none⟩ (.int .i64 (q - 60))).cell? ⟨w.heap.size + 1, 1, none⟩ = some (.int .i64 0) := by simp [go_sem, x11w5]
    have f11v5 : ((w5.setCell ⟨b5, 0, none⟩ (.int .i64 1)).setCell ⟨b5, 1, none⟩ (.int .i64 (q - 60))).frozen? ⟨w.heap.size + 1, 1, none⟩ = false := by simp [go_sem, f11w5]
    have x20v5 : ((w5.setCell ⟨b5, 0, none⟩ (.int .i64 1)).setCell ⟨b5, 1, none⟩ (.int .i64 (q - 60))).cell? ⟨b5, 0, none⟩ = some (.int .i64 1) := by simp [go_sem, x20w5]
    have f20v5 : ((w5.setCell ⟨b5, 0, none⟩ (.int .i64 1)).setCell ⟨b5, 1, none⟩ (.int .i64 (q - 60))).frozen? ⟨b5, 0, none⟩ = false := by simp [go_sem, f20w5]
    have x21v5 : ((w5.setCell ⟨b5, 0, none⟩ (.int .i64 1)).setCell ⟨b5, 1, none⟩ (.int .i64 (q - 60))).cell? ⟨b5, 1, none⟩ = some (.int .i64 (q - 60)) := by simp [go_sem, x21w5]
    have f21v5 : ((w5.setCell ⟨b5, 0, none⟩ (.int .i64 1)).setCell ⟨b5, 1, none⟩ (.int .i64 (q - 60))).frozen? ⟨b5, 1, none⟩ = false := by simp [go_sem, f21w5]
    have x30v5 : ((w5.setCell ⟨b5, 0, none⟩ (.int .i64 1)).setCell ⟨b5, 1, none⟩ (.int .i64 (q - 60))).cell? ⟨b6, 0, none⟩ = some (.int .i64 l) := by simp [go_sem, x30w5]
    have f30v5 : ((w5.setCell ⟨b5, 0, none⟩ (.int .i64 1)).setCell ⟨b5, 1, none⟩ (.int .i64 (q - 60))).frozen? ⟨b6, 0, none⟩ = false := by simp [go_sem, f30w5]
    have x31v5 : ((w5.setCell ⟨b5, 0, none⟩ (.int .i64 1)).setCell ⟨b5, 1, none⟩ (.int .i64 (q - 60))).cell? ⟨b6, 1, none⟩ = some (.int .i64 m) := by simp [go_sem, x31w5]
    have f31v5 : ((w5.setCell ⟨b5, 0, none⟩ (.int .i64 1)).setCell ⟨b5, 1, none⟩ (.int .i64 (q - 60))).frozen? ⟨b6, 1, none⟩ = false := by simp [go_sem, f31w5]
    go_wp2_with fail
    clear x00w5 f00w5 x01w5 f01w5 x10w5 f10w5 x11w5 f11w5 x20w5 f20w5 x21w5 f21w5 x30w5 f30w5 x31w5 f31w5
    generalize ((w5.setCell ⟨b5, 0, none⟩ (.int .i64 1)).setCell ⟨b5, 1, none⟩ (.int .i64 (q - 60))) = v5 at *
    refine (pick_any (w.heap.size + 1 + 1) (p3 + 1 + 1) 120 _ hRv (by omega) (by omega) (by omega)).mono ?_
    rintro e w6 ⟨t, rfl, ht, hbw6, hR6⟩
    have hzw6 := hbw6.size
    try simp at hzw6
    have x00w6 : w6.cell? ⟨w.heap.size, 0, none⟩ = some (.int .i64 0) := by rw [hbw6.cell (p := ⟨w.heap.size, 0, none⟩) (by dsimp only; (try simp) <;> omega) (by dsimp only; omega)]; first | assumption | (rw [World.cell?_alloc_past _ _ _ (by omega)]; assumption) | (simp [go_sem]; done)
    have f00w6 : w6.frozen? ⟨w.heap.size, 0, none⟩ = false := by rw [hbw6.frozen (p := ⟨w.heap.size, 0, none⟩) (by dsimp only; (try simp) <;> omega) (by dsimp only; omega)]; first | assumption | (rw [((Below.refl _ _).alloc (Nat.le_refl _) _).frozen (by dsimp only; omega)]; assumption) | (simp [go_sem]; done)
    have x01w6 : w6.cell? ⟨w.heap.size, 1, none⟩ = some (.int .i64 0) := by rw [hbw6.cell (p := ⟨w.heap.size, 1, none⟩) (by dsimp only; (try simp) <;> omega) (by dsimp only; omega)]; first | assumption | (rw [World.cell?_alloc_past _ _ _ (by omega)]; assumption) | (simp [go_sem]; done)
    have f01w6 : w6.frozen? ⟨w.heap.size, 1, none⟩ = false := by rw [hbw6.frozen (p := ⟨w.heap.size, 1, none⟩) (by dsimp only; (try simp) <;> omega) (by dsimp only; omega)]; first | assumption | (rw [((Below.refl _ _).alloc (Nat.le_refl _) _).frozen (by dsimp only; omega)]; assumption) | (simp [go_sem]; done)
    have x10w6 : w6.cell? ⟨w.heap.size + 1, 0, none⟩ = some (.int .i64 0) := by rw [hbw6.cell (p := ⟨w.heap.size + 1, 0, none⟩) (by dsimp only; (try simp) <;> omega) (by dsimp only; omega)]; first | assumption | (rw [World.cell?_alloc_past _ _ _ (by omega)]; assumption) | (simp [go_sem]; done)
    have f10w6 : w6.frozen? ⟨w.heap.size + 1, 0, none⟩ = false := by rw [hbw6.frozen (p := ⟨w.heap.size + 1, 0, none⟩) (by dsimp only; (try simp) <;> omega) (by dsimp only; omega)]; first | assumption | (rw [((Below.refl _ _).alloc (Nat.le_refl _) _).frozen (by dsimp only; omega)]; assumption) | (simp [go_sem]; done)
    have x11w6 : w6.cell? ⟨w.heap.size + 1, 1, none⟩ = some (.int .i64 0) := by rw [hbw6.cell (p := ⟨w.heap.size + 1, 1, none⟩) (by dsimp only; (try simp) <;> omega) (by dsimp only; omega)]; first | assumption | (rw [World.cell?_alloc_past _ _ _ (by omega)]; assumption) | (simp [go_sem]; done)
    have f11w6 : w6.frozen? ⟨w.heap.size + 1, 1, none⟩ = false := by rw [hbw6.frozen (p := ⟨w.heap.size + 1, 1, none⟩) (by dsimp only; (try simp) <;> omega) (by dsimp only; omega)]; first | assumption | (rw [((Below.refl _ _).alloc (Nat.le_refl _) _).frozen (by dsimp only; omega)]; assumption) | (simp [go_sem]; done)
    have x20w6 : w6.cell? ⟨b5, 0, none⟩ = some (.int .i64 1) := by rw [hbw6.cell (p := ⟨b5, 0, none⟩) (by dsimp only; (try simp) <;> omega) (by dsimp only; omega)]; first | assumption | (rw [World.cell?_alloc_past _ _ _ (by omega)]; assumption) | (simp [go_sem]; done)
    have f20w6 : w6.frozen? ⟨b5, 0, none⟩ = false := by rw [hbw6.frozen (p := ⟨b5, 0, none⟩) (by dsimp only; (try simp) <;> omega) (by dsimp only; omega)]; first | assumption | (rw [((Below.refl _ _).alloc (Nat.le_refl _) _).frozen (by dsimp only; omega)]; assumption) | (simp [go_sem]; done)
    have x21w6 : w6.cell? ⟨b5, 1, none⟩ = some (.int .i64 (q - 60)) := by rw [hbw6.cell (p := ⟨b5, 1, none⟩) (by dsimp only; (try simp) <;> omega) (by dsimp only; omega)]; first | assumption | (rw [World.cell?_alloc_past _ _ _ (by omega)]; assumption) | (simp [go_sem]; done)
    have f21w6 : w6.frozen? ⟨b5, 1, none⟩ = false := by rw [hbw6.frozen (p := ⟨b5, 1, none⟩) (by dsimp only; (try simp) <;> omega) (by dsimp only; omega)]; first | assumption | (rw [((Below.refl _ _).alloc (Nat.le_refl _) _).frozen (by dsimp only; omega)]; assumption) | (simp [go_sem]; done)
    have x30w6 : w6.cell? ⟨b6, 0, none⟩ = some (.int .i64 l) := by rw [hbw6.cell (p := ⟨b6, 0, none⟩) (by dsimp only; (try simp) <;> omega) (by dsimp only; omega)]; first | assumption | (rw [World.cell?_alloc_past _ _ _ (by omega)]; assumption) | (simp [go_sem]; done)
    have f30w6 : w6.frozen? ⟨b6, 0, none⟩ = false := by rw [hbw6.frozen (p := ⟨b6, 0, none⟩) (by dsimp only; (try simp) <;> omega) (by dsimp only; omega)]; first | assumption | (rw [((Below.refl _ _).alloc (Nat.le_refl _) _).frozen (by dsimp only; omega)]; assumption) | (simp [go_sem]; done)
    have x31w6 : w6.cell? ⟨b6, 1, none⟩ = some (.int .i64 m) := by rw [hbw6.cell (p := ⟨b6, 1, none⟩) (by dsimp only; (try simp) <;> omega) (by dsimp only; omega)]; first | assumption | (rw [World.cell?_alloc_past _ _ _ (by omega)]; assumption) | (simp [go_sem]; done)
    have f31w6 : w6.frozen? ⟨b6, 1, none⟩ = false := by rw [hbw6.frozen (p := ⟨b6, 1, none⟩) (by dsimp only; (try simp) <;> omega) (by dsimp only; omega)]; first | assumption | (rw [((Below.refl _ _).alloc (Nat.le_refl _) _).frozen (by dsimp only; omega)]; assumption) | (simp [go_sem]; done)
    clear x00v5 f00v5 x01v5 f01v5 x10v5 f10v5 x11v5 f11v5 x20v5 f20v5 x21v5 f21v5 x30v5 f30v5 x31v5 f31v5
    have hB6 : Below w.heap.size w w6 := hBv.trans (hbw6.below (by omega) (by omega))
    clear hbw6 hRv hBv
    have hBu : Below w.heap.size w ((w6.setCell ⟨b6, 0, none⟩ (.int .i64 1)).setCell ⟨b6, 1, none⟩ (.int .i64 (t - 60))) := (hB6.setCell (by dsimp only; omega) _).setCell (by dsimp only; omega) _
    have x00v6 : ((w6.setCell ⟨b6, 0, none⟩ (.int .i64 1)).setCell ⟨b6, 1, none⟩ (.int .i64 (t - 60))).cell? ⟨w.heap.size, 0, none⟩ = some (.int .i64 0) := by simp [go_sem, x00w6]
    have f00v6 : ((w6.setCell ⟨b6, 0, none⟩ (.int .i64 1)).setCell ⟨b6, 1, none⟩ (.int .i64 (t - 60))).frozen? ⟨w.heap.size, 0, none⟩ = false := by simp [go_sem, f00w6]
    have x01v6 : ((w6.setCell ⟨b6, 0, none⟩ (.int .i64 1)).setCell ⟨b6, 1, none⟩ (.int .i64 (t - 60))).cell? ⟨w.heap.size, 1, none⟩ = some (.int .i64 0) := by simp [go_sem, x01w6]
    have f01v6 : ((w6.setCell ⟨b6, 0, none⟩ (.int .i64 1)).setCell ⟨b6, 1, none⟩ (.int .i64 (t - 60))).frozen? ⟨w.heap.size, 1, none⟩ = false := by simp [go_sem, f01w6]
    have x10v6 : ((w6.setCell ⟨b6, 0, none⟩ (.int .i64 1)).setCell ⟨b6, 1, none⟩ (.int .i64 (t - 60))).cell? ⟨w.heap.size + 1, 0, none⟩ = some (.int .i64 0) := by simp [go_sem, x10w6]
    have f10v6 : ((w6.setCell ⟨b6, 0, none⟩ (.int .i64 1)).setCell ⟨b6, 1, none⟩ (.int .i64 (t - 60))).frozen? ⟨w.heap.size + 1, 0, none⟩ = false := by simp [go_sem, f10w6]
    have x11v6 : ((w6.setCell ⟨b6, 0, none⟩ (.int .i64 1)).setCell ⟨b6, 1, none⟩ (.int .i64 (t - 60))).cell? ⟨w.heap.size + 1, 1, none⟩ = some (.int .i64 0) := by simp [go_sem, x11w6]
    have f11v6 : ((w6.setCell ⟨b6, 0, none⟩ (.int .i64 1)).setCell ⟨b6, 1, none⟩ (.int .i64 (t - 60))).frozen? ⟨w.heap.size + 1, 1, none⟩ = false := by simp [go_sem, f11w6]
    have x20v6 : ((w6.setCell ⟨b6, 0, none⟩ (.int .i64 1)).setCell ⟨b6, 1, none⟩ (.int .i64 (t - 60))).cell? ⟨b5, 0, none⟩ = some (.int .i64 1) := by simp [go_sem, x20w6]
    have f20v6 : ((w6.setCell ⟨b6, 0, none⟩ (.int .i64 1)).setCell ⟨b6, 1, none⟩ (.int .i64 (t - 60))).frozen? ⟨b5, 0, none⟩ = false := by simp [go_sem, f20w6]
    have x21v6 : ((w6.setCell ⟨b6, 0, none⟩ (.int .i64 1)).setCell ⟨b6, 1, none⟩ (.int .i64 (t - 60))).cell? ⟨b5, 1, none⟩ = some (.int .i64 (q - 60)) := by simp [go_sem, x21w6]
    have f21v6 : ((w6.setCell ⟨b6, 0, none⟩ (.int .i64 1)).setCell ⟨b6, 1, none⟩ (.int .i64 (t - 60))).frozen? ⟨b5, 1, none⟩ = false := by simp [go_sem, f21w6]
    have x30v6 : ((w6.setCell ⟨b6, 0, none⟩ (.int .i64 1)).setCell ⟨b6, 1, none⟩ (.int .i64 (t - 60))).cell? ⟨b6, 0, none⟩ = some (.int .i64 1) := by simp [go_sem, x30w6]
    have f30v6 : ((w6.setCell ⟨b6, 0, none⟩ (.int .i64 1)).setCell ⟨b6, 1, none⟩ (.int .i64 (t - 60))).frozen? ⟨b6, 0, none⟩ = false := by simp [go_sem, f30w6]
    have x31v6 : ((w6.setCell ⟨b6, 0, none⟩ (.int .i64 1)).setCell ⟨b6, 1, none⟩ (.int .i64 (t - 60))).cell? ⟨b6, 1, none⟩ = some (.int .i64 (t - 60)) := by simp [go_sem, x31w6]
    have f31v6 : ((w6.setCell ⟨b6, 0, none⟩ (.int .i64 1)).setCell ⟨b6, 1, none⟩ (.int .i64 (t - 60))).frozen? ⟨b6, 1, none⟩ = false := by simp [go_sem, f31w6]
    go_upto_region 7 with (fail)
    clear x00w6 f00w6 x01w6 f01w6 x10w6 f10w6 x11w6 f11w6 x20w6 f20w6 x21w6 f21w6 x30w6 f30w6 x31w6 f31w6
    generalize ((w6.setCell ⟨b6, 0, none⟩ (.int .i64 1)).setCell ⟨b6, 1, none⟩ (.int .i64 (t - 60))) = v6 at *
    go_region
    go_wp2_with fail
    exact bodyPost_ret (v := .tuple #[.agg #[.int .i64 1, .int .i64 (q - 60)], .agg #[.int .i64 1, .int .i64 (t - 60)]]) (by simp [results, Try.results11, go_sem, x00v6, x01v6, x10v6, x11v6]) rfl
      ⟨1, q - 60, 1, t - 60, rfl, by omega, ((((hBu.setCell (by dsimp only; omega) _).setCell (by dsimp only; omega) _).setCell (by dsimp only; omega) _).setCell (by dsimp only; omega) _).drew⟩
end Go.Proofs.Ytfgpmbeianbimaa
