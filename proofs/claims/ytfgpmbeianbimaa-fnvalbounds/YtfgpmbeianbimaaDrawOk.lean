/-
  What spec.DrawValOk and spec.DrawValText draw, over this translation: whatever the code, some value; nothing that was there turns.
-/
import Derived.Test.YtfgpmbeianbimaaVal
namespace Go.Proofs.Ytfgpmbeianbimaa
open Go.ChangeShapes Go.WideShapes Go.ChangeAt Go.RowKit Go.Joins
attribute [local go_sem ↓] Go.wp_at_zero Go.wp_at_succ
set_option maxHeartbeats 2000000 in
theorem drawOk_any (a : Option Addr) (len cap : Nat) (w : World) (h : Code0 w a len cap) :
    Calls Try.prog 19 #[.slice a len cap] w fun e w' => ∃ k n, e = .returned (.agg #[.int .i64 k, .int .i64 n]) ∧ (-100 ≤ k ∧ k ≤ 100 ∧ -100 ≤ n ∧ n ≤ 100) ∧ Below w.heap.size w w' := by
  go_enter Try.func19, Try.ntmps19
  go_wp2_with fail
  refine (open_any a len cap _ (h.below ((Below.refl _ _).alloc (Nat.le_refl _) _))).mono ?_
  rintro e w1 ⟨rfl, hbw1, hR1'⟩
  have hR1 : Rd (w.heap.size + 1) 0 w1 := by simpa using hR1'
  clear hR1'
  have hzw1 := hbw1.size
  try simp at hzw1
  have x00w1 : w1.cell? ⟨w.heap.size, 0, none⟩ = some (.int .i64 0) := by rw [hbw1.cell (p := ⟨w.heap.size, 0, none⟩) (by dsimp only; (try simp) <;> omega)]; first | assumption | (rw [World.cell?_alloc_past _ _ _ (by omega)]; assumption) | (simp [go_sem]; done)
  have f00w1 : w1.frozen? ⟨w.heap.size, 0, none⟩ = false := by rw [hbw1.frozen (p := ⟨w.heap.size, 0, none⟩) (by dsimp only; (try simp) <;> omega)]; first | assumption | (rw [((Below.refl _ _).alloc (Nat.le_refl _) _).frozen (by dsimp only; omega)]; assumption) | (simp [go_sem]; done)
  have x01w1 : w1.cell? ⟨w.heap.size, 1, none⟩ = some (.int .i64 0) := by rw [hbw1.cell (p := ⟨w.heap.size, 1, none⟩) (by dsimp only; (try simp) <;> omega)]; first | assumption | (rw [World.cell?_alloc_past _ _ _ (by omega)]; assumption) | (simp [go_sem]; done)
  have f01w1 : w1.frozen? ⟨w.heap.size, 1, none⟩ = false := by rw [hbw1.frozen (p := ⟨w.heap.size, 1, none⟩) (by dsimp only; (try simp) <;> omega)]; first | assumption | (rw [((Below.refl _ _).alloc (Nat.le_refl _) _).frozen (by dsimp only; omega)]; assumption) | (simp [go_sem]; done)
  have hB1 : Below w.heap.size w w1 := ((Below.refl _ _).alloc (Nat.le_refl _) _).trans (hbw1.mono (by simp))
  have hl1 := hR1.lt
  clear hbw1
  go_wp2_with fail
  refine (val_any (w.heap.size + 1) 0 _ hR1 (by omega)).mono ?_
  rintro e w2 ⟨k, n, p2, rfl, hkn, hbw2, hp2, hR2⟩
  have hzw2 := hbw2.size
  try simp at hzw2
  have x00w2 : w2.cell? ⟨w.heap.size, 0, none⟩ = some (.int .i64 0) := by rw [hbw2.cell (p := ⟨w.heap.size, 0, none⟩) (by dsimp only; (try simp) <;> omega) (by dsimp only; omega)]; first | assumption | (rw [World.cell?_alloc_past _ _ _ (by omega)]; assumption) | (simp [go_sem]; done)
  have f00w2 : w2.frozen? ⟨w.heap.size, 0, none⟩ = false := by rw [hbw2.frozen (p := ⟨w.heap.size, 0, none⟩) (by dsimp only; (try simp) <;> omega) (by dsimp only; omega)]; first | assumption | (rw [((Below.refl _ _).alloc (Nat.le_refl _) _).frozen (by dsimp only; omega)]; assumption) | (simp [go_sem]; done)
  have x01w2 : w2.cell? ⟨w.heap.size, 1, none⟩ = some (.int .i64 0) := by rw [hbw2.cell (p := ⟨w.heap.size, 1, none⟩) (by dsimp only; (try simp) <;> omega) (by dsimp only; omega)]; first | assumption | (rw [World.cell?_alloc_past _ _ _ (by omega)]; assumption) | (simp [go_sem]; done)
  have f01w2 : w2.frozen? ⟨w.heap.size, 1, none⟩ = false := by rw [hbw2.frozen (p := ⟨w.heap.size, 1, none⟩) (by dsimp only; (try simp) <;> omega) (by dsimp only; omega)]; first | assumption | (rw [((Below.refl _ _).alloc (Nat.le_refl _) _).frozen (by dsimp only; omega)]; assumption) | (simp [go_sem]; done)
  clear x00w1 f00w1 x01w1 f01w1
  have hB2 : Below w.heap.size w w2 := hB1.trans (hbw2.below (by omega) (by omega))
  clear hbw2 hR1 hB1
  go_wp2_with fail
  refine (pick_any (w.heap.size + 1) p2 5 _ (hR2.below ((Below.refl _ _).alloc (Nat.le_refl _) _)) (by omega) (by omega) (by omega)).mono ?_
  rintro e w3 ⟨r, rfl, hr, hbw3, hR3⟩
  have hzw3 := hbw3.size
  try simp at hzw3
  have x00w3 : w3.cell? ⟨w.heap.size, 0, none⟩ = some (.int .i64 0) := by rw [hbw3.cell (p := ⟨w.heap.size, 0, none⟩) (by dsimp only; (try simp) <;> omega) (by dsimp only; omega)]; first | assumption | (rw [World.cell?_alloc_past _ _ _ (by omega)]; assumption) | (simp [go_sem]; done)
  have f00w3 : w3.frozen? ⟨w.heap.size, 0, none⟩ = false := by rw [hbw3.frozen (p := ⟨w.heap.size, 0, none⟩) (by dsimp only; (try simp) <;> omega) (by dsimp only; omega)]; first | assumption | (rw [((Below.refl _ _).alloc (Nat.le_refl _) _).frozen (by dsimp only; omega)]; assumption) | (simp [go_sem]; done)
  have x01w3 : w3.cell? ⟨w.heap.size, 1, none⟩ = some (.int .i64 0) := by rw [hbw3.cell (p := ⟨w.heap.size, 1, none⟩) (by dsimp only; (try simp) <;> omega) (by dsimp only; omega)]; first | assumption | (rw [World.cell?_alloc_past _ _ _ (by omega)]; assumption) | (simp [go_sem]; done)
  have f01w3 : w3.frozen? ⟨w.heap.size, 1, none⟩ = false := by rw [hbw3.frozen (p := ⟨w.heap.size, 1, none⟩) (by dsimp only; (try simp) <;> omega) (by dsimp only; omega)]; first | assumption | (rw [((Below.refl _ _).alloc (Nat.le_refl _) _).frozen (by dsimp only; omega)]; assumption) | (simp [go_sem]; done)
  have x10w3 : w3.cell? ⟨w2.heap.size, 0, none⟩ = some (.int .i64 k) := by rw [hbw3.cell (p := ⟨w2.heap.size, 0, none⟩) (by dsimp only; (try simp) <;> omega) (by dsimp only; omega)]; first | assumption | (rw [World.cell?_alloc_past _ _ _ (by omega)]; assumption) | (simp [go_sem]; done)
  have f10w3 : w3.frozen? ⟨w2.heap.size, 0, none⟩ = false := by rw [hbw3.frozen (p := ⟨w2.heap.size, 0, none⟩) (by dsimp only; (try simp) <;> omega) (by dsimp only; omega)]; first | assumption | (rw [((Below.refl _ _).alloc (Nat.le_refl _) _).frozen (by dsimp only; omega)]; assumption) | (simp [go_sem]; done)
  have x11w3 : w3.cell? ⟨w2.heap.size, 1, none⟩ = some (.int .i64 n) := by rw [hbw3.cell (p := ⟨w2.heap.size, 1, none⟩) (by dsimp only; (try simp) <;> omega) (by dsimp only; omega)]; first | assumption | (rw [World.cell?_alloc_past _ _ _ (by omega)]; assumption) | (simp [go_sem]; done)
  have f11w3 : w3.frozen? ⟨w2.heap.size, 1, none⟩ = false := by rw [hbw3.frozen (p := ⟨w2.heap.size, 1, none⟩) (by dsimp only; (try simp) <;> omega) (by dsimp only; omega)]; first | assumption | (rw [((Below.refl _ _).alloc (Nat.le_refl _) _).frozen (by dsimp only; omega)]; assumption) | (simp [go_sem]; done)
  clear x00w2 f00w2 x01w2 f01w2
  have hB3 : Below w.heap.size w w3 := (hB2.alloc (by omega) _).trans (hbw3.below (by omega) (by simp; omega))
  clear hbw3 hR2 hB2
  generalize w2.heap.size = b4 at *
  have n1 : b4 ≠ w.heap.size := by omega
  by_cases hr0 : r = 0
  · subst hr0
    go_wp2_with fail
    refine (pick_any (w.heap.size + 1) (p2 + 1) 14 _ hR3 (by omega) (by omega) (by omega)).mono ?_
    rintro e w4 ⟨q, rfl, hq, hbw4, hR4⟩
    have hzw4 := hbw4.size
    try simp at hzw4
    have x00w4 : w4.cell? ⟨w.heap.size, 0, none⟩ = some (.int .i64 0) := by rw [hbw4.cell (p := ⟨w.heap.size, 0, none⟩) (by dsimp only; (try simp) <;> omega) (by dsimp only; omega)]; first | assumption | (rw [World.cell?_alloc_past _ _ _ (by omega)]; assumption) | (simp [go_sem]; done)
    have f00w4 : w4.frozen? ⟨w.heap.size, 0, none⟩ = false := by rw [hbw4.frozen (p := ⟨w.heap.size, 0, none⟩) (by dsimp only; (try simp) <;> omega) (by dsimp only; omega)]; first | assumption | (rw [((Below.refl _ _).alloc (Nat.le_refl _) _).frozen (by dsimp only; omega)]; assumption) | (simp [go_sem]; done)
    have x01w4 : w4.cell? ⟨w.heap.size, 1, none⟩ = some (.int .i64 0) := by rw [hbw4.cell (p := ⟨w.heap.size, 1, none⟩) (by dsimp only; (try simp) <;> omega) (by dsimp only; omega)]; first | assumption | (rw [World.cell?_alloc_past _ _ _ (by omega)]; assumption) | (simp [go_sem]; done)
    have f01w4 : w4.frozen? ⟨w.heap.size, 1, none⟩ = false := by rw [hbw4.frozen (p := ⟨w.heap.size, 1, none⟩) (by dsimp only; (try simp) <;> omega) (by dsimp only; omega)]; first | assumption | (rw [((Below.refl _ _).alloc (Nat.le_refl _) _).frozen (by dsimp only; omega)]; assumption) | (simp [go_sem]; done)
    have x10w4 : w4.cell? ⟨b4, 0, none⟩ = some (.int .i64 k) := by rw [hbw4.cell (p := ⟨b4, 0, none⟩) (by dsimp only; (try simp) <;> omega) (by dsimp only; omega)]; first | assumption | (rw [World.cell?_alloc_past _ _ _ (by omega)]; assumption) | (simp [go_sem]; done)
    have f10w4 : w4.frozen? ⟨b4, 0, none⟩ = false := by rw [hbw4.frozen (p := ⟨b4, 0, none⟩) (by dsimp only; (try simp) <;> omega) (by dsimp only; omega)]; first | assumption | (rw [((Below.refl _ _).alloc (Nat.le_refl _) _).frozen (by dsimp only; omega)]; assumption) | (simp [go_sem]; done)
    have x11w4 : w4.cell? ⟨b4, 1, none⟩ = some (.int .i64 n) := by rw [hbw4.cell (p := ⟨b4, 1, none⟩) (by dsimp only; (try simp) <;> omega) (by dsimp only; omega)]; first | assumption | (rw [World.cell?_alloc_past _ _ _ (by omega)]; assumption) | (simp [go_sem]; done)
    have f11w4 : w4.frozen? ⟨b4, 1, none⟩ = false := by rw [hbw4.frozen (p := ⟨b4, 1, none⟩) (by dsimp only; (try simp) <;> omega) (by dsimp only; omega)]; first | assumption | (rw [((Below.refl _ _).alloc (Nat.le_refl _) _).frozen (by dsimp only; omega)]; assumption) | (simp [go_sem]; done)
    clear x00w3 f00w3 x01w3 f01w3 x10w3 f10w3 x11w3 f11w3
    have hB4 : Below w.heap.size w w4 := hB3.trans (hbw4.below (by omega) (by omega))
    clear hbw4 hR3 hB3
    have y0 : (w4.setCell ⟨b4, 1, none⟩ (.int .i64 (q - 2))).cell? ⟨w.heap.size, 0, none⟩ = some (.int .i64 0) := by simp [go_sem, x00w4]
    have y1 : (w4.setCell ⟨b4, 1, none⟩ (.int .i64 (q - 2))).cell? ⟨w.heap.size, 1, none⟩ = some (.int .i64 0) := by simp [go_sem, x01w4]
    have y2 : (w4.setCell ⟨b4, 1, none⟩ (.int .i64 (q - 2))).frozen? ⟨w.heap.size, 0, none⟩ = false := by simp [go_sem, f00w4]
    have y3 : (w4.setCell ⟨b4, 1, none⟩ (.int .i64 (q - 2))).frozen? ⟨w.heap.size, 1, none⟩ = false := by simp [go_sem, f01w4]
    have y4 : (w4.setCell ⟨b4, 1, none⟩ (.int .i64 (q - 2))).cell? ⟨b4, 0, none⟩ = some (.int .i64 k) := by simp [go_sem, x10w4]
    have y5 : (w4.setCell ⟨b4, 1, none⟩ (.int .i64 (q - 2))).cell? ⟨b4, 1, none⟩ = some (.int .i64 (q - 2)) := by simp [go_sem, x11w4]
    have hBu : Below w.heap.size w (w4.setCell ⟨b4, 1, none⟩ (.int .i64 (q - 2))) := hB4.setCell (by dsimp only; omega) _
    go_upto_region 5 with (fail)
    clear x00w4 f00w4 x01w4 f01w4 x10w4 f10w4 x11w4 f11w4
    generalize (w4.setCell ⟨b4, 1, none⟩ (.int .i64 (q - 2))) = v4 at *
    go_wp2_with fail
    exact bodyPost_ret (v := .agg #[.int .i64 k, .int .i64 (q - 2)]) (by simp [results, Try.results19, go_sem, y0, y1]) rfl
      ⟨k, q - 2, rfl, by omega, (hBu.setCell (by dsimp only; omega) _).setCell (by dsimp only; omega) _⟩
  · have hr1 : (r == 0) = false := by simp [hr0]
    go_wp2_with fail
    exact bodyPost_ret (v := .agg #[.int .i64 k, .int .i64 n]) (by simp [results, Try.results19, go_sem, x00w3, x01w3]) rfl
      ⟨k, n, rfl, by omega, (hB3.setCell (by dsimp only; omega) _).setCell (by dsimp only; omega) _⟩
end Go.Proofs.Ytfgpmbeianbimaa
