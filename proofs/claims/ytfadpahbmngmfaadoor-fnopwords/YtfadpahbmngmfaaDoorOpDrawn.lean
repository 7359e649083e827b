/-
  What spec.DrawOpText, DrawOpUses and DrawOpOk draw, over this translation: whatever the code, some step; nothing that was there turns.
-/
import Derived.Test.YtfadpahbmngmfaaDoorOpAny
namespace Go.Proofs.YtfadpahbmngmfaaDoor
open Go.ChangeShapes Go.WideShapes Go.ChangeAt Go.RowKit Go.Joins
attribute [local go_sem ↓] Go.wp_at_zero Go.wp_at_succ
set_option maxHeartbeats 2000000 in
theorem drawOpText_any (p : Option Addr) (len cap : Nat) (w : World) (h : Code0 w p len cap) :
    Calls Tryd.prog 10 #[.slice p len cap] w fun e w' => ∃ k r s t a b, e = .returned (.agg #[.int .i64 k, .int .i64 r, .int .i64 s, .int .i64 t, .int .i64 a, .int .i64 b]) ∧ Below w.heap.size w w' := by
  go_enter Tryd.func10, Tryd.ntmps10
  go_wp2_with fail
  refine (open_any p len cap _ (h.below ((Below.refl _ _).alloc (Nat.le_refl _) _))).mono ?_
  rintro e w1 ⟨rfl, hbw1, hR1'⟩
  have hR1 : Rd (w.heap.size + 1) 0 w1 := by simpa using hR1'
  clear hR1'
  have hzw1 := hbw1.size
  try simp at hzw1
  have x0w1 : w1.cell? ⟨w.heap.size, 0, none⟩ = some (.int .i64 0) := by rw [hbw1.cell (p := ⟨w.heap.size, 0, none⟩) (by dsimp only; (try simp) <;> omega)]; first | assumption | (simp [go_sem]; done)
  have u0w1 : w1.frozen? ⟨w.heap.size, 0, none⟩ = false := by rw [hbw1.frozen (p := ⟨w.heap.size, 0, none⟩) (by dsimp only; (try simp) <;> omega)]; first | assumption | (simp [go_sem]; done)
  have x1w1 : w1.cell? ⟨w.heap.size, 1, none⟩ = some (.int .i64 0) := by rw [hbw1.cell (p := ⟨w.heap.size, 1, none⟩) (by dsimp only; (try simp) <;> omega)]; first | assumption | (simp [go_sem]; done)
  have u1w1 : w1.frozen? ⟨w.heap.size, 1, none⟩ = false := by rw [hbw1.frozen (p := ⟨w.heap.size, 1, none⟩) (by dsimp only; (try simp) <;> omega)]; first | assumption | (simp [go_sem]; done)
  have x2w1 : w1.cell? ⟨w.heap.size, 2, none⟩ = some (.int .i64 0) := by rw [hbw1.cell (p := ⟨w.heap.size, 2, none⟩) (by dsimp only; (try simp) <;> omega)]; first | assumption | (simp [go_sem]; done)
  have u2w1 : w1.frozen? ⟨w.heap.size, 2, none⟩ = false := by rw [hbw1.frozen (p := ⟨w.heap.size, 2, none⟩) (by dsimp only; (try simp) <;> omega)]; first | assumption | (simp [go_sem]; done)
  have x3w1 : w1.cell? ⟨w.heap.size, 3, none⟩ = some (.int .i64 0) := by rw [hbw1.cell (p := ⟨w.heap.size, 3, none⟩) (by dsimp only; (try simp) <;> omega)]; first | assumption | (simp [go_sem]; done)
  have u3w1 : w1.frozen? ⟨w.heap.size, 3, none⟩ = false := by rw [hbw1.frozen (p := ⟨w.heap.size, 3, none⟩) (by dsimp only; (try simp) <;> omega)]; first | assumption | (simp [go_sem]; done)
  have x4w1 : w1.cell? ⟨w.heap.size, 4, none⟩ = some (.int .i64 0) := by rw [hbw1.cell (p := ⟨w.heap.size, 4, none⟩) (by dsimp only; (try simp) <;> omega)]; first | assumption | (simp [go_sem]; done)
  have u4w1 : w1.frozen? ⟨w.heap.size, 4, none⟩ = false := by rw [hbw1.frozen (p := ⟨w.heap.size, 4, none⟩) (by dsimp only; (try simp) <;> omega)]; first | assumption | (simp [go_sem]; done)
  have x5w1 : w1.cell? ⟨w.heap.size, 5, none⟩ = some (.int .i64 0) := by rw [hbw1.cell (p := ⟨w.heap.size, 5, none⟩) (by dsimp only; (try simp) <;> omega)]; first | assumption | (simp [go_sem]; done)
  have u5w1 : w1.frozen? ⟨w.heap.size, 5, none⟩ = false := by rw [hbw1.frozen (p := ⟨w.heap.size, 5, none⟩) (by dsimp only; (try simp) <;> omega)]; first | assumption | (simp [go_sem]; done)
  have hB1 : Below w.heap.size w w1 := ((Below.refl _ _).alloc (Nat.le_refl _) _).trans (hbw1.mono (by simp))
  have hl1 := hR1.lt
  clear hbw1
  go_wp2_with fail
  refine (anyOp_any (w.heap.size + 1) 0 _ hR1 (by omega)).mono ?_
  rintro e w2 ⟨k, r, s, t, a, b, p2, rfl, hbw2, hp2, hR2⟩
  have hzw2 := hbw2.size
  try simp at hzw2
  have x0w2 : w2.cell? ⟨w.heap.size, 0, none⟩ = some (.int .i64 0) := by rw [hbw2.cell (p := ⟨w.heap.size, 0, none⟩) (by dsimp only; (try simp) <;> omega) (by dsimp only; omega)]; first | assumption | (simp [go_sem]; done)
  have u0w2 : w2.frozen? ⟨w.heap.size, 0, none⟩ = false := by rw [hbw2.frozen (p := ⟨w.heap.size, 0, none⟩) (by dsimp only; (try simp) <;> omega) (by dsimp only; omega)]; first | assumption | (simp [go_sem]; done)
  have x1w2 : w2.cell? ⟨w.heap.size, 1, none⟩ = some (.int .i64 0) := by rw [hbw2.cell (p := ⟨w.heap.size, 1, none⟩) (by dsimp only; (try simp) <;> omega) (by dsimp only; omega)]; first | assumption | (simp [go_sem]; done)
  have u1w2 : w2.frozen? ⟨w.heap.size, 1, none⟩ = false := by rw [hbw2.frozen (p := ⟨w.heap.size, 1, none⟩) (by dsimp only; (try simp) <;> omega) (by dsimp only; omega)]; first | assumption | (simp [go_sem]; done)
  have x2w2 : w2.cell? ⟨w.heap.size, 2, none⟩ = some (.int .i64 0) := by rw [hbw2.cell (p := ⟨w.heap.size, 2, none⟩) (by dsimp only; (try simp) <;> omega) (by dsimp only; omega)]; first | assumption | (simp [go_sem]; done)
  have u2w2 : w2.frozen? ⟨w.heap.size, 2, none⟩ = false := by rw [hbw2.frozen (p := ⟨w.heap.size, 2, none⟩) (by dsimp only; (try simp) <;> omega) (by dsimp only; omega)]; first | assumption | (simp [go_sem]; done)
  have x3w2 : w2.cell? ⟨w.heap.size, 3, none⟩ = some (.int .i64 0) := by rw [hbw2.cell (p := ⟨w.heap.size, 3, none⟩) (by dsimp only; (try simp) <;> omega) (by dsimp only; omega)]; first | assumption | (simp [go_sem]; done)
  have u3w2 : w2.frozen? ⟨w.heap.size, 3, none⟩ = false := by rw [hbw2.frozen (p := ⟨w.heap.size, 3, none⟩) (by dsimp only; (try simp) <;> omega) (by dsimp only; omega)]; first | assumption | (simp [go_sem]; done)
  have x4w2 : w2.cell? ⟨w.heap.size, 4, none⟩ = some (.int .i64 0) := by rw [hbw2.cell (p := ⟨w.heap.size, 4, none⟩) (by dsimp only; (try simp) <;> omega) (by dsimp only; omega)]; first | assumption | (simp [go_sem]; done)
  have u4w2 : w2.frozen? ⟨w.heap.size, 4, none⟩ = false := by rw [hbw2.frozen (p := ⟨w.heap.size, 4, none⟩) (by dsimp only; (try simp) <;> omega) (by dsimp only; omega)]; first | assumption | (simp [go_sem]; done)
  have x5w2 : w2.cell? ⟨w.heap.size, 5, none⟩ = some (.int .i64 0) := by rw [hbw2.cell (p := ⟨w.heap.size, 5, none⟩) (by dsimp only; (try simp) <;> omega) (by dsimp only; omega)]; first | assumption | (simp [go_sem]; done)
  have u5w2 : w2.frozen? ⟨w.heap.size, 5, none⟩ = false := by rw [hbw2.frozen (p := ⟨w.heap.size, 5, none⟩) (by dsimp only; (try simp) <;> omega) (by dsimp only; omega)]; first | assumption | (simp [go_sem]; done)
  clear x0w1 u0w1 x1w1 u1w1 x2w1 u2w1 x3w1 u3w1 x4w1 u4w1 x5w1 u5w1
  have hB2 : Below w.heap.size w w2 := hB1.trans (hbw2.below (by omega) (by omega))
  clear hbw2 hR1 hB1
  go_wp2_with fail
  exact bodyPost_ret (v := .agg #[.int .i64 k, .int .i64 r, .int .i64 s, .int .i64 t, .int .i64 a, .int .i64 b]) (by simp [results, Tryd.results10, go_sem, x0w2, x1w2, x2w2, x3w2, x4w2, x5w2]) rfl
    ⟨k, r, s, t, a, b, rfl, ((((((hB2.setCell (by dsimp only; omega) _).setCell (by dsimp only; omega) _).setCell (by dsimp only; omega) _).setCell (by dsimp only; omega) _).setCell (by dsimp only; omega) _).setCell (by dsimp only; omega) _)⟩
set_option maxHeartbeats 2000000 in
theorem drawOpOk_any (p : Option Addr) (len cap : Nat) (w : World) (h : Code0 w p len cap) :
    Calls Tryd.prog 11 #[.slice p len cap] w fun e w' => ∃ k r s t a b, e = .returned (.agg #[.int .i64 k, .int .i64 r, .int .i64 s, .int .i64 t, .int .i64 a, .int .i64 b]) ∧ Below w.heap.size w w' := by
  go_enter Tryd.func11, Tryd.ntmps11
  go_wp2_with fail
  refine (open_any p len cap _ (h.below ((Below.refl _ _).alloc (Nat.le_refl _) _))).mono ?_
  rintro e w1 ⟨rfl, hbw1, hR1'⟩
  have hR1 : Rd (w.heap.size + 1) 0 w1 := by simpa using hR1'
  clear hR1'
  have hzw1 := hbw1.size
  try simp at hzw1
  have x0w1 : w1.cell? ⟨w.heap.size, 0, none⟩ = some (.int .i64 0) := by rw [hbw1.cell (p := ⟨w.heap.size, 0, none⟩) (by dsimp only; (try simp) <;> omega)]; first | assumption | (simp [go_sem]; done)
  have u0w1 : w1.frozen? ⟨w.heap.size, 0, none⟩ = false := by rw [hbw1.frozen (p := ⟨w.heap.size, 0, none⟩) (by dsimp only; (try simp) <;> omega)]; first | assumption | (simp [go_sem]; done)
  have x1w1 : w1.cell? ⟨w.heap.size, 1, none⟩ = some (.int .i64 0) := by rw [hbw1.cell (p := ⟨w.heap.size, 1, none⟩) (by dsimp only; (try simp) <;> omega)]; first | assumption | (simp [go_sem]; done)
  have u1w1 : w1.frozen? ⟨w.heap.size, 1, none⟩ = false := by rw [hbw1.frozen (p := ⟨w.heap.size, 1, none⟩) (by dsimp only; (try simp) <;> omega)]; first | assumption | (simp [go_sem]; done)
  have x2w1 : w1.cell? ⟨w.heap.size, 2, none⟩ = some (.int .i64 0) := by rw [hbw1.cell (p := ⟨w.heap.size, 2, none⟩) (by dsimp only; (try simp) <;> omega)]; first | assumption | (simp [go_sem]; done)
  have u2w1 : w1.frozen? ⟨w.heap.size, 2, none⟩ = false := by rw [hbw1.frozen (p := ⟨w.heap.size, 2, none⟩) (by dsimp only; (try simp) <;> omega)]; first | assumption | (simp [go_sem]; done)
  have x3w1 : w1.cell? ⟨w.heap.size, 3, none⟩ = some (.int .i64 0) := by rw [hbw1.cell (p := ⟨w.heap.size, 3, none⟩) (by dsimp only; (try simp) <;> omega)]; first | assumption | (simp [go_sem]; done)
  have u3w1 : w1.frozen? ⟨w.heap.size, 3, none⟩ = false := by rw [hbw1.frozen (p := ⟨w.heap.size, 3, none⟩) (by dsimp only; (try simp) <;> omega)]; first | assumption | (simp [go_sem]; done)
  have x4w1 : w1.cell? ⟨w.heap.size, 4, none⟩ = some (.int .i64 0) := by rw [hbw1.cell (p := ⟨w.heap.size, 4, none⟩) (by dsimp only; (try simp) <;> omega)]; first | assumption | (simp [go_sem]; done)
  have u4w1 : w1.frozen? ⟨w.heap.size, 4, none⟩ = false := by rw [hbw1.frozen (p := ⟨w.heap.size, 4, none⟩) (by dsimp only; (try simp) <;> omega)]; first | assumption | (simp [go_sem]; done)
  have x5w1 : w1.cell? ⟨w.heap.size, 5, none⟩ = some (.int .i64 0) := by rw [hbw1.cell (p := ⟨w.heap.size, 5, none⟩) (by dsimp only; (try simp) <;> omega)]; first | assumption | (simp [go_sem]; done)
  have u5w1 : w1.frozen? ⟨w.heap.size, 5, none⟩ = false := by rw [hbw1.frozen (p := ⟨w.heap.size, 5, none⟩) (by dsimp only; (try simp) <;> omega)]; first | assumption | (simp [go_sem]; done)
  have hB1 : Below w.heap.size w w1 := ((Below.refl _ _).alloc (Nat.le_refl _) _).trans (hbw1.mono (by simp))
  have hl1 := hR1.lt
  clear hbw1
  go_wp2_with fail
  refine (anyOp_any (w.heap.size + 1) 0 _ hR1 (by omega)).mono ?_
  rintro e w2 ⟨k, r, s, t, a, b, p2, rfl, hbw2, hp2, hR2⟩
  have hzw2 := hbw2.size
  try simp at hzw2
  have x0w2 : w2.cell? ⟨w.heap.size, 0, none⟩ = some (.int .i64 0) := by rw [hbw2.cell (p := ⟨w.heap.size, 0, none⟩) (by dsimp only; (try simp) <;> omega) (by dsimp only; omega)]; first | assumption | (simp [go_sem]; done)
  have u0w2 : w2.frozen? ⟨w.heap.size, 0, none⟩ = false := by rw [hbw2.frozen (p := ⟨w.heap.size, 0, none⟩) (by dsimp only; (try simp) <;> omega) (by dsimp only; omega)]; first | assumption | (simp [go_sem]; done)
  have x1w2 : w2.cell? ⟨w.heap.size, 1, none⟩ = some (.int .i64 0) := by rw [hbw2.cell (p := ⟨w.heap.size, 1, none⟩) (by dsimp only; (try simp) <;> omega) (by dsimp only; omega)]; first | assumption | (simp [go_sem]; done)
  have u1w2 : w2.frozen? ⟨w.heap.size, 1, none⟩ = false := by rw [hbw2.frozen (p := ⟨w.heap.size, 1, none⟩) (by dsimp only; (try simp) <;> omega) (by dsimp only; omega)]; first | assumption | (simp [go_sem]; done)
  have x2w2 : w2.cell? ⟨w.heap.size, 2, none⟩ = some (.int .i64 0) := by rw [hbw2.cell (p := ⟨w.heap.size, 2, none⟩) (by dsimp only; (try simp) <;> omega) (by dsimp only; omega)]; first | assumption | (simp [go_sem]; done)
  have u2w2 : w2.frozen? ⟨w.heap.size, 2, none⟩ = false := by rw [hbw2.frozen (p := ⟨w.heap.size, 2, none⟩) (by dsimp only; (try simp) <;> omega) (by dsimp only; omega)]; first | assumption | (simp [go_sem]; done)
  have x3w2 : w2.cell? ⟨w.heap.size, 3, none⟩ = some (.int .i64 0) := by rw [hbw2.cell (p := ⟨w.heap.size, 3, none⟩) (by dsimp only; (try simp) <;> omega) (by dsimp only; omega)]; first | assumption | (simp [go_sem]; done)
  have u3w2 : w2.frozen? ⟨w.heap.size, 3, none⟩ = false := by rw [hbw2.frozen (p := ⟨w.heap.size, 3, none⟩) (by dsimp only; (try simp) <;> omega) (by dsimp only; omega)]; first | assumption | (simp [go_sem]; done)
  have x4w2 : w2.cell? ⟨w.heap.size, 4, none⟩ = some (.int .i64 0) := by rw [hbw2.cell (p := ⟨w.heap.size, 4, none⟩) (by dsimp only; (try simp) <;> omega) (by dsimp only; omega)]; first | assumption | (simp [go_sem]; done)
  have u4w2 : w2.frozen? ⟨w.heap.size, 4, none⟩ = false := by rw [hbw2.frozen (p := ⟨w.heap.size, 4, none⟩) (by dsimp only; (try simp) <;> omega) (by dsimp only; omega)]; first | assumption | (simp [go_sem]; done)
  have x5w2 : w2.cell? ⟨w.heap.size, 5, none⟩ = some (.int .i64 0) := by rw [hbw2.cell (p := ⟨w.heap.size, 5, none⟩) (by dsimp only; (try simp) <;> omega) (by dsimp only; omega)]; first | assumption | (simp [go_sem]; done)
  have u5w2 : w2.frozen? ⟨w.heap.size, 5, none⟩ = false := by rw [hbw2.frozen (p := ⟨w.heap.size, 5, none⟩) (by dsimp only; (try simp) <;> omega) (by dsimp only; omega)]; first | assumption | (simp [go_sem]; done)
  clear x0w1 u0w1 x1w1 u1w1 x2w1 u2w1 x3w1 u3w1 x4w1 u4w1 x5w1 u5w1
  have hB2 : Below w.heap.size w w2 := hB1.trans (hbw2.below (by omega) (by omega))
  clear hbw2 hR1 hB1
  go_wp2_with fail
  refine (pick_any (w.heap.size + 1) p2 5 _ (hR2.below ((Below.refl _ _).alloc (Nat.le_refl _) _)) (by omega) (by omega) (by omega)).mono ?_
  rintro e w3 ⟨x, rfl, hx, hbw3, hR3⟩
  have hzw3 := hbw3.size
  try simp at hzw3
  have x0w3 : w3.cell? ⟨w.heap.size, 0, none⟩ = some (.int .i64 0) := by rw [hbw3.cell (p := ⟨w.heap.size, 0, none⟩) (by dsimp only; (try simp) <;> omega) (by dsimp only; omega)]; first | assumption | (rw [World.cell?_alloc_past _ _ _ (by omega)]; assumption) | (simp [go_sem]; done)
  have u0w3 : w3.frozen? ⟨w.heap.size, 0, none⟩ = false := by rw [hbw3.frozen (p := ⟨w.heap.size, 0, none⟩) (by dsimp only; (try simp) <;> omega) (by dsimp only; omega)]; first | assumption | (rw [((Below.refl _ _).alloc (Nat.le_refl _) _).frozen (by dsimp only; omega)]; assumption) | (simp [go_sem]; done)
  have y0w3 : w3.cell? ⟨w2.heap.size, 0, none⟩ = some (.int .i64 k) := by rw [hbw3.cell (p := ⟨w2.heap.size, 0, none⟩) (by dsimp only; (try simp) <;> omega) (by dsimp only; omega)]; first | assumption | (rw [World.cell?_alloc_past _ _ _ (by omega)]; assumption) | (simp [go_sem]; done)
  have v0w3 : w3.frozen? ⟨w2.heap.size, 0, none⟩ = false := by rw [hbw3.frozen (p := ⟨w2.heap.size, 0, none⟩) (by dsimp only; (try simp) <;> omega) (by dsimp only; omega)]; first | assumption | (rw [((Below.refl _ _).alloc (Nat.le_refl _) _).frozen (by dsimp only; omega)]; assumption) | (simp [go_sem]; done)
  have x1w3 : w3.cell? ⟨w.heap.size, 1, none⟩ = some (.int .i64 0) := by rw [hbw3.cell (p := ⟨w.heap.size, 1, none⟩) (by dsimp only; (try simp) <;> omega) (by dsimp only; omega)]; first | assumption | (rw [World.cell?_alloc_past _ _ _ (by omega)]; assumption) | (simp [go_sem]; done)
  have u1w3 : w3.frozen? ⟨w.heap.size, 1, none⟩ = false := by rw [hbw3.frozen (p := ⟨w.heap.size, 1, none⟩) (by dsimp only; (try simp) <;> omega) (by dsimp only; omega)]; first | assumption | (rw [((Below.refl _ _).alloc (Nat.le_refl _) _).frozen (by dsimp only; omega)]; assumption) | (simp [go_sem]; done)
  have y1w3 : w3.cell? ⟨w2.heap.size, 1, none⟩ = some (.int .i64 r) := by rw [hbw3.cell (p := ⟨w2.heap.size, 1, none⟩) (by dsimp only; (try simp) <;> omega) (by dsimp only; omega)]; first | assumption | (rw [World.cell?_alloc_past _ _ _ (by omega)]; assumption) | (simp [go_sem]; done)
  have v1w3 : w3.frozen? ⟨w2.heap.size, 1, none⟩ = false := by rw [hbw3.frozen (p := ⟨w2.heap.size, 1, none⟩) (by dsimp only; (try simp) <;> omega) (by dsimp only; omega)]; first | assumption | (rw [((Below.refl _ _).alloc (Nat.le_refl _) _).frozen (by dsimp only; omega)]; assumption) | (simp [go_sem]; done)
  have x2w3 : w3.cell? ⟨w.heap.size, 2, none⟩ = some (.int .i64 0) := by rw [hbw3.cell (p := ⟨w.heap.size, 2, none⟩) (by dsimp only; (try simp) <;> omega) (by dsimp only; omega)]; first | assumption | (rw [World.cell?_alloc_past _ _ _ (by omega)]; assumption) | (simp [go_sem]; done)
  have u2w3 : w3.frozen? ⟨w.heap.size, 2, none⟩ = false := by rw [hbw3.frozen (p := ⟨w.heap.size, 2, none⟩) (by dsimp only; (try simp) <;> omega) (by dsimp only; omega)]; first | assumption | (rw [((Below.refl _ _).alloc (Nat.le_refl _) _).frozen (by dsimp only; omega)]; assumption) | (simp [go_sem]; done)
  have y2w3 : w3.cell? ⟨w2.heap.size, 2, none⟩ = some (.int .i64 s) := by rw [hbw3.cell (p := ⟨w2.heap.size, 2, none⟩) (by dsimp only; (try simp) <;> omega) (by dsimp only; omega)]; first | assumption | (rw [World.cell?_alloc_past _ _ _ (by omega)]; assumption) | (simp [go_sem]; done)
  have v2w3 : w3.frozen? ⟨w2.heap.size, 2, none⟩ = false := by rw [hbw3.frozen (p := ⟨w2.heap.size, 2, none⟩) (by dsimp only; (try simp) <;> omega) (by dsimp only; omega)]; first | assumption | (rw [((Below.refl _ _).alloc (Nat.le_refl _) _).frozen (by dsimp only; omega)]; assumption) | (simp [go_sem]; done)
  have x3w3 : w3.cell? ⟨w.heap.size, 3, none⟩ = some (.int .i64 0) := by rw [hbw3.cell (p := ⟨w.heap.size, 3, none⟩) (by dsimp only; (try simp) <;> omega) (by dsimp only; omega)]; first | assumption | (rw [World.cell?_alloc_past _ _ _ (by omega)]; assumption) | (simp [go_sem]; done)
  have u3w3 : w3.frozen? ⟨w.heap.size, 3, none⟩ = false := by rw [hbw3.frozen (p := ⟨w.heap.size, 3, none⟩) (by dsimp only; (try simp) <;> omega) (by dsimp only; omega)]; first | assumption | (rw [((Below.refl _ _).alloc (Nat.le_refl _) _).frozen (by dsimp only; omega)]; assumption) | (simp [go_sem]; done)
  have y3w3 : w3.cell? ⟨w2.heap.size, 3, none⟩ = some (.int .i64 t) := by rw [hbw3.cell (p := ⟨w2.heap.size, 3, none⟩) (by dsimp only; (try simp) <;> omega) (by dsimp only; omega)]; first | assumption | (rw [World.cell?_alloc_past _ _ _ (by omega)]; assumption) | (simp [go_sem]; done)
  have v3w3 : w3.frozen? ⟨w2.heap.size, 3, none⟩ = false := by rw [hbw3.frozen (p := ⟨w2.heap.size, 3, none⟩) (by dsimp only; (try simp) <;> omega) (by dsimp only; omega)]; first | assumption | (rw [((Below.refl _ _).alloc (Nat.le_refl _) _).frozen (by dsimp only; omega)]; assumption) | (simp [go_sem]; done)
  have x4w3 : w3.cell? ⟨w.heap.size, 4, none⟩ = some (.int .i64 0) := by rw [hbw3.cell (p := ⟨w.heap.size, 4, none⟩) (by dsimp only; (try simp) <;> omega) (by dsimp only; omega)]; first | assumption | (rw [World.cell?_alloc_past _ _ _ (by omega)]; assumption) | (simp [go_sem]; done)
  have u4w3 : w3.frozen? ⟨w.heap.size, 4, none⟩ = false := by rw [hbw3.frozen (p := ⟨w.heap.size, 4, none⟩) (by dsimp only; (try simp) <;> omega) (by dsimp only; omega)]; first | assumption | (rw [((Below.refl _ _).alloc (Nat.le_refl _) _).frozen (by dsimp only; omega)]; assumption) | (simp [go_sem]; done)
  have y4w3 : w3.cell? ⟨w2.heap.size, 4, none⟩ = some (.int .i64 a) := by rw [hbw3.cell (p := ⟨w2.heap.size, 4, none⟩) (by dsimp only; (try simp) <;> omega) (by dsimp only; omega)]; first | assumption | (rw [World.cell?_alloc_past _ _ _ (by omega)]; assumption) | (simp [go_sem]; done)
  have v4w3 : w3.frozen? ⟨w2.heap.size, 4, none⟩ = false := by rw [hbw3.frozen (p := ⟨w2.heap.size, 4, none⟩) (by dsimp only; (try simp) <;> omega) (by dsimp only; omega)]; first | assumption | (rw [((Below.refl _ _).alloc (Nat.le_refl _) _).frozen (by dsimp only; omega)]; assumption) | (simp [go_sem]; done)
  have x5w3 : w3.cell? ⟨w.heap.size, 5, none⟩ = some (.int .i64 0) := by rw [hbw3.cell (p := ⟨w.heap.size, 5, none⟩) (by dsimp only; (try simp) <;> omega) (by dsimp only; omega)]; first | assumption | (rw [World.cell?_alloc_past _ _ _ (by omega)]; assumption) | (simp [go_sem]; done)
  have u5w3 : w3.frozen? ⟨w.heap.size, 5, none⟩ = false := by rw [hbw3.frozen (p := ⟨w.heap.size, 5, none⟩) (by dsimp only; (try simp) <;> omega) (by dsimp only; omega)]; first | assumption | (rw [((Below.refl _ _).alloc (Nat.le_refl _) _).frozen (by dsimp only; omega)]; assumption) | (simp [go_sem]; done)
  have y5w3 : w3.cell? ⟨w2.heap.size, 5, none⟩ = some (.int .i64 b) := by rw [hbw3.cell (p := ⟨w2.heap.size, 5, none⟩) (by dsimp only; (try simp) <;> omega) (by dsimp only; omega)]; first | assumption | (rw [World.cell?_alloc_past _ _ _ (by omega)]; assumption) | (simp [go_sem]; done)
  have v5w3 : w3.frozen? ⟨w2.heap.size, 5, none⟩ = false := by rw [hbw3.frozen (p := ⟨w2.heap.size, 5, none⟩) (by dsimp only; (try simp) <;> omega) (by dsimp only; omega)]; first | assumption | (rw [((Below.refl _ _).alloc (Nat.le_refl _) _).frozen (by dsimp only; omega)]; assumption) | (simp [go_sem]; done)
  clear x0w2 u0w2 x1w2 u1w2 x2w2 u2w2 x3w2 u3w2 x4w2 u4w2 x5w2 u5w2
  have hB3 : Below w.heap.size w w3 := (hB2.alloc (by omega) _).trans (hbw3.below (by omega) (by simp; omega))
  clear hbw3 hR2 hB2
  have n1 : w2.heap.size ≠ w.heap.size := by omega
  have n2 : w.heap.size ≠ w2.heap.size := by omega
  by_cases hx0 : x = 0
  · subst hx0
    go_wp2_with fail
    refine (pick_any (w.heap.size + 1) (p2 + 1) 6 _ hR3 (by omega) (by omega) (by omega)).mono ?_
    rintro e w4 ⟨q, rfl, hq, hbw4, hR4⟩
    have hzw4 := hbw4.size
    have x0w4 : w4.cell? ⟨w.heap.size, 0, none⟩ = some (.int .i64 0) := by rw [hbw4.cell (p := ⟨w.heap.size, 0, none⟩) (by dsimp only; (try simp) <;> omega) (by dsimp only; omega)]; first | assumption | (rw [World.cell?_alloc_past _ _ _ (by omega)]; assumption) | (simp [go_sem]; done)
    have u0w4 : w4.frozen? ⟨w.heap.size, 0, none⟩ = false := by rw [hbw4.frozen (p := ⟨w.heap.size, 0, none⟩) (by dsimp only; (try simp) <;> omega) (by dsimp only; omega)]; first | assumption | (rw [((Below.refl _ _).alloc (Nat.le_refl _) _).frozen (by dsimp only; omega)]; assumption) | (simp [go_sem]; done)
    have y0w4 : w4.cell? ⟨w2.heap.size, 0, none⟩ = some (.int .i64 k) := by rw [hbw4.cell (p := ⟨w2.heap.size, 0, none⟩) (by dsimp only; (try simp) <;> omega) (by dsimp only; omega)]; first | assumption | (rw [World.cell?_alloc_past _ _ _ (by omega)]; assumption) | (simp [go_sem]; done)
    have v0w4 : w4.frozen? ⟨w2.heap.size, 0, none⟩ = false := by rw [hbw4.frozen (p := ⟨w2.heap.size, 0, none⟩) (by dsimp only; (try simp) <;> omega) (by dsimp only; omega)]; first | assumption | (rw [((Below.refl _ _).alloc (Nat.le_refl _) _).frozen (by dsimp only; omega)]; assumption) | (simp [go_sem]; done)
    have x1w4 : w4.cell? ⟨w.heap.size, 1, none⟩ = some (.int .i64 0) := by rw [hbw4.cell (p := ⟨w.heap.size, 1, none⟩) (by dsimp only; (try simp) <;> omega) (by dsimp only; omega)]; first | assumption | (rw [World.cell?_alloc_past _ _ _ (by omega)]; assumption) | (simp [go_sem]; done)
    have u1w4 : w4.frozen? ⟨w.heap.size, 1, none⟩ = false := by rw [hbw4.frozen (p := ⟨w.heap.size, 1, none⟩) (by dsimp only; (try simp) <;> omega) (by dsimp only; omega)]; first | assumption | (rw [((Below.refl _ _).alloc (Nat.le_refl _) _).frozen (by dsimp only; omega)]; assumption) | (simp [go_sem]; done)
    have y1w4 : w4.cell? ⟨w2.heap.size, 1, none⟩ = some (.int .i64 r) := by rw [hbw4.cell (p := ⟨w2.heap.size, 1, none⟩) (by dsimp only; (try simp) <;> omega) (by dsimp only; omega)]; first | assumption | (rw [World.cell?_alloc_past _ _ _ (by omega)]; assumption) | (simp [go_sem]; done)
    have v1w4 : w4.frozen? ⟨w2.heap.size, 1, none⟩ = false := by rw [hbw4.frozen (p := ⟨w2.heap.size, 1, none⟩) (by dsimp only; (try simp) <;> omega) (by dsimp only; omega)]; first | assumption | (rw [((Below.refl _ _).alloc (Nat.le_refl _) _).frozen (by dsimp only; omega)]; assumption) | (simp [go_sem]; done)
    have x2w4 : w4.cell? ⟨w.heap.size, 2, none⟩ = some (.int .i64 0) := by rw [hbw4.cell (p := ⟨w.heap.size, 2, none⟩) (by dsimp only; (try simp) <;> omega) (by dsimp only; omega)]; first | assumption | (rw [World.cell?_alloc_past _ _ _ (by omega)]; assumption) | (simp [go_sem]; done)
    have u2w4 : w4.frozen? ⟨w.heap.size, 2, none⟩ = false := by rw [hbw4.frozen (p := ⟨w.heap.size, 2, none⟩) (by dsimp only; (try simp) <;> omega) (by dsimp only; omega)]; first | assumption | (rw [((Below.refl _ _).alloc (Nat.le_refl _) _).frozen (by dsimp only; omega)]; assumption) | (simp [go_sem]; done)
    have y2w4 : w4.cell? ⟨w2.heap.size, 2, none⟩ = some (.int .i64 s) := by rw [hbw4.cell (p := ⟨w2.heap.size, 2, none⟩) (by dsimp only; (try simp) <;> omega) (by dsimp only; omega)]; first | assumption | (rw [World.cell?_alloc_past _ _ _ (by omega)]; assumption) | (simp [go_sem]; done)
    have v2w4 : w4.frozen? ⟨w2.heap.size, 2, none⟩ = false := by rw [hbw4.frozen (p := ⟨w2.heap.size, 2, none⟩) (by dsimp only; (try simp) <;> omega) (by dsimp only; omega)]; first | assumption | (rw [((Below.refl _ _).alloc (Nat.le_refl _) _).frozen (by dsimp only; omega)]; assumption) | (simp [go_sem]; done)
    have x3w4 : w4.cell? ⟨w.heap.size, 3, none⟩ = some (.int .i64 0) := by rw [hbw4.cell (p := ⟨w.heap.size, 3, none⟩) (by dsimp only; (try simp) <;> omega) (by dsimp only; omega)]; first | assumption | (rw [World.cell?_alloc_past _ _ _ (by omega)]; assumption) | (simp [go_sem]; done)
    have u3w4 : w4.frozen? ⟨w.heap.size, 3, none⟩ = false := by rw [hbw4.frozen (p := ⟨w.heap.size, 3, none⟩) (by dsimp only; (try simp) <;> omega) (by dsimp only; omega)]; first | assumption | (rw [((Below.refl _ _).alloc (Nat.le_refl _) _).frozen (by dsimp only; omega)]; assumption) | (simp [go_sem]; done)
    have y3w4 : w4.cell? ⟨w2.heap.size, 3, none⟩ = some (.int .i64 t) := by rw [hbw4.cell (p := ⟨w2.heap.size, 3, none⟩) (by dsimp only; (try simp) <;> omega) (by dsimp only; omega)]; first | assumption | (rw [World.cell?_alloc_past _ _ _ (by omega)]; assumption) | (simp [go_sem]; done)
    have v3w4 : w4.frozen? ⟨w2.heap.size, 3, none⟩ = false := by rw [hbw4.frozen (p := ⟨w2.heap.size, 3, none⟩) (by dsimp only; (try simp) <;> omega) (by dsimp only; omega)]; first | assumption | (rw [((Below.refl _ _).alloc (Nat.le_refl _) _).frozen (by dsimp only; omega)]; assumption) | (simp [go_sem]; done)
    have x4w4 : w4.cell? ⟨w.heap.size, 4, none⟩ = some (.int .i64 0) := by rw [hbw4.cell (p := ⟨w.heap.size, 4, none⟩) (by dsimp only; (try simp) <;> omega) (by dsimp only; omega)]; first | assumption | (rw [World.cell?_alloc_past _ _ _ (by omega)]; assumption) | (simp [go_sem]; done)
    have u4w4 : w4.frozen? ⟨w.heap.size, 4, none⟩ = false := by rw [hbw4.frozen (p := ⟨w.heap.size, 4, none⟩) (by dsimp only; (try simp) <;> omega) (by dsimp only; omega)]; first | assumption | (rw [((Below.refl _ _).alloc (Nat.le_refl _) _).frozen (by dsimp only; omega)]; assumption) | (simp [go_sem]; done)
    have y4w4 : w4.cell? ⟨w2.heap.size, 4, none⟩ = some (.int .i64 a) := by rw [hbw4.cell (p := ⟨w2.heap.size, 4, none⟩) (by dsimp only; (try simp) <;> omega) (by dsimp only; omega)]; first | assumption | (rw [World.cell?_alloc_past _ _ _ (by omega)]; assumption) | (simp [go_sem]; done)
    have v4w4 : w4.frozen? ⟨w2.heap.size, 4, none⟩ = false := by rw [hbw4.frozen (p := ⟨w2.heap.size, 4, none⟩) (by dsimp only; (try simp) <;> omega) (by dsimp only; omega)]; first | assumption | (rw [((Below.refl _ _).alloc (Nat.le_refl _) _).frozen (by dsimp only; omega)]; assumption) | (simp [go_sem]; done)
    have x5w4 : w4.cell? ⟨w.heap.size, 5, none⟩ = some (.int .i64 0) := by rw [hbw4.cell (p := ⟨w.heap.size, 5, none⟩) (by dsimp only; (try simp) <;> omega) (by dsimp only; omega)]; first | assumption | (rw [World.cell?_alloc_past _ _ _ (by omega)]; assumption) | (simp [go_sem]; done)
    have u5w4 : w4.frozen? ⟨w.heap.size, 5, none⟩ = false := by rw [hbw4.frozen (p := ⟨w.heap.size, 5, none⟩) (by dsimp only; (try simp) <;> omega) (by dsimp only; omega)]; first | assumption | (rw [((Below.refl _ _).alloc (Nat.le_refl _) _).frozen (by dsimp only; omega)]; assumption) | (simp [go_sem]; done)
    have y5w4 : w4.cell? ⟨w2.heap.size, 5, none⟩ = some (.int .i64 b) := by rw [hbw4.cell (p := ⟨w2.heap.size, 5, none⟩) (by dsimp only; (try simp) <;> omega) (by dsimp only; omega)]; first | assumption | (rw [World.cell?_alloc_past _ _ _ (by omega)]; assumption) | (simp [go_sem]; done)
    have v5w4 : w4.frozen? ⟨w2.heap.size, 5, none⟩ = false := by rw [hbw4.frozen (p := ⟨w2.heap.size, 5, none⟩) (by dsimp only; (try simp) <;> omega) (by dsimp only; omega)]; first | assumption | (rw [((Below.refl _ _).alloc (Nat.le_refl _) _).frozen (by dsimp only; omega)]; assumption) | (simp [go_sem]; done)
    clear x0w3 u0w3 y0w3 v0w3 x1w3 u1w3 y1w3 v1w3 x2w3 u2w3 y2w3 v2w3 x3w3 u3w3 y3w3 v3w3 x4w3 u4w3 y4w3 v4w3 x5w3 u5w3 y5w3 v5w3
    have hB4 : Below w.heap.size w w4 := hB3.trans (hbw4.below (by omega) (by omega))
    clear hbw4 hR3 hB3
    go_wp2_with fail
    exact bodyPost_ret (v := .agg #[.int .i64 k, .int .i64 r, .int .i64 (q - 1), .int .i64 t, .int .i64 a, .int .i64 b]) (by simp [results, Tryd.results11, go_sem, x0w4, x1w4, x2w4, x3w4, x4w4, x5w4]) rfl
      ⟨k, r, q - 1, t, a, b, rfl, (((((((hB4.setCell (by dsimp only; omega) _).setCell (by dsimp only; omega) _).setCell (by dsimp only; omega) _).setCell (by dsimp only; omega) _).setCell (by dsimp only; omega) _).setCell (by dsimp only; omega) _).setCell (by dsimp only; omega) _)⟩
  · have hx1 : (x == 0) = false := by simp [hx0]
    go_wp2_with fail
    exact bodyPost_ret (v := .agg #[.int .i64 k, .int .i64 r, .int .i64 s, .int .i64 t, .int .i64 a, .int .i64 b]) (by simp [results, Tryd.results11, go_sem, x0w3, x1w3, x2w3, x3w3, x4w3, x5w3]) rfl
      ⟨k, r, s, t, a, b, rfl, ((((((hB3.setCell (by dsimp only; omega) _).setCell (by dsimp only; omega) _).setCell (by dsimp only; omega) _).setCell (by dsimp only; omega) _).setCell (by dsimp only; omega) _).setCell (by dsimp only; omega) _)⟩
end Go.Proofs.YtfadpahbmngmfaaDoor
