/-
  What spec.DrawOpText draws, over this translation: whatever the code, some step; nothing that was there turns.
-/
import Derived.Test.YtcpkfganjndlhaaGreatDoorOpAny
namespace Go.Proofs.YtcpkfganjndlhaaGreatDoor
open Go.ChangeShapes Go.WideShapes Go.ChangeAt Go.RowKit Go.Joins
attribute [local go_sem ↓] Go.wp_at_zero Go.wp_at_succ
set_option maxHeartbeats 2000000 in
theorem drawOpText_any (p : Option Addr) (len cap : Nat) (w : World) (h : Code0 w p len cap) :
    Calls Tryz.prog 7 #[.slice p len cap] w fun e w' => ∃ k r s t a b, e = .returned (.agg #[.int .i64 k, .int .i64 r, .int .i64 s, .int .i64 t, .int .i64 a, .int .i64 b]) ∧ Below w.heap.size w w' := by
  go_enter Tryz.func7, Tryz.ntmps7
  go_wp2_with fail
  refine (open_any p len cap _ (h.below ((Below.refl _ _).alloc (Nat.le_refl _) _))).mono ?_
  rintro e w1 ⟨rfl, hbw1, hR1'⟩
  have hR1 : Rd (w.heap.size + 1) 0 w1 := by simpa using hR1'
  clear hR1'
  have hzw1 := hbw1.size
  try simp at hzw1
  have x0w1 : w1.cell? ⟨w.heap.size, 0, none⟩ = some (.int .i64 0) := by rw [hbw1.cell (p := ⟨w.heap.size, 0, none⟩) (by dsimp only; (try simp) <;> omega)]; first | assumption | (simp [go_sem]; done)
  have u0w1 : w1.frozen? ⟨w.heap.size, 0, none⟩ = false := by rw [hbw1.frozen (p := ⟨w.heap.size, 0, none⟩) (by dsimp only; (try simp) <;> omega)]; first | assumption | (simp [go_sem]; done)
  have x1w1 : w1.cell? ⟨w.heap.size, 1, none⟩ = some (.int .i64 0) := by rw [hbw1.cell (p := ⟨w.heap.size, 1, none⟩) (by dsimp only; (try simp) <;> omega)]; first | assumption | (simp [go_sem]; done)
  have u1w1 : w1.frozen? ⟨w.heap.size, 1, none⟩ = false := by rw [hbw1.frozen (p := ⟨w.heap.size, 1, none⟩) (by dsimp only; (try simp) <;> omega)]; first | assumption | (simp [go_sem]; done)
  have x2w1 : w1.cell? ⟨w.heap.size, 2, none⟩ = some (.int .i64 0) := by rw [hbw1.cell (p := ⟨w.heap.size, 2, none⟩) (by dsimp only; (try simp) <;> omega)]; first | assumption | (simp [go_sem]; done)
  have u2w1 : w1.frozen? ⟨w.heap.size, 2, none⟩ = false := by rw [hbw1.frozen (p := ⟨w.heap.size, 2, none⟩) (by dsimp only; (try simp) <;> omega)]; first | assumption | (simp [go_sem]; done)
  have x3w1 : w1.cell? ⟨w.heap.size, 3, none⟩ = some (.int .i64 0) := by rw [hbw1.cell (p := ⟨w.heap.size, 3, none⟩) (by dsimp only; (try simp) <;> omega)]; first | assumption | (simp [go_sem]; done)
  have u3w1 : w1.frozen? ⟨w.heap.size, 3, none⟩ = false := by rw [hbw1.frozen (p := ⟨w.heap.size, 3, none⟩) (by dsimp only; (try simp) <;> omega)]; first | assumption | (simp [go_sem]; done)
  have x4w1 : w1.cell? ⟨w.heap.size, 4, none⟩ = some (.int .i64 0) := by rw [hbw1.cell (p := ⟨w.heap.size, 4, none⟩) (by dsimp only; (try simp) <;> omega)]; first | assumption | (simp [go_sem]; done)
  have u4w1 : w1.frozen? ⟨w.heap.size, 4, none⟩ = false := by rw [hbw1.frozen (p := ⟨w.heap.size, 4, none⟩) (by dsimp only; (try simp) <;> omega)]; first | assumption | (simp [go_sem]; done)
  have x5w1 : w1.cell? ⟨w.heap.size, 5, none⟩ = some (.int .i64 0) := by rw [hbw1.cell (p := ⟨w.heap.size, 5, none⟩) (by dsimp only; (try simp) <;> omega)]; first | assumption | (simp [go_sem]; done)
  have u5w1 : w1.frozen? ⟨w.heap.size, 5, none⟩ = false := by rw [hbw1.frozen (p := ⟨w.heap.size, 5, none⟩) (by dsimp only; (try simp) <;> omega)]; first | assumption | (simp [go_sem]; done)
  have hB1 : Below w.heap.size w w1 := ((Below.refl _ _).alloc (Nat.le_refl _) _).trans (hbw1.mono (by simp))
  have hl1 := hR1.lt
  clear hbw1
  go_wp2_with fail
  refine (anyOp_any (w.heap.size + 1) 0 _ hR1 (by omega)).mono ?_
  rintro e w2 ⟨k, r, s, t, a, b, p2, rfl, hbw2, hp2, hR2⟩
  have hzw2 := hbw2.size
  try simp at hzw2
  have x0w2 : w2.cell? ⟨w.heap.size, 0, none⟩ = some (.int .i64 0) := by rw [hbw2.cell (p := ⟨w.heap.size, 0, none⟩) (by dsimp only; (try simp) <;> omega) (by dsimp only; omega)]; first | assumption | (simp [go_sem]; done)
  have u0w2 : w2.frozen? ⟨w.heap.size, 0, none⟩ = false := by rw [hbw2.frozen (p := ⟨w.heap.size, 0, none⟩) (by dsimp only; (try simp) <;> omega) (by dsimp only; omega)]; first | assumption | (simp [go_sem]; done)
  have x1w2 : w2.cell? ⟨w.heap.size, 1, none⟩ = some (.int .i64 0) := by rw [hbw2.cell (p := ⟨w.heap.size, 1, none⟩) (by dsimp only; (try simp) <;> omega) (by dsimp only; omega)]; first | assumption | (simp [go_sem]; done)
  have u1w2 : w2.frozen? ⟨w.heap.size, 1, none⟩ = false := by rw [hbw2.frozen (p := ⟨w.heap.size, 1, none⟩) (by dsimp only; (try simp) <;> omega) (by dsimp only; omega)]; first | assumption | (simp [go_sem]; done)
  have x2w2 : w2.cell? ⟨w.heap.size, 2, none⟩ = some (.int .i64 0) := by rw [hbw2.cell (p := ⟨w.heap.size, 2, none⟩) (by dsimp only; (try simp) <;> omega) (by dsimp only; omega)]; first | assumption | (simp [go_sem]; done)
  have u2w2 : w2.frozen? ⟨w.heap.size, 2, none⟩ = false := by rw [hbw2.frozen (p := ⟨w.heap.size, 2, none⟩) (by dsimp only; (try simp) <;> omega) (by dsimp only; omega)]; first | assumption | (simp [go_sem]; done)
  have x3w2 : w2.cell? ⟨w.heap.size, 3, none⟩ = some (.int .i64 0) := by rw [hbw2.cell (p := ⟨w.heap.size, 3, none⟩) (by dsimp only; (try simp) <;> omega) (by dsimp only; omega)]; first | assumption | (simp [go_sem]; done)
  have u3w2 : w2.frozen? ⟨w.heap.size, 3, none⟩ = false := by rw [hbw2.frozen (p := ⟨w.heap.size, 3, none⟩) (by dsimp only; (try simp) <;> omega) (by dsimp only; omega)]; first | assumption | (simp [go_sem]; done)
  have x4w2 : w2.cell? ⟨w.heap.size, 4, none⟩ = some (.int .i64 0) := by rw [hbw2.cell (p := ⟨w.heap.size, 4, none⟩) (by dsimp only; (try simp) <;> omega) (by dsimp only; omega)]; first | assumption | (simp [go_sem]; done)
  have u4w2 : w2.frozen? ⟨w.heap.size, 4, none⟩ = false := by rw [hbw2.frozen (p := ⟨w.heap.size, 4, none⟩) (by dsimp only; (try simp) <;> omega) (by dsimp only; omega)]; first | assumption | (simp [go_sem]; done)
  have x5w2 : w2.cell? ⟨w.heap.size, 5, none⟩ = some (.int .i64 0) := by rw [hbw2.cell (p := ⟨w.heap.size, 5, none⟩) (by dsimp only; (try simp) <;> omega) (by dsimp only; omega)]; first | assumption | (simp [go_sem]; done)
  have u5w2 : w2.frozen? ⟨w.heap.size, 5, none⟩ = false := by rw [hbw2.frozen (p := ⟨w.heap.size, 5, none⟩) (by dsimp only; (try simp) <;> omega) (by dsimp only; omega)]; first | assumption | (simp [go_sem]; done)
  clear x0w1 u0w1 x1w1 u1w1 x2w1 u2w1 x3w1 u3w1 x4w1 u4w1 x5w1 u5w1
  have hB2 : Below w.heap.size w w2 := hB1.trans (hbw2.below (by omega) (by omega))
  clear hbw2 hR1 hB1
  go_wp2_with fail
  exact bodyPost_ret (v := .agg #[.int .i64 k, .int .i64 r, .int .i64 s, .int .i64 t, .int .i64 a, .int .i64 b]) (by simp [results, Tryz.results7, go_sem, x0w2, x1w2, x2w2, x3w2, x4w2, x5w2]) rfl
    ⟨k, r, s, t, a, b, rfl, ((((((hB2.setCell (by dsimp only; omega) _).setCell (by dsimp only; omega) _).setCell (by dsimp only; omega) _).setCell (by dsimp only; omega) _).setCell (by dsimp only; omega) _).setCell (by dsimp only; omega) _)⟩
end Go.Proofs.YtcpkfganjndlhaaGreatDoor
