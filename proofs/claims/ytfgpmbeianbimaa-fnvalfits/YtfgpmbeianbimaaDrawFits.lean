/-
  What spec.DrawValFits draws, over this translation: whatever the code, some value and some kind; nothing that was there turns.
-/
import Derived.Test.YtfgpmbeianbimaaVal
namespace Go.Proofs.Ytfgpmbeianbimaa
open Go.ChangeShapes Go.WideShapes Go.ChangeAt Go.RowKit Go.Joins
attribute [local go_sem ↓] Go.wp_at_zero Go.wp_at_succ
set_option maxHeartbeats 1000000 in
theorem drawFits_any (a : Option Addr) (len cap : Nat) (w : World) (h : Code0 w a len cap) :
    Calls Try.prog 16 #[.slice a len cap] w fun e w' => ∃ k n kind, e = .returned (.tuple #[.agg #[.int .i64 k, .int .i64 n], .int .i64 kind]) ∧ (-100 ≤ k ∧ k ≤ 100 ∧ -100 ≤ n ∧ n ≤ 100 ∧ 0 ≤ kind ∧ kind < 5) ∧ Below w.heap.size w w' := by
  go_enter Try.func16, Try.ntmps16
  go_wp2_with fail
  refine (open_any a len cap _ (h.below ((Below.refl _ _).alloc (Nat.le_refl _) _))).mono ?_
  rintro e w1 ⟨rfl, hb1, hR1'⟩
  have hR1 : Rd (w.heap.size + 1) 0 w1 := by simpa using hR1'
  obtain ⟨hc1, hf1⟩ := bcell hb1
  have r0 : w1.cell? ⟨w.heap.size, 0, none⟩ = some (.int .i64 0) := by rw [hc1 _ _ (by simp)]; simp [go_sem]
  have r1 : w1.cell? ⟨w.heap.size, 1, none⟩ = some (.int .i64 0) := by rw [hc1 _ _ (by simp)]; simp [go_sem]
  have f0 : w1.frozen? ⟨w.heap.size, 0, none⟩ = false := by rw [hf1 _ _ (by simp)]; simp [go_sem]
  have f1 : w1.frozen? ⟨w.heap.size, 1, none⟩ = false := by rw [hf1 _ _ (by simp)]; simp [go_sem]
  have hB1 : Below w.heap.size w w1 := ((Below.refl _ _).alloc (Nat.le_refl _) _).trans (hb1.mono (by simp))
  have hz1 := hR1.lt
  clear hR1' hc1 hf1 hb1
  go_wp2_with fail
  refine (val_any (w.heap.size + 1) 0 _ hR1 (by omega)).mono ?_
  rintro e w2 ⟨k, n, p', rfl, hkn, hb2, hp, hR2⟩
  have hz2 := hb2.size
  go_wp2_with fail
  refine (pick_any (w.heap.size + 1) p' 5 _ hR2 (by omega) (by omega) (by omega)).mono ?_
  rintro e w3 ⟨r, rfl, hr, hb3, hR3⟩
  have hb := hb2.trans hb3
  have q0 : w3.cell? ⟨w.heap.size, 0, none⟩ = some (.int .i64 0) := by rw [hb.cell (p := ⟨w.heap.size, 0, none⟩) (by dsimp only; omega) (by dsimp only; omega)]; exact r0
  have q1 : w3.cell? ⟨w.heap.size, 1, none⟩ = some (.int .i64 0) := by rw [hb.cell (p := ⟨w.heap.size, 1, none⟩) (by dsimp only; omega) (by dsimp only; omega)]; exact r1
  have g0 : w3.frozen? ⟨w.heap.size, 0, none⟩ = false := by rw [hb.frozen (p := ⟨w.heap.size, 0, none⟩) (by dsimp only; omega) (by dsimp only; omega)]; exact f0
  have g1 : w3.frozen? ⟨w.heap.size, 1, none⟩ = false := by rw [hb.frozen (p := ⟨w.heap.size, 1, none⟩) (by dsimp only; omega) (by dsimp only; omega)]; exact f1
  have hB3 : Below w.heap.size w w3 := hB1.trans (hb.below (by omega) (by omega))
  clear r0 r1 f0 f1 hb hb2 hb3 hR1 hR2 hR3
  go_wp2_with fail
  exact bodyPost_ret (v := .tuple #[.agg #[.int .i64 k, .int .i64 n], .int .i64 r]) (by simp [results, Try.results16, go_sem, q0, q1]) rfl
    ⟨k, n, r, rfl, by omega, (hB3.setCell (by dsimp only; omega) _).setCell (by dsimp only; omega) _⟩
end Go.Proofs.Ytfgpmbeianbimaa
