/-
  A drawn step, seldom spoilt, over this translation: some step.
-/
import Derived.Test.YtcpkfganjndlhaaGreatDoorOpDraw
namespace Go.Proofs.YtcpkfganjndlhaaGreatDoor
open Go.ChangeShapes Go.WideShapes Go.ChangeAt Go.RowKit Go.Joins
attribute [local go_sem ↓] Go.wp_at_zero Go.wp_at_succ
set_option maxHeartbeats 4000000 in
theorem anyOp_any (R : Nat) (p : Int) (w : World) (h : Rd R p w) (hp : p ≤ 700000) :
    Calls Tryz.prog 15 #[.pointer (some ⟨R, 0, none⟩)] w fun e w' => ∃ k r s t a b p', e = .returned (.agg #[.int .i64 k, .int .i64 r, .int .i64 s, .int .i64 t, .int .i64 a, .int .i64 b]) ∧ But R w w' ∧ (p ≤ p' ∧ p' ≤ p + 40) ∧ Rd R p' w' := by
  have hlt := h.lt
  have hp0 := h.p0
  go_enter Tryz.func15, Tryz.ntmps15
  go_wp2_with fail
  refine (op_any R p 16 _ (h.below ((Below.refl _ _).alloc (Nat.le_refl _) _)) (by omega) (by omega) (by omega)).mono ?_
  rintro e w1 ⟨k, r, s, t, a, b, p1, rfl, hb1, hp1, hR1⟩
  obtain ⟨hc1, hf1⟩ := butcell hb1
  have hz1 := hb1.size
  simp at hz1
  have hO : OI R w.heap.size w1.heap.size w k r s t a b p1 (w1.alloc (.cells #[.int .i64 k, .int .i64 r, .int .i64 s, .int .i64 t, .int .i64 a, .int .i64 b] 26)) :=
    ⟨by simp [go_sem], by simp [go_sem], by simp [go_sem], by simp [go_sem], by simp [go_sem], by simp [go_sem], by simp [go_sem], by simp [go_sem], by simp [go_sem], by simp [go_sem], by simp [go_sem], by simp [go_sem],
     by rw [World.cell?_alloc_past _ _ _ (by omega), hc1 _ _ (by simp) (by omega)]; simp [go_sem], by rw [World.cell?_alloc_past _ _ _ (by omega), hc1 _ _ (by simp) (by omega)]; simp [go_sem], by rw [World.cell?_alloc_past _ _ _ (by omega), hc1 _ _ (by simp) (by omega)]; simp [go_sem], by rw [World.cell?_alloc_past _ _ _ (by omega), hc1 _ _ (by simp) (by omega)]; simp [go_sem], by rw [World.cell?_alloc_past _ _ _ (by omega), hc1 _ _ (by simp) (by omega)]; simp [go_sem], by rw [World.cell?_alloc_past _ _ _ (by omega), hc1 _ _ (by simp) (by omega)]; simp [go_sem],
     by rw [((Below.refl w1.heap.size w1).alloc (Nat.le_refl _) _).frozen (p := ⟨w.heap.size, 0, none⟩) (by dsimp only; omega), hf1 _ _ (by simp) (by omega)]; simp [go_sem], by rw [((Below.refl w1.heap.size w1).alloc (Nat.le_refl _) _).frozen (p := ⟨w.heap.size, 1, none⟩) (by dsimp only; omega), hf1 _ _ (by simp) (by omega)]; simp [go_sem], by rw [((Below.refl w1.heap.size w1).alloc (Nat.le_refl _) _).frozen (p := ⟨w.heap.size, 2, none⟩) (by dsimp only; omega), hf1 _ _ (by simp) (by omega)]; simp [go_sem], by rw [((Below.refl w1.heap.size w1).alloc (Nat.le_refl _) _).frozen (p := ⟨w.heap.size, 3, none⟩) (by dsimp only; omega), hf1 _ _ (by simp) (by omega)]; simp [go_sem], by rw [((Below.refl w1.heap.size w1).alloc (Nat.le_refl _) _).frozen (p := ⟨w.heap.size, 4, none⟩) (by dsimp only; omega), hf1 _ _ (by simp) (by omega)]; simp [go_sem], by rw [((Below.refl w1.heap.size w1).alloc (Nat.le_refl _) _).frozen (p := ⟨w.heap.size, 5, none⟩) (by dsimp only; omega), hf1 _ _ (by simp) (by omega)]; simp [go_sem],
     hlt, by omega, by simp, Nat.le_refl _, (((But.refl _ _).alloc _).trans hb1).alloc _, hR1.below ((Below.refl _ _).alloc (Nat.le_refl _) _)⟩
  clear hc1 hf1 hb1 hR1
  go_wp2_with fail
  generalize (w1.alloc (.cells #[.int .i64 k, .int .i64 r, .int .i64 s, .int .i64 t, .int .i64 a, .int .i64 b] 26)) = W1 at *
  generalize w1.heap.size = c at *
  have ldc := hO.dc
  have hne3 : c ≠ w.heap.size := by omega
  have hne5 : w.heap.size ≠ c := by omega
  refine (pick_any R p1 20 _ hO.rd (by omega) (by omega) (by omega)).mono ?_
  rintro e w2 ⟨x, rfl, hx, hb2, hR2⟩
  have hO2 := hO.go hb2 hR2
  clear hb2 hR2 hO
  by_cases x0 : x = 0
  · subst x0
    go_wp2_with fail
    refine (pick_any R (p1 + 1) 17 _ hO2.rd (by omega) (by omega) (by omega)).mono ?_
    rintro e w3 ⟨y, rfl, hy, hb3, hR3⟩
    have hO3 := hO2.go hb3 hR3
    clear hb3 hR3 hO2
    have c0 := hO3.c0; have f0 := hO3.f0; have g0 := hO3.g0; have e0 := hO3.e0
    have c1 := hO3.c1; have f1 := hO3.f1; have g1 := hO3.g1; have e1 := hO3.e1
    have c2 := hO3.c2; have f2 := hO3.f2; have g2 := hO3.g2; have e2 := hO3.e2
    have c3 := hO3.c3; have f3 := hO3.f3; have g3 := hO3.g3; have e3 := hO3.e3
    have c4 := hO3.c4; have f4 := hO3.f4; have g4 := hO3.g4; have e4 := hO3.e4
    have c5 := hO3.c5; have f5 := hO3.f5; have g5 := hO3.g5; have e5 := hO3.e5
    have hF := hO3.set0 y
    go_wp2_with fail
    exact bodyPost_ret (v := .agg #[.int .i64 y, .int .i64 r, .int .i64 s, .int .i64 t, .int .i64 a, .int .i64 b]) (by simp [results, Tryz.results15, go_sem, g0, g1, g2, g3, g4, g5]) rfl
      ⟨y, r, s, t, a, b, (p1 + 1 + 1), rfl, ((((((hF.but.setNew (by dsimp only; omega) _).setNew (by dsimp only; omega) _).setNew (by dsimp only; omega) _).setNew (by dsimp only; omega) _).setNew (by dsimp only; omega) _).setNew (by dsimp only; omega) _), by omega, hF.rd.but (C := w.heap.size) (But.setCell (R := w.heap.size) (But.setCell (R := w.heap.size) (But.setCell (R := w.heap.size) (But.setCell (R := w.heap.size) (But.setCell (R := w.heap.size) (But.setCell (R := w.heap.size) (But.refl _ _) (p := ⟨w.heap.size, 0, none⟩) rfl _) (p := ⟨w.heap.size, 1, none⟩) rfl _) (p := ⟨w.heap.size, 2, none⟩) rfl _) (p := ⟨w.heap.size, 3, none⟩) rfl _) (p := ⟨w.heap.size, 4, none⟩) rfl _) (p := ⟨w.heap.size, 5, none⟩) rfl _) (by omega)⟩
  · have x0' : (x == 0) = false := by simp [x0]
    by_cases x1 : x = 1
    · subst x1
      go_wp2_with fail
      refine (pick_any R (p1 + 1) 6 _ hO2.rd (by omega) (by omega) (by omega)).mono ?_
      rintro e w3 ⟨y, rfl, hy, hb3, hR3⟩
      have hO3 := hO2.go hb3 hR3
      clear hb3 hR3 hO2
      have c0 := hO3.c0; have f0 := hO3.f0; have g0 := hO3.g0; have e0 := hO3.e0
      have c1 := hO3.c1; have f1 := hO3.f1; have g1 := hO3.g1; have e1 := hO3.e1
      have c2 := hO3.c2; have f2 := hO3.f2; have g2 := hO3.g2; have e2 := hO3.e2
      have c3 := hO3.c3; have f3 := hO3.f3; have g3 := hO3.g3; have e3 := hO3.e3
      have c4 := hO3.c4; have f4 := hO3.f4; have g4 := hO3.g4; have e4 := hO3.e4
      have c5 := hO3.c5; have f5 := hO3.f5; have g5 := hO3.g5; have e5 := hO3.e5
      have hF := hO3.set1 (y - 1)
      go_wp2_with fail
      exact bodyPost_ret (v := .agg #[.int .i64 k, .int .i64 (y - 1), .int .i64 s, .int .i64 t, .int .i64 a, .int .i64 b]) (by simp [results, Tryz.results15, go_sem, g0, g1, g2, g3, g4, g5]) rfl
        ⟨k, (y - 1), s, t, a, b, (p1 + 1 + 1), rfl, ((((((hF.but.setNew (by dsimp only; omega) _).setNew (by dsimp only; omega) _).setNew (by dsimp only; omega) _).setNew (by dsimp only; omega) _).setNew (by dsimp only; omega) _).setNew (by dsimp only; omega) _), by omega, hF.rd.but (C := w.heap.size) (But.setCell (R := w.heap.size) (But.setCell (R := w.heap.size) (But.setCell (R := w.heap.size) (But.setCell (R := w.heap.size) (But.setCell (R := w.heap.size) (But.setCell (R := w.heap.size) (But.refl _ _) (p := ⟨w.heap.size, 0, none⟩) rfl _) (p := ⟨w.heap.size, 1, none⟩) rfl _) (p := ⟨w.heap.size, 2, none⟩) rfl _) (p := ⟨w.heap.size, 3, none⟩) rfl _) (p := ⟨w.heap.size, 4, none⟩) rfl _) (p := ⟨w.heap.size, 5, none⟩) rfl _) (by omega)⟩
    · have x1' : (x == 1) = false := by simp [x1]
      by_cases x2 : x = 2
      · subst x2
        go_wp2_with fail
        refine (val_any R (p1 + 1) _ hO2.rd (by omega)).mono ?_
        rintro e w3 ⟨y, z, p3, rfl, hy, hb3, hp3, hR3⟩
        have hO3 := hO2.go hb3 hR3
        clear hb3 hR3 hO2
        have c0 := hO3.c0; have f0 := hO3.f0; have g0 := hO3.g0; have e0 := hO3.e0
        have c1 := hO3.c1; have f1 := hO3.f1; have g1 := hO3.g1; have e1 := hO3.e1
        have c2 := hO3.c2; have f2 := hO3.f2; have g2 := hO3.g2; have e2 := hO3.e2
        have c3 := hO3.c3; have f3 := hO3.f3; have g3 := hO3.g3; have e3 := hO3.e3
        have c4 := hO3.c4; have f4 := hO3.f4; have g4 := hO3.g4; have e4 := hO3.e4
        have c5 := hO3.c5; have f5 := hO3.f5; have g5 := hO3.g5; have e5 := hO3.e5
        have hF := (hO3.set4 y).set5 z
        go_wp2_with fail
        exact bodyPost_ret (v := .agg #[.int .i64 k, .int .i64 r, .int .i64 s, .int .i64 t, .int .i64 y, .int .i64 z]) (by simp [results, Tryz.results15, go_sem, g0, g1, g2, g3, g4, g5]) rfl
          ⟨k, r, s, t, y, z, p3, rfl, ((((((hF.but.setNew (by dsimp only; omega) _).setNew (by dsimp only; omega) _).setNew (by dsimp only; omega) _).setNew (by dsimp only; omega) _).setNew (by dsimp only; omega) _).setNew (by dsimp only; omega) _), by omega, hF.rd.but (C := w.heap.size) (But.setCell (R := w.heap.size) (But.setCell (R := w.heap.size) (But.setCell (R := w.heap.size) (But.setCell (R := w.heap.size) (But.setCell (R := w.heap.size) (But.setCell (R := w.heap.size) (But.refl _ _) (p := ⟨w.heap.size, 0, none⟩) rfl _) (p := ⟨w.heap.size, 1, none⟩) rfl _) (p := ⟨w.heap.size, 2, none⟩) rfl _) (p := ⟨w.heap.size, 3, none⟩) rfl _) (p := ⟨w.heap.size, 4, none⟩) rfl _) (p := ⟨w.heap.size, 5, none⟩) rfl _) (by omega)⟩
      · have x2' : (x == 2) = false := by simp [x2]
        have hF := hO2
        have c0 := hO2.c0; have f0 := hO2.f0; have g0 := hO2.g0; have e0 := hO2.e0
        have c1 := hO2.c1; have f1 := hO2.f1; have g1 := hO2.g1; have e1 := hO2.e1
        have c2 := hO2.c2; have f2 := hO2.f2; have g2 := hO2.g2; have e2 := hO2.e2
        have c3 := hO2.c3; have f3 := hO2.f3; have g3 := hO2.g3; have e3 := hO2.e3
        have c4 := hO2.c4; have f4 := hO2.f4; have g4 := hO2.g4; have e4 := hO2.e4
        have c5 := hO2.c5; have f5 := hO2.f5; have g5 := hO2.g5; have e5 := hO2.e5
        go_wp2_with fail
        exact bodyPost_ret (v := .agg #[.int .i64 k, .int .i64 r, .int .i64 s, .int .i64 t, .int .i64 a, .int .i64 b]) (by simp [results, Tryz.results15, go_sem, g0, g1, g2, g3, g4, g5]) rfl
          ⟨k, r, s, t, a, b, (p1 + 1), rfl, ((((((hF.but.setNew (by dsimp only; omega) _).setNew (by dsimp only; omega) _).setNew (by dsimp only; omega) _).setNew (by dsimp only; omega) _).setNew (by dsimp only; omega) _).setNew (by dsimp only; omega) _), by omega, hF.rd.but (C := w.heap.size) (But.setCell (R := w.heap.size) (But.setCell (R := w.heap.size) (But.setCell (R := w.heap.size) (But.setCell (R := w.heap.size) (But.setCell (R := w.heap.size) (But.setCell (R := w.heap.size) (But.refl _ _) (p := ⟨w.heap.size, 0, none⟩) rfl _) (p := ⟨w.heap.size, 1, none⟩) rfl _) (p := ⟨w.heap.size, 2, none⟩) rfl _) (p := ⟨w.heap.size, 3, none⟩) rfl _) (p := ⟨w.heap.size, 4, none⟩) rfl _) (p := ⟨w.heap.size, 5, none⟩) rfl _) (by omega)⟩
end Go.Proofs.YtcpkfganjndlhaaGreatDoor
