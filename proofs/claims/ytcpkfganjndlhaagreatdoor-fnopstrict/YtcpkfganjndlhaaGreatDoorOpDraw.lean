/-
  A drawn step, over this translation: whatever the code, some step; nothing that was there turns but the reader.
-/
import Derived.Test.YtcpkfganjndlhaaGreatDoorVal
import Derived.Test.YtcpkfganjndlhaaGreatDoorOpForm
namespace Go.Proofs.YtcpkfganjndlhaaGreatDoor
open Go.ChangeShapes Go.WideShapes Go.ChangeAt Go.RowKit Go.Joins
attribute [local go_sem ↓] Go.wp_at_zero Go.wp_at_succ
/-- a box of a step, of the walk's own, and a reader below it -/
structure OI (R d c : Nat) (w : World) (k r s t a b p : Int) (wc : World) : Prop where
  c0 : wc.cell? ⟨c, 0, none⟩ = some (.int .i64 k)
  c1 : wc.cell? ⟨c, 1, none⟩ = some (.int .i64 r)
  c2 : wc.cell? ⟨c, 2, none⟩ = some (.int .i64 s)
  c3 : wc.cell? ⟨c, 3, none⟩ = some (.int .i64 t)
  c4 : wc.cell? ⟨c, 4, none⟩ = some (.int .i64 a)
  c5 : wc.cell? ⟨c, 5, none⟩ = some (.int .i64 b)
  f0 : wc.frozen? ⟨c, 0, none⟩ = false
  f1 : wc.frozen? ⟨c, 1, none⟩ = false
  f2 : wc.frozen? ⟨c, 2, none⟩ = false
  f3 : wc.frozen? ⟨c, 3, none⟩ = false
  f4 : wc.frozen? ⟨c, 4, none⟩ = false
  f5 : wc.frozen? ⟨c, 5, none⟩ = false
  g0 : wc.cell? ⟨d, 0, none⟩ = some (.int .i64 0)
  g1 : wc.cell? ⟨d, 1, none⟩ = some (.int .i64 0)
  g2 : wc.cell? ⟨d, 2, none⟩ = some (.int .i64 0)
  g3 : wc.cell? ⟨d, 3, none⟩ = some (.int .i64 0)
  g4 : wc.cell? ⟨d, 4, none⟩ = some (.int .i64 0)
  g5 : wc.cell? ⟨d, 5, none⟩ = some (.int .i64 0)
  e0 : wc.frozen? ⟨d, 0, none⟩ = false
  e1 : wc.frozen? ⟨d, 1, none⟩ = false
  e2 : wc.frozen? ⟨d, 2, none⟩ = false
  e3 : wc.frozen? ⟨d, 3, none⟩ = false
  e4 : wc.frozen? ⟨d, 4, none⟩ = false
  e5 : wc.frozen? ⟨d, 5, none⟩ = false
  rd' : R < d
  dc : d < c
  lc : c < wc.heap.size
  new : w.heap.size ≤ d
  but : But R w wc
  rd : Rd R p wc
theorem OI.go {R d c : Nat} {w wc : World} {k r s t a b p : Int} (h : OI R d c w k r s t a b p wc) {w' : World} {p' : Int} (hb : But R wc w') (hr : Rd R p' w') : OI R d c w k r s t a b p' w' := by
  have h1 := h.rd'
  have h2 := h.dc
  have h3 := h.lc
  obtain ⟨hc, hf⟩ := butcell hb
  exact ⟨by rw [hc _ _ (by omega) (by omega)]; exact h.c0, by rw [hc _ _ (by omega) (by omega)]; exact h.c1, by rw [hc _ _ (by omega) (by omega)]; exact h.c2, by rw [hc _ _ (by omega) (by omega)]; exact h.c3, by rw [hc _ _ (by omega) (by omega)]; exact h.c4, by rw [hc _ _ (by omega) (by omega)]; exact h.c5,
    by rw [hf _ _ (by omega) (by omega)]; exact h.f0, by rw [hf _ _ (by omega) (by omega)]; exact h.f1, by rw [hf _ _ (by omega) (by omega)]; exact h.f2, by rw [hf _ _ (by omega) (by omega)]; exact h.f3, by rw [hf _ _ (by omega) (by omega)]; exact h.f4, by rw [hf _ _ (by omega) (by omega)]; exact h.f5,
    by rw [hc _ _ (by omega) (by omega)]; exact h.g0, by rw [hc _ _ (by omega) (by omega)]; exact h.g1, by rw [hc _ _ (by omega) (by omega)]; exact h.g2, by rw [hc _ _ (by omega) (by omega)]; exact h.g3, by rw [hc _ _ (by omega) (by omega)]; exact h.g4, by rw [hc _ _ (by omega) (by omega)]; exact h.g5,
    by rw [hf _ _ (by omega) (by omega)]; exact h.e0, by rw [hf _ _ (by omega) (by omega)]; exact h.e1, by rw [hf _ _ (by omega) (by omega)]; exact h.e2, by rw [hf _ _ (by omega) (by omega)]; exact h.e3, by rw [hf _ _ (by omega) (by omega)]; exact h.e4, by rw [hf _ _ (by omega) (by omega)]; exact h.e5,
    h1, h2, Nat.lt_of_lt_of_le h3 hb.size, h.new, h.but.trans hb, hr⟩
theorem OI.alloc {R d c : Nat} {w wc : World} {k r s t a b p : Int} (h : OI R d c w k r s t a b p wc) (b' : Obj) : OI R d c w k r s t a b p (wc.alloc b') :=
  h.go ((But.refl _ _).alloc _) (h.rd.below ((Below.refl _ _).alloc (Nat.le_refl _) _))
theorem OI.below {R d c : Nat} {w wc : World} {k r s t a b p : Int} (h : OI R d c w k r s t a b p wc) {w' : World} (hb : Below wc.heap.size wc w') : OI R d c w k r s t a b p w' := h.go (But.of_below hb) (h.rd.below hb)
theorem OI.set0 {R d c : Nat} {w wc : World} {k r s t a b p : Int} (h : OI R d c w k r s t a b p wc) (v : Int) : OI R d c w v r s t a b p (wc.setCell ⟨c, 0, none⟩ (.int .i64 v)) := by
  have h1 := h.rd'
  have h2 := h.dc
  have hnew := h.new
  have c0 := h.c0; have f0 := h.f0; have g0 := h.g0; have e0 := h.e0; have c1 := h.c1; have f1 := h.f1; have g1 := h.g1; have e1 := h.e1; have c2 := h.c2; have f2 := h.f2; have g2 := h.g2; have e2 := h.e2; have c3 := h.c3; have f3 := h.f3; have g3 := h.g3; have e3 := h.e3; have c4 := h.c4; have f4 := h.f4; have g4 := h.g4; have e4 := h.e4; have c5 := h.c5; have f5 := h.f5; have g5 := h.g5; have e5 := h.e5
  exact ⟨by simp [go_sem, c0], by simp [go_sem, c1], by simp [go_sem, c2], by simp [go_sem, c3], by simp [go_sem, c4], by simp [go_sem, c5], by simp [go_sem, f0], by simp [go_sem, f1], by simp [go_sem, f2], by simp [go_sem, f3], by simp [go_sem, f4], by simp [go_sem, f5], by simp [go_sem, g0], by simp [go_sem, g1], by simp [go_sem, g2], by simp [go_sem, g3], by simp [go_sem, g4], by simp [go_sem, g5], by simp [go_sem, e0], by simp [go_sem, e1], by simp [go_sem, e2], by simp [go_sem, e3], by simp [go_sem, e4], by simp [go_sem, e5],
    h1, h2, by simpa [World.setCell] using h.lc, hnew, h.but.setNew (by dsimp only; omega) _, h.rd.but (C := c) (But.setCell (R := c) (But.refl _ _) (p := ⟨c, 0, none⟩) rfl _) (by omega)⟩
theorem OI.set1 {R d c : Nat} {w wc : World} {k r s t a b p : Int} (h : OI R d c w k r s t a b p wc) (v : Int) : OI R d c w k v s t a b p (wc.setCell ⟨c, 1, none⟩ (.int .i64 v)) := by
  have h1 := h.rd'
  have h2 := h.dc
  have hnew := h.new
  have c0 := h.c0; have f0 := h.f0; have g0 := h.g0; have e0 := h.e0; have c1 := h.c1; have f1 := h.f1; have g1 := h.g1; have e1 := h.e1; have c2 := h.c2; have f2 := h.f2; have g2 := h.g2; have e2 := h.e2; have c3 := h.c3; have f3 := h.f3; have g3 := h.g3; have e3 := h.e3; have c4 := h.c4; have f4 := h.f4; have g4 := h.g4; have e4 := h.e4; have c5 := h.c5; have f5 := h.f5; have g5 := h.g5; have e5 := h.e5
  exact ⟨by simp [go_sem, c0], by simp [go_sem, c1], by simp [go_sem, c2], by simp [go_sem, c3], by simp [go_sem, c4], by simp [go_sem, c5], by simp [go_sem, f0], by simp [go_sem, f1], by simp [go_sem, f2], by simp [go_sem, f3], by simp [go_sem, f4], by simp [go_sem, f5], by simp [go_sem, g0], by simp [go_sem, g1], by simp [go_sem, g2], by simp [go_sem, g3], by simp [go_sem, g4], by simp [go_sem, g5], by simp [go_sem, e0], by simp [go_sem, e1], by simp [go_sem, e2], by simp [go_sem, e3], by simp [go_sem, e4], by simp [go_sem, e5],
    h1, h2, by simpa [World.setCell] using h.lc, hnew, h.but.setNew (by dsimp only; omega) _, h.rd.but (C := c) (But.setCell (R := c) (But.refl _ _) (p := ⟨c, 1, none⟩) rfl _) (by omega)⟩
theorem OI.set2 {R d c : Nat} {w wc : World} {k r s t a b p : Int} (h : OI R d c w k r s t a b p wc) (v : Int) : OI R d c w k r v t a b p (wc.setCell ⟨c, 2, none⟩ (.int .i64 v)) := by
  have h1 := h.rd'
  have h2 := h.dc
  have hnew := h.new
  have c0 := h.c0; have f0 := h.f0; have g0 := h.g0; have e0 := h.e0; have c1 := h.c1; have f1 := h.f1; have g1 := h.g1; have e1 := h.e1; have c2 := h.c2; have f2 := h.f2; have g2 := h.g2; have e2 := h.e2; have c3 := h.c3; have f3 := h.f3; have g3 := h.g3; have e3 := h.e3; have c4 := h.c4; have f4 := h.f4; have g4 := h.g4; have e4 := h.e4; have c5 := h.c5; have f5 := h.f5; have g5 := h.g5; have e5 := h.e5
  exact ⟨by simp [go_sem, c0], by simp [go_sem, c1], by simp [go_sem, c2], by simp [go_sem, c3], by simp [go_sem, c4], by simp [go_sem, c5], by simp [go_sem, f0], by simp [go_sem, f1], by simp [go_sem, f2], by simp [go_sem, f3], by simp [go_sem, f4], by simp [go_sem, f5], by simp [go_sem, g0], by simp [go_sem, g1], by simp [go_sem, g2], by simp [go_sem, g3], by simp [go_sem, g4], by simp [go_sem, g5], by simp [go_sem, e0], by simp [go_sem, e1], by simp [go_sem, e2], by simp [go_sem, e3], by simp [go_sem, e4], by simp [go_sem, e5],
    h1, h2, by simpa [World.setCell] using h.lc, hnew, h.but.setNew (by dsimp only; omega) _, h.rd.but (C := c) (But.setCell (R := c) (But.refl _ _) (p := ⟨c, 2, none⟩) rfl _) (by omega)⟩
theorem OI.set3 {R d c : Nat} {w wc : World} {k r s t a b p : Int} (h : OI R d c w k r s t a b p wc) (v : Int) : OI R d c w k r s v a b p (wc.setCell ⟨c, 3, none⟩ (.int .i64 v)) := by
  have h1 := h.rd'
  have h2 := h.dc
  have hnew := h.new
  have c0 := h.c0; have f0 := h.f0; have g0 := h.g0; have e0 := h.e0; have c1 := h.c1; have f1 := h.f1; have g1 := h.g1; have e1 := h.e1; have c2 := h.c2; have f2 := h.f2; have g2 := h.g2; have e2 := h.e2; have c3 := h.c3; have f3 := h.f3; have g3 := h.g3; have e3 := h.e3; have c4 := h.c4; have f4 := h.f4; have g4 := h.g4; have e4 := h.e4; have c5 := h.c5; have f5 := h.f5; have g5 := h.g5; have e5 := h.e5
  exact ⟨by simp [go_sem, c0], by simp [go_sem, c1], by simp [go_sem, c2], by simp [go_sem, c3], by simp [go_sem, c4], by simp [go_sem, c5], by simp [go_sem, f0], by simp [go_sem, f1], by simp [go_sem, f2], by simp [go_sem, f3], by simp [go_sem, f4], by simp [go_sem, f5], by simp [go_sem, g0], by simp [go_sem, g1], by simp [go_sem, g2], by simp [go_sem, g3], by simp [go_sem, g4], by simp [go_sem, g5], by simp [go_sem, e0], by simp [go_sem, e1], by simp [go_sem, e2], by simp [go_sem, e3], by simp [go_sem, e4], by simp [go_sem, e5],
    h1, h2, by simpa [World.setCell] using h.lc, hnew, h.but.setNew (by dsimp only; omega) _, h.rd.but (C := c) (But.setCell (R := c) (But.refl _ _) (p := ⟨c, 3, none⟩) rfl _) (by omega)⟩
theorem OI.set4 {R d c : Nat} {w wc : World} {k r s t a b p : Int} (h : OI R d c w k r s t a b p wc) (v : Int) : OI R d c w k r s t v b p (wc.setCell ⟨c, 4, none⟩ (.int .i64 v)) := by
  have h1 := h.rd'
  have h2 := h.dc
  have hnew := h.new
  have c0 := h.c0; have f0 := h.f0; have g0 := h.g0; have e0 := h.e0; have c1 := h.c1; have f1 := h.f1; have g1 := h.g1; have e1 := h.e1; have c2 := h.c2; have f2 := h.f2; have g2 := h.g2; have e2 := h.e2; have c3 := h.c3; have f3 := h.f3; have g3 := h.g3; have e3 := h.e3; have c4 := h.c4; have f4 := h.f4; have g4 := h.g4; have e4 := h.e4; have c5 := h.c5; have f5 := h.f5; have g5 := h.g5; have e5 := h.e5
  exact ⟨by simp [go_sem, c0], by simp [go_sem, c1], by simp [go_sem, c2], by simp [go_sem, c3], by simp [go_sem, c4], by simp [go_sem, c5], by simp [go_sem, f0], by simp [go_sem, f1], by simp [go_sem, f2], by simp [go_sem, f3], by simp [go_sem, f4], by simp [go_sem, f5], by simp [go_sem, g0], by simp [go_sem, g1], by simp [go_sem, g2], by simp [go_sem, g3], by simp [go_sem, g4], by simp [go_sem, g5], by simp [go_sem, e0], by simp [go_sem, e1], by simp [go_sem, e2], by simp [go_sem, e3], by simp [go_sem, e4], by simp [go_sem, e5],
    h1, h2, by simpa [World.setCell] using h.lc, hnew, h.but.setNew (by dsimp only; omega) _, h.rd.but (C := c) (But.setCell (R := c) (But.refl _ _) (p := ⟨c, 4, none⟩) rfl _) (by omega)⟩
theorem OI.set5 {R d c : Nat} {w wc : World} {k r s t a b p : Int} (h : OI R d c w k r s t a b p wc) (v : Int) : OI R d c w k r s t a v p (wc.setCell ⟨c, 5, none⟩ (.int .i64 v)) := by
  have h1 := h.rd'
  have h2 := h.dc
  have hnew := h.new
  have c0 := h.c0; have f0 := h.f0; have g0 := h.g0; have e0 := h.e0; have c1 := h.c1; have f1 := h.f1; have g1 := h.g1; have e1 := h.e1; have c2 := h.c2; have f2 := h.f2; have g2 := h.g2; have e2 := h.e2; have c3 := h.c3; have f3 := h.f3; have g3 := h.g3; have e3 := h.e3; have c4 := h.c4; have f4 := h.f4; have g4 := h.g4; have e4 := h.e4; have c5 := h.c5; have f5 := h.f5; have g5 := h.g5; have e5 := h.e5
  exact ⟨by simp [go_sem, c0], by simp [go_sem, c1], by simp [go_sem, c2], by simp [go_sem, c3], by simp [go_sem, c4], by simp [go_sem, c5], by simp [go_sem, f0], by simp [go_sem, f1], by simp [go_sem, f2], by simp [go_sem, f3], by simp [go_sem, f4], by simp [go_sem, f5], by simp [go_sem, g0], by simp [go_sem, g1], by simp [go_sem, g2], by simp [go_sem, g3], by simp [go_sem, g4], by simp [go_sem, g5], by simp [go_sem, e0], by simp [go_sem, e1], by simp [go_sem, e2], by simp [go_sem, e3], by simp [go_sem, e4], by simp [go_sem, e5],
    h1, h2, by simpa [World.setCell] using h.lc, hnew, h.but.setNew (by dsimp only; omega) _, h.rd.but (C := c) (But.setCell (R := c) (But.refl _ _) (p := ⟨c, 5, none⟩) rfl _) (by omega)⟩
set_option maxHeartbeats 2000000 in
/-- a drawn value that is ok -/
theorem good_any (R : Nat) (p : Int) (w : World) (h : Rd R p w) (hp : p ≤ 900000) :
    Calls Tryz.prog 60 #[.pointer (some ⟨R, 0, none⟩)] w fun e w' => ∃ k n p', e = .returned (.agg #[.int .i64 k, .int .i64 n]) ∧ (-100 ≤ k ∧ k ≤ 100 ∧ -100 ≤ n ∧ n ≤ 100) ∧ But R w w' ∧ (p ≤ p' ∧ p' ≤ p + 5) ∧ Rd R p' w' := by
  have hlt := h.lt
  go_enter Tryz.func60, Tryz.ntmps60
  go_wp2_with fail
  refine (val_any R p _ (h.below ((Below.refl _ _).alloc (Nat.le_refl _) _)) (by omega)).mono ?_
  rintro e w1 ⟨k, n, p', rfl, hkn, hb1, hp', hR1⟩
  have hz1 := hb1.size
  simp at hz1
  obtain ⟨hc1, hf1⟩ := butcell hb1
  have q0 : w1.cell? ⟨w.heap.size, 0, none⟩ = some (.int .i64 0) := by rw [hc1 _ _ (by simp) (by omega)]; simp [go_sem]
  have q1 : w1.cell? ⟨w.heap.size, 1, none⟩ = some (.int .i64 0) := by rw [hc1 _ _ (by simp) (by omega)]; simp [go_sem]
  have u0 : w1.frozen? ⟨w.heap.size, 0, none⟩ = false := by rw [hf1 _ _ (by simp) (by omega)]; simp [go_sem]
  have u1 : w1.frozen? ⟨w.heap.size, 1, none⟩ = false := by rw [hf1 _ _ (by simp) (by omega)]; simp [go_sem]
  go_wp2_with fail
  refine (specOk_any _ _ _).mono ?_
  rintro e w2 ⟨rfl, hb2⟩
  have hz2 := hb2.size
  simp at hz2
  have hb : But R w w2 := ((((But.refl _ _).alloc _).trans hb1).alloc _).trans (But.of_below hb2)
  have hR2 : Rd R p' w2 := (hR1.below ((Below.refl _ _).alloc (Nat.le_refl _) _)).below hb2
  obtain ⟨hc2, hf2⟩ := bcell hb2
  have y0 : w2.cell? ⟨w.heap.size, 0, none⟩ = some (.int .i64 0) := by rw [hc2 _ _ (by simp; omega), World.cell?_alloc_past _ _ _ (by omega)]; exact q0
  have y1 : w2.cell? ⟨w.heap.size, 1, none⟩ = some (.int .i64 0) := by rw [hc2 _ _ (by simp; omega), World.cell?_alloc_past _ _ _ (by omega)]; exact q1
  have z0 : w2.frozen? ⟨w.heap.size, 0, none⟩ = false := by rw [hf2 _ _ (by simp; omega), ((Below.refl w1.heap.size w1).alloc (Nat.le_refl _) _).frozen (p := ⟨w.heap.size, 0, none⟩) (by dsimp only; omega)]; exact u0
  have z1 : w2.frozen? ⟨w.heap.size, 1, none⟩ = false := by rw [hf2 _ _ (by simp; omega), ((Below.refl w1.heap.size w1).alloc (Nat.le_refl _) _).frozen (p := ⟨w.heap.size, 1, none⟩) (by dsimp only; omega)]; exact u1
  have x0 : w2.cell? ⟨w1.heap.size, 0, none⟩ = some (.int .i64 k) := by rw [hc2 _ _ (by simp)]; simp [go_sem]
  have x1 : w2.cell? ⟨w1.heap.size, 1, none⟩ = some (.int .i64 n) := by rw [hc2 _ _ (by simp)]; simp [go_sem]
  have l0 : w1.heap.size < w2.heap.size := by omega
  clear hc2 hf2 hc1 hf1 hb1 hb2 q0 q1 u0 u1
  cases hok : okB k n with
  | false =>
    go_wp2_with fail
    exact bodyPost_ret (v := .agg #[.int .i64 1, .int .i64 1]) (by simp [results, Tryz.results60, go_sem, y0, y1]) rfl
      ⟨1, 1, p', rfl, by omega, (hb.setNew (by dsimp only; omega) _).setNew (by dsimp only; omega) _, hp', hR2.but (C := w.heap.size) ((But.setCell (R := w.heap.size) (But.refl _ _) (p := ⟨w.heap.size, 0, none⟩) rfl _).setCell (p := ⟨w.heap.size, 1, none⟩) rfl _) (by omega)⟩
  | true =>
    go_wp2_with fail
    exact bodyPost_ret (v := .agg #[.int .i64 k, .int .i64 n]) (by simp [results, Tryz.results60, go_sem, y0, y1]) rfl
      ⟨k, n, p', rfl, by omega, (hb.setNew (by dsimp only; omega) _).setNew (by dsimp only; omega) _, hp', hR2.but (C := w.heap.size) ((But.setCell (R := w.heap.size) (But.refl _ _) (p := ⟨w.heap.size, 0, none⟩) rfl _).setCell (p := ⟨w.heap.size, 1, none⟩) rfl _) (by omega)⟩
theorem pats {k : Int} (h1 : 1 ≤ k) (h2 : k ≤ 14) : (fR k = true ∧ fS k = false ∧ fT k = false ∧ fV k = true ∧ (k == 8) = false ∧ (k == 13) = false) ∨ (fR k = true ∧ fS k = true ∧ fT k = false ∧ fV k = false ∧ (k == 8) = false ∧ (k == 13) = false) ∨ (fR k = true ∧ fS k = false ∧ fT k = false ∧ fV k = false ∧ (k == 8) = false ∧ (k == 13) = false) ∨ (fR k = true ∧ fS k = false ∧ fT k = true ∧ fV k = false ∧ (k == 8) = false ∧ (k == 13) = false) ∨ (fR k = true ∧ fS k = true ∧ fT k = true ∧ fV k = true ∧ (k == 8) = true ∧ (k == 13) = false) ∨ (fR k = false ∧ fS k = false ∧ fT k = true ∧ fV k = false ∧ (k == 8) = false ∧ (k == 13) = false) ∨ (fR k = true ∧ fS k = false ∧ fT k = true ∧ fV k = true ∧ (k == 8) = false ∧ (k == 13) = false) ∨ (fR k = false ∧ fS k = false ∧ fT k = false ∧ fV k = true ∧ (k == 8) = false ∧ (k == 13) = true) := by
  rcases kinds14 h1 h2 with rfl | rfl | rfl | rfl | rfl | rfl | rfl | rfl | rfl | rfl | rfl | rfl | rfl | rfl <;> decide
set_option maxHeartbeats 4000000 in
theorem op_any (R : Nat) (p m : Int) (w : World) (h : Rd R p w) (hp : p ≤ 800000) (hm1 : 1 ≤ m) (hm2 : m ≤ 100) :
    Calls Tryz.prog 32 #[.pointer (some ⟨R, 0, none⟩), .int .i64 m] w fun e w' => ∃ k r s t a b p', e = .returned (.agg #[.int .i64 k, .int .i64 r, .int .i64 s, .int .i64 t, .int .i64 a, .int .i64 b]) ∧ But R w w' ∧ (p ≤ p' ∧ p' ≤ p + 20) ∧ Rd R p' w' := by
  have hlt := h.lt
  have hp0 := h.p0
  go_enter Tryz.func32, Tryz.ntmps32
  go_wp2_with fail
  refine (pick_any R p 14 _ (h.below ((Below.refl _ _).alloc (Nat.le_refl _) _)) (by omega) (by omega) (by omega)).mono ?_
  rintro e w1 ⟨k0, rfl, hk0, hb1, hR1⟩
  obtain ⟨hc1, hf1⟩ := butcell hb1
  have hz1 := hb1.size
  simp at hz1
  have hO : OI R w.heap.size w1.heap.size w (1 + k0) 0 0 0 0 0 (p + 1) (w1.alloc (.cells #[.int .i64 (1 + k0), .int .i64 0, .int .i64 0, .int .i64 0, .int .i64 0, .int .i64 0] 26)) :=
    ⟨by simp [go_sem], by simp [go_sem], by simp [go_sem], by simp [go_sem], by simp [go_sem], by simp [go_sem], by simp [go_sem], by simp [go_sem], by simp [go_sem], by simp [go_sem], by simp [go_sem], by simp [go_sem],
     by rw [World.cell?_alloc_past _ _ _ (by omega), hc1 _ _ (by simp) (by omega)]; simp [go_sem], by rw [World.cell?_alloc_past _ _ _ (by omega), hc1 _ _ (by simp) (by omega)]; simp [go_sem], by rw [World.cell?_alloc_past _ _ _ (by omega), hc1 _ _ (by simp) (by omega)]; simp [go_sem], by rw [World.cell?_alloc_past _ _ _ (by omega), hc1 _ _ (by simp) (by omega)]; simp [go_sem], by rw [World.cell?_alloc_past _ _ _ (by omega), hc1 _ _ (by simp) (by omega)]; simp [go_sem], by rw [World.cell?_alloc_past _ _ _ (by omega), hc1 _ _ (by simp) (by omega)]; simp [go_sem],
     by rw [((Below.refl w1.heap.size w1).alloc (Nat.le_refl _) _).frozen (p := ⟨w.heap.size, 0, none⟩) (by dsimp only; omega), hf1 _ _ (by simp) (by omega)]; simp [go_sem], by rw [((Below.refl w1.heap.size w1).alloc (Nat.le_refl _) _).frozen (p := ⟨w.heap.size, 1, none⟩) (by dsimp only; omega), hf1 _ _ (by simp) (by omega)]; simp [go_sem], by rw [((Below.refl w1.heap.size w1).alloc (Nat.le_refl _) _).frozen (p := ⟨w.heap.size, 2, none⟩) (by dsimp only; omega), hf1 _ _ (by simp) (by omega)]; simp [go_sem], by rw [((Below.refl w1.heap.size w1).alloc (Nat.le_refl _) _).frozen (p := ⟨w.heap.size, 3, none⟩) (by dsimp only; omega), hf1 _ _ (by simp) (by omega)]; simp [go_sem], by rw [((Below.refl w1.heap.size w1).alloc (Nat.le_refl _) _).frozen (p := ⟨w.heap.size, 4, none⟩) (by dsimp only; omega), hf1 _ _ (by simp) (by omega)]; simp [go_sem], by rw [((Below.refl w1.heap.size w1).alloc (Nat.le_refl _) _).frozen (p := ⟨w.heap.size, 5, none⟩) (by dsimp only; omega), hf1 _ _ (by simp) (by omega)]; simp [go_sem],
     hlt, by omega, by simp, Nat.le_refl _, (((But.refl _ _).alloc _).trans hb1).alloc _, hR1.below ((Below.refl _ _).alloc (Nat.le_refl _) _)⟩
  clear hc1 hf1 hb1 hR1
  go_wp2_with fail
  refine (form_any _ _ (by omega) (by omega)).mono ?_
  rintro e w2 ⟨rfl, rfl⟩
  have hO := hO.alloc (formO (1 + k0))
  generalize hW0 : w1.alloc (.cells #[.int .i64 (1 + k0), .int .i64 0, .int .i64 0, .int .i64 0, .int .i64 0, .int .i64 0] 26) = W1 at *
  have hfb : W1.heap.size = w1.heap.size + 1 := by rw [← hW0]; simp
  have d0 : (W1.alloc (formO (1 + k0))).cell? ⟨w1.heap.size + 1, 0, none⟩ = some (.bool (fR (1 + k0))) := by rw [← hfb]; simp [go_sem]
  have d1 : (W1.alloc (formO (1 + k0))).cell? ⟨w1.heap.size + 1, 1, none⟩ = some (.bool (fS (1 + k0))) := by rw [← hfb]; simp [go_sem]
  have d2 : (W1.alloc (formO (1 + k0))).cell? ⟨w1.heap.size + 1, 2, none⟩ = some (.bool (fT (1 + k0))) := by rw [← hfb]; simp [go_sem]
  have d3 : (W1.alloc (formO (1 + k0))).cell? ⟨w1.heap.size + 1, 3, none⟩ = some (.bool (fV (1 + k0))) := by rw [← hfb]; simp [go_sem]
  have lW : w1.heap.size + 1 < (W1.alloc (formO (1 + k0))).heap.size := by rw [← hfb]; simp
  generalize (W1.alloc (formO (1 + k0))) = W2 at *
  generalize w1.heap.size = c at *
  have lc := hO.lc; have ldc := hO.dc
  have hne : c + 1 ≠ c := by omega
  have hne2 : c ≠ c + 1 := by omega
  have hne3 : c ≠ w.heap.size := by omega
  have hne4 : c + 1 ≠ w.heap.size := by omega
  have hne5 : w.heap.size ≠ c := by omega
  rcases pats (k := 1 + k0) (by omega) (by omega) with ⟨hfR, hfS, hfT, hfV, h8, h13⟩ | ⟨hfR, hfS, hfT, hfV, h8, h13⟩ | ⟨hfR, hfS, hfT, hfV, h8, h13⟩ | ⟨hfR, hfS, hfT, hfV, h8, h13⟩ | ⟨hfR, hfS, hfT, hfV, h8, h13⟩ | ⟨hfR, hfS, hfT, hfV, h8, h13⟩ | ⟨hfR, hfS, hfT, hfV, h8, h13⟩ | ⟨hfR, hfS, hfT, hfV, h8, h13⟩
  · go_wp2_with fail
    refine (pick_any R (p + 1) 4 _ hO.rd (by omega) (by omega) (by omega)).mono ?_
    rintro e w2 ⟨r2, rfl, hr2, hb2, hR2⟩
    have hO2 := hO.go hb2 hR2
    have c0 := hO2.c0; have f0 := hO2.f0; have g0 := hO2.g0; have e0 := hO2.e0
    have c1 := hO2.c1; have f1 := hO2.f1; have g1 := hO2.g1; have e1 := hO2.e1
    have c2 := hO2.c2; have f2 := hO2.f2; have g2 := hO2.g2; have e2 := hO2.e2
    have c3 := hO2.c3; have f3 := hO2.f3; have g3 := hO2.g3; have e3 := hO2.e3
    have c4 := hO2.c4; have f4 := hO2.f4; have g4 := hO2.g4; have e4 := hO2.e4
    have c5 := hO2.c5; have f5 := hO2.f5; have g5 := hO2.g5; have e5 := hO2.e5
    have d02 : w2.cell? ⟨c + 1, 0, none⟩ = some (.bool (fR (1 + k0))) := by rw [hb2.cell (p := ⟨c + 1, 0, none⟩) (by (try simp) <;> omega) (by dsimp only; omega)]; simp [go_sem, d0]
    have d12 : w2.cell? ⟨c + 1, 1, none⟩ = some (.bool (fS (1 + k0))) := by rw [hb2.cell (p := ⟨c + 1, 1, none⟩) (by (try simp) <;> omega) (by dsimp only; omega)]; simp [go_sem, d1]
    have d22 : w2.cell? ⟨c + 1, 2, none⟩ = some (.bool (fT (1 + k0))) := by rw [hb2.cell (p := ⟨c + 1, 2, none⟩) (by (try simp) <;> omega) (by dsimp only; omega)]; simp [go_sem, d2]
    have d32 : w2.cell? ⟨c + 1, 3, none⟩ = some (.bool (fV (1 + k0))) := by rw [hb2.cell (p := ⟨c + 1, 3, none⟩) (by (try simp) <;> omega) (by dsimp only; omega)]; simp [go_sem, d3]
    have ls2 := hb2.size
    try simp at ls2
    clear hb2 hR2 d0 d1 d2 d3
    go_wp2_with fail
    refine (good_any R ((p + 1) + 1) _ (hO2.set1 r2).rd (by omega)).mono ?_
    rintro e w3 ⟨r3, q3, p3, rfl, hr3, hb3, hp3, hR3⟩
    have hO3 := (hO2.set1 r2).go hb3 hR3
    clear c0 f0 g0 e0 c1 f1 g1 e1 c2 f2 g2 e2 c3 f3 g3 e3 c4 f4 g4 e4 c5 f5 g5 e5
    have c0 := hO3.c0; have f0 := hO3.f0; have g0 := hO3.g0; have e0 := hO3.e0
    have c1 := hO3.c1; have f1 := hO3.f1; have g1 := hO3.g1; have e1 := hO3.e1
    have c2 := hO3.c2; have f2 := hO3.f2; have g2 := hO3.g2; have e2 := hO3.e2
    have c3 := hO3.c3; have f3 := hO3.f3; have g3 := hO3.g3; have e3 := hO3.e3
    have c4 := hO3.c4; have f4 := hO3.f4; have g4 := hO3.g4; have e4 := hO3.e4
    have c5 := hO3.c5; have f5 := hO3.f5; have g5 := hO3.g5; have e5 := hO3.e5
    have d03 : w3.cell? ⟨c + 1, 0, none⟩ = some (.bool (fR (1 + k0))) := by rw [hb3.cell (p := ⟨c + 1, 0, none⟩) (by (try simp) <;> omega) (by dsimp only; omega)]; simp [go_sem, d02]
    have d13 : w3.cell? ⟨c + 1, 1, none⟩ = some (.bool (fS (1 + k0))) := by rw [hb3.cell (p := ⟨c + 1, 1, none⟩) (by (try simp) <;> omega) (by dsimp only; omega)]; simp [go_sem, d12]
    have d23 : w3.cell? ⟨c + 1, 2, none⟩ = some (.bool (fT (1 + k0))) := by rw [hb3.cell (p := ⟨c + 1, 2, none⟩) (by (try simp) <;> omega) (by dsimp only; omega)]; simp [go_sem, d22]
    have d33 : w3.cell? ⟨c + 1, 3, none⟩ = some (.bool (fV (1 + k0))) := by rw [hb3.cell (p := ⟨c + 1, 3, none⟩) (by (try simp) <;> omega) (by dsimp only; omega)]; simp [go_sem, d32]
    have ls3 := hb3.size
    try simp at ls3
    clear hb3 hR3 d02 d12 d22 d32
    have hF := ((hO3.set4 r3).set5 q3)
    go_wp2_with fail
    exact bodyPost_ret (v := .agg #[.int .i64 (1 + k0), .int .i64 r2, .int .i64 0, .int .i64 0, .int .i64 r3, .int .i64 q3]) (by simp [results, Tryz.results32, go_sem, g0, g1, g2, g3, g4, g5]) rfl
      ⟨(1 + k0), r2, 0, 0, r3, q3, p3, rfl, ((((((hF.but.setNew (by dsimp only; omega) _).setNew (by dsimp only; omega) _).setNew (by dsimp only; omega) _).setNew (by dsimp only; omega) _).setNew (by dsimp only; omega) _).setNew (by dsimp only; omega) _), by omega, hF.rd.but (C := w.heap.size) (But.setCell (R := w.heap.size) (But.setCell (R := w.heap.size) (But.setCell (R := w.heap.size) (But.setCell (R := w.heap.size) (But.setCell (R := w.heap.size) (But.setCell (R := w.heap.size) (But.refl _ _) (p := ⟨w.heap.size, 0, none⟩) rfl _) (p := ⟨w.heap.size, 1, none⟩) rfl _) (p := ⟨w.heap.size, 2, none⟩) rfl _) (p := ⟨w.heap.size, 3, none⟩) rfl _) (p := ⟨w.heap.size, 4, none⟩) rfl _) (p := ⟨w.heap.size, 5, none⟩) rfl _) (by omega)⟩
  · go_wp2_with fail
    refine (pick_any R (p + 1) 4 _ hO.rd (by omega) (by omega) (by omega)).mono ?_
    rintro e w2 ⟨r2, rfl, hr2, hb2, hR2⟩
    have hO2 := hO.go hb2 hR2
    have c0 := hO2.c0; have f0 := hO2.f0; have g0 := hO2.g0; have e0 := hO2.e0
    have c1 := hO2.c1; have f1 := hO2.f1; have g1 := hO2.g1; have e1 := hO2.e1
    have c2 := hO2.c2; have f2 := hO2.f2; have g2 := hO2.g2; have e2 := hO2.e2
    have c3 := hO2.c3; have f3 := hO2.f3; have g3 := hO2.g3; have e3 := hO2.e3
    have c4 := hO2.c4; have f4 := hO2.f4; have g4 := hO2.g4; have e4 := hO2.e4
    have c5 := hO2.c5; have f5 := hO2.f5; have g5 := hO2.g5; have e5 := hO2.e5
    have d02 : w2.cell? ⟨c + 1, 0, none⟩ = some (.bool (fR (1 + k0))) := by rw [hb2.cell (p := ⟨c + 1, 0, none⟩) (by (try simp) <;> omega) (by dsimp only; omega)]; simp [go_sem, d0]
    have d12 : w2.cell? ⟨c + 1, 1, none⟩ = some (.bool (fS (1 + k0))) := by rw [hb2.cell (p := ⟨c + 1, 1, none⟩) (by (try simp) <;> omega) (by dsimp only; omega)]; simp [go_sem, d1]
    have d22 : w2.cell? ⟨c + 1, 2, none⟩ = some (.bool (fT (1 + k0))) := by rw [hb2.cell (p := ⟨c + 1, 2, none⟩) (by (try simp) <;> omega) (by dsimp only; omega)]; simp [go_sem, d2]
    have d32 : w2.cell? ⟨c + 1, 3, none⟩ = some (.bool (fV (1 + k0))) := by rw [hb2.cell (p := ⟨c + 1, 3, none⟩) (by (try simp) <;> omega) (by dsimp only; omega)]; simp [go_sem, d3]
    have ls2 := hb2.size
    try simp at ls2
    clear hb2 hR2 d0 d1 d2 d3
    go_wp2_with fail
    refine (pick_any R ((p + 1) + 1) 4 _ (hO2.set1 r2).rd (by omega) (by omega) (by omega)).mono ?_
    rintro e w3 ⟨r3, rfl, hr3, hb3, hR3⟩
    have hO3 := (hO2.set1 r2).go hb3 hR3
    clear c0 f0 g0 e0 c1 f1 g1 e1 c2 f2 g2 e2 c3 f3 g3 e3 c4 f4 g4 e4 c5 f5 g5 e5
    have c0 := hO3.c0; have f0 := hO3.f0; have g0 := hO3.g0; have e0 := hO3.e0
    have c1 := hO3.c1; have f1 := hO3.f1; have g1 := hO3.g1; have e1 := hO3.e1
    have c2 := hO3.c2; have f2 := hO3.f2; have g2 := hO3.g2; have e2 := hO3.e2
    have c3 := hO3.c3; have f3 := hO3.f3; have g3 := hO3.g3; have e3 := hO3.e3
    have c4 := hO3.c4; have f4 := hO3.f4; have g4 := hO3.g4; have e4 := hO3.e4
    have c5 := hO3.c5; have f5 := hO3.f5; have g5 := hO3.g5; have e5 := hO3.e5
    have d03 : w3.cell? ⟨c + 1, 0, none⟩ = some (.bool (fR (1 + k0))) := by rw [hb3.cell (p := ⟨c + 1, 0, none⟩) (by (try simp) <;> omega) (by dsimp only; omega)]; simp [go_sem, d02]
    have d13 : w3.cell? ⟨c + 1, 1, none⟩ = some (.bool (fS (1 + k0))) := by rw [hb3.cell (p := ⟨c + 1, 1, none⟩) (by (try simp) <;> omega) (by dsimp only; omega)]; simp [go_sem, d12]
    have d23 : w3.cell? ⟨c + 1, 2, none⟩ = some (.bool (fT (1 + k0))) := by rw [hb3.cell (p := ⟨c + 1, 2, none⟩) (by (try simp) <;> omega) (by dsimp only; omega)]; simp [go_sem, d22]
    have d33 : w3.cell? ⟨c + 1, 3, none⟩ = some (.bool (fV (1 + k0))) := by rw [hb3.cell (p := ⟨c + 1, 3, none⟩) (by (try simp) <;> omega) (by dsimp only; omega)]; simp [go_sem, d32]
    have ls3 := hb3.size
    try simp at ls3
    clear hb3 hR3 d02 d12 d22 d32
    have hF := (hO3.set2 r3)
    go_wp2_with fail
    exact bodyPost_ret (v := .agg #[.int .i64 (1 + k0), .int .i64 r2, .int .i64 r3, .int .i64 0, .int .i64 0, .int .i64 0]) (by simp [results, Tryz.results32, go_sem, g0, g1, g2, g3, g4, g5]) rfl
      ⟨(1 + k0), r2, r3, 0, 0, 0, (((p + 1) + 1) + 1), rfl, ((((((hF.but.setNew (by dsimp only; omega) _).setNew (by dsimp only; omega) _).setNew (by dsimp only; omega) _).setNew (by dsimp only; omega) _).setNew (by dsimp only; omega) _).setNew (by dsimp only; omega) _), by omega, hF.rd.but (C := w.heap.size) (But.setCell (R := w.heap.size) (But.setCell (R := w.heap.size) (But.setCell (R := w.heap.size) (But.setCell (R := w.heap.size) (But.setCell (R := w.heap.size) (But.setCell (R := w.heap.size) (But.refl _ _) (p := ⟨w.heap.size, 0, none⟩) rfl _) (p := ⟨w.heap.size, 1, none⟩) rfl _) (p := ⟨w.heap.size, 2, none⟩) rfl _) (p := ⟨w.heap.size, 3, none⟩) rfl _) (p := ⟨w.heap.size, 4, none⟩) rfl _) (p := ⟨w.heap.size, 5, none⟩) rfl _) (by omega)⟩
  · go_wp2_with fail
    refine (pick_any R (p + 1) 4 _ hO.rd (by omega) (by omega) (by omega)).mono ?_
    rintro e w2 ⟨r2, rfl, hr2, hb2, hR2⟩
    have hO2 := hO.go hb2 hR2
    have c0 := hO2.c0; have f0 := hO2.f0; have g0 := hO2.g0; have e0 := hO2.e0
    have c1 := hO2.c1; have f1 := hO2.f1; have g1 := hO2.g1; have e1 := hO2.e1
    have c2 := hO2.c2; have f2 := hO2.f2; have g2 := hO2.g2; have e2 := hO2.e2
    have c3 := hO2.c3; have f3 := hO2.f3; have g3 := hO2.g3; have e3 := hO2.e3
    have c4 := hO2.c4; have f4 := hO2.f4; have g4 := hO2.g4; have e4 := hO2.e4
    have c5 := hO2.c5; have f5 := hO2.f5; have g5 := hO2.g5; have e5 := hO2.e5
    have d02 : w2.cell? ⟨c + 1, 0, none⟩ = some (.bool (fR (1 + k0))) := by rw [hb2.cell (p := ⟨c + 1, 0, none⟩) (by (try simp) <;> omega) (by dsimp only; omega)]; simp [go_sem, d0]
    have d12 : w2.cell? ⟨c + 1, 1, none⟩ = some (.bool (fS (1 + k0))) := by rw [hb2.cell (p := ⟨c + 1, 1, none⟩) (by (try simp) <;> omega) (by dsimp only; omega)]; simp [go_sem, d1]
    have d22 : w2.cell? ⟨c + 1, 2, none⟩ = some (.bool (fT (1 + k0))) := by rw [hb2.cell (p := ⟨c + 1, 2, none⟩) (by (try simp) <;> omega) (by dsimp only; omega)]; simp [go_sem, d2]
    have d32 : w2.cell? ⟨c + 1, 3, none⟩ = some (.bool (fV (1 + k0))) := by rw [hb2.cell (p := ⟨c + 1, 3, none⟩) (by (try simp) <;> omega) (by dsimp only; omega)]; simp [go_sem, d3]
    have ls2 := hb2.size
    try simp at ls2
    clear hb2 hR2 d0 d1 d2 d3
    have hF := (hO2.set1 r2)
    go_wp2_with fail
    exact bodyPost_ret (v := .agg #[.int .i64 (1 + k0), .int .i64 r2, .int .i64 0, .int .i64 0, .int .i64 0, .int .i64 0]) (by simp [results, Tryz.results32, go_sem, g0, g1, g2, g3, g4, g5]) rfl
      ⟨(1 + k0), r2, 0, 0, 0, 0, ((p + 1) + 1), rfl, ((((((hF.but.setNew (by dsimp only; omega) _).setNew (by dsimp only; omega) _).setNew (by dsimp only; omega) _).setNew (by dsimp only; omega) _).setNew (by dsimp only; omega) _).setNew (by dsimp only; omega) _), by omega, hF.rd.but (C := w.heap.size) (But.setCell (R := w.heap.size) (But.setCell (R := w.heap.size) (But.setCell (R := w.heap.size) (But.setCell (R := w.heap.size) (But.setCell (R := w.heap.size) (But.setCell (R := w.heap.size) (But.refl _ _) (p := ⟨w.heap.size, 0, none⟩) rfl _) (p := ⟨w.heap.size, 1, none⟩) rfl _) (p := ⟨w.heap.size, 2, none⟩) rfl _) (p := ⟨w.heap.size, 3, none⟩) rfl _) (p := ⟨w.heap.size, 4, none⟩) rfl _) (p := ⟨w.heap.size, 5, none⟩) rfl _) (by omega)⟩
  · go_wp2_with fail
    refine (pick_any R (p + 1) 4 _ hO.rd (by omega) (by omega) (by omega)).mono ?_
    rintro e w2 ⟨r2, rfl, hr2, hb2, hR2⟩
    have hO2 := hO.go hb2 hR2
    have c0 := hO2.c0; have f0 := hO2.f0; have g0 := hO2.g0; have e0 := hO2.e0
    have c1 := hO2.c1; have f1 := hO2.f1; have g1 := hO2.g1; have e1 := hO2.e1
    have c2 := hO2.c2; have f2 := hO2.f2; have g2 := hO2.g2; have e2 := hO2.e2
    have c3 := hO2.c3; have f3 := hO2.f3; have g3 := hO2.g3; have e3 := hO2.e3
    have c4 := hO2.c4; have f4 := hO2.f4; have g4 := hO2.g4; have e4 := hO2.e4
    have c5 := hO2.c5; have f5 := hO2.f5; have g5 := hO2.g5; have e5 := hO2.e5
    have d02 : w2.cell? ⟨c + 1, 0, none⟩ = some (.bool (fR (1 + k0))) := by rw [hb2.cell (p := ⟨c + 1, 0, none⟩) (by (try simp) <;> omega) (by dsimp only; omega)]; simp [go_sem, d0]
    have d12 : w2.cell? ⟨c + 1, 1, none⟩ = some (.bool (fS (1 + k0))) := by rw [hb2.cell (p := ⟨c + 1, 1, none⟩) (by (try simp) <;> omega) (by dsimp only; omega)]; simp [go_sem, d1]
    have d22 : w2.cell? ⟨c + 1, 2, none⟩ = some (.bool (fT (1 + k0))) := by rw [hb2.cell (p := ⟨c + 1, 2, none⟩) (by (try simp) <;> omega) (by dsimp only; omega)]; simp [go_sem, d2]
    have d32 : w2.cell? ⟨c + 1, 3, none⟩ = some (.bool (fV (1 + k0))) := by rw [hb2.cell (p := ⟨c + 1, 3, none⟩) (by (try simp) <;> omega) (by dsimp only; omega)]; simp [go_sem, d3]
    have ls2 := hb2.size
    try simp at ls2
    clear hb2 hR2 d0 d1 d2 d3
    go_wp2_with fail
    refine (pick_any R ((p + 1) + 1) m _ (hO2.set1 r2).rd (by omega) (by omega) (by omega)).mono ?_
    rintro e w3 ⟨r3, rfl, hr3, hb3, hR3⟩
    have hO3 := (hO2.set1 r2).go hb3 hR3
    clear c0 f0 g0 e0 c1 f1 g1 e1 c2 f2 g2 e2 c3 f3 g3 e3 c4 f4 g4 e4 c5 f5 g5 e5
    have c0 := hO3.c0; have f0 := hO3.f0; have g0 := hO3.g0; have e0 := hO3.e0
    have c1 := hO3.c1; have f1 := hO3.f1; have g1 := hO3.g1; have e1 := hO3.e1
    have c2 := hO3.c2; have f2 := hO3.f2; have g2 := hO3.g2; have e2 := hO3.e2
    have c3 := hO3.c3; have f3 := hO3.f3; have g3 := hO3.g3; have e3 := hO3.e3
    have c4 := hO3.c4; have f4 := hO3.f4; have g4 := hO3.g4; have e4 := hO3.e4
    have c5 := hO3.c5; have f5 := hO3.f5; have g5 := hO3.g5; have e5 := hO3.e5
    have d03 : w3.cell? ⟨c + 1, 0, none⟩ = some (.bool (fR (1 + k0))) := by rw [hb3.cell (p := ⟨c + 1, 0, none⟩) (by (try simp) <;> omega) (by dsimp only; omega)]; simp [go_sem, d02]
    have d13 : w3.cell? ⟨c + 1, 1, none⟩ = some (.bool (fS (1 + k0))) := by rw [hb3.cell (p := ⟨c + 1, 1, none⟩) (by (try simp) <;> omega) (by dsimp only; omega)]; simp [go_sem, d12]
    have d23 : w3.cell? ⟨c + 1, 2, none⟩ = some (.bool (fT (1 + k0))) := by rw [hb3.cell (p := ⟨c + 1, 2, none⟩) (by (try simp) <;> omega) (by dsimp only; omega)]; simp [go_sem, d22]
    have d33 : w3.cell? ⟨c + 1, 3, none⟩ = some (.bool (fV (1 + k0))) := by rw [hb3.cell (p := ⟨c + 1, 3, none⟩) (by (try simp) <;> omega) (by dsimp only; omega)]; simp [go_sem, d32]
    have ls3 := hb3.size
    try simp at ls3
    clear hb3 hR3 d02 d12 d22 d32
    have hF := (hO3.set3 r3)
    go_wp2_with fail
    exact bodyPost_ret (v := .agg #[.int .i64 (1 + k0), .int .i64 r2, .int .i64 0, .int .i64 r3, .int .i64 0, .int .i64 0]) (by simp [results, Tryz.results32, go_sem, g0, g1, g2, g3, g4, g5]) rfl
      ⟨(1 + k0), r2, 0, r3, 0, 0, (((p + 1) + 1) + 1), rfl, ((((((hF.but.setNew (by dsimp only; omega) _).setNew (by dsimp only; omega) _).setNew (by dsimp only; omega) _).setNew (by dsimp only; omega) _).setNew (by dsimp only; omega) _).setNew (by dsimp only; omega) _), by omega, hF.rd.but (C := w.heap.size) (But.setCell (R := w.heap.size) (But.setCell (R := w.heap.size) (But.setCell (R := w.heap.size) (But.setCell (R := w.heap.size) (But.setCell (R := w.heap.size) (But.setCell (R := w.heap.size) (But.refl _ _) (p := ⟨w.heap.size, 0, none⟩) rfl _) (p := ⟨w.heap.size, 1, none⟩) rfl _) (p := ⟨w.heap.size, 2, none⟩) rfl _) (p := ⟨w.heap.size, 3, none⟩) rfl _) (p := ⟨w.heap.size, 4, none⟩) rfl _) (p := ⟨w.heap.size, 5, none⟩) rfl _) (by omega)⟩
  · go_wp2_with fail
    refine (pick_any R (p + 1) 4 _ hO.rd (by omega) (by omega) (by omega)).mono ?_
    rintro e w2 ⟨r2, rfl, hr2, hb2, hR2⟩
    have hO2 := hO.go hb2 hR2
    have c0 := hO2.c0; have f0 := hO2.f0; have g0 := hO2.g0; have e0 := hO2.e0
    have c1 := hO2.c1; have f1 := hO2.f1; have g1 := hO2.g1; have e1 := hO2.e1
    have c2 := hO2.c2; have f2 := hO2.f2; have g2 := hO2.g2; have e2 := hO2.e2
    have c3 := hO2.c3; have f3 := hO2.f3; have g3 := hO2.g3; have e3 := hO2.e3
    have c4 := hO2.c4; have f4 := hO2.f4; have g4 := hO2.g4; have e4 := hO2.e4
    have c5 := hO2.c5; have f5 := hO2.f5; have g5 := hO2.g5; have e5 := hO2.e5
    have d02 : w2.cell? ⟨c + 1, 0, none⟩ = some (.bool (fR (1 + k0))) := by rw [hb2.cell (p := ⟨c + 1, 0, none⟩) (by (try simp) <;> omega) (by dsimp only; omega)]; simp [go_sem, d0]
    have d12 : w2.cell? ⟨c + 1, 1, none⟩ = some (.bool (fS (1 + k0))) := by rw [hb2.cell (p := ⟨c + 1, 1, none⟩) (by (try simp) <;> omega) (by dsimp only; omega)]; simp [go_sem, d1]
    have d22 : w2.cell? ⟨c + 1, 2, none⟩ = some (.bool (fT (1 + k0))) := by rw [hb2.cell (p := ⟨c + 1, 2, none⟩) (by (try simp) <;> omega) (by dsimp only; omega)]; simp [go_sem, d2]
    have d32 : w2.cell? ⟨c + 1, 3, none⟩ = some (.bool (fV (1 + k0))) := by rw [hb2.cell (p := ⟨c + 1, 3, none⟩) (by (try simp) <;> omega) (by dsimp only; omega)]; simp [go_sem, d3]
    have ls2 := hb2.size
    try simp at ls2
    clear hb2 hR2 d0 d1 d2 d3
    go_wp2_with fail
    refine (pick_any R ((p + 1) + 1) 4 _ (hO2.set1 r2).rd (by omega) (by omega) (by omega)).mono ?_
    rintro e w3 ⟨r3, rfl, hr3, hb3, hR3⟩
    have hO3 := (hO2.set1 r2).go hb3 hR3
    clear c0 f0 g0 e0 c1 f1 g1 e1 c2 f2 g2 e2 c3 f3 g3 e3 c4 f4 g4 e4 c5 f5 g5 e5
    have c0 := hO3.c0; have f0 := hO3.f0; have g0 := hO3.g0; have e0 := hO3.e0
    have c1 := hO3.c1; have f1 := hO3.f1; have g1 := hO3.g1; have e1 := hO3.e1
    have c2 := hO3.c2; have f2 := hO3.f2; have g2 := hO3.g2; have e2 := hO3.e2
    have c3 := hO3.c3; have f3 := hO3.f3; have g3 := hO3.g3; have e3 := hO3.e3
    have c4 := hO3.c4; have f4 := hO3.f4; have g4 := hO3.g4; have e4 := hO3.e4
    have c5 := hO3.c5; have f5 := hO3.f5; have g5 := hO3.g5; have e5 := hO3.e5
    have d03 : w3.cell? ⟨c + 1, 0, none⟩ = some (.bool (fR (1 + k0))) := by rw [hb3.cell (p := ⟨c + 1, 0, none⟩) (by (try simp) <;> omega) (by dsimp only; omega)]; simp [go_sem, d02]
    have d13 : w3.cell? ⟨c + 1, 1, none⟩ = some (.bool (fS (1 + k0))) := by rw [hb3.cell (p := ⟨c + 1, 1, none⟩) (by (try simp) <;> omega) (by dsimp only; omega)]; simp [go_sem, d12]
    have d23 : w3.cell? ⟨c + 1, 2, none⟩ = some (.bool (fT (1 + k0))) := by rw [hb3.cell (p := ⟨c + 1, 2, none⟩) (by (try simp) <;> omega) (by dsimp only; omega)]; simp [go_sem, d22]
    have d33 : w3.cell? ⟨c + 1, 3, none⟩ = some (.bool (fV (1 + k0))) := by rw [hb3.cell (p := ⟨c + 1, 3, none⟩) (by (try simp) <;> omega) (by dsimp only; omega)]; simp [go_sem, d32]
    have ls3 := hb3.size
    try simp at ls3
    clear hb3 hR3 d02 d12 d22 d32
    go_wp2_with fail
    refine (pick_any R (((p + 1) + 1) + 1) m _ (hO3.set2 r3).rd (by omega) (by omega) (by omega)).mono ?_
    rintro e w4 ⟨r4, rfl, hr4, hb4, hR4⟩
    have hO4 := (hO3.set2 r3).go hb4 hR4
    clear c0 f0 g0 e0 c1 f1 g1 e1 c2 f2 g2 e2 c3 f3 g3 e3 c4 f4 g4 e4 c5 f5 g5 e5
    have c0 := hO4.c0; have f0 := hO4.f0; have g0 := hO4.g0; have e0 := hO4.e0
    have c1 := hO4.c1; have f1 := hO4.f1; have g1 := hO4.g1; have e1 := hO4.e1
    have c2 := hO4.c2; have f2 := hO4.f2; have g2 := hO4.g2; have e2 := hO4.e2
    have c3 := hO4.c3; have f3 := hO4.f3; have g3 := hO4.g3; have e3 := hO4.e3
    have c4 := hO4.c4; have f4 := hO4.f4; have g4 := hO4.g4; have e4 := hO4.e4
    have c5 := hO4.c5; have f5 := hO4.f5; have g5 := hO4.g5; have e5 := hO4.e5
    have d04 : w4.cell? ⟨c + 1, 0, none⟩ = some (.bool (fR (1 + k0))) := by rw [hb4.cell (p := ⟨c + 1, 0, none⟩) (by (try simp) <;> omega) (by dsimp only; omega)]; simp [go_sem, d03]
    have d14 : w4.cell? ⟨c + 1, 1, none⟩ = some (.bool (fS (1 + k0))) := by rw [hb4.cell (p := ⟨c + 1, 1, none⟩) (by (try simp) <;> omega) (by dsimp only; omega)]; simp [go_sem, d13]
    have d24 : w4.cell? ⟨c + 1, 2, none⟩ = some (.bool (fT (1 + k0))) := by rw [hb4.cell (p := ⟨c + 1, 2, none⟩) (by (try simp) <;> omega) (by dsimp only; omega)]; simp [go_sem, d23]
    have d34 : w4.cell? ⟨c + 1, 3, none⟩ = some (.bool (fV (1 + k0))) := by rw [hb4.cell (p := ⟨c + 1, 3, none⟩) (by (try simp) <;> omega) (by dsimp only; omega)]; simp [go_sem, d33]
    have ls4 := hb4.size
    try simp at ls4
    clear hb4 hR4 d03 d13 d23 d33
    go_wp2_with fail
    refine (good_any R ((((p + 1) + 1) + 1) + 1) _ (hO4.set3 r4).rd (by omega)).mono ?_
    rintro e w5 ⟨r5, q5, p5, rfl, hr5, hb5, hp5, hR5⟩
    have hO5 := (hO4.set3 r4).go hb5 hR5
    clear c0 f0 g0 e0 c1 f1 g1 e1 c2 f2 g2 e2 c3 f3 g3 e3 c4 f4 g4 e4 c5 f5 g5 e5
    have c0 := hO5.c0; have f0 := hO5.f0; have g0 := hO5.g0; have e0 := hO5.e0
    have c1 := hO5.c1; have f1 := hO5.f1; have g1 := hO5.g1; have e1 := hO5.e1
    have c2 := hO5.c2; have f2 := hO5.f2; have g2 := hO5.g2; have e2 := hO5.e2
    have c3 := hO5.c3; have f3 := hO5.f3; have g3 := hO5.g3; have e3 := hO5.e3
    have c4 := hO5.c4; have f4 := hO5.f4; have g4 := hO5.g4; have e4 := hO5.e4
    have c5 := hO5.c5; have f5 := hO5.f5; have g5 := hO5.g5; have e5 := hO5.e5
    have d05 : w5.cell? ⟨c + 1, 0, none⟩ = some (.bool (fR (1 + k0))) := by rw [hb5.cell (p := ⟨c + 1, 0, none⟩) (by (try simp) <;> omega) (by dsimp only; omega)]; simp [go_sem, d04]
    have d15 : w5.cell? ⟨c + 1, 1, none⟩ = some (.bool (fS (1 + k0))) := by rw [hb5.cell (p := ⟨c + 1, 1, none⟩) (by (try simp) <;> omega) (by dsimp only; omega)]; simp [go_sem, d14]
    have d25 : w5.cell? ⟨c + 1, 2, none⟩ = some (.bool (fT (1 + k0))) := by rw [hb5.cell (p := ⟨c + 1, 2, none⟩) (by (try simp) <;> omega) (by dsimp only; omega)]; simp [go_sem, d24]
    have d35 : w5.cell? ⟨c + 1, 3, none⟩ = some (.bool (fV (1 + k0))) := by rw [hb5.cell (p := ⟨c + 1, 3, none⟩) (by (try simp) <;> omega) (by dsimp only; omega)]; simp [go_sem, d34]
    have ls5 := hb5.size
    try simp at ls5
    clear hb5 hR5 d04 d14 d24 d34
    go_wp2_with fail
    refine (pick_any R p5 3 _ ((hO5.set4 r5).set5 q5).rd (by omega) (by omega) (by omega)).mono ?_
    rintro e w6 ⟨r6, rfl, hr6, hb6, hR6⟩
    have hO6 := ((hO5.set4 r5).set5 q5).go hb6 hR6
    clear c0 f0 g0 e0 c1 f1 g1 e1 c2 f2 g2 e2 c3 f3 g3 e3 c4 f4 g4 e4 c5 f5 g5 e5
    have c0 := hO6.c0; have f0 := hO6.f0; have g0 := hO6.g0; have e0 := hO6.e0
    have c1 := hO6.c1; have f1 := hO6.f1; have g1 := hO6.g1; have e1 := hO6.e1
    have c2 := hO6.c2; have f2 := hO6.f2; have g2 := hO6.g2; have e2 := hO6.e2
    have c3 := hO6.c3; have f3 := hO6.f3; have g3 := hO6.g3; have e3 := hO6.e3
    have c4 := hO6.c4; have f4 := hO6.f4; have g4 := hO6.g4; have e4 := hO6.e4
    have c5 := hO6.c5; have f5 := hO6.f5; have g5 := hO6.g5; have e5 := hO6.e5
    have d06 : w6.cell? ⟨c + 1, 0, none⟩ = some (.bool (fR (1 + k0))) := by rw [hb6.cell (p := ⟨c + 1, 0, none⟩) (by (try simp) <;> omega) (by dsimp only; omega)]; simp [go_sem, d05]
    have d16 : w6.cell? ⟨c + 1, 1, none⟩ = some (.bool (fS (1 + k0))) := by rw [hb6.cell (p := ⟨c + 1, 1, none⟩) (by (try simp) <;> omega) (by dsimp only; omega)]; simp [go_sem, d15]
    have d26 : w6.cell? ⟨c + 1, 2, none⟩ = some (.bool (fT (1 + k0))) := by rw [hb6.cell (p := ⟨c + 1, 2, none⟩) (by (try simp) <;> omega) (by dsimp only; omega)]; simp [go_sem, d25]
    have d36 : w6.cell? ⟨c + 1, 3, none⟩ = some (.bool (fV (1 + k0))) := by rw [hb6.cell (p := ⟨c + 1, 3, none⟩) (by (try simp) <;> omega) (by dsimp only; omega)]; simp [go_sem, d35]
    have ls6 := hb6.size
    try simp at ls6
    clear hb6 hR6 d05 d15 d25 d35
    have hF := ((hO6.set4 1).set5 (1 + r6))
    go_wp2_with fail
    exact bodyPost_ret (v := .agg #[.int .i64 (1 + k0), .int .i64 r2, .int .i64 r3, .int .i64 r4, .int .i64 1, .int .i64 (1 + r6)]) (by simp [results, Tryz.results32, go_sem, g0, g1, g2, g3, g4, g5]) rfl
      ⟨(1 + k0), r2, r3, r4, 1, (1 + r6), (p5 + 1), rfl, ((((((hF.but.setNew (by dsimp only; omega) _).setNew (by dsimp only; omega) _).setNew (by dsimp only; omega) _).setNew (by dsimp only; omega) _).setNew (by dsimp only; omega) _).setNew (by dsimp only; omega) _), by omega, hF.rd.but (C := w.heap.size) (But.setCell (R := w.heap.size) (But.setCell (R := w.heap.size) (But.setCell (R := w.heap.size) (But.setCell (R := w.heap.size) (But.setCell (R := w.heap.size) (But.setCell (R := w.heap.size) (But.refl _ _) (p := ⟨w.heap.size, 0, none⟩) rfl _) (p := ⟨w.heap.size, 1, none⟩) rfl _) (p := ⟨w.heap.size, 2, none⟩) rfl _) (p := ⟨w.heap.size, 3, none⟩) rfl _) (p := ⟨w.heap.size, 4, none⟩) rfl _) (p := ⟨w.heap.size, 5, none⟩) rfl _) (by omega)⟩
  · go_wp2_with fail
    refine (pick_any R (p + 1) m _ hO.rd (by omega) (by omega) (by omega)).mono ?_
    rintro e w2 ⟨r2, rfl, hr2, hb2, hR2⟩
    have hO2 := hO.go hb2 hR2
    have c0 := hO2.c0; have f0 := hO2.f0; have g0 := hO2.g0; have e0 := hO2.e0
    have c1 := hO2.c1; have f1 := hO2.f1; have g1 := hO2.g1; have e1 := hO2.e1
    have c2 := hO2.c2; have f2 := hO2.f2; have g2 := hO2.g2; have e2 := hO2.e2
    have c3 := hO2.c3; have f3 := hO2.f3; have g3 := hO2.g3; have e3 := hO2.e3
    have c4 := hO2.c4; have f4 := hO2.f4; have g4 := hO2.g4; have e4 := hO2.e4
    have c5 := hO2.c5; have f5 := hO2.f5; have g5 := hO2.g5; have e5 := hO2.e5
    have d02 : w2.cell? ⟨c + 1, 0, none⟩ = some (.bool (fR (1 + k0))) := by rw [hb2.cell (p := ⟨c + 1, 0, none⟩) (by (try simp) <;> omega) (by dsimp only; omega)]; simp [go_sem, d0]
    have d12 : w2.cell? ⟨c + 1, 1, none⟩ = some (.bool (fS (1 + k0))) := by rw [hb2.cell (p := ⟨c + 1, 1, none⟩) (by (try simp) <;> omega) (by dsimp only; omega)]; simp [go_sem, d1]
    have d22 : w2.cell? ⟨c + 1, 2, none⟩ = some (.bool (fT (1 + k0))) := by rw [hb2.cell (p := ⟨c + 1, 2, none⟩) (by (try simp) <;> omega) (by dsimp only; omega)]; simp [go_sem, d2]
    have d32 : w2.cell? ⟨c + 1, 3, none⟩ = some (.bool (fV (1 + k0))) := by rw [hb2.cell (p := ⟨c + 1, 3, none⟩) (by (try simp) <;> omega) (by dsimp only; omega)]; simp [go_sem, d3]
    have ls2 := hb2.size
    try simp at ls2
    clear hb2 hR2 d0 d1 d2 d3
    have hF := (hO2.set3 r2)
    go_wp2_with fail
    exact bodyPost_ret (v := .agg #[.int .i64 (1 + k0), .int .i64 0, .int .i64 0, .int .i64 r2, .int .i64 0, .int .i64 0]) (by simp [results, Tryz.results32, go_sem, g0, g1, g2, g3, g4, g5]) rfl
      ⟨(1 + k0), 0, 0, r2, 0, 0, ((p + 1) + 1), rfl, ((((((hF.but.setNew (by dsimp only; omega) _).setNew (by dsimp only; omega) _).setNew (by dsimp only; omega) _).setNew (by dsimp only; omega) _).setNew (by dsimp only; omega) _).setNew (by dsimp only; omega) _), by omega, hF.rd.but (C := w.heap.size) (But.setCell (R := w.heap.size) (But.setCell (R := w.heap.size) (But.setCell (R := w.heap.size) (But.setCell (R := w.heap.size) (But.setCell (R := w.heap.size) (But.setCell (R := w.heap.size) (But.refl _ _) (p := ⟨w.heap.size, 0, none⟩) rfl _) (p := ⟨w.heap.size, 1, none⟩) rfl _) (p := ⟨w.heap.size, 2, none⟩) rfl _) (p := ⟨w.heap.size, 3, none⟩) rfl _) (p := ⟨w.heap.size, 4, none⟩) rfl _) (p := ⟨w.heap.size, 5, none⟩) rfl _) (by omega)⟩
  · go_wp2_with fail
    refine (pick_any R (p + 1) 4 _ hO.rd (by omega) (by omega) (by omega)).mono ?_
    rintro e w2 ⟨r2, rfl, hr2, hb2, hR2⟩
    have hO2 := hO.go hb2 hR2
    have c0 := hO2.c0; have f0 := hO2.f0; have g0 := hO2.g0; have e0 := hO2.e0
    have c1 := hO2.c1; have f1 := hO2.f1; have g1 := hO2.g1; have e1 := hO2.e1
    have c2 := hO2.c2; have f2 := hO2.f2; have g2 := hO2.g2; have e2 := hO2.e2
    have c3 := hO2.c3; have f3 := hO2.f3; have g3 := hO2.g3; have e3 := hO2.e3
    have c4 := hO2.c4; have f4 := hO2.f4; have g4 := hO2.g4; have e4 := hO2.e4
    have c5 := hO2.c5; have f5 := hO2.f5; have g5 := hO2.g5; have e5 := hO2.e5
    have d02 : w2.cell? ⟨c + 1, 0, none⟩ = some (.bool (fR (1 + k0))) := by rw [hb2.cell (p := ⟨c + 1, 0, none⟩) (by (try simp) <;> omega) (by dsimp only; omega)]; simp [go_sem, d0]
    have d12 : w2.cell? ⟨c + 1, 1, none⟩ = some (.bool (fS (1 + k0))) := by rw [hb2.cell (p := ⟨c + 1, 1, none⟩) (by (try simp) <;> omega) (by dsimp only; omega)]; simp [go_sem, d1]
    have d22 : w2.cell? ⟨c + 1, 2, none⟩ = some (.bool (fT (1 + k0))) := by rw [hb2.cell (p := ⟨c + 1, 2, none⟩) (by (try simp) <;> omega) (by dsimp only; omega)]; simp [go_sem, d2]
    have d32 : w2.cell? ⟨c + 1, 3, none⟩ = some (.bool (fV (1 + k0))) := by rw [hb2.cell (p := ⟨c + 1, 3, none⟩) (by (try simp) <;> omega) (by dsimp only; omega)]; simp [go_sem, d3]
    have ls2 := hb2.size
    try simp at ls2
    clear hb2 hR2 d0 d1 d2 d3
    go_wp2_with fail
    refine (pick_any R ((p + 1) + 1) m _ (hO2.set1 r2).rd (by omega) (by omega) (by omega)).mono ?_
    rintro e w3 ⟨r3, rfl, hr3, hb3, hR3⟩
    have hO3 := (hO2.set1 r2).go hb3 hR3
    clear c0 f0 g0 e0 c1 f1 g1 e1 c2 f2 g2 e2 c3 f3 g3 e3 c4 f4 g4 e4 c5 f5 g5 e5
    have c0 := hO3.c0; have f0 := hO3.f0; have g0 := hO3.g0; have e0 := hO3.e0
    have c1 := hO3.c1; have f1 := hO3.f1; have g1 := hO3.g1; have e1 := hO3.e1
    have c2 := hO3.c2; have f2 := hO3.f2; have g2 := hO3.g2; have e2 := hO3.e2
    have c3 := hO3.c3; have f3 := hO3.f3; have g3 := hO3.g3; have e3 := hO3.e3
    have c4 := hO3.c4; have f4 := hO3.f4; have g4 := hO3.g4; have e4 := hO3.e4
    have c5 := hO3.c5; have f5 := hO3.f5; have g5 := hO3.g5; have e5 := hO3.e5
    have d03 : w3.cell? ⟨c + 1, 0, none⟩ = some (.bool (fR (1 + k0))) := by rw [hb3.cell (p := ⟨c + 1, 0, none⟩) (by (try simp) <;> omega) (by dsimp only; omega)]; simp [go_sem, d02]
    have d13 : w3.cell? ⟨c + 1, 1, none⟩ = some (.bool (fS (1 + k0))) := by rw [hb3.cell (p := ⟨c + 1, 1, none⟩) (by (try simp) <;> omega) (by dsimp only; omega)]; simp [go_sem, d12]
    have d23 : w3.cell? ⟨c + 1, 2, none⟩ = some (.bool (fT (1 + k0))) := by rw [hb3.cell (p := ⟨c + 1, 2, none⟩) (by (try simp) <;> omega) (by dsimp only; omega)]; simp [go_sem, d22]
    have d33 : w3.cell? ⟨c + 1, 3, none⟩ = some (.bool (fV (1 + k0))) := by rw [hb3.cell (p := ⟨c + 1, 3, none⟩) (by (try simp) <;> omega) (by dsimp only; omega)]; simp [go_sem, d32]
    have ls3 := hb3.size
    try simp at ls3
    clear hb3 hR3 d02 d12 d22 d32
    go_wp2_with fail
    refine (good_any R (((p + 1) + 1) + 1) _ (hO3.set3 r3).rd (by omega)).mono ?_
    rintro e w4 ⟨r4, q4, p4, rfl, hr4, hb4, hp4, hR4⟩
    have hO4 := (hO3.set3 r3).go hb4 hR4
    clear c0 f0 g0 e0 c1 f1 g1 e1 c2 f2 g2 e2 c3 f3 g3 e3 c4 f4 g4 e4 c5 f5 g5 e5
    have c0 := hO4.c0; have f0 := hO4.f0; have g0 := hO4.g0; have e0 := hO4.e0
    have c1 := hO4.c1; have f1 := hO4.f1; have g1 := hO4.g1; have e1 := hO4.e1
    have c2 := hO4.c2; have f2 := hO4.f2; have g2 := hO4.g2; have e2 := hO4.e2
    have c3 := hO4.c3; have f3 := hO4.f3; have g3 := hO4.g3; have e3 := hO4.e3
    have c4 := hO4.c4; have f4 := hO4.f4; have g4 := hO4.g4; have e4 := hO4.e4
    have c5 := hO4.c5; have f5 := hO4.f5; have g5 := hO4.g5; have e5 := hO4.e5
    have d04 : w4.cell? ⟨c + 1, 0, none⟩ = some (.bool (fR (1 + k0))) := by rw [hb4.cell (p := ⟨c + 1, 0, none⟩) (by (try simp) <;> omega) (by dsimp only; omega)]; simp [go_sem, d03]
    have d14 : w4.cell? ⟨c + 1, 1, none⟩ = some (.bool (fS (1 + k0))) := by rw [hb4.cell (p := ⟨c + 1, 1, none⟩) (by (try simp) <;> omega) (by dsimp only; omega)]; simp [go_sem, d13]
    have d24 : w4.cell? ⟨c + 1, 2, none⟩ = some (.bool (fT (1 + k0))) := by rw [hb4.cell (p := ⟨c + 1, 2, none⟩) (by (try simp) <;> omega) (by dsimp only; omega)]; simp [go_sem, d23]
    have d34 : w4.cell? ⟨c + 1, 3, none⟩ = some (.bool (fV (1 + k0))) := by rw [hb4.cell (p := ⟨c + 1, 3, none⟩) (by (try simp) <;> omega) (by dsimp only; omega)]; simp [go_sem, d33]
    have ls4 := hb4.size
    try simp at ls4
    clear hb4 hR4 d03 d13 d23 d33
    have hF := ((hO4.set4 r4).set5 q4)
    go_wp2_with fail
    exact bodyPost_ret (v := .agg #[.int .i64 (1 + k0), .int .i64 r2, .int .i64 0, .int .i64 r3, .int .i64 r4, .int .i64 q4]) (by simp [results, Tryz.results32, go_sem, g0, g1, g2, g3, g4, g5]) rfl
      ⟨(1 + k0), r2, 0, r3, r4, q4, p4, rfl, ((((((hF.but.setNew (by dsimp only; omega) _).setNew (by dsimp only; omega) _).setNew (by dsimp only; omega) _).setNew (by dsimp only; omega) _).setNew (by dsimp only; omega) _).setNew (by dsimp only; omega) _), by omega, hF.rd.but (C := w.heap.size) (But.setCell (R := w.heap.size) (But.setCell (R := w.heap.size) (But.setCell (R := w.heap.size) (But.setCell (R := w.heap.size) (But.setCell (R := w.heap.size) (But.setCell (R := w.heap.size) (But.refl _ _) (p := ⟨w.heap.size, 0, none⟩) rfl _) (p := ⟨w.heap.size, 1, none⟩) rfl _) (p := ⟨w.heap.size, 2, none⟩) rfl _) (p := ⟨w.heap.size, 3, none⟩) rfl _) (p := ⟨w.heap.size, 4, none⟩) rfl _) (p := ⟨w.heap.size, 5, none⟩) rfl _) (by omega)⟩
  · go_wp2_with fail
    refine (good_any R (p + 1) _ hO.rd (by omega)).mono ?_
    rintro e w2 ⟨r2, q2, p2, rfl, hr2, hb2, hp2, hR2⟩
    have hO2 := hO.go hb2 hR2
    have c0 := hO2.c0; have f0 := hO2.f0; have g0 := hO2.g0; have e0 := hO2.e0
    have c1 := hO2.c1; have f1 := hO2.f1; have g1 := hO2.g1; have e1 := hO2.e1
    have c2 := hO2.c2; have f2 := hO2.f2; have g2 := hO2.g2; have e2 := hO2.e2
    have c3 := hO2.c3; have f3 := hO2.f3; have g3 := hO2.g3; have e3 := hO2.e3
    have c4 := hO2.c4; have f4 := hO2.f4; have g4 := hO2.g4; have e4 := hO2.e4
    have c5 := hO2.c5; have f5 := hO2.f5; have g5 := hO2.g5; have e5 := hO2.e5
    have d02 : w2.cell? ⟨c + 1, 0, none⟩ = some (.bool (fR (1 + k0))) := by rw [hb2.cell (p := ⟨c + 1, 0, none⟩) (by (try simp) <;> omega) (by dsimp only; omega)]; simp [go_sem, d0]
    have d12 : w2.cell? ⟨c + 1, 1, none⟩ = some (.bool (fS (1 + k0))) := by rw [hb2.cell (p := ⟨c + 1, 1, none⟩) (by (try simp) <;> omega) (by dsimp only; omega)]; simp [go_sem, d1]
    have d22 : w2.cell? ⟨c + 1, 2, none⟩ = some (.bool (fT (1 + k0))) := by rw [hb2.cell (p := ⟨c + 1, 2, none⟩) (by (try simp) <;> omega) (by dsimp only; omega)]; simp [go_sem, d2]
    have d32 : w2.cell? ⟨c + 1, 3, none⟩ = some (.bool (fV (1 + k0))) := by rw [hb2.cell (p := ⟨c + 1, 3, none⟩) (by (try simp) <;> omega) (by dsimp only; omega)]; simp [go_sem, d3]
    have ls2 := hb2.size
    try simp at ls2
    clear hb2 hR2 d0 d1 d2 d3
    go_wp2_with fail
    refine (pick_any R p2 2 _ ((hO2.set4 r2).set5 q2).rd (by omega) (by omega) (by omega)).mono ?_
    rintro e w3 ⟨r3, rfl, hr3, hb3, hR3⟩
    have hO3 := ((hO2.set4 r2).set5 q2).go hb3 hR3
    clear c0 f0 g0 e0 c1 f1 g1 e1 c2 f2 g2 e2 c3 f3 g3 e3 c4 f4 g4 e4 c5 f5 g5 e5
    have c0 := hO3.c0; have f0 := hO3.f0; have g0 := hO3.g0; have e0 := hO3.e0
    have c1 := hO3.c1; have f1 := hO3.f1; have g1 := hO3.g1; have e1 := hO3.e1
    have c2 := hO3.c2; have f2 := hO3.f2; have g2 := hO3.g2; have e2 := hO3.e2
    have c3 := hO3.c3; have f3 := hO3.f3; have g3 := hO3.g3; have e3 := hO3.e3
    have c4 := hO3.c4; have f4 := hO3.f4; have g4 := hO3.g4; have e4 := hO3.e4
    have c5 := hO3.c5; have f5 := hO3.f5; have g5 := hO3.g5; have e5 := hO3.e5
    have d03 : w3.cell? ⟨c + 1, 0, none⟩ = some (.bool (fR (1 + k0))) := by rw [hb3.cell (p := ⟨c + 1, 0, none⟩) (by (try simp) <;> omega) (by dsimp only; omega)]; simp [go_sem, d02]
    have d13 : w3.cell? ⟨c + 1, 1, none⟩ = some (.bool (fS (1 + k0))) := by rw [hb3.cell (p := ⟨c + 1, 1, none⟩) (by (try simp) <;> omega) (by dsimp only; omega)]; simp [go_sem, d12]
    have d23 : w3.cell? ⟨c + 1, 2, none⟩ = some (.bool (fT (1 + k0))) := by rw [hb3.cell (p := ⟨c + 1, 2, none⟩) (by (try simp) <;> omega) (by dsimp only; omega)]; simp [go_sem, d22]
    have d33 : w3.cell? ⟨c + 1, 3, none⟩ = some (.bool (fV (1 + k0))) := by rw [hb3.cell (p := ⟨c + 1, 3, none⟩) (by (try simp) <;> omega) (by dsimp only; omega)]; simp [go_sem, d32]
    have ls3 := hb3.size
    try simp at ls3
    clear hb3 hR3 d02 d12 d22 d32
    have hF := ((hO3.set4 1).set5 r3)
    go_wp2_with fail
    exact bodyPost_ret (v := .agg #[.int .i64 (1 + k0), .int .i64 0, .int .i64 0, .int .i64 0, .int .i64 1, .int .i64 r3]) (by simp [results, Tryz.results32, go_sem, g0, g1, g2, g3, g4, g5]) rfl
      ⟨(1 + k0), 0, 0, 0, 1, r3, (p2 + 1), rfl, ((((((hF.but.setNew (by dsimp only; omega) _).setNew (by dsimp only; omega) _).setNew (by dsimp only; omega) _).setNew (by dsimp only; omega) _).setNew (by dsimp only; omega) _).setNew (by dsimp only; omega) _), by omega, hF.rd.but (C := w.heap.size) (But.setCell (R := w.heap.size) (But.setCell (R := w.heap.size) (But.setCell (R := w.heap.size) (But.setCell (R := w.heap.size) (But.setCell (R := w.heap.size) (But.setCell (R := w.heap.size) (But.refl _ _) (p := ⟨w.heap.size, 0, none⟩) rfl _) (p := ⟨w.heap.size, 1, none⟩) rfl _) (p := ⟨w.heap.size, 2, none⟩) rfl _) (p := ⟨w.heap.size, 3, none⟩) rfl _) (p := ⟨w.heap.size, 4, none⟩) rfl _) (p := ⟨w.heap.size, 5, none⟩) rfl _) (by omega)⟩
end Go.Proofs.YtcpkfganjndlhaaGreatDoor
