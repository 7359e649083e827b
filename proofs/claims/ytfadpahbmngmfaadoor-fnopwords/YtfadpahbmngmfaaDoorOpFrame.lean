/-
  A step handed in over this translation, opened and shut again; and what laws.toOp answers.
-/
import Derived.Test.YtfadpahbmngmfaaDoorFrameErrs
import Derived.Test.YtfadpahbmngmfaaDoorOpForm
namespace Go.Proofs.YtfadpahbmngmfaaDoor
open Go.ChangeShapes Go.WideShapes Go.ChangeAt Go.RowKit Go.Joins
theorem array6 {cs : Array Value} (h : cs.size = 6) : ∃ c0 c1 c2 c3 c4 c5, cs = #[c0, c1, c2, c3, c4, c5] := by
  obtain ⟨l⟩ := cs
  match l, h with
  | [c0, c1, c2, c3, c4, c5], _ => exact ⟨c0, c1, c2, c3, c4, c5, rfl⟩
theorem cellsInt : Tryd.prog.cellsOf 3 = 1 := by kernel_rfl
theorem cellsOp : Tryd.prog.cellsOf 36 = 6 := by kernel_rfl
set_option maxRecDepth 20000 in
theorem open_op {H : Type} {enc : TypeId × Value → H} {W : World} {rc : Reach} {b0 base : Nat} {spare : Nat → Bool} {held : Bool} {v : Value} {d : DataW H} {p : List MemPlace}
    (hv : Value.okWide Tryd.prog W rc b0 36 v) (h : DataW.Trod enc Tryd.prog W base spare held 36 v d p) :
    ∃ k r s t a b : Int, v = .agg #[.int .i64 k, .int .i64 r, .int .i64 s, .int .i64 t, .int .i64 a, .int .i64 b] ∧
      d = .agg [.lit (.int .i64 k), .lit (.int .i64 r), .lit (.int .i64 s), .lit (.int .i64 t), .agg [.lit (.int .i64 a), .lit (.int .i64 b)]] ∧ p = [] ∧
      (Lit.int .i64 k).wf = true ∧ (Lit.int .i64 r).wf = true ∧ (Lit.int .i64 s).wf = true ∧ (Lit.int .i64 t).wf = true ∧ (Lit.int .i64 a).wf = true ∧ (Lit.int .i64 b).wf = true := by
  obtain ⟨cs, rfl, hsz⟩ := okWide_struct Tryd.underlying36 hv
  obtain ⟨c0, c1, c2, c3, c4, c5, rfl⟩ := array6 (hsz.trans cellsOp)
  obtain ⟨fuel, hf⟩ := h
  obtain ⟨xs, n, _, hx, hl, hlen, hfs⟩ := DataW.trod_struct Tryd.underlying36 hf
  match xs, hlen with
  | [y0, y1, y2, y3, y4], _ =>
    have h0 : DataW.trod enc Tryd.prog W base spare held n 3 [c0] = some y0 := by simpa [Value.cells, cellsInt] using hfs 0 _ rfl
    have h1 : DataW.trod enc Tryd.prog W base spare held n 3 [c1] = some y1 := by simpa [Value.cells, cellsInt] using hfs 1 _ rfl
    have h2 : DataW.trod enc Tryd.prog W base spare held n 3 [c2] = some y2 := by simpa [Value.cells, cellsInt] using hfs 2 _ rfl
    have h3 : DataW.trod enc Tryd.prog W base spare held n 3 [c3] = some y3 := by simpa [Value.cells, cellsInt] using hfs 3 _ rfl
    have h4 : DataW.trod enc Tryd.prog W base spare held n 34 [c4, c5] = some y4 := by simpa [Value.cells, cellsVal] using hfs 4 _ rfl
    obtain ⟨x0, x1, m, hy, _, g0, g1⟩ := trod_struct2 Tryd.underlying34 h4
    have g0 : DataW.trod enc Tryd.prog W base spare held m 3 [c4] = some x0 := by simpa [cellsInt] using g0
    have g1 : DataW.trod enc Tryd.prog W base spare held m 3 [c5] = some x1 := by simpa [cellsInt] using g1
    obtain ⟨k, e0, rfl, w0⟩ := DataW.trod_int Tryd.underlying3 h0
    obtain ⟨r, e1, rfl, w1⟩ := DataW.trod_int Tryd.underlying3 h1
    obtain ⟨s, e2, rfl, w2⟩ := DataW.trod_int Tryd.underlying3 h2
    obtain ⟨t, e3, rfl, w3⟩ := DataW.trod_int Tryd.underlying3 h3
    obtain ⟨a, e4, rfl, w4⟩ := DataW.trod_int Tryd.underlying3 g0
    obtain ⟨b, e5, rfl, w5⟩ := DataW.trod_int Tryd.underlying3 g1
    simp at e0 e1 e2 e3 e4 e5
    subst e0 e1 e2 e3 e4 e5
    subst hy
    simp at hx
    exact ⟨k, r, s, t, a, b, rfl, hx.1, hx.2, w0, w1, w2, w3, w4, w5⟩
set_option maxRecDepth 20000 in
theorem shut_op {H : Type} (enc : TypeId × Value → H) (k r s t a b : Int) (w0 : (Lit.int .i64 k).wf = true) (w1 : (Lit.int .i64 r).wf = true) (w2 : (Lit.int .i64 s).wf = true) (w3 : (Lit.int .i64 t).wf = true) (w4 : (Lit.int .i64 a).wf = true) (w5 : (Lit.int .i64 b).wf = true) (W : World) (base : Nat) (sp : Nat → Bool) :
    DataW.Trod enc Tryd.prog W base sp true 36 (.agg #[.int .i64 k, .int .i64 r, .int .i64 s, .int .i64 t, .int .i64 a, .int .i64 b])
      (.agg [.lit (.int .i64 k), .lit (.int .i64 r), .lit (.int .i64 s), .lit (.int .i64 t), .agg [.lit (.int .i64 a), .lit (.int .i64 b)]]) [] := by
  have hi : ∀ (x : Int) (n : Nat), (Lit.int .i64 x).wf = true → DataW.trod enc Tryd.prog W base sp true (n + 1) 3 [.int .i64 x] = some (.lit (.int .i64 x), []) := fun x n hx => by simp [DataW.trod, Tryd.underlying3, hx]
  have hv : DataW.trod enc Tryd.prog W base sp true 2 34 [.int .i64 a, .int .i64 b] = some (.agg [.lit (.int .i64 a), .lit (.int .i64 b)], []) :=
    trod_struct2_mk (y0 := (.lit (.int .i64 a), [])) (y1 := (.lit (.int .i64 b), [])) Tryd.underlying34 (by simp [cellsVal]) (by simpa [cellsInt] using hi a 0 w4) (by simpa [cellsInt] using hi b 0 w5)
  have ts := trod_struct_mk (enc := enc) (w := W) (base := base) (spare := sp) (held := true) (n := 2) (cs := [.int .i64 k, .int .i64 r, .int .i64 s, .int .i64 t, .int .i64 a, .int .i64 b])
    (xs := [(.lit (.int .i64 k), []), (.lit (.int .i64 r), []), (.lit (.int .i64 s), []), (.lit (.int .i64 t), []), (.agg [.lit (.int .i64 a), .lit (.int .i64 b)], [])]) Tryd.underlying36 (by simp [cellsOp])
    (by simp [cellsInt, cellsVal, hi k 1 w0, hi r 1 w1, hi s 1 w2, hi t 1 w3, hv])
  exact ⟨_, by simpa [Value.cells] using ts⟩
set_option maxHeartbeats 1000000 in
theorem toOp_any (k r s t a b : Int) (w : World) :
    Calls Tryd.prog 19 #[.agg #[.int .i64 k, .int .i64 r, .int .i64 s, .int .i64 t, .int .i64 a, .int .i64 b]] w fun e w' => e = .returned (.agg #[.int .i64 k, .int .i64 r, .int .i64 s, .int .i64 t, .int .i64 a, .int .i64 b]) ∧ Below w.heap.size w w' := by
  go_enter Tryd.func19, Tryd.ntmps19
  go_wp2_with fail
  refine (toVal_any _ _ _).mono ?_
  rintro e w1 ⟨rfl, hb1⟩
  obtain ⟨hc1, hf1⟩ := bcell hb1
  have c0 : w1.cell? ⟨w.heap.size + 1 + 1, 0, none⟩ = some (.int .i64 k) := by rw [hc1 _ _ (by simp)]; simp [go_sem]
  have c1 : w1.cell? ⟨w.heap.size + 1 + 1, 1, none⟩ = some (.int .i64 r) := by rw [hc1 _ _ (by simp)]; simp [go_sem]
  have c2 : w1.cell? ⟨w.heap.size + 1 + 1, 2, none⟩ = some (.int .i64 s) := by rw [hc1 _ _ (by simp)]; simp [go_sem]
  have c3 : w1.cell? ⟨w.heap.size + 1 + 1, 3, none⟩ = some (.int .i64 t) := by rw [hc1 _ _ (by simp)]; simp [go_sem]
  have c4 : w1.cell? ⟨w.heap.size + 1 + 1, 4, none⟩ = some (.int .i64 0) := by rw [hc1 _ _ (by simp)]; simp [go_sem]
  have c5 : w1.cell? ⟨w.heap.size + 1 + 1, 5, none⟩ = some (.int .i64 0) := by rw [hc1 _ _ (by simp)]; simp [go_sem]
  have f4 : w1.frozen? ⟨w.heap.size + 1 + 1, 4, none⟩ = false := by rw [hf1 _ _ (by simp)]; simp [go_sem]
  have f5 : w1.frozen? ⟨w.heap.size + 1 + 1, 5, none⟩ = false := by rw [hf1 _ _ (by simp)]; simp [go_sem]
  have d0 : w1.cell? ⟨w.heap.size + 1, 0, none⟩ = some (.int .i64 0) := by rw [hc1 _ _ (by simp)]; simp [go_sem]
  have d1 : w1.cell? ⟨w.heap.size + 1, 1, none⟩ = some (.int .i64 0) := by rw [hc1 _ _ (by simp)]; simp [go_sem]
  have d2 : w1.cell? ⟨w.heap.size + 1, 2, none⟩ = some (.int .i64 0) := by rw [hc1 _ _ (by simp)]; simp [go_sem]
  have d3 : w1.cell? ⟨w.heap.size + 1, 3, none⟩ = some (.int .i64 0) := by rw [hc1 _ _ (by simp)]; simp [go_sem]
  have d4 : w1.cell? ⟨w.heap.size + 1, 4, none⟩ = some (.int .i64 0) := by rw [hc1 _ _ (by simp)]; simp [go_sem]
  have d5 : w1.cell? ⟨w.heap.size + 1, 5, none⟩ = some (.int .i64 0) := by rw [hc1 _ _ (by simp)]; simp [go_sem]
  have g0 : w1.frozen? ⟨w.heap.size + 1, 0, none⟩ = false := by rw [hf1 _ _ (by simp)]; simp [go_sem]
  have g1 : w1.frozen? ⟨w.heap.size + 1, 1, none⟩ = false := by rw [hf1 _ _ (by simp)]; simp [go_sem]
  have g2 : w1.frozen? ⟨w.heap.size + 1, 2, none⟩ = false := by rw [hf1 _ _ (by simp)]; simp [go_sem]
  have g3 : w1.frozen? ⟨w.heap.size + 1, 3, none⟩ = false := by rw [hf1 _ _ (by simp)]; simp [go_sem]
  have g4 : w1.frozen? ⟨w.heap.size + 1, 4, none⟩ = false := by rw [hf1 _ _ (by simp)]; simp [go_sem]
  have g5 : w1.frozen? ⟨w.heap.size + 1, 5, none⟩ = false := by rw [hf1 _ _ (by simp)]; simp [go_sem]
  have hB1 : Below w.heap.size w w1 := ((((Below.refl _ _).alloc (Nat.le_refl _) _).alloc (by simp) _).alloc (by simp; omega) _).trans (hb1.mono (by simp; omega))
  clear hc1 hf1 hb1
  go_wp2_with fail
  refine bodyPost_ret (v := .agg #[.int .i64 k, .int .i64 r, .int .i64 s, .int .i64 t, .int .i64 a, .int .i64 b]) (by simp [results, Tryd.results19, go_sem, d0, d1, d2, d3, d4, d5]) rfl ⟨rfl, ((((((((hB1.setCell (by dsimp only; omega) _).setCell (by dsimp only; omega) _).setCell (by dsimp only; omega) _).setCell (by dsimp only; omega) _).setCell (by dsimp only; omega) _).setCell (by dsimp only; omega) _).setCell (by dsimp only; omega) _).setCell (by dsimp only; omega) _)⟩
end Go.Proofs.YtfadpahbmngmfaaDoor
