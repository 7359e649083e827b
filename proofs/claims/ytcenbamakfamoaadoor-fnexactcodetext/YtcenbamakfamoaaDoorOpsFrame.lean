/-
  Steps handed in over this translation: a slice of them, opened.
-/
import Derived.Test.YtcenbamakfamoaaDoorCodeAt
import Derived.Deep.Slices
namespace Go.Proofs.YtcenbamakfamoaaDoor
open Go.ChangeShapes Go.WideShapes Go.ChangeAt Go.RowKit Go.Joins
theorem cellsOpL : Tryd.prog.cellsOf 40 = 6 := by kernel_rfl
theorem cellsValL : Tryd.prog.cellsOf 38 = 2 := by kernel_rfl
theorem cellsIntL : Tryd.prog.cellsOf 3 = 1 := by kernel_rfl
set_option maxRecDepth 20000 in
theorem op_cells {H : Type} {enc : TypeId × Value → H} {W : World} {base : Nat} {spare : Nat → Bool} {held : Bool} {n : Nat} {cs : List Value} {y : DataW H × List MemPlace}
    (hlen : cs.length = 6) (h : DataW.trod enc Tryd.prog W base spare held n 40 cs = some y) : ∃ x : OpV, cs = x.cells := by
  obtain ⟨xs, m, _, hx, hl, hxl, hfs⟩ := DataW.trod_struct Tryd.underlying40 h
  match cs, hlen, xs, hxl with
  | [c0, c1, c2, c3, c4, c5], _, [y0, y1, y2, y3, y4], _ =>
    have h0 : DataW.trod enc Tryd.prog W base spare held m 3 [c0] = some y0 := by simpa [cellsIntL] using hfs 0 _ rfl
    have h1 : DataW.trod enc Tryd.prog W base spare held m 3 [c1] = some y1 := by simpa [cellsIntL] using hfs 1 _ rfl
    have h2 : DataW.trod enc Tryd.prog W base spare held m 3 [c2] = some y2 := by simpa [cellsIntL] using hfs 2 _ rfl
    have h3 : DataW.trod enc Tryd.prog W base spare held m 3 [c3] = some y3 := by simpa [cellsIntL] using hfs 3 _ rfl
    have h4 : DataW.trod enc Tryd.prog W base spare held m 38 [c4, c5] = some y4 := by simpa [cellsValL] using hfs 4 _ rfl
    obtain ⟨x0, x1, q, hy, _, g0, g1⟩ := trod_struct2 Tryd.underlying38 h4
    have g0 : DataW.trod enc Tryd.prog W base spare held q 3 [c4] = some x0 := by simpa [cellsIntL] using g0
    have g1 : DataW.trod enc Tryd.prog W base spare held q 3 [c5] = some x1 := by simpa [cellsIntL] using g1
    obtain ⟨k, e0, rfl, w0⟩ := DataW.trod_int Tryd.underlying3 h0
    obtain ⟨r, e1, rfl, w1⟩ := DataW.trod_int Tryd.underlying3 h1
    obtain ⟨s, e2, rfl, w2⟩ := DataW.trod_int Tryd.underlying3 h2
    obtain ⟨t, e3, rfl, w3⟩ := DataW.trod_int Tryd.underlying3 h3
    obtain ⟨a, e4, rfl, w4⟩ := DataW.trod_int Tryd.underlying3 g0
    obtain ⟨b, e5, rfl, w5⟩ := DataW.trod_int Tryd.underlying3 g1
    simp at e0 e1 e2 e3 e4 e5
    exact ⟨⟨k, r, s, t, a, b⟩, by simp [OpV.cells, e0, e1, e2, e3, e4, e5]⟩
theorem add_at (b o i : Nat) (sp : Option _) (h : i ≠ 0 ∨ sp = none) : (⟨b, o, sp⟩ : Addr).add i = ⟨b, o + i, none⟩ := by
  unfold Addr.add
  split
  · rename_i e; subst e; rcases h with h | h
    · exact absurd rfl h
    · simp [h]
  · rfl
/-- steps that came in -/
theorem code_in {H : Type} {enc : TypeId × Value → H} {W : World} {base : Nat} {spare : Nat → Bool} {held : Bool} {ao : Option Addr} {len cap : Nat} {d : DataW H} {p : List MemPlace}
    (h : DataW.Trod enc Tryd.prog W base spare held 22 (.slice ao len cap) d p) : ∃ C : List OpV, C.length = len ∧ CodeAt W ao C ∧ len ≤ 9223372036854775807 := by
  obtain ⟨fuel, hf⟩ := h
  rcases Deep.open_slice Tryd.underlying22 hf with ⟨hcs, _⟩ | ⟨a, l, c, m, n, D, Pl, hcs, _, hl, hm, hmm, _, hx⟩
  · simp [Value.cells] at hcs
    obtain ⟨_, rfl, _⟩ := hcs
    exact ⟨[], rfl, .inl rfl, by decide⟩
  · simp [Value.cells] at hcs
    obtain ⟨rfl, rfl, rfl⟩ := hcs
    have hlm : len ≤ m := by rw [hmm]; split <;> omega
    have each : ∀ i, i < len → ∃ x : OpV, ∀ j, j < 6 → W.cell? (a.add (i * 6 + j)) = x.cells[j]? := by
      intro i hi
      obtain ⟨cs', h1, h2⟩ := hx i (by omega)
      rw [cellsOpL] at h1
      obtain ⟨_, hlen, hcell⟩ := World.cells?_some h1
      obtain ⟨x, rfl⟩ := op_cells hlen h2
      exact ⟨x, fun j hj => by rw [← hcell j hj, Deep.add_add]⟩
    have : Inhabited OpV := ⟨opZ⟩
    obtain ⟨f, hf'⟩ := Deep.choose_lt each
    have hml : len ≤ 9223372036854775807 := by unfold maxLen at hm; omega
    by_cases h0 : len = 0
    · exact ⟨[], h0.symm, .inl rfl, hml⟩
    · obtain ⟨b, off, spot⟩ := a
      have hc : W.cell? (Addr.add ⟨b, off, spot⟩ (0 * 6 + 0)) = some (.int .i64 (f 0).k) := hf' 0 (by omega) 0 (by decide)
      have hspot : spot = none := by simpa [Addr.add] using World.cell?_spot hc
      subst hspot
      have hlt : b < W.heap.size := by simpa [Addr.add] using World.block_lt_of_cell? _ _ hc
      refine ⟨(List.range len).map f, by simp, .inr ⟨b, off, rfl, hlt, fun i hi => ?_⟩, hml⟩
      have hi' : i < len := by simpa using hi
      have hs : ∀ j, j < 6 → W.cell? ⟨b, off + i * 6 + j, none⟩ = (f i).cells[j]? := fun j hj => by
        rw [← hf' i hi' j hj, add_at b off _ none (.inr rfl), Nat.add_assoc]
      have e : ((List.range len).map f)[i] = f i := by simp
      rw [e]
      exact ⟨hs 0 (by decide), hs 1 (by decide), hs 2 (by decide), hs 3 (by decide), hs 4 (by decide), hs 5 (by decide)⟩
end Go.Proofs.YtcenbamakfamoaaDoor
