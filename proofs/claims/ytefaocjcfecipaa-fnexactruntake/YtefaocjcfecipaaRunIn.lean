/-
  A run handed in over this translation, opened: its own cells, and its four lists in memory.
-/
import Derived.Test.YtefaocjcfecipaaRunRow
import Derived.Deep.Slices
namespace Go.Proofs.Ytefaocjcfecipaa
open Go.ChangeShapes Go.WideShapes Go.ChangeAt Go.RowKit Go.Joins
theorem cellsRunIn : Try.prog.cellsOf 39 = 13 := by kernel_rfl
theorem cellsValIn : Try.prog.cellsOf 37 = 2 := by kernel_rfl
theorem cellsIntIn : Try.prog.cellsOf 3 = 1 := by kernel_rfl
theorem cellsBoolIn : Try.prog.cellsOf 4 = 1 := by kernel_rfl
theorem cellsValsIn : Try.prog.cellsOf 36 = 1 := by kernel_rfl
theorem cellsIntsIn : Try.prog.cellsOf 28 = 1 := by kernel_rfl
theorem add_atIn (b o i : Nat) : (⟨b, o, none⟩ : Addr).add i = ⟨b, o + i, none⟩ := by
  unfold Addr.add
  split
  · rename_i e; subst e; rfl
  · rfl
theorem val_cells {H : Type} {enc : TypeId × Value → H} {W : World} {base : Nat} {spare : Nat → Bool} {held : Bool} {n : Nat} {cs : List Value} {y : DataW H × List MemPlace}
    (hlen : cs.length = 2) (h : DataW.trod enc Try.prog W base spare held n 37 cs = some y) : ∃ x : Int × Int, cs = [.int .i64 x.1, .int .i64 x.2] := by
  match cs, hlen with
  | [c0, c1], _ =>
    obtain ⟨x0, x1, q, hy, _, g0, g1⟩ := trod_struct2 Try.underlying37 h
    have g0 : DataW.trod enc Try.prog W base spare held q 3 [c0] = some x0 := by simpa [cellsIntIn] using g0
    have g1 : DataW.trod enc Try.prog W base spare held q 3 [c1] = some x1 := by simpa [cellsIntIn] using g1
    obtain ⟨a, e4, _, w4⟩ := DataW.trod_int Try.underlying3 g0
    obtain ⟨b, e5, _, w5⟩ := DataW.trod_int Try.underlying3 g1
    simp at e4 e5
    exact ⟨(a, b), by rw [e4, e5]⟩
/-- a list of values that came in -/
theorem vals_in {H : Type} {enc : TypeId × Value → H} {W : World} {base : Nat} {spare : Nat → Bool} {held : Bool} {n : Nat} {c : Value} {y : DataW H × List MemPlace}
    (h : DataW.trod enc Try.prog W base spare held n 36 [c] = some y) : ∃ (ao : Option Addr) (L : List (Int × Int)) (cap : Nat), c = .slice ao L.length cap ∧ Vals W.heap.size W c L ∧ L.length ≤ 9223372036854775807 := by
  rcases Deep.open_slice Try.underlying36 h with ⟨hcs, _⟩ | ⟨a, len, cap, m, q, D, Pl, hcs, _, hl, hm, hmm, _, hx⟩
  · simp at hcs
    subst hcs
    exact ⟨none, [], 0, rfl, ⟨none, 0, rfl, .inl rfl⟩, by simp⟩
  · simp at hcs
    subst hcs
    have hlm : len ≤ m := by rw [hmm]; split <;> omega
    have each : ∀ i, i < len → ∃ x : Int × Int, ∀ j, j < 2 → W.cell? (a.add (i * 2 + j)) = [.int .i64 x.1, .int .i64 x.2][j]? := by
      intro i hi
      obtain ⟨cs', h1, h2⟩ := hx i (by omega)
      rw [cellsValIn] at h1
      obtain ⟨_, hlen, hcell⟩ := World.cells?_some h1
      obtain ⟨x, rfl⟩ := val_cells hlen h2
      exact ⟨x, fun j hj => by rw [← hcell j hj, Deep.add_add]⟩
    obtain ⟨f, hf'⟩ := Deep.choose_lt each
    have hml : len ≤ 9223372036854775807 := by unfold maxLen at hm; omega
    by_cases h0 : len = 0
    · subst h0
      exact ⟨some a, [], cap, rfl, ⟨some a, cap, rfl, .inl rfl⟩, by simp⟩
    · obtain ⟨b, off, spot⟩ := a
      have hc : W.cell? (Addr.add ⟨b, off, spot⟩ (0 * 2 + 0)) = some (.int .i64 (f 0).1) := hf' 0 (by omega) 0 (by decide)
      have hspot : spot = none := by simpa [Addr.add] using World.cell?_spot hc
      subst hspot
      have hlt : b < W.heap.size := by simpa [Addr.add] using World.block_lt_of_cell? _ _ hc
      refine ⟨some ⟨b, off, none⟩, (List.range len).map f, cap, by simp, ⟨some ⟨b, off, none⟩, cap, by simp, .inr ⟨b, off, rfl, hlt, fun i hi => ?_⟩⟩, by simpa using hml⟩
      have hi' : i < len := by simpa using hi
      have hs : ∀ j, j < 2 → W.cell? ⟨b, off + i * 2 + j, none⟩ = [Value.int .i64 (f i).1, .int .i64 (f i).2][j]? := fun j hj => by
        rw [← hf' i hi' j hj, add_atIn b off _, Nat.add_assoc]
      have e : ((List.range len).map f)[i] = f i := by simp
      rw [e]
      exact ⟨hs 0 (by decide), hs 1 (by decide)⟩
/-- a list of numbers that came in -/
theorem ints_in {H : Type} {enc : TypeId × Value → H} {W : World} {base : Nat} {spare : Nat → Bool} {held : Bool} {n : Nat} {c : Value} {y : DataW H × List MemPlace}
    (h : DataW.trod enc Try.prog W base spare held n 28 [c] = some y) : ∃ (ao : Option Addr) (L : List Int) (cap : Nat), c = .slice ao L.length cap ∧ Ints W.heap.size W c L ∧ L.length ≤ 9223372036854775807 := by
  rcases Deep.open_slice1 Try.underlying28 cellsIntIn h with ⟨hcs, _⟩ | ⟨a, len, cap, m, q, V, D, Pl, hcs, _, hl, hm, hmm, _, hx⟩
  · simp at hcs
    subst hcs
    exact ⟨none, [], 0, rfl, ⟨none, 0, rfl, .inl rfl⟩, by simp⟩
  · simp at hcs
    subst hcs
    have hlm : len ≤ m := by rw [hmm]; split <;> omega
    have each : ∀ i, i < len → ∃ x : Int, W.cell? (a.add i) = some (.int .i64 x) := by
      intro i hi
      obtain ⟨h1, h2⟩ := hx i (by omega)
      obtain ⟨x, e, _, _⟩ := DataW.trod_int Try.underlying3 h2
      simp at e
      exact ⟨x, by rw [h1, e]⟩
    obtain ⟨f, hf'⟩ := Deep.choose_lt each
    have hml : len ≤ 9223372036854775807 := by unfold maxLen at hm; omega
    by_cases h0 : len = 0
    · subst h0
      exact ⟨some a, [], cap, rfl, ⟨some a, cap, rfl, .inl rfl⟩, by simp⟩
    · obtain ⟨b, off, spot⟩ := a
      have hc : W.cell? (Addr.add ⟨b, off, spot⟩ 0) = some (.int .i64 (f 0)) := hf' 0 (by omega)
      have hspot : spot = none := by simpa [Addr.add] using World.cell?_spot hc
      subst hspot
      have hlt : b < W.heap.size := by simpa [Addr.add] using World.block_lt_of_cell? _ _ hc
      refine ⟨some ⟨b, off, none⟩, (List.range len).map f, cap, by simp, ⟨some ⟨b, off, none⟩, cap, by simp, .inr ⟨b, off, rfl, hlt, fun i hi => ?_⟩⟩, by simpa using hml⟩
      have hi' : i < len := by simpa using hi
      have e : ((List.range len).map f)[i] = f i := by simp
      rw [e, ← add_atIn]
      exact hf' i hi'
theorem array13 {cs : Array Value} (h : cs.size = 13) : ∃ c0 c1 c2 c3 c4 c5 c6 c7 c8 c9 c10 c11 c12, cs = #[c0, c1, c2, c3, c4, c5, c6, c7, c8, c9, c10, c11, c12] := by
  obtain ⟨l⟩ := cs
  match l, h with
  | [c0, c1, c2, c3, c4, c5, c6, c7, c8, c9, c10, c11, c12], _ => exact ⟨c0, c1, c2, c3, c4, c5, c6, c7, c8, c9, c10, c11, c12, rfl⟩
set_option maxRecDepth 20000 in
set_option maxHeartbeats 4000000 in
/-- a run that came in -/
theorem run_in {H : Type} {enc : TypeId × Value → H} {W : World} {rc : Reach} {b0 base : Nat} {spare : Nat → Bool} {held : Bool} {v : Value} {dd : DataW H} {p : List MemPlace}
    (hv : Value.okWide Try.prog W rc b0 39 v) (h : DataW.Trod enc Try.prog W base spare held 39 v dd p) :
    ∃ (d : RunD) (q : RunP), v = d.val q ∧ RunMem W.heap.size W d q ∧ d.slots.length ≤ 9223372036854775807 ∧ d.mail.length ≤ 9223372036854775807 ∧ d.links.length ≤ 9223372036854775807 ∧ d.wat.length ≤ 9223372036854775807 := by
  obtain ⟨cs, rfl, hsz⟩ := okWide_struct Try.underlying39 hv
  obtain ⟨c0, c1, c2, c3, c4, c5, c6, c7, c8, c9, c10, c11, c12, rfl⟩ := array13 (hsz.trans cellsRunIn)
  obtain ⟨fuel, hf⟩ := h
  obtain ⟨xs, n, _, hx, hl, hlen, hfs⟩ := DataW.trod_struct Try.underlying39 hf
  match xs, hlen with
  | [y0, y1, y2, y3, y4, y5, y6, y7, y8, y9, y10, y11], _ =>
    have h0 : DataW.trod enc Try.prog W base spare held n 3 [c0] = some y0 := by simpa [Value.cells, cellsIntIn] using hfs 0 _ rfl
    have h1 : DataW.trod enc Try.prog W base spare held n 3 [c1] = some y1 := by simpa [Value.cells, cellsIntIn] using hfs 1 _ rfl
    have h2 : DataW.trod enc Try.prog W base spare held n 36 [c2] = some y2 := by simpa [Value.cells, cellsValsIn] using hfs 2 _ rfl
    have h3 : DataW.trod enc Try.prog W base spare held n 3 [c3] = some y3 := by simpa [Value.cells, cellsIntIn] using hfs 3 _ rfl
    have h4 : DataW.trod enc Try.prog W base spare held n 36 [c4] = some y4 := by simpa [Value.cells, cellsValsIn] using hfs 4 _ rfl
    have h5 : DataW.trod enc Try.prog W base spare held n 3 [c5] = some y5 := by simpa [Value.cells, cellsIntIn] using hfs 5 _ rfl
    have h6 : DataW.trod enc Try.prog W base spare held n 3 [c6] = some y6 := by simpa [Value.cells, cellsIntIn] using hfs 6 _ rfl
    have h7 : DataW.trod enc Try.prog W base spare held n 28 [c7] = some y7 := by simpa [Value.cells, cellsIntsIn] using hfs 7 _ rfl
    have h8 : DataW.trod enc Try.prog W base spare held n 28 [c8] = some y8 := by simpa [Value.cells, cellsIntsIn] using hfs 8 _ rfl
    have h9 : DataW.trod enc Try.prog W base spare held n 4 [c9] = some y9 := by simpa [Value.cells, cellsBoolIn] using hfs 9 _ rfl
    have h10 : DataW.trod enc Try.prog W base spare held n 37 [c10, c11] = some y10 := by simpa [Value.cells, cellsValIn] using hfs 10 _ rfl
    have h11 : DataW.trod enc Try.prog W base spare held n 3 [c12] = some y11 := by simpa [Value.cells, cellsIntIn] using hfs 11 _ rfl
    obtain ⟨i0, e0, _, _⟩ := DataW.trod_int Try.underlying3 h0
    obtain ⟨i1, e1, _, _⟩ := DataW.trod_int Try.underlying3 h1
    obtain ⟨i3, e3, _, _⟩ := DataW.trod_int Try.underlying3 h3
    obtain ⟨i5, e5, _, _⟩ := DataW.trod_int Try.underlying3 h5
    obtain ⟨i6, e6, _, _⟩ := DataW.trod_int Try.underlying3 h6
    obtain ⟨i12, e12, _, _⟩ := DataW.trod_int Try.underlying3 h11
    obtain ⟨b9, e9, _⟩ := DataW.trod_bool Try.underlying4 h9
    obtain ⟨x, e10⟩ := val_cells rfl h10
    obtain ⟨a0, L0, k0, rfl, m0, s0⟩ := vals_in h2
    obtain ⟨a1, L1, k1, rfl, m1, s1⟩ := vals_in h4
    obtain ⟨a2, L2, k2, rfl, m2, s2⟩ := ints_in h7
    obtain ⟨a3, L3, k3, rfl, m3, s3⟩ := ints_in h8
    simp at e0 e1 e3 e5 e6 e12 e9 e10
    obtain ⟨e10, e11⟩ := e10
    subst e0 e1 e3 e5 e6 e12 e9 e10 e11
    exact ⟨⟨i0, i1, L0, i3, L1, i5, i6, L2, L3, b9, x.1, x.2, i12⟩, ⟨a0, k0, a1, k1, a2, k2, a3, k3⟩, rfl, ⟨m0, m1, m2, m3⟩, s0, s1, s2, s3⟩
end Go.Proofs.Ytefaocjcfecipaa
