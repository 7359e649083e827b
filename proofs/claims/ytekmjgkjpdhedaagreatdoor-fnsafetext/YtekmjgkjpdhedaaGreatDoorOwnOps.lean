/-
  Rows of steps of one's own, over this translation: what is known of them, a step put, and a step behind them.
-/
import Derived.Test.YtekmjgkjpdhedaaGreatDoorCodeAt
import Derived.Test.YtekmjgkjpdhedaaGreatDoorBut
import Derived.OwnWalk
import Derived.Laws.OwnMore
namespace Go.Proofs.YtekmjgkjpdhedaaGreatDoor
open Go.ChangeShapes Go.WideShapes Go.ChangeAt Go.RowKit Go.Joins
/-- the cells of steps -/
def cellsO : List OpV → List Value
  | [] => []
  | x :: C => .int .i64 x.k :: .int .i64 x.r :: .int .i64 x.s :: .int .i64 x.t :: .int .i64 x.a :: .int .i64 x.b :: cellsO C
theorem cellsO_len : ∀ C : List OpV, (cellsO C).length = C.length * 6
  | [] => rfl
  | x :: C => by simp [cellsO, cellsO_len C]; omega
theorem cellsO_snoc : ∀ (C : List OpV) (x : OpV), cellsO (C ++ [x]) = cellsO C ++ x.cells
  | [], x => rfl
  | y :: C, x => by simp [cellsO, cellsO_snoc C x]
theorem cellsO_app : ∀ (C D : List OpV), cellsO (C ++ D) = cellsO C ++ cellsO D
  | [], D => rfl
  | y :: C, D => by simp [cellsO, cellsO_app C D]
theorem cellsO_at : ∀ (C : List OpV) (i : Nat) (h : i < C.length), (cellsO C)[i * 6]? = some (.int .i64 C[i].k) ∧ (cellsO C)[i * 6 + 1]? = some (.int .i64 C[i].r) ∧ (cellsO C)[i * 6 + 2]? = some (.int .i64 C[i].s) ∧ (cellsO C)[i * 6 + 3]? = some (.int .i64 C[i].t) ∧ (cellsO C)[i * 6 + 4]? = some (.int .i64 C[i].a) ∧ (cellsO C)[i * 6 + 5]? = some (.int .i64 C[i].b)
  | x :: C, 0, _ => ⟨rfl, rfl, rfl, rfl, rfl, rfl⟩
  | x :: C, i + 1, h => by
    have ih := cellsO_at C i (by simpa using h)
    have e : ∀ j, (cellsO (x :: C))[(i + 1) * 6 + j]? = (cellsO C)[i * 6 + j]? := fun j => by
      rw [show (i + 1) * 6 + j = (i * 6 + j) + 6 by omega]; rfl
    exact ⟨(e 0).trans ih.1, (e 1).trans ih.2.1, (e 2).trans ih.2.2.1, (e 3).trans ih.2.2.2.1, (e 4).trans ih.2.2.2.2.1, (e 5).trans ih.2.2.2.2.2⟩
theorem cellsO_set : ∀ (C : List OpV) (i : Nat) (_ : i < C.length) (x : OpV), ((((((cellsO C).set (i * 6) (.int .i64 x.k)).set (i * 6 + 1) (.int .i64 x.r)).set (i * 6 + 2) (.int .i64 x.s)).set (i * 6 + 3) (.int .i64 x.t)).set (i * 6 + 4) (.int .i64 x.a)).set (i * 6 + 5) (.int .i64 x.b) = cellsO (C.set i x)
  | y :: C, 0, _, x => rfl
  | y :: C, i + 1, h, x => by
    have ih := cellsO_set C i (by simpa using h) x
    have e : ∀ (L : List Value) (j : Nat) (v : Value), (.int .i64 y.k :: .int .i64 y.r :: .int .i64 y.s :: .int .i64 y.t :: .int .i64 y.a :: .int .i64 y.b :: L).set ((i + 1) * 6 + j) v = .int .i64 y.k :: .int .i64 y.r :: .int .i64 y.s :: .int .i64 y.t :: .int .i64 y.a :: .int .i64 y.b :: L.set (i * 6 + j) v := fun L j v => by
      rw [show (i + 1) * 6 + j = (i * 6 + j) + 1 + 1 + 1 + 1 + 1 + 1 by omega]; rfl
    have e0 := e (cellsO C) 0 (.int .i64 x.k)
    simp only [Nat.add_zero] at e0
    rw [cellsO, e0, e, e, e, e, e, ih]; rfl
/-- steps in a row of one's own -/
abbrev OwnsO (w : World) (B : Nat) (v : Value) (C : List OpV) : Prop := w.ownsRow B 43 6 v C.length (cellsO C)
theorem OwnsO.code {w : World} {B : Nat} {v : Value} {C : List OpV} (h : OwnsO w B v C) : ∃ ao cap, v = .slice ao C.length cap ∧ CodeAt w ao C ∧ (C ≠ [] → ∃ g, ao = some ⟨g, 0, none⟩) := by
  rcases h.2 with ⟨rfl, hn⟩ | ⟨g, cap, cur, rfl, hg, hh, _⟩
  · have : C = [] := List.eq_nil_of_length_eq_zero hn
    subst this
    exact ⟨none, 0, rfl, .inl rfl, fun h => absurd rfl h⟩
  · refine ⟨_, cap, rfl, .inr ⟨g, 0, rfl, ?_, fun i hi => ?_⟩, fun _ => ⟨g, rfl⟩⟩
    · rcases Decidable.em (g < w.heap.size) with h | h
      · exact h
      · rw [Array.getElem?_eq_none (by omega)] at hh; cases hh
    · have k := World.ownsRow.cellAt (w := w) (base := B) (e := 43) (size := 6) (g := g) (cap := cap) h
      obtain ⟨a0, a1, a2, a3, a4, a5⟩ := cellsO_at C i hi
      refine ⟨?_, ?_, ?_, ?_, ?_, ?_⟩
      · rw [Nat.zero_add, k (i * 6) (by omega), a0]
      · rw [Nat.zero_add, k (i * 6 + 1) (by omega), a1]
      · rw [Nat.zero_add, k (i * 6 + 2) (by omega), a2]
      · rw [Nat.zero_add, k (i * 6 + 3) (by omega), a3]
      · rw [Nat.zero_add, k (i * 6 + 4) (by omega), a4]
      · rw [Nat.zero_add, k (i * 6 + 5) (by omega), a5]
theorem OwnsO.keep {w w' : World} {B : Nat} {v : Value} {C : List OpV} (h : OwnsO w B v C) {row : Option Nat} (hg : w.grownBy w' row) (hr : ∀ k, row = some k → v.ownBlock ≠ some k) : OwnsO w' B v C :=
  World.ownsRow.kept h hg (by
    cases row with
    | none => cases hv : v.ownBlock with
      | none => exact .inl rfl
      | some k => exact .inr (by simp)
    | some k => exact .inr (hr k rfl))
theorem OwnsO.below {w w' : World} {B : Nat} {v : Value} {C : List OpV} (h : OwnsO w B v C) (hb : Below w.heap.size w w') : OwnsO w' B v C :=
  h.keep (row := none) ⟨hb.os, hb.tape, hb.output, hb.size, fun k hk _ => hb.block k hk⟩ (fun k e => by cases e)
theorem OwnsO.mono {w : World} {A B : Nat} {v : Value} {C : List OpV} (h : OwnsO w B v C) (hb : A ≤ B) : OwnsO w A v C :=
  ⟨h.1, h.2.imp id fun ⟨g, cap, cur, h1, h2, h3⟩ => ⟨g, cap, cur, h1, Nat.le_trans hb h2, h3⟩⟩
/-- all but one block below stay -/
theorem OwnsO.but {w w' : World} {B R : Nat} {v : Value} {C : List OpV} (h : OwnsO w B v C) (hb : But R w w') (hR : R < B) : OwnsO w' B v C :=
  h.keep (row := some R) ⟨hb.os, hb.tape, hb.output, hb.size, fun k hk hn => hb.block k hk (fun e => hn (by rw [e]))⟩ (fun k e e' => by
    cases e
    have := (World.ownsRow.lt h _ e').1
    omega)
theorem infoO : ∃ i, Tryz.prog.info? 43 = some i ∧ i.zero = some (.agg #[.int .i64 0, .int .i64 0, .int .i64 0, .int .i64 0, .int .i64 0, .int .i64 0]) ∧ i.size = 6 ∧ i.bytes = 48 :=
  ⟨(Tryz.prog.info? 43).get (by kernel_rfl), (Option.some_get _).symm, by kernel_rfl, by kernel_rfl, by kernel_rfl⟩
theorem ownsO_empty (w : World) (B : Nat) (hB : B ≤ w.heap.size) : OwnsO (w.alloc (.cells #[] 43)) B (.slice (some ⟨w.heap.size, 0, none⟩) 0 0) [] := by
  have := World.ownsRow_lit (base := B) (e := 43) (size := 6) w #[] 0 hB (by unfold maxLen; omega) rfl
  simpa [OwnsO, cellsO] using this
theorem ownsO_nil (w : World) (B : Nat) : OwnsO w B (.slice none 0 0) [] := World.ownsRow_nil _ _ _ _
/-- a step written into a row of one's own -/
theorem OwnsO.put {w : World} {B g cap : Nat} {C : List OpV} (h : OwnsO w B (.slice (some ⟨g, 0, none⟩) C.length cap) C) (i : Nat) (hi : i < C.length) (x : OpV) :
    OwnsO ((((((w.setCell ⟨g, i * 6, none⟩ (.int .i64 x.k)).setCell ⟨g, i * 6 + 1, none⟩ (.int .i64 x.r)).setCell ⟨g, i * 6 + 2, none⟩ (.int .i64 x.s)).setCell ⟨g, i * 6 + 3, none⟩ (.int .i64 x.t)).setCell ⟨g, i * 6 + 4, none⟩ (.int .i64 x.a)).setCell ⟨g, i * 6 + 5, none⟩ (.int .i64 x.b)) B (.slice (some ⟨g, 0, none⟩) C.length cap) (C.set i x) := by
  have h1 := (World.ownsRow.stored h (i * 6) (.int .i64 x.k)).1
  have h2 := (World.ownsRow.stored h1 (i * 6 + 1) (.int .i64 x.r)).1
  have h3 := (World.ownsRow.stored h2 (i * 6 + 2) (.int .i64 x.s)).1
  have h4 := (World.ownsRow.stored h3 (i * 6 + 3) (.int .i64 x.t)).1
  have h5 := (World.ownsRow.stored h4 (i * 6 + 4) (.int .i64 x.a)).1
  have h6 := (World.ownsRow.stored h5 (i * 6 + 5) (.int .i64 x.b)).1
  rw [cellsO_set C i hi x] at h6
  show World.ownsRow _ _ _ _ _ (C.set i x).length _
  rw [List.length_set]
  exact h6
theorem cellsO_one : ∀ (C : List OpV) (u : Value), u ∈ cellsO C → u.oneCell' = true
  | [], u, h => by simp [cellsO] at h
  | x :: C, u, h => by
    simp [cellsO] at h
    rcases h with rfl | rfl | rfl | rfl | rfl | rfl | h
    · rfl
    · rfl
    · rfl
    · rfl
    · rfl
    · rfl
    · exact cellsO_one C u h
/-- a row of one's own that holds steps has a block -/
theorem OwnsO.blk {w : World} {B : Nat} {v : Value} {C : List OpV} (h : OwnsO w B v C) (hC : 1 ≤ C.length) : ∃ g cap, v = .slice (some ⟨g, 0, none⟩) C.length cap ∧ B ≤ g ∧ g < w.heap.size := by
  rcases h.2 with ⟨_, h0⟩ | ⟨g, cap, cur, rfl, hg, _⟩
  · omega
  · exact ⟨g, cap, rfl, World.ownsRow.lt h g rfl⟩
theorem OwnsO.read {w : World} {B g cap : Nat} {C : List OpV} (h : OwnsO w B (.slice (some ⟨g, 0, none⟩) C.length cap) C) : ∀ (j : Nat) (u : Value), (cellsO C)[j]? = some u → w.cell? (Addr.add ⟨g, 0, none⟩ j) = some u := fun j u hu => by
  have hj := (List.getElem?_eq_some_iff.1 hu).1
  rw [cellsO_len] at hj
  have := World.ownsRow.cellAt (w := w) (base := B) (e := 43) (size := 6) (g := g) (cap := cap) h j hj
  rw [hu] at this
  by_cases e : j = 0
  · subst e; simpa [Addr.add] using this
  · simpa [Addr.add, e] using this
/-- the cells of a step of the row, and that they can be written -/
theorem OwnsO.stepAt {w : World} {B g cap : Nat} {C : List OpV} (h : OwnsO w B (.slice (some ⟨g, 0, none⟩) C.length cap) C) (i : Nat) (hi : i < C.length) : StepAt w g (i * 6) C[i] ∧ ∀ j, w.frozen? ⟨g, j, none⟩ = false := by
  obtain ⟨q0, q1, q2, q3, q4, q5⟩ := cellsO_at C i hi
  have kk := World.ownsRow.cellAt (w := w) (base := B) (e := 43) (size := 6) (g := g) (cap := cap) h
  refine ⟨⟨?_, ?_, ?_, ?_, ?_, ?_⟩, World.ownsRow.frozenAt (w := w) (base := B) (e := 43) (size := 6) (g := g) (cap := cap) h⟩
  · rw [kk (i * 6) (by omega), q0]
  · rw [kk (i * 6 + 1) (by omega), q1]
  · rw [kk (i * 6 + 2) (by omega), q2]
  · rw [kk (i * 6 + 3) (by omega), q3]
  · rw [kk (i * 6 + 4) (by omega), q4]
  · rw [kk (i * 6 + 5) (by omega), q5]
theorem OwnsO.room {w : World} {B g cap : Nat} {C : List OpV} (h : OwnsO w B (.slice (some ⟨g, 0, none⟩) C.length cap) C) : C.length ≤ cap ∧ cap ≤ maxLen := by
  rcases h.2 with ⟨h0, _⟩ | ⟨g', cap', cur, hv, _, _, h1, h2, _⟩
  · cases h0
  · cases hv; exact ⟨h1, h2⟩
theorem cellsO_take : ∀ (C : List OpV) (k : Nat), cellsO (C.take k) = (cellsO C).take (k * 6)
  | [], k => by simp [cellsO]
  | x :: C, 0 => by simp [cellsO]
  | x :: C, k + 1 => by
    rw [List.take_succ_cons, show (k + 1) * 6 = k * 6 + 1 + 1 + 1 + 1 + 1 + 1 by omega]
    simp [cellsO, cellsO_take C k]
/-- the first steps of a row -/
theorem OwnsO.cut {w : World} {B g cap : Nat} {C : List OpV} (h : OwnsO w B (.slice (some ⟨g, 0, none⟩) C.length cap) C) (k : Nat) (hk : k ≤ C.length) : OwnsO w B (.slice (some ⟨g, 0, none⟩) k cap) (C.take k) := by
  have hl : (C.take k).length = k := by rw [List.length_take]; omega
  rcases h.2 with ⟨h0, _⟩ | ⟨g', cap', cur, hv, h1, h2, h3, h4, h5, h6⟩
  · cases h0
  · cases hv
    refine ⟨by rw [cellsO_len], .inr ⟨g, cap, cur, by rw [hl], h1, h2, by omega, h4, h5, ?_⟩⟩
    rw [hl, cellsO_take, ← h6, List.take_take, Nat.min_eq_left (Nat.mul_le_mul_right 6 hk)]
/-- six cells written, in a row -/
theorem but6 (w : World) (b o : Nat) (v0 v1 v2 v3 v4 v5 : Value) : But b w ((((((w.setCell ⟨b, o, none⟩ v0).setCell ⟨b, o + 1, none⟩ v1).setCell ⟨b, o + 2, none⟩ v2).setCell ⟨b, o + 3, none⟩ v3).setCell ⟨b, o + 4, none⟩ v4).setCell ⟨b, o + 5, none⟩ v5) :=
  ((((((But.refl b w).setCell (p := ⟨b, o, none⟩) rfl _).setCell (p := ⟨b, o + 1, none⟩) rfl _).setCell (p := ⟨b, o + 2, none⟩) rfl _).setCell (p := ⟨b, o + 3, none⟩) rfl _).setCell (p := ⟨b, o + 4, none⟩) rfl _).setCell (p := ⟨b, o + 5, none⟩) rfl _
theorem But.grows {R : Nat} {a b : World} (h : But R a b) : a.grownBy b (some R) := ⟨h.os, h.tape, h.output, h.size, fun k hk hn => h.block k hk (fun e => hn (by rw [e]))⟩
theorem OwnsO.aside {w w' : World} {B R : Nat} {v : Value} {C : List OpV} (h : OwnsO w B v C) (hb : But R w w') (hR : v.ownBlock ≠ some R) : OwnsO w' B v C :=
  h.keep hb.grows (fun k e => by cases e; exact hR)
end Go.Proofs.YtekmjgkjpdhedaaGreatDoor
