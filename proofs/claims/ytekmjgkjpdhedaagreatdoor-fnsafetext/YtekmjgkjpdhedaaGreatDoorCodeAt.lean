/-
  Steps in memory, over this translation: a row of steps, each of six cells; which rows are ok. No condition.
-/
import Derived.Test.YtekmjgkjpdhedaaGreatDoorOpB
import Derived.Test.YtekmjgkjpdhedaaGreatDoorFull
namespace Go.Proofs.YtekmjgkjpdhedaaGreatDoor
open Go.ChangeShapes Go.WideShapes Go.ChangeAt Go.RowKit Go.Joins
def OpV.ok (o : OpV) : Bool := opB o.k o.r o.s o.t o.a o.b
abbrev OpV.val (o : OpV) : Value := .agg #[.int .i64 o.k, .int .i64 o.r, .int .i64 o.s, .int .i64 o.t, .int .i64 o.a, .int .i64 o.b]
def OpV.cells (o : OpV) : List Value := [.int .i64 o.k, .int .i64 o.r, .int .i64 o.s, .int .i64 o.t, .int .i64 o.a, .int .i64 o.b]
def opZ : OpV := ⟨0, 0, 0, 0, 0, 0⟩
/-- whether steps are ok -/
def codeB (C : List OpV) : Bool := decide (1 ≤ C.length) && decide (C.length ≤ 16) && C.all fun o => o.ok && decide (o.t < C.length)
/-- one step in memory -/
structure StepAt (w : World) (b o : Nat) (x : OpV) : Prop where
  c0 : w.cell? ⟨b, o, none⟩ = some (.int .i64 x.k)
  c1 : w.cell? ⟨b, o + 1, none⟩ = some (.int .i64 x.r)
  c2 : w.cell? ⟨b, o + 2, none⟩ = some (.int .i64 x.s)
  c3 : w.cell? ⟨b, o + 3, none⟩ = some (.int .i64 x.t)
  c4 : w.cell? ⟨b, o + 4, none⟩ = some (.int .i64 x.a)
  c5 : w.cell? ⟨b, o + 5, none⟩ = some (.int .i64 x.b)
theorem StepAt.below {w w' : World} {b o : Nat} {x : OpV} (h : StepAt w b o x) (hb : Below w.heap.size w w') : StepAt w' b o x := by
  have hl := World.block_lt_of_cell? _ _ h.c0
  exact ⟨(hb.cell (p := ⟨b, o, none⟩) hl).trans h.c0, (hb.cell (p := ⟨b, o + 1, none⟩) hl).trans h.c1, (hb.cell (p := ⟨b, o + 2, none⟩) hl).trans h.c2,
    (hb.cell (p := ⟨b, o + 3, none⟩) hl).trans h.c3, (hb.cell (p := ⟨b, o + 4, none⟩) hl).trans h.c4, (hb.cell (p := ⟨b, o + 5, none⟩) hl).trans h.c5⟩
/-- steps in memory: none, or a row of them -/
def CodeAt (w : World) (ao : Option Addr) (C : List OpV) : Prop :=
  C = [] ∨ ∃ b o, ao = some ⟨b, o, none⟩ ∧ b < w.heap.size ∧ ∀ i (h : i < C.length), StepAt w b (o + i * 6) C[i]
theorem CodeAt.below {w w' : World} {ao : Option Addr} {C : List OpV} (h : CodeAt w ao C) (hb : Below w.heap.size w w') : CodeAt w' ao C := by
  rcases h with h | ⟨b, o, ha, hl, hs⟩
  · exact .inl h
  · exact .inr ⟨b, o, ha, Nat.lt_of_lt_of_le hl hb.size, fun i hi => (hs i hi).below hb⟩
theorem codeB_well {C : List OpV} (h : codeB C = true) : Well C ∧ C.length ≤ 16 ∧ ∀ i (hi : i < C.length), C[i].ok = true := by
  simp only [codeB, Bool.and_eq_true, decide_eq_true_eq, List.all_eq_true] at h
  obtain ⟨⟨h1, h2⟩, h3⟩ := h
  have h4 : ∀ i (hi : i < C.length), C[i].ok = true := fun i hi => (h3 _ (List.getElem_mem hi)).1
  refine ⟨⟨h1, fun i hi => ?_⟩, h2, h4⟩
  have o := opIs_of (h4 i hi)
  exact ⟨o.t1, (h3 _ (List.getElem_mem hi)).2, o.r1, o.r2⟩
/-- the first k are ok -/
def UptoOk (C : List OpV) (k : Nat) : Prop := ∀ j (h : j < C.length), j < k → C[j].ok = true ∧ C[j].t < C.length
theorem codeB_all {C : List OpV} (h : UptoOk C C.length) : codeB C = (decide (1 ≤ C.length) && decide (C.length ≤ 16)) := by
  have : (C.all fun o => o.ok && decide (o.t < C.length)) = true := by
    rw [List.all_eq_true]
    intro o ho
    obtain ⟨i, hi, rfl⟩ := List.getElem_of_mem ho
    simp [h i hi hi]
  simp [codeB, this]
theorem codeB_no {C : List OpV} {k : Nat} (hk : k < C.length) (h : C[k].ok = false ∨ (C.length : Int) ≤ C[k].t) : codeB C = false := by
  have : (C.all fun o => o.ok && decide (o.t < C.length)) = false := by
    rw [List.all_eq_false]
    refine ⟨C[k], List.getElem_mem hk, ?_⟩
    rcases h with h | h
    · simp [h]
    · simp; intro _; exact h
  simp [codeB, this]
end Go.Proofs.YtekmjgkjpdhedaaGreatDoor
