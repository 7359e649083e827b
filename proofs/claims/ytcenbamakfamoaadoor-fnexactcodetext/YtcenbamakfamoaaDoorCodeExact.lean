/-
  What the exact laws over steps share: a row of steps of one's own stays, and is steps in memory.
-/
import Derived.Test.YtcenbamakfamoaaDoorBut
import Derived.Test.YtcenbamakfamoaaDoorCodeEq
namespace Go.Proofs.YtcenbamakfamoaaDoor
open Go.ChangeShapes Go.WideShapes Go.ChangeAt Go.RowKit Go.Joins
theorem OwnCode.codeAt {w : World} {B g : Nat} {C : List OpV} (h : OwnCode w B g C) : CodeAt w (some ⟨g, 0, none⟩) C :=
  .inr ⟨g, 0, rfl, h.lt, fun i hi => by rw [Nat.zero_add]; exact h.steps i hi⟩
theorem OwnCode.below {w w' : World} {B g : Nat} {C : List OpV} (h : OwnCode w B g C) (hb : Below w.heap.size w w') : OwnCode w' B g C :=
  ⟨h.ge, Nat.lt_of_lt_of_le h.lt hb.size, fun i hi => (h.steps i hi).below hb, fun j => (hb.frozen (p := ⟨g, j, none⟩) h.lt).trans (h.free j)⟩
theorem But.grown {R : Nat} {a b : World} (h : But R a b) : a.grownBy b (some R) := ⟨h.os, h.tape, h.output, h.size, fun k hk hn => h.block k hk (fun e => hn (by rw [e]))⟩
end Go.Proofs.YtcenbamakfamoaaDoor
