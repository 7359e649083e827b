/-
  The errors' variables out of the rows' lists, and a world for the witness that holds them.
-/
import Derived.Test.YtcenbamakfamoaaDoorFrame
import Derived.Deep.DeepWitnessRowRef
namespace Go.Proofs.YtcenbamakfamoaaDoor
open Go.ChangeShapes Go.WideShapes Go.ChangeAt Go.RowKit Go.Joins
theorem gE0 : Tryd.prog.globalNamed "strconv.ErrSyntax" = some 1 := by kernel_rfl
theorem gE1 : Tryd.prog.globalNamed "strconv.ErrRange" = some 2 := by kernel_rfl
theorem gE0Type : (Tryd.prog.globals[1]?).map (·.type) = some 74 := by kernel_rfl
theorem gE1Type : (Tryd.prog.globals[2]?).map (·.type) = some 74 := by kernel_rfl
theorem err_cell {W : World} {name : String} {nm : String} {x : DataW Unit} {rest : List (String × DataW Unit)} {g : Nat} (hg : Tryd.prog.globalNamed name = some g) (hty : (Tryd.prog.globals[g]?).map (·.type) = some 74)
    (h : laidMet Tryd.prog ((name, .iface nm x) :: rest) W) : ∃ ev, W.cell? ⟨g, 0, none⟩ = some ev ∧ (ev = .nilIface ∨ ∃ te pe, ev = .iface te pe) := by
  obtain ⟨ps, ⟨g', t', cs, fuel, p, q, hg', ht', hvar, hd, _, _⟩, _⟩ := h
  obtain rfl := Option.some.inj (hg.symm.trans hg')
  obtain rfl := Option.some.inj (hty.symm.trans ht')
  have hc := World.var?_cell hg hvar 0
  cases fuel with
  | zero => simp [DataW.trod] at hd
  | succ fuel =>
    rw [hc, ← Array.getElem?_toList]
    generalize cs.toList = l at *
    simp only [DataW.trod, Tryd.underlying74] at hd
    split at hd
    all_goals first
      | exact ⟨_, rfl, .inl rfl⟩
      | exact ⟨_, rfl, .inr ⟨_, _, rfl⟩⟩
      | (rename_i he _; cases he; done)
      | (rename_i he; cases he; done)
      | (simp at hd; done)
      | trace_state
theorem errs_of {l : List (String × DataW Unit)} {W : World} (h : laidMetH Tryd.prog l W) (h0 : l.filter (fun x => x.1 == "strconv.ErrSyntax") = [("strconv.ErrSyntax", Rows.laid_strconv_ErrSyntax)])
    (h1 : l.filter (fun x => x.1 == "strconv.ErrRange") = [("strconv.ErrRange", Rows.laid_strconv_ErrRange)]) : Errs W := by
  have k0 := laidMetH.filter (fun x => x.1 == "strconv.ErrSyntax") h
  have k1 := laidMetH.filter (fun x => x.1 == "strconv.ErrRange") h
  rw [h0] at k0
  rw [h1] at k1
  exact ⟨err_cell gE0 gE0Type k0, err_cell gE1 gE1Type k1⟩
/-- for a witness: a world of two blocks more, the errors' variables leading there, the tables holding what their initialisers lay -/
def putAll (N : Nat) (w0 : World) : World :=
  putTabs { w0 with heap := (w0.heap.modify 1 (putCells #[.iface 117 (.pointer (some ⟨N, 0, none⟩))])).modify 2 (putCells #[.iface 117 (.pointer (some ⟨N + 1, 0, none⟩))]) }
def errBlocks : Array Obj := #[.cells #[.string ⟨([105, 110, 118, 97, 108, 105, 100, 32, 115, 121, 110, 116, 97, 120] : List UInt8).toArray⟩] 119, .cells #[.string ⟨([118, 97, 108, 117, 101, 32, 111, 117, 116, 32, 111, 102, 32, 114, 97, 110, 103, 101] : List UInt8).toArray⟩] 119]
end Go.Proofs.YtcenbamakfamoaaDoor
