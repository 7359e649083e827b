/-
  What the proofs of tied cards over this translation share: closed facts, and a world for the witness.
  The tables and the errors' variables out of the rows' lists, and a world for the witness that holds them, utf8's tables too.
  The type of errors out of the rows' lists, and a world for the witness that holds it besides the tables and errors.
-/
import Derived.Test.YtekmjgkjpdhedaaGreatDoorCards
import Derived.Test.YtekmjgkjpdhedaaGreatDoorTie
import Derived.Test.YtekmjgkjpdhedaaGreatDoorWalks
import Derived.Deep.DeepHandedRow
import Derived.Lib.LaidTab
import Derived.Lib.ItoaNum
import Derived.Deep.DeepWitnessRowRef
import Derived.Test.YtekmjgkjpdhedaaGreatDoorShelf
import Derived.Test.YtekmjgkjpdhedaaGreatDoorZc01
import Derived.LaidLaws
import Derived.LaidHandle
import Derived.LaidSub
namespace Go.Proofs.YtekmjgkjpdhedaaGreatDoor
open Go.ChangeShapes Go.WideShapes Go.ChangeAt Go.RowKit Go.Joins
theorem own : ownKnob Tryz.prog.godebug = none := by kernel_rfl
theorem laidOut : laidOutB Tryz.prog = true := by kernel_rfl
def db32 : List Int := [0, 1, 28, 2, 29, 14, 24, 3, 30, 22, 20, 15, 25, 17, 4, 8, 31, 27, 13, 23, 21, 19, 16, 7, 26, 12, 18, 6, 11, 5, 10, 9]
def db64 : List Int := [0, 1, 56, 2, 57, 49, 28, 3, 61, 58, 42, 50, 38, 29, 17, 4, 62, 47, 59, 36, 45, 43, 51, 22, 53, 39, 33, 30, 24, 18, 12, 5, 63, 55, 48, 27, 60, 41, 37, 16, 46, 35, 44, 21, 52, 32, 23, 11, 54, 26, 40, 15, 34, 20, 31, 10, 25, 14, 19, 9, 13, 8, 7, 6]
def putCells (cs : Array Value) : Obj → Obj
  | .cells _ t frozen => .cells cs t frozen
  | o => o
/-- for a witness: a world, its tables holding what their initialisers lay -/
def putTabs (w0 : World) : World :=
  { w0 with heap := ((w0.heap.modify 4 (putCells (Lib.pow10Tab.map (Value.int .u64)).toArray)).modify 7 (putCells (db32.map (Value.int .u8)).toArray)).modify 8 (putCells (db64.map (Value.int .u8)).toArray) }
/-- for a witness: a world of two blocks more, the errors' variables leading there, the tables holding what their initialisers lay -/
def putAll (N : Nat) (w0 : World) : World :=
  putTabs { w0 with heap := (w0.heap.modify 5 (putCells #[.iface 188 (.pointer (some ⟨N, 0, none⟩))])).modify 6 (putCells #[.iface 188 (.pointer (some ⟨N + 1, 0, none⟩))]) }
def errBlocks : Array Obj := #[.cells #[.string ⟨([105, 110, 118, 97, 108, 105, 100, 32, 115, 121, 110, 116, 97, 120] : List UInt8).toArray⟩] 190, .cells #[.string ⟨([118, 97, 108, 117, 101, 32, 111, 117, 116, 32, 111, 102, 32, 114, 97, 110, 103, 101] : List UInt8).toArray⟩] 190]
end Go.Proofs.YtekmjgkjpdhedaaGreatDoor
namespace Go.Proofs.YtekmjgkjpdhedaaGreatDoor
open Go.ChangeShapes Go.WideShapes Go.ChangeAt Go.RowKit Go.Joins
theorem gTabType : (Tryz.prog.globals[4]?).map (·.type) = some 176 := by kernel_rfl
theorem cellsTab : Tryz.prog.cellsOf 176 = 20 := by kernel_rfl
theorem cellsU64 : Tryz.prog.cellsOf 157 = 1 := by kernel_rfl
/-- the table of powers, out of a row's list -/
theorem tab_of {l : List (String × DataW Unit)} {W : World} (h : laidMetH Tryz.prog l W) (hl : l.filter (fun x => x.1 == "internal/strconv.uint64pow10") = [("internal/strconv.uint64pow10", Lib.tabData .u64 Lib.pow10Tab)]) : Tab W := by
  have h2 := laidMetH.filter (fun x => x.1 == "internal/strconv.uint64pow10") h
  rw [hl] at h2
  exact Lib.tabIs_of_head (rest := []) gTab gTabType Tryz.underlying176 Tryz.underlying157 cellsU64 cellsTab h2
theorem gE0 : Tryz.prog.globalNamed "strconv.ErrSyntax" = some 5 := by kernel_rfl
theorem gE1 : Tryz.prog.globalNamed "strconv.ErrRange" = some 6 := by kernel_rfl
theorem gE0Type : (Tryz.prog.globals[5]?).map (·.type) = some 46 := by kernel_rfl
theorem gE1Type : (Tryz.prog.globals[6]?).map (·.type) = some 46 := by kernel_rfl
theorem err_cell {W : World} {name : String} {nm : String} {x : DataW Unit} {rest : List (String × DataW Unit)} {g : Nat} (hg : Tryz.prog.globalNamed name = some g) (hty : (Tryz.prog.globals[g]?).map (·.type) = some 46)
    (h : laidMet Tryz.prog ((name, .iface nm x) :: rest) W) : ∃ ev, W.cell? ⟨g, 0, none⟩ = some ev ∧ (ev = .nilIface ∨ ∃ te pe, ev = .iface te pe) := by
  obtain ⟨ps, ⟨g', t', cs, fuel, p, q, hg', ht', hvar, hd, _, _⟩, _⟩ := h
  obtain rfl := Option.some.inj (hg.symm.trans hg')
  obtain rfl := Option.some.inj (hty.symm.trans ht')
  have hc := World.var?_cell hg hvar 0
  cases fuel with
  | zero => simp [DataW.trod] at hd
  | succ fuel =>
    rw [hc, ← Array.getElem?_toList]
    generalize cs.toList = l at *
    simp only [DataW.trod, Tryz.underlying46] at hd
    split at hd
    all_goals first
      | exact ⟨_, rfl, .inl rfl⟩
      | exact ⟨_, rfl, .inr ⟨_, _, rfl⟩⟩
      | (rename_i he _; cases he; done)
      | (rename_i he; cases he; done)
      | (simp at hd; done)
      | trace_state
theorem errs_of {l : List (String × DataW Unit)} {W : World} (h : laidMetH Tryz.prog l W) (h0 : l.filter (fun x => x.1 == "strconv.ErrSyntax") = [("strconv.ErrSyntax", Rows.laid_strconv_ErrSyntax)])
    (h1 : l.filter (fun x => x.1 == "strconv.ErrRange") = [("strconv.ErrRange", Rows.laid_strconv_ErrRange)]) : Errs W := by
  have k0 := laidMetH.filter (fun x => x.1 == "strconv.ErrSyntax") h
  have k1 := laidMetH.filter (fun x => x.1 == "strconv.ErrRange") h
  rw [h0] at k0
  rw [h1] at k1
  exact ⟨err_cell gE0 gE0Type k0, err_cell gE1 gE1Type k1⟩
def accs : List Int := [128, 191, 160, 191, 128, 159, 144, 191, 128, 143, 0, 0, 0, 0, 0, 0, 0, 0, 0, 0, 0, 0, 0, 0, 0, 0, 0, 0, 0, 0, 0, 0]
/-- for a witness: all that 'putAll' lays, and utf8's two tables -/
def putMore (N : Nat) (w0 : World) : World :=
  let w := putAll N w0
  { w with heap := (w.heap.modify 2 (putCells (Go.Pinned.utf8FirstZ.map fun (n : Nat) => Value.int .u8 (n : Int)).toArray)).modify 3 (putCells (accs.map (Value.int .u8)).toArray) }
end Go.Proofs.YtekmjgkjpdhedaaGreatDoor
namespace Go.Proofs.YtekmjgkjpdhedaaGreatDoor
open Go.ChangeShapes Go.WideShapes Go.ChangeAt Go.RowKit Go.Joins
theorem etName : Tryz.prog.globalNamed "errors.errorType" = some 0 := by kernel_rfl
theorem etRt : (Tryz.prog.cutTypes.find? (·.1 == "internal/reflectlite.rtype")).map (·.2) = some 120 := by kernel_rfl
theorem etSize : Tryz.prog.types.size = 219 := by kernel_rfl
theorem etRow : ((List.range 219).filter fun t => Tryz.prog.rowNamed t [101, 114, 114, 111, 114]) = [46] := by kernel_rfl
theorem etype_of {l : List (String × DataW Unit)} {W : World} (h : laidMetH Tryz.prog l W) (hm : l.filter (fun x => x.1 == "errors.errorType") = [("errors.errorType", Rows.laid_errors_errorType)]) : EType W := by
  have h0 := laidMetH.filter (fun x => x.1 == "errors.errorType") h
  rw [hm] at h0
  have h' : laidMet Tryz.prog [] W ∧ handlesMet Tryz.prog [("errors.errorType", Rows.laid_errors_errorType)] W := h0
  obtain ⟨name, u, ty, e1, e2, e3, e4, e5⟩ := h'.2 _ (List.mem_singleton.2 rfl)
  have en : name = [101, 114, 114, 111, 114] := (Option.some.inj e1).symm
  subst en
  obtain rfl := Option.some.inj (etRt.symm.trans e2)
  have hmm : ty ∈ (List.range 219).filter fun t => Tryz.prog.rowNamed t [101, 114, 114, 111, 114] := List.mem_filter.2 ⟨List.mem_range.2 (by rw [← etSize]; exact e3), e4⟩
  rw [etRow] at hmm
  obtain rfl := List.mem_singleton.1 hmm
  have hh : typeHandle Tryz.prog 46 = .pointer (some ⟨9, 46, none⟩) := by kernel_rfl
  rw [hh] at e5
  have := World.var?_cell etName e5 0
  unfold EType
  simpa using this
/-- for a witness: all that 'putMore' lays, and the type of errors -/
def putType (N : Nat) (w0 : World) : World :=
  let w := putMore N w0
  { w with heap := w.heap.modify 0 (putCells #[.iface 120 (.agg #[.pointer (some ⟨9, 46, none⟩)])]) }
end Go.Proofs.YtekmjgkjpdhedaaGreatDoor
