/-
  The tables and the errors' variables out of the rows' lists, and a world for the witness that holds them, utf8's tables too.
-/
import Derived.Test.YtcpkfganjndlhaaGreatDoorFrameN
import Derived.Test.YtcpkfganjndlhaaGreatDoorShelf
import Derived.Deep.DeepHandedRow
import Derived.Lib.LaidTab
namespace Go.Proofs.YtcpkfganjndlhaaGreatDoor
open Go.ChangeShapes Go.WideShapes Go.ChangeAt Go.RowKit Go.Joins
theorem gTabType : (Tryz.prog.globals[3]?).map (·.type) = some 121 := by kernel_rfl
theorem cellsTab : Tryz.prog.cellsOf 121 = 20 := by kernel_rfl
theorem cellsU64 : Tryz.prog.cellsOf 102 = 1 := by kernel_rfl
/-- the table of powers, out of a row's list -/
theorem tab_of {l : List (String × DataW Unit)} {W : World} (h : laidMetH Tryz.prog l W) (hl : l.filter (fun x => x.1 == "internal/strconv.uint64pow10") = [("internal/strconv.uint64pow10", Lib.tabData .u64 Lib.pow10Tab)]) : Tab W := by
  have h2 := laidMetH.filter (fun x => x.1 == "internal/strconv.uint64pow10") h
  rw [hl] at h2
  exact Lib.tabIs_of_head (rest := []) gTab gTabType Tryz.underlying121 Tryz.underlying102 cellsU64 cellsTab h2
theorem gE0 : Tryz.prog.globalNamed "strconv.ErrSyntax" = some 4 := by kernel_rfl
theorem gE1 : Tryz.prog.globalNamed "strconv.ErrRange" = some 5 := by kernel_rfl
theorem gE0Type : (Tryz.prog.globals[4]?).map (·.type) = some 83 := by kernel_rfl
theorem gE1Type : (Tryz.prog.globals[5]?).map (·.type) = some 83 := by kernel_rfl
theorem err_cell {W : World} {name : String} {nm : String} {x : DataW Unit} {rest : List (String × DataW Unit)} {g : Nat} (hg : Tryz.prog.globalNamed name = some g) (hty : (Tryz.prog.globals[g]?).map (·.type) = some 83)
    (h : laidMet Tryz.prog ((name, .iface nm x) :: rest) W) : ∃ ev, W.cell? ⟨g, 0, none⟩ = some ev ∧ (ev = .nilIface ∨ ∃ te pe, ev = .iface te pe) := by
  obtain ⟨ps, ⟨g', t', cs, fuel, p, q, hg', ht', hvar, hd, _, _⟩, _⟩ := h
  obtain rfl := Option.some.inj (hg.symm.trans hg')
  obtain rfl := Option.some.inj (hty.symm.trans ht')
  have hc := World.var?_cell hg hvar 0
  cases fuel with
  | zero => simp [DataW.trod] at hd
  | succ fuel =>
    rw [hc, ← Array.getElem?_toList]
    generalize cs.toList = l at *
    simp only [DataW.trod, Tryz.underlying83] at hd
    split at hd
    all_goals first
      | exact ⟨_, rfl, .inl rfl⟩
      | exact ⟨_, rfl, .inr ⟨_, _, rfl⟩⟩
      | (rename_i he _; cases he; done)
      | (rename_i he; cases he; done)
      | (simp at hd; done)
      | trace_state
theorem errs_of {l : List (String × DataW Unit)} {W : World} (h : laidMetH Tryz.prog l W) (h0 : l.filter (fun x => x.1 == "strconv.ErrSyntax") = [("strconv.ErrSyntax", Rows.laid_strconv_ErrSyntax)])
    (h1 : l.filter (fun x => x.1 == "strconv.ErrRange") = [("strconv.ErrRange", Rows.laid_strconv_ErrRange)]) : Errs W := by
  have k0 := laidMetH.filter (fun x => x.1 == "strconv.ErrSyntax") h
  have k1 := laidMetH.filter (fun x => x.1 == "strconv.ErrRange") h
  rw [h0] at k0
  rw [h1] at k1
  exact ⟨err_cell gE0 gE0Type k0, err_cell gE1 gE1Type k1⟩
def accs : List Int := [128, 191, 160, 191, 128, 159, 144, 191, 128, 143, 0, 0, 0, 0, 0, 0, 0, 0, 0, 0, 0, 0, 0, 0, 0, 0, 0, 0, 0, 0, 0, 0]
/-- for a witness: all that 'putAll' lays, and utf8's two tables -/
def putMore (N : Nat) (w0 : World) : World :=
  let w := putAll N w0
  { w with heap := (w.heap.modify 1 (putCells (Go.Pinned.utf8FirstZ.map fun (n : Nat) => Value.int .u8 (n : Int)).toArray)).modify 2 (putCells (accs.map (Value.int .u8)).toArray) }
end Go.Proofs.YtcpkfganjndlhaaGreatDoor
