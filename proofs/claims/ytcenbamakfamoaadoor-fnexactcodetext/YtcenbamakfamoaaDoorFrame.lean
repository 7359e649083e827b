/-
  What the proofs of tied cards over this translation share: closed facts, the tables out of the rows' lists, a world for the witness.
-/
import Derived.Test.YtcenbamakfamoaaDoorCards
import Derived.Test.YtcenbamakfamoaaDoorTie
import Derived.Test.YtcenbamakfamoaaDoorShelf
import Derived.Deep.DeepHandedRow
import Derived.Lib.LaidTab
namespace Go.Proofs.YtcenbamakfamoaaDoor
open Go.ChangeShapes Go.WideShapes Go.ChangeAt Go.RowKit Go.Joins
theorem own : ownKnob Tryd.prog.godebug = none := by kernel_rfl
theorem laidOut : laidOutB Tryd.prog = true := by kernel_rfl
theorem cellsVal : Tryd.prog.cellsOf 38 = 2 := by kernel_rfl
theorem aggVal {H : Type} (enc : TypeId × Value → H) (k n : Int) (wk : (Lit.int .i64 k).wf = true) (wn : (Lit.int .i64 n).wf = true) (W : World) (base : Nat) (sp : Nat → Bool) :
    DataW.Trod enc Tryd.prog W base sp true 38 (.agg #[.int .i64 k, .int .i64 n]) (.agg [.lit (.int .i64 k), .lit (.int .i64 n)]) [] :=
  shut_agg2 (y0 := (.lit (.int .i64 k), [])) (y1 := (.lit (.int .i64 n), [])) Tryd.underlying38 (by kernel_rfl) cellsVal ⟨1, by simp [DataW.trod, Tryd.underlying3, wk]⟩ ⟨1, by simp [DataW.trod, Tryd.underlying3, wn]⟩
theorem gTabType : (Tryd.prog.globals[0]?).map (·.type) = some 102 := by kernel_rfl
theorem cellsTab : Tryd.prog.cellsOf 102 = 20 := by kernel_rfl
theorem cellsU64 : Tryd.prog.cellsOf 89 = 1 := by kernel_rfl
/-- the table of powers, out of a row's list -/
theorem tab_of {l : List (String × DataW Unit)} {W : World} (h : laidMetH Tryd.prog l W) (hl : l.filter (fun x => x.1 == "internal/strconv.uint64pow10") = [("internal/strconv.uint64pow10", Lib.tabData .u64 Lib.pow10Tab)]) : Tab W := by
  have h2 := laidMetH.filter (fun x => x.1 == "internal/strconv.uint64pow10") h
  rw [hl] at h2
  exact Lib.tabIs_of_head (rest := []) gTab gTabType Tryd.underlying102 Tryd.underlying89 cellsU64 cellsTab h2
def db32 : List Int := [0, 1, 28, 2, 29, 14, 24, 3, 30, 22, 20, 15, 25, 17, 4, 8, 31, 27, 13, 23, 21, 19, 16, 7, 26, 12, 18, 6, 11, 5, 10, 9]
def db64 : List Int := [0, 1, 56, 2, 57, 49, 28, 3, 61, 58, 42, 50, 38, 29, 17, 4, 62, 47, 59, 36, 45, 43, 51, 22, 53, 39, 33, 30, 24, 18, 12, 5, 63, 55, 48, 27, 60, 41, 37, 16, 46, 35, 44, 21, 52, 32, 23, 11, 54, 26, 40, 15, 34, 20, 31, 10, 25, 14, 19, 9, 13, 8, 7, 6]
def putCells (cs : Array Value) : Obj → Obj
  | .cells _ t frozen => .cells cs t frozen
  | o => o
/-- for a witness: a world, its tables holding what their initialisers lay -/
def putTabs (w0 : World) : World :=
  { w0 with heap := ((w0.heap.modify 0 (putCells (Lib.pow10Tab.map (Value.int .u64)).toArray)).modify 3 (putCells (db32.map (Value.int .u8)).toArray)).modify 4 (putCells (db64.map (Value.int .u8)).toArray) }
end Go.Proofs.YtcenbamakfamoaaDoor
