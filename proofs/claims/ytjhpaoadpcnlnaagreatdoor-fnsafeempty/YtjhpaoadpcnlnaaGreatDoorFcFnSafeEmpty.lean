/-
  The closed facts of the row fnSafeEmptyRow, one by one. No condition.
-/
import Derived.Test.YtjhpaoadpcnlnaaGreatDoorRows
import Derived.Test.YtjhpaoadpcnlnaaGreatDoorZa01
import Derived.JoinedCond
namespace Go.Proofs.YtjhpaoadpcnlnaaGreatDoor
open Go.ChangeShapes Go.WideShapes Go.ChangeAt Go.RowKit Go.Joins
namespace FcFnSafeEmpty
theorem k0 : (Rows.fnSafeEmptyRow.wf (OpenSpec.ofChange Rows.fnSafeEmptySpec)) = true := by kernel_rfl
theorem k1 : (laidOutB Tryz.prog) = true := by kernel_rfl
theorem k2 : (mapsRowed Tryz.prog) = true := by kernel_rfl
theorem k3 : (Tryz.f15.params.all (Tryz.prog.readableRec ·)) = true := by kernel_rfl
theorem k4 : (namedTie Tryz.prog Rows.fnSafeEmptyRow.named Rows.fnSafeEmptySpec.vars) = true := by kernel_rfl
theorem k5 : ((Rows.fnSafeEmptyRow.stops == [])) = true := by kernel_rfl
theorem k6 : ((Tryz.prog.stops == [])) = true := by kernel_rfl
theorem k7 : ((Rows.fnSafeEmptyRow.knobs == [])) = true := by kernel_rfl
theorem k8 : ((Tryz.prog.stopKnobs == [])) = true := by kernel_rfl
theorem k9 : ((Rows.fnSafeEmptyRow.inPlace == Tryz.prog.inPlace 15)) = true := by kernel_rfl
theorem k10 : ((Rows.fnSafeEmptyRow.unfollowed == Tryz.prog.unfollowed 15)) = true := by kernel_rfl
theorem k11 : ((Rows.fnSafeEmptyRow.recurses == Tryz.prog.recurses 15)) = true := by kernel_rfl
theorem k12 : ((Rows.fnSafeEmptyRow.named == Tryz.prog.varsNamed 15)) = true := by kernel_rfl
theorem k13 : ((Rows.fnSafeEmptyRow.maps == (Tryz.f15.params.toList ++ Rows.fnSafeEmptySpec.plain.varTypes Tryz.prog).any (Tryz.prog.mapsRec ·))) = true := by kernel_rfl
theorem k14 : ((Rows.fnSafeEmptyRow.ifaces == (Tryz.f15.params.toList ++ Rows.fnSafeEmptySpec.plain.varTypes Tryz.prog).any (Tryz.prog.ifacesRec ·))) = true := by kernel_rfl
theorem k15 : ((Rows.fnSafeEmptyRow.mapsOut == Tryz.prog.mapsAmong Tryz.f15.resultTypes.toList)) = true := by kernel_rfl
theorem k16 : ((Rows.fnSafeEmptyRow.loops == (Tryz.f15.params.toList ++ Rows.fnSafeEmptySpec.plain.varTypes Tryz.prog).any (Tryz.prog.loopsFrom ·))) = true := by kernel_rfl
theorem k17 : ((Rows.fnSafeEmptyRow.wideKeys == (Tryz.f15.params.toList ++ Rows.fnSafeEmptySpec.plain.varTypes Tryz.prog ++ Tryz.f15.resultTypes.toList).any (Tryz.prog.wideKeysFrom ·))) = true := by kernel_rfl
theorem k18 : (Rows.fnSafeEmptySpec.vars.all (Tryz.prog.varReadable ·)) = true := by kernel_rfl
theorem k19 : (Tryz.f15.resultTypes.all (fun t => Tryz.prog.readableRec t && decide (t < Tryz.prog.types.size))) = true := by kernel_rfl
theorem k20 : ((Rows.fnSafeEmptyRow.ifacesOut == Tryz.f15.resultTypes.toList.any (Tryz.prog.ifacesRec ·))) = true := by kernel_rfl
theorem k21 : ((Rows.fnSafeEmptyRow.loopsOut == Tryz.f15.resultTypes.toList.any (Tryz.prog.loopsFrom ·))) = true := by kernel_rfl
theorem k22 : ((Rows.fnSafeEmptyRow.plainKeys == Tryz.prog.plainKeys)) = true := by kernel_rfl
theorem k23 : (Rows.fnSafeEmptyRow.shortTexts.isNone) = true := by kernel_rfl
theorem k24 : (Tryz.prog.stopsHeard) = true := by kernel_rfl
theorem k25 : (Tryz.prog.mayEnter) = true := by kernel_rfl
theorem k26 : ((Rows.fnSafeEmptyRow.lifted == Tryz.prog.liftsFinal)) = true := by kernel_rfl
theorem k27 : ((Tryz.prog.make == some Rows.fnSafeEmptyRow.make)) = true := by kernel_rfl
theorem k28 : ((Rows.fnSafeEmptyRow.kinds == (if Rows.fnSafeEmptyRow.domain.isEmpty then [] else Tryz.f15.params.toList.map fun t => match Tryz.prog.underlying t with | some (.int k) => some k | _ => none))) = true := by kernel_rfl
theorem k29 : ((Rows.fnSafeEmptyRow.pinned == Rows.fnSafeEmptyRow.pinnedBy)) = true := by kernel_rfl
theorem k30 : ((Rows.fnSafeEmptyRow.veiled == (Tryz.f15.params.toList ++ Rows.fnSafeEmptySpec.plain.varTypes Tryz.prog ++ Tryz.f15.resultTypes.toList).any (Tryz.prog.veiledRec ·))) = true := by kernel_rfl
theorem k31 : (Rows.fnSafeEmptyRow.veiledFits Tryz.prog Tryz.f15.params.toList (Tryz.f15.params.toList ++ Rows.fnSafeEmptySpec.plain.varTypes Tryz.prog ++ Tryz.f15.resultTypes.toList)) = true := by kernel_rfl
theorem and_t {a b : Bool} (h : a = true) (k : b = true) : (a && b) = true := by rw [h, k]; rfl
set_option maxRecDepth 100000 in
theorem closed : joinedFacts Tryz.prog 15 Tryz.f15 Rows.fnSafeEmptySpec Rows.fnSafeEmptyRow = true := by
  unfold joinedFacts
  exact and_t (and_t (and_t (and_t (and_t (and_t (and_t (and_t (and_t (and_t (and_t (and_t (and_t (and_t (and_t (and_t (and_t (and_t (and_t (and_t (and_t (and_t (and_t (and_t (and_t (and_t (and_t (and_t (and_t (and_t (and_t (k0) k1) k2) k3) k4) k5) k6) k7) k8) k9) k10) k11) k12) k13) k14) k15) k16) k17) k18) k19) k20) k21) k22) k23) k24) k25) k26) k27) k28) k29) k30) k31
end FcFnSafeEmpty
end Go.Proofs.YtjhpaoadpcnlnaaGreatDoor
