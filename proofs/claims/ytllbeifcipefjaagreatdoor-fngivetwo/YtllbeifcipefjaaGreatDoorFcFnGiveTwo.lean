import Derived.Test.YtllbeifcipefjaaGreatDoorRows
import Derived.Test.YtllbeifcipefjaaGreatDoorQa
import Derived.JoinedCond
namespace Go.Proofs.YtllbeifcipefjaaGreatDoor
open Go.ChangeShapes Go.WideShapes Go.ChangeAt Go.RowKit Go.Joins
namespace FcFnGiveTwo
theorem k0:(Rows.fnGiveTwoRow.wf (OpenSpec.ofChange Rows.fnGiveTwoSpec))=true:=by kernel_rfl
theorem k1:(laidOutB Tryz.prog)=true:=by kernel_rfl
theorem k2:(mapsRowed Tryz.prog)=true:=by kernel_rfl
theorem k3:(Tryz.f5.params.all (Tryz.prog.readableRec ·))=true:=by kernel_rfl
theorem k4:(namedTie Tryz.prog Rows.fnGiveTwoRow.named Rows.fnGiveTwoSpec.vars)=true:=by kernel_rfl
theorem k5:((Rows.fnGiveTwoRow.stops==[]))=true:=by kernel_rfl
theorem k6:((Tryz.prog.stops==[]))=true:=by kernel_rfl
theorem k7:((Rows.fnGiveTwoRow.knobs==[]))=true:=by kernel_rfl
theorem k8:((Tryz.prog.stopKnobs==[]))=true:=by kernel_rfl
theorem k9:((Rows.fnGiveTwoRow.inPlace==Tryz.prog.inPlace 5))=true:=by kernel_rfl
theorem k10:((Rows.fnGiveTwoRow.unfollowed==Tryz.prog.unfollowed 5))=true:=by kernel_rfl
theorem k11:((Rows.fnGiveTwoRow.recurses==Tryz.prog.recurses 5))=true:=by kernel_rfl
theorem k12:((Rows.fnGiveTwoRow.named==Tryz.prog.varsNamed 5))=true:=by kernel_rfl
theorem k13:((Rows.fnGiveTwoRow.maps==(Tryz.f5.params.toList++Rows.fnGiveTwoSpec.plain.varTypes Tryz.prog).any (Tryz.prog.mapsRec ·)))=true:=by kernel_rfl
theorem k14:((Rows.fnGiveTwoRow.ifaces==(Tryz.f5.params.toList++Rows.fnGiveTwoSpec.plain.varTypes Tryz.prog).any (Tryz.prog.ifacesRec ·)))=true:=by kernel_rfl
theorem k15:((Rows.fnGiveTwoRow.mapsOut==Tryz.prog.mapsAmong Tryz.f5.resultTypes.toList))=true:=by kernel_rfl
theorem k16:((Rows.fnGiveTwoRow.loops==(Tryz.f5.params.toList++Rows.fnGiveTwoSpec.plain.varTypes Tryz.prog).any (Tryz.prog.loopsFrom ·)))=true:=by kernel_rfl
theorem k17:((Rows.fnGiveTwoRow.wideKeys==(Tryz.f5.params.toList++Rows.fnGiveTwoSpec.plain.varTypes Tryz.prog++Tryz.f5.resultTypes.toList).any (Tryz.prog.wideKeysFrom ·)))=true:=by kernel_rfl
theorem k18:(Rows.fnGiveTwoSpec.vars.all (Tryz.prog.varReadable ·))=true:=by kernel_rfl
theorem k19:(Tryz.f5.resultTypes.all (fun t=>Tryz.prog.readableRec t&&decide (t<Tryz.prog.types.size)))=true:=by kernel_rfl
theorem k20:((Rows.fnGiveTwoRow.ifacesOut==Tryz.f5.resultTypes.toList.any (Tryz.prog.ifacesRec ·)))=true:=by kernel_rfl
theorem k21:((Rows.fnGiveTwoRow.loopsOut==Tryz.f5.resultTypes.toList.any (Tryz.prog.loopsFrom ·)))=true:=by kernel_rfl
theorem k22:((Rows.fnGiveTwoRow.plainKeys==Tryz.prog.plainKeys))=true:=by kernel_rfl
theorem k23:(Rows.fnGiveTwoRow.shortTexts.isNone)=true:=by kernel_rfl
theorem k24:(Tryz.prog.stopsHeard)=true:=by kernel_rfl
theorem k25:(Tryz.prog.mayEnter)=true:=by kernel_rfl
theorem k26:((Rows.fnGiveTwoRow.lifted==Tryz.prog.liftsFinal))=true:=by kernel_rfl
theorem k27:((Tryz.prog.make==some Rows.fnGiveTwoRow.make))=true:=by kernel_rfl
theorem k28:((Rows.fnGiveTwoRow.kinds==(if Rows.fnGiveTwoRow.domain.isEmpty then [] else Tryz.f5.params.toList.map fun t=>match Tryz.prog.underlying t with | some (.int k)=>some k | _=>none)))=true:=by kernel_rfl
theorem k29:((Rows.fnGiveTwoRow.pinned==Rows.fnGiveTwoRow.pinnedBy))=true:=by kernel_rfl
theorem k30:((Rows.fnGiveTwoRow.veiled==(Tryz.f5.params.toList++Rows.fnGiveTwoSpec.plain.varTypes Tryz.prog++Tryz.f5.resultTypes.toList).any (Tryz.prog.veiledRec ·)))=true:=by kernel_rfl
theorem k31:(Rows.fnGiveTwoRow.veiledFits Tryz.prog Tryz.f5.params.toList (Tryz.f5.params.toList++Rows.fnGiveTwoSpec.plain.varTypes Tryz.prog++Tryz.f5.resultTypes.toList))=true:=by kernel_rfl
theorem and_t {a b:Bool} (h:a=true) (k:b=true):(a&&b)=true:=by rw [h,k];rfl
set_option maxRecDepth 100000 in
theorem closed:joinedFacts Tryz.prog 5 Tryz.f5 Rows.fnGiveTwoSpec Rows.fnGiveTwoRow=true:=by
 unfold joinedFacts
 exact and_t (and_t (and_t (and_t (and_t (and_t (and_t (and_t (and_t (and_t (and_t (and_t (and_t (and_t (and_t (and_t (and_t (and_t (and_t (and_t (and_t (and_t (and_t (and_t (and_t (and_t (and_t (and_t (and_t (and_t (and_t (k0) k1) k2) k3) k4) k5) k6) k7) k8) k9) k10) k11) k12) k13) k14) k15) k16) k17) k18) k19) k20) k21) k22) k23) k24) k25) k26) k27) k28) k29) k30) k31
end FcFnGiveTwo
end Go.Proofs.YtllbeifcipefjaaGreatDoor
