import Derived.Test.YtgmkmeodimmdoaaGreatDoorBQa
import Derived.JoinedCond
set_option maxRecDepth 100000
namespace Go.Proofs.YtgmkmeodimmdoaaGreatDoor
open Go.ChangeShapes Go.WideShapes Go.ChangeAt Go.RowKit Go.Joins
namespace FcFnFallTwo
theorem k0:(Rows.fnFallTwoRow.wf (OpenSpec.ofChange Rows.fnFallTwoSpec))=true:=by kernel_rfl
theorem k1:(laidOutB Tryz.prog)=true:=by kernel_rfl
theorem k2:(mapsRowed Tryz.prog)=true:=by kernel_rfl
theorem k3:(Tryz.f12.params.all (Tryz.prog.readableRec ·))=true:=by kernel_rfl
theorem k4:(namedTie Tryz.prog Rows.fnFallTwoRow.named Rows.fnFallTwoSpec.vars)=true:=by kernel_rfl
theorem k5:((Rows.fnFallTwoRow.stops==[]))=true:=by kernel_rfl
theorem k6:((Tryz.prog.stops==[]))=true:=by kernel_rfl
theorem k7:((Rows.fnFallTwoRow.knobs==[]))=true:=by kernel_rfl
theorem k8:((Tryz.prog.stopKnobs==[]))=true:=by kernel_rfl
theorem k9:((Rows.fnFallTwoRow.inPlace==Tryz.prog.inPlace 12))=true:=by kernel_rfl
theorem k10:((Rows.fnFallTwoRow.unfollowed==Tryz.prog.unfollowed 12))=true:=by kernel_rfl
theorem k11:((Rows.fnFallTwoRow.recurses==Tryz.prog.recurses 12))=true:=by kernel_rfl
theorem k12:((Rows.fnFallTwoRow.named==Tryz.prog.varsNamed 12))=true:=by kernel_rfl
theorem k13:((Rows.fnFallTwoRow.maps==(Tryz.f12.params.toList++Rows.fnFallTwoSpec.plain.varTypes Tryz.prog).any (Tryz.prog.mapsRec ·)))=true:=by kernel_rfl
theorem k14:((Rows.fnFallTwoRow.ifaces==(Tryz.f12.params.toList++Rows.fnFallTwoSpec.plain.varTypes Tryz.prog).any (Tryz.prog.ifacesRec ·)))=true:=by kernel_rfl
theorem k15:((Rows.fnFallTwoRow.mapsOut==Tryz.prog.mapsAmong Tryz.f12.resultTypes.toList))=true:=by kernel_rfl
theorem k16:((Rows.fnFallTwoRow.loops==(Tryz.f12.params.toList++Rows.fnFallTwoSpec.plain.varTypes Tryz.prog).any (Tryz.prog.loopsFrom ·)))=true:=by kernel_rfl
theorem k17:((Rows.fnFallTwoRow.wideKeys==(Tryz.f12.params.toList++Rows.fnFallTwoSpec.plain.varTypes Tryz.prog++Tryz.f12.resultTypes.toList).any (Tryz.prog.wideKeysFrom ·)))=true:=by kernel_rfl
theorem k18:(Rows.fnFallTwoSpec.vars.all (Tryz.prog.varReadable ·))=true:=by kernel_rfl
theorem k19:(Tryz.f12.resultTypes.all (fun t=>Tryz.prog.readableRec t&&decide (t<Tryz.prog.types.size)))=true:=by kernel_rfl
theorem k20:((Rows.fnFallTwoRow.ifacesOut==Tryz.f12.resultTypes.toList.any (Tryz.prog.ifacesRec ·)))=true:=by kernel_rfl
theorem k21:((Rows.fnFallTwoRow.loopsOut==Tryz.f12.resultTypes.toList.any (Tryz.prog.loopsFrom ·)))=true:=by kernel_rfl
theorem k22:((Rows.fnFallTwoRow.plainKeys==Tryz.prog.plainKeys))=true:=by kernel_rfl
theorem k23:(Rows.fnFallTwoRow.shortTexts.isNone)=true:=by kernel_rfl
theorem k24:(Tryz.prog.stopsHeard)=true:=by kernel_rfl
theorem k25:(Tryz.prog.mayEnter)=true:=by kernel_rfl
theorem k26:((Rows.fnFallTwoRow.lifted==Tryz.prog.liftsFinal))=true:=by kernel_rfl
theorem k27:((Tryz.prog.make==some Rows.fnFallTwoRow.make))=true:=by kernel_rfl
theorem k28:((Rows.fnFallTwoRow.kinds==(if Rows.fnFallTwoRow.domain.isEmpty then [] else Tryz.f12.params.toList.map fun t=>match Tryz.prog.underlying t with|some (.int k)=>some k|_=>none)))=true:=by kernel_rfl
theorem k29:((Rows.fnFallTwoRow.pinned==Rows.fnFallTwoRow.pinnedBy))=true:=by kernel_rfl
theorem k30:((Rows.fnFallTwoRow.veiled==(Tryz.f12.params.toList++Rows.fnFallTwoSpec.plain.varTypes Tryz.prog++Tryz.f12.resultTypes.toList).any (Tryz.prog.veiledRec ·)))=true:=by kernel_rfl
theorem k31:(Rows.fnFallTwoRow.veiledFits Tryz.prog Tryz.f12.params.toList (Tryz.f12.params.toList++Rows.fnFallTwoSpec.plain.varTypes Tryz.prog++Tryz.f12.resultTypes.toList))=true:=by kernel_rfl
theorem and_t {a b:Bool} (h:a=true) (k:b=true):(a&&b)=true:=by rw [h,k];rfl
theorem closed:joinedFacts Tryz.prog 12 Tryz.f12 Rows.fnFallTwoSpec Rows.fnFallTwoRow=true:=by
 unfold joinedFacts;exact and_t (and_t (and_t (and_t (and_t (and_t (and_t (and_t (and_t (and_t (and_t (and_t (and_t (and_t (and_t (and_t (and_t (and_t (and_t (and_t (and_t (and_t (and_t (and_t (and_t (and_t (and_t (and_t (and_t (and_t (and_t (k0) k1) k2) k3) k4) k5) k6) k7) k8) k9) k10) k11) k12) k13) k14) k15) k16) k17) k18) k19) k20) k21) k22) k23) k24) k25) k26) k27) k28) k29) k30) k31
end FcFnFallTwo
end Go.Proofs.YtgmkmeodimmdoaaGreatDoor
