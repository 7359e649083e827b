import Derived.Test.YtllbeifcipefjaaGreatDoorRows
import Derived.Test.YtllbeifcipefjaaGreatDoorQa
import Derived.JoinedCond
namespace Go.Proofs.YtllbeifcipefjaaGreatDoor
open Go.ChangeShapes Go.WideShapes Go.ChangeAt Go.RowKit Go.Joins
namespace FcFnGiveFull
theorem k0:(Rows.fnGiveFullRow.wf (OpenSpec.ofChange Rows.fnGiveFullSpec))=true:=by kernel_rfl
theorem k1:(laidOutB Tryz.prog)=true:=by kernel_rfl
theorem k2:(mapsRowed Tryz.prog)=true:=by kernel_rfl
theorem k3:(Tryz.f6.params.all (Tryz.prog.readableRec ·))=true:=by kernel_rfl
theorem k4:(namedTie Tryz.prog Rows.fnGiveFullRow.named Rows.fnGiveFullSpec.vars)=true:=by kernel_rfl
theorem k5:((Rows.fnGiveFullRow.stops==[]))=true:=by kernel_rfl
theorem k6:((Tryz.prog.stops==[]))=true:=by kernel_rfl
theorem k7:((Rows.fnGiveFullRow.knobs==[]))=true:=by kernel_rfl
theorem k8:((Tryz.prog.stopKnobs==[]))=true:=by kernel_rfl
theorem k9:((Rows.fnGiveFullRow.inPlace==Tryz.prog.inPlace 6))=true:=by kernel_rfl
theorem k10:((Rows.fnGiveFullRow.unfollowed==Tryz.prog.unfollowed 6))=true:=by kernel_rfl
theorem k11:((Rows.fnGiveFullRow.recurses==Tryz.prog.recurses 6))=true:=by kernel_rfl
theorem k12:((Rows.fnGiveFullRow.named==Tryz.prog.varsNamed 6))=true:=by kernel_rfl
theorem k13:((Rows.fnGiveFullRow.maps==(Tryz.f6.params.toList++Rows.fnGiveFullSpec.plain.varTypes Tryz.prog).any (Tryz.prog.mapsRec ·)))=true:=by kernel_rfl
theorem k14:((Rows.fnGiveFullRow.ifaces==(Tryz.f6.params.toList++Rows.fnGiveFullSpec.plain.varTypes Tryz.prog).any (Tryz.prog.ifacesRec ·)))=true:=by kernel_rfl
theorem k15:((Rows.fnGiveFullRow.mapsOut==Tryz.prog.mapsAmong Tryz.f6.resultTypes.toList))=true:=by kernel_rfl
theorem k16:((Rows.fnGiveFullRow.loops==(Tryz.f6.params.toList++Rows.fnGiveFullSpec.plain.varTypes Tryz.prog).any (Tryz.prog.loopsFrom ·)))=true:=by kernel_rfl
theorem k17:((Rows.fnGiveFullRow.wideKeys==(Tryz.f6.params.toList++Rows.fnGiveFullSpec.plain.varTypes Tryz.prog++Tryz.f6.resultTypes.toList).any (Tryz.prog.wideKeysFrom ·)))=true:=by kernel_rfl
theorem k18:(Rows.fnGiveFullSpec.vars.all (Tryz.prog.varReadable ·))=true:=by kernel_rfl
theorem k19:(Tryz.f6.resultTypes.all (fun t=>Tryz.prog.readableRec t&&decide (t<Tryz.prog.types.size)))=true:=by kernel_rfl
theorem k20:((Rows.fnGiveFullRow.ifacesOut==Tryz.f6.resultTypes.toList.any (Tryz.prog.ifacesRec ·)))=true:=by kernel_rfl
theorem k21:((Rows.fnGiveFullRow.loopsOut==Tryz.f6.resultTypes.toList.any (Tryz.prog.loopsFrom ·)))=true:=by kernel_rfl
theorem k22:((Rows.fnGiveFullRow.plainKeys==Tryz.prog.plainKeys))=true:=by kernel_rfl
theorem k23:(Rows.fnGiveFullRow.shortTexts.isNone)=true:=by kernel_rfl
theorem k24:(Tryz.prog.stopsHeard)=true:=by kernel_rfl
theorem k25:(Tryz.prog.mayEnter)=true:=by kernel_rfl
theorem k26:((Rows.fnGiveFullRow.lifted==Tryz.prog.liftsFinal))=true:=by kernel_rfl
theorem k27:((Tryz.prog.make==some Rows.fnGiveFullRow.make))=true:=by kernel_rfl
theorem k28:((Rows.fnGiveFullRow.kinds==(if Rows.fnGiveFullRow.domain.isEmpty then [] else Tryz.f6.params.toList.map fun t=>match Tryz.prog.underlying t with | some (.int k)=>some k | _=>none)))=true:=by kernel_rfl
theorem k29:((Rows.fnGiveFullRow.pinned==Rows.fnGiveFullRow.pinnedBy))=true:=by kernel_rfl
theorem k30:((Rows.fnGiveFullRow.veiled==(Tryz.f6.params.toList++Rows.fnGiveFullSpec.plain.varTypes Tryz.prog++Tryz.f6.resultTypes.toList).any (Tryz.prog.veiledRec ·)))=true:=by kernel_rfl
theorem k31:(Rows.fnGiveFullRow.veiledFits Tryz.prog Tryz.f6.params.toList (Tryz.f6.params.toList++Rows.fnGiveFullSpec.plain.varTypes Tryz.prog++Tryz.f6.resultTypes.toList))=true:=by kernel_rfl
theorem and_t {a b:Bool} (h:a=true) (k:b=true):(a&&b)=true:=by rw [h,k];rfl
set_option maxRecDepth 100000 in
theorem closed:joinedFacts Tryz.prog 6 Tryz.f6 Rows.fnGiveFullSpec Rows.fnGiveFullRow=true:=by
 unfold joinedFacts
 exact and_t (and_t (and_t (and_t (and_t (and_t (and_t (and_t (and_t (and_t (and_t (and_t (and_t (and_t (and_t (and_t (and_t (and_t (and_t (and_t (and_t (and_t (and_t (and_t (and_t (and_t (and_t (and_t (and_t (and_t (and_t (k0) k1) k2) k3) k4) k5) k6) k7) k8) k9) k10) k11) k12) k13) k14) k15) k16) k17) k18) k19) k20) k21) k22) k23) k24) k25) k26) k27) k28) k29) k30) k31
end FcFnGiveFull
end Go.Proofs.YtllbeifcipefjaaGreatDoor
