import Derived.Test.YtbejochaghmmbaaGreatDoorRows
import Derived.Test.YtbejochaghmmbaaGreatDoorQa
import Derived.JoinedCond
namespace Go.Proofs.YtbejochaghmmbaaGreatDoor
open Go.ChangeShapes Go.WideShapes Go.ChangeAt Go.RowKit Go.Joins
namespace FcFnWorldFull
theorem k0:(Rows.fnWorldFullRow.wf (OpenSpec.ofChange Rows.fnWorldFullSpec))=true:=by kernel_rfl
theorem k1:(laidOutB Tryz.prog)=true:=by kernel_rfl
theorem k2:(mapsRowed Tryz.prog)=true:=by kernel_rfl
theorem k3:(Tryz.f8.params.all (Tryz.prog.readableRec ·))=true:=by kernel_rfl
theorem k4:(namedTie Tryz.prog Rows.fnWorldFullRow.named Rows.fnWorldFullSpec.vars)=true:=by kernel_rfl
theorem k5:((Rows.fnWorldFullRow.stops==[]))=true:=by kernel_rfl
theorem k6:((Tryz.prog.stops==[]))=true:=by kernel_rfl
theorem k7:((Rows.fnWorldFullRow.knobs==[]))=true:=by kernel_rfl
theorem k8:((Tryz.prog.stopKnobs==[]))=true:=by kernel_rfl
theorem k9:((Rows.fnWorldFullRow.inPlace==Tryz.prog.inPlace 8))=true:=by kernel_rfl
theorem k10:((Rows.fnWorldFullRow.unfollowed==Tryz.prog.unfollowed 8))=true:=by kernel_rfl
theorem k11:((Rows.fnWorldFullRow.recurses==Tryz.prog.recurses 8))=true:=by kernel_rfl
theorem k12:((Rows.fnWorldFullRow.named==Tryz.prog.varsNamed 8))=true:=by kernel_rfl
theorem k13:((Rows.fnWorldFullRow.maps==(Tryz.f8.params.toList++Rows.fnWorldFullSpec.plain.varTypes Tryz.prog).any (Tryz.prog.mapsRec ·)))=true:=by kernel_rfl
theorem k14:((Rows.fnWorldFullRow.ifaces==(Tryz.f8.params.toList++Rows.fnWorldFullSpec.plain.varTypes Tryz.prog).any (Tryz.prog.ifacesRec ·)))=true:=by kernel_rfl
theorem k15:((Rows.fnWorldFullRow.mapsOut==Tryz.prog.mapsAmong Tryz.f8.resultTypes.toList))=true:=by kernel_rfl
theorem k16:((Rows.fnWorldFullRow.loops==(Tryz.f8.params.toList++Rows.fnWorldFullSpec.plain.varTypes Tryz.prog).any (Tryz.prog.loopsFrom ·)))=true:=by kernel_rfl
theorem k17:((Rows.fnWorldFullRow.wideKeys==(Tryz.f8.params.toList++Rows.fnWorldFullSpec.plain.varTypes Tryz.prog++Tryz.f8.resultTypes.toList).any (Tryz.prog.wideKeysFrom ·)))=true:=by kernel_rfl
theorem k18:(Rows.fnWorldFullSpec.vars.all (Tryz.prog.varReadable ·))=true:=by kernel_rfl
theorem k19:(Tryz.f8.resultTypes.all (fun t=>Tryz.prog.readableRec t&&decide (t<Tryz.prog.types.size)))=true:=by kernel_rfl
theorem k20:((Rows.fnWorldFullRow.ifacesOut==Tryz.f8.resultTypes.toList.any (Tryz.prog.ifacesRec ·)))=true:=by kernel_rfl
theorem k21:((Rows.fnWorldFullRow.loopsOut==Tryz.f8.resultTypes.toList.any (Tryz.prog.loopsFrom ·)))=true:=by kernel_rfl
theorem k22:((Rows.fnWorldFullRow.plainKeys==Tryz.prog.plainKeys))=true:=by kernel_rfl
theorem k23:(Rows.fnWorldFullRow.shortTexts.isNone)=true:=by kernel_rfl
theorem k24:(Tryz.prog.stopsHeard)=true:=by kernel_rfl
theorem k25:(Tryz.prog.mayEnter)=true:=by kernel_rfl
theorem k26:((Rows.fnWorldFullRow.lifted==Tryz.prog.liftsFinal))=true:=by kernel_rfl
theorem k27:((Tryz.prog.make==some Rows.fnWorldFullRow.make))=true:=by kernel_rfl
theorem k28:((Rows.fnWorldFullRow.kinds==(if Rows.fnWorldFullRow.domain.isEmpty then [] else Tryz.f8.params.toList.map fun t=>match Tryz.prog.underlying t with | some (.int k)=>some k | _=>none)))=true:=by kernel_rfl
theorem k29:((Rows.fnWorldFullRow.pinned==Rows.fnWorldFullRow.pinnedBy))=true:=by kernel_rfl
theorem k30:((Rows.fnWorldFullRow.veiled==(Tryz.f8.params.toList++Rows.fnWorldFullSpec.plain.varTypes Tryz.prog++Tryz.f8.resultTypes.toList).any (Tryz.prog.veiledRec ·)))=true:=by kernel_rfl
theorem k31:(Rows.fnWorldFullRow.veiledFits Tryz.prog Tryz.f8.params.toList (Tryz.f8.params.toList++Rows.fnWorldFullSpec.plain.varTypes Tryz.prog++Tryz.f8.resultTypes.toList))=true:=by kernel_rfl
theorem and_t {a b:Bool} (h:a=true) (k:b=true):(a&&b)=true:=by rw [h,k];rfl
set_option maxRecDepth 100000 in
theorem closed:joinedFacts Tryz.prog 8 Tryz.f8 Rows.fnWorldFullSpec Rows.fnWorldFullRow=true:=by
 unfold joinedFacts
 exact and_t (and_t (and_t (and_t (and_t (and_t (and_t (and_t (and_t (and_t (and_t (and_t (and_t (and_t (and_t (and_t (and_t (and_t (and_t (and_t (and_t (and_t (and_t (and_t (and_t (and_t (and_t (and_t (and_t (and_t (and_t (k0) k1) k2) k3) k4) k5) k6) k7) k8) k9) k10) k11) k12) k13) k14) k15) k16) k17) k18) k19) k20) k21) k22) k23) k24) k25) k26) k27) k28) k29) k30) k31
end FcFnWorldFull
end Go.Proofs.YtbejochaghmmbaaGreatDoor
