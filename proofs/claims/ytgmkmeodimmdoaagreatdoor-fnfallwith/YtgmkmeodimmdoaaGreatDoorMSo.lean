import Derived.Test.YtgmkmeodimmdoaaGreatDoorMSn
namespace Go.Proofs.YtgmkmeodimmdoaaGreatDoor
open Go.RowKit
set_option maxRecDepth 100000
theorem OkS.run {w:PW} {V:List Int} (ok:OkS w V) (i:Nat) (hi:i<w.runs.length):RunF w.runs[i]:=by
 have h:=(ok.fit i hi).ok;unfold Eld.specRB at h;rw [Bool.and_eq_true] at h;exact runF h.1
theorem Rd.quo {P:Program} {t t':TypeId} {o:Oper} {x y:Operand} (ho:o.op=.binOp .quo t x y t') {ev:Operand→Value} {h:Hp} {K:Value→Prop} {a b:Int} (hx:ev x=.int .i64 a) (hy:ev y=.int .i64 b) (hb:b≠0) (k:K (.int .i64 (IntKind.i64.wrap (a.tdiv b)))):Rd P (execOp ev o) h K :=
 ⟨_,fun w _=>by simp [execOp,ho,hx,hy,eqGuard,binOp,Op.intDiv,hb],k⟩
end Go.Proofs.YtgmkmeodimmdoaaGreatDoor
