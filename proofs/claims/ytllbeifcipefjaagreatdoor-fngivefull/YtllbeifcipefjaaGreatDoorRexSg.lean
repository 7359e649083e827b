import Derived.Test.YtllbeifcipefjaaGreatDoorRexSf
namespace Go.Proofs.YtllbeifcipefjaaGreatDoor
open Go.RowKit
set_option maxRecDepth 100000
theorem Rd.quo {P:Program} {t t':TypeId} {o:Oper} {x y:Operand} (ho:o.op=.binOp .quo t x y t') {ev:Operand→Value} {h:Hp} {K:Value→Prop} {a b:Int} (hx:ev x=.int .i64 a) (hy:ev y=.int .i64 b) (hb:b≠0) (k:K (.int .i64 (IntKind.i64.wrap (a.tdiv b)))):Rd P (execOp ev o) h K :=
 ⟨_,fun w _=>by simp [execOp,ho,hx,hy,eqGuard,binOp,Op.intDiv,hb],k⟩
theorem drawWorldGive_con (a:Option Addr) (len cap:Nat) (cb:Option (Nat×Obj)) (hc:CodeIn a len cap cb) (h:Hp) (l:List Atom) (ho:Own h (cbAtoms cb++l)) :
  Con Tryz.prog 7 #[.slice a len cap] h fun r h'=>∃(D:WD) (id:Int) (v:Int×Int),r=.tuple #[D.val,.int .i64 id,.agg #[.int .i64 v.1,.int .i64 v.2]]∧DrawnW D.pure∧1≤id∧id≤100∧Own h' (cbAtoms cb++(wAtoms D++l)):=by
 refine Con.of_W (tb:=tbE) (args:=[.slice a len cap]) Tryz.func7 rfl Tryz.results7 Tryz.ntmps7 (by simp) (Tryz.call7 _) (tm:=[(0,.v (.slice a len cap))]) rfl ?_
 refine vc_ok ⟨tbE_ok,_,Tryz.func7,Tryz.results7,Tryz.ntmps7⟩ 400 _ _ _ _ ?_
 conv=>whnf
 refine(open_con a len cap cb hc h l ho).mono ?_
 rintro r h1 ⟨c,hok,hcb,rfl,ho1⟩
 conv=>whnf
 refine(l72World_con c hok 0 (by omega) (by omega) h1 l ho1).mono ?_
 rintro r h2 ⟨D,q,rfl,hd,hq1,hq2,ho2⟩
 conv=>whnf
 have hf:=hd.facts
 have hl:=pure_len D
 have hl1:1≤D.runs.length:=by omega
 have hl6:D.runs.length≤6:=by omega
 refine W.cut [(6,.p 2 0),(4,.p 1 0),(3,.v (.int .i64 0)),(2,.p 0 0),(5,.v (.pointer (some ⟨c.R,0,none⟩)))] _ [] ⟨rfl,rfl,rfl,rfl,rfl,trivial⟩ (List.append_nil _).symm rfl ⟨_,rfl⟩ ?_
 refine W.draw [(0,true),(1,true),(2,true),(3,true),(4,true),(7,true),(12,true),(5,false),(6,true),(8,false),(9,true),(10,true),(11,true),(13,false),(14,false),(15,true),(16,false)] [2] none 99 (by kernel_rfl) rfl (by kernel_rfl) mixed rfl (fun g e=>by cases e) ?_
 refine vc_ok ⟨tbE_ok,_,Tryz.func7,Tryz.results7,Tryz.ntmps7⟩ 400 _ _ _ _ ?_
 conv=>whnf
 refine(pick_con c hok q D.runs.length (by omega) (by omega) (by omega) (by omega) h2 _ ho2).mono ?_
 rintro r h3 ⟨y,rfl,hy0,hy1,ho3⟩
 conv=>whnf
 refine(pick_con c hok (q+1) 12 (by omega) (by omega) (by omega) (by omega) h3 _ ho3).mono ?_
 rintro r h4 ⟨z,rfl,hz0,hz1,ho4⟩
 conv=>whnf
 have ht:z.tdiv 11=z / 11:=Int.tdiv_eq_ediv_of_nonneg (by omega)
 have hq:IntKind.i64.wrap (z / 11)=z / 11:=wrapN _ (by omega) (by omega)
 refine Rd.quo (b:=11) rfl rfl rfl (by decide) ?_
 rw [ht,hq]
 conv=>whnf
 refine(l71Val_con c hok (q+1+1) (by omega) (by omega) h4 _ ho4).mono ?_
 rintro r h5 ⟨v,q5,rfl,_,_,ho5⟩
 conv=>whnf
 have e1:IntKind.i64.wrap (1+y)=1+y:=wrapN _ (by omega) (by omega)
 have e2:IntKind.i64.wrap (z / 11*6)=z / 11*6:=wrapN _ (by omega) (by omega)
 have e3:IntKind.i64.wrap (1+y+z / 11*6)=1+y+z / 11*6:=wrapN _ (by omega) (by omega)
 refine⟨D,1+y+z / 11*6,v,?_,hd,by omega,by omega,c_cb hcb ho5⟩
 rw [e1,e2,e3]
 rfl
end Go.Proofs.YtllbeifcipefjaaGreatDoor
