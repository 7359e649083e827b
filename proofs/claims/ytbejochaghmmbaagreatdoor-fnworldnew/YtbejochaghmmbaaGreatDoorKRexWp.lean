import Derived.Test.YtbejochaghmmbaaGreatDoorKRexWn
namespace Go.Proofs.YtbejochaghmmbaaGreatDoor
open Go.RowKit
set_option maxRecDepth 100000
theorem l71AnyOp_con (c:RdC) (hc:c.Ok) (p:Int) (hp0:0≤p) (hp1:p≤700000) (h:Hp) (l:List Atom) (ho:Own h (c.atoms p++l)) :
  Con Tryz.prog 71 #[.pointer (some ⟨c.R,0,none⟩)] h fun r h'=>∃(o:OpD) (p':Int),r=o.val∧p≤p'∧p'≤p+40∧Own h' (c.atoms p'++l):=by
 refine Con.of_W (tb:=tbE) (args:=[.pointer (some ⟨c.R,0,none⟩)]) Tryz.func71 rfl Tryz.results71 Tryz.ntmps71 (by simp) (Tryz.call71 _) (tm:=[(0,.v (.pointer (some ⟨c.R,0,none⟩)))]) rfl ?_
 refine vc_ok ⟨tbE_ok,_,Tryz.func71,Tryz.results71,Tryz.ntmps71⟩ 400 _ _ _ _ ?_
 conv=>whnf
 refine(l71Op_con c hc p hp0 (by omega) 16 (by omega) (by omega) h l ho).mono ?_
 rintro r h1 ⟨o,q,rfl,hq1,hq2,ho1⟩
 conv=>whnf
 refine(pick_con c hc q 20 (by omega) (by omega) (by omega) (by omega) h1 _ ho1).mono ?_
 rintro r h2 ⟨z,rfl,_,_,ho2⟩
 conv=>whnf
 refine⟨fun _=>?_,fun _=>?_⟩<;>conv=>whnf
 ·refine(pick_con c hc (q+1) 17 (by omega) (by omega) (by omega) (by omega) h2 _ ho2).mono ?_
  rintro r h3 ⟨y,rfl,_,_,ho3⟩
  conv=>whnf
  exact⟨{ o with k:=y },q+1+1,rfl,by omega,by omega,ho3⟩
 refine⟨fun _=>?_,fun _=>?_⟩<;>conv=>whnf
 ·refine(pick_con c hc (q+1) 6 (by omega) (by omega) (by omega) (by omega) h2 _ ho2).mono ?_
  rintro r h3 ⟨y,rfl,_,_,ho3⟩
  conv=>whnf
  exact⟨{ o with r:=IntKind.i64.wrap (y-1) },q+1+1,rfl,by omega,by omega,ho3⟩
 refine⟨fun _=>?_,fun _=>?_⟩<;>conv=>whnf
 ·refine(l71Val_con c hc (q+1) (by omega) (by omega) h2 _ ho2).mono ?_
  rintro r h3 ⟨v,q3,rfl,hq3,hq4,ho3⟩
  conv=>whnf
  exact⟨{ o with vk:=v.1,vn:=v.2 },q3,rfl,by omega,by omega,ho3⟩
 ·exact⟨o,q+1,rfl,by omega,by omega,ho2⟩
theorem Own.cutO {h:Hp} {l:List Atom} {a:Option Addr} {k m:Nat} {C:List OpD} (hm:m≤C.length) (hC:0<C.length) (o:Own h (.row (rowO (.slice a C.length k) C)::l)):Own h (.row (rowO (.slice a (C.take m).length k) (C.take m))::l):=by
 have hr:RowOk h (rowO (.slice a C.length k) C):=o.rowOk List.mem_cons_self
 obtain⟨g,ha⟩:=row_some hr hC
 subst ha
 have hml:(C.take m).length=m:=by rw [List.length_take];omega
 refine o.turn ?_ (fun b e=>.inl e) (fun k' _ _=>rfl)
 obtain⟨h1,⟨h2,h3⟩ | ⟨g',cap,cur,e,hg,hnc,hcm,hcs,htk⟩⟩:=hr
 ·cases h2
 ·cases e
  refine⟨flat_len encO 6 encO_len _,.inr ⟨g,k,cur,rfl,hg,by show (C.take m).length≤k;rw [hml];exact Nat.le_trans hm hnc,hcm,hcs,?_⟩⟩
  show cur.toList.take ((C.take m).length*6)=(C.take m).flatMap encO
  rw [hml,flat_take encO 6 encO_len C m hm]
  have:cur.toList.take (C.length*6)=C.flatMap encO:=htk
  rw [←this,List.take_take,Nat.min_eq_left (by omega)]
theorem Ext.sliceHi {P:Program} {t e:TypeId} {sz bytes:Nat} (st:SlTy P t e sz bytes) {o:Oper} {x y:Operand} (ho:o.op=.slice t x none (some y) none) {ev:Operand→Value} {h:Hp} {K:Option Value→Hp→Prop} {g n cap:Nat} (hx:ev x=.slice (some ⟨g,0,none⟩) n cap) (k:Nat) (hk:k≤cap) (hy:ev y=.int .i64 (k:Int)) (hK:K (some (.slice (some ⟨g,0,none⟩) k cap)) h):Ext P (execOp ev o) h K:=by
 have hop:execOp ev o=(do pure (Next.value (←Instr.sliceAt t (ev x) none (some (ev y)) none)):Sem Next):=by unfold execOp;rw [ho];rfl
 rw [hop,hx,hy]
 refine Ext.value _ (fun w _=>?_) hK
 simp [Instr.sliceAt,Instr.slice,Instr.sliceBounds,Instr.sliceBound,asIntOf,run_underlying st.u,st.size,hk,Addr.add]
theorem l71Code_con (c:RdC) (hc:c.Ok) (p:Int) (hp0:0≤p) (hp1:p≤500000) (h:Hp) (l:List Atom) (ho:Own h (c.atoms p++l)) :
  Con Tryz.prog 41 #[.pointer (some ⟨c.R,0,none⟩)] h fun r h'=>∃(C:List OpD) (a:Option Addr) (k:Nat) (p':Int),r=.slice a C.length k∧C.length≤20∧Own h' (.row (rowO (.slice a C.length k) C)::(c.atoms p'++l)):=by
 refine Con.of_W (tb:=tbE) (args:=[.pointer (some ⟨c.R,0,none⟩)]) Tryz.func41 rfl Tryz.results41 Tryz.ntmps41 (by simp) (Tryz.call41 _) (tm:=[(0,.v (.pointer (some ⟨c.R,0,none⟩)))]) rfl ?_
 refine vc_ok ⟨tbE_ok,_,Tryz.func41,Tryz.results41,Tryz.ntmps41⟩ 400 _ _ _ _ ?_
 conv=>whnf
 refine(l71Safe_con c hc p hp0 (by omega) h l ho).mono ?_
 rintro r h1 ⟨C,a,k,q,rfl,hsafe,hq1,hq2,ho1⟩
 have hlen:=safe_len hsafe
 have hpos:0<C.length:=by have:=(Eld.codeB_well (safeOf_ok hsafe)).1.1;simpa using this
 have ho1':Own h1 (c.atoms q++(.row (rowO (.slice a C.length k) C)::l)):=w_lists ho1
 conv=>whnf
 refine(pick_con c hc q 12 (by omega) (by omega) (by omega) (by omega) h1 _ ho1').mono ?_
 rintro r h2 ⟨z,rfl,_,_,ho2⟩
 conv=>whnf
 refine⟨fun _=>?_,fun _=>?_⟩<;>conv=>whnf
 ·refine(l71Random_con c hc (q+1) (by omega) (by omega) h2 _ ho2).mono ?_
  rintro r h3 ⟨M,ma,mk,q3,rfl,hm1,hm2,hq3,hq4,ho3⟩
  conv=>whnf
  refine⟨M,ma,mk,q3,rfl,by omega,?_⟩
  exact Own.tail (x:=.row (rowO (.slice a C.length k) C)) (ho3.perm (perm_of fun x=>by simp only [List.count_append,List.count_cons];omega))
 refine⟨fun _=>?_,fun _=>?_⟩<;>conv=>whnf
 ·refine(pick_con c hc (q+1) (C.length:Int) (by omega) (by omega) (by omega) (by omega) h2 _ ho2).mono ?_
  rintro r h3 ⟨y,rfl,hy0,hy1,ho3⟩
  conv=>whnf
  obtain⟨y,rfl⟩:∃m:Nat,y=(m:Int):=⟨y.toNat,by omega⟩
  refine(l71AnyOp_con c hc (q+1+1) (by omega) (by omega) h3 _ ho3).mono ?_
  rintro r h4 ⟨o,q4,rfl,hq3,hq4,ho4⟩
  conv=>whnf
  have ho5:=w_row ho4
  obtain⟨g,hga⟩:=row_some (ho5.rowOk List.mem_cons_self) hpos
  subst hga
  refine Ext.index slOp.u slOp.size rfl rfl rfl y rfl (by omega) ?_
  conv=>whnf
  refine Ext.storeOp (L:=C) (i:=y) rfl (by omega) rfl o ho5 rfl rfl fun h6 ho6=>?_
  conv=>whnf
  exact⟨C.set y o,some ⟨g,0,none⟩,k,q4,by rw [List.length_set];rfl,by rw [List.length_set];omega,by rw [List.length_set];exact ho6⟩
 refine⟨fun _=>?_,fun _=>?_⟩<;>conv=>whnf
 ·have hw1:IntKind.i64.wrap ((C.length:Int)+1)=(C.length:Int)+1:=wrapN _ (by omega) (by omega)
  rw [hw1]
  refine(pick_con c hc (q+1) ((C.length:Int)+1) (by omega) (by omega) (by omega) (by omega) h2 _ ho2).mono ?_
  rintro r h3 ⟨y,rfl,hy0,hy1,ho3⟩
  conv=>whnf
  obtain⟨y,rfl⟩:∃m:Nat,y=(m:Int):=⟨y.toNat,by omega⟩
  have ho5:=w_row ho3
  have hcap:=row_cap (ho5.rowOk List.mem_cons_self)
  obtain⟨g,hga⟩:=row_some (ho5.rowOk List.mem_cons_self) hpos
  subst hga
  refine Ext.sliceHi slOp rfl rfl y (by omega) rfl ?_
  conv=>whnf
  have ho6:=Own.cutO (m:=y) (by omega) hpos ho5
  have hyl:(C.take y).length=y:=by rw [List.length_take];omega
  exact⟨C.take y,some ⟨g,0,none⟩,k,q+1+1,by rw [hyl];rfl,by omega,ho6⟩
 refine⟨fun _=>?_,fun _=>?_⟩<;>conv=>whnf
 ·refine W.cut [(0,.v (.pointer (some ⟨c.R,0,none⟩))),(3,.v (.slice a C.length k))] [] [] ⟨rfl,rfl,trivial⟩ rfl rfl ⟨_,rfl⟩ ?_
  refine W.loop (α:=List OpD×Option Addr×Nat×Int) (fun x=>[(0,.v (.pointer (some ⟨c.R,0,none⟩))),(3,.v (.slice x.2.1 x.1.length x.2.2.1))]) (fun _=>[]) (fun x h'=>x.1.length≤17∧0≤x.2.2.2∧x.2.2.2+2*(18-x.1.length:Int)≤800000∧Own h' (.row (rowO (.slice x.2.1 x.1.length x.2.2.1) x.1)::(c.atoms x.2.2.2++l))) (fun x=>18-x.1.length) ?_ (C,a,k,q+1) h2 ⟨by dsimp only;omega,by dsimp only;omega,by dsimp only;omega,w_row ho2⟩
  clear ho2 ho1 ho1' ho
  rintro⟨M,ma,mk,q3⟩ h5 ⟨hM,hq30,hq31,ho5⟩ ih
  dsimp only at hM hq30 hq31 ho5 ⊢
  refine vc_ok ⟨tbE_ok,_,Tryz.func41,Tryz.results41,Tryz.ntmps41⟩ 400 _ _ _ _ ?_
  conv=>whnf
  refine(pick_con c hc q3 2 (by omega) (by omega) (by omega) (by omega) h5 _ (w_lists ho5)).mono ?_
  rintro r h6 ⟨y,rfl,hy0,hy1,ho6⟩
  conv=>whnf
  have hw1:IntKind.i64.wrap (16+y)=16+y:=wrapN _ (by omega) (by omega)
  rw [hw1]
  conv=>whnf
  refine⟨fun b1=>?_,fun b1=>?_⟩<;>conv=>whnf
  ·have hlt:M.length<17:=by(have:(M.length:Int)<16+y:=by simpa using b1);omega
   refine Ext.litO rfl (w_row ho6) ⟨14,0,0,0,0,0⟩ rfl fun g7 h7 _ ho7=>?_
   conv=>whnf
   refine Ext.pushO rfl ho7 rfl rfl (by omega) fun a8 k8 h8 ho8=>?_
   conv=>whnf
   refine W.back (ih (M++[⟨14,0,0,0,0,0⟩],a8,k8,q3+1) h8 ⟨by dsimp only;rw [List.length_append];simp;omega,by dsimp only;omega,by dsimp only;rw [List.length_append];simp;omega,ho8⟩ (by dsimp only;rw [List.length_append];simp;omega)) [] (by exact⟨rfl,rfl,trivial⟩) rfl rfl
  ·exact⟨M,ma,mk,q3+1,rfl,by omega,w_row ho6⟩
 ·exact⟨C,a,k,q+1,rfl,by omega,w_row ho2⟩
theorem drawWorldNew_con (a:Option Addr) (len cap:Nat) (cb:Option (Nat×Obj)) (hc:CodeIn a len cap cb) (h:Hp) (l:List Atom) (ho:Own h (cbAtoms cb++l)) :
  Con Tryz.prog 12 #[.slice a len cap] h fun r h'=>∃(C:List OpD) (ca:Option Addr) (ck:Nat),r=.slice ca C.length ck∧C.length≤20∧Own h' (.row (rowO (.slice ca C.length ck) C)::(cbAtoms cb++l)):=by
 refine Con.of_W (tb:=tbE) (args:=[.slice a len cap]) Tryz.func12 rfl Tryz.results12 Tryz.ntmps12 (by simp) (Tryz.call12 _) (tm:=[(0,.v (.slice a len cap))]) rfl ?_
 refine vc_ok ⟨tbE_ok,_,Tryz.func12,Tryz.results12,Tryz.ntmps12⟩ 400 _ _ _ _ ?_
 conv=>whnf
 refine(open_con a len cap cb hc h l ho).mono ?_
 rintro r h1 ⟨c,hok,hcb,rfl,ho1⟩
 conv=>whnf
 refine(pick_con c hok 0 4 (by omega) (by omega) (by omega) (by omega) h1 _ ho1).mono ?_
 rintro r h2 ⟨z,rfl,_,_,ho2⟩
 conv=>whnf
 refine⟨fun _=>?_,fun _=>?_⟩<;>conv=>whnf
 ·refine(l71Random_con c hok (0+1) (by omega) (by omega) h2 _ ho2).mono ?_
  rintro r h3 ⟨M,ma,mk,q3,rfl,hm1,hm2,hq3,hq4,ho3⟩
  conv=>whnf
  exact⟨M,ma,mk,rfl,by omega,w_row (A:=cbAtoms cb) (c_cb hcb (w_lists ho3))⟩
 ·refine(l71Code_con c hok (0+1) (by omega) (by omega) h2 _ ho2).mono ?_
  rintro r h3 ⟨M,ma,mk,q3,rfl,hm1,ho3⟩
  conv=>whnf
  exact⟨M,ma,mk,rfl,by omega,w_row (A:=cbAtoms cb) (c_cb hcb (w_lists ho3))⟩
end Go.Proofs.YtbejochaghmmbaaGreatDoor
