import Derived.Test.YtllbeifcipefjaaGreatDoorRexSa
namespace Go.Proofs.YtllbeifcipefjaaGreatDoor
open Go.RowKit
set_option maxRecDepth 100000
theorem Own.nilV {h:Hp} {l:List Atom} (o:Own h l):Own h (.row (rowV (.slice none 0 0) [])::l):=o.add ⟨rfl,.inl ⟨rfl,rfl⟩⟩ (fun g e=>by cases e) (fun _ _=>rfl)
theorem Own.nilO {h:Hp} {l:List Atom} (o:Own h l):Own h (.row (rowO (.slice none 0 0) [])::l):=o.add ⟨rfl,.inl ⟨rfl,rfl⟩⟩ (fun g e=>by cases e) (fun _ _=>rfl)
theorem Own.nilR {h:Hp} {l:List Atom} (o:Own h l):Own h (.row (rowR (.slice none 0 0) [])::l):=o.add ⟨rfl,.inl ⟨rfl,rfl⟩⟩ (fun g e=>by cases e) (fun _ _=>rfl)
theorem Ext.pushOr {o:Oper} {s y:Operand} (ho:o.op=.call { callee:=.builtin .append,args:=#[s,y],argTypes:=#[23,23] }) {ev:Operand→Value} {h:Hp} {K:Option Value→Hp→Prop} {l:List Atom} {tv v:Value} {L M:List OpD}
  (hown:Own h (.row (rowO v L)::l)) (hm:RowOk h (rowO tv M)) (hs:ev s=v) (hy:ev y=tv) (hn:L.length+M.length<1000000) (k:∀a c h',Own h' (.row (rowO (.slice a (L++M).length c) (L++M))::l)→K (some (.slice a (L++M).length c)) h'):Ext Tryz.prog (execOp ev o) h K:=by
 refine Ext.append slOp ho hown rfl rfl hs hy (RowOk.src (r:=rowO tv M) hm (one_ops M)) (by show (L.length+M.length)*48≤_;omega) (by show L.length+M.length≤_;unfold maxLen;omega) fun v' h' ho1=>?_
 have e:(⟨45,6,v',L.length+M.length,L.flatMap encO++M.flatMap encO⟩:Row)=rowO v' (L++M):=by simp [rowO]
 have ho2:Own h' (.row (rowO v' (L++M))::l):=by rw [←e];exact ho1
 obtain⟨a,c,hv⟩:=RowOk.form' (ho2.ok _ List.mem_cons_self)
 dsimp only at hv
 subst hv
 exact k a c h' ho2
theorem listOps_con (a:Option Addr) (k:Nat) (C:List OpD) (hC:C.length≤100000) (h:Hp) (l:List Atom) (ho:Own h l) (hr:RowOk h (rowO (.slice a C.length k) C)) :
  Con Tryz.prog 74 #[.slice a C.length k] h fun r h'=>∃a' k',r=.slice a' C.length k'∧Own h' (.row (rowO (.slice a' C.length k') C)::l):=by
 refine Con.of_W (tb:=tbG) (args:=[.slice a C.length k]) Tryz.func74 rfl Tryz.results74 Tryz.ntmps74 (by simp) (Tryz.call74 _) (tm:=[(0,.v (.slice a C.length k))]) rfl ?_
 refine vc_ok ⟨tbG_ok,_,Tryz.func74,Tryz.results74,Tryz.ntmps74⟩ 400 _ _ _ _ ?_
 conv=>whnf
 refine Ext.pushOr (L:=[]) (M:=C) (tv:=.slice a C.length k) rfl ho.nilO hr rfl rfl (by simp;omega) fun a' k' h' ho'=>?_
 conv=>whnf
 exact⟨a',k',rfl,ho'⟩
theorem listVals_con (a:Option Addr) (k:Nat) (C:List (Int×Int)) (hC:C.length≤100000) (h:Hp) (l:List Atom) (ho:Own h l) (hr:RowOk h (rowV (.slice a C.length k) C)) :
  Con Tryz.prog 72 #[.slice a C.length k] h fun r h'=>∃a' k',r=.slice a' C.length k'∧Own h' (.row (rowV (.slice a' C.length k') C)::l):=by
 refine Con.of_W (tb:=tbG) (args:=[.slice a C.length k]) Tryz.func72 rfl Tryz.results72 Tryz.ntmps72 (by simp) (Tryz.call72 _) (tm:=[(0,.v (.slice a C.length k))]) rfl ?_
 refine vc_ok ⟨tbG_ok,_,Tryz.func72,Tryz.results72,Tryz.ntmps72⟩ 400 _ _ _ _ ?_
 conv=>whnf
 refine Ext.pushVs (L:=[]) (M:=C) (tv:=.slice a C.length k) rfl ho.nilV hr rfl rfl (by simp;omega) fun a' k' h' ho'=>?_
 conv=>whnf
 exact⟨a',k',rfl,ho'⟩
theorem listInts_con (a:Option Addr) (k:Nat) (C:List Int) (hC:C.length≤100000) (h:Hp) (l:List Atom) (ho:Own h l) (hr:RowOk h (rowI (.slice a C.length k) C)) :
  Con Tryz.prog 73 #[.slice a C.length k] h fun r h'=>∃a' k',r=.slice a' C.length k'∧Own h' (.row (rowI (.slice a' C.length k') C)::l):=by
 refine Con.of_W (tb:=tbG) (args:=[.slice a C.length k]) Tryz.func73 rfl Tryz.results73 Tryz.ntmps73 (by simp) (Tryz.call73 _) (tm:=[(0,.v (.slice a C.length k))]) rfl ?_
 refine vc_ok ⟨tbG_ok,_,Tryz.func73,Tryz.results73,Tryz.ntmps73⟩ 400 _ _ _ _ ?_
 conv=>whnf
 refine Ext.pushIs (L:=[]) (M:=C) (tv:=.slice a C.length k) rfl ho.nilI hr rfl rfl (by simp;omega) fun a' k' h' ho'=>?_
 conv=>whnf
 exact⟨a',k',rfl,ho'⟩
theorem copied_con (d:RunD) (p:RunP) (hs:d.Sm) (h:Hp) (l:List Atom) (ho:Own h (runRows (d,p)++l)) :
  Con Tryz.prog 45 #[d.val p] h fun r h'=>∃q,r=d.val q∧Own h' (runRows (d,q)++(runRows (d,p)++l)):=by
 have s0:=hs.s0
 have s1:=hs.s1
 have s2:=hs.s2
 have s3:=hs.s3
 refine Con.of_W (tb:=tbG) (args:=[d.val p]) Tryz.func45 rfl Tryz.results45 Tryz.ntmps45 (by simp) (Tryz.call45 _) (tm:=[(0,.a (d.cells p))]) rfl ?_
 refine vc_ok ⟨tbG_ok,_,Tryz.func45,Tryz.results45,Tryz.ntmps45⟩ 400 _ _ _ _ ?_
 conv=>whnf
 refine(listVals_con p.a0 p.k0 d.slots (by omega) h _ ho (ho.rowOk (by simp [runRows]))).mono ?_
 rintro r h1 ⟨a0,k0,rfl,ho1⟩
 conv=>whnf
 refine(listVals_con p.a1 p.k1 d.mail (by omega) h1 _ ho1 (ho1.rowOk (by simp [runRows]))).mono ?_
 rintro r h2 ⟨a1,k1,rfl,ho2⟩
 conv=>whnf
 refine(listInts_con p.a2 p.k2 d.links (by omega) h2 _ ho2 (ho2.rowOk (by simp [runRows]))).mono ?_
 rintro r h3 ⟨a2,k2,rfl,ho3⟩
 conv=>whnf
 refine(listInts_con p.a3 p.k3 d.wat (by omega) h3 _ ho3 (ho3.rowOk (by simp [runRows]))).mono ?_
 rintro r h4 ⟨a3,k3,rfl,ho4⟩
 conv=>whnf
 refine⟨⟨a0,k0,a1,k1,a2,k2,a3,k3⟩,rfl,ho4.perm (perm_of fun x=>?_)⟩
 simp only [runRows,List.count_append,List.count_cons,List.count_nil]
 omega
end Go.Proofs.YtllbeifcipefjaaGreatDoor
