import Derived.Test.YtbejochaghmmbaaGreatDoorKSm
namespace Go.Proofs.YtbejochaghmmbaaGreatDoor
open Go.RowKit
set_option maxRecDepth 100000
theorem Own.addRow {h:Hp} {w':World} (hi:InH h w') {l:List Atom} (ho:Own h l) {B:Nat} {e:TypeId} {sz n:Nat} {v:Value} {xs:List Value} (hv:w'.ownsRow B e sz v n xs) (hn:∀g,v.ownBlock=some g→h g=none) :
  ∃h',h.le h'∧Own h' (.row ⟨e,sz,v,n,xs⟩::l)∧InH h' w'∧∀b,h' b=none∨h' b=h b∨v.ownBlock=some b:=by
 obtain⟨h1,⟨hn0,h0⟩ | ⟨g,cap,cur,hg,hge,hh,hr⟩⟩:=hv
 ·subst hn0
  exact⟨h,Hp.le_refl _,ho.add ⟨h1,.inl ⟨rfl,h0⟩⟩ (fun g e=>by cases e) (fun _ _=>rfl),hi,fun b=>.inr (.inl rfl)⟩
 ·subst hg
  have hnone:h g=none:=hn g rfl
  refine⟨h.put g (.cells cur e (0,0)),fun b o eq=>by rw [Hp.put_ne _ _ (fun e2=>by subst e2;rw [hnone] at eq;cases eq)];exact eq,?_,?_,fun b=>?_⟩
  ·exact ho.add ⟨h1,.inr ⟨g,cap,cur,rfl,Hp.put_same _ _ _,hr⟩⟩ (fun b e=>by cases e;exact hnone) (fun b e=>Hp.put_ne _ _ fun e2=>e (by subst e2;rfl))
  ·intro b o eq
   by_cases e2:b=g
   ·subst e2;rw [Hp.put_same] at eq;cases eq;exact hh
   ·rw [Hp.put_ne _ _ e2] at eq;exact hi b o eq
  ·by_cases e2:b=g
   ·subst e2;exact .inr (.inr rfl)
   ·exact .inr (.inl (Hp.put_ne _ _ e2))
theorem cellsV_flat:∀L:List (Int×Int),Eld.cellsV L=L.flatMap encV
 | []=>rfl
 | x::L=>by rw [List.flatMap_cons,←cellsV_flat L];rfl
theorem cellsI_flat:∀L:List Int,L.map (Value.int .i64)=L.flatMap encI
 | []=>rfl
 | x::L=>by rw [List.flatMap_cons,List.map_cons,cellsI_flat L];rfl
theorem Own.addRun {h:Hp} {w w':World} (hw:InH h w) {l:List Atom} (ho:Own h l) {d:Eld.RunD} {p:Eld.RunP} (hr:Eld.OwnRun w' w.heap.size d p) (hb:Below w.heap.size w w') :
  ∃h',h.le h'∧Own h' (runRows (RunD.ofE d,RunP.ofE p)++l)∧InH h' w'∧Fr h w h' w':=by
 have hi:InH h w':=fun b o e=>by rw [hb.block b (hw.lt e)];exact hw b o e
 have far:∀{e:TypeId} {sz:Nat} {v:Value} {n:Nat} {xs:List Value},w'.ownsRow w.heap.size e sz v n xs→∀g,v.ownBlock=some g→w.heap.size≤g∧h g=none:=fun hv g e=>by
  have h1:=(World.ownsRow.lt hv g e).1
  refine⟨h1,?_⟩
  cases eh:h g with
  | none=>rfl
  | some o=>have:=hw.lt eh;omega
 have o3:w'.ownsRow w.heap.size 3 1 (d.v3 p) d.wat.length (d.wat.flatMap encI):=by rw [←cellsI_flat];exact hr.o3
 have o2:w'.ownsRow w.heap.size 3 1 (d.v2 p) d.links.length (d.links.flatMap encI):=by rw [←cellsI_flat];exact hr.o2
 have o1:w'.ownsRow w.heap.size 37 2 (d.v1 p) d.mail.length (d.mail.flatMap encV):=by rw [←cellsV_flat];exact hr.o1
 have o0:w'.ownsRow w.heap.size 37 2 (d.v0 p) d.slots.length (d.slots.flatMap encV):=by rw [←cellsV_flat];exact hr.o0
 obtain⟨ha,la,oa,ia,fa⟩:=Own.addRow hi ho o3 (fun g e=>(far o3 g e).2)
 have na:∀g,h g=none→(d.v3 p).ownBlock≠some g→ha g=none:=fun g e1 e2=>by
  rcases fa g with h1 | h1 | h1
  ·exact h1
  ·rw [h1,e1]
  ·exact absurd h1 e2
 obtain⟨hb',lb,ob,ib,fb⟩:=Own.addRow ia oa o2 (fun g e=>na g (far o2 g e).2 (hr.x23 g e))
 have nb:∀g,ha g=none→(d.v2 p).ownBlock≠some g→hb' g=none:=fun g e1 e2=>by
  rcases fb g with h1 | h1 | h1
  ·exact h1
  ·rw [h1,e1]
  ·exact absurd h1 e2
 obtain⟨hc,lc,oc,ic,fc⟩:=Own.addRow ib ob o1 (fun g e=>nb g (na g (far o1 g e).2 (hr.x13 g e)) (hr.x12 g e))
 have nc:∀g,hb' g=none→(d.v1 p).ownBlock≠some g→hc g=none:=fun g e1 e2=>by
  rcases fc g with h1 | h1 | h1
  ·exact h1
  ·rw [h1,e1]
  ·exact absurd h1 e2
 obtain⟨hd,ld,od,id_,fd⟩:=Own.addRow ic oc o0 (fun g e=>nc g (nb g (na g (far o0 g e).2 (hr.x03 g e)) (hr.x02 g e)) (hr.x01 g e))
 have nd:∀g,hc g=none→(d.v0 p).ownBlock≠some g→hd g=none:=fun g e1 e2=>by
  rcases fd g with h1 | h1 | h1
  ·exact h1
  ·rw [h1,e1]
  ·exact absurd h1 e2
 refine⟨hd,Hp.le_trans la (Hp.le_trans lb (Hp.le_trans lc ld)),od,id_,hb.os,hb.tape,hb.output,hb.size,fun b hlt e=>⟨hb.block b hlt,?_⟩⟩
 exact nd b (nc b (nb b (na b e (fun e2=>by have:=(far o3 b e2).1;omega)) (fun e2=>by have:=(far o2 b e2).1;omega)) (fun e2=>by have:=(far o1 b e2).1;omega)) (fun e2=>by have:=(far o0 b e2).1;omega)
theorem iRunNew_con (h:Hp) (l:List Atom) (ho:Own h l) :
  Con Tryz.prog 44 #[.int .i64 1,.int .i64 0,.agg #[.int .i64 3,.int .i64 1]] h fun r h'=>∃p,r=.tuple #[(newD 1 0 (3,1)).val p,.bool true]∧h.le h'∧Own h' (runRows (newD 1 0 (3,1),p)++l):=by
 refine⟨Tryz.call44 _,fun w hw=>(Eld.implNew_any 1 0 3 1 w).mono fun e w' ⟨p,he,hO,hb⟩=>?_⟩
 obtain⟨h',hle,ho',hi,hf⟩:=Own.addRun hw ho hO hb
 exact⟨_,h',he,⟨RunP.ofE p,rfl,hle,ho'⟩,hi,hf⟩
theorem fresh_wok {C:List OpD} (hs:Eld.SafeOf (C.map OpD.toV) true):WOk (freshP C):=by
 have hcb:=safeOf_ok hs
 obtain⟨V,hV⟩:∃V,Eld.IsFull (C.map OpD.toV) V:=by
  rcases hs with ⟨_,V,hV,_⟩ | ⟨_,e⟩
  ·exact⟨V,hV⟩
  ·cases e
 have hlen:0<C.length:=by have:=(Eld.codeB_well hcb).1.1;simpa using this
 have hle:Eld.Le (Eld.atV V 0) 1:=hV.1.2.1
 have hbd:Eld.Bd (Eld.atV V 0):=hV.1.1.2 0
 have hm:Eld.meet (Eld.atV V 0) 1=Eld.atV V 0:=by
  rcases hle with h | h
  ·exact absurd h (by decide)
  ·exact h
 have hnn:0≤Eld.atV V 0:=by
  have key:∀i:_root_.Fin 17,Eld.meet ((i.val:Int)-1) 1=(i.val:Int)-1→0≤(i.val:Int)-1:=by decide +kernel
  obtain⟨i,hi⟩:=Eld.bd_fin hbd
  rw [hi] at hm ⊢
  exact key i hm
 refine⟨hs,V,hV,⟨Nat.le_refl _,by show 1≤6;decide,⟨⟨Int.le_refl _,by show (0:Int)≤300;decide⟩,⟨Int.le_refl _,by show (0:Int)≤9999;decide⟩,⟨Int.le_refl _,by show (0:Int)≤9999;decide⟩,⟨Int.le_refl _,by show (0:Int)≤9999;decide⟩⟩,by show Eld.idsB 0 [1]=true;decide,fun i hi=>?_,fun x hx=>?_,fun a b ha hb=>?_,rfl⟩⟩
 ·have h0:i=0:=by(have:i<1:=hi);omega
  subst h0
  refine⟨by show Eld.specRB (newD 1 0 (3,1)).toE=true;decide,rfl,by show (0:Int)<C.length;omega,by show amongP [1] 1=((1:Int)==1);decide,fun e=>absurd e (by show ¬(1:Int)=2;decide),fun _ x hx=>(by cases hx),fun _=>hnn,fun _=>hm⟩
 ·rw [show x=1 from List.mem_singleton.1 hx];exact Int.le_refl _
 ·have:a<1:=ha
  omega
theorem Ext.pushOn {o:Oper} {s y:Operand} (ho:o.op=.call { callee:=.builtin .append,args:=#[s,y],argTypes:=#[23,23] }) {ev:Operand→Value} {h:Hp} {K:Option Value→Hp→Prop} {l:List Atom} {tv v:Value} {L M:List OpD}
  (hown:Own h (.row (rowO v L)::l)) (hm:RowOk h (rowO tv M)) (hs:ev s=v) (hy:ev y=tv) (hn:L.length+M.length<1000000) (k:∀a c h',Own h' (.row (rowO (.slice a (L++M).length c) (L++M))::l)→K (some (.slice a (L++M).length c)) h'):Ext Tryz.prog (execOp ev o) h K:=by
 refine Ext.append slOp ho hown rfl rfl hs hy (RowOk.src (r:=rowO tv M) hm (one_ops M)) (by show (L.length+M.length)*48≤_;omega) (by show L.length+M.length≤_;unfold maxLen;omega) fun v' h' ho1=>?_
 have e:(⟨45,6,v',L.length+M.length,L.flatMap encO++M.flatMap encO⟩:Row)=rowO v' (L++M):=by simp [rowO]
 have ho2:Own h' (.row (rowO v' (L++M))::l):=by rw [←e];exact ho1
 obtain⟨a,c,hv⟩:=RowOk.form' (ho2.ok _ List.mem_cons_self)
 dsimp only at hv
 subst hv
 exact k a c h' ho2
theorem listOpsW_con (a:Option Addr) (k:Nat) (C:List OpD) (hC:C.length≤100000) (h:Hp) (l:List Atom) (ho:Own h l) (hr:RowOk h (rowO (.slice a C.length k) C)) :
  Con Tryz.prog 45 #[.slice a C.length k] h fun r h'=>∃a' k',r=.slice a' C.length k'∧Own h' (.row (rowO (.slice a' C.length k') C)::l):=by
 refine Con.of_W (tb:=tbE) (args:=[.slice a C.length k]) Tryz.func45 rfl Tryz.results45 Tryz.ntmps45 (by simp) (Tryz.call45 _) (tm:=[(0,.v (.slice a C.length k))]) rfl ?_
 refine vc_ok ⟨tbE_ok,_,Tryz.func45,Tryz.results45,Tryz.ntmps45⟩ 400 _ _ _ _ ?_
 conv=>whnf
 have hn:Own h (.row (rowO (.slice none 0 0) [])::l):=ho.add ⟨rfl,.inl ⟨rfl,rfl⟩⟩ (fun g e=>by cases e) (fun _ _=>rfl)
 refine Ext.pushOn (L:=[]) (M:=C) (tv:=.slice a C.length k) rfl hn hr rfl rfl (by simp;omega) fun a' k' h' ho'=>?_
 conv=>whnf
 exact⟨a',k',rfl,ho'⟩
theorem iWorldNew_con (C:List OpD) (a:Option Addr) (k:Nat) (hC:C.length≤1000) (h:Hp) (l:List Atom) (ho:Own h (.row (rowO (.slice a C.length k) C)::l)) :
  Con Tryz.prog 14 #[.slice a C.length k] h fun r h'=>∃b,Eld.SafeOf (C.map OpD.toV) b∧((b=false∧r=.tuple #[.agg zeroW.toArray,.bool false]∧Own h' (.row (rowO (.slice a C.length k) C)::l)) ∨
   (b=true∧∃D,r=.tuple #[D.val,.bool true]∧D.pure=freshP C∧Own h' (wAtoms D++.row (rowO (.slice a C.length k) C)::l))):=by
 refine Con.of_W (tb:=tbE) (args:=[.slice a C.length k]) Tryz.func14 rfl Tryz.results14 Tryz.ntmps14 (by simp) (Tryz.call14 _) (tm:=[(0,.v (.slice a C.length k))]) rfl ?_
 refine vc_ok ⟨tbE_ok,_,Tryz.func14,Tryz.results14,Tryz.ntmps14⟩ 400 _ _ _ _ ?_
 conv=>whnf
 refine(iRunNew_con h _ ho).mono ?_
 rintro r h1 ⟨p,rfl,hl1,ho1⟩
 conv=>whnf
 refine⟨fun _=>?_,fun h3=>absurd h3 (by simp)⟩
 conv=>whnf
 refine(iCodeSafe_con a k C (by omega) h1 (ho1.rowOk (by simp))).mono ?_
 rintro r h2 ⟨⟨b,rfl,hsafe⟩,rfl⟩
 conv=>whnf
 refine⟨fun b0=>?_,fun b0=>?_⟩<;>conv=>whnf
 ·have hb:b=false:=by simpa using b0
  subst hb
  exact⟨false,hsafe,.inl ⟨rfl,rfl,Own.right (A:=runRows (newD 1 0 (3,1),p)) ho1⟩⟩
 have hb:b=true:=by simpa using b0
 subst hb
 refine W.draw [(0,true),(2,true),(4,true),(5,true),(1001003006,false),(1003006,false),(6,false),(7,true),(8,false),(9,true)] [1] none 99 (by kernel_rfl) rfl (by kernel_rfl) mixed rfl (fun g e=>by cases e) ?_
 refine vc_ok ⟨tbE_ok,_,Tryz.func14,Tryz.results14,Tryz.ntmps14⟩ 400 _ _ _ _ ?_
 conv=>whnf
 refine⟨?_,?_,?_⟩
 ·skip
  refine(listOpsW_con a k C (by omega) _ _ ho1 (ho1.rowOk (by simp))).mono ?_
  rintro r h3 ⟨ca,ck,rfl,ho3⟩
  conv=>whnf
  refine⟨?_,?_⟩
  ·skip
   refine Ext.litR rfl ho3 (newD 1 0 (3,1),p) rfl fun gr h4 _ ho4=>?_
   conv=>whnf
   refine Ext.litI rfl ho4 1 rfl fun gq h5 _ ho5=>?_
   conv=>whnf
   refine⟨true,hsafe,.inr ⟨rfl,⟨C,[(newD 1 0 (3,1),p)],[1],0,0,0,0,ca,ck,some ⟨gr,0,none⟩,1,some ⟨gq,0,none⟩,1⟩,rfl,rfl,ho5.perm (perm_of fun x=>?_)⟩⟩
   simp only [wAtoms,WD.cv,WD.rv,WD.qv,rowR,rowI,List.flatMap_cons,List.flatMap_nil,List.append_nil,List.length_cons,List.length_nil,Nat.zero_add,List.count_append,List.count_cons]
   omega
  ·skip
   refine Ext.litI rfl ho3 1 rfl fun gq h4 _ ho4=>?_
   conv=>whnf
   refine Ext.litR rfl ho4 (newD 1 0 (3,1),p) rfl fun gr h5 _ ho5=>?_
   conv=>whnf
   refine⟨true,hsafe,.inr ⟨rfl,⟨C,[(newD 1 0 (3,1),p)],[1],0,0,0,0,ca,ck,some ⟨gr,0,none⟩,1,some ⟨gq,0,none⟩,1⟩,rfl,rfl,ho5.perm (perm_of fun x=>?_)⟩⟩
   simp only [wAtoms,WD.cv,WD.rv,WD.qv,rowR,rowI,List.flatMap_cons,List.flatMap_nil,List.append_nil,List.length_cons,List.length_nil,Nat.zero_add,List.count_append,List.count_cons]
   omega
 ·skip
  refine Ext.litR rfl ho1 (newD 1 0 (3,1),p) rfl fun gr h3 _ ho3=>?_
  conv=>whnf
  refine⟨?_,?_⟩
  ·skip
   refine(listOpsW_con a k C (by omega) _ _ ho3 (ho3.rowOk (by simp))).mono ?_
   rintro r h4 ⟨ca,ck,rfl,ho4⟩
   conv=>whnf
   refine Ext.litI rfl ho4 1 rfl fun gq h5 _ ho5=>?_
   conv=>whnf
   refine⟨true,hsafe,.inr ⟨rfl,⟨C,[(newD 1 0 (3,1),p)],[1],0,0,0,0,ca,ck,some ⟨gr,0,none⟩,1,some ⟨gq,0,none⟩,1⟩,rfl,rfl,ho5.perm (perm_of fun x=>?_)⟩⟩
   simp only [wAtoms,WD.cv,WD.rv,WD.qv,rowR,rowI,List.flatMap_cons,List.flatMap_nil,List.append_nil,List.length_cons,List.length_nil,Nat.zero_add,List.count_append,List.count_cons]
   omega
  ·skip
   refine Ext.litI rfl ho3 1 rfl fun gq h4 _ ho4=>?_
   conv=>whnf
   refine(listOpsW_con a k C (by omega) _ _ ho4 (ho4.rowOk (by simp))).mono ?_
   rintro r h5 ⟨ca,ck,rfl,ho5⟩
   conv=>whnf
   refine⟨true,hsafe,.inr ⟨rfl,⟨C,[(newD 1 0 (3,1),p)],[1],0,0,0,0,ca,ck,some ⟨gr,0,none⟩,1,some ⟨gq,0,none⟩,1⟩,rfl,rfl,ho5.perm (perm_of fun x=>?_)⟩⟩
   simp only [wAtoms,WD.cv,WD.rv,WD.qv,rowR,rowI,List.flatMap_cons,List.flatMap_nil,List.append_nil,List.length_cons,List.length_nil,Nat.zero_add,List.count_append,List.count_cons]
   omega
 ·skip
  refine Ext.litI rfl ho1 1 rfl fun gq h3 _ ho3=>?_
  conv=>whnf
  refine⟨?_,?_⟩
  ·skip
   refine(listOpsW_con a k C (by omega) _ _ ho3 (ho3.rowOk (by simp))).mono ?_
   rintro r h4 ⟨ca,ck,rfl,ho4⟩
   conv=>whnf
   refine Ext.litR rfl ho4 (newD 1 0 (3,1),p) rfl fun gr h5 _ ho5=>?_
   conv=>whnf
   refine⟨true,hsafe,.inr ⟨rfl,⟨C,[(newD 1 0 (3,1),p)],[1],0,0,0,0,ca,ck,some ⟨gr,0,none⟩,1,some ⟨gq,0,none⟩,1⟩,rfl,rfl,ho5.perm (perm_of fun x=>?_)⟩⟩
   simp only [wAtoms,WD.cv,WD.rv,WD.qv,rowR,rowI,List.flatMap_cons,List.flatMap_nil,List.append_nil,List.length_cons,List.length_nil,Nat.zero_add,List.count_append,List.count_cons]
   omega
  ·skip
   refine Ext.litR rfl ho3 (newD 1 0 (3,1),p) rfl fun gr h4 _ ho4=>?_
   conv=>whnf
   refine(listOpsW_con a k C (by omega) _ _ ho4 (ho4.rowOk (by simp))).mono ?_
   rintro r h5 ⟨ca,ck,rfl,ho5⟩
   conv=>whnf
   refine⟨true,hsafe,.inr ⟨rfl,⟨C,[(newD 1 0 (3,1),p)],[1],0,0,0,0,ca,ck,some ⟨gr,0,none⟩,1,some ⟨gq,0,none⟩,1⟩,rfl,rfl,ho5.perm (perm_of fun x=>?_)⟩⟩
   simp only [wAtoms,WD.cv,WD.rv,WD.qv,rowR,rowI,List.flatMap_cons,List.flatMap_nil,List.append_nil,List.length_cons,List.length_nil,Nat.zero_add,List.count_append,List.count_cons]
   omega
end Go.Proofs.YtbejochaghmmbaaGreatDoor
