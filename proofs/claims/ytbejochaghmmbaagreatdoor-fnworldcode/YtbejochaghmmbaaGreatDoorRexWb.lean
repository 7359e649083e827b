import Derived.Test.YtbejochaghmmbaaGreatDoorRexWa
import Derived.Test.YtbejochaghmmbaaGreatDoorQc
namespace Go.Proofs.YtbejochaghmmbaaGreatDoor
open Go.RowKit
set_option maxRecDepth 100000
theorem Rd.eqlB {o:Oper} {x y:Operand} {t2:TypeId} (ho:o.op=.binOp .eql 4 x y t2) {ev:Operand→Value} {h:Hp} {K:Value→Prop} {a b:Bool} (hx:ev x=.bool a) (hy:ev y=.bool b) (k:K (.bool (a==b))):Rd Tryz.prog (execOp ev o) h K:=by
 refine⟨_,fun w _=>?_,k⟩
 have:=eqlB_run a b x y w
 simp only [execOp,ho,hx,hy]
 exact run_value _ w _ w this
theorem Con.keep {P:Program} {f:FuncId} {args:Array Value} {h:Hp} {R:Value→Prop} (c:Con P f args h fun r h'=>R r∧h.le h'):Con P f args h fun r h'=>R r∧h'=h :=
 ⟨c.ent,fun w hw=>(c.run w hw).mono fun _ _ ⟨v,_,he,⟨hr,hl⟩,hi,hf⟩=>⟨v,h,he,⟨hr,rfl⟩,hi.mono hl,⟨hf.os,hf.tape,hf.output,hf.size,fun b hb e=>⟨(hf.priv b hb e).1,e⟩⟩⟩⟩
theorem map_flatI:∀L:List Int,L.map (Value.int .i64)=L.flatMap encI
 | []=>rfl
 | x::L=>by rw [List.map_cons,List.flatMap_cons,map_flatI L];rfl
theorem Own.addI {h:Hp} {w w':World} (hw:InH h w) {l:List Atom} (ho:Own h l) {v:Value} {L:List Int} (hv:Eld.Owns w' w.heap.size v L) (hb:Below w.heap.size w w') :
  ∃a k h',v=.slice a L.length k∧h.le h'∧Own h' (.row (rowI (.slice a L.length k) L)::l)∧InH h' w'∧Fr h w h' w':=by
 obtain⟨h1,⟨hn,h0⟩ | ⟨g,cap,cur,hg,hge,hh,hr⟩⟩:=hv
 ·have:L=[]:=List.eq_nil_of_length_eq_zero h0
  subst this
  subst hn
  refine⟨none,0,h,rfl,Hp.le_refl _,ho.add ⟨rfl,.inl ⟨rfl,rfl⟩⟩ (fun g e=>by cases e) (fun _ _=>rfl),fun b o e=>by rw [hb.block b (hw.lt e)];exact hw b o e,⟨hb.os,hb.tape,hb.output,hb.size,fun b hl e=>⟨hb.block b hl,e⟩⟩⟩
 ·subst hg
  have hnone:h g=none:=by
   cases e:h g with
   | none=>rfl
   | some o=>have:=hw.lt e;omega
  refine⟨some ⟨g,0,none⟩,cap,h.put g (.cells cur 3 (0,0)),rfl,fun b o e=>by rw [Hp.put_ne _ _ (fun e2=>by subst e2;rw [hnone] at e;cases e)];exact e,?_,?_,?_⟩
  ·refine ho.add ⟨?_,.inr ⟨g,cap,cur,rfl,Hp.put_same _ _ _,?_⟩⟩ (fun b e=>by cases e;exact hnone) (fun b e=>Hp.put_ne _ _ fun e2=>e (by subst e2;rfl))
   ·show (L.flatMap encI).length=L.length*1
    exact flat_len encI 1 encI_len _
   ·show L.length≤cap∧cap≤maxLen∧cur.size=cap*1∧cur.toList.take (L.length*1)=L.flatMap encI
    rw [←map_flatI]
    exact hr
  ·intro b o e
   by_cases e2:b=g
   ·subst e2;rw [Hp.put_same] at e;cases e;exact hh
   ·rw [Hp.put_ne _ _ e2] at e;rw [hb.block b (hw.lt e)];exact hw b o e
  ·exact⟨hb.os,hb.tape,hb.output,hb.size,fun b hl e=>⟨hb.block b hl,by rw [Hp.put_ne _ _ (by omega)];exact e⟩⟩
theorem RowOk.le {h h':Hp} {r:Row} (o:RowOk h r) (hl:h.le h'):RowOk h' r:=by
 obtain⟨a,b | ⟨g,cap,cur,e,hg,k⟩⟩:=o
 ·exact⟨a,.inl b⟩
 ·exact⟨a,.inr ⟨g,cap,cur,e,hl _ _ hg,k⟩⟩
theorem RunIn.le {h h':Hp} {d:RunD} {p:RunP} (o:RunIn h d p) (hl:h.le h'):RunIn h' d p:=⟨o.r0.le hl,o.r1.le hl,o.r2.le hl,o.r3.le hl⟩
structure WIn (h:Hp) (D:WD):Prop where
 code:RowOk h (rowO D.cv D.code)
 runs:RowOk h (rowR D.rv D.runs)
 queue:RowOk h (rowI D.qv D.queue)
 each:∀i (hi:i<D.runs.length),RunIn h D.runs[i].1 D.runs[i].2
theorem WIn.le {h h':Hp} {D:WD} (o:WIn h D) (hl:h.le h'):WIn h' D:=⟨o.code.le hl,o.runs.le hl,o.queue.le hl,fun i hi=>(o.each i hi).le hl⟩
theorem Own.win {h:Hp} {L:List Atom} (o:Own h L) {D:WD} (hm:∀x∈wAtoms D,x∈L):WIn h D:=by
 have hr:∀i (hi:i<D.runs.length),∀x∈runRows D.runs[i],x∈L:=fun i hi x hx=>hm x (by
  unfold wAtoms
  simp only [List.mem_cons,List.mem_flatMap]
  exact .inr (.inr (.inr ⟨_,List.getElem_mem hi,hx⟩)))
 exact⟨o.rowOk (hm _ (by simp [wAtoms])),o.rowOk (hm _ (by simp [wAtoms])),o.rowOk (hm _ (by simp [wAtoms])),fun i hi=>o.run (d:=D.runs[i].1) (p:=D.runs[i].2) (hr i hi)⟩
structure RunD.Sm (d:RunD):Prop where
 s0:d.slots.length≤1000
 s1:d.mail.length≤1000
 s2:d.links.length≤1000
 s3:d.wat.length≤1000
theorem RunD.Sm.sh {d:RunD} (h:d.Sm):d.Sh:=⟨by have:=h.s0;omega,by have:=h.s1;omega,by have:=h.s2;omega,by have:=h.s3;omega⟩
structure PW.Sm (w:PW):Prop where
 code:w.code.length≤1000
 runs:w.runs.length≤1000
 queue:w.queue.length≤1000
 each:∀d∈w.runs,d.Sm
theorem DrawnW.sm {d:PW} (h:DrawnW d):d.Sm:=by
 obtain⟨h1,h2,h3,h4,h5,h6⟩:=h.facts
 refine⟨by omega,by omega,by omega,fun x hx=>?_⟩
 obtain⟨k1,k2,k3,k4⟩:=h3 x hx
 exact⟨by omega,by omega,by omega,by omega⟩
theorem pure_gets (D:WD) {i:Nat} (hi:i<D.runs.length):D.pure.runs[i]'(by rw [pure_len];exact hi)=D.runs[i].1:=pure_get D i hi _
theorem fullS_con (a:Option Addr) (k:Nat) (L:List OpD) (hC:Eld.codeB (L.map OpD.toV)=true) (h:Hp) (l:List Atom) (ho:Own h l) (hr:RowOk h (rowO (.slice a L.length k) L)) :
  Con Tryz.prog 59 #[.slice a L.length k] h fun r h'=>∃V a' k',r=.slice a' V.length k'∧Eld.IsFull (L.map OpD.toV) V∧h.le h'∧Own h' (.row (rowI (.slice a' V.length k') V)::l):=by
 refine⟨Tryz.call59 _,fun w hw=>?_⟩
 have:=Eld.l3Full_any (L.map OpD.toV) a k w hC (code_at hr hw)
 rw [List.length_map] at this
 refine this.mono fun e w' ⟨V,he,hF,hB,hb⟩=>?_
 have hVl:V.length=L.length:=by rw [hF.1.1.1,List.length_map]
 have hO:Eld.Owns w' w.heap.size (.slice (some ⟨w.heap.size,0,none⟩) V.length V.length) V:=hB
 obtain⟨a',k',h',hv,hle,hown,hi,hf⟩:=Own.addI hw ho hO hb
 refine⟨_,h',he,⟨V,a',k',?_,hF,hle,hown⟩,hi,hf⟩
 rw [←hv,hVl]
theorem both_con (a b:Int) (ha:Eld.Bd a) (hb0:0≤b) (hb:b≤15) (h:Hp):Con Tryz.prog 88 #[.int .i64 a,.int .i64 b] h fun r h'=>r=.int .i64 (Eld.meet a b)∧h'=h:=by
 refine Con.of_below (Tryz.call88 _) fun w _=>?_
 exact(Eld.l3Both_any a b w ha hb0 hb).mono fun e w' ⟨he,hb⟩=>⟨⟨_,he,rfl⟩,hb⟩
theorem ids_con (own:Int) (a:Option Addr) (k:Nat) (L:List Int) (hL:L.length≤1000000) (h:Hp) (hr:RowOk h (rowI (.slice a L.length k) L)) :
  Con Tryz.prog 58 #[.slice a L.length k,.int .i64 own] h fun r h'=>r=.bool (Eld.idsB own L)∧h'=h:=by
 refine Con.of_below (Tryz.call58 _) fun w hw=>?_
 exact(Eld.l11Ids_any w.heap.size own L a k w (Nat.le_refl _) (by omega) (row_cap hr) (ints_at hr hw)).mono fun e w' ⟨he,hb⟩=>⟨⟨_,he,rfl⟩,hb⟩
theorem stepAt_get {C:List OpD} {d:RunD} {k:Nat} (hk:d.pl=k) (hlt:k<C.length):stepAt C d=C[k]:=by
 unfold stepAt
 rw [hk,List.getD_eq_getElem?_getD,show ((k:Int)).toNat=k by simp,List.getElem?_eq_getElem hlt]
 rfl
theorem l12Waiting_con (D:WD) (d:RunD) (p:RunP) (hsm:d.Sm) (hpl:∃k:Nat,d.pl=k∧k<D.code.length) (h:Hp) (hw:WIn h D) (hin:RunIn h d p) :
  Con Tryz.prog 87 #[D.val,d.val p] h fun r h'=>r=.bool (sleepP D.pure d)∧h'=h:=by
 obtain⟨k,hk,hlt⟩:=hpl
 have hcr:RowOk h (rowO D.cv D.code):=hw.code
 obtain⟨gc,hca⟩:=row_some hcr (by omega)
 have hcv:D.cv=.slice (some ⟨gc,0,none⟩) D.code.length D.ck:=by rw [WD.cv,hca]
 have hs:stepAt D.pure.code d=D.code[k]:=stepAt_get hk hlt
 have hml:=hsm.s1
 refine Con.of_W (tb:=tbE) (args:=[D.val,d.val p]) Tryz.func87 rfl Tryz.results87 Tryz.ntmps87 (by simp) (Tryz.call87 _) (tm:=[(0,.a D.cells),(1,.a (d.cells p))]) rfl ?_
 refine vc_ok ⟨tbE_ok,_,Tryz.func87,Tryz.results87,Tryz.ntmps87⟩ 400 _ _ _ _ ?_
 conv=>whnf
 refine Ext.index slOp.u slOp.size rfl (by exact hcv) rfl k hk hlt ?_
 conv=>whnf
 refine Ext.loadOp rfl hcr hcv hlt rfl ?_
 conv=>whnf
 have hE:sleepP D.pure d=if (D.code[k].k==7)=true then (d.due==0&&decide (firstP d.mail D.code[k].s<0)) else (D.code[k].k==8&&(decide (D.now<d.due)&&decide (firstP d.mail D.code[k].s<0))):=by
  unfold sleepP
  rw [hs]
  simp only [beq_iff_eq]
  rfl
 rw [hE]
 refine⟨fun h3=>?_,fun h3=>?_⟩<;>conv=>whnf
 ·rw [if_pos h3]
  refine⟨fun h4=>?_,fun h4=>?_⟩<;>conv=>whnf
  ·refine(l11First_con d p D.code[k].s (by omega) h hin.r1).mono ?_
   rintro r h5 ⟨rfl,rfl⟩
   conv=>whnf
   exact⟨by rw [h4,Bool.true_and];rfl,rfl⟩
  ·exact⟨by rw [show (d.due==0)=false from h4];rfl,rfl⟩
 ·rw [if_neg (by rw [h3];decide)]
  refine⟨fun h4=>?_,fun h4=>?_⟩<;>conv=>whnf
  ·refine⟨fun h5=>?_,fun h5=>?_⟩<;>conv=>whnf
   ·refine(l11First_con d p D.code[k].s (by omega) h hin.r1).mono ?_
    rintro r h6 ⟨rfl,rfl⟩
    conv=>whnf
    exact⟨by rw [h4,h5,Bool.true_and,Bool.true_and];rfl,rfl⟩
   ·exact⟨by rw [show (decide (D.now<d.due))=false from h5,Bool.false_and,Bool.and_false];rfl,rfl⟩
  ·exact⟨by rw [show (D.code[k].k==8)=false from h4,Bool.false_and];rfl,rfl⟩
theorem l12Linked_con (D:WD) (a b:Nat) (ha:a<D.runs.length) (hb:b<D.runs.length) (hsm:D.pure.Sm) (h:Hp) (hw:WIn h D) :
  Con Tryz.prog 61 #[D.val,.int .i64 (a:Nat),.int .i64 (b:Nat)] h fun r h'=>r=.bool (amongP D.runs[a].1.links ((b:Int)+1)==amongP D.runs[b].1.links ((a:Int)+1))∧h'=h:=by
 have hr:RowOk h (rowR D.rv D.runs):=hw.runs
 obtain⟨g,hra⟩:=row_some hr (by omega)
 have hv:D.rv=.slice (some ⟨g,0,none⟩) D.runs.length D.rk:=by rw [WD.rv,hra]
 have hn:D.runs.length≤1000:=by have:=hsm.runs;rw [pure_len] at this;exact this
 have w1:IntKind.i64.wrap ((b:Int)+1)=(b:Int)+1:=wrapN _ (by omega) (by omega)
 have w2:IntKind.i64.wrap ((a:Int)+1)=(a:Int)+1:=wrapN _ (by omega) (by omega)
 refine Con.of_W (tb:=tbE) (args:=[D.val,.int .i64 (a:Nat),.int .i64 (b:Nat)]) Tryz.func61 rfl Tryz.results61 Tryz.ntmps61 (by simp) (Tryz.call61 _) (tm:=[(0,.a D.cells),(1,.v (.int .i64 (a:Nat))),(2,.v (.int .i64 (b:Nat)))]) rfl ?_
 refine vc_ok ⟨tbE_ok,_,Tryz.func61,Tryz.results61,Tryz.ntmps61⟩ 400 _ _ _ _ ?_
 conv=>whnf
 refine W.draw [(0,true),(1,true),(2,true),(3,true),(4,true),(5,true),(6,true),(7,true),(9,true),(10,true),(11,true),(12,true),(13,true),(14,true),(15,true),(16,true),(8,false),(17,false),(18,true),(19,true)] [0] (some h) 99 (by kernel_rfl) rfl (by kernel_rfl) mixed rfl (fun g e=>by cases e;exact Hp.le_refl _) ?_
 refine vc_ok ⟨tbE_ok,_,Tryz.func61,Tryz.results61,Tryz.ntmps61⟩ 400 _ _ _ _ ?_
 conv=>whnf
 refine Rd.index slRun.u slRun.size rfl (by exact hv) rfl a rfl ha ?_
 conv=>whnf
 refine Rd.loadRunCell (D:=D) rfl ⟨rfl,rfl⟩ rfl hr hv ha 7 (by decide) rfl (.slice D.runs[a].2.a2 D.runs[a].1.links.length D.runs[a].2.k2) rfl ?_
 conv=>whnf
 refine Rd.index slRun.u slRun.size rfl (by exact hv) rfl b rfl hb ?_
 conv=>whnf
 refine Rd.loadRunCell (D:=D) rfl ⟨rfl,rfl⟩ rfl hr hv hb 7 (by decide) rfl (.slice D.runs[b].2.a2 D.runs[b].1.links.length D.runs[b].2.k2) rfl ?_
 conv=>whnf
 rw [w1,w2]
 have la:D.runs[a].1.links.length<100000:=by have:=(hsm.each _ (pure_mem ha)).s2;omega
 have lb:D.runs[b].1.links.length<100000:=by have:=(hsm.each _ (pure_mem hb)).s2;omega
 refine(l11Among_con _ _ _ _ la h (hw.each a ha).r2).mono ?_
 rintro r h1 ⟨rfl,rfl⟩
 conv=>whnf
 refine⟨Hp.le_refl _,?_⟩
 conv=>whnf
 refine(l11Among_con _ _ _ _ lb h1 (hw.each b hb).r2).mono ?_
 rintro r h2 ⟨rfl,rfl⟩
 conv=>whnf
 refine⟨Hp.le_refl _,?_⟩
 conv=>whnf
 refine Rd.eqlB rfl rfl rfl ?_
 conv=>whnf
 exact⟨rfl,rfl⟩
end Go.Proofs.YtbejochaghmmbaaGreatDoor
