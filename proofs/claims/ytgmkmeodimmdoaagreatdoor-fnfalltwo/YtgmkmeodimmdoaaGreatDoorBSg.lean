import Derived.Test.YtgmkmeodimmdoaaGreatDoorBSf
namespace Go.Proofs.YtgmkmeodimmdoaaGreatDoor
open Go.RowKit
set_option maxRecDepth 100000
theorem otherP_len (w:PW) (i:Nat) (id:Int) (d:RunD) (o:OpD) (to sv:Int×Int):(otherP w i id d o to sv).code=w.code∧(otherP w i id d o to sv).runs.length=w.runs.length:=by
 unfold otherP otherQ
 split
 ·exact⟨(giveP_len _ _ _).2,by rw [(giveP_len _ _ _).1];simp⟩
 ·split
  ·exact⟨(giveP_len _ _ _).2,by rw [(giveP_len _ _ _).1];simp⟩
  ·split
   ·exact⟨rfl,by simp⟩
   ·split
    ·exact⟨rfl,by simp⟩
    ·split
     ·exact⟨rfl,by simp⟩
     ·exact⟨rfl,by simp⟩
theorem takeP_len (w:PW) (i:Nat) (id:Int) (d:RunD) (o:OpD) (k:Nat):(takeP w i id d o k).code=w.code∧(takeP w i id d o k).runs.length=w.runs.length:=by
 unfold takeP
 split
 ·exact⟨rfl,by simp⟩
 ·split
  ·exact⟨rfl,by simp [waitP]⟩
  ·split
   ·exact⟨rfl,by simp⟩
   ·exact⟨rfl,by simp [waitP]⟩
theorem beginP_len (w:PW) (i:Nat) (id:Int) (d:RunD) (o:OpD) (k:Nat):(beginP w i id d o k).code=w.code∧w.runs.length≤(beginP w i id d o k).runs.length:=by
 unfold beginP
 split
 ·exact⟨rfl,by simp⟩
 ·exact⟨rfl,by simp⟩
theorem stepR_len {w w':PW} {B:Nat} {R:Nat→Prop} (hw:w.Inv B R) (i:Nat) (hi:i<w.runs.length) {d:RunD} {o:OpD} (h:stepR w i ((i:Int)+1) d o w'):w'.code=w.code∧w.runs.length≤w'.runs.length:=by
 have hL:∀x∈[(i:Int)+1],1≤x∧x≤(w.runs.length:Int):=fun x hx=>by rw [List.mem_singleton.1 hx];omega
 have hE:∀v:Int×Int,EndR v w [(i:Int)+1] w'→w'.code=w.code∧w.runs.length≤w'.runs.length:=fun v h=>by
  obtain⟨_,h1,h2⟩:=EndR.len h hw.wk hL;exact⟨h1,by omega⟩
 unfold stepR at h;by_cases e:o.k=1
 ·rw [if_pos e] at h;rw [h];exact⟨rfl,by simp⟩
 rw [if_neg e] at h;clear e
 by_cases e:o.k=2
 ·rw [if_pos e] at h;rw [h];exact⟨rfl,by simp⟩
 rw [if_neg e] at h;clear e
 by_cases e:o.k=3
 ·rw [if_pos e] at h
  cases hv:addP (d.slots.getD o.r.toNat (0,0)) (d.slots.getD o.s.toNat (0,0)) with
  |some v=>rw [hv] at h;rw [h];exact⟨rfl,by simp⟩
  |none=>rw [hv] at h;exact hE _ h
 rw [if_neg e] at h;clear e
 by_cases e:o.k=4
 ·rw [if_pos e] at h;rw [h];exact⟨rfl,by simp⟩
 rw [if_neg e] at h;clear e
 by_cases e:o.k=5
 ·rw [if_pos e] at h;rw [h];exact beginP_len _ _ _ _ _ _
 rw [if_neg e] at h;clear e
 by_cases e:o.k=7∨o.k=8
 ·rw [if_pos e] at h;rw [h];have:=takeP_len w i ((i:Int)+1) d o o.r.toNat;exact⟨this.1,by omega⟩
 rw [if_neg e] at h;clear e
 by_cases e:o.k=9
 ·rw [if_pos e] at h;rw [h];exact⟨rfl,by simp⟩
 rw [if_neg e] at h;clear e
 by_cases e:o.k=10
 ·rw [if_pos e] at h;rw [h];exact⟨rfl,by simp⟩
 rw [if_neg e] at h;clear e
 by_cases e:o.k=13
 ·rw [if_pos e] at h;rw [h];exact⟨rfl,by simp⟩
 rw [if_neg e] at h;clear e
 by_cases e:o.k=14
 ·rw [if_pos e] at h;exact hE _ h
 rw [if_neg e] at h;rcases h with⟨_,h⟩|⟨_,h⟩
 ·exact hE _ h
 ·rw [h];have:=otherP_len w i ((i:Int)+1) d o (d.slots.getD o.r.toNat (0,0)) (d.slots.getD o.s.toNat (0,0));exact⟨this.1,by omega⟩
def StepsR (i:Nat) (id:Int):Nat→PW→PW→Prop
 |0,w,w'=>w'=w
 |n+1,w,w'=>∃d,w.runs[i]?=some d∧((d.st≠1∧w'=w)∨(d.st=1∧∃p o w1,d.pl=((p:Nat):Int)∧w.code[p]?=some o∧stepR w i id d o w1∧StepsR i id n w1 w'))
theorem StepsR.zero {i:Nat} {id:Int} (w:PW):StepsR i id 0 w w:=rfl
theorem StepsR.stop {i:Nat} {id:Int} (n:Nat) (w:PW) (d:RunD) (h1:w.runs[i]?=some d) (h2:d.st≠1):StepsR i id (n+1) w w:=⟨d,h1,.inl ⟨h2,rfl⟩⟩
theorem StepsR.step {i:Nat} {id:Int} (n:Nat) (w w1 w':PW) (d:RunD) (p:Nat) (o:OpD) (h1:w.runs[i]?=some d) (h2:d.st=1) (h3:d.pl=p) (h4:w.code[p]?=some o) (h5:stepR w i id d o w1) (h6:StepsR i id n w1 w'):StepsR i id (n+1) w w' :=
 ⟨d,h1,.inr ⟨h2,p,o,w1,h3,h4,h5,h6⟩⟩
theorem StepsR.ind {i:Nat} {id:Int} {motive:(n:Nat)→(w:PW)→(w':PW)→StepsR i id n w w'→Prop} (zero:∀w,motive 0 w w (StepsR.zero w))
  (stop:∀(n:Nat) (w:PW) (d:RunD) (h1:w.runs[i]?=some d) (h2:d.st≠1),motive (n+1) w w (StepsR.stop n w d h1 h2))
  (step:∀(n:Nat) (w w1 w':PW) (d:RunD) (p:Nat) (o:OpD) (h1:w.runs[i]?=some d) (h2:d.st=1) (h3:d.pl=p) (h4:w.code[p]?=some o) (h5:stepR w i id d o w1) (h6:StepsR i id n w1 w'),motive n w1 w' h6→motive (n+1) w w' (StepsR.step n w w1 w' d p o h1 h2 h3 h4 h5 h6)) {n:Nat} {w w':PW} (h:StepsR i id n w w'):motive n w w' h:=by
 induction n generalizing w with
 |zero =>
  have e:w'=w:=h;subst e;exact zero _
 |succ n ih =>
  obtain⟨d,h1,⟨h2,h3⟩|⟨h2,p,o,w1,h3,h4,h5,h6⟩⟩:=h
  ·subst h3;exact stop n _ d h1 h2
  ·exact step n w w1 w' d p o h1 h2 h3 h4 h5 h6 (ih h6)
theorem Rd.minI {o:Oper} {x y:Operand} {ts:Array TypeId} (ho:o.op=.call { callee:=.builtin .min,args:=#[x,y],argTypes:=ts }) {ev:Operand→Value} {h:Hp} {K:Value→Prop} {a b:Int} (hx:ev x=.int .i64 a) (hy:ev y=.int .i64 b) (k:K (.int .i64 (min a b))):Rd Tryz.prog (execOp ev o) h K:=by
 refine⟨_,fun w _=>?_,k⟩;simp [execOp,ho,resolve,invoke,builtin,hx,hy,Builtin.min_,Builtin.min2];by_cases hb:b<a
 ·rw [if_pos hb];omega
 ·rw [if_neg hb];omega
def RunD.turn (d:RunD):RunD:={ d with tu:=min (wr (d.tu+1)) 9999 }
def doR (w w':PW):Prop :=
 match w.queue with
 |[]=>w'=w
 |id::_=>∃d w2 d2,w.runs[(id-1).toNat]?=some d∧StepsR (id-1).toNat id 3 { w with runs:=w.runs.set (id-1).toNat d.turn } w2∧w2.runs[(id-1).toNat]?=some d2∧w'=if d2.st==1 then { w2 with queue:=lessP w2.queue id++[id] } else w2
theorem l21Do_con (D:WD) (B:Nat) (hB:B<900) (R:Nat→Prop) (hw:D.pure.Inv B R) (c:CodeR D.code R) (hC:D.code.length≤1000) (h:Hp) (l:List Atom) (ho:Own h (wAtoms D++l)) :
  Con Tryz.prog 70 #[D.val] h fun r h'=>∃D',r=D'.val∧Own h' (wAtoms D'++l)∧doR D.pure D'.pure:=by
 refine Con.of_W (tb:=tbE) (args:=[D.val]) Tryz.func70 rfl Tryz.results70 Tryz.ntmps70 (by simp) (Tryz.call70 _) (tm:=[(0,.a D.cells)]) rfl ?_;refine vc_ok ⟨tbE_ok,_,Tryz.func70,Tryz.results70,Tryz.ntmps70⟩ 400 _ _ _ _ ?_;conv=>whnf
 refine⟨fun h2=>?_,fun h2=>?_⟩<;>conv=>whnf
 ·have hq:D.pure.queue=[]:=by
   have:D.queue.length=0:=by simpa using h2
   exact List.eq_nil_of_length_eq_zero this
  exact⟨D,rfl,ho,by rw [doR,hq]⟩
 ·obtain⟨id,q,hq⟩:∃id q,D.queue=id::q:=by
   cases hd:D.queue with
   |nil=>rw [hd] at h2;simp at h2
   |cons a b=>exact⟨a,b,rfl⟩
  have hqm:id∈D.pure.queue:=by show id∈D.queue;rw [hq];exact List.mem_cons_self
  obtain⟨i,hid,d,hd,hst⟩:=hw.wk.q2 id hqm;obtain⟨hip,hdi⟩:=List.getElem?_eq_some_iff.1 hd;have hi:i<D.runs.length:=by rw [pure_len] at hip;exact hip
  rw [pure_get D i hi] at hdi;have hn6:D.runs.length≤6:=by have:=hw.wk.runs;rw [pure_len] at this;exact this
  have hz:IntKind.i64.wrap (id-1)=(i:Int):=by rw [hid,show (i:Int)+1-1=i by omega];exact wrapN _ (by omega) (by omega)
  have hqr:RowOk h (rowI D.qv D.queue):=ho.rowOk (by simp [wAtoms]);have hql:0<D.queue.length:=by rw [hq];simp
  obtain⟨gq,hqa⟩:=row_some hqr (by omega);have hqv:D.qv=.slice (some ⟨gq,0,none⟩) D.queue.length D.qk:=by rw [WD.qv,hqa]
  have hq0:D.queue[0]=id:=by simp [hq]
  obtain⟨g,hra⟩:=w_ra ho (by omega);refine Ext.index slInt.u slInt.size rfl (by exact hqv) rfl 0 rfl hql ?_;conv=>whnf
  refine Ext.loadInt rfl hqr hqv hql rfl ?_;rw [hq0];conv=>whnf
  refine W.draw [(0,true),(1,true),(2,true),(3,true),(4,true),(5,true),(6,true),(7,true),(8,true),(9,true),(10,false),(11,true),(12,true),(13,true),(14,true),(15,false)] [0] none 99 (by kernel_rfl) rfl (by kernel_rfl) mixed rfl (fun g e=>by cases e) ?_;refine vc_ok ⟨tbE_ok,_,Tryz.func70,Tryz.results70,Tryz.ntmps70⟩ 400 _ _ _ _ ?_;conv=>whnf
  refine Rd.index slRun.u slRun.size rfl (by exact rv_same hra) rfl i hz hi ?_;conv=>whnf
  refine Ext.loadRunCell (D:=D) rfl ⟨rfl,rfl⟩ rfl (ho.rowOk (by simp [wAtoms])) (rv_same hra) hi 12 (by decide) rfl (.int .i64 D.runs[i].1.tu) rfl ?_;conv=>whnf
  refine Rd.minI rfl rfl rfl ?_;conv=>whnf
  refine Rd.index slRun.u slRun.size rfl (by exact rv_same hra) rfl i hz hi ?_;conv=>whnf
  refine Ext.storeRunCell (D:=D) rfl rfl rfl hi (rv_same hra) 12 (by decide) (.int .i64 (min (wr (D.runs[i].1.tu+1)) 9999)) rfl rfl (D.runs[i].1.turn,D.runs[i].2) rfl rfl (w_open ho i hi) rfl rfl fun h3 ho3=>?_
  conv=>whnf
  have hit:(id-1).toNat=i:=by omega
  obtain⟨E1,hE1⟩:∃E:WD,E=D.setRun i (D.runs[i].1.turn,D.runs[i].2):=⟨_,rfl⟩;have hc1:E1.cells=D.cells:=by rw [hE1];simp [WD.cells]
  have hp1:E1.pure={ D.pure with runs:=D.pure.runs.set i D.runs[i].1.turn }:=by rw [hE1];simp [WD.pure,List.map_set]
  have hm:=pure_mem hi;have hri:=hw.runs _ hm;have hi1:E1.pure.Inv B R:=by
   rw [hp1];exact hw.set c i hip D.runs[i].1.turn _ hw.wk.q1 (hw.wk.stay hip (by rw [pure_get D i hi];rfl)) ⟨hri.at_,hri.sv,hri.mv,hri.why⟩ (hw.wk.slots D.runs[i].1 hm) (hw.wk.mail D.runs[i].1 hm) (hw.wk.linksB D.runs[i].1 hm) (hw.wk.watB D.runs[i].1 hm) (hw.wk.links D.runs[i].1 hm) _ _ _ _
  have ho1:Own h3 (wAtoms E1++l):=by rw [hE1];exact ho3
  have hfin:∀(w':PW) (E:WD) (hiE:i<E.runs.length),StepsR i id 3 E1.pure E.pure→w'=(if E.runs[i].1.st==1 then { E.pure with queue:=lessP E.pure.queue id++[id] } else E.pure)→doR D.pure w':=fun w' E hiE hS e=>by
   have hiEp:i<E.pure.runs.length:=by rw [pure_len];exact hiE
   have e0:D.pure.queue=id::q:=hq;unfold doR
   split
   ·rename_i e1;rw [e0] at e1;cases e1
   ·rename_i id' q' e1
    rw [e0] at e1
    cases e1
    refine⟨D.runs[i].1,E.pure,E.runs[i].1,?_,?_,?_,e⟩
    ·rw [hit,List.getElem?_eq_getElem hip,pure_get D i hi]
    ·rw [hit,←hp1];exact hS
    ·rw [hit,List.getElem?_eq_getElem hiEp,pure_get E i hiE]
  refine W.cut [(1,.p 0 0),(2,.p 1 0),(3,.v (.int .i64 id)),(4,.v (.int .i64 (0:Nat)))] [⟨27,D.cells⟩,⟨27,[.slice none 0 0,.slice none 0 0,.slice none 0 0,.int .i64 0,.int .i64 0,.int .i64 0,.int .i64 0]⟩] [] ⟨rfl,rfl,rfl,rfl,trivial⟩ rfl rfl ⟨_,rfl⟩ ?_;rw [←hc1];refine W.loop (α:=Nat×WD) (fun x=>[(1,.p 0 0),(2,.p 1 0),(3,.v (.int .i64 id)),(4,.v (.int .i64 (x.1:Int)))]) (fun x=>[⟨27,x.2.cells⟩,⟨27,[.slice none 0 0,.slice none 0 0,.slice none 0 0,.int .i64 0,.int .i64 0,.int .i64 0,.int .i64 0]⟩])
   (fun x h'=>x.1≤3∧Own h' (wAtoms x.2++l)∧x.2.pure.Inv (B+x.1) R∧x.2.code=D.code∧i<x.2.runs.length∧(∀w',StepsR i id (3-x.1) x.2.pure w'→StepsR i id 3 E1.pure w')) (fun x=>3-x.1) ?_ (0,E1) h3 ⟨Nat.zero_le _,ho1,hi1,by rw [hE1],by rw [hE1];simpa using hi,fun w' h=>h⟩
  rintro⟨j,E⟩ h4 ⟨hj,hEo,hEi,hEc,hiE,hE⟩ ih;dsimp only at hj hEo hEi hEc hiE hE ⊢;refine vc_ok ⟨tbE_ok,_,Tryz.func70,Tryz.results70,Tryz.ntmps70⟩ 400 _ _ _ _ ?_;conv=>whnf
  refine⟨fun h5=>?_,fun h5=>?_⟩<;>conv=>whnf
  ·have hj3:j<3:=by simp at h5;omega
   obtain⟨gE,hEra⟩:=w_ra hEo (by omega);have hiEp:i<E.pure.runs.length:=by rw [pure_len];exact hiE
   refine Ext.index slRun.u slRun.size rfl (by exact rv_same hEra) rfl i hz hiE ?_;conv=>whnf
   refine Ext.loadRunCell (D:=E) rfl ⟨rfl,rfl⟩ rfl (hEo.rowOk (by simp [wAtoms])) (rv_same hEra) hiE 5 (by decide) rfl (.int .i64 E.runs[i].1.st) rfl ?_;conv=>whnf
   have hgE:E.pure.runs[i]?=some E.runs[i].1:=by rw [List.getElem?_eq_getElem hiEp,pure_get E i hiE]
   refine⟨fun h6=>?_,fun h6=>?_⟩<;>conv=>whnf
   ·have h6':E.runs[i].1.st=1:=by simpa using h6
    have cE:CodeR E.pure.code R:=by show CodeR E.code R;rw [hEc];exact c
    have hrE:=hEi.runs _ (pure_mem hiE);obtain⟨p,hp,hRp⟩:=hrE.at_;obtain⟨hpl,hso,_⟩:=cE.ok p hRp;have hCE:E.code.length≤1000:=by rw [hEc];exact hC
    refine(l21Step_con E (B+j) (by omega) hCE hEi.wk i hiE id hid p hpl hp hso (fun x hx=>okX_pos (hrE.sv x hx)) h4 l hEo).mono ?_;rintro r h7 ⟨F,rfl,hoF,hF⟩;conv=>whnf
    have hgp:E.pure.runs[i]=E.runs[i].1:=pure_get E i hiE hiEp;have hFs:stepR E.pure i ((i:Int)+1) E.pure.runs[i] E.pure.code[p] F.pure:=by rw [hgp,←hid];exact hF
    have hFi:=stepR_inv hEi cE hCE i hiEp p (by rw [hgp];exact hp) hRp hpl hFs;have hFl:=stepR_len hEi i hiEp hFs;have hwj:IntKind.i64.wrap ((j:Int)+1)=((j+1:Nat):Int):=by rw [wrapN _ (by omega) (by omega)];omega
    rw [hwj];refine W.back (ih (j+1,F) h7 ⟨by dsimp only;omega,hoF,hFi,hFl.1.trans hEc,by have:=hFl.2;rw [pure_len,pure_len] at this;dsimp only;omega,fun w' hR=>hE w' ?_⟩ (by dsimp only;omega)) [] (by exact⟨rfl,rfl,rfl,rfl,trivial⟩) rfl rfl;dsimp only at hR;rw [show 3-j=(3-(j+1))+1 by omega];exact .step _ _ F.pure _ E.runs[i].1 p E.code[p] hgE h6' hp (List.getElem?_eq_getElem hpl) hF hR
   ·have h6':E.runs[i].1.st≠1:=by simpa using h6
    have hS:StepsR i id 3 E1.pure E.pure:=hE _ (by rw [show 3-j=(2-j)+1 by omega];exact .stop _ _ _ hgE h6');refine Ext.index slRun.u slRun.size rfl (by exact rv_same hEra) rfl i hz hiE ?_;conv=>whnf
    refine Ext.loadRunCell (D:=E) rfl ⟨rfl,rfl⟩ rfl (hEo.rowOk (by simp [wAtoms])) (rv_same hEra) hiE 5 (by decide) rfl (.int .i64 E.runs[i].1.st) rfl ?_;conv=>whnf
    refine⟨fun h8=>?_,fun h8=>?_⟩<;>conv=>whnf
    ·refine(l13Less_con E.qa E.qk E.queue id (by have:=hEi.wk.queue;exact Nat.lt_of_le_of_lt this (by decide)) h4 _ (q_open hEo)).mono ?_;rintro r h9 ⟨qa,qk,rfl,ho9⟩;conv=>whnf
     have hlq:(lessP E.queue id).length≤6:=Nat.le_trans (lessP_len _ _) hEi.wk.queue;refine Ext.litI rfl ho9.drop2 id rfl fun g10 h10 _ ho10=>?_
     conv=>whnf
     refine Ext.pushI rfl ho10 rfl rfl (by omega) fun qa2 qk2 h11 ho11=>?_
     conv=>whnf
     refine⟨E.setQ (lessP E.queue id++[id]) qa2 qk2,rfl,q_shut (D:=E) _ qa2 qk2 ho11,hfin _ E hiE hS ?_⟩;rw [if_pos h8];rfl
    ·refine⟨E,rfl,hEo,hfin _ E hiE hS ?_⟩;rw [if_neg (by rw [h8];exact Bool.false_ne_true)]
  ·have hj3:j=3:=by simp at h5;omega
   have hS:StepsR i id 3 E1.pure E.pure:=hE _ (by rw [hj3];exact .zero _);obtain⟨gE,hEra⟩:=w_ra hEo (by omega);refine Ext.index slRun.u slRun.size rfl (by exact rv_same hEra) rfl i hz hiE ?_;conv=>whnf
   refine Ext.loadRunCell (D:=E) rfl ⟨rfl,rfl⟩ rfl (hEo.rowOk (by simp [wAtoms])) (rv_same hEra) hiE 5 (by decide) rfl (.int .i64 E.runs[i].1.st) rfl ?_;conv=>whnf
   refine⟨fun h8=>?_,fun h8=>?_⟩<;>conv=>whnf
   ·refine(l13Less_con E.qa E.qk E.queue id (by have:=hEi.wk.queue;exact Nat.lt_of_le_of_lt this (by decide)) h4 _ (q_open hEo)).mono ?_;rintro r h9 ⟨qa,qk,rfl,ho9⟩;conv=>whnf
    have hlq:(lessP E.queue id).length≤6:=Nat.le_trans (lessP_len _ _) hEi.wk.queue;refine Ext.litI rfl ho9.drop2 id rfl fun g10 h10 _ ho10=>?_
    conv=>whnf
    refine Ext.pushI rfl ho10 rfl rfl (by omega) fun qa2 qk2 h11 ho11=>?_
    conv=>whnf
    refine⟨E.setQ (lessP E.queue id++[id]) qa2 qk2,rfl,q_shut (D:=E) _ qa2 qk2 ho11,hfin _ E hiE hS ?_⟩;rw [if_pos h8];rfl
   ·refine⟨E,rfl,hEo,hfin _ E hiE hS ?_⟩;rw [if_neg (by rw [h8];exact Bool.false_ne_true)]
structure EvD where
 k:Int
 a:Int
 vk:Int
 vn:Int
abbrev EvD.cells (e:EvD):List Value:=[.int .i64 e.k,.int .i64 e.a,.int .i64 e.vk,.int .i64 e.vn]
abbrev EvD.val (e:EvD):Value:=.agg e.cells.toArray
def eventR (w:PW) (e:EvD) (w':PW):Prop :=
 if e.k=1 then doR w w'
 else if e.k=2 then w'=tickP w
 else if e.k=3 then w'=if okV (e.vk,e.vn) then giveP w e.a (e.vk,e.vn) else w
 else if e.k=4 then (∃d,okV (e.vk,e.vn)=true∧1≤e.a∧w.runs[(e.a-1).toNat]?=some d∧d.st≠3∧EndR (e.vk,e.vn) w [e.a] w')∨(w'=w∧¬(okV (e.vk,e.vn)=true∧1≤e.a∧∃d,w.runs[(e.a-1).toNat]?=some d∧d.st≠3))
 else w'=w
theorem l22Do_con (D:WD) (B:Nat) (hB:B<900) (R:Nat→Prop) (hw:D.pure.Inv B R) (c:CodeR D.code R) (hC:D.code.length≤1000) (e:EvD) (h:Hp) (l:List Atom) (ho:Own h (wAtoms D++l)) :
  Con Tryz.prog 98 #[D.val,e.val] h fun r h'=>∃D',r=D'.val∧Own h' (wAtoms D'++l)∧eventR D.pure e D'.pure:=by
 have hn6:D.runs.length≤6:=by have:=hw.wk.runs;rw [pure_len] at this;exact this
 have hQ:D.queue.length≤1000:=Nat.le_trans hw.wk.queue (by decide);refine Con.of_W (tb:=tbE) (args:=[D.val,e.val]) Tryz.func98 rfl Tryz.results98 Tryz.ntmps98 (by simp) (Tryz.call98 _) (tm:=[(0,.a D.cells),(1,.a e.cells)]) rfl ?_;refine vc_ok ⟨tbE_ok,_,Tryz.func98,Tryz.results98,Tryz.ntmps98⟩ 400 _ _ _ _ ?_;conv=>whnf
 refine⟨fun h2=>?_,fun h2=>?_⟩<;>conv=>whnf
 ·have e1:e.k=1:=by simpa using h2
  refine(l21Do_con D B hB R hw c hC h l ho).mono ?_;rintro r h3 ⟨D',rfl,ho3,hR⟩;conv=>whnf
  exact⟨D',rfl,ho3,by unfold eventR;rw [if_pos e1];exact hR⟩
 ·have e1:e.k≠1:=by simpa using h2
  refine⟨fun h2=>?_,fun h2=>?_⟩<;>conv=>whnf
  ·have e2:e.k=2:=by simpa using h2
   refine(l21Tick_con D (by omega) hQ h l ho).mono ?_;rintro r h3 ⟨D',rfl,ho3,hR⟩;conv=>whnf
   exact⟨D',rfl,ho3,by unfold eventR;rw [if_neg e1,if_pos e2];exact hR⟩
  ·have e2:e.k≠2:=by simpa using h2
   refine⟨fun h2=>?_,fun h2=>?_⟩<;>conv=>whnf
   ·have e3:e.k=3:=by simpa using h2
    refine(valOk_con (e.vk,e.vn) h).mono ?_;rintro r h3 ⟨rfl,rfl⟩;conv=>whnf
    refine⟨fun h4=>?_,fun h4=>?_⟩<;>conv=>whnf
    ·refine Con.mono (give_con D B hw.wk e.a (e.vk,e.vn) h3 l ho) ?_;rintro r h5 ⟨D',rfl,ho5,hR⟩;conv=>whnf
     exact⟨D',rfl,ho5,by unfold eventR;rw [if_neg e1,if_neg e2,if_pos e3,if_pos h4];exact hR⟩
    ·exact⟨D,rfl,ho,by unfold eventR;rw [if_neg e1,if_neg e2,if_pos e3,if_neg (by rw [h4];exact Bool.false_ne_true)]⟩
   ·have e3:e.k≠3:=by simpa using h2
    refine⟨fun h2=>?_,fun h2=>?_⟩<;>conv=>whnf
    ·have e4:e.k=4:=by simpa using h2
     have hno:∀(_:¬(okV (e.vk,e.vn)=true∧1≤e.a∧∃d,D.pure.runs[(e.a-1).toNat]?=some d∧d.st≠3)),eventR D.pure e D.pure:=fun hn=>by
      unfold eventR;rw [if_neg e1,if_neg e2,if_neg e3,if_pos e4];exact .inr ⟨rfl,hn⟩
     refine(valOk_con (e.vk,e.vn) h).mono ?_;rintro r h3 ⟨rfl,rfl⟩;conv=>whnf
     refine⟨fun h4=>?_,fun h4=>?_⟩<;>conv=>whnf
     ·refine(l6In_con _ _ _ h3).mono ?_;rintro r h5 ⟨rfl,rfl⟩;conv=>whnf
      refine⟨fun h6=>?_,fun h6=>?_⟩<;>conv=>whnf
      ·have h6':1≤e.a∧e.a≤(D.runs.length:Int):=by
        rw [Bool.and_eq_true,decide_eq_true_eq,decide_eq_true_eq] at h6;exact h6
       obtain⟨i,hid⟩:∃i:Nat,e.a=(i:Int)+1:=⟨(e.a-1).toNat,by omega⟩;have hi:i<D.runs.length:=by omega
       have hit:(e.a-1).toNat=i:=by omega
       have hip:i<D.pure.runs.length:=by rw [pure_len];exact hi
       have hget:D.pure.runs[(e.a-1).toNat]?=some D.runs[i].1:=by rw [hit,List.getElem?_eq_getElem hip,pure_get D i hi]
       have hz:IntKind.i64.wrap (e.a-1)=(i:Int):=by rw [hid,show (i:Int)+1-1=i by omega];exact wrapN _ (by omega) (by omega)
       obtain⟨g,hra⟩:=w_ra ho (by omega);refine Ext.index slRun.u slRun.size rfl (by exact rv_same hra) rfl i hz hi ?_;conv=>whnf
       refine Ext.loadRunCell (D:=D) rfl ⟨rfl,rfl⟩ rfl (ho.rowOk (by simp [wAtoms])) (rv_same hra) hi 5 (by decide) rfl (.int .i64 D.runs[i].1.st) rfl ?_;conv=>whnf
       refine⟨fun h7=>?_,fun h7=>?_⟩<;>conv=>whnf
       ·have h7':D.runs[i].1.st≠3:=by simpa using h7
        refine(l13End_con D B (by omega) hw.wk i hi e.a hid (e.vk,e.vn) h5 l ho).mono ?_;rintro r h8 ⟨D',rfl,ho8,hR,_,_⟩;conv=>whnf
        exact⟨D',rfl,ho8,by unfold eventR;rw [if_neg e1,if_neg e2,if_neg e3,if_pos e4];exact .inl ⟨_,h4,h6'.1,hget,h7',hR⟩⟩
       ·have h7':D.runs[i].1.st=3:=by simpa using h7
        refine⟨D,rfl,ho,hno ?_⟩;rintro⟨_,_,d,hd,hs⟩;rw [hget] at hd
        cases hd
        exact hs h7'
      ·refine⟨D,rfl,ho,hno ?_⟩;rintro⟨_,h1,d,hd,_⟩;have:=(List.getElem?_eq_some_iff.1 hd).1;rw [pure_len] at this;rw [decide_eq_true h1,Bool.true_and] at h6;have h7:¬e.a≤(D.runs.length:Int):=by simpa using h6
       omega
     ·refine⟨D,rfl,ho,hno ?_⟩;rintro⟨h1,_⟩;rw [h4] at h1
      cases h1
    ·have e4:e.k≠4:=by simpa using h2
     exact⟨D,rfl,ho,by unfold eventR;rw [if_neg e1,if_neg e2,if_neg e3,if_neg e4]⟩
theorem StepsR.inv {i:Nat} {id:Int} (hid:id=(i:Int)+1) {R:Nat→Prop} {n:Nat} {w w':PW} (h:StepsR i id n w w'):∀B:Nat,w.Inv B R→CodeR w.code R→w.code.length≤1000→i<w.runs.length→w'.Inv (B+n) R∧w'.code=w.code∧w.runs.length≤w'.runs.length:=by
 induction h using StepsR.ind with
 |zero w=>exact fun B hw _ _ _=>⟨hw,rfl,Nat.le_refl _⟩
 |stop n w d _ _=>exact fun B hw _ _ _=>⟨hw.mono (by omega),rfl,Nat.le_refl _⟩
 |step n w w1 w' d p o h1 h2 h3 h4 h5 h6 ih =>
  intro B hw c hC hi;have hd:w.runs[i]=d:=by rw [List.getElem?_eq_getElem hi] at h1;cases h1;rfl
  obtain⟨hlt,ho⟩:=List.getElem?_eq_some_iff.1 h4;subst hd;subst ho;obtain⟨q,hq,hR⟩:=(hw.runs _ (List.getElem_mem hi)).at_;have e:p=q:=by omega
  subst e;rw [hid] at h5;have hA:=stepR_inv hw c hC i hi p h3 hR hlt h5;have hL:=stepR_len hw i hi h5;have:=ih (B+1) hA (by rw [hL.1];exact c) (by rw [hL.1];exact hC) (by omega);exact⟨this.1.mono (by omega),this.2.1.trans hL.1,by omega⟩
theorem doR_inv {w w':PW} {R:Nat→Prop} (h:doR w w') (B:Nat) (hw:w.Inv B R) (c:CodeR w.code R) (hC:w.code.length≤1000):w'.Inv (B+3) R∧w'.code=w.code∧w.runs.length≤w'.runs.length:=by
 unfold doR at h
 split at h
 ·rw [h];exact⟨hw.mono (by omega),rfl,Nat.le_refl _⟩
 ·rename_i id q hq
  obtain⟨d,w2,d2,h1,h2,h3,h4⟩:=h;obtain⟨j,hid,_⟩:=hw.wk.q2 id (by rw [hq];exact List.mem_cons_self);have hj:(id-1).toNat=j:=by omega
  rw [hj] at h1 h2 h3;obtain⟨hi,rfl⟩:=List.getElem?_eq_some_iff.1 h1;have hm:=List.getElem_mem hi;have hri:=hw.runs _ hm;have hA:=hw.set c j hi w.runs[j].turn _ hw.wk.q1 (hw.wk.stay hi rfl) ⟨hri.at_,hri.sv,hri.mv,hri.why⟩ (hw.wk.slots w.runs[j] hm) (hw.wk.mail w.runs[j] hm) (hw.wk.linksB w.runs[j] hm) (hw.wk.watB w.runs[j] hm) (hw.wk.links w.runs[j] hm) w.now w.sent w.taken w.lost;obtain⟨hB,hc2,hl2⟩:=StepsR.inv hid h2 B hA c hC (by show j<(w.runs.set j _).length;rw [List.length_set];exact hi);have hl3:w.runs.length≤w2.runs.length:=by
   have:(w.runs.set j w.runs[j].turn).length≤w2.runs.length:=hl2;rw [List.length_set] at this;exact this
  rw [h4]
  split
  ·rename_i hs
   obtain⟨hi2,rfl⟩:=List.getElem?_eq_some_iff.1 h3;have hs':w2.runs[j].st=1:=by simpa using hs
   have hm2:=List.getElem_mem hi2;have hr2:=hB.runs _ hm2;have hC3:=hB.set (by rw [show w2.code=w.code from hc2];exact c) j hi2 w2.runs[j] (lessP w2.queue id++[id]) (by
    rw [List.nodup_append];refine⟨lessP_nodup hB.wk.q1,by simp,fun a ha b hb=>?_⟩;rw [List.mem_singleton] at hb;subst hb;exact(mem_lessP.1 ha).2) (fun x hx=>by
    rcases List.mem_append.1 hx with hx|hx
    ·exact .inr ⟨(mem_lessP.1 hx).1,by rw [←hid];exact(mem_lessP.1 hx).2⟩
    ·exact .inl ⟨by rw [List.mem_singleton.1 hx];exact hid,hs'⟩) hr2 (hB.wk.slots _ hm2) (hB.wk.mail _ hm2) (hB.wk.linksB _ hm2) (hB.wk.watB _ hm2) (hB.wk.links _ hm2) w2.now w2.sent w2.taken w2.lost
   rw [List.set_getElem_self] at hC3;exact⟨hC3,hc2,hl3⟩
  ·exact⟨hB,hc2,hl3⟩
theorem tickS_inv {w:PW} {B:Nat} {R:Nat→Prop} (hw:w.Inv B R) (c:CodeR w.code R) (j:Nat):(tickS w j).Inv B R∧(tickS w j).code=w.code∧(tickS w j).runs.length=w.runs.length:=by
 unfold tickS
 split
 ·rename_i d hd
  obtain⟨hj,rfl⟩:=List.getElem?_eq_some_iff.1 hd
  split
  ·rename_i h1
   have hs:w.runs[j].st=2:=by rw [Bool.and_eq_true] at h1;simpa using h1.1
   have hm:=List.getElem_mem hj;have hr:=hw.runs _ hm;have hnot:((j:Int)+1)∉w.queue:=fun hx=>by
    obtain⟨k,e,d,hd,hs2⟩:=hw.wk.q2 _ hx;have:j=k:=by omega
    subst this;rw [List.getElem?_eq_getElem hj] at hd
    cases hd
    omega
   refine⟨hw.set c j hj { w.runs[j] with st:=1,due := -1 } (w.queue++[(j:Int)+1]) ?_ (fun x hx=>?_) ⟨hr.at_,hr.sv,hr.mv,hr.why⟩ (hw.wk.slots w.runs[j] hm) (hw.wk.mail w.runs[j] hm) (hw.wk.linksB w.runs[j] hm) (hw.wk.watB w.runs[j] hm) (hw.wk.links w.runs[j] hm) _ _ _ _,rfl,by simp⟩
   ·rw [List.nodup_append];refine⟨hw.wk.q1,by simp,fun a ha b hb=>?_⟩;rw [List.mem_singleton] at hb;subst hb;exact fun e=>hnot (e ▸ ha)
   ·rcases List.mem_append.1 hx with hx|hx
    ·exact .inr ⟨hx,fun e=>hnot (e ▸ hx)⟩
    ·exact .inl ⟨List.mem_singleton.1 hx,rfl⟩
  ·exact⟨hw,rfl,rfl⟩
 ·exact⟨hw,rfl,rfl⟩
theorem ticks_inv {B:Nat} {R:Nat→Prop}:∀(L:List Nat) (w:PW),w.Inv B R→CodeR w.code R→(L.foldl tickS w).Inv B R∧(L.foldl tickS w).code=w.code∧(L.foldl tickS w).runs.length=w.runs.length
 |[],_,hw,_=>⟨hw,rfl,rfl⟩
 |j::L,w,hw,c=>by
  have h1:=tickS_inv hw c j;have h2:=ticks_inv L _ h1.1 (by rw [h1.2.1];exact c);exact⟨h2.1,h2.2.1.trans h1.2.1,h2.2.2.trans h1.2.2⟩
theorem tickP_inv {w:PW} {B:Nat} {R:Nat→Prop} (hw:w.Inv B R) (c:CodeR w.code R):(tickP w).Inv B R∧(tickP w).code=w.code∧(tickP w).runs.length=w.runs.length:=by
 unfold tickP
 split
 ·exact⟨hw,rfl,rfl⟩
 ·exact ticks_inv _ { w with now:=wr (w.now+1) } ⟨hw.wk.num _ _ _ _,hw.runs⟩ c
theorem okV_okX {v:Int×Int} (h:okV v=true):okX v:=h
theorem eventR_inv {w w':PW} {e:EvD} {R:Nat→Prop} (h:eventR w e w') (B:Nat) (hw:w.Inv B R) (c:CodeR w.code R) (hC:w.code.length≤1000):w'.Inv (B+3) R∧w'.code=w.code∧w.runs.length≤w'.runs.length:=by
 have hup:=hw.mono (by omega:B≤B+3);unfold eventR at h;by_cases e1:e.k=1
 ·rw [if_pos e1] at h;exact doR_inv h B hw c hC
 rw [if_neg e1] at h;by_cases e2:e.k=2
 ·rw [if_pos e2] at h;rw [h]
  have:=tickP_inv hup c;exact⟨this.1,this.2.1,by omega⟩
 rw [if_neg e2] at h;by_cases e3:e.k=3
 ·rw [if_pos e3] at h;rw [h]
  by_cases hv:okV (e.vk,e.vn)=true
  ·rw [if_pos hv];have:=giveP_len w e.a (e.vk,e.vn);exact⟨giveP_inv hup _ _ (okV_okX hv),this.2,by omega⟩
  ·rw [if_neg hv];exact⟨hup,rfl,Nat.le_refl _⟩
 rw [if_neg e3] at h;by_cases e4:e.k=4
 ·rw [if_pos e4] at h;rcases h with⟨d,hv,h1,hd,_,hR⟩|⟨h,_⟩
  ·have hl:=(List.getElem?_eq_some_iff.1 hd).1;have:=EndR.inv hv hR hup fun x hx=>by rw [List.mem_singleton.1 hx];omega
   exact⟨this.1,this.2.1,by omega⟩
  ·rw [h];exact⟨hup,rfl,Nat.le_refl _⟩
 rw [if_neg e4] at h;rw [h];exact⟨hup,rfl,Nat.le_refl _⟩
end Go.Proofs.YtgmkmeodimmdoaaGreatDoor
