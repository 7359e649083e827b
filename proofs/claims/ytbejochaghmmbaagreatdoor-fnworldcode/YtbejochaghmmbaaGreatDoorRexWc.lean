import Derived.Test.YtbejochaghmmbaaGreatDoorRexWb
namespace Go.Proofs.YtbejochaghmmbaaGreatDoor
open Go.RowKit
set_option maxRecDepth 100000
theorem Rd.neqB {o:Oper} {x y:Operand} {t2:TypeId} (ho:o.op=.binOp .neq 4 x y t2) {ev:Operand→Value} {h:Hp} {K:Value→Prop} {a b:Bool} (hx:ev x=.bool a) (hy:ev y=.bool b) (k:K (.bool (a != b))):Rd Tryz.prog (execOp ev o) h K:=by
 refine⟨_,fun w _=>?_,k⟩
 have:=neqB_run a b x y w
 simp only [execOp,ho,hx,hy]
 exact run_value _ w _ w this
theorem Rd.loadInt {o:Oper} {y:Operand} (ho:o.op=.load 3 y) {ev:Operand→Value} {h:Hp} {K:Value→Prop} {v:Value} {L:List Int} (hr:RowOk h (rowI v L)) {g cap:Nat} (hv:v=.slice (some ⟨g,0,none⟩) L.length cap) {i:Nat} (hi:i<L.length) (hy:ev y=.pointer (some ⟨g,0+i*1,none⟩)) (k:K (.int .i64 L[i])):Rd Tryz.prog (execOp ev o) h K :=
 Rd.load tbE_ok rfl ho hr hv hy (by show 0+i*1+1≤L.length*1;omega) (.int .i64 L[i]) (.inr ⟨rfl,by rw [Nat.zero_add];exact flat_get encI 1 encI_len L i hi 0 (by decide),rfl⟩) k
theorem l12Run_con (D:WD) (V:List Int) (fa:Option Addr) (fk:Nat) (i:Nat) (hi:i<D.runs.length) (hsm:D.pure.Sm) (hVl:V.length=D.code.length) (hVb:∀k,Eld.Bd (Eld.atV V k)) (h:Hp) (hw:WIn h D) (hV:RowOk h (rowI (.slice fa V.length fk) V)) :
  Con Tryz.prog 60 #[D.val,.slice fa V.length fk,.int .i64 (i:Nat)] h fun r h'=>(∃b,r=.bool b∧(b=true↔FitS D.pure V i D.runs[i].1))∧h'=h:=by
 have hr:RowOk h (rowR D.rv D.runs):=hw.runs
 obtain⟨g,hra⟩:=row_some hr (by omega)
 have hv:D.rv=.slice (some ⟨g,0,none⟩) D.runs.length D.rk:=by rw [WD.rv,hra]
 have hn:D.runs.length≤1000:=by have:=hsm.runs;rw [pure_len] at this;exact this
 have hS:=hsm.each _ (pure_mem hi)
 have hin:=hw.each i hi
 have w2:IntKind.i64.wrap ((i:Int)+1)=(i:Int)+1:=wrapN _ (by omega) (by omega)
 refine Con.of_W (tb:=tbE) (args:=[D.val,.slice fa V.length fk,.int .i64 (i:Nat)]) Tryz.func60 rfl Tryz.results60 Tryz.ntmps60 (by simp) (Tryz.call60 _) (tm:=[(0,.a D.cells),(1,.v (.slice fa V.length fk)),(2,.v (.int .i64 (i:Nat)))]) rfl ?_
 refine vc_ok ⟨tbE_ok,_,Tryz.func60,Tryz.results60,Tryz.ntmps60⟩ 400 _ _ _ _ ?_
 conv=>whnf
 refine Ext.index slRun.u slRun.size rfl (by exact hv) rfl i rfl hi ?_
 conv=>whnf
 refine Ext.loadRun rfl hr hv hi rfl ?_
 conv=>whnf
 generalize hd:D.runs[i]=y at *
 obtain⟨d,p⟩:=y
 dsimp only at hS hin ⊢
 refine W.draw [(0,true),(1,false),(2,true),(3,true),(4,true),(5,true),(6,true),(7,true),(8,true),(9,true),(10,true),(11,true),(12,true),(13,true),(14,true),(15,true),(16,true),(17,true),(18,true),(19,true),(20,true),(21,true),(22,true),(24,true),(25,true),(26,true),(23,false),(27,true),(28,true)] [0,1] (some h) 99 (by kernel_rfl) rfl (by kernel_rfl) mixed rfl (fun g e=>by cases e;exact Hp.le_refl _) ?_
 refine vc_ok ⟨tbE_ok,_,Tryz.func60,Tryz.results60,Tryz.ntmps60⟩ 400 _ _ _ _ ?_
 conv=>whnf
 refine(sRunOk_con d p hS.sh h hin).mono ?_
 rintro r h1 ⟨rfl,rfl⟩
 conv=>whnf
 refine⟨Hp.le_refl _,?_⟩
 conv=>whnf
 refine⟨fun b1=>?_,fun b1=>?_⟩<;>conv=>whnf
 rotate_left
 ·exact⟨⟨false,rfl,fun e=>(by cases e),fun f=>absurd f.ok (by simpa using b1)⟩,rfl⟩
 rw [w2]
 conv=>whnf
 refine⟨fun b2=>?_,fun b2=>?_⟩<;>conv=>whnf
 rotate_left
 ·exact⟨⟨false,rfl,fun e=>(by cases e),fun f=>absurd f.id (by simpa using b2)⟩,rfl⟩
 refine⟨fun b3=>?_,fun b3=>?_⟩<;>conv=>whnf
 rotate_left
 ·have b3':(D.code.length:Int)≤d.pl:=by simpa using b3
  exact⟨⟨false,rfl,fun e=>(by cases e),fun f=>absurd f.pl (Int.not_lt.2 b3')⟩,rfl⟩
 refine(l11Among_con _ _ _ _ (by have:=hsm.queue;show D.queue.length<100000;exact Nat.lt_of_le_of_lt this (by decide)) h1 hw.queue).mono ?_
 rintro r h2 ⟨rfl,rfl⟩
 conv=>whnf
 refine⟨Hp.le_refl _,?_⟩
 conv=>whnf
 refine Rd.neqB rfl rfl rfl ?_
 conv=>whnf
 refine⟨fun b4=>?_,fun b4=>?_⟩<;>conv=>whnf
 ·exact⟨⟨false,rfl,fun e=>(by cases e),fun f=>absurd f.q (show ¬amongP D.queue d.id=(d.st==1) by simpa using b4)⟩,rfl⟩
 have hd1:Eld.specRB d.toE=true:=by simpa using b1
 have hd2:d.id=(i:Int)+1:=by simpa using b2
 have hd3:d.pl<D.code.length:=by simpa using b3
 have hd4:amongP D.queue d.id=(d.st==1):=by simpa using b4
 clear b1 b2 b3 b4
 have hF:RunF d:=runF (by have:=hd1;unfold Eld.specRB at this;rw [Bool.and_eq_true] at this;exact this.1)
 obtain⟨pk,hpk⟩:∃pk:Nat,d.pl=pk:=⟨d.pl.toNat,by have:=hF.pl.1;omega⟩
 have hpl:∃k:Nat,d.pl=k∧k<D.code.length:=⟨pk,hpk,by omega⟩
 refine⟨fun b5=>?_,fun b5=>?_⟩<;>conv=>whnf
 refine(l12Waiting_con D d p hS hpl h2 hw hin).mono ?_
 rintro r h2 ⟨rfl,rfl⟩
 conv=>whnf
 refine⟨fun b6=>?_,fun b6=>?_⟩<;>conv=>whnf
 ·refine⟨⟨false,rfl,fun e=>(by cases e),fun f=>?_⟩,rfl⟩
  rw [f.sl (by simpa using b5)] at b6
  cases b6
 have hsl:d.st=2→sleepP D.pure d=true:=fun _=>by simpa using b6
 clear b5 b6
 rotate_left
 have hsl:d.st=2→sleepP D.pure d=true:=fun e=>by rw [e] at b5;cases b5
 clear b5
 all_goals
  refine⟨fun b7=>?_,fun b7=>?_⟩<;>conv=>whnf
  ·have h3:d.st=3:=by simpa using b7
   exact⟨⟨true,rfl,fun _=>⟨hd1,hd2,hd3,hd4,fun e=>by omega,fun e=>absurd h3 e,fun e=>absurd h3 e,fun e=>absurd h3 e⟩,fun _=>rfl⟩,rfl⟩
  have hne:d.st≠3:=fun e=>by rw [e] at b7;cases b7
  clear b7
  refine W.cut [(7,.p 1 0),(3,.p 0 0),(1,.v (.slice fa V.length fk)),(8,.v (.int .i64 (0:Nat)))] [⟨28,D.cells⟩,⟨39,d.cells p⟩] [] ⟨rfl,rfl,rfl,rfl,trivial⟩ rfl rfl ⟨_,rfl⟩ ?_
  refine W.loop (α:=Nat) (fun k=>[(7,.p 1 0),(3,.p 0 0),(1,.v (.slice fa V.length fk)),(8,.v (.int .i64 (k:Int)))]) (fun _=>[⟨28,D.cells⟩,⟨39,d.cells p⟩]) (fun k h'=>k≤d.links.length+d.wat.length∧(∀j (hj:j<(d.links++d.wat).length),j<k→(d.links++d.wat)[j]≤(D.runs.length:Int))∧h'=h2) (fun k=>d.links.length+d.wat.length-k) ?_ 0 h2 ⟨Nat.zero_le _,fun j _ hj=>absurd hj (Nat.not_lt_zero _),rfl⟩
  have s2:=hS.s2
  have s3:=hS.s3
  have wn:IntKind.i64.wrap ((d.links.length:Int)+(d.wat.length:Int))=((d.links.length+d.wat.length:Nat):Int):=by rw [wrapN _ (by omega) (by omega)];omega
  rintro k h5 ⟨hk,hn,rfl⟩ ih
  refine vc_ok ⟨tbE_ok,_,Tryz.func60,Tryz.results60,Tryz.ntmps60⟩ 400 _ _ _ _ ?_
  conv=>whnf
  rw [wn]
  conv=>whnf
  refine⟨fun h6=>?_,fun h6=>?_⟩<;>conv=>whnf
  ·have hlt:k<d.links.length+d.wat.length:=by simp at h6;omega
   have hla:(d.links++d.wat).length=d.links.length+d.wat.length:=List.length_append
   have step:∀(z:Int),(d.links++d.wat)[k]'(by omega)=z→z≤(D.runs.length:Int)→∀j (hj:j<(d.links++d.wat).length),j<k+1→(d.links++d.wat)[j]≤(D.runs.length:Int):=fun z hz hzl j hj hjk=>by
    rcases (by omega:j<k∨j=k) with h8 | rfl
    ·exact hn j hj h8
    ·rw [hz];exact hzl
   have bad:∀(z:Int),(d.links++d.wat)[k]'(by omega)=z→(D.runs.length:Int)<z→¬FitS D.pure V i d:=fun z hz hzl f=>by
    have:=f.ties hne _ (List.getElem_mem (l:=d.links++d.wat) (n:=k) (by omega))
    rw [hz] at this
    have:z≤(D.pure.runs.length:Int):=this
    rw [pure_len] at this
    omega
   have hwk:IntKind.i64.wrap ((k:Int)+1)=((k+1:Nat):Int):=by rw [wrapN _ (by omega) (by omega)];omega
   refine⟨fun b8=>?_,fun b8=>?_⟩<;>conv=>whnf
   ·have hkl:k<d.links.length:=by simp at b8;omega
    have hz:(d.links++d.wat)[k]'(by omega)=d.links[k]:=List.getElem_append_left hkl
    obtain⟨gl,hva⟩:=row_some hin.r2 (by omega)
    have hlv:Value.slice p.a2 d.links.length p.k2=.slice (some ⟨gl,0,none⟩) d.links.length p.k2:=by rw [hva]
    refine Ext.index slInt.u slInt.size rfl (by exact hlv) rfl k rfl hkl ?_
    conv=>whnf
    refine Ext.loadInt rfl hin.r2 hlv hkl rfl ?_
    conv=>whnf
    refine⟨fun b9=>?_,fun b9=>?_⟩<;>conv=>whnf
    ·exact⟨⟨false,rfl,fun e=>(by cases e),fun f=>absurd f (bad _ hz (by simpa using b9))⟩,rfl⟩
    ·rw [hwk]
     exact W.back (ih (k+1) _ ⟨by omega,step _ hz (by simpa using b9),rfl⟩ (by omega)) [] (by exact⟨rfl,rfl,rfl,rfl,trivial⟩) rfl rfl
   ·have hkl:d.links.length≤k:=by simp at b8;omega
    have hkw:k-d.links.length<d.wat.length:=by omega
    have hz:(d.links++d.wat)[k]'(by omega)=d.wat[k-d.links.length]:=List.getElem_append_right hkl
    have wk:IntKind.i64.wrap ((k:Int)-(d.links.length:Int))=((k-d.links.length:Nat):Int):=by rw [wrapN _ (by omega) (by omega)];omega
    obtain⟨gl,hva⟩:=row_some hin.r3 (by omega)
    have hlv:Value.slice p.a3 d.wat.length p.k3=.slice (some ⟨gl,0,none⟩) d.wat.length p.k3:=by rw [hva]
    refine Ext.index slInt.u slInt.size rfl (by exact hlv) rfl (k-d.links.length) wk hkw ?_
    conv=>whnf
    refine Ext.loadInt rfl hin.r3 hlv hkw rfl ?_
    conv=>whnf
    refine⟨fun b9=>?_,fun b9=>?_⟩<;>conv=>whnf
    ·exact⟨⟨false,rfl,fun e=>(by cases e),fun f=>absurd f (bad _ hz (by simpa using b9))⟩,rfl⟩
    ·rw [hwk]
     exact W.back (ih (k+1) _ ⟨by omega,step _ hz (by simpa using b9),rfl⟩ (by omega)) [] (by exact⟨rfl,rfl,rfl,rfl,trivial⟩) rfl rfl
  ·have hge:k=d.links.length+d.wat.length:=by simp at h6;omega
   have hties:∀x∈d.links++d.wat,x≤(D.pure.runs.length:Int):=fun x hx=>by
    obtain⟨j,hj,rfl⟩:=List.getElem_of_mem hx
    rw [pure_len]
    exact hn j hj (by rw [hge,←List.length_append];exact hj)
   obtain⟨gv,hfa⟩:=row_some hV (by omega)
   have hfv:Value.slice fa V.length fk=.slice (some ⟨gv,0,none⟩) V.length fk:=by rw [hfa]
   have hpk2:pk<V.length:=by omega
   have hat:V[pk]=Eld.atV V d.pl.toNat:=by
    unfold Eld.atV
    rw [hpk,List.getD_eq_getElem?_getD,show ((pk:Int)).toNat=pk by simp,List.getElem?_eq_getElem hpk2]
    rfl
   have hbd:=hVb d.pl.toNat
   rw [←hat] at hbd
   refine W.draw [(0,true),(1,true),(2,true),(3,true),(4,true),(5,true),(6,true),(7,true),(8,true),(9,true),(10,true),(11,true),(12,true),(13,true),(15,true),(16,true),(17,true),(18,true),(19,true),(14,false),(20,true),(21,true),(22,true)] [1] (some h5) 99 (by kernel_rfl) rfl (by kernel_rfl) mixed rfl (fun g e=>by cases e;exact Hp.le_refl _) ?_
   refine vc_ok ⟨tbE_ok,_,Tryz.func60,Tryz.results60,Tryz.ntmps60⟩ 400 _ _ _ _ ?_
   conv=>whnf
   refine Rd.index slInt.u slInt.size rfl (by exact hfv) rfl pk hpk hpk2 ?_
   conv=>whnf
   refine Rd.loadInt rfl hV hfv hpk2 rfl ?_
   conv=>whnf
   refine⟨fun b8=>?_,fun b8=>?_⟩<;>conv=>whnf
   ·have b8':0≤V[pk]:=by simpa using b8
    refine Rd.index slInt.u slInt.size rfl (by exact hfv) rfl pk hpk hpk2 ?_
    conv=>whnf
    refine Rd.loadInt rfl hV hfv hpk2 rfl ?_
    conv=>whnf
    refine Rd.index slInt.u slInt.size rfl (by exact hfv) rfl pk hpk hpk2 ?_
    conv=>whnf
    refine Rd.loadInt rfl hV hfv hpk2 rfl ?_
    conv=>whnf
    refine(both_con V[pk] d.full hbd hF.full.1 hF.full.2 h5).mono ?_
    rintro r h9 ⟨rfl,rfl⟩
    conv=>whnf
    refine⟨Hp.le_refl _,?_⟩
    conv=>whnf
    refine⟨⟨_,rfl,fun e=>⟨hd1,hd2,hd3,hd4,hsl,fun _=>hties,fun _=>by rw [←hat];exact b8',fun _=>by rw [←hat];simpa using e⟩,fun f=>?_⟩,rfl⟩
    have:=f.full hne
    rw [←hat] at this
    simpa using this
   ·exact⟨⟨false,rfl,fun e=>(by cases e),fun f=>absurd (f.nn hne) (by rw [←hat];simpa using b8)⟩,rfl⟩
end Go.Proofs.YtbejochaghmmbaaGreatDoor
