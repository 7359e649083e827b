import Derived.Test.YtllbeifcipefjaaGreatDoorRexSg
namespace Go.Proofs.YtllbeifcipefjaaGreatDoor
open Go.RowKit
set_option maxRecDepth 100000
theorem firstP_neg {L:List (Int×Int)} {k:Int}:decide (firstP L k<0)=true↔∀x∈L,fitsP x k=false:=by
 rw [decide_eq_true_eq]
 unfold firstP
 cases h:L.findIdx? (fun v=>fitsP v k) with
 | none=>exact⟨fun _ x hx=>by have:=List.findIdx?_eq_none_iff.1 h x hx;simpa using this,fun _=>by decide⟩
 | some j =>
  obtain⟨hj,e,_⟩:=List.findIdx?_eq_some_iff_getElem.1 h
  refine⟨fun f=>absurd (show (j:Int)<0 from f) (by omega),fun f=>?_⟩
  have:=f _ (List.getElem_mem hj)
  rw [this] at e
  cases e
theorem mails_set:∀(L:List RunD) (i:Nat) (hi:i<L.length) (y:RunD),mailsP (L.set i y)+L[i].mail.length=mailsP L+y.mail.length
 | [],_,hi,_=>absurd hi (by simp)
 | x::L,0,_,y=>by simp only [List.set_cons_zero,List.getElem_cons_zero,mailsP,List.map_cons,List.sum_cons];omega
 | x::L,i+1,hi,y=>by
  have:=mails_set L i (by simpa using hi) y
  simp only [List.set_cons_succ,List.getElem_cons_succ,mailsP,List.map_cons,List.sum_cons] at this ⊢
  omega
theorem among_snoc (L:List Int) (x n:Int):amongP (L++[x]) n=(amongP L n||x==n):=by simp [amongP]
theorem runB_mail {d:RunD} {v:Int×Int} {s:Int} (h:Eld.specRB d.toE=true) (hm:d.mail.length<12) (hv:okV v=true) (h3:d.st≠3) (hs1:1≤s) (hs2:s≤2):Eld.specRB ({ d with mail:=d.mail++[v],st:=s }:RunD).toE=true:=by
 have hv':Eld.okB v.1 v.2=true:=hv
 unfold Eld.specRB Eld.runB Eld.mailB Eld.countsB Eld.endB at h ⊢
 simp only [Bool.and_eq_true,decide_eq_true_eq] at h ⊢
 rw [if_neg (show ¬d.toE.st=3 from h3)] at h
 obtain⟨⟨a1,a2,a3,⟨_,a5⟩,⟨_,_,a8⟩,a9,a10,a11⟩,a12⟩:=h
 refine⟨⟨a1,a2,a3,⟨by show (d.mail++[v]).length≤12;simp;omega,?_⟩,⟨hs1,by show s≤3;omega,a8⟩,a9,a10,?_⟩,a12⟩
 ·unfold Eld.allOk at a5 ⊢
  show (d.mail++[v]).all _=true
  have a6:d.mail.all (fun x=>Eld.okB x.fst x.snd)=true:=a5
  rw [List.all_append,a6]
  simp [hv']
 ·show (if s=3 then ((d.mail++[v]).length==0)&&((d.links.length==0)&&(d.wat.length==0)) else (d.wk==0)&&(d.wn==0))=true
  rw [if_neg (show ¬s=3 by omega)]
  exact a11
theorem OkS.give {w:PW} {V:List Int} (ok:OkS w V) {v:Int×Int} (hv:okV v=true) (hs:w.sent<9990) (i:Nat) (hi:i<w.runs.length) (h3:w.runs[i].st≠3) (hm:w.runs[i].mail.length<12) (Q:List Int) (s:Int)
  (hc:(s=w.runs[i].st∧Q=w.queue∧(w.runs[i].st=2→fitsP v (stepAt w.code w.runs[i]).s=false))∨(w.runs[i].st=2∧s=1∧Q=w.queue++[(i:Int)+1])) :
  OkS { w with sent:=w.sent+1,queue:=Q,runs:=w.runs.set i { w.runs[i] with mail:=w.runs[i].mail++[v],st:=s } } V:=by
 obtain⟨y,hy⟩:∃y:RunD,y={ w.runs[i] with mail:=w.runs[i].mail++[v],st:=s }:=⟨_,rfl⟩
 have hf:=ok.fit i hi
 have hst:=(ok.run i hi).st
 have hs12:1≤s∧s≤2:=by rcases hc with ⟨e,_⟩ | ⟨_,e,_⟩<;>omega
 have hq0:amongP w.queue ((i:Int)+1)=(w.runs[i].st==1):=by rw [←hf.id];exact hf.q
 have hQ:∀n:Int,amongP Q n=(if n=(i:Int)+1 then (s==1) else amongP w.queue n):=fun n=>by
  rcases hc with ⟨e,rfl,_⟩ | ⟨e2,e1,rfl⟩
  ·by_cases hn:n=(i:Int)+1
   ·rw [if_pos hn,hn,hq0,e]
   ·rw [if_neg hn]
  ·rw [among_snoc]
   by_cases hn:n=(i:Int)+1
   ·rw [if_pos hn,hn,e1];simp
   ·rw [if_neg hn,show ((i:Int)+1==n)=false by simpa using fun e=>hn e.symm,Bool.or_false]
 have hlen:(w.runs.set i y).length=w.runs.length:=List.length_set
 have hget:∀j (hj:j<w.runs.length),(w.runs.set i y)[j]'(by rw [hlen];exact hj)=if i=j then y else w.runs[j]:=fun j hj=>by rw [List.getElem_set]
 have hlk:∀j (hj:j<w.runs.length),((w.runs.set i y)[j]'(by rw [hlen];exact hj)).links=w.runs[j].links:=fun j hj=>by
  rw [hget j hj]
  by_cases e:i=j
  ·subst e;rw [if_pos rfl,hy]
  ·rw [if_neg e]
 have hcnt:=ok.cnt
 rw [←hy]
 refine⟨by show 1≤(w.runs.set i y).length;rw [hlen];exact ok.n1,by show (w.runs.set i y).length≤6;rw [hlen];exact ok.n6,⟨hcnt.now,⟨by show 0≤w.sent+1;have:=hcnt.sent;omega,by show w.sent+1≤9999;omega⟩,hcnt.taken,hcnt.lost⟩,?_,fun j hj=>?_,fun x hx=>?_,fun a b ha hb=>?_,?_⟩
 ·show Eld.idsB 0 Q=true
  rcases hc with ⟨_,rfl,_⟩ | ⟨e2,e1,rfl⟩
  ·exact ok.ids
  ·obtain⟨q1,q2⟩:=(idsB_iff 0 w.queue).1 ok.ids
   have h6:=ok.n6
   have hni:((i:Int)+1)∉w.queue:=fun h=>by
    rw [among_mem.2 h,e2] at hq0
    cases hq0
   refine(idsB_iff 0 _).2 ⟨fun x hx=>?_,?_⟩
   ·rcases List.mem_append.1 hx with hx | hx
    ·exact q1 x hx
    ·rw [List.mem_singleton.1 hx];omega
   ·refine List.nodup_append.2 ⟨q2,by simp,fun a ha b hb e=>?_⟩
    rw [List.mem_singleton.1 hb] at e
    rw [e] at ha
    exact hni ha
 ·have hj':j<w.runs.length:=by have:j<(w.runs.set i y).length:=hj;rw [hlen] at this;exact this
  have hg:=hget j hj'
  show FitS _ V j ((w.runs.set i y)[j])
  rw [hg]
  by_cases e:i=j
  ·subst e
   rw [if_pos rfl]
   refine⟨by rw [hy];exact runB_mail hf.ok hm hv h3 hs12.1 hs12.2,by rw [hy];exact hf.id,by rw [hy];exact hf.pl,?_,fun e2=>?_,fun _ x hx=>?_,fun _=>by rw [hy];exact hf.nn h3,fun _=>by rw [hy];exact hf.full h3⟩
   ·show amongP Q y.id=(y.st==1)
    rw [hQ,if_pos (by rw [hy];exact hf.id),hy]
   ·have e2':s=2:=by rw [hy] at e2;exact e2
    rcases hc with ⟨e3,_,e4⟩ | ⟨_,e3,_⟩
    ·have e5:w.runs[i].st=2:=by rw [←e3];exact e2'
     have h8:=hf.sl e5
     have h9:=e4 e5
     rw [hy]
     unfold sleepP at h8 ⊢
     have hfs:decide (firstP w.runs[i].mail (stepAt w.code w.runs[i]).s<0)=true→decide (firstP (w.runs[i].mail++[v]) (stepAt w.code w.runs[i]).s<0)=true:=fun f=>by
      rw [firstP_neg] at f ⊢
      intro x hx
      rcases List.mem_append.1 hx with hx | hx
      ·exact f x hx
      ·rw [List.mem_singleton.1 hx];exact h9
     show (if (stepAt w.code w.runs[i]).k=7 then (w.runs[i].due==0&&decide (firstP (w.runs[i].mail++[v]) (stepAt w.code w.runs[i]).s<0)) else ((stepAt w.code w.runs[i]).k==8&&(decide (w.now<w.runs[i].due)&&decide (firstP (w.runs[i].mail++[v]) (stepAt w.code w.runs[i]).s<0))))=true
     by_cases k7:(stepAt w.code w.runs[i]).k=7
     ·rw [if_pos k7,Bool.and_eq_true] at h8
      rw [if_pos k7,Bool.and_eq_true]
      exact⟨h8.1,hfs h8.2⟩
     ·rw [if_neg k7,Bool.and_eq_true,Bool.and_eq_true] at h8
      rw [if_neg k7,Bool.and_eq_true,Bool.and_eq_true]
      exact⟨h8.1,h8.2.1,hfs h8.2.2⟩
    ·omega
   ·show x≤(((w.runs.set i y).length:Nat):Int)
    rw [hlen]
    rw [hy] at hx
    exact hf.ties h3 x hx
  ·rw [if_neg e]
   have hfj:=ok.fit j hj'
   refine⟨hfj.ok,hfj.id,hfj.pl,?_,hfj.sl,fun h x hx=>?_,hfj.nn,hfj.full⟩
   ·show amongP Q _=_
    rw [hQ,if_neg (by rw [hfj.id];omega)]
    exact hfj.q
   ·show x≤(((w.runs.set i y).length:Nat):Int)
    rw [hlen]
    exact hfj.ties h x hx
 ·show x≤(((w.runs.set i y).length:Nat):Int)
  rw [hlen]
  rcases hc with ⟨_,rfl,_⟩ | ⟨_,_,rfl⟩
  ·exact ok.qn x hx
  ·rcases List.mem_append.1 hx with hx | hx
   ·exact ok.qn x hx
   ·rw [List.mem_singleton.1 hx];omega
 ·have ha':a<w.runs.length:=by have:a<(w.runs.set i y).length:=ha;rw [hlen] at this;exact this
  have hb':b<w.runs.length:=by omega
  show amongP ((w.runs.set i y)[a]).links _=amongP ((w.runs.set i y)[b]).links _
  rw [hlk a ha',hlk b hb']
  exact ok.both a b ha' hb
 ·show w.sent+1=w.taken+w.lost+(mailsP (w.runs.set i y):Int)
  have h1:=mails_set w.runs i hi y
  have h2:y.mail.length=w.runs[i].mail.length+1:=by rw [hy];simp
  have h3:=ok.sum
  omega
theorem OkS.lose {w:PW} {V:List Int} (ok:OkS w V) (hs:w.sent<9990):OkS { w with sent:=w.sent+1,lost:=w.lost+1 } V:=by
 have hcnt:=ok.cnt
 have hsum:=ok.sum
 have h0:=hcnt.sent
 have h1:=hcnt.taken
 have h2:=hcnt.lost
 refine⟨ok.n1,ok.n6,⟨hcnt.now,⟨by show 0≤w.sent+1;omega,by show w.sent+1≤9999;omega⟩,h1,⟨by show 0≤w.lost+1;omega,by show w.lost+1≤9999;omega⟩⟩,ok.ids,fun i hi=>?_,ok.qn,ok.both,by show w.sent+1=w.taken+(w.lost+1)+(mailsP w.runs:Int);omega⟩
 have hf:=ok.fit i hi
 exact⟨hf.ok,hf.id,hf.pl,hf.q,hf.sl,hf.ties,hf.nn,hf.full⟩
theorem giveP_what {w:PW} {V:List Int} (ok:OkS w V) (hs:w.sent<9990) (id:Int) (v:Int×Int) :
  ((∀i (hi:i<w.runs.length),id=(i:Int)+1→w.runs[i].st=3∨12≤w.runs[i].mail.length)∧giveP w id v={ w with sent:=w.sent+1,lost:=w.lost+1 }) ∨
  (∃i,∃hi:i<w.runs.length,id=(i:Int)+1∧w.runs[i].st≠3∧w.runs[i].mail.length<12 ∧
   ((w.runs[i].st=2∧fitsP v (stepAt w.code w.runs[i]).s=true∧giveP w id v={ w with sent:=w.sent+1,queue:=w.queue++[(i:Int)+1],runs:=w.runs.set i { w.runs[i] with mail:=w.runs[i].mail++[v],st:=1 } }) ∨
    ((w.runs[i].st=2→fitsP v (stepAt w.code w.runs[i]).s=false)∧giveP w id v={ w with sent:=w.sent+1,runs:=w.runs.set i { w.runs[i] with mail:=w.runs[i].mail++[v] } }))):=by
 have hcnt:=ok.cnt
 have h0:=hcnt.sent
 have h1:=hcnt.lost
 have e1:wr (w.sent+1)=w.sent+1:=wrapN _ (by omega) (by omega)
 have e2:wr (w.lost+1)=w.lost+1:=wrapN _ (by omega) (by omega)
 have el:loseP w={ w with sent:=w.sent+1,lost:=w.lost+1 }:=by unfold loseP;rw [e1,e2]
 by_cases hin:1≤id∧id≤(w.runs.length:Int)
 ·obtain⟨i,hid⟩:∃i:Nat,id=(i:Int)+1:=⟨(id-1).toNat,by omega⟩
  have hi:i<w.runs.length:=by omega
  have hg:giveP w id v=giveAt w i id w.runs[i] v:=by
   unfold giveP
   rw [if_pos hin,show (id-1).toNat=i by omega,List.getElem?_eq_getElem hi]
  rw [hg]
  unfold giveAt
  by_cases hl:(w.runs[i].st==3||decide ((w.runs[i].mail.length:Int)≥12))=true
  ·refine .inl ⟨fun j hj e=>?_,by rw [if_pos hl,el]⟩
   obtain rfl:i=j:=by omega
   rw [Bool.or_eq_true,beq_iff_eq,decide_eq_true_eq] at hl
   rcases hl with h | h
   ·exact .inl h
   ·exact .inr (by omega)
  ·refine .inr ⟨i,hi,hid,fun e=>hl (by rw [e];rfl),?_,?_⟩
   ·refine Nat.lt_of_not_le fun e=>hl ?_
    rw [show decide ((w.runs[i].mail.length:Int)≥12)=true by rw [decide_eq_true_eq];omega,Bool.or_true]
   ·rw [if_neg hl,e1,hid]
    by_cases hw:(w.runs[i].st==2&&fitsP v (stepAt w.code w.runs[i]).s)=true
    ·rw [if_pos hw]
     rw [Bool.and_eq_true,beq_iff_eq] at hw
     exact .inl ⟨hw.1,hw.2,rfl⟩
    ·rw [if_neg hw]
     refine .inr ⟨fun e=>?_,rfl⟩
     rw [e,show ((2:Int)==2)=true from rfl,Bool.true_and] at hw
     simpa using hw
 ·refine .inl ⟨fun i hi e=>absurd (show 1≤id∧id≤(w.runs.length:Int) by omega) hin,?_⟩
  unfold giveP
  rw [if_neg hin,el]
theorem give_oks {w:PW} {V:List Int} (ok:OkS w V) (id:Int) {v:Int×Int} (hv:okV v=true) (hs:w.sent<9990):OkS (giveP w id v) V:=by
 rcases giveP_what ok hs id v with ⟨_,e⟩ | ⟨i,hi,_,h3,hm,⟨e1,_,e⟩ | ⟨e1,e⟩⟩
 ·rw [e];exact ok.lose hs
 ·rw [e];exact ok.give hv hs i hi h3 hm _ 1 (.inr ⟨e1,rfl,rfl⟩)
 ·rw [e];exact ok.give hv hs i hi h3 hm w.queue w.runs[i].st (.inl ⟨rfl,rfl,e1⟩)
theorem giveP_code (w:PW) (id:Int) (v:Int×Int):(giveP w id v).code=w.code:=by
 unfold giveP giveAt loseP
 split
 ·split
  ·split
   ·rfl
   ·split<;>rfl
  ·rfl
 ·rfl
theorem WOk.give {w:PW} (h:WOk w) (id:Int) {v:Int×Int} (hv:okV v=true) (hs:w.sent<9990):WOk (giveP w id v):=by
 obtain⟨hc,V,hV,ok⟩:=h
 exact⟨by rw [giveP_code];exact hc,V,by rw [giveP_code];exact hV,give_oks ok id hv hs⟩
theorem giveP_sent {w:PW} (h:WOk w) (id:Int) (v:Int×Int) (hs:w.sent<9990):(giveP w id v).sent=w.sent+1:=by
 obtain⟨_,V,_,ok⟩:=h
 rcases giveP_what ok hs id v with ⟨_,e⟩ | ⟨i,hi,_,_,_,⟨_,_,e⟩ | ⟨_,e⟩⟩<;>rw [e]
theorem giveP_other (w:PW) (id:Int) (v:Int×Int) (j:Nat) (hj:j<w.runs.length) (hne:id≠(j:Int)+1):(giveP w id v).runs[j]?=some w.runs[j]:=by
 unfold giveP giveAt loseP
 have hj':w.runs[j]?=some w.runs[j]:=List.getElem?_eq_getElem hj
 split
 ·rename_i h1
  have hij:(id-1).toNat≠j:=by omega
  split
  ·split
   ·exact hj'
   ·split
    ·show (w.runs.set _ _)[j]?=_
     rw [List.getElem?_set_ne hij];exact hj'
    ·show (w.runs.set _ _)[j]?=_
     rw [List.getElem?_set_ne hij];exact hj'
  ·exact hj'
 ·exact hj'
end Go.Proofs.YtllbeifcipefjaaGreatDoor
