import Derived.Test.YtgmkmeodimmdoaaGreatDoorBSo
namespace Go.Proofs.YtgmkmeodimmdoaaGreatDoor
open Go.RowKit
set_option maxRecDepth 100000
theorem firstP_neg {L:List (Int×Int)} {k:Int}:decide (firstP L k<0)=true↔∀x∈L,fitsP x k=false:=by
 rw [decide_eq_true_eq];unfold firstP
 cases h:L.findIdx? (fun v=>fitsP v k) with
 |none=>exact⟨fun _ x hx=>by have:=List.findIdx?_eq_none_iff.1 h x hx;simpa using this,fun _=>by decide⟩
 |some j =>
  obtain⟨hj,e,_⟩:=List.findIdx?_eq_some_iff_getElem.1 h;refine⟨fun f=>absurd (show (j:Int)<0 from f) (by omega),fun f=>?_⟩;have:=f _ (List.getElem_mem hj);rw [this] at e
  cases e
theorem mails_set:∀(L:List RunD) (i:Nat) (hi:i<L.length) (y:RunD),mailsP (L.set i y)+L[i].mail.length=mailsP L+y.mail.length
 |[],_,hi,_=>absurd hi (by simp)
 |x::L,0,_,y=>by simp only [List.set_cons_zero,List.getElem_cons_zero,mailsP,List.map_cons,List.sum_cons];omega
 |x::L,i+1,hi,y=>by
  have:=mails_set L i (by simpa using hi) y;simp only [List.set_cons_succ,List.getElem_cons_succ,mailsP,List.map_cons,List.sum_cons] at this ⊢;omega
theorem among_snoc (L:List Int) (x n:Int):amongP (L++[x]) n=(amongP L n||x==n):=by simp [amongP]
theorem runB_mail {d:RunD} {v:Int×Int} {s:Int} (h:Eld.specRB d.toE=true) (hm:d.mail.length<12) (hv:okV v=true) (h3:d.st≠3) (hs1:1≤s) (hs2:s≤2):Eld.specRB ({ d with mail:=d.mail++[v],st:=s }:RunD).toE=true:=by
 have hv':Eld.okB v.1 v.2=true:=hv;unfold Eld.specRB Eld.runB Eld.mailB Eld.countsB Eld.endB at h ⊢;simp only [Bool.and_eq_true,decide_eq_true_eq] at h ⊢;rw [if_neg (show ¬d.toE.st=3 from h3)] at h;obtain⟨⟨a1,a2,a3,⟨_,a5⟩,⟨_,_,a8⟩,a9,a10,a11⟩,a12⟩:=h;refine⟨⟨a1,a2,a3,⟨by show (d.mail++[v]).length≤12;simp;omega,?_⟩,⟨hs1,by show s≤3;omega,a8⟩,a9,a10,?_⟩,a12⟩
 ·unfold Eld.allOk at a5 ⊢;show (d.mail++[v]).all _=true;have a6:d.mail.all (fun x=>Eld.okB x.fst x.snd)=true:=a5;rw [List.all_append,a6];simp [hv']
 ·show (if s=3 then ((d.mail++[v]).length==0)&&((d.links.length==0)&&(d.wat.length==0)) else (d.wk==0)&&(d.wn==0))=true;rw [if_neg (show ¬s=3 by omega)];exact a11
theorem OkS.give {w:PW} {V:List Int} (ok:OkS w V) {v:Int×Int} (hv:okV v=true) (hs:w.sent<9990) (i:Nat) (hi:i<w.runs.length) (h3:w.runs[i].st≠3) (hm:w.runs[i].mail.length<12) (Q:List Int) (s:Int)
  (hc:(s=w.runs[i].st∧Q=w.queue∧(w.runs[i].st=2→fitsP v (stepAt w.code w.runs[i]).s=false))∨(w.runs[i].st=2∧s=1∧Q=w.queue++[(i:Int)+1])) :
  OkS { w with sent:=w.sent+1,queue:=Q,runs:=w.runs.set i { w.runs[i] with mail:=w.runs[i].mail++[v],st:=s } } V:=by
 obtain⟨y,hy⟩:∃y:RunD,y={ w.runs[i] with mail:=w.runs[i].mail++[v],st:=s }:=⟨_,rfl⟩;have hf:=ok.fit i hi;have hst:=(ok.run i hi).st;have hs12:1≤s∧s≤2:=by rcases hc with⟨e,_⟩|⟨_,e,_⟩<;>omega
 have hq0:amongP w.queue ((i:Int)+1)=(w.runs[i].st==1):=by rw [←hf.id];exact hf.q
 have hQ:∀n:Int,amongP Q n=(if n=(i:Int)+1 then (s==1) else amongP w.queue n):=fun n=>by
  rcases hc with⟨e,rfl,_⟩|⟨e2,e1,rfl⟩
  ·by_cases hn:n=(i:Int)+1
   ·rw [if_pos hn,hn,hq0,e]
   ·rw [if_neg hn]
  ·rw [among_snoc];by_cases hn:n=(i:Int)+1
   ·rw [if_pos hn,hn,e1];simp
   ·rw [if_neg hn,show ((i:Int)+1==n)=false by simpa using fun e=>hn e.symm,Bool.or_false]
 have hlen:(w.runs.set i y).length=w.runs.length:=List.length_set;have hget:∀j (hj:j<w.runs.length),(w.runs.set i y)[j]'(by rw [hlen];exact hj)=if i=j then y else w.runs[j]:=fun j hj=>by rw [List.getElem_set]
 have hlk:∀j (hj:j<w.runs.length),((w.runs.set i y)[j]'(by rw [hlen];exact hj)).links=w.runs[j].links:=fun j hj=>by
  rw [hget j hj];by_cases e:i=j
  ·subst e;rw [if_pos rfl,hy]
  ·rw [if_neg e]
 have hcnt:=ok.cnt;rw [←hy];refine⟨by show 1≤(w.runs.set i y).length;rw [hlen];exact ok.n1,by show (w.runs.set i y).length≤6;rw [hlen];exact ok.n6,⟨hcnt.now,⟨by show 0≤w.sent+1;have:=hcnt.sent;omega,by show w.sent+1≤9999;omega⟩,hcnt.taken,hcnt.lost⟩,?_,fun j hj=>?_,fun x hx=>?_,fun a b ha hb=>?_,?_⟩
 ·show Eld.idsB 0 Q=true;rcases hc with⟨_,rfl,_⟩|⟨e2,e1,rfl⟩
  ·exact ok.ids
  ·obtain⟨q1,q2⟩:=(idsB_iff 0 w.queue).1 ok.ids;have h6:=ok.n6;have hni:((i:Int)+1)∉w.queue:=fun h=>by
    rw [among_mem.2 h,e2] at hq0
    cases hq0
   refine(idsB_iff 0 _).2 ⟨fun x hx=>?_,?_⟩
   ·rcases List.mem_append.1 hx with hx|hx
    ·exact q1 x hx
    ·rw [List.mem_singleton.1 hx];omega
   ·refine List.nodup_append.2 ⟨q2,by simp,fun a ha b hb e=>?_⟩;rw [List.mem_singleton.1 hb] at e;rw [e] at ha;exact hni ha
 ·have hj':j<w.runs.length:=by have:j<(w.runs.set i y).length:=hj;rw [hlen] at this;exact this
  have hg:=hget j hj';show FitS _ V j ((w.runs.set i y)[j]);rw [hg];by_cases e:i=j
  ·subst e;rw [if_pos rfl];refine⟨by rw [hy];exact runB_mail hf.ok hm hv h3 hs12.1 hs12.2,by rw [hy];exact hf.id,by rw [hy];exact hf.pl,?_,fun e2=>?_,fun _ x hx=>?_,fun _=>by rw [hy];exact hf.nn h3,fun _=>by rw [hy];exact hf.full h3⟩
   ·show amongP Q y.id=(y.st==1);rw [hQ,if_pos (by rw [hy];exact hf.id),hy]
   ·have e2':s=2:=by rw [hy] at e2;exact e2
    rcases hc with⟨e3,_,e4⟩|⟨_,e3,_⟩
    ·have e5:w.runs[i].st=2:=by rw [←e3];exact e2'
     have h8:=hf.sl e5;have h9:=e4 e5;rw [hy];unfold sleepP at h8 ⊢;have hfs:decide (firstP w.runs[i].mail (stepAt w.code w.runs[i]).s<0)=true→decide (firstP (w.runs[i].mail++[v]) (stepAt w.code w.runs[i]).s<0)=true:=fun f=>by
      rw [firstP_neg] at f ⊢;intro x hx;rcases List.mem_append.1 hx with hx|hx
      ·exact f x hx
      ·rw [List.mem_singleton.1 hx];exact h9
     show (if (stepAt w.code w.runs[i]).k=7 then (w.runs[i].due==0&&decide (firstP (w.runs[i].mail++[v]) (stepAt w.code w.runs[i]).s<0)) else ((stepAt w.code w.runs[i]).k==8&&(decide (w.now<w.runs[i].due)&&decide (firstP (w.runs[i].mail++[v]) (stepAt w.code w.runs[i]).s<0))))=true;by_cases k7:(stepAt w.code w.runs[i]).k=7
     ·rw [if_pos k7,Bool.and_eq_true] at h8;rw [if_pos k7,Bool.and_eq_true];exact⟨h8.1,hfs h8.2⟩
     ·rw [if_neg k7,Bool.and_eq_true,Bool.and_eq_true] at h8;rw [if_neg k7,Bool.and_eq_true,Bool.and_eq_true];exact⟨h8.1,h8.2.1,hfs h8.2.2⟩
    ·omega
   ·show x≤(((w.runs.set i y).length:Nat):Int);rw [hlen];rw [hy] at hx;exact hf.ties h3 x hx
  ·rw [if_neg e];have hfj:=ok.fit j hj';refine⟨hfj.ok,hfj.id,hfj.pl,?_,hfj.sl,fun h x hx=>?_,hfj.nn,hfj.full⟩
   ·show amongP Q _=_;rw [hQ,if_neg (by rw [hfj.id];omega)];exact hfj.q
   ·show x≤(((w.runs.set i y).length:Nat):Int);rw [hlen];exact hfj.ties h x hx
 ·show x≤(((w.runs.set i y).length:Nat):Int);rw [hlen];rcases hc with⟨_,rfl,_⟩|⟨_,_,rfl⟩
  ·exact ok.qn x hx
  ·rcases List.mem_append.1 hx with hx|hx
   ·exact ok.qn x hx
   ·rw [List.mem_singleton.1 hx];omega
 ·have ha':a<w.runs.length:=by have:a<(w.runs.set i y).length:=ha;rw [hlen] at this;exact this
  have hb':b<w.runs.length:=by omega
  show amongP ((w.runs.set i y)[a]).links _=amongP ((w.runs.set i y)[b]).links _;rw [hlk a ha',hlk b hb'];exact ok.both a b ha' hb
 ·show w.sent+1=w.taken+w.lost+(mailsP (w.runs.set i y):Int);have h1:=mails_set w.runs i hi y;have h2:y.mail.length=w.runs[i].mail.length+1:=by rw [hy];simp
  have h3:=ok.sum;omega
theorem OkS.lose {w:PW} {V:List Int} (ok:OkS w V) (hs:w.sent<9990):OkS { w with sent:=w.sent+1,lost:=w.lost+1 } V:=by
 have hcnt:=ok.cnt;have hsum:=ok.sum;have h0:=hcnt.sent;have h1:=hcnt.taken;have h2:=hcnt.lost;refine⟨ok.n1,ok.n6,⟨hcnt.now,⟨by show 0≤w.sent+1;omega,by show w.sent+1≤9999;omega⟩,h1,⟨by show 0≤w.lost+1;omega,by show w.lost+1≤9999;omega⟩⟩,ok.ids,fun i hi=>?_,ok.qn,ok.both,by show w.sent+1=w.taken+(w.lost+1)+(mailsP w.runs:Int);omega⟩;have hf:=ok.fit i hi;exact⟨hf.ok,hf.id,hf.pl,hf.q,hf.sl,hf.ties,hf.nn,hf.full⟩
theorem giveP_what {w:PW} {V:List Int} (ok:OkS w V) (hs:w.sent<9990) (id:Int) (v:Int×Int) :
  ((∀i (hi:i<w.runs.length),id=(i:Int)+1→w.runs[i].st=3∨12≤w.runs[i].mail.length)∧giveP w id v={ w with sent:=w.sent+1,lost:=w.lost+1 }) ∨
  (∃i,∃hi:i<w.runs.length,id=(i:Int)+1∧w.runs[i].st≠3∧w.runs[i].mail.length<12 ∧
   ((w.runs[i].st=2∧fitsP v (stepAt w.code w.runs[i]).s=true∧giveP w id v={ w with sent:=w.sent+1,queue:=w.queue++[(i:Int)+1],runs:=w.runs.set i { w.runs[i] with mail:=w.runs[i].mail++[v],st:=1 } }) ∨
    ((w.runs[i].st=2→fitsP v (stepAt w.code w.runs[i]).s=false)∧giveP w id v={ w with sent:=w.sent+1,runs:=w.runs.set i { w.runs[i] with mail:=w.runs[i].mail++[v] } }))):=by
 have hcnt:=ok.cnt;have h0:=hcnt.sent;have h1:=hcnt.lost;have e1:wr (w.sent+1)=w.sent+1:=wrapN _ (by omega) (by omega);have e2:wr (w.lost+1)=w.lost+1:=wrapN _ (by omega) (by omega);have el:loseP w={ w with sent:=w.sent+1,lost:=w.lost+1 }:=by unfold loseP;rw [e1,e2]
 by_cases hin:1≤id∧id≤(w.runs.length:Int)
 ·obtain⟨i,hid⟩:∃i:Nat,id=(i:Int)+1:=⟨(id-1).toNat,by omega⟩;have hi:i<w.runs.length:=by omega
  have hg:giveP w id v=giveAt w i id w.runs[i] v:=by
   unfold giveP;rw [if_pos hin,show (id-1).toNat=i by omega,List.getElem?_eq_getElem hi]
  rw [hg];unfold giveAt;by_cases hl:(w.runs[i].st==3||decide ((w.runs[i].mail.length:Int)≥12))=true
  ·refine .inl ⟨fun j hj e=>?_,by rw [if_pos hl,el]⟩;obtain rfl:i=j:=by omega
   rw [Bool.or_eq_true,beq_iff_eq,decide_eq_true_eq] at hl;rcases hl with h|h
   ·exact .inl h
   ·exact .inr (by omega)
  ·refine .inr ⟨i,hi,hid,fun e=>hl (by rw [e];rfl),?_,?_⟩
   ·refine Nat.lt_of_not_le fun e=>hl ?_
    rw [show decide ((w.runs[i].mail.length:Int)≥12)=true by rw [decide_eq_true_eq];omega,Bool.or_true]
   ·rw [if_neg hl,e1,hid];by_cases hw:(w.runs[i].st==2&&fitsP v (stepAt w.code w.runs[i]).s)=true
    ·rw [if_pos hw];rw [Bool.and_eq_true,beq_iff_eq] at hw;exact .inl ⟨hw.1,hw.2,rfl⟩
    ·rw [if_neg hw];refine .inr ⟨fun e=>?_,rfl⟩;rw [e,show ((2:Int)==2)=true from rfl,Bool.true_and] at hw;simpa using hw
 ·refine .inl ⟨fun i hi e=>absurd (show 1≤id∧id≤(w.runs.length:Int) by omega) hin,?_⟩;unfold giveP;rw [if_neg hin,el]
theorem give_oks {w:PW} {V:List Int} (ok:OkS w V) (id:Int) {v:Int×Int} (hv:okV v=true) (hs:w.sent<9990):OkS (giveP w id v) V:=by
 rcases giveP_what ok hs id v with⟨_,e⟩|⟨i,hi,_,h3,hm,⟨e1,_,e⟩|⟨e1,e⟩⟩
 ·rw [e];exact ok.lose hs
 ·rw [e];exact ok.give hv hs i hi h3 hm _ 1 (.inr ⟨e1,rfl,rfl⟩)
 ·rw [e];exact ok.give hv hs i hi h3 hm w.queue w.runs[i].st (.inl ⟨rfl,rfl,e1⟩)
theorem lvStateOut_con (D:WD) (id:Int) (hid:¬(1≤id∧id≤(D.runs.length:Int))) (h:Hp) :
  Con Tryz.prog 23 #[D.val,.int .i64 id] h fun r h'=>r=.int .i64 0∧h'=h:=by
 refine Con.of_W (tb:=tbE) (args:=[D.val,.int .i64 id]) Tryz.func23 rfl Tryz.results23 Tryz.ntmps23 (by simp) (Tryz.call23 _) (tm:=[(0,.a D.cells),(1,.v (.int .i64 id))]) rfl ?_;refine vc_ok ⟨tbE_ok,_,Tryz.func23,Tryz.results23,Tryz.ntmps23⟩ 400 _ _ _ _ ?_;conv=>whnf
 refine⟨fun b1=>?_,fun b1=>?_⟩<;>conv=>whnf
 ·refine⟨fun b2=>?_,fun b2=>?_⟩<;>conv=>whnf
  ·exact⟨rfl,rfl⟩
  ·have h1:1≤id:=by simpa using b1
   have h2:id≤(D.runs.length:Int):=by simpa using b2
   exact absurd ⟨h1,h2⟩ hid
 ·exact⟨rfl,rfl⟩
theorem OkS.sm {w:PW} {V:List Int} (ok:OkS w V) (hc:w.code.length≤1000):w.Sm:=by
 refine⟨hc,by have:=ok.n6;omega,by have:=ok.q6;omega,fun d hd=>?_⟩;obtain⟨i,hi,rfl⟩:=List.getElem_of_mem hd;have hF:=ok.run i hi;have h1:=nodup_len 6 _ hF.l2 fun x hx=>(hF.l1 x hx).1
 have h2:=nodup_len 6 _ hF.w2 fun x hx=>(hF.w1 x hx).1
 exact⟨by have:=hF.sl;omega,by have:=hF.mail;omega,by omega,by omega⟩
theorem OkS.why {w:PW} {V:List Int} (ok:OkS w V):∀d∈w.runs,okV (d.wk,d.wn)=true:=by
 intro d hd;obtain⟨i,hi,rfl⟩:=List.getElem_of_mem hd;have h:=(ok.fit i hi).ok;unfold Eld.specRB at h;rw [Bool.and_eq_true] at h;exact h.2
theorem zero_sm:WD.zero.pure.Sm:=⟨by show (0:Nat)≤1000;omega,by show (0:Nat)≤1000;omega,by show (0:Nat)≤1000;omega,fun _ h=>absurd h List.not_mem_nil⟩
theorem zero_own {h:Hp} {l:List Atom} (o:Own h l):Own h (wAtoms WD.zero++l):=by
 have h1:Own h (.row (rowO (.slice none 0 0) [])::l):=o.add ⟨rfl,.inl ⟨rfl,rfl⟩⟩ (fun g e=>by cases e) (fun _ _=>rfl);have h2:Own h (.row (rowI (.slice none 0 0) [])::.row (rowO (.slice none 0 0) [])::l):=h1.add ⟨rfl,.inl ⟨rfl,rfl⟩⟩ (fun g e=>by cases e) (fun _ _=>rfl);exact h2.add ⟨rfl,.inl ⟨rfl,rfl⟩⟩ (fun g e=>by cases e) (fun _ _=>rfl)
theorem Own.turnL {h:Hp} {A B C:List Atom} (o:Own h (A++(B++C))):Own h (B++(A++C)):=o.perm (perm_of fun x=>by simp only [List.count_append];omega)
theorem Own.wL {h:Hp} {D:WD} {l:List Atom} (o:Own h (wAtoms D++l)):WIn h D:=o.win fun _ hx=>List.mem_append_left _ hx
theorem Own.dropL {h:Hp}:∀{A B:List Atom},Own h (A++B)→Own h B
 |[],_,o=>o
 |_::A,B,o=>Own.dropL (A:=A) (B:=B) o.tail
theorem cb_leT {cb:Option (Nat×Obj)} {h:Hp} {l:List Atom} (o:Own h (l++cbAtoms cb)):(cbHp cb).le h:=cb_le (l:=[]) (by rw [List.append_nil];exact o.dropL)
def Sb (w:PW) (S:Int):Prop:=0≤w.sent∧w.sent+280*(w.ne:Int)≤S+280*(w.runs.length:Int)
theorem Sb.mono {w:PW} {S T:Int} (h:Sb w S) (k:S≤T):Sb w T:=⟨h.1,by have:=h.2;omega⟩
theorem Sb.of {w w':PW} {S:Int} (h:Sb w S) (h1:w'.sent=w.sent) (h2:w'.ne≤w.ne) (h3:w'.runs.length=w.runs.length):Sb w' S:=⟨by rw [h1];exact h.1,by rw [h1,h3];have:=h.2;omega⟩
theorem Sb.le {w:PW} {S:Int} (h:Sb w S) (h6:w.runs.length≤6) (hS:S≤1000000):w.sent≤1010000:=by have:=h.2;omega
theorem giveP_se (w:PW) (id:Int) (v:Int×Int) (h0:0≤w.sent) (h1:w.sent≤1000000000):(giveP w id v).sent=w.sent+1:=by
 have e1:wr (w.sent+1)=w.sent+1:=wrapN _ (by omega) (by omega);unfold giveP giveAt loseP
 split
 ·split
  ·split
   ·exact e1
   ·split<;>exact e1
  ·exact e1
 ·exact e1
theorem Sb.give {w:PW} {S:Int} (h:Sb w S) (h6:w.runs.length≤6) (hS:S≤1000000) (id:Int) (v:Int×Int):Sb (giveP w id v) (S+1):=by
 have hl:=h.le h6 hS;have e:=giveP_se w id v h.1 (by omega);have hn:=giveP_ne w id v;refine⟨by rw [e];have:=h.1;omega,?_⟩;rw [e,(giveP_len w id v).1];have:=h.2;omega
theorem linkStep_se (s:PW×List Int) (id:Int) (v:Int×Int) (k:Int) (h0:0≤s.1.sent) (h1:s.1.sent≤1000000000):s.1.sent≤(linkStep id v s k).1.sent∧(linkStep id v s k).1.sent≤s.1.sent+1:=by
 unfold linkStep
 split
 ·exact⟨Int.le_refl _,by omega⟩
 ·split
  ·exact⟨Int.le_refl _,by show s.1.sent≤s.1.sent+1;omega⟩
  ·split
   ·rename_i d _ _ _
    have e:=giveP_se { s.1 with runs:=s.1.runs.set (k-1).toNat { d with links:=lessP d.links id } } k (3,id) h0 h1;rw [e];exact⟨by show s.1.sent≤s.1.sent+1;omega,Int.le_refl _⟩
   ·exact⟨Int.le_refl _,by show s.1.sent≤s.1.sent+1;omega⟩
theorem links_se (id:Int) (v:Int×Int):∀(L:List Int) (s:PW×List Int),0≤s.1.sent→s.1.sent+(L.length:Int)≤1000000000→s.1.sent≤(L.foldl (linkStep id v) s).1.sent∧(L.foldl (linkStep id v) s).1.sent≤s.1.sent+(L.length:Int)
 |[],s,_,_=>⟨Int.le_refl _,by simp⟩
 |k::L,s,h0,h1=>by
  rw [List.length_cons] at h1;have h2:=linkStep_se s id v k h0 (by omega);have h3:=links_se id v L (linkStep id v s k) (by omega) (by omega);rw [List.foldl_cons,List.length_cons];omega
theorem gives_se (v:Int×Int):∀(L:List Int) (w:PW),0≤w.sent→w.sent+(L.length:Int)≤1000000000→(L.foldl (fun w k=>giveP w k v) w).sent=w.sent+(L.length:Int)
 |[],w,_,_=>by simp
 |k::L,w,h0,h1=>by
  rw [List.length_cons] at h1;have h2:=giveP_se w k v h0 (by omega);have h3:=gives_se v L (giveP w k v) (by omega) (by omega);rw [List.foldl_cons,List.length_cons,h3,h2];omega
theorem oneP_sb {w:PW} {S:Int} {B:Nat} (h:Sb w S) (hw:w.Wk B) (hB:B≤140) (hS:S≤1000000) (i:Nat) (hi:i<w.runs.length) (v:Int×Int) (h3:w.runs[i].st≠3):Sb (oneP w i ((i:Int)+1) w.runs[i] v).1 S:=by
 have hl:=h.le hw.runs hS;have h0:=h.1;have hk:=hw.linksB _ (List.getElem_mem hi);have ht:=hw.watB _ (List.getElem_mem hi);have hn:=oneP_ne w i hi ((i:Int)+1) v h3;have hlen:=(oneP_wk hw i hi v).2.1;have e0:(fallA w i ((i:Int)+1) w.runs[i] v).sent=w.sent:=rfl;have h1:=links_se ((i:Int)+1) v w.runs[i].links (fallA w i ((i:Int)+1) w.runs[i] v,[]) (by show 0≤w.sent;omega) (by show w.sent+_≤_;omega);have h1':w.sent≤(w.runs[i].links.foldl (linkStep ((i:Int)+1) v) (fallA w i ((i:Int)+1) w.runs[i] v,[])).1.sent∧(w.runs[i].links.foldl (linkStep ((i:Int)+1) v) (fallA w i ((i:Int)+1) w.runs[i] v,[])).1.sent≤w.sent+(w.runs[i].links.length:Int):=h1;have h2:=gives_se (3,(i:Int)+1) w.runs[i].wat (w.runs[i].links.foldl (linkStep ((i:Int)+1) v) (fallA w i ((i:Int)+1) w.runs[i] v,[])).1 (by omega) (by omega);have h2':(oneP w i ((i:Int)+1) w.runs[i] v).1.sent=(w.runs[i].links.foldl (linkStep ((i:Int)+1) v) (fallA w i ((i:Int)+1) w.runs[i] v,[])).1.sent+(w.runs[i].wat.length:Int):=h2;refine⟨by omega,?_⟩;rw [hlen];have:=h.2;omega
theorem EndR.sb {v:Int×Int} {w w':PW} {L:List Int} {B:Nat} {S:Int} (hB:B≤140) (hS:S≤1000000) (h:EndR v w L w'):w.Wk B→(∀x∈L,1≤x∧x≤(w.runs.length:Int))→Sb w S→Sb w' S:=by
 induction h using EndR.ind with
 |nil w=>exact fun _ _ s=>s
 |skip h1 h2 h3 ih=>exact fun h hL s=>ih h (fun x hx=>hL x (List.mem_cons_of_mem _ hx)) s
 |@one w w' k L d h1 h2 h3 ih =>
  intro h hL s;obtain⟨hi,rfl⟩:=List.getElem?_eq_some_iff.1 h1;have hk:=hL k List.mem_cons_self;have hkk:(((k-1).toNat:Nat):Int)+1=k:=by omega
  have h4:=oneP_wk h (k-1).toNat hi v;have h5:=oneP_sb s h hB hS (k-1).toNat hi v h2;rw [hkk] at h4 h5;exact ih h4.1 (fun x hx=>by
   rw [h4.2.1];rcases List.mem_append.1 hx with hx|hx
   ·exact hL x (List.mem_cons_of_mem _ hx)
   ·exact h.links _ (List.getElem_mem hi) x (oneP_sub _ _ _ _ _ x hx)) h5
theorem Sb.set {w:PW} {S:Int} (h:Sb w S) {i:Nat} (hi:i<w.runs.length) {y:RunD} (hy:y.st≠3→w.runs[i].st≠3) (q:List Int) (t lo n:Int):Sb { w with runs:=w.runs.set i y,queue:=q,taken:=t,lost:=lo,now:=n } S :=
 h.of rfl (ne_set hi hy) List.length_set
theorem Sb.setD {w:PW} {S:Int} (h:Sb w S) (i:Nat) (d y:RunD) (hy:y.st=(w.runs.getD i d).st):Sb { w with runs:=w.runs.set i y } S:=by
 by_cases hi:i<w.runs.length
 ·refine h.set hi (fun e=>?_) w.queue w.taken w.lost w.now;rw [List.getD_eq_getElem?_getD,List.getElem?_eq_getElem hi] at hy;rw [hy] at e;exact e
 ·rw [List.set_eq_of_length_le (by omega)];exact h
theorem ne_append (L:List RunD) (y:RunD):(L++[y]).countP (fun d=>d.st != 3)≤L.countP (fun d=>d.st != 3)+1:=by
 rw [List.countP_append];have:[y].countP (fun d=>d.st != 3)≤1:=List.countP_le_length;omega
theorem begin_sb {w:PW} {S:Int} (h:Sb w S) {i:Nat} (hi:i<w.runs.length) (id:Int) (o:OpD) (k:Nat):Sb (beginP w i id w.runs[i] o k) S:=by
 unfold beginP
 split
 ·exact h.set hi (y:=(w.runs[i].put k (0,0)).next) (fun e=>e) w.queue w.taken w.lost w.now
 ·have hi':i<(w.runs++[newD (w.runs.length+1) o.to (3,id)]).length:=by rw [List.length_append];simp;omega
  have h1:((w.runs++[newD (w.runs.length+1) o.to (3,id)]).set i ((w.runs[i].put k (3,w.runs.length+1)).next)).countP (fun d=>d.st != 3)≤(w.runs++[newD (w.runs.length+1) o.to (3,id)]).countP (fun d=>d.st != 3):=ne_set hi' fun e=>by
   rw [List.getElem_append_left hi];exact e
  have h2:=ne_append w.runs (newD (w.runs.length+1) o.to (3,id));refine⟨h.1,?_⟩;show w.sent+280*((((w.runs++[newD (w.runs.length+1) o.to (3,id)]).set i ((w.runs[i].put k (3,w.runs.length+1)).next)).countP (fun d=>d.st != 3):Nat):Int)≤S+280*(((((w.runs++[newD (w.runs.length+1) o.to (3,id)]).set i ((w.runs[i].put k (3,w.runs.length+1)).next)).length:Nat)):Int);rw [List.length_set,List.length_append,List.length_singleton];have h3:=h.2;unfold PW.ne at h3;omega
theorem take_sb {w:PW} {S:Int} (h:Sb w S) {i:Nat} (hi:i<w.runs.length) (hs:w.runs[i].st=1) (id:Int) (o:OpD) (k:Nat):Sb (takeP w i id w.runs[i] o k) S:=by
 have h3:w.runs[i].st≠3:=by rw [hs];decide
 unfold takeP waitP
 split
 ·exact h.set hi (fun _=>h3) w.queue _ w.lost w.now
 ·split
  ·exact h.set hi (fun _=>h3) _ w.taken w.lost w.now
  ·split
   ·exact h.set hi (fun _=>h3) w.queue w.taken w.lost w.now
   ·exact h.set hi (fun _=>h3) _ w.taken w.lost w.now
theorem other_sb {w:PW} {S:Int} (h:Sb w S) (h6:w.runs.length≤6) (hS:S≤1000000) {i:Nat} (hi:i<w.runs.length) (id:Int) (o:OpD) (tt sv:Int×Int):Sb (otherP w i id w.runs[i] o tt sv) (S+1):=by
 have h1:Sb { w with runs:=w.runs.set i w.runs[i].next } S:=h.set hi (y:=w.runs[i].next) (fun e=>e) w.queue w.taken w.lost w.now;have hl:(w.runs.set i w.runs[i].next).length≤6:=by rw [List.length_set];exact h6
 unfold otherP otherQ
 split
 ·exact h1.give hl hS _ _
 split
 ·exact h1.give hl hS _ _
 split
 ·exact h1.mono (by omega)
 split
 ·exact Sb.mono (h1.setD _ w.runs[i] _ rfl) (by omega)
 split
 ·refine Sb.mono (S:=S) ?_ (by omega);have h2:Sb { w with runs:=(w.runs.set i w.runs[i].next).set i { w.runs[i].next with links:=w.runs[i].links++[tt.2] } } S:=h1.set (w:={ w with runs:=w.runs.set i w.runs[i].next }) (i:=i) (by show i<(w.runs.set i _).length;rw [List.length_set];exact hi) (fun e=>by show ((w.runs.set i w.runs[i].next)[i]'(by rw [List.length_set];exact hi)).st≠3;rw [List.getElem_set_self];exact e) w.queue w.taken w.lost w.now;refine h2.setD _ w.runs[i] _ ?_;show ((w.runs.set i w.runs[i].next).getD (tt.2-1).toNat w.runs[i]).st=(((w.runs.set i w.runs[i].next).set i { w.runs[i].next with links:=w.runs[i].links++[tt.2] }).getD (tt.2-1).toNat w.runs[i]).st;rw [List.getD_eq_getElem?_getD,List.getD_eq_getElem?_getD,List.set_set];by_cases e:i=(tt.2-1).toNat
  ·rw [←e,List.getElem?_set_self hi,List.getElem?_set_self hi];rfl
  ·rw [List.getElem?_set_ne e,List.getElem?_set_ne e]
 ·exact h1.mono (by omega)
theorem stepR_sb {w w':PW} {B:Nat} {S:Int} (hw:w.Wk B) (hB:B≤140) (hS:S≤1000000) (i:Nat) (hi:i<w.runs.length) (hs:w.runs[i].st=1) (o:OpD) (h:stepR w i ((i:Int)+1) w.runs[i] o w') (s:Sb w S):Sb w' (S+1):=by
 have fall:∀{v:Int×Int},EndR v w [(i:Int)+1] w'→Sb w' (S+1):=fun e=>(EndR.sb hB hS e hw (fun x hx=>by rw [List.mem_singleton.1 hx];omega) s).mono (by omega)
 have put:∀y:RunD,y.st=w.runs[i].st→Sb { w with runs:=w.runs.set i y } (S+1):=fun y e=>(s.set hi (fun f=>by rw [e] at f;exact f) w.queue w.taken w.lost w.now).mono (by omega)
 unfold stepR at h;by_cases e1:o.k=1
 ·rw [if_pos e1] at h;rw [h];exact put _ rfl
 rw [if_neg e1] at h;by_cases e2:o.k=2
 ·rw [if_pos e2] at h;rw [h];exact put _ rfl
 rw [if_neg e2] at h;by_cases e3:o.k=3
 ·rw [if_pos e3] at h
  split at h
  ·rw [h];exact put _ rfl
  ·exact fall h
 rw [if_neg e3] at h;by_cases e4:o.k=4
 ·rw [if_pos e4] at h;rw [h];exact put _ rfl
 rw [if_neg e4] at h;by_cases e5:o.k=5
 ·rw [if_pos e5] at h;rw [h];exact(begin_sb s hi _ _ _).mono (by omega)
 rw [if_neg e5] at h;by_cases e7:o.k=7∨o.k=8
 ·rw [if_pos e7] at h;rw [h];exact(take_sb s hi hs _ _ _).mono (by omega)
 rw [if_neg e7] at h;by_cases e9:o.k=9
 ·rw [if_pos e9] at h;rw [h];exact put _ rfl
 rw [if_neg e9] at h;by_cases e10:o.k=10
 ·rw [if_pos e10] at h;rw [h];exact put _ rfl
 rw [if_neg e10] at h;by_cases e13:o.k=13
 ·rw [if_pos e13] at h;rw [h];exact put _ rfl
 rw [if_neg e13] at h;by_cases e14:o.k=14
 ·rw [if_pos e14] at h;exact fall h
 rw [if_neg e14] at h;rcases h with⟨_,h⟩|⟨_,h⟩
 ·exact fall h
 ·rw [h];exact other_sb s hw.runs hS hi _ _ _ _
theorem StepsR.sb {i:Nat} {id:Int} (hid:id=(i:Int)+1) {R:Nat→Prop} {n:Nat} {w w':PW} (h:StepsR i id n w w'):∀(B:Nat) (S:Int),w.Inv B R→CodeR w.code R→w.code.length≤1000→i<w.runs.length→B+n≤140→S+n≤1000000→Sb w S→Sb w' (S+n):=by
 induction h using StepsR.ind with
 |zero w=>exact fun B S _ _ _ _ _ _ s=>s.mono (by omega)
 |stop n w d _ _=>exact fun B S _ _ _ _ _ _ s=>s.mono (by omega)
 |step n w w1 w' d p o h1 h2 h3 h4 h5 h6 ih =>
  intro B S hw c hC hi hB hS s;have hd:w.runs[i]=d:=by rw [List.getElem?_eq_getElem hi] at h1;cases h1;rfl
  obtain⟨hlt,ho⟩:=List.getElem?_eq_some_iff.1 h4;subst hd;subst ho;obtain⟨q,hq,hR⟩:=(hw.runs _ (List.getElem_mem hi)).at_;have e:p=q:=by omega
  subst e;rw [hid] at h5;have hA:=stepR_inv hw c hC i hi p h3 hR hlt h5;have hL:=stepR_len hw i hi h5;have hs:=stepR_sb hw.wk (by omega) (by omega) i hi h2 _ h5 s;exact(ih (B+1) (S+1) hA (by rw [hL.1];exact c) (by rw [hL.1];exact hC) (by omega) (by omega) (by omega) hs).mono (by omega)
theorem doR_sb {w w':PW} {R:Nat→Prop} (h:doR w w') (B:Nat) (S:Int) (hw:w.Inv B R) (c:CodeR w.code R) (hC:w.code.length≤1000) (hB:B+3≤140) (hS:S+3≤1000000) (s:Sb w S):Sb w' (S+3):=by
 unfold doR at h
 split at h
 ·rw [h];exact s.mono (by omega)
 ·rename_i id q hq
  obtain⟨d,w2,d2,h1,h2,h3,h4⟩:=h;obtain⟨j,hid,_⟩:=hw.wk.q2 id (by rw [hq];exact List.mem_cons_self);have hj:(id-1).toNat=j:=by omega
  rw [hj] at h1 h2 h3;obtain⟨hi,rfl⟩:=List.getElem?_eq_some_iff.1 h1;have hm:=List.getElem_mem hi;have hri:=hw.runs _ hm;have hA:=hw.set c j hi w.runs[j].turn _ hw.wk.q1 (hw.wk.stay hi rfl) ⟨hri.at_,hri.sv,hri.mv,hri.why⟩ (hw.wk.slots w.runs[j] hm) (hw.wk.mail w.runs[j] hm) (hw.wk.linksB w.runs[j] hm) (hw.wk.watB w.runs[j] hm) (hw.wk.links w.runs[j] hm) w.now w.sent w.taken w.lost;have s1:Sb { w with runs:=w.runs.set j w.runs[j].turn } S:=s.set hi (y:=w.runs[j].turn) (fun e=>e) w.queue w.taken w.lost w.now;have s2:=StepsR.sb hid h2 B S hA c hC (by show j<(w.runs.set j _).length;rw [List.length_set];exact hi) hB hS s1;rw [h4]
  split
  ·exact s2.of rfl (Nat.le_refl _) rfl
  ·exact s2
theorem tickS_sb {w:PW} {S:Int} (h:Sb w S) (j:Nat):Sb (tickS w j) S:=by
 unfold tickS
 split
 ·rename_i d hd
  obtain⟨hi,rfl⟩:=List.getElem?_eq_some_iff.1 hd
  split
  ·rename_i hc
   refine h.set hi (fun _ e=>?_) _ w.taken w.lost w.now;rw [e] at hc
   cases hc
  ·exact h
 ·exact h
theorem ticks_sb:∀(L:List Nat) {w:PW} {S:Int},Sb w S→Sb (L.foldl tickS w) S
 |[],_,_,h=>h
 |j::L,_,_,h=>ticks_sb L (tickS_sb h j)
theorem eventR_sb {w w':PW} {e:EvD} {R:Nat→Prop} (h:eventR w e w') (B:Nat) (S:Int) (hw:w.Inv B R) (c:CodeR w.code R) (hC:w.code.length≤1000) (hB:B+3≤140) (hS:S+3≤1000000) (s:Sb w S):Sb w' (S+3):=by
 have up:=s.mono (by omega:S≤S+3);unfold eventR at h;by_cases e1:e.k=1
 ·rw [if_pos e1] at h;exact doR_sb h B S hw c hC hB hS s
 rw [if_neg e1] at h;by_cases e2:e.k=2
 ·rw [if_pos e2] at h;rw [h]
  unfold tickP
  split
  ·exact up
  ·exact ticks_sb _ (up.of (w':={ w with now:=wr (w.now+1) }) rfl (Nat.le_refl _) rfl)
 rw [if_neg e2] at h;by_cases e3:e.k=3
 ·rw [if_pos e3] at h;rw [h]
  by_cases hv:okV (e.vk,e.vn)=true
  ·rw [if_pos hv];exact(s.give hw.wk.runs (by omega) _ _).mono (by omega)
  ·rw [if_neg hv];exact up
 rw [if_neg e3] at h;by_cases e4:e.k=4
 ·rw [if_pos e4] at h;rcases h with⟨d,hv,h1,hd,_,hR⟩|⟨h,_⟩
  ·have hl:=(List.getElem?_eq_some_iff.1 hd).1;exact EndR.sb (by omega) (by omega) hR hw.wk (fun x hx=>by rw [List.mem_singleton.1 hx];omega) up
  ·rw [h];exact up
 rw [if_neg e4] at h;rw [h];exact up
theorem PlayR.sb {C:List OpD} {R:Nat→Prop} (c:CodeR C R) (h0:R 0) (hC:C.length≤1000) {es:List EvD} {w:PW} (h:PlayR C es w):w.Inv (3*es.length) R∧w.code=C∧(es.length≤45→Sb w (3*(es.length:Int))):=by
 refine PlayR.keep (I:=fun es w=>w.Inv (3*es.length) R∧w.code=C∧(es.length≤45→Sb w (3*(es.length:Int)))) ⟨fresh_inv c h0,rfl,fun _=>⟨Int.le_refl _,by show (0:Int)+280*((1:Nat):Int)≤3*((0:Nat):Int)+280*((1:Nat):Int);omega⟩⟩ (fun es w e w' ⟨i1,i2,i3⟩ h2=>?_) h;have:=eventR_inv h2 _ i1 (by rw [i2];exact c) (by rw [i2];omega);rw [List.length_append];refine⟨this.1,this.2.1.trans i2,fun hl=>?_⟩;have hl':es.length+1≤45:=hl;have:=eventR_sb h2 _ (3*(es.length:Int)) i1 (by rw [i2];exact c) (by rw [i2];omega) (by omega) (by omega) (i3 (by omega));exact this.mono (by simp;omega)
end Go.Proofs.YtgmkmeodimmdoaaGreatDoor
