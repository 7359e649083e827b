import Derived.Test.YtllbeifcipefjaaGreatDoorRexSe
namespace Go.Proofs.YtllbeifcipefjaaGreatDoor
open Go.RowKit
set_option maxRecDepth 100000
def GiveOk (w:PW) (v:Int×Int):Prop:=WOk w∧okV v=true∧w.sent<9990
abbrev WD.zero:WD:=⟨[],[],[],0,0,0,0,none,0,none,0,none,0⟩
theorem OkS.q6 {w:PW} {V:List Int} (ok:OkS w V):w.queue.length≤6:=by
 obtain⟨h1,h2⟩:=(idsB_iff 0 w.queue).1 ok.ids
 exact nodup_len 6 w.queue h2 fun x hx=>(h1 x hx).1
theorem OkS.q5 {w:PW} {V:List Int} (ok:OkS w V) (i:Nat) (hi:i<w.runs.length) (hs:w.runs[i].st≠1):w.queue.length<6:=by
 obtain⟨h1,h2⟩:=(idsB_iff 0 w.queue).1 ok.ids
 have hf:=ok.fit i hi
 have hn:((i:Int)+1)∉w.queue:=fun h=>by
  have e:=hf.q
  rw [hf.id,among_mem.2 h] at e
  exact hs (by simpa using e.symm)
 have h6:=ok.n6
 have:=nodup_len 6 (((i:Int)+1)::w.queue) (List.nodup_cons.2 ⟨hn,h2⟩) fun x hx=>by
  rcases List.mem_cons.1 hx with rfl | hx
  ·omega
  ·exact(h1 x hx).1
 rw [List.length_cons] at this
 omega
theorem OkS.run {w:PW} {V:List Int} (ok:OkS w V) (i:Nat) (hi:i<w.runs.length):RunF w.runs[i]:=by
 have h:=(ok.fit i hi).ok
 unfold Eld.specRB at h
 rw [Bool.and_eq_true] at h
 exact runF h.1
theorem OkS.at {w:PW} {V:List Int} (ok:OkS w V) (i:Nat) (hi:i<w.runs.length):∃k:Nat,w.runs[i].pl=k∧k<w.code.length:=by
 have h1:=(ok.run i hi).pl
 have h2:=(ok.fit i hi).pl
 exact⟨w.runs[i].pl.toNat,by omega,by omega⟩
theorem SD.Of.size {S:SD} {w:PW} (h:S.Of w):S.size=w.queue.length:=by
 rw [←h.pure]
 show S.size=(ringL S.room S.first S.size).length
 simp [ringL]
theorem iValOk_con (v:Int×Int) (h:Hp):Con Tryz.prog 22 #[.agg #[.int .i64 v.1,.int .i64 v.2]] h fun r h'=>r=.bool (okV v)∧h'=h:=by
 refine Con.of_below (Tryz.call22 _) fun w _=>?_
 exact(Eld.implOk_any v.1 v.2 w).mono fun e w' ⟨he,hb⟩=>⟨⟨_,he,rfl⟩,hb⟩
theorem iWorldGive_con (D:WD) (hsm:D.pure.Sm) (hy:∀d∈D.pure.runs,okV (d.wk,d.wn)=true) (id:Int) (v:Int×Int) (h:Hp) (l:List Atom) (ho:Own h (wAtoms D++l)) :
  Con Tryz.prog 8 #[D.val,.int .i64 id,.agg #[.int .i64 v.1,.int .i64 v.2]] h fun r h'=>(GiveOk D.pure v∧∃D',r=D'.val∧D'.pure=giveP D.pure id v∧Own h' (wAtoms D'++(wAtoms D++l)))∨(¬GiveOk D.pure v∧r=WD.zero.val∧h'=h):=by
 have hw:WI h D:=(ho.win fun x hx=>List.mem_append_left _ hx).wi
 refine Con.of_W (tb:=tbG) (args:=[D.val,.int .i64 id,.agg #[.int .i64 v.1,.int .i64 v.2]]) Tryz.func8 rfl Tryz.results8 Tryz.ntmps8 (by simp) (Tryz.call8 _) (tm:=[(0,.a D.cells),(1,.v (.int .i64 id)),(2,.a [.int .i64 v.1,.int .i64 v.2])]) rfl ?_
 refine vc_ok ⟨tbG_ok,_,Tryz.func8,Tryz.results8,Tryz.ntmps8⟩ 400 _ _ _ _ ?_
 conv=>whnf
 refine(iWorldOk_con D hsm hy h hw).mono ?_
 rintro r h1 ⟨⟨b,rfl,hb⟩,rfl⟩
 conv=>whnf
 refine⟨fun b0=>?_,fun b0=>?_⟩<;>conv=>whnf
 ·refine(iValOk_con v h1).mono ?_
  rintro r h1 ⟨rfl,rfl⟩
  conv=>whnf
  refine⟨fun b1=>?_,fun b1=>?_⟩<;>conv=>whnf
  ·refine⟨fun b2=>?_,fun b2=>?_⟩<;>conv=>whnf
   ·exact .inr ⟨fun g=>absurd (show D.sent<9990 from g.2.2) (by simpa using b2),rfl,rfl⟩
   ·have hok:WOk D.pure:=hb.1 (by simpa using b0)
    have hg:GiveOk D.pure v:=⟨hok,by simpa using b1,show D.sent<9990 by simpa using b2⟩
    obtain⟨_,V,_,ok⟩:=hok
    refine(sceneOf_con D hsm ok.q6 h1 l ho).mono ?_
    rintro r h2 ⟨g,S,rfl,hS,ho2⟩
    conv=>whnf
    have hlS:S.D.runs.length=D.pure.runs.length:=by rw [←hS.pure];show _=(S.D.runs.map _).length;rw [List.length_map]
    have hgS:∀i (hi:i<S.D.runs.length),D.pure.runs[i]'(by rw [←hlS];exact hi)=S.D.runs[i].1:=fun i hi=>by
     have e:D.pure.runs=S.D.runs.map (·.1):=by rw [←hS.pure];rfl
     simp only [e,List.getElem_map]
    have hcS:D.pure.code=S.D.code:=by rw [←hS.pure];rfl
    refine(sgive_con g S.nq D.pure hS.nq (by have:=ok.n6;show S.D.runs.length≤1000;omega) id v hg.2.1 (fun i hi hs=>?_) h2 _ (sc_open ho2)).mono ?_
    ·have hi':i<D.pure.runs.length:=by rw [←hlS];exact hi
     have e:=hgS i hi
     obtain⟨k,hk1,hk2⟩:=ok.at i hi'
     refine⟨?_,k,?_,?_⟩
     ·show S.size<6
      rw [hS.size]
      exact ok.q5 i hi' (by rw [e,show S.D.runs[i].1.st=2 from hs];decide)
     ·rw [←hk1,e]
     ·show k<S.D.code.length
      rw [←hcS];exact hk2
    ·rintro r h3 ⟨rfl,S',hS',ho3⟩
     conv=>whnf
     refine(told_con g S' _ hS' h3 _ (sc_shut ho3)).mono ?_
     rintro r h4 ⟨D',rfl,hD',ho4⟩
     conv=>whnf
     exact .inl ⟨hg,D',rfl,hD',ho4⟩
  ·exact .inr ⟨fun g=>absurd g.2.1 (by simpa using b1),rfl,rfl⟩
 ·exact .inr ⟨fun g=>absurd (hb.2 g.1) (by simpa using b0),rfl,rfl⟩
theorem l12Give_ok (D:WD) {V:List Int} (ok:OkS D.pure V) (id:Int) (v:Int×Int) (h:Hp) (l:List Atom) (ho:Own h (wAtoms D++l)) :
  Con Tryz.prog 27 #[D.val,.int .i64 id,.agg #[.int .i64 v.1,.int .i64 v.2]] h fun r h'=>∃D',r=D'.val∧Own h' (wAtoms D'++l)∧D'.pure=giveP D.pure id v:=by
 have hl:=pure_len D
 have h6:=ok.n6
 have hq:D.queue.length≤6:=ok.q6
 by_cases hin:1≤id∧id≤(D.runs.length:Int)
 ·obtain⟨i,hi⟩:∃i:Nat,id=(i:Int)+1:=⟨(id-1).toNat,by omega⟩
  have hi':i<D.runs.length:=by omega
  have hat:=ok.at i (by omega)
  rw [pure_gets D hi'] at hat
  refine(giveIn_con D (by omega) (by omega) i hi' id hi hat v h l ho).mono ?_
  rintro r h1 ⟨D',rfl,ho',e⟩
  refine⟨D',rfl,ho',?_⟩
  rw [e]
  unfold giveP
  rw [if_pos (by rw [hl];exact hin),show (id-1).toNat=i by omega,List.getElem?_eq_getElem (by omega),pure_gets D hi']
 ·refine(giveOut_con D id hin v h l ho).mono ?_
  rintro r h1 ⟨rfl,rfl⟩
  refine⟨_,rfl,ho,?_⟩
  unfold giveP
  rw [if_neg (by rw [hl];exact hin)]
  rfl
theorem sWorldGive_con (D:WD) (hsm:D.pure.Sm) (id:Int) (v:Int×Int) (h:Hp) (l:List Atom) (ho:Own h (wAtoms D++l)) :
  Con Tryz.prog 10 #[D.val,.int .i64 id,.agg #[.int .i64 v.1,.int .i64 v.2]] h fun r h'=>(GiveOk D.pure v∧∃D',r=D'.val∧D'.pure=giveP D.pure id v∧Own h' (wAtoms D'++(wAtoms D++l)))∨(¬GiveOk D.pure v∧r=WD.zero.val∧h'=h):=by
 have hw:WIn h D:=ho.win fun x hx=>List.mem_append_left _ hx
 refine Con.of_W (tb:=tbE) (args:=[D.val,.int .i64 id,.agg #[.int .i64 v.1,.int .i64 v.2]]) Tryz.func10 rfl Tryz.results10 Tryz.ntmps10 (by simp) (Tryz.call10 _) (tm:=[(0,.a D.cells),(1,.v (.int .i64 id)),(2,.a [.int .i64 v.1,.int .i64 v.2])]) rfl ?_
 refine vc_ok ⟨tbE_ok,_,Tryz.func10,Tryz.results10,Tryz.ntmps10⟩ 400 _ _ _ _ ?_
 conv=>whnf
 refine(sWorldOk_con D hsm h hw).mono ?_
 rintro r h1 ⟨⟨b,rfl,hb⟩,rfl⟩
 conv=>whnf
 refine⟨fun b0=>?_,fun b0=>?_⟩<;>conv=>whnf
 ·refine(valOk_con v h1).mono ?_
  rintro r h1 ⟨rfl,rfl⟩
  conv=>whnf
  refine⟨fun b1=>?_,fun b1=>?_⟩<;>conv=>whnf
  ·refine⟨fun b2=>?_,fun b2=>?_⟩<;>conv=>whnf
   ·exact .inr ⟨fun g=>absurd (show D.sent<9990 from g.2.2) (by simpa using b2),rfl,rfl⟩
   ·have hok:WOk D.pure:=hb.1 (by simpa using b0)
    have hg:GiveOk D.pure v:=⟨hok,by simpa using b1,show D.sent<9990 by simpa using b2⟩
    obtain⟨_,V,_,ok⟩:=hok
    refine W.cut [(1,.v (.int .i64 id)),(3,.p 0 0),(5,.p 1 0),(6,.p 2 0)] _ [] ⟨rfl,rfl,rfl,rfl,trivial⟩ (List.append_nil _).symm rfl ⟨_,rfl⟩ ?_
    refine W.draw [(0,true),(2,true),(3,true),(1,false),(4,false),(5,false)] [0,1] none 99 (by kernel_rfl) rfl (by kernel_rfl) mixed rfl (fun g e=>by cases e) ?_
    refine vc_ok ⟨tbE_ok,_,Tryz.func10,Tryz.results10,Tryz.ntmps10⟩ 400 _ _ _ _ ?_
    conv=>whnf
    refine(l12Copy_con D hsm h1 l ho).mono ?_
    rintro r h2 ⟨D1,rfl,e1,ho1⟩
    conv=>whnf
    refine(l12Give_ok D1 (by rw [e1];exact ok) id v h2 _ ho1).mono ?_
    rintro r h3 ⟨D2,rfl,ho2,e2⟩
    conv=>whnf
    exact .inl ⟨hg,D2,rfl,by rw [e2,e1],ho2⟩
  ·exact .inr ⟨fun g=>absurd g.2.1 (by simpa using b1),rfl,rfl⟩
 ·exact .inr ⟨fun g=>absurd (hb.2 g.1) (by simpa using b0),rfl,rfl⟩
end Go.Proofs.YtllbeifcipefjaaGreatDoor
