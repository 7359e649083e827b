import Derived.Test.YtgmkmeodimmdoaaGreatDoorBTc
namespace Go.Proofs.YtgmkmeodimmdoaaGreatDoor
open Go.RowKit
set_option maxRecDepth 100000
theorem trapAt_unl (id:Int) (w:PW) (k:Int):trapAt (unlP id w) k=trapAt w k:=by
 unfold trapAt;have hg:(unlP id w).runs[(k-1).toNat]?=(w.runs[(k-1).toNat]?).map (RunD.unl id):=by simp [unlP]
 rw [hg]
 cases w.runs[(k-1).toNat]?<;>rfl
theorem trapAt_gift {T:List Int} {a b:PW} (h:GiftW T a b) (k:Int):trapAt b k=trapAt a k:=by
 unfold trapAt;by_cases hi:(k-1).toNat<a.runs.length
 ·have hb:(k-1).toNat<b.runs.length:=by rw [h.len];exact hi
  rw [List.getElem?_eq_getElem hi,List.getElem?_eq_getElem hb];exact(h.run _ hi hb).trap
 ·rw [List.getElem?_eq_none (by omega:a.runs.length≤(k-1).toNat),List.getElem?_eq_none (by rw [h.len];omega:b.runs.length≤(k-1).toNat)]
theorem trapAt_fallA {w:PW} {i:Nat} (hi:i<w.runs.length) (id:Int) (v:Int×Int) (k:Int):trapAt (fallA w i id w.runs[i] v) k=trapAt w k:=by
 unfold trapAt;have hg:(fallA w i id w.runs[i] v).runs[(k-1).toNat]?=((w.runs.set i (w.runs[i].fall v))[(k-1).toNat]?).map (RunD.unwatch id):=by
  show ((w.runs.set i (w.runs[i].fall v)).map (RunD.unwatch id))[(k-1).toNat]?=_;rw [List.getElem?_map]
 rw [hg];by_cases e:i=(k-1).toNat
 ·rw [←e,List.getElem?_set_self hi,List.getElem?_eq_getElem hi];rfl
 ·rw [List.getElem?_set_ne e]
  cases w.runs[(k-1).toNat]?<;>rfl
theorem trapAt_link (id:Int) (v:Int×Int) (w:PW) (Q:List Int) (k n:Int):trapAt (linkStep id v (w,Q) k).1 n=trapAt w n:=by
 rw [←trapAt_unl id,unl_link]
 split
 ·rw [trapAt_gift (giveP_gift _ _ _),trapAt_unl]
 ·rw [trapAt_unl]
theorem links_unl (id:Int) (v:Int×Int):∀(L:List Int) (w:PW) (Q:List Int),unlP id (L.foldl (linkStep id v) (w,Q)).1=(if normalP v then [] else L.filter (fun k=>trapAt w k)).foldl (fun w k=>giveP w k (3,id)) (unlP id w)
 |[],w,Q=>by simp
 |k::L,w,Q=>by
  rw [List.foldl_cons];have e:linkStep id v (w,Q) k=((linkStep id v (w,Q) k).1,(linkStep id v (w,Q) k).2):=rfl;rw [e,links_unl id v L];have hf:(fun n=>trapAt (linkStep id v (w,Q) k).1 n)=fun n=>trapAt w n:=funext fun n=>trapAt_link id v w Q k n
  rw [hf,unl_link];by_cases hn:normalP v=true
  ·rw [if_pos hn,if_neg (by rw [hn];simp),if_pos hn]
  ·have hn':normalP v=false:=by simpa using hn
   rw [if_neg hn,if_neg hn];by_cases ht:trapAt w k=true
   ·rw [if_pos ⟨hn',ht⟩,List.filter_cons,if_pos ht];rfl
   ·rw [if_neg fun e=>ht e.2,List.filter_cons,if_neg ht]
theorem links_next (id:Int) (v:Int×Int):∀(L:List Int) (w:PW) (Q:List Int),(∀k∈L,1≤k∧k≤(w.runs.length:Int))→(L.foldl (linkStep id v) (w,Q)).2=Q++(if normalP v then [] else L.filter (fun k=>!trapAt w k))
 |[],w,Q,_=>by simp
 |k::L,w,Q,hv=>by
  rw [List.foldl_cons];have e:linkStep id v (w,Q) k=((linkStep id v (w,Q) k).1,(linkStep id v (w,Q) k).2):=rfl;have hk:=hv k List.mem_cons_self;have hi:(k-1).toNat<w.runs.length:=by omega
  have hlen:(linkStep id v (w,Q) k).1.runs.length=w.runs.length:=by
   have:(unlP id (linkStep id v (w,Q) k).1).runs.length=(if normalP v=false∧trapAt w k=true then giveP (unlP id w) k (3,id) else unlP id w).runs.length:=congrArg (fun u:PW=>u.runs.length) (unl_link id v w Q k);have h1:(unlP id (linkStep id v (w,Q) k).1).runs.length=(linkStep id v (w,Q) k).1.runs.length:=by simp [unlP]
   rw [h1] at this;rw [this]
   split
   ·rw [(giveP_len _ _ _).1];simp [unlP]
   ·simp [unlP]
  rw [e,links_next id v L _ _ (fun n hn=>by rw [hlen];exact hv n (List.mem_cons_of_mem _ hn))];have hf:(fun n=>!trapAt (linkStep id v (w,Q) k).1 n)=fun n=>!trapAt w n:=funext fun n=>by rw [trapAt_link]
  rw [hf];have ht:trapAt w k=w.runs[(k-1).toNat].trap:=by unfold trapAt;rw [List.getElem?_eq_getElem hi]
  by_cases hn:normalP v=true
  ·have h2:(linkStep id v (w,Q) k).2=Q:=by unfold linkStep;dsimp only;rw [List.getElem?_eq_getElem hi];dsimp only;rw [if_pos hn]
   rw [h2,if_pos hn,if_pos hn]
  ·rw [if_neg hn,if_neg hn,List.filter_cons,ht];by_cases hb:w.runs[(k-1).toNat].trap=true
   ·have h2:(linkStep id v (w,Q) k).2=Q:=by unfold linkStep;dsimp only;rw [List.getElem?_eq_getElem hi];dsimp only;rw [if_neg hn,if_pos hb]
    rw [h2,if_neg (by rw [hb];simp)]
   ·have h2:(linkStep id v (w,Q) k).2=Q++[k]:=by unfold linkStep;dsimp only;rw [List.getElem?_eq_getElem hi];dsimp only;rw [if_neg hn,if_neg hb]
    rw [h2,if_pos (by simpa using hb)];simp
theorem giveP_links (w:PW) (k:Int) (x:Int×Int) (j:Nat) (hj:j<w.runs.length) (hb:j<(giveP w k x).runs.length):(giveP w k x).runs[j].links=w.runs[j].links:=((giveP_gift w k x).run j hj hb).links
theorem linkStep_links (id:Int) (v:Int×Int) (w:PW) (Q:List Int) (k:Int) (hk:1≤k∧k≤(w.runs.length:Int)):(linkStep id v (w,Q) k).1.runs.length=w.runs.length∧∀j (hj:j<w.runs.length) (hb:j<(linkStep id v (w,Q) k).1.runs.length),(linkStep id v (w,Q) k).1.runs[j].links=if k=(j:Int)+1 then lessP w.runs[j].links id else w.runs[j].links:=by
 have hi:(k-1).toNat<w.runs.length:=by omega
 have base:∀j (hj:j<w.runs.length) (hb:j<(w.runs.set (k-1).toNat { w.runs[(k-1).toNat] with links:=lessP w.runs[(k-1).toNat].links id }).length),(w.runs.set (k-1).toNat { w.runs[(k-1).toNat] with links:=lessP w.runs[(k-1).toNat].links id })[j].links=if k=(j:Int)+1 then lessP w.runs[j].links id else w.runs[j].links:=fun j hj hb=>by
  by_cases e:(k-1).toNat=j
  ·subst e;rw [List.getElem_set_self,if_pos (by omega)]
  ·rw [List.getElem_set_ne e,if_neg (by omega)]
 unfold linkStep;dsimp only;rw [List.getElem?_eq_getElem hi];dsimp only;by_cases hn:normalP v=true
 ·rw [if_pos hn];exact⟨by simp,base⟩
 ·rw [if_neg hn];by_cases hb:w.runs[(k-1).toNat].trap=true
  ·rw [if_pos hb];refine⟨by rw [(giveP_len _ _ _).1];simp,fun j hj hb=>?_⟩;rw [giveP_links _ _ _ j (by simpa using hj) hb];exact base j hj (by simpa using hj)
  ·rw [if_neg hb];exact⟨by simp,base⟩
theorem links_clean (id:Int) (v:Int×Int):∀(L:List Int) (w:PW) (Q:List Int),(∀k∈L,1≤k∧k≤(w.runs.length:Int))→(L.foldl (linkStep id v) (w,Q)).1.runs.length=w.runs.length∧∀j (hj:j<w.runs.length) (hb:j<(L.foldl (linkStep id v) (w,Q)).1.runs.length),(id∈w.runs[j].links→((j:Int)+1)∈L)→id∉(L.foldl (linkStep id v) (w,Q)).1.runs[j].links
 |[],w,Q,_=>⟨rfl,fun j hj hb h e=>by cases h e⟩
 |k::L,w,Q,hv=>by
  have hs:=linkStep_links id v w Q k (hv k List.mem_cons_self);have e:linkStep id v (w,Q) k=((linkStep id v (w,Q) k).1,(linkStep id v (w,Q) k).2):=rfl;have ih:=links_clean id v L (linkStep id v (w,Q) k).1 (linkStep id v (w,Q) k).2 (fun n hn=>by rw [hs.1];exact hv n (List.mem_cons_of_mem _ hn));simp only [List.foldl_cons];refine⟨ih.1.trans hs.1,fun j hj hb h=>?_⟩;refine ih.2 j (by rw [hs.1];exact hj) hb fun hm=>?_
  rw [hs.2 j hj (by rw [hs.1];exact hj)] at hm;by_cases hk:k=(j:Int)+1
  ·rw [if_pos hk] at hm;exact absurd rfl (mem_lessP.1 hm).2
  ·rw [if_neg hk] at hm;rcases List.mem_cons.1 (h hm) with e2|e2
   ·exact absurd e2.symm hk
   ·exact e2
theorem unl_id {id:Int} {w:PW} (h:∀j (hj:j<w.runs.length),id∉w.runs[j].links):unlP id w=w:=by
 have:w.runs.map (RunD.unl id)=w.runs:=by
  refine List.ext_getElem (by simp) fun j h1 h2=>?_
  simp only [List.getElem_map,RunD.unl];rw [lessP_id (h j h2)]
 unfold unlP;rw [this]
theorem gone_get (w:PW) (i:Nat) (hi:i<w.runs.length) (id:Int) (v:Int×Int):(goneP w i id w.runs[i] v).runs.length=w.runs.length∧∀j (hj:j<w.runs.length) (hb:j<(goneP w i id w.runs[i] v).runs.length),(goneP w i id w.runs[i] v).runs[j]=if i=j then w.runs[i].fall v else { w.runs[j] with links:=lessP w.runs[j].links id,wat:=lessP w.runs[j].wat id }:=by
 have e:(goneP w i id w.runs[i] v).runs=((w.runs.set i (w.runs[i].fall v)).map (RunD.unwatch id)).map (RunD.unl id):=rfl;refine⟨by rw [e];simp,fun j hj hb=>?_⟩;simp only [e,List.getElem_map];by_cases h:i=j
 ·subst h;rw [List.getElem_set_self,if_pos rfl];rfl
 ·rw [List.getElem_set_ne h,if_neg h];rfl
theorem one_eq {w:PW} {V:List Int} (ok:OkS w V) (i:Nat) (hi:i<w.runs.length) (v:Int×Int):(oneP w i ((i:Int)+1) w.runs[i] v).1=(toldP w w.runs[i] v).foldl (fun w k=>giveP w k (3,(i:Int)+1)) (goneP w i ((i:Int)+1) w.runs[i] v)∧(oneP w i ((i:Int)+1) w.runs[i] v).2=nextP w w.runs[i] v:=by
 have hlen:=fallA_len w i ((i:Int)+1) w.runs[i] v;have hv:∀k∈w.runs[i].links,1≤k∧k≤((fallA w i ((i:Int)+1) w.runs[i] v).runs.length:Int):=fun k hk=>by
  rw [hlen];exact ok.wk.links _ (List.getElem_mem _) k hk
 have hf:(fun n=>trapAt (fallA w i ((i:Int)+1) w.runs[i] v) n)=fun n=>trapAt w n:=funext fun n=>trapAt_fallA hi _ v n
 have hf2:(fun n=>!trapAt (fallA w i ((i:Int)+1) w.runs[i] v) n)=fun n=>!trapAt w n:=funext fun n=>by rw [trapAt_fallA hi _ v n]
 have hcl:=links_clean ((i:Int)+1) v w.runs[i].links (fallA w i ((i:Int)+1) w.runs[i] v) [] hv;have hun:unlP ((i:Int)+1) (w.runs[i].links.foldl (linkStep ((i:Int)+1) v) (fallA w i ((i:Int)+1) w.runs[i] v,[])).1=(w.runs[i].links.foldl (linkStep ((i:Int)+1) v) (fallA w i ((i:Int)+1) w.runs[i] v,[])).1:=unl_id fun j hj=>by
  have hjA:j<(fallA w i ((i:Int)+1) w.runs[i] v).runs.length:=by rw [←hcl.1];exact hj
  have hjw:j<w.runs.length:=by rw [←hlen];exact hjA
  refine hcl.2 j hjA hj fun hm=>?_
  have e:(fallA w i ((i:Int)+1) w.runs[i] v).runs[j].links=((w.runs.set i (w.runs[i].fall v))[j]'(by simpa using hjw)).links:=by
   have e1:(fallA w i ((i:Int)+1) w.runs[i] v).runs=(w.runs.set i (w.runs[i].fall v)).map (RunD.unwatch ((i:Int)+1)):=rfl;simp only [e1,List.getElem_map];rfl
  rw [e] at hm;by_cases hij:i=j
  ·subst hij;rw [List.getElem_set_self] at hm;exact absurd hm List.not_mem_nil
  ·rw [List.getElem_set_ne hij] at hm;rcases Nat.lt_or_gt_of_ne hij with h|h
   ·have:=ok.both j i hjw h;rw [among_mem.2 hm] at this;exact among_mem.1 this.symm
   ·have:=ok.both i j hi h;rw [among_mem.2 hm] at this;exact among_mem.1 this
 have h1:=links_unl ((i:Int)+1) v w.runs[i].links (fallA w i ((i:Int)+1) w.runs[i] v) [];rw [hf,hun] at h1;have h2:=links_next ((i:Int)+1) v w.runs[i].links (fallA w i ((i:Int)+1) w.runs[i] v) [] hv;rw [hf2,List.nil_append] at h2;refine⟨?_,h2⟩;unfold oneP;dsimp only;rw [h1];unfold toldP;rw [List.foldl_append];rfl
theorem idsB_less {own:Int} {L:List Int} (h:Eld.idsB own L=true) (n:Int):Eld.idsB own (lessP L n)=true:=by
 obtain⟨h1,h2⟩:=(idsB_iff own L).1 h;exact(idsB_iff own _).2 ⟨fun x hx=>h1 x (mem_lessP.1 hx).1,lessP_nodup h2⟩
theorem among_less {L:List Int} {n m:Int} (h:m≠n):amongP (lessP L n) m=amongP L m:=by
 rw [Bool.eq_iff_iff,among_mem,among_mem,mem_lessP];exact⟨fun x=>x.1,fun x=>⟨x,h⟩⟩
theorem among_lessN {L:List Int} {n:Int}:amongP (lessP L n) n=false:=by
 cases h:amongP (lessP L n) n
 ·rfl
 ·exact absurd rfl (mem_lessP.1 (among_mem.1 h)).2
theorem specRB_less {d:RunD} (h:Eld.specRB d.toE=true) (n:Int):Eld.specRB ({ d with links:=lessP d.links n,wat:=lessP d.wat n }:RunD).toE=true:=by
 unfold Eld.specRB Eld.runB at h ⊢;simp only [Bool.and_eq_true] at h ⊢;obtain⟨⟨a1,a2,a3,a4,a5,a6,a7,a8⟩,a9⟩:=h;refine⟨⟨a1,a2,a3,a4,a5,idsB_less a6 n,idsB_less a7 n,?_⟩,a9⟩;unfold Eld.endB at a8 ⊢;have hl:∀L:List Int,(L.length==0)=true→((lessP L n).length==0)=true:=fun L e=>by
  have:L=[]:=List.eq_nil_of_length_eq_zero (by simpa using e);rw [this];rfl
 by_cases h3:d.st=3
 ·rw [if_pos (show d.toE.st=3 from h3)] at a8;rw [if_pos (show ({ d with links:=lessP d.links n,wat:=lessP d.wat n }:RunD).toE.st=3 from h3)];simp only [Bool.and_eq_true] at a8 ⊢;exact⟨a8.1,hl _ a8.2.1,hl _ a8.2.2⟩
 ·rw [if_neg (show ¬d.toE.st=3 from h3)] at a8;rw [if_neg (show ¬({ d with links:=lessP d.links n,wat:=lessP d.wat n }:RunD).toE.st=3 from h3)];exact a8
theorem specRB_fall {d:RunD} (h:Eld.specRB d.toE=true) {v:Int×Int} (hv:okV v=true):Eld.specRB (d.fall v).toE=true:=by
 have hv':Eld.okB v.1 v.2=true:=hv;unfold Eld.specRB Eld.runB Eld.mailB Eld.countsB at h ⊢;simp only [Bool.and_eq_true,decide_eq_true_eq] at h ⊢;obtain⟨⟨a1,a2,a3,_,⟨_,_,_,_,a5,a6⟩,_,_,_⟩,_⟩:=h;exact⟨⟨a1,a2,a3,⟨Nat.zero_le _,rfl⟩,⟨by show (1:Int)≤3;decide,by show (3:Int)≤3;decide,by show (-1:Int)≤0;decide,by show (0:Int)≤400;decide,a5,a6⟩,rfl,rfl,rfl⟩,hv'⟩
theorem mails_map (f:RunD→RunD) (hf:∀d,(f d).mail=d.mail) (L:List RunD):mailsP (L.map f)=mailsP L:=by
 unfold mailsP;rw [List.map_map]
 congr 1
 exact List.map_congr_left fun d _=>by show (f d).mail.length=_;rw [hf]
theorem gone_oks {w:PW} {V:List Int} (ok:OkS w V) (i:Nat) (hi:i<w.runs.length) {v:Int×Int} (hv:okV v=true):OkS (goneP w i ((i:Int)+1) w.runs[i] v) V:=by
 obtain⟨hlen,hget⟩:=gone_get w i hi ((i:Int)+1) v;have hcnt:=ok.cnt;have hsum:=ok.sum;have hm:=mails_set w.runs i hi (w.runs[i].fall v);have hm0:(w.runs[i].fall v).mail.length=0:=rfl;have h0:=hcnt.taken;have h1:=hcnt.lost;have h2:=hcnt.sent;have hlost:(goneP w i ((i:Int)+1) w.runs[i] v).lost=w.lost+w.runs[i].mail.length:=by
  show wr (w.lost+w.runs[i].mail.length)=_;exact wrapN _ (by omega) (by omega)
 have hid:∀j (hj:j<w.runs.length),w.runs[j].id=(j:Int)+1:=fun j hj=>(ok.fit j hj).id
 refine⟨by rw [hlen];exact ok.n1,by rw [hlen];exact ok.n6,⟨hcnt.now,h2,h0,by rw [hlost];omega⟩,idsB_less ok.ids _,fun j hj=>?_,fun x hx=>?_,fun a b ha hb=>?_,?_⟩
 ·have hj':j<w.runs.length:=by rw [←hlen];exact hj
  have hf:=ok.fit j hj';rw [hget j hj' hj];by_cases e:i=j
  ·subst e;rw [if_pos rfl];refine⟨specRB_fall hf.ok hv,hf.id,hf.pl,?_,fun e=>absurd (show (3:Int)=2 from e) (by decide),fun e=>absurd rfl e,fun e=>absurd rfl e,fun e=>absurd rfl e⟩;show amongP (lessP w.queue ((i:Int)+1)) w.runs[i].id=((3:Int)==1);rw [hf.id,among_lessN];rfl
  ·rw [if_neg e];refine⟨specRB_less hf.ok _,hf.id,hf.pl,?_,hf.sl,fun h3 x hx=>?_,hf.nn,hf.full⟩
   ·show amongP (lessP w.queue ((i:Int)+1)) w.runs[j].id=_;rw [among_less (by rw [hf.id];omega)];exact hf.q
   ·show x≤(((goneP w i ((i:Int)+1) w.runs[i] v).runs.length:Nat):Int);rw [hlen];refine hf.ties h3 x ?_;rcases List.mem_append.1 hx with hx|hx
    ·exact List.mem_append_left _ (mem_lessP.1 hx).1
    ·exact List.mem_append_right _ (mem_lessP.1 hx).1
 ·rw [hlen];exact ok.qn x (mem_lessP.1 hx).1
 ·have ha':a<w.runs.length:=by rw [←hlen];exact ha
  have hb':b<w.runs.length:=by omega
  rw [hget a ha' ha,hget b hb' (by rw [hlen];exact hb')];by_cases ea:i=a
  ·subst ea;rw [if_pos rfl,if_neg (by omega)];show amongP [] _=amongP (lessP w.runs[b].links ((i:Int)+1)) ((i:Int)+1);rw [among_lessN];rfl
  ·by_cases eb:i=b
   ·subst eb;rw [if_neg (by omega),if_pos rfl];show amongP (lessP w.runs[a].links ((i:Int)+1)) ((i:Int)+1)=amongP [] _;rw [among_lessN];rfl
   ·rw [if_neg ea,if_neg eb];show amongP (lessP w.runs[a].links ((i:Int)+1)) ((b:Int)+1)=amongP (lessP w.runs[b].links ((i:Int)+1)) ((a:Int)+1);rw [among_less (by omega),among_less (by omega)];exact ok.both a b ha' hb
 ·have e:mailsP (goneP w i ((i:Int)+1) w.runs[i] v).runs=mailsP (w.runs.set i (w.runs[i].fall v)):=by
   show mailsP (((w.runs.set i (w.runs[i].fall v)).map (RunD.unwatch _)).map (RunD.unl _))=_;rw [mails_map (RunD.unl ((i:Int)+1)) (fun _=>rfl),mails_map (RunD.unwatch ((i:Int)+1)) (fun _=>rfl)]
  rw [hlost,e];show w.sent=w.taken+(w.lost+(w.runs[i].mail.length:Int))+_;omega
theorem gives_oks {V:List Int} {x:Int×Int} (hx:okV x=true):∀(L:List Int) {w:PW},OkS w V→w.sent+(L.length:Int)≤9990→OkS (L.foldl (fun w k=>giveP w k x) w) V∧(L.foldl (fun w k=>giveP w k x) w).sent=w.sent+(L.length:Int)∧w.lost≤(L.foldl (fun w k=>giveP w k x) w).lost
 |[],w,ok,_=>⟨ok,by simp,Int.le_refl _⟩
 |k::L,w,ok,hs=>by
  have hs':w.sent<9990:=by simp at hs;omega
  have h1:=give_oks ok k hx hs';have h2:(giveP w k x).sent=w.sent+1∧w.lost≤(giveP w k x).lost:=by
   rcases giveP_what ok hs' k x with⟨_,e⟩|⟨i,hi,_,_,_,⟨_,_,e⟩|⟨_,e⟩⟩<;>rw [e]
   ·exact⟨rfl,by show w.lost≤w.lost+1;omega⟩
   ·exact⟨rfl,Int.le_refl _⟩
   ·exact⟨rfl,Int.le_refl _⟩
  have ih:=gives_oks hx L h1 (by rw [h2.1];simp at hs ⊢;omega);simp only [List.foldl_cons];refine⟨ih.1,by rw [ih.2.1,h2.1];simp;omega,Int.le_trans h2.2 ih.2.2⟩
def lostF (a b:RunD):Nat:=if a.st≠3∧b.st=3 then a.mail.length else 0
def newMail (A B:List RunD):Nat:=(List.zipWith lostF A B).sum
theorem newMail_one:∀(A B C:List RunD) (i:Nat) (hA:i<A.length),B.length=A.length→C.length=A.length→A[i].st≠3→(∀(hj:i<B.length),B[i].st≠3)→(∀j (hj:j<B.length) (hk:j<C.length),C[j].st=3↔(j=i∨B[j].st=3))→newMail A C=newMail A B+A[i].mail.length
 |[],_,_,_,hA,_,_,_,_,_=>absurd hA (by simp)
 |a::A,[],_,_,_,hB,_,_,_,_=>absurd hB (by simp)
 |a::A,b::B,[],_,_,_,hC,_,_,_=>absurd hC (by simp)
 |a::A,b::B,c::C,0,_,hB,hC,h1,h2,h3=>by
  have hb:b.st≠3:=h2 (by simp);have ha:a.st≠3:=h1;have hc:c.st=3:=(h3 0 (by simp) (by simp)).2 (.inl rfl);have hrest:List.zipWith lostF A C=List.zipWith lostF A B:=by
   refine List.ext_getElem (by simp at hB hC ⊢;omega) fun j j1 j2=>?_
   simp only [List.getElem_zipWith];have:=h3 (j+1) (by simp at j2 ⊢;omega) (by simp at j1 ⊢;omega);simp only [List.getElem_cons_succ] at this;unfold lostF;have e:(C[j]'(by simp at j1;omega)).st=3↔(B[j]'(by simp at j2;omega)).st=3:=by rw [this];simp
   simp only [e]
  unfold newMail;simp only [List.zipWith_cons_cons,List.sum_cons,hrest,List.getElem_cons_zero];unfold lostF;rw [if_pos ⟨ha,hc⟩,if_neg fun h=>hb h.2];omega
 |a::A,b::B,c::C,i+1,hA,hB,hC,h1,h2,h3=>by
  have ih:=newMail_one A B C i (by simpa using hA) (by simpa using hB) (by simpa using hC) h1 (fun hj=>h2 (by simpa using hj)) (fun j hj hk=>by
   have:=h3 (j+1) (by simpa using hj) (by simpa using hk);simpa using this)
  have h0:c.st=3↔b.st=3:=by
   have:=h3 0 (by simp) (by simp);simpa using this
  unfold newMail at ih ⊢;simp only [List.zipWith_cons_cons,List.sum_cons,List.getElem_cons_succ,ih];have e:lostF a c=lostF a b:=by unfold lostF;simp only [h0]
  rw [e];omega
structure LiveD (u:PW) (T:Prop) (a b:RunD):Prop where
 trap:b.trap=a.trap
 pl:b.pl=a.pl
 slots:b.slots=a.slots
 links:∀x,x∈b.links↔x∈a.links∧∀m (hm:m<u.runs.length),x=(m:Int)+1→u.runs[m].st≠3
 wat:∀x,x∈b.wat→x∈a.wat
 mail:∃ext,b.mail=a.mail++ext
 same:¬T→b.mail=a.mail
structure FallInv (w:PW) (V:List Int) (v:Int×Int) (R T:Int→Prop) (u:PW) (L:List Int):Prop where
 ok:OkS u V
 code:u.code=w.code
 len:u.runs.length=w.runs.length
 now:u.now=w.now
 taken:u.taken=w.taken
 sent:u.sent+12*(u.ne:Int)≤w.sent+12*(w.ne:Int)
 old:∀j (hj:j<w.runs.length) (hu:j<u.runs.length),w.runs[j].st=3→u.runs[j]=w.runs[j]
 new:∀j (hj:j<w.runs.length) (hu:j<u.runs.length),w.runs[j].st≠3→u.runs[j].st=3→(u.runs[j].wk=v.1∧u.runs[j].wn=v.2)∧R ((j:Int)+1)
 live:∀j (hj:j<w.runs.length) (hu:j<u.runs.length),u.runs[j].st≠3→LiveD u (T ((j:Int)+1)) w.runs[j] u.runs[j]
 pend:∀x∈L,R x∧1≤x∧x≤(w.runs.length:Int)
 closed:∀k (hk:k<w.runs.length) (hu:k<u.runs.length),w.runs[k].st≠3→u.runs[k].st=3→normalP v=false→∀m (hm:m<w.runs.length) (hmu:m<u.runs.length),((m:Int)+1)∈w.runs[k].links→w.runs[m].trap=false→u.runs[m].st=3∨((m:Int)+1)∈L
 lost:w.lost+(newMail w.runs u.runs:Int)≤u.lost
structure SetsOk (w:PW) (v:Int×Int) (R T:Int→Prop):Prop where
 next:∀k (hk:k<w.runs.length),R ((k:Int)+1)→w.runs[k].st≠3→∀m (hm:m<w.runs.length),((m:Int)+1)∈w.runs[k].links→w.runs[m].trap=false→normalP v=false→R ((m:Int)+1)
 told:∀k (hk:k<w.runs.length),R ((k:Int)+1)→w.runs[k].st≠3→∀x,(x∈w.runs[k].wat∨(x∈w.runs[k].links∧normalP v=false))→T x
theorem FallInv.skip {w u:PW} {V:List Int} {v:Int×Int} {R T:Int→Prop} {k:Int} {L:List Int} (h:FallInv w V v R T u (k::L)) {d:RunD} (hd:u.runs[(k-1).toNat]?=some d) (hs:d.st=3):FallInv w V v R T u L:=by
 refine⟨h.ok,h.code,h.len,h.now,h.taken,h.sent,h.old,h.new,h.live,fun x hx=>h.pend x (List.mem_cons_of_mem _ hx),fun a ha hu h1 h2 h3 m hm hmu h4 h5=>?_,h.lost⟩;obtain⟨hi,rfl⟩:=List.getElem?_eq_some_iff.1 hd;rcases h.closed a ha hu h1 h2 h3 m hm hmu h4 h5 with e|e
 ·exact .inl e
 ·rcases List.mem_cons.1 e with e|e
  ·have:(k-1).toNat=m:=by omega
   subst this;exact .inl hs
  ·exact .inr e
theorem trapAt_eq {u:PW} {m:Nat} (hm:m<u.runs.length):trapAt u ((m:Int)+1)=u.runs[m].trap:=by
 unfold trapAt;have e:((m:Int)+1-1).toNat=m:=by omega
 rw [e,List.getElem?_eq_getElem hm]
theorem FallInv.one {w u:PW} {V:List Int} {v:Int×Int} {R T:Int→Prop} (hv:okV v=true) (hsent:w.sent<9900) (hw6:w.runs.length≤6) (hS:SetsOk w v R T) {k:Int} {L:List Int} (h:FallInv w V v R T u (k::L)) {d:RunD} (hd:u.runs[(k-1).toNat]?=some d) (hs:d.st≠3):FallInv w V v R T (oneP u (k-1).toNat k d v).1 (L++(oneP u (k-1).toNat k d v).2):=by
 obtain⟨i,hik⟩:∃i:Nat,i=(k-1).toNat:=⟨_,rfl⟩;rw [←hik] at hd ⊢;obtain⟨hiu,rfl⟩:=List.getElem?_eq_some_iff.1 hd;have hpk:=h.pend k List.mem_cons_self;have hk:k=(i:Int)+1:=by omega
 have hiw:i<w.runs.length:=by rw [←h.len];exact hiu
 obtain⟨e1,e2⟩:=one_eq h.ok i hiu v;rw [←hk] at e1 e2;have hne:=oneP_ne u i hiu k v hs;obtain⟨gl,gg⟩:=gone_get u i hiu k v;have hG:=gone_oks h.ok i hiu hv;rw [←hk] at hG;have hgift:=gives_gift (3,k) (toldP u u.runs[i] v) (goneP u i k u.runs[i] v);have hok3:okV (3,k)=true:=by rw [hk];exact okRun (by omega)
 have hLi:=h.live i hiw hiu hs;have hwi:w.runs[i].st≠3:=fun e=>hs (by rw [h.old i hiw hiu e];exact e)
 have hFi:=h.ok.run i hiu;have hnl:u.runs[i].links.length≤6:=nodup_len 6 _ hFi.l2 fun x hx=>(hFi.l1 x hx).1
 have hnw:u.runs[i].wat.length≤6:=nodup_len 6 _ hFi.w2 fun x hx=>(hFi.w1 x hx).1
 have htl:(toldP u u.runs[i] v).length≤12:=by
  unfold toldP;rw [List.length_append];have:(if normalP v then [] else u.runs[i].links.filter (fun k=>trapAt u k)).length≤u.runs[i].links.length:=by
   split
   ·exact Nat.zero_le _
   ·exact List.length_filter_le _ _
  omega
 have hne0:w.ne≤6:=Nat.le_trans (List.countP_le_length) hw6;have hgs:(goneP u i k u.runs[i] v).sent=u.sent:=rfl;have hsn:=h.sent;have hun:1≤u.ne:=by omega
 obtain⟨o1,o2,o3⟩:=gives_oks hok3 (toldP u u.runs[i] v) hG (by rw [hgs];omega);rw [←e1] at hgift o1 o2 o3;obtain⟨x,hx⟩:∃x,x=(oneP u i k u.runs[i] v).1:=⟨_,rfl⟩;rw [←hx] at hgift o1 o2 o3 hne ⊢;have hxl:x.runs.length=u.runs.length:=hgift.len.trans gl;have hst:∀j (hju:j<u.runs.length) (hjx:j<x.runs.length),x.runs[j].st=3↔(j=i∨u.runs[j].st=3):=fun j hju hjx=>by
  have hjg:j<(goneP u i k u.runs[i] v).runs.length:=by rw [gl];exact hju
  have h1:=hgift.run j hjg hjx;rw [gg j hju hjg] at h1;by_cases hij:i=j
  ·rw [if_pos hij] at h1;refine⟨fun _=>.inl hij.symm,fun _=>?_⟩;rcases h1.st with e|⟨e,_⟩
   ·rw [e];rfl
   ·exact absurd (show (3:Int)=2 from e) (by decide)
  ·rw [if_neg hij] at h1;have h2:x.runs[j].st=u.runs[j].st∨(u.runs[j].st=2∧x.runs[j].st=1):=h1.st;refine⟨fun e=>.inr ?_,fun e=>?_⟩
   ·rcases h2 with e2|⟨_,e2⟩
    ·rw [←e2];exact e
    ·rw [e2] at e;exact absurd e (by decide)
   ·rcases e with e|e
    ·exact absurd e.symm hij
    ·rcases h2 with e2|⟨e2,_⟩
     ·rw [e2];exact e
     ·rw [e2] at e;exact absurd e (by decide)
 have hmem:∀y,y∈toldP u u.runs[i] v→T y:=fun y hy=>by
  refine hS.told i hiw (hk ▸ hpk.1) hwi y ?_;unfold toldP at hy;rcases List.mem_append.1 hy with hy|hy
  ·by_cases hn:normalP v=true
   ·rw [if_pos hn] at hy;cases hy
   ·rw [if_neg hn] at hy;exact .inr ⟨((hLi.links y).1 (List.mem_filter.1 hy).1).1,by simpa using hn⟩
  ·exact .inl (hLi.wat y hy)
 have htr:∀m (hm:m<w.runs.length) (hmu:m<u.runs.length),((m:Int)+1)∈u.runs[i].links→u.runs[m].trap=w.runs[m].trap:=fun m hm hmu hml=>(h.live m hm hmu (((hLi.links _).1 hml).2 m hmu rfl)).trap
 refine⟨o1,hgift.code.trans h.code,hxl.trans h.len,hgift.now.trans h.now,hgift.taken.trans h.taken,?_,fun j hj hjx hjs=>?_,fun j hj hjx hjs hjx3=>?_,fun j hj hjx hjs=>?_,fun y hy=>?_,fun a ha hax h1 h2 h3 m hm hmx h4 h5=>?_,?_⟩
 ·rw [o2,hgs];omega
 ·have hju:j<u.runs.length:=by rw [←hxl];exact hjx
  have hjg:j<(goneP u i k u.runs[i] v).runs.length:=by rw [gl];exact hju
  have e3:=h.old j hj hju hjs;have hij:¬i=j:=fun e=>by subst e;exact hwi hjs
  have e4:=gg j hju hjg;rw [if_neg hij] at e4;have hu3:u.runs[j].st=3:=by rw [e3];exact hjs
  have hfin:=(h.ok.run j hju).fin hu3;have e5:({ u.runs[j] with links:=lessP u.runs[j].links k,wat:=lessP u.runs[j].wat k }:RunD)=u.runs[j]:=by
   have a1:lessP u.runs[j].links k=u.runs[j].links:=by rw [hfin.2.1];rfl
   have a2:lessP u.runs[j].wat k=u.runs[j].wat:=by rw [hfin.2.2];rfl
   rw [a1,a2]
  rw [e5] at e4;rw [hgift.same j hjg hjx (.inl (by rw [e4];exact hu3)),e4,e3]
 ·have hju:j<u.runs.length:=by rw [←hxl];exact hjx
  have hjg:j<(goneP u i k u.runs[i] v).runs.length:=by rw [gl];exact hju
  have e4:=gg j hju hjg;rcases (hst j hju hjx).1 hjx3 with rfl|hu3
  ·rw [if_pos rfl] at e4;have e5:=hgift.same j hjg hjx (.inl (by rw [e4];rfl));rw [e5,e4];exact⟨⟨rfl,rfl⟩,hk ▸ hpk.1⟩
  ·have hij:¬i=j:=fun e=>by subst e;exact hs hu3
   rw [if_neg hij] at e4;have e5:=hgift.same j hjg hjx (.inl (by rw [e4];exact hu3));rw [e5,e4];exact h.new j hj hju hjs hu3
 ·have hju:j<u.runs.length:=by rw [←hxl];exact hjx
  have hjg:j<(goneP u i k u.runs[i] v).runs.length:=by rw [gl];exact hju
  have hno:¬(j=i∨u.runs[j].st=3):=fun e=>hjs ((hst j hju hjx).2 e)
  have hij:¬i=j:=fun e=>hno (.inl e.symm)
  have hus:u.runs[j].st≠3:=fun e=>hno (.inr e)
  have hl:=h.live j hj hju hus;have hg:=hgift.run j hjg hjx;have e4:=gg j hju hjg;rw [if_neg hij] at e4;rw [e4] at hg;refine⟨hg.trap.trans hl.trap,hg.pl.trans hl.pl,hg.slots.trans hl.slots,fun y=>?_,fun y hy=>?_,?_,fun hT=>?_⟩
  ·rw [hg.links];show y∈lessP u.runs[j].links k↔_;rw [mem_lessP,hl.links y]
   constructor
   ·rintro⟨⟨a1,a2⟩,a3⟩;refine⟨a1,fun m hm hy e=>?_⟩;have hmu:m<u.runs.length:=by rw [←hxl];exact hm
    rcases (hst m hmu hm).1 e with rfl|e
    ·exact a3 (by rw [hy,hk])
    ·exact a2 m hmu hy e
   ·rintro⟨a1,a2⟩;refine⟨⟨a1,fun m hm hy e=>?_⟩,fun e=>?_⟩
    ·exact a2 m (by rw [hxl];exact hm) hy ((hst m hm (by rw [hxl];exact hm)).2 (.inr e))
    ·exact a2 i (by rw [hxl];exact hiu) (by rw [e,hk]) ((hst i hiu (by rw [hxl];exact hiu)).2 (.inl rfl))
  ·rw [hg.wat] at hy;exact hl.wat y (mem_lessP.1 hy).1
  ·obtain⟨p,hp⟩:=hl.mail;obtain⟨q,hq⟩:=hg.mail;exact⟨p++q,by rw [hq];show u.runs[j].mail++q=_;rw [hp,List.append_assoc]⟩
  ·have e5:=hgift.same j hjg hjx (.inr fun e=>hT (hmem _ e));rw [e5,e4];exact hl.same hT
 ·rcases List.mem_append.1 hy with hy|hy
  ·exact h.pend y (List.mem_cons_of_mem _ hy)
  ·rw [e2] at hy;unfold nextP at hy;by_cases hn:normalP v=true
   ·rw [if_pos hn] at hy;cases hy
   ·rw [if_neg hn] at hy;have hn':normalP v=false:=by simpa using hn
    obtain⟨a1,a2⟩:=List.mem_filter.1 hy;have hr:=h.ok.wk.links _ (List.getElem_mem hiu) y a1;rw [h.len] at hr;obtain⟨m,hm⟩:∃m:Nat,y=(m:Int)+1:=⟨(y-1).toNat,by omega⟩;have hmw:m<w.runs.length:=by omega
    have hmu:m<u.runs.length:=by rw [h.len];exact hmw
    subst hm;rw [trapAt_eq hmu,htr m hmw hmu a1] at a2;exact⟨hS.next i hiw (hk ▸ hpk.1) hwi m hmw ((hLi.links _).1 a1).1 (by simpa using a2) hn',hr⟩
 ·have hau:a<u.runs.length:=by rw [←hxl];exact hax
  have hmu:m<u.runs.length:=by rw [←hxl];exact hmx
  by_cases hm3:u.runs[m].st=3
  ·exact .inl ((hst m hmu hmx).2 (.inr hm3))
  by_cases hmi:m=i
  ·exact .inl ((hst m hmu hmx).2 (.inl hmi))
  rcases (hst a hau hax).1 h2 with rfl|ha3
  ·refine .inr (List.mem_append_right _ ?_);rw [e2];unfold nextP;rw [if_neg (by rw [h3];simp)];have hml:((m:Int)+1)∈u.runs[a].links:=(hLi.links _).2 ⟨h4,fun m' hm' e=>by
    have:m=m':=by omega
    subst this;exact hm3⟩
   refine List.mem_filter.2 ⟨hml,?_⟩;rw [trapAt_eq hmu,htr m hm hmu hml,h5];rfl
  ·rcases h.closed a ha hau h1 ha3 h3 m hm hmu h4 h5 with e|e
   ·exact absurd e hm3
   ·rcases List.mem_cons.1 e with e|e
    ·exact absurd (show m=i by omega) hmi
    ·exact .inr (List.mem_append_left _ e)
 ·have hnm:=newMail_one w.runs u.runs x.runs i hiw h.len (hxl.trans h.len) hwi (fun _=>hs) hst;rw [hnm];have hgl:(goneP u i k u.runs[i] v).lost=u.lost+u.runs[i].mail.length:=by
   show wr (u.lost+u.runs[i].mail.length)=_;have:=h.ok.cnt.lost;have:=hFi.mail;exact wrapN _ (by omega) (by omega)
  obtain⟨ext,hext⟩:=hLi.mail;have hml:w.runs[i].mail.length≤u.runs[i].mail.length:=by rw [hext];simp
  have:=h.lost;rw [hgl] at o3;omega
theorem EndR.fallInv {w:PW} {V:List Int} {v:Int×Int} {R T:Int→Prop} (hv:okV v=true) (hsent:w.sent<9900) (hw6:w.runs.length≤6) (hS:SetsOk w v R T) {u:PW} {L:List Int} {x:PW} (h:EndR v u L x):FallInv w V v R T u L→FallInv w V v R T x []:=by
 refine EndR.ind (motive:=fun u L x _=>FallInv w V v R T u L→FallInv w V v R T x []) (fun _ h=>h) (fun h1 h2 _ ih hf=>ih (hf.skip h1 h2)) (fun h1 h2 _ ih hf=>ih (hf.one hv hsent hw6 hS h1 h2)) h
theorem FallInv.start {w:PW} {V:List Int} (ok:OkS w V) {v:Int×Int} {R T:Int→Prop} {id:Int} (hid:1≤id∧id≤(w.runs.length:Int)) (hR:R id):FallInv w V v R T w [id]:=by
 have hz:newMail w.runs w.runs=0:=by
  unfold newMail;have:∀L:List RunD,(List.zipWith lostF L L).sum=0:=fun L=>by
   induction L with
   |nil=>rfl
   |cons a L ih =>
    simp only [List.zipWith_cons_cons,List.sum_cons,ih];unfold lostF;rw [if_neg fun h=>h.1 h.2]
  exact this _
 refine⟨ok,rfl,rfl,rfl,rfl,Int.le_refl _,fun _ _ _ _=>rfl,fun _ _ _ h1 h2=>absurd h2 h1,fun j hj hu hs=>⟨rfl,rfl,rfl,fun x=>⟨fun hx=>⟨hx,fun m hm e h3=>?_⟩,fun hx=>hx.1⟩,fun _ h=>h,⟨[],by simp⟩,fun _=>rfl⟩,fun x hx=>by rw [List.mem_singleton.1 hx];exact⟨hR,hid⟩,fun _ _ _ h1 h2=>absurd h2 h1,by rw [hz];simp⟩;have hn:((j:Int)+1)∉w.runs[m].links:=by rw [((ok.run m hm).fin h3).2.1];exact List.not_mem_nil
 have hjm:j≠m:=fun e=>by subst e;exact hs h3
 rw [e] at hx;rcases Nat.lt_or_gt_of_ne hjm with h|h
 ·have:=ok.both m j hm h;rw [among_mem.2 hx] at this;exact hn (among_mem.1 this)
 ·have:=ok.both j m hj h;rw [among_mem.2 hx] at this;exact hn (among_mem.1 this.symm)
theorem DrawnW.few {d:PW} (h:DrawnW d):d.sent≤3010:=by
 obtain⟨C,es,w,hsafe,hP,hes,hs⟩:=h;obtain⟨V,hV,hcr,hc0⟩:=safe_code hsafe;have hlen:=safe_len hsafe;have key:=hP.sb hcr hc0 (by omega);have h1:=key.2.2 hes;have h6:=key.1.wk.runs;have h0:=h1.1;have h2:=h1.2;have hsent:w.sent≤3000:=by omega
 rcases hs with rfl|rfl|rfl|⟨x,k,hx,_,_,rfl⟩|⟨x,hx,rfl⟩|⟨C',_,_,rfl⟩
 ·omega
 ·show w.sent≤3010;omega
 ·show wr (w.sent+1)≤3010;rw [show wr (w.sent+1)=w.sent+1 from wrapN _ (by omega) (by omega)];omega
 ·show w.sent≤3010;omega
 ·show w.sent≤3010;omega
 ·show w.sent≤3010;omega
theorem FallE.inv {w:PW} {V:List Int} (ok:OkS w V) {v:Int×Int} (hv:okV v=true) (hsent:w.sent<9900) {id:Int} {e:PW} (h:FallE w id v e) (hid:1≤id∧id≤(w.runs.length:Int)) {R T:Int→Prop} (hS:SetsOk w v R T) (hR:R id):FallInv w V v R T e []:=by
 rcases h with⟨_,hE⟩|⟨hno,_⟩
 ·exact hE.fallInv hv hsent ok.n6 hS (FallInv.start ok hid hR)
 ·exact absurd hid hno
theorem setsT (w:PW) (v:Int×Int):SetsOk w v (fun _=>True) (fun _=>True):=⟨fun _ _ _ _ _ _ _ _ _=>trivial,fun _ _ _ _ _ _=>trivial⟩
theorem FallE.oks {w:PW} {V:List Int} (ok:OkS w V) {v:Int×Int} (hv:okV v=true) (hsent:w.sent<9900) {id:Int} {e:PW} (h:FallE w id v e):OkS e V∧e.code=w.code∧e.runs.length=w.runs.length∧e.taken=w.taken∧e.now=w.now∧e.sent≤w.sent+72∧w.lost+(newMail w.runs e.runs:Int)≤e.lost∧(∀j (hj:j<w.runs.length) (he:j<e.runs.length),w.runs[j].st=3→e.runs[j].st=3):=by
 have hne:w.ne≤6:=Nat.le_trans (List.countP_le_length) ok.n6;by_cases hid:1≤id∧id≤(w.runs.length:Int)
 ·have hI:=h.inv ok hv hsent hid (setsT w v) trivial;have:=hI.sent;refine⟨hI.ok,hI.code,hI.len,hI.taken,hI.now,by omega,hI.lost,fun j hj he hs=>by rw [hI.old j hj he hs];exact hs⟩
 ·rcases h with⟨hin,_⟩|⟨_,rfl⟩
  ·exact absurd hin hid
  ·have hI:=FallInv.start (v:=v) (R:=fun _=>True) (T:=fun _=>True) ok (id:=1) ⟨by omega,by have:=ok.n1;omega⟩ trivial;exact⟨ok,rfl,rfl,rfl,rfl,by omega,hI.lost,fun j hj he hs=>hs⟩
theorem FallE.wok {w:PW} (hw:WOk w) {v:Int×Int} (hv:okV v=true) (hsent:w.sent<9900) {id:Int} {e:PW} (h:FallE w id v e):WOk e:=by
 obtain⟨hc,V,hV,ok⟩:=hw;obtain⟨h1,h2,_⟩:=h.oks ok hv hsent;exact⟨by rw [h2];exact hc,V,by rw [h2];exact hV,h1⟩
theorem FallR.sm {w e:PW} {id:Int} {v:Int×Int} (h:FallR w id v e) (hs:w.Sm):e.Sm:=by
 rcases h with⟨g,h⟩|⟨_,rfl⟩
 ·obtain⟨hw,hv,hsent⟩:=g;obtain⟨_,V,_,ok⟩:=hw;obtain⟨h1,h2,_⟩:=h.oks ok hv hsent;exact h1.sm (by rw [h2];exact hs.code)
 ·exact zero_sm
theorem FallR.why {w e:PW} {id:Int} {v:Int×Int} (h:FallR w id v e):∀d∈e.runs,okV (d.wk,d.wn)=true:=by
 rcases h with⟨g,h⟩|⟨_,rfl⟩
 ·obtain⟨hw,hv,hsent⟩:=g;obtain⟨_,V,_,ok⟩:=hw;exact(h.oks ok hv hsent).1.why
 ·exact fun _ h=>absurd h List.not_mem_nil
theorem FallR.fell {w e:PW} {id:Int} {v:Int×Int} (h:FallR w id v e) (hw:WOk w) (hv:okV v=true) (hs:w.sent<9900):FallE w id v e:=by
 rcases h with⟨_,h⟩|⟨g,_⟩
 ·exact h
 ·exact absurd ⟨hw,hv,hs⟩ g
theorem one_st {u:PW} {V:List Int} (ok:OkS u V) (i:Nat) (hiu:i<u.runs.length) (v:Int×Int):(oneP u i ((i:Int)+1) u.runs[i] v).1.runs.length=u.runs.length∧∀j (hju:j<u.runs.length) (hjx:j<(oneP u i ((i:Int)+1) u.runs[i] v).1.runs.length),(oneP u i ((i:Int)+1) u.runs[i] v).1.runs[j].st=3↔(j=i∨u.runs[j].st=3):=by
 obtain⟨e1,_⟩:=one_eq ok i hiu v;obtain⟨gl,gg⟩:=gone_get u i hiu ((i:Int)+1) v;have hgift:=gives_gift (3,(i:Int)+1) (toldP u u.runs[i] v) (goneP u i ((i:Int)+1) u.runs[i] v);rw [←e1] at hgift;obtain⟨x,hx⟩:∃x,x=(oneP u i ((i:Int)+1) u.runs[i] v).1:=⟨_,rfl⟩;rw [←hx] at hgift ⊢;refine⟨hgift.len.trans gl,fun j hju hjx=>?_⟩;have hjg:j<(goneP u i ((i:Int)+1) u.runs[i] v).runs.length:=by rw [gl];exact hju
 have h1:=hgift.run j hjg hjx;rw [gg j hju hjg] at h1;by_cases hij:i=j
 ·rw [if_pos hij] at h1;refine⟨fun _=>.inl hij.symm,fun _=>?_⟩;rcases h1.st with e|⟨e,_⟩
  ·rw [e];rfl
  ·exact absurd (show (3:Int)=2 from e) (by decide)
 ·rw [if_neg hij] at h1;have h2:x.runs[j].st=u.runs[j].st∨(u.runs[j].st=2∧x.runs[j].st=1):=h1.st;refine⟨fun e=>.inr ?_,fun e=>?_⟩
  ·rcases h2 with e2|⟨_,e2⟩
   ·rw [←e2];exact e
   ·rw [e2] at e;exact absurd e (by decide)
  ·rcases e with e|e
   ·exact absurd e.symm hij
   ·rcases h2 with e2|⟨e2,_⟩
    ·rw [e2];exact e
    ·rw [e2] at e;exact absurd e (by decide)
theorem EndR.ended {w:PW} {V:List Int} {v:Int×Int} {R T:Int→Prop} (hv:okV v=true) (hsent:w.sent<9900) (hw6:w.runs.length≤6) (hS:SetsOk w v R T) {u:PW} {L:List Int} {x:PW} (h:EndR v u L x):FallInv w V v R T u L→∀j (hju:j<u.runs.length) (hjx:j<x.runs.length),(((j:Int)+1)∈L∨u.runs[j].st=3)→x.runs[j].st=3:=by
 refine EndR.ind (motive:=fun u L x _=>FallInv w V v R T u L→∀j (hju:j<u.runs.length) (hjx:j<x.runs.length),(((j:Int)+1)∈L∨u.runs[j].st=3)→x.runs[j].st=3) ?_ ?_ ?_ h
 ·intro w _ j hju hjx hj;rcases hj with hj|hj
  ·cases hj
  ·exact hj
 ·intro u x k L d h1 h2 _ ih hf j hju hjx hj;refine ih (hf.skip h1 h2) j hju hjx ?_;rcases hj with hj|hj
  ·rcases List.mem_cons.1 hj with e|e
   ·obtain⟨hi,rfl⟩:=List.getElem?_eq_some_iff.1 h1;have:(k-1).toNat=j:=by omega
    subst this;exact .inr h2
   ·exact .inl e
  ·exact .inr hj
 ·intro u x k L d h1 h2 _ ih hf j hju hjx hj;have hf2:=hf.one hv hsent hw6 hS h1 h2;have hpk:=hf.pend k List.mem_cons_self;obtain⟨i,hik⟩:∃i:Nat,i=(k-1).toNat:=⟨_,rfl⟩;rw [←hik] at h1 hf2 ih;obtain⟨hiu,rfl⟩:=List.getElem?_eq_some_iff.1 h1;obtain rfl:k=(i:Int)+1:=by omega
  obtain⟨hl,hst⟩:=one_st hf.ok i hiu v;refine ih hf2 j (by rw [hl];exact hju) hjx ?_;rcases hj with hj|hj
  ·rcases List.mem_cons.1 hj with e|e
   ·exact .inr ((hst j hju (by rw [hl];exact hju)).2 (.inl (by omega)))
   ·exact .inl (List.mem_append_left _ e)
  ·exact .inr ((hst j hju (by rw [hl];exact hju)).2 (.inr hj))
theorem FallE.down {w:PW} {V:List Int} (ok:OkS w V) {v:Int×Int} (hv:okV v=true) (hsent:w.sent<9900) {i:Nat} (hi:i<w.runs.length) {e:PW} (h:FallE w ((i:Int)+1) v e) (hie:i<e.runs.length):e.runs[i].st=3:=by
 rcases h with⟨hid,hE⟩|⟨hno,_⟩
 ·exact hE.ended hv hsent ok.n6 (setsT w v) (FallInv.start ok hid trivial) i hi hie (.inl (by simp))
 ·exact absurd ⟨by omega,by omega⟩ hno
end Go.Proofs.YtgmkmeodimmdoaaGreatDoor
