import Derived.Test.YtllbeifcipefjaaGreatDoorRexSi
namespace Go.Proofs.YtllbeifcipefjaaGreatDoor
open Go.RowKit
set_option maxRecDepth 100000
def Sb (w:PW) (S:Int):Prop:=0≤w.sent∧w.sent+280*(w.ne:Int)≤S+280*(w.runs.length:Int)
theorem Sb.mono {w:PW} {S T:Int} (h:Sb w S) (k:S≤T):Sb w T:=⟨h.1,by have:=h.2;omega⟩
theorem Sb.of {w w':PW} {S:Int} (h:Sb w S) (h1:w'.sent=w.sent) (h2:w'.ne≤w.ne) (h3:w'.runs.length=w.runs.length):Sb w' S:=⟨by rw [h1];exact h.1,by rw [h1,h3];have:=h.2;omega⟩
theorem Sb.le {w:PW} {S:Int} (h:Sb w S) (h6:w.runs.length≤6) (hS:S≤1000000):w.sent≤1010000:=by have:=h.2;omega
theorem giveP_se (w:PW) (id:Int) (v:Int×Int) (h0:0≤w.sent) (h1:w.sent≤1000000000):(giveP w id v).sent=w.sent+1:=by
 have e1:wr (w.sent+1)=w.sent+1:=wrapN _ (by omega) (by omega)
 unfold giveP giveAt loseP
 split
 ·split
  ·split
   ·exact e1
   ·split<;>exact e1
  ·exact e1
 ·exact e1
theorem Sb.give {w:PW} {S:Int} (h:Sb w S) (h6:w.runs.length≤6) (hS:S≤1000000) (id:Int) (v:Int×Int):Sb (giveP w id v) (S+1):=by
 have hl:=h.le h6 hS
 have e:=giveP_se w id v h.1 (by omega)
 have hn:=giveP_ne w id v
 refine⟨by rw [e];have:=h.1;omega,?_⟩
 rw [e,(giveP_len w id v).1]
 have:=h.2
 omega
theorem linkStep_se (s:PW×List Int) (id:Int) (v:Int×Int) (k:Int) (h0:0≤s.1.sent) (h1:s.1.sent≤1000000000):s.1.sent≤(linkStep id v s k).1.sent∧(linkStep id v s k).1.sent≤s.1.sent+1:=by
 unfold linkStep
 split
 ·exact⟨Int.le_refl _,by omega⟩
 ·split
  ·exact⟨Int.le_refl _,by show s.1.sent≤s.1.sent+1;omega⟩
  ·split
   ·rename_i d _ _ _
    have e:=giveP_se { s.1 with runs:=s.1.runs.set (k-1).toNat { d with links:=lessP d.links id } } k (3,id) h0 h1
    rw [e]
    exact⟨by show s.1.sent≤s.1.sent+1;omega,Int.le_refl _⟩
   ·exact⟨Int.le_refl _,by show s.1.sent≤s.1.sent+1;omega⟩
theorem links_se (id:Int) (v:Int×Int):∀(L:List Int) (s:PW×List Int),0≤s.1.sent→s.1.sent+(L.length:Int)≤1000000000→s.1.sent≤(L.foldl (linkStep id v) s).1.sent∧(L.foldl (linkStep id v) s).1.sent≤s.1.sent+(L.length:Int)
 | [],s,_,_=>⟨Int.le_refl _,by simp⟩
 | k::L,s,h0,h1=>by
  rw [List.length_cons] at h1
  have h2:=linkStep_se s id v k h0 (by omega)
  have h3:=links_se id v L (linkStep id v s k) (by omega) (by omega)
  rw [List.foldl_cons,List.length_cons]
  omega
theorem gives_se (v:Int×Int):∀(L:List Int) (w:PW),0≤w.sent→w.sent+(L.length:Int)≤1000000000→(L.foldl (fun w k=>giveP w k v) w).sent=w.sent+(L.length:Int)
 | [],w,_,_=>by simp
 | k::L,w,h0,h1=>by
  rw [List.length_cons] at h1
  have h2:=giveP_se w k v h0 (by omega)
  have h3:=gives_se v L (giveP w k v) (by omega) (by omega)
  rw [List.foldl_cons,List.length_cons,h3,h2]
  omega
theorem oneP_sb {w:PW} {S:Int} {B:Nat} (h:Sb w S) (hw:w.Wk B) (hB:B≤140) (hS:S≤1000000) (i:Nat) (hi:i<w.runs.length) (v:Int×Int) (h3:w.runs[i].st≠3):Sb (oneP w i ((i:Int)+1) w.runs[i] v).1 S:=by
 have hl:=h.le hw.runs hS
 have h0:=h.1
 have hk:=hw.linksB _ (List.getElem_mem hi)
 have ht:=hw.watB _ (List.getElem_mem hi)
 have hn:=oneP_ne w i hi ((i:Int)+1) v h3
 have hlen:=(oneP_wk hw i hi v).2.1
 have e0:(fallA w i ((i:Int)+1) w.runs[i] v).sent=w.sent:=rfl
 have h1:=links_se ((i:Int)+1) v w.runs[i].links (fallA w i ((i:Int)+1) w.runs[i] v,[]) (by show 0≤w.sent;omega) (by show w.sent+_≤_;omega)
 have h1':w.sent≤(w.runs[i].links.foldl (linkStep ((i:Int)+1) v) (fallA w i ((i:Int)+1) w.runs[i] v,[])).1.sent∧(w.runs[i].links.foldl (linkStep ((i:Int)+1) v) (fallA w i ((i:Int)+1) w.runs[i] v,[])).1.sent≤w.sent+(w.runs[i].links.length:Int):=h1
 have h2:=gives_se (3,(i:Int)+1) w.runs[i].wat (w.runs[i].links.foldl (linkStep ((i:Int)+1) v) (fallA w i ((i:Int)+1) w.runs[i] v,[])).1 (by omega) (by omega)
 have h2':(oneP w i ((i:Int)+1) w.runs[i] v).1.sent=(w.runs[i].links.foldl (linkStep ((i:Int)+1) v) (fallA w i ((i:Int)+1) w.runs[i] v,[])).1.sent+(w.runs[i].wat.length:Int):=h2
 refine⟨by omega,?_⟩
 rw [hlen]
 have:=h.2
 omega
theorem EndR.sb {v:Int×Int} {w w':PW} {L:List Int} {B:Nat} {S:Int} (hB:B≤140) (hS:S≤1000000) (h:EndR v w L w'):w.Wk B→(∀x∈L,1≤x∧x≤(w.runs.length:Int))→Sb w S→Sb w' S:=by
 induction h using EndR.ind with
 | nil w=>exact fun _ _ s=>s
 | skip h1 h2 h3 ih=>exact fun h hL s=>ih h (fun x hx=>hL x (List.mem_cons_of_mem _ hx)) s
 | @one w w' k L d h1 h2 h3 ih =>
  intro h hL s
  obtain⟨hi,rfl⟩:=List.getElem?_eq_some_iff.1 h1
  have hk:=hL k List.mem_cons_self
  have hkk:(((k-1).toNat:Nat):Int)+1=k:=by omega
  have h4:=oneP_wk h (k-1).toNat hi v
  have h5:=oneP_sb s h hB hS (k-1).toNat hi v h2
  rw [hkk] at h4 h5
  exact ih h4.1 (fun x hx=>by
   rw [h4.2.1]
   rcases List.mem_append.1 hx with hx | hx
   ·exact hL x (List.mem_cons_of_mem _ hx)
   ·exact h.links _ (List.getElem_mem hi) x (oneP_sub _ _ _ _ _ x hx)) h5
theorem Sb.set {w:PW} {S:Int} (h:Sb w S) {i:Nat} (hi:i<w.runs.length) {y:RunD} (hy:y.st≠3→w.runs[i].st≠3) (q:List Int) (t lo n:Int):Sb { w with runs:=w.runs.set i y,queue:=q,taken:=t,lost:=lo,now:=n } S :=
 h.of rfl (ne_set hi hy) List.length_set
theorem Sb.setD {w:PW} {S:Int} (h:Sb w S) (i:Nat) (d y:RunD) (hy:y.st=(w.runs.getD i d).st):Sb { w with runs:=w.runs.set i y } S:=by
 by_cases hi:i<w.runs.length
 ·refine h.set hi (fun e=>?_) w.queue w.taken w.lost w.now
  rw [List.getD_eq_getElem?_getD,List.getElem?_eq_getElem hi] at hy
  rw [hy] at e
  exact e
 ·rw [List.set_eq_of_length_le (by omega)]
  exact h
theorem ne_append (L:List RunD) (y:RunD):(L++[y]).countP (fun d=>d.st != 3)≤L.countP (fun d=>d.st != 3)+1:=by
 rw [List.countP_append]
 have:[y].countP (fun d=>d.st != 3)≤1:=List.countP_le_length
 omega
theorem begin_sb {w:PW} {S:Int} (h:Sb w S) {i:Nat} (hi:i<w.runs.length) (id:Int) (o:OpD) (k:Nat):Sb (beginP w i id w.runs[i] o k) S:=by
 unfold beginP
 split
 ·exact h.set hi (y:=(w.runs[i].put k (0,0)).next) (fun e=>e) w.queue w.taken w.lost w.now
 ·have hi':i<(w.runs++[newD (w.runs.length+1) o.to (3,id)]).length:=by rw [List.length_append];simp;omega
  have h1:((w.runs++[newD (w.runs.length+1) o.to (3,id)]).set i ((w.runs[i].put k (3,w.runs.length+1)).next)).countP (fun d=>d.st != 3)≤(w.runs++[newD (w.runs.length+1) o.to (3,id)]).countP (fun d=>d.st != 3):=ne_set hi' fun e=>by
   rw [List.getElem_append_left hi]
   exact e
  have h2:=ne_append w.runs (newD (w.runs.length+1) o.to (3,id))
  refine⟨h.1,?_⟩
  show w.sent+280*((((w.runs++[newD (w.runs.length+1) o.to (3,id)]).set i ((w.runs[i].put k (3,w.runs.length+1)).next)).countP (fun d=>d.st != 3):Nat):Int)≤S+280*(((((w.runs++[newD (w.runs.length+1) o.to (3,id)]).set i ((w.runs[i].put k (3,w.runs.length+1)).next)).length:Nat)):Int)
  rw [List.length_set,List.length_append,List.length_singleton]
  have h3:=h.2
  unfold PW.ne at h3
  omega
theorem take_sb {w:PW} {S:Int} (h:Sb w S) {i:Nat} (hi:i<w.runs.length) (hs:w.runs[i].st=1) (id:Int) (o:OpD) (k:Nat):Sb (takeP w i id w.runs[i] o k) S:=by
 have h3:w.runs[i].st≠3:=by rw [hs];decide
 unfold takeP waitP
 split
 ·exact h.set hi (fun _=>h3) w.queue _ w.lost w.now
 ·split
  ·exact h.set hi (fun _=>h3) _ w.taken w.lost w.now
  ·split
   ·exact h.set hi (fun _=>h3) w.queue w.taken w.lost w.now
   ·exact h.set hi (fun _=>h3) _ w.taken w.lost w.now
theorem other_sb {w:PW} {S:Int} (h:Sb w S) (h6:w.runs.length≤6) (hS:S≤1000000) {i:Nat} (hi:i<w.runs.length) (id:Int) (o:OpD) (tt sv:Int×Int):Sb (otherP w i id w.runs[i] o tt sv) (S+1):=by
 have h1:Sb { w with runs:=w.runs.set i w.runs[i].next } S:=h.set hi (y:=w.runs[i].next) (fun e=>e) w.queue w.taken w.lost w.now
 have hl:(w.runs.set i w.runs[i].next).length≤6:=by rw [List.length_set];exact h6
 unfold otherP otherQ
 split
 ·exact h1.give hl hS _ _
 split
 ·exact h1.give hl hS _ _
 split
 ·exact h1.mono (by omega)
 split
 ·exact Sb.mono (h1.setD _ w.runs[i] _ rfl) (by omega)
 split
 ·refine Sb.mono (S:=S) ?_ (by omega)
  have h2:Sb { w with runs:=(w.runs.set i w.runs[i].next).set i { w.runs[i].next with links:=w.runs[i].links++[tt.2] } } S:=h1.set (w:={ w with runs:=w.runs.set i w.runs[i].next }) (i:=i) (by show i<(w.runs.set i _).length;rw [List.length_set];exact hi) (fun e=>by show ((w.runs.set i w.runs[i].next)[i]'(by rw [List.length_set];exact hi)).st≠3;rw [List.getElem_set_self];exact e) w.queue w.taken w.lost w.now
  refine h2.setD _ w.runs[i] _ ?_
  show ((w.runs.set i w.runs[i].next).getD (tt.2-1).toNat w.runs[i]).st=(((w.runs.set i w.runs[i].next).set i { w.runs[i].next with links:=w.runs[i].links++[tt.2] }).getD (tt.2-1).toNat w.runs[i]).st
  rw [List.getD_eq_getElem?_getD,List.getD_eq_getElem?_getD,List.set_set]
  by_cases e:i=(tt.2-1).toNat
  ·rw [←e,List.getElem?_set_self hi,List.getElem?_set_self hi]
   rfl
  ·rw [List.getElem?_set_ne e,List.getElem?_set_ne e]
 ·exact h1.mono (by omega)
theorem stepR_sb {w w':PW} {B:Nat} {S:Int} (hw:w.Wk B) (hB:B≤140) (hS:S≤1000000) (i:Nat) (hi:i<w.runs.length) (hs:w.runs[i].st=1) (o:OpD) (h:stepR w i ((i:Int)+1) w.runs[i] o w') (s:Sb w S):Sb w' (S+1):=by
 have fall:∀{v:Int×Int},EndR v w [(i:Int)+1] w'→Sb w' (S+1):=fun e=>(EndR.sb hB hS e hw (fun x hx=>by rw [List.mem_singleton.1 hx];omega) s).mono (by omega)
 have put:∀y:RunD,y.st=w.runs[i].st→Sb { w with runs:=w.runs.set i y } (S+1):=fun y e=>(s.set hi (fun f=>by rw [e] at f;exact f) w.queue w.taken w.lost w.now).mono (by omega)
 unfold stepR at h
 by_cases e1:o.k=1
 ·rw [if_pos e1] at h
  rw [h];exact put _ rfl
 rw [if_neg e1] at h
 by_cases e2:o.k=2
 ·rw [if_pos e2] at h
  rw [h];exact put _ rfl
 rw [if_neg e2] at h
 by_cases e3:o.k=3
 ·rw [if_pos e3] at h
  split at h
  ·rw [h];exact put _ rfl
  ·exact fall h
 rw [if_neg e3] at h
 by_cases e4:o.k=4
 ·rw [if_pos e4] at h
  rw [h];exact put _ rfl
 rw [if_neg e4] at h
 by_cases e5:o.k=5
 ·rw [if_pos e5] at h
  rw [h];exact(begin_sb s hi _ _ _).mono (by omega)
 rw [if_neg e5] at h
 by_cases e7:o.k=7∨o.k=8
 ·rw [if_pos e7] at h
  rw [h];exact(take_sb s hi hs _ _ _).mono (by omega)
 rw [if_neg e7] at h
 by_cases e9:o.k=9
 ·rw [if_pos e9] at h
  rw [h];exact put _ rfl
 rw [if_neg e9] at h
 by_cases e10:o.k=10
 ·rw [if_pos e10] at h
  rw [h];exact put _ rfl
 rw [if_neg e10] at h
 by_cases e13:o.k=13
 ·rw [if_pos e13] at h
  rw [h];exact put _ rfl
 rw [if_neg e13] at h
 by_cases e14:o.k=14
 ·rw [if_pos e14] at h
  exact fall h
 rw [if_neg e14] at h
 rcases h with ⟨_,h⟩ | ⟨_,h⟩
 ·exact fall h
 ·rw [h];exact other_sb s hw.runs hS hi _ _ _ _
theorem StepsR.sb {i:Nat} {id:Int} (hid:id=(i:Int)+1) {R:Nat→Prop} {n:Nat} {w w':PW} (h:StepsR i id n w w'):∀(B:Nat) (S:Int),w.Inv B R→CodeR w.code R→w.code.length≤1000→i<w.runs.length→B+n≤140→S+n≤1000000→Sb w S→Sb w' (S+n):=by
 induction h using StepsR.ind with
 | zero w=>exact fun B S _ _ _ _ _ _ s=>s.mono (by omega)
 | stop n w d _ _=>exact fun B S _ _ _ _ _ _ s=>s.mono (by omega)
 | step n w w1 w' d p o h1 h2 h3 h4 h5 h6 ih =>
  intro B S hw c hC hi hB hS s
  have hd:w.runs[i]=d:=by rw [List.getElem?_eq_getElem hi] at h1;cases h1;rfl
  obtain⟨hlt,ho⟩:=List.getElem?_eq_some_iff.1 h4
  subst hd
  subst ho
  obtain⟨q,hq,hR⟩:=(hw.runs _ (List.getElem_mem hi)).at_
  have e:p=q:=by omega
  subst e
  rw [hid] at h5
  have hA:=stepR_inv hw c hC i hi p h3 hR hlt h5
  have hL:=stepR_len hw i hi h5
  have hs:=stepR_sb hw.wk (by omega) (by omega) i hi h2 _ h5 s
  exact(ih (B+1) (S+1) hA (by rw [hL.1];exact c) (by rw [hL.1];exact hC) (by omega) (by omega) (by omega) hs).mono (by omega)
theorem doR_sb {w w':PW} {R:Nat→Prop} (h:doR w w') (B:Nat) (S:Int) (hw:w.Inv B R) (c:CodeR w.code R) (hC:w.code.length≤1000) (hB:B+3≤140) (hS:S+3≤1000000) (s:Sb w S):Sb w' (S+3):=by
 unfold doR at h
 split at h
 ·rw [h];exact s.mono (by omega)
 ·rename_i id q hq
  obtain⟨d,w2,d2,h1,h2,h3,h4⟩:=h
  obtain⟨j,hid,_⟩:=hw.wk.q2 id (by rw [hq];exact List.mem_cons_self)
  have hj:(id-1).toNat=j:=by omega
  rw [hj] at h1 h2 h3
  obtain⟨hi,rfl⟩:=List.getElem?_eq_some_iff.1 h1
  have hm:=List.getElem_mem hi
  have hri:=hw.runs _ hm
  have hA:=hw.set c j hi w.runs[j].turn _ hw.wk.q1 (hw.wk.stay hi rfl) ⟨hri.at_,hri.sv,hri.mv,hri.why⟩ (hw.wk.slots w.runs[j] hm) (hw.wk.mail w.runs[j] hm) (hw.wk.linksB w.runs[j] hm) (hw.wk.watB w.runs[j] hm) (hw.wk.links w.runs[j] hm) w.now w.sent w.taken w.lost
  have s1:Sb { w with runs:=w.runs.set j w.runs[j].turn } S:=s.set hi (y:=w.runs[j].turn) (fun e=>e) w.queue w.taken w.lost w.now
  have s2:=StepsR.sb hid h2 B S hA c hC (by show j<(w.runs.set j _).length;rw [List.length_set];exact hi) hB hS s1
  rw [h4]
  split
  ·exact s2.of rfl (Nat.le_refl _) rfl
  ·exact s2
theorem tickS_sb {w:PW} {S:Int} (h:Sb w S) (j:Nat):Sb (tickS w j) S:=by
 unfold tickS
 split
 ·rename_i d hd
  obtain⟨hi,rfl⟩:=List.getElem?_eq_some_iff.1 hd
  split
  ·rename_i hc
   refine h.set hi (fun _ e=>?_) _ w.taken w.lost w.now
   rw [e] at hc
   cases hc
  ·exact h
 ·exact h
theorem ticks_sb:∀(L:List Nat) {w:PW} {S:Int},Sb w S→Sb (L.foldl tickS w) S
 | [],_,_,h=>h
 | j::L,_,_,h=>ticks_sb L (tickS_sb h j)
theorem eventR_sb {w w':PW} {e:EvD} {R:Nat→Prop} (h:eventR w e w') (B:Nat) (S:Int) (hw:w.Inv B R) (c:CodeR w.code R) (hC:w.code.length≤1000) (hB:B+3≤140) (hS:S+3≤1000000) (s:Sb w S):Sb w' (S+3):=by
 have up:=s.mono (by omega:S≤S+3)
 unfold eventR at h
 by_cases e1:e.k=1
 ·rw [if_pos e1] at h;exact doR_sb h B S hw c hC hB hS s
 rw [if_neg e1] at h
 by_cases e2:e.k=2
 ·rw [if_pos e2] at h;rw [h]
  unfold tickP
  split
  ·exact up
  ·exact ticks_sb _ (up.of (w':={ w with now:=wr (w.now+1) }) rfl (Nat.le_refl _) rfl)
 rw [if_neg e2] at h
 by_cases e3:e.k=3
 ·rw [if_pos e3] at h;rw [h]
  by_cases hv:okV (e.vk,e.vn)=true
  ·rw [if_pos hv]
   exact(s.give hw.wk.runs (by omega) _ _).mono (by omega)
  ·rw [if_neg hv];exact up
 rw [if_neg e3] at h
 by_cases e4:e.k=4
 ·rw [if_pos e4] at h
  rcases h with ⟨d,hv,h1,hd,_,hR⟩ | ⟨h,_⟩
  ·have hl:=(List.getElem?_eq_some_iff.1 hd).1
   exact EndR.sb (by omega) (by omega) hR hw.wk (fun x hx=>by rw [List.mem_singleton.1 hx];omega) up
  ·rw [h];exact up
 rw [if_neg e4] at h
 rw [h];exact up
theorem PlayR.sb {C:List OpD} {R:Nat→Prop} (c:CodeR C R) (h0:R 0) (hC:C.length≤1000) {es:List EvD} {w:PW} (h:PlayR C es w):w.Inv (3*es.length) R∧w.code=C∧(es.length≤45→Sb w (3*(es.length:Int))):=by
 refine PlayR.keep (I:=fun es w=>w.Inv (3*es.length) R∧w.code=C∧(es.length≤45→Sb w (3*(es.length:Int)))) ⟨fresh_inv c h0,rfl,fun _=>⟨Int.le_refl _,by show (0:Int)+280*((1:Nat):Int)≤3*((0:Nat):Int)+280*((1:Nat):Int);omega⟩⟩ (fun es w e w' ⟨i1,i2,i3⟩ h2=>?_) h
 have:=eventR_inv h2 _ i1 (by rw [i2];exact c) (by rw [i2];omega)
 rw [List.length_append]
 refine⟨this.1,this.2.1.trans i2,fun hl=>?_⟩
 have hl':es.length+1≤45:=hl
 have:=eventR_sb h2 _ (3*(es.length:Int)) i1 (by rw [i2];exact c) (by rw [i2];omega) (by omega) (by omega) (i3 (by omega))
 exact this.mono (by simp;omega)
theorem DrawnW.sent {d:PW} (h:DrawnW d):d.sent<9990:=by
 obtain⟨C,es,w,hsafe,hP,hes,hs⟩:=h
 obtain⟨V,hV,hcr,hc0⟩:=safe_code hsafe
 have hlen:=safe_len hsafe
 have key:=hP.sb hcr hc0 (by omega)
 have h1:=key.2.2 hes
 have h6:=key.1.wk.runs
 have h0:=h1.1
 have h2:=h1.2
 have hsent:w.sent≤3000:=by omega
 rcases hs with rfl | rfl | rfl | ⟨x,k,hx,_,_,rfl⟩ | ⟨x,hx,rfl⟩ | ⟨C',_,_,rfl⟩
 ·omega
 ·show w.sent<9990;omega
 ·show wr (w.sent+1)<9990
  rw [show wr (w.sent+1)=w.sent+1 from wrapN _ (by omega) (by omega)];omega
 ·show w.sent<9990;omega
 ·show w.sent<9990;omega
 ·show w.sent<9990;omega
end Go.Proofs.YtllbeifcipefjaaGreatDoor
