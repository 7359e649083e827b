import Derived.Test.YtbejochaghmmbaaGreatDoorSj
namespace Go.Proofs.YtbejochaghmmbaaGreatDoor
open Go.RowKit
set_option maxRecDepth 100000
theorem among_mem {L:List Int} {n:Int}:amongP L n=true↔n∈L:=by
 unfold amongP
 rw [List.any_eq_true]
 exact⟨fun⟨x,hx,e⟩=>by(have:x=n:=by simpa using e);rw [←this];exact hx,fun h=>⟨n,h,by simp⟩⟩
def sleepP (w:PW) (d:RunD):Bool :=
 if (stepAt w.code d).k=7 then (d.due==0&&decide (firstP d.mail (stepAt w.code d).s<0))
 else ((stepAt w.code d).k==8&&(decide (w.now<d.due)&&decide (firstP d.mail (stepAt w.code d).s<0)))
def mailsP (L:List RunD):Nat:=(L.map fun d=>d.mail.length).sum
def goingP (L:List RunD):Nat:=(L.filter fun d=>d.st==1).length
structure FitS (w:PW) (V:List Int) (i:Nat) (d:RunD):Prop where
 ok:Eld.specRB d.toE=true
 id:d.id=(i:Int)+1
 pl:d.pl<w.code.length
 q:amongP w.queue d.id=(d.st==1)
 sl:d.st=2→sleepP w d=true
 ties:d.st≠3→∀x∈d.links++d.wat,x≤w.runs.length
 nn:d.st≠3→0≤Eld.atV V d.pl.toNat
 full:d.st≠3→Eld.meet (Eld.atV V d.pl.toNat) d.full=Eld.atV V d.pl.toNat
structure CntP (w:PW):Prop where
 now:0≤w.now∧w.now≤300
 sent:0≤w.sent∧w.sent≤9999
 taken:0≤w.taken∧w.taken≤9999
 lost:0≤w.lost∧w.lost≤9999
structure OkS (w:PW) (V:List Int):Prop where
 n1:1≤w.runs.length
 n6:w.runs.length≤6
 cnt:CntP w
 ids:Eld.idsB 0 w.queue=true
 fit:∀i (hi:i<w.runs.length),FitS w V i w.runs[i]
 qn:∀x∈w.queue,x≤w.runs.length
 both:∀a b (ha:a<w.runs.length) (hb:b<a),amongP w.runs[a].links ((b:Int)+1)=amongP (w.runs[b]'(Nat.lt_trans hb ha)).links ((a:Int)+1)
 sum:w.sent=w.taken+w.lost+(mailsP w.runs:Int)
structure RunsI (w:PW):Prop where
 n1:1≤w.runs.length
 n6:w.runs.length≤6
 run:∀i (hi:i<w.runs.length),Eld.runB w.runs[i].toE=true∧w.runs[i].id=(i:Int)+1∧w.runs[i].pl<w.code.length
structure PlaceI (w:PW) (V:List Int) (d:RunD):Prop where
 nn:d.st≠3→Eld.atV V d.pl.toNat ≠ -1
 full:d.st≠3→bits .andNot .i64 (Eld.atV V d.pl.toNat) d.full=0
 sl:d.st=2→sleepP w d=true
structure TiesI (w:PW) (d:RunD):Prop where
 wat:∀x∈d.wat,x≤w.runs.length
 links:∀x∈d.links,x≤w.runs.length∧∀j (hj:j<w.runs.length),x=(j:Int)+1→d.id∈w.runs[j].links
structure OkI (w:PW) (V:List Int):Prop where
 runs:RunsI w
 q:∀i (hi:i<w.runs.length),w.runs[i].st=1→w.runs[i].id∈w.queue
 ql:w.queue.length=goingP w.runs
 cnt:CntP w
 sum:w.sent=w.taken+w.lost+(mailsP w.runs:Int)
 place:∀i (hi:i<w.runs.length),PlaceI w V w.runs[i]
 ties:∀i (hi:i<w.runs.length),TiesI w w.runs[i]
structure RunF (d:RunD):Prop where
 id:1≤d.id∧d.id≤6
 pl:0≤d.pl∧d.pl≤15
 sl:d.slots.length=4
 full:0≤d.full∧d.full≤15
 mail:d.mail.length≤12
 st:1≤d.st∧d.st≤3
 l1:∀x∈d.links,(1≤x∧x≤6)∧x≠d.id
 l2:d.links.Nodup
 w1:∀x∈d.wat,(1≤x∧x≤6)∧x≠d.id
 w2:d.wat.Nodup
 fin:d.st=3→d.mail=[]∧d.links=[]∧d.wat=[]
theorem idsB_iff (own:Int):∀L:List Int,Eld.idsB own L=true↔(∀x∈L,(1≤x∧x≤6)∧x≠own)∧L.Nodup:=by
 intro L
 have e:Eld.idsB own L=true↔∀i,i<L.length→Eld.idQ own L i=true:=by
  unfold Eld.idsB
  rw [List.all_eq_true]
  exact⟨fun h i hi=>h i (List.mem_range.2 hi),fun h i hi=>h i (List.mem_range.1 hi)⟩
 have q:∀i (hi:i<L.length),Eld.idQ own L i=true↔((1≤L[i]∧L[i]≤6)∧L[i]≠own)∧L[i]∉L.take i:=by
  intro i hi
  have hg:L.getD i 0=L[i]:=by rw [List.getD_eq_getElem?_getD,List.getElem?_eq_getElem hi];rfl
  unfold Eld.idQ Eld.isRunB Eld.hasI
  rw [hg]
  simp only [Bool.and_eq_true,decide_eq_true_eq,Bool.not_eq_true',beq_eq_false_iff_ne,ne_eq,List.contains_eq_mem,decide_eq_false_iff_not]
  constructor
  ·rintro⟨a,b,c⟩;exact⟨⟨a,b⟩,c⟩
  ·rintro⟨⟨a,b⟩,c⟩;exact⟨a,b,c⟩
 rw [e]
 constructor
 ·intro h
  refine⟨fun x hx=>?_,?_⟩
  ·obtain⟨i,hi,rfl⟩:=List.getElem_of_mem hx
   exact((q i hi).1 (h i hi)).1
  ·rw [List.nodup_iff_pairwise_ne,List.pairwise_iff_getElem]
   intro i j hi hj hij heq
   refine((q j hj).1 (h j hj)).2 ?_
   rw [←heq]
   exact List.mem_take_iff_getElem.2 ⟨i,by omega,rfl⟩
 ·rintro⟨h1,h2⟩ i hi
  refine(q i hi).2 ⟨h1 _ (List.getElem_mem hi),fun hm=>?_⟩
  obtain⟨j,hj,ej⟩:=List.mem_take_iff_getElem.1 hm
  rw [List.nodup_iff_pairwise_ne,List.pairwise_iff_getElem] at h2
  exact h2 j i (by omega) hi (by omega) ej
theorem runF {d:RunD} (h:Eld.runB d.toE=true):RunF d:=by
 unfold Eld.runB Eld.isRunB Eld.isPlaceB Eld.slotsB Eld.mailB Eld.countsB at h
 simp only [Bool.and_eq_true,decide_eq_true_eq,beq_iff_eq] at h
 obtain⟨⟨h1,h2⟩,⟨h3,h4⟩,⟨h5,⟨h6,h7⟩,_⟩,⟨h8,_⟩,⟨h9,h10,h11,h12,h13,h14⟩,h15,h16,h17⟩:=h
 obtain⟨a1,a2⟩:=(idsB_iff _ _).1 h15
 obtain⟨b1,b2⟩:=(idsB_iff _ _).1 h16
 refine⟨⟨h1,h2⟩,⟨h3,h4⟩,h5,⟨h6,h7⟩,h8,⟨h9,h10⟩,a1,a2,b1,b2,fun e=>?_⟩
 have h17':Eld.endB d.toE=true:=h17
 unfold Eld.endB at h17'
 rw [if_pos (show d.toE.st=3 from e)] at h17'
 simp only [Bool.and_eq_true,beq_iff_eq] at h17'
 exact⟨List.eq_nil_of_length_eq_zero h17'.1,List.eq_nil_of_length_eq_zero h17'.2.1,List.eq_nil_of_length_eq_zero h17'.2.2⟩
theorem nodup_le:∀{L M:List Int},L.Nodup→(∀x∈L,x∈M)→L.length≤M.length
 | [],_,_,_=>Nat.zero_le _
 | x::L,M,hn,hs=>by
  have hx:x∈M:=hs x (by simp)
  have hn':=List.nodup_cons.1 hn
  have:=nodup_le (L:=L) (M:=M.erase x) hn'.2 fun y hy=>by
   have hyx:y≠x:=fun e=>hn'.1 (by rw [←e];exact hy)
   exact(List.mem_erase_of_ne hyx).2 (hs y (List.mem_cons_of_mem _ hy))
  rw [List.length_erase_of_mem hx] at this
  have:0<M.length:=List.length_pos_of_mem hx
  simp only [List.length_cons]
  omega
theorem nodup_all:∀{L M:List Int},L.Nodup→(∀x∈L,x∈M)→M.length=L.length→M.Nodup∧∀x∈M,x∈L
 | [],M,_,_,hl=>by
  have:M=[]:=List.eq_nil_of_length_eq_zero (by simpa using hl)
  subst this
  exact⟨List.nodup_nil,fun x hx=>by cases hx⟩
 | x::L,M,hn,hs,hl=>by
  have hx:x∈M:=hs x (by simp)
  have hn':=List.nodup_cons.1 hn
  have hlen:(M.erase x).length=L.length:=by rw [List.length_erase_of_mem hx,hl];simp
  obtain⟨k1,k2⟩:=nodup_all (L:=L) (M:=M.erase x) hn'.2 (fun y hy=>by
   have hyx:y≠x:=fun e=>hn'.1 (by rw [←e];exact hy)
   exact(List.mem_erase_of_ne hyx).2 (hs y (List.mem_cons_of_mem _ hy))) hlen
  have hp:=List.perm_cons_erase hx
  have hxe:x∉M.erase x:=fun h=>hn'.1 (k2 x h)
  refine⟨hp.symm.nodup (List.nodup_cons.2 ⟨hxe,k1⟩),fun y hy=>?_⟩
  rcases List.mem_cons.1 (hp.mem_iff.1 hy) with rfl | hy
  ·simp
  ·exact List.mem_cons_of_mem _ (k2 y hy)
def goers (L:List RunD):List Int:=(L.filter fun d=>d.st==1).map (·.id)
theorem goers_len (L:List RunD):(goers L).length=goingP L:=by simp [goers,goingP]
theorem goers_mem {L:List RunD} {x:Int}:x∈goers L↔∃i,∃hi:i<L.length,L[i].st=1∧L[i].id=x:=by
 unfold goers
 rw [List.mem_map]
 constructor
 ·rintro⟨d,hd,e⟩
  obtain⟨h1,h2⟩:=List.mem_filter.1 hd
  obtain⟨i,hi,rfl⟩:=List.getElem_of_mem h1
  exact⟨i,hi,by simpa using h2,e⟩
 ·rintro⟨i,hi,h1,h2⟩
  exact⟨L[i],List.mem_filter.2 ⟨List.getElem_mem hi,by simpa using h1⟩,h2⟩
theorem goers_nodup {L:List RunD} (h:∀i (hi:i<L.length),L[i].id=(i:Int)+1):(goers L).Nodup:=by
 have h1:(L.map (·.id)).Nodup:=by
  rw [List.nodup_iff_pairwise_ne,List.pairwise_iff_getElem]
  intro i j hi hj hij
  simp only [List.length_map] at hi hj
  simp only [List.getElem_map]
  rw [h i hi,h j hj]
  omega
 exact List.Sublist.nodup (List.Sublist.map _ List.filter_sublist) h1
theorem andNot_meet {a b:Int} (ha:Eld.Bd a) (h0:0≤a) (hb:0≤b∧b≤15):bits .andNot .i64 a b=0↔Eld.meet a b=a:=by
 have key:∀i:_root_.Fin 17,∀j:_root_.Fin 16,0≤(i.val:Int)-1→(bits .andNot .i64 ((i.val:Int)-1) (j.val:Int)=0↔Eld.meet ((i.val:Int)-1) (j.val:Int)=(i.val:Int)-1):=by decide +kernel
 obtain⟨i,rfl⟩:=Eld.bd_fin ha
 have:=key i ⟨b.toNat,by omega⟩ h0
 rw [show (((⟨b.toNat,by omega⟩:_root_.Fin 16).val:Nat):Int)=b from by simp;omega] at this
 exact this
theorem ok_iff {w:PW} {V:List Int} (hV:∀i,Eld.Bd (Eld.atV V i)) (hw:∀d∈w.runs,okV (d.wk,d.wn)=true):OkI w V↔OkS w V:=by
 have hrb:∀i (hi:i<w.runs.length),Eld.specRB w.runs[i].toE=Eld.runB w.runs[i].toE:=fun i hi=>by
  have hy:Eld.okB w.runs[i].toE.wk w.runs[i].toE.wn=true:=hw _ (List.getElem_mem hi)
  unfold Eld.specRB
  rw [hy,Bool.and_true]
 constructor
 ·intro h
  have hid:∀i (hi:i<w.runs.length),w.runs[i].id=(i:Int)+1:=fun i hi=>(h.runs.run i hi).2.1
  have hn6:=h.runs.n6
  obtain⟨qn,qs⟩:=nodup_all (L:=goers w.runs) (M:=w.queue) (goers_nodup hid) (fun x hx=>by
   obtain⟨i,hi,h1,rfl⟩:=goers_mem.1 hx
   exact h.q i hi h1) (by rw [goers_len];exact h.ql)
  have qin:∀x∈w.queue,∃i,∃hi:i<w.runs.length,w.runs[i].st=1∧x=(i:Int)+1:=fun x hx=>by
   obtain⟨i,hi,h1,h2⟩:=goers_mem.1 (qs x hx)
   exact⟨i,hi,h1,by rw [←h2,hid i hi]⟩
  refine⟨h.runs.n1,hn6,h.cnt,?_,fun i hi=>?_,?_,?_,h.sum⟩
  ·rw [idsB_iff]
   refine⟨fun x hx=>?_,qn⟩
   obtain⟨i,hi,_,rfl⟩:=qin x hx
   omega
  ·have hr:=(h.runs.run i hi).1
   have hf:=runF hr
   have hp:=h.place i hi
   have ht:=h.ties i hi
   refine⟨by rw [hrb i hi];exact hr,hid i hi,(h.runs.run i hi).2.2,?_,hp.sl,fun _ x hx=>?_,fun e=>?_,fun e=>?_⟩
   ·rw [Bool.eq_iff_iff,among_mem,beq_iff_eq]
    constructor
    ·intro hm
     obtain⟨j,hj,h1,h2⟩:=qin _ hm
     have:i=j:=by have:=hid i hi;omega
     subst this
     exact h1
    ·exact h.q i hi
   ·rcases List.mem_append.1 hx with hx | hx
    ·exact(ht.links x hx).1
    ·exact ht.wat x hx
   ·have h1:=hp.nn e
    have h2:=(hV w.runs[i].pl.toNat).1
    omega
   ·have h1:=hp.nn e
    have h2:=(hV w.runs[i].pl.toNat).1
    exact(andNot_meet (hV _) (by omega) hf.full).1 (hp.full e)
  ·intro x hx
   obtain⟨i,hi,_,rfl⟩:=qin x hx
   omega
  ·intro a b ha hb
   have hb':b<w.runs.length:=Nat.lt_trans hb ha
   rw [Bool.eq_iff_iff,among_mem,among_mem]
   constructor
   ·intro hm
    have:=((h.ties a ha).links _ hm).2 b hb' rfl
    rw [hid a ha] at this
    exact this
   ·intro hm
    have:=((h.ties b hb').links _ hm).2 a ha rfl
    rw [hid b hb'] at this
    exact this
 ·intro h
  have hid:∀i (hi:i<w.runs.length),w.runs[i].id=(i:Int)+1:=fun i hi=>(h.fit i hi).id
  have hrB:∀i (hi:i<w.runs.length),Eld.runB w.runs[i].toE=true:=fun i hi=>by rw [←hrb i hi];exact(h.fit i hi).ok
  obtain⟨q1,qn⟩:=(idsB_iff 0 w.queue).1 h.ids
  have hq:∀i (hi:i<w.runs.length),w.runs[i].st=1→w.runs[i].id∈w.queue:=fun i hi e=>by
   rw [←among_mem,(h.fit i hi).q,e]
   rfl
  refine⟨⟨h.n1,h.n6,fun i hi=>⟨hrB i hi,hid i hi,(h.fit i hi).pl⟩⟩,hq,?_,h.cnt,h.sum,fun i hi=>?_,fun i hi=>?_⟩
  ·rw [←goers_len]
   refine Nat.le_antisymm (nodup_le qn fun x hx=>?_) (nodup_le (goers_nodup hid) fun x hx=>?_)
   ·obtain⟨i,rfl⟩:∃i:Nat,x=(i:Int)+1:=⟨(x-1).toNat,by have:=(q1 x hx).1;omega⟩
    have hi:i<w.runs.length:=by have:=h.qn _ hx;omega
    refine goers_mem.2 ⟨i,hi,?_,hid i hi⟩
    have:=(h.fit i hi).q
    rw [hid i hi,among_mem.2 hx] at this
    simpa using this.symm
   ·obtain⟨i,hi,h1,rfl⟩:=goers_mem.1 hx
    exact hq i hi h1
  ·have hf:=h.fit i hi
   have hF:=runF (hrB i hi)
   refine⟨fun e=>?_,fun e=>(andNot_meet (hV _) (hf.nn e) hF.full).2 (hf.full e),hf.sl⟩
   have:=hf.nn e
   omega
  ·have hf:=h.fit i hi
   have hF:=runF (hrB i hi)
   refine⟨fun x hx=>hf.ties (fun e=>?_) x (List.mem_append_right _ hx),fun x hx=>?_⟩
   ·rw [(hF.fin e).2.2] at hx;cases hx
   ·have hne:w.runs[i].st≠3:=fun e=>by rw [(hF.fin e).2.1] at hx;cases hx
    refine⟨hf.ties hne x (List.mem_append_left _ hx),fun j hj e=>?_⟩
    subst e
    have hij:¬j=i:=fun e=>by
     subst e
     exact(hF.l1 _ hx).2 (hid j hj).symm
    rw [hid i hi]
    rcases Nat.lt_or_gt_of_ne hij with hlt | hlt
    ·rw [←among_mem,←h.both i j hi hlt,among_mem]
     exact hx
    ·rw [←among_mem,h.both j i hj hlt,among_mem]
     exact hx
end Go.Proofs.YtbejochaghmmbaaGreatDoor
