import Derived.Test.YtgmkmeodimmdoaaGreatDoorBSj
namespace Go.Proofs.YtgmkmeodimmdoaaGreatDoor
open Go.RowKit
set_option maxRecDepth 100000
theorem among_mem {L:List Int} {n:Int}:amongP L n=true↔n∈L:=by
 unfold amongP;rw [List.any_eq_true];exact⟨fun⟨x,hx,e⟩=>by(have:x=n:=by simpa using e);rw [←this];exact hx,fun h=>⟨n,h,by simp⟩⟩
def sleepP (w:PW) (d:RunD):Bool :=
 if (stepAt w.code d).k=7 then (d.due==0&&decide (firstP d.mail (stepAt w.code d).s<0))
 else ((stepAt w.code d).k==8&&(decide (w.now<d.due)&&decide (firstP d.mail (stepAt w.code d).s<0)))
def mailsP (L:List RunD):Nat:=(L.map fun d=>d.mail.length).sum
def goingP (L:List RunD):Nat:=(L.filter fun d=>d.st==1).length
structure FitS (w:PW) (V:List Int) (i:Nat) (d:RunD):Prop where
 ok:Eld.specRB d.toE=true
 id:d.id=(i:Int)+1
 pl:d.pl<w.code.length
 q:amongP w.queue d.id=(d.st==1)
 sl:d.st=2→sleepP w d=true
 ties:d.st≠3→∀x∈d.links++d.wat,x≤w.runs.length
 nn:d.st≠3→0≤Eld.atV V d.pl.toNat
 full:d.st≠3→Eld.meet (Eld.atV V d.pl.toNat) d.full=Eld.atV V d.pl.toNat
structure CntP (w:PW):Prop where
 now:0≤w.now∧w.now≤300
 sent:0≤w.sent∧w.sent≤9999
 taken:0≤w.taken∧w.taken≤9999
 lost:0≤w.lost∧w.lost≤9999
structure OkS (w:PW) (V:List Int):Prop where
 n1:1≤w.runs.length
 n6:w.runs.length≤6
 cnt:CntP w
 ids:Eld.idsB 0 w.queue=true
 fit:∀i (hi:i<w.runs.length),FitS w V i w.runs[i]
 qn:∀x∈w.queue,x≤w.runs.length
 both:∀a b (ha:a<w.runs.length) (hb:b<a),amongP w.runs[a].links ((b:Int)+1)=amongP (w.runs[b]'(Nat.lt_trans hb ha)).links ((a:Int)+1)
 sum:w.sent=w.taken+w.lost+(mailsP w.runs:Int)
structure RunsI (w:PW):Prop where
 n1:1≤w.runs.length
 n6:w.runs.length≤6
 run:∀i (hi:i<w.runs.length),Eld.runB w.runs[i].toE=true∧w.runs[i].id=(i:Int)+1∧w.runs[i].pl<w.code.length
structure PlaceI (w:PW) (V:List Int) (d:RunD):Prop where
 nn:d.st≠3→Eld.atV V d.pl.toNat ≠ -1
 full:d.st≠3→bits .andNot .i64 (Eld.atV V d.pl.toNat) d.full=0
 sl:d.st=2→sleepP w d=true
structure TiesI (w:PW) (d:RunD):Prop where
 wat:∀x∈d.wat,x≤w.runs.length
 links:∀x∈d.links,x≤w.runs.length∧∀j (hj:j<w.runs.length),x=(j:Int)+1→d.id∈w.runs[j].links
structure OkI (w:PW) (V:List Int):Prop where
 runs:RunsI w
 q:∀i (hi:i<w.runs.length),w.runs[i].st=1→w.runs[i].id∈w.queue
 ql:w.queue.length=goingP w.runs
 cnt:CntP w
 sum:w.sent=w.taken+w.lost+(mailsP w.runs:Int)
 place:∀i (hi:i<w.runs.length),PlaceI w V w.runs[i]
 ties:∀i (hi:i<w.runs.length),TiesI w w.runs[i]
structure RunF (d:RunD):Prop where
 id:1≤d.id∧d.id≤6
 pl:0≤d.pl∧d.pl≤15
 sl:d.slots.length=4
 full:0≤d.full∧d.full≤15
 mail:d.mail.length≤12
 st:1≤d.st∧d.st≤3
 l1:∀x∈d.links,(1≤x∧x≤6)∧x≠d.id
 l2:d.links.Nodup
 w1:∀x∈d.wat,(1≤x∧x≤6)∧x≠d.id
 w2:d.wat.Nodup
 fin:d.st=3→d.mail=[]∧d.links=[]∧d.wat=[]
theorem idsB_iff (own:Int):∀L:List Int,Eld.idsB own L=true↔(∀x∈L,(1≤x∧x≤6)∧x≠own)∧L.Nodup:=by
 intro L;have e:Eld.idsB own L=true↔∀i,i<L.length→Eld.idQ own L i=true:=by
  unfold Eld.idsB;rw [List.all_eq_true];exact⟨fun h i hi=>h i (List.mem_range.2 hi),fun h i hi=>h i (List.mem_range.1 hi)⟩
 have q:∀i (hi:i<L.length),Eld.idQ own L i=true↔((1≤L[i]∧L[i]≤6)∧L[i]≠own)∧L[i]∉L.take i:=by
  intro i hi;have hg:L.getD i 0=L[i]:=by rw [List.getD_eq_getElem?_getD,List.getElem?_eq_getElem hi];rfl
  unfold Eld.idQ Eld.isRunB Eld.hasI;rw [hg];simp only [Bool.and_eq_true,decide_eq_true_eq,Bool.not_eq_true',beq_eq_false_iff_ne,ne_eq,List.contains_eq_mem,decide_eq_false_iff_not]
  constructor
  ·rintro⟨a,b,c⟩;exact⟨⟨a,b⟩,c⟩
  ·rintro⟨⟨a,b⟩,c⟩;exact⟨a,b,c⟩
 rw [e]
 constructor
 ·intro h;refine⟨fun x hx=>?_,?_⟩
  ·obtain⟨i,hi,rfl⟩:=List.getElem_of_mem hx;exact((q i hi).1 (h i hi)).1
  ·rw [List.nodup_iff_pairwise_ne,List.pairwise_iff_getElem];intro i j hi hj hij heq;refine((q j hj).1 (h j hj)).2 ?_;rw [←heq];exact List.mem_take_iff_getElem.2 ⟨i,by omega,rfl⟩
 ·rintro⟨h1,h2⟩ i hi;refine(q i hi).2 ⟨h1 _ (List.getElem_mem hi),fun hm=>?_⟩;obtain⟨j,hj,ej⟩:=List.mem_take_iff_getElem.1 hm;rw [List.nodup_iff_pairwise_ne,List.pairwise_iff_getElem] at h2;exact h2 j i (by omega) hi (by omega) ej
theorem runF {d:RunD} (h:Eld.runB d.toE=true):RunF d:=by
 unfold Eld.runB Eld.isRunB Eld.isPlaceB Eld.slotsB Eld.mailB Eld.countsB at h;simp only [Bool.and_eq_true,decide_eq_true_eq,beq_iff_eq] at h;obtain⟨⟨h1,h2⟩,⟨h3,h4⟩,⟨h5,⟨h6,h7⟩,_⟩,⟨h8,_⟩,⟨h9,h10,h11,h12,h13,h14⟩,h15,h16,h17⟩:=h;obtain⟨a1,a2⟩:=(idsB_iff _ _).1 h15;obtain⟨b1,b2⟩:=(idsB_iff _ _).1 h16;refine⟨⟨h1,h2⟩,⟨h3,h4⟩,h5,⟨h6,h7⟩,h8,⟨h9,h10⟩,a1,a2,b1,b2,fun e=>?_⟩;have h17':Eld.endB d.toE=true:=h17;unfold Eld.endB at h17';rw [if_pos (show d.toE.st=3 from e)] at h17';simp only [Bool.and_eq_true,beq_iff_eq] at h17';exact⟨List.eq_nil_of_length_eq_zero h17'.1,List.eq_nil_of_length_eq_zero h17'.2.1,List.eq_nil_of_length_eq_zero h17'.2.2⟩
theorem nodup_le:∀{L M:List Int},L.Nodup→(∀x∈L,x∈M)→L.length≤M.length
 |[],_,_,_=>Nat.zero_le _
 |x::L,M,hn,hs=>by
  have hx:x∈M:=hs x (by simp);have hn':=List.nodup_cons.1 hn;have:=nodup_le (L:=L) (M:=M.erase x) hn'.2 fun y hy=>by
   have hyx:y≠x:=fun e=>hn'.1 (by rw [←e];exact hy)
   exact(List.mem_erase_of_ne hyx).2 (hs y (List.mem_cons_of_mem _ hy))
  rw [List.length_erase_of_mem hx] at this;have:0<M.length:=List.length_pos_of_mem hx;simp only [List.length_cons];omega
theorem nodup_all:∀{L M:List Int},L.Nodup→(∀x∈L,x∈M)→M.length=L.length→M.Nodup∧∀x∈M,x∈L
 |[],M,_,_,hl=>by
  have:M=[]:=List.eq_nil_of_length_eq_zero (by simpa using hl);subst this;exact⟨List.nodup_nil,fun x hx=>by cases hx⟩
 |x::L,M,hn,hs,hl=>by
  have hx:x∈M:=hs x (by simp);have hn':=List.nodup_cons.1 hn;have hlen:(M.erase x).length=L.length:=by rw [List.length_erase_of_mem hx,hl];simp
  obtain⟨k1,k2⟩:=nodup_all (L:=L) (M:=M.erase x) hn'.2 (fun y hy=>by
   have hyx:y≠x:=fun e=>hn'.1 (by rw [←e];exact hy)
   exact(List.mem_erase_of_ne hyx).2 (hs y (List.mem_cons_of_mem _ hy))) hlen
  have hp:=List.perm_cons_erase hx;have hxe:x∉M.erase x:=fun h=>hn'.1 (k2 x h)
  refine⟨hp.symm.nodup (List.nodup_cons.2 ⟨hxe,k1⟩),fun y hy=>?_⟩;rcases List.mem_cons.1 (hp.mem_iff.1 hy) with rfl|hy
  ·simp
  ·exact List.mem_cons_of_mem _ (k2 y hy)
def goers (L:List RunD):List Int:=(L.filter fun d=>d.st==1).map (·.id)
theorem goers_len (L:List RunD):(goers L).length=goingP L:=by simp [goers,goingP]
theorem goers_mem {L:List RunD} {x:Int}:x∈goers L↔∃i,∃hi:i<L.length,L[i].st=1∧L[i].id=x:=by
 unfold goers;rw [List.mem_map]
 constructor
 ·rintro⟨d,hd,e⟩;obtain⟨h1,h2⟩:=List.mem_filter.1 hd;obtain⟨i,hi,rfl⟩:=List.getElem_of_mem h1;exact⟨i,hi,by simpa using h2,e⟩
 ·rintro⟨i,hi,h1,h2⟩;exact⟨L[i],List.mem_filter.2 ⟨List.getElem_mem hi,by simpa using h1⟩,h2⟩
theorem goers_nodup {L:List RunD} (h:∀i (hi:i<L.length),L[i].id=(i:Int)+1):(goers L).Nodup:=by
 have h1:(L.map (·.id)).Nodup:=by
  rw [List.nodup_iff_pairwise_ne,List.pairwise_iff_getElem];intro i j hi hj hij;simp only [List.length_map] at hi hj;simp only [List.getElem_map];rw [h i hi,h j hj];omega
 exact List.Sublist.nodup (List.Sublist.map _ List.filter_sublist) h1
theorem andNot_meet {a b:Int} (ha:Eld.Bd a) (h0:0≤a) (hb:0≤b∧b≤15):bits .andNot .i64 a b=0↔Eld.meet a b=a:=by
 have key:∀i:_root_.Fin 17,∀j:_root_.Fin 16,0≤(i.val:Int)-1→(bits .andNot .i64 ((i.val:Int)-1) (j.val:Int)=0↔Eld.meet ((i.val:Int)-1) (j.val:Int)=(i.val:Int)-1):=by decide +kernel
 obtain⟨i,rfl⟩:=Eld.bd_fin ha;have:=key i ⟨b.toNat,by omega⟩ h0;rw [show (((⟨b.toNat,by omega⟩:_root_.Fin 16).val:Nat):Int)=b from by simp;omega] at this;exact this
theorem ok_iff {w:PW} {V:List Int} (hV:∀i,Eld.Bd (Eld.atV V i)) (hw:∀d∈w.runs,okV (d.wk,d.wn)=true):OkI w V↔OkS w V:=by
 have hrb:∀i (hi:i<w.runs.length),Eld.specRB w.runs[i].toE=Eld.runB w.runs[i].toE:=fun i hi=>by
  have hy:Eld.okB w.runs[i].toE.wk w.runs[i].toE.wn=true:=hw _ (List.getElem_mem hi);unfold Eld.specRB;rw [hy,Bool.and_true]
 constructor
 ·intro h;have hid:∀i (hi:i<w.runs.length),w.runs[i].id=(i:Int)+1:=fun i hi=>(h.runs.run i hi).2.1
  have hn6:=h.runs.n6;obtain⟨qn,qs⟩:=nodup_all (L:=goers w.runs) (M:=w.queue) (goers_nodup hid) (fun x hx=>by
   obtain⟨i,hi,h1,rfl⟩:=goers_mem.1 hx;exact h.q i hi h1) (by rw [goers_len];exact h.ql)
  have qin:∀x∈w.queue,∃i,∃hi:i<w.runs.length,w.runs[i].st=1∧x=(i:Int)+1:=fun x hx=>by
   obtain⟨i,hi,h1,h2⟩:=goers_mem.1 (qs x hx);exact⟨i,hi,h1,by rw [←h2,hid i hi]⟩
  refine⟨h.runs.n1,hn6,h.cnt,?_,fun i hi=>?_,?_,?_,h.sum⟩
  ·rw [idsB_iff];refine⟨fun x hx=>?_,qn⟩;obtain⟨i,hi,_,rfl⟩:=qin x hx;omega
  ·have hr:=(h.runs.run i hi).1;have hf:=runF hr;have hp:=h.place i hi;have ht:=h.ties i hi;refine⟨by rw [hrb i hi];exact hr,hid i hi,(h.runs.run i hi).2.2,?_,hp.sl,fun _ x hx=>?_,fun e=>?_,fun e=>?_⟩
   ·rw [Bool.eq_iff_iff,among_mem,beq_iff_eq]
    constructor
    ·intro hm;obtain⟨j,hj,h1,h2⟩:=qin _ hm;have:i=j:=by have:=hid i hi;omega
     subst this;exact h1
    ·exact h.q i hi
   ·rcases List.mem_append.1 hx with hx|hx
    ·exact(ht.links x hx).1
    ·exact ht.wat x hx
   ·have h1:=hp.nn e;have h2:=(hV w.runs[i].pl.toNat).1;omega
   ·have h1:=hp.nn e;have h2:=(hV w.runs[i].pl.toNat).1;exact(andNot_meet (hV _) (by omega) hf.full).1 (hp.full e)
  ·intro x hx;obtain⟨i,hi,_,rfl⟩:=qin x hx;omega
  ·intro a b ha hb;have hb':b<w.runs.length:=Nat.lt_trans hb ha;rw [Bool.eq_iff_iff,among_mem,among_mem]
   constructor
   ·intro hm;have:=((h.ties a ha).links _ hm).2 b hb' rfl;rw [hid a ha] at this;exact this
   ·intro hm;have:=((h.ties b hb').links _ hm).2 a ha rfl;rw [hid b hb'] at this;exact this
 ·intro h;have hid:∀i (hi:i<w.runs.length),w.runs[i].id=(i:Int)+1:=fun i hi=>(h.fit i hi).id
  have hrB:∀i (hi:i<w.runs.length),Eld.runB w.runs[i].toE=true:=fun i hi=>by rw [←hrb i hi];exact(h.fit i hi).ok
  obtain⟨q1,qn⟩:=(idsB_iff 0 w.queue).1 h.ids;have hq:∀i (hi:i<w.runs.length),w.runs[i].st=1→w.runs[i].id∈w.queue:=fun i hi e=>by
   rw [←among_mem,(h.fit i hi).q,e];rfl
  refine⟨⟨h.n1,h.n6,fun i hi=>⟨hrB i hi,hid i hi,(h.fit i hi).pl⟩⟩,hq,?_,h.cnt,h.sum,fun i hi=>?_,fun i hi=>?_⟩
  ·rw [←goers_len];refine Nat.le_antisymm (nodup_le qn fun x hx=>?_) (nodup_le (goers_nodup hid) fun x hx=>?_)
   ·obtain⟨i,rfl⟩:∃i:Nat,x=(i:Int)+1:=⟨(x-1).toNat,by have:=(q1 x hx).1;omega⟩;have hi:i<w.runs.length:=by have:=h.qn _ hx;omega
    refine goers_mem.2 ⟨i,hi,?_,hid i hi⟩;have:=(h.fit i hi).q;rw [hid i hi,among_mem.2 hx] at this;simpa using this.symm
   ·obtain⟨i,hi,h1,rfl⟩:=goers_mem.1 hx;exact hq i hi h1
  ·have hf:=h.fit i hi;have hF:=runF (hrB i hi);refine⟨fun e=>?_,fun e=>(andNot_meet (hV _) (hf.nn e) hF.full).2 (hf.full e),hf.sl⟩;have:=hf.nn e;omega
  ·have hf:=h.fit i hi;have hF:=runF (hrB i hi);refine⟨fun x hx=>hf.ties (fun e=>?_) x (List.mem_append_right _ hx),fun x hx=>?_⟩
   ·rw [(hF.fin e).2.2] at hx;cases hx
   ·have hne:w.runs[i].st≠3:=fun e=>by rw [(hF.fin e).2.1] at hx;cases hx
    refine⟨hf.ties hne x (List.mem_append_left _ hx),fun j hj e=>?_⟩;subst e;have hij:¬j=i:=fun e=>by
     subst e;exact(hF.l1 _ hx).2 (hid j hj).symm
    rw [hid i hi];rcases Nat.lt_or_gt_of_ne hij with hlt|hlt
    ·rw [←among_mem,←h.both i j hi hlt,among_mem];exact hx
    ·rw [←among_mem,h.both j i hj hlt,among_mem];exact hx
theorem Rd.eqlB {o:Oper} {x y:Operand} {t2:TypeId} (ho:o.op=.binOp .eql 4 x y t2) {ev:Operand→Value} {h:Hp} {K:Value→Prop} {a b:Bool} (hx:ev x=.bool a) (hy:ev y=.bool b) (k:K (.bool (a==b))):Rd Tryz.prog (execOp ev o) h K:=by
 refine⟨_,fun w _=>?_,k⟩;have:=eqlB_run a b x y w;simp only [execOp,ho,hx,hy];exact run_value _ w _ w this
theorem Con.keep {P:Program} {f:FuncId} {args:Array Value} {h:Hp} {R:Value→Prop} (c:Con P f args h fun r h'=>R r∧h.le h'):Con P f args h fun r h'=>R r∧h'=h :=
 ⟨c.ent,fun w hw=>(c.run w hw).mono fun _ _ ⟨v,_,he,⟨hr,hl⟩,hi,hf⟩=>⟨v,h,he,⟨hr,rfl⟩,hi.mono hl,⟨hf.os,hf.tape,hf.output,hf.size,fun b hb e=>⟨(hf.priv b hb e).1,e⟩⟩⟩⟩
theorem map_flatI:∀L:List Int,L.map (Value.int .i64)=L.flatMap encI
 |[]=>rfl
 |x::L=>by rw [List.map_cons,List.flatMap_cons,map_flatI L];rfl
theorem Own.addI {h:Hp} {w w':World} (hw:InH h w) {l:List Atom} (ho:Own h l) {v:Value} {L:List Int} (hv:Eld.Owns w' w.heap.size v L) (hb:Below w.heap.size w w') :
  ∃a k h',v=.slice a L.length k∧h.le h'∧Own h' (.row (rowI (.slice a L.length k) L)::l)∧InH h' w'∧Fr h w h' w':=by
 obtain⟨h1,⟨hn,h0⟩|⟨g,cap,cur,hg,hge,hh,hr⟩⟩:=hv
 ·have:L=[]:=List.eq_nil_of_length_eq_zero h0;subst this;subst hn;refine⟨none,0,h,rfl,Hp.le_refl _,ho.add ⟨rfl,.inl ⟨rfl,rfl⟩⟩ (fun g e=>by cases e) (fun _ _=>rfl),fun b o e=>by rw [hb.block b (hw.lt e)];exact hw b o e,⟨hb.os,hb.tape,hb.output,hb.size,fun b hl e=>⟨hb.block b hl,e⟩⟩⟩
 ·subst hg;have hnone:h g=none:=by
   cases e:h g with
   |none=>rfl
   |some o=>have:=hw.lt e;omega
  refine⟨some ⟨g,0,none⟩,cap,h.put g (.cells cur 3 (0,0)),rfl,fun b o e=>by rw [Hp.put_ne _ _ (fun e2=>by subst e2;rw [hnone] at e;cases e)];exact e,?_,?_,?_⟩
  ·refine ho.add ⟨?_,.inr ⟨g,cap,cur,rfl,Hp.put_same _ _ _,?_⟩⟩ (fun b e=>by cases e;exact hnone) (fun b e=>Hp.put_ne _ _ fun e2=>e (by subst e2;rfl))
   ·show (L.flatMap encI).length=L.length*1;exact flat_len encI 1 encI_len _
   ·show L.length≤cap∧cap≤maxLen∧cur.size=cap*1∧cur.toList.take (L.length*1)=L.flatMap encI;rw [←map_flatI];exact hr
  ·intro b o e;by_cases e2:b=g
   ·subst e2;rw [Hp.put_same] at e;cases e;exact hh
   ·rw [Hp.put_ne _ _ e2] at e;rw [hb.block b (hw.lt e)];exact hw b o e
  ·exact⟨hb.os,hb.tape,hb.output,hb.size,fun b hl e=>⟨hb.block b hl,by rw [Hp.put_ne _ _ (by omega)];exact e⟩⟩
theorem RowOk.le {h h':Hp} {r:Row} (o:RowOk h r) (hl:h.le h'):RowOk h' r:=by
 obtain⟨a,b|⟨g,cap,cur,e,hg,k⟩⟩:=o
 ·exact⟨a,.inl b⟩
 ·exact⟨a,.inr ⟨g,cap,cur,e,hl _ _ hg,k⟩⟩
theorem RunIn.le {h h':Hp} {d:RunD} {p:RunP} (o:RunIn h d p) (hl:h.le h'):RunIn h' d p:=⟨o.r0.le hl,o.r1.le hl,o.r2.le hl,o.r3.le hl⟩
structure WIn (h:Hp) (D:WD):Prop where
 code:RowOk h (rowO D.cv D.code)
 runs:RowOk h (rowR D.rv D.runs)
 queue:RowOk h (rowI D.qv D.queue)
 each:∀i (hi:i<D.runs.length),RunIn h D.runs[i].1 D.runs[i].2
theorem WIn.le {h h':Hp} {D:WD} (o:WIn h D) (hl:h.le h'):WIn h' D:=⟨o.code.le hl,o.runs.le hl,o.queue.le hl,fun i hi=>(o.each i hi).le hl⟩
theorem Own.win {h:Hp} {L:List Atom} (o:Own h L) {D:WD} (hm:∀x∈wAtoms D,x∈L):WIn h D:=by
 have hr:∀i (hi:i<D.runs.length),∀x∈runRows D.runs[i],x∈L:=fun i hi x hx=>hm x (by
  unfold wAtoms;simp only [List.mem_cons,List.mem_flatMap];exact .inr (.inr (.inr ⟨_,List.getElem_mem hi,hx⟩)))
 exact⟨o.rowOk (hm _ (by simp [wAtoms])),o.rowOk (hm _ (by simp [wAtoms])),o.rowOk (hm _ (by simp [wAtoms])),fun i hi=>o.run (d:=D.runs[i].1) (p:=D.runs[i].2) (hr i hi)⟩
structure RunD.Sm (d:RunD):Prop where
 s0:d.slots.length≤1000
 s1:d.mail.length≤1000
 s2:d.links.length≤1000
 s3:d.wat.length≤1000
theorem RunD.Sm.sh {d:RunD} (h:d.Sm):d.Sh:=⟨by have:=h.s0;omega,by have:=h.s1;omega,by have:=h.s2;omega,by have:=h.s3;omega⟩
structure PW.Sm (w:PW):Prop where
 code:w.code.length≤1000
 runs:w.runs.length≤1000
 queue:w.queue.length≤1000
 each:∀d∈w.runs,d.Sm
theorem DrawnW.sm {d:PW} (h:DrawnW d):d.Sm:=by
 obtain⟨h1,h2,h3,h4,h5,h6⟩:=h.facts;refine⟨by omega,by omega,by omega,fun x hx=>?_⟩;obtain⟨k1,k2,k3,k4⟩:=h3 x hx;exact⟨by omega,by omega,by omega,by omega⟩
theorem fullS_con (a:Option Addr) (k:Nat) (L:List OpD) (hC:Eld.codeB (L.map OpD.toV)=true) (h:Hp) (l:List Atom) (ho:Own h l) (hr:RowOk h (rowO (.slice a L.length k) L)) :
  Con Tryz.prog 42 #[.slice a L.length k] h fun r h'=>∃V a' k',r=.slice a' V.length k'∧Eld.IsFull (L.map OpD.toV) V∧h.le h'∧Own h' (.row (rowI (.slice a' V.length k') V)::l):=by
 refine⟨Tryz.call42 _,fun w hw=>?_⟩;have:=Eld.l3Full_any (L.map OpD.toV) a k w hC (code_at hr hw);rw [List.length_map] at this;refine this.mono fun e w' ⟨V,he,hF,hB,hb⟩=>?_
 have hVl:V.length=L.length:=by rw [hF.1.1.1,List.length_map]
 have hO:Eld.Owns w' w.heap.size (.slice (some ⟨w.heap.size,0,none⟩) V.length V.length) V:=hB;obtain⟨a',k',h',hv,hle,hown,hi,hf⟩:=Own.addI hw ho hO hb;refine⟨_,h',he,⟨V,a',k',?_,hF,hle,hown⟩,hi,hf⟩;rw [←hv,hVl]
theorem both_con (a b:Int) (ha:Eld.Bd a) (hb0:0≤b) (hb:b≤15) (h:Hp):Con Tryz.prog 77 #[.int .i64 a,.int .i64 b] h fun r h'=>r=.int .i64 (Eld.meet a b)∧h'=h:=by
 refine Con.of_below (Tryz.call77 _) fun w _=>?_
 exact(Eld.l3Both_any a b w ha hb0 hb).mono fun e w' ⟨he,hb⟩=>⟨⟨_,he,rfl⟩,hb⟩
theorem ids_con (own:Int) (a:Option Addr) (k:Nat) (L:List Int) (hL:L.length≤1000000) (h:Hp) (hr:RowOk h (rowI (.slice a L.length k) L)) :
  Con Tryz.prog 41 #[.slice a L.length k,.int .i64 own] h fun r h'=>r=.bool (Eld.idsB own L)∧h'=h:=by
 refine Con.of_below (Tryz.call41 _) fun w hw=>?_
 exact(Eld.l11Ids_any w.heap.size own L a k w (Nat.le_refl _) (by omega) (row_cap hr) (ints_at hr hw)).mono fun e w' ⟨he,hb⟩=>⟨⟨_,he,rfl⟩,hb⟩
theorem stepAt_get {C:List OpD} {d:RunD} {k:Nat} (hk:d.pl=k) (hlt:k<C.length):stepAt C d=C[k]:=by
 unfold stepAt;rw [hk,List.getD_eq_getElem?_getD,show ((k:Int)).toNat=k by simp,List.getElem?_eq_getElem hlt];rfl
theorem l12Waiting_con (D:WD) (d:RunD) (p:RunP) (hsm:d.Sm) (hpl:∃k:Nat,d.pl=k∧k<D.code.length) (h:Hp) (hw:WIn h D) (hin:RunIn h d p) :
  Con Tryz.prog 76 #[D.val,d.val p] h fun r h'=>r=.bool (sleepP D.pure d)∧h'=h:=by
 obtain⟨k,hk,hlt⟩:=hpl;have hcr:RowOk h (rowO D.cv D.code):=hw.code;obtain⟨gc,hca⟩:=row_some hcr (by omega);have hcv:D.cv=.slice (some ⟨gc,0,none⟩) D.code.length D.ck:=by rw [WD.cv,hca]
 have hs:stepAt D.pure.code d=D.code[k]:=stepAt_get hk hlt;have hml:=hsm.s1;refine Con.of_W (tb:=tbE) (args:=[D.val,d.val p]) Tryz.func76 rfl Tryz.results76 Tryz.ntmps76 (by simp) (Tryz.call76 _) (tm:=[(0,.a D.cells),(1,.a (d.cells p))]) rfl ?_;refine vc_ok ⟨tbE_ok,_,Tryz.func76,Tryz.results76,Tryz.ntmps76⟩ 400 _ _ _ _ ?_;conv=>whnf
 refine Ext.index slOp.u slOp.size rfl (by exact hcv) rfl k hk hlt ?_;conv=>whnf
 refine Ext.loadOp rfl hcr hcv hlt rfl ?_;conv=>whnf
 have hE:sleepP D.pure d=if (D.code[k].k==7)=true then (d.due==0&&decide (firstP d.mail D.code[k].s<0)) else (D.code[k].k==8&&(decide (D.now<d.due)&&decide (firstP d.mail D.code[k].s<0))):=by
  unfold sleepP;rw [hs];simp only [beq_iff_eq];rfl
 rw [hE];refine⟨fun h3=>?_,fun h3=>?_⟩<;>conv=>whnf
 ·rw [if_pos h3];refine⟨fun h4=>?_,fun h4=>?_⟩<;>conv=>whnf
  ·refine(l11First_con d p D.code[k].s (by omega) h hin.r1).mono ?_;rintro r h5 ⟨rfl,rfl⟩;conv=>whnf
   exact⟨by rw [h4,Bool.true_and];rfl,rfl⟩
  ·exact⟨by rw [show (d.due==0)=false from h4];rfl,rfl⟩
 ·rw [if_neg (by rw [h3];decide)];refine⟨fun h4=>?_,fun h4=>?_⟩<;>conv=>whnf
  ·refine⟨fun h5=>?_,fun h5=>?_⟩<;>conv=>whnf
   ·refine(l11First_con d p D.code[k].s (by omega) h hin.r1).mono ?_;rintro r h6 ⟨rfl,rfl⟩;conv=>whnf
    exact⟨by rw [h4,h5,Bool.true_and,Bool.true_and];rfl,rfl⟩
   ·exact⟨by rw [show (decide (D.now<d.due))=false from h5,Bool.false_and,Bool.and_false];rfl,rfl⟩
  ·exact⟨by rw [show (D.code[k].k==8)=false from h4,Bool.false_and];rfl,rfl⟩
theorem l12Linked_con (D:WD) (a b:Nat) (ha:a<D.runs.length) (hb:b<D.runs.length) (hsm:D.pure.Sm) (h:Hp) (hw:WIn h D) :
  Con Tryz.prog 44 #[D.val,.int .i64 (a:Nat),.int .i64 (b:Nat)] h fun r h'=>r=.bool (amongP D.runs[a].1.links ((b:Int)+1)==amongP D.runs[b].1.links ((a:Int)+1))∧h'=h:=by
 have hr:RowOk h (rowR D.rv D.runs):=hw.runs;obtain⟨g,hra⟩:=row_some hr (by omega);have hv:D.rv=.slice (some ⟨g,0,none⟩) D.runs.length D.rk:=by rw [WD.rv,hra]
 have hn:D.runs.length≤1000:=by have:=hsm.runs;rw [pure_len] at this;exact this
 have w1:IntKind.i64.wrap ((b:Int)+1)=(b:Int)+1:=wrapN _ (by omega) (by omega);have w2:IntKind.i64.wrap ((a:Int)+1)=(a:Int)+1:=wrapN _ (by omega) (by omega);refine Con.of_W (tb:=tbE) (args:=[D.val,.int .i64 (a:Nat),.int .i64 (b:Nat)]) Tryz.func44 rfl Tryz.results44 Tryz.ntmps44 (by simp) (Tryz.call44 _) (tm:=[(0,.a D.cells),(1,.v (.int .i64 (a:Nat))),(2,.v (.int .i64 (b:Nat)))]) rfl ?_;refine vc_ok ⟨tbE_ok,_,Tryz.func44,Tryz.results44,Tryz.ntmps44⟩ 400 _ _ _ _ ?_;conv=>whnf
 refine W.draw [(0,true),(1,true),(2,true),(3,true),(4,true),(5,true),(6,true),(7,true),(9,true),(10,true),(11,true),(12,true),(13,true),(14,true),(15,true),(16,true),(8,false),(17,false),(18,true),(19,true)] [0] (some h) 99 (by kernel_rfl) rfl (by kernel_rfl) mixed rfl (fun g e=>by cases e;exact Hp.le_refl _) ?_;refine vc_ok ⟨tbE_ok,_,Tryz.func44,Tryz.results44,Tryz.ntmps44⟩ 400 _ _ _ _ ?_;conv=>whnf
 refine Rd.index slRun.u slRun.size rfl (by exact hv) rfl a rfl ha ?_;conv=>whnf
 refine Rd.loadRunCell (D:=D) rfl ⟨rfl,rfl⟩ rfl hr hv ha 7 (by decide) rfl (.slice D.runs[a].2.a2 D.runs[a].1.links.length D.runs[a].2.k2) rfl ?_;conv=>whnf
 refine Rd.index slRun.u slRun.size rfl (by exact hv) rfl b rfl hb ?_;conv=>whnf
 refine Rd.loadRunCell (D:=D) rfl ⟨rfl,rfl⟩ rfl hr hv hb 7 (by decide) rfl (.slice D.runs[b].2.a2 D.runs[b].1.links.length D.runs[b].2.k2) rfl ?_;conv=>whnf
 rw [w1,w2];have la:D.runs[a].1.links.length<100000:=by have:=(hsm.each _ (pure_mem ha)).s2;omega
 have lb:D.runs[b].1.links.length<100000:=by have:=(hsm.each _ (pure_mem hb)).s2;omega
 refine(l11Among_con _ _ _ _ la h (hw.each a ha).r2).mono ?_;rintro r h1 ⟨rfl,rfl⟩;conv=>whnf
 refine⟨Hp.le_refl _,?_⟩;conv=>whnf
 refine(l11Among_con _ _ _ _ lb h1 (hw.each b hb).r2).mono ?_;rintro r h2 ⟨rfl,rfl⟩;conv=>whnf
 refine⟨Hp.le_refl _,?_⟩;conv=>whnf
 refine Rd.eqlB rfl rfl rfl ?_;conv=>whnf
 exact⟨rfl,rfl⟩
theorem Rd.neqB {o:Oper} {x y:Operand} {t2:TypeId} (ho:o.op=.binOp .neq 4 x y t2) {ev:Operand→Value} {h:Hp} {K:Value→Prop} {a b:Bool} (hx:ev x=.bool a) (hy:ev y=.bool b) (k:K (.bool (a != b))):Rd Tryz.prog (execOp ev o) h K:=by
 refine⟨_,fun w _=>?_,k⟩;have:=neqB_run a b x y w;simp only [execOp,ho,hx,hy];exact run_value _ w _ w this
theorem Rd.loadInt {o:Oper} {y:Operand} (ho:o.op=.load 3 y) {ev:Operand→Value} {h:Hp} {K:Value→Prop} {v:Value} {L:List Int} (hr:RowOk h (rowI v L)) {g cap:Nat} (hv:v=.slice (some ⟨g,0,none⟩) L.length cap) {i:Nat} (hi:i<L.length) (hy:ev y=.pointer (some ⟨g,0+i*1,none⟩)) (k:K (.int .i64 L[i])):Rd Tryz.prog (execOp ev o) h K :=
 Rd.load tbE_ok rfl ho hr hv hy (by show 0+i*1+1≤L.length*1;omega) (.int .i64 L[i]) (.inr ⟨rfl,by rw [Nat.zero_add];exact flat_get encI 1 encI_len L i hi 0 (by decide),rfl⟩) k
theorem l12Run_con (D:WD) (V:List Int) (fa:Option Addr) (fk:Nat) (i:Nat) (hi:i<D.runs.length) (hsm:D.pure.Sm) (hVl:V.length=D.code.length) (hVb:∀k,Eld.Bd (Eld.atV V k)) (h:Hp) (hw:WIn h D) (hV:RowOk h (rowI (.slice fa V.length fk) V)) :
  Con Tryz.prog 43 #[D.val,.slice fa V.length fk,.int .i64 (i:Nat)] h fun r h'=>(∃b,r=.bool b∧(b=true↔FitS D.pure V i D.runs[i].1))∧h'=h:=by
 have hr:RowOk h (rowR D.rv D.runs):=hw.runs;obtain⟨g,hra⟩:=row_some hr (by omega);have hv:D.rv=.slice (some ⟨g,0,none⟩) D.runs.length D.rk:=by rw [WD.rv,hra]
 have hn:D.runs.length≤1000:=by have:=hsm.runs;rw [pure_len] at this;exact this
 have hS:=hsm.each _ (pure_mem hi);have hin:=hw.each i hi;have w2:IntKind.i64.wrap ((i:Int)+1)=(i:Int)+1:=wrapN _ (by omega) (by omega);refine Con.of_W (tb:=tbE) (args:=[D.val,.slice fa V.length fk,.int .i64 (i:Nat)]) Tryz.func43 rfl Tryz.results43 Tryz.ntmps43 (by simp) (Tryz.call43 _) (tm:=[(0,.a D.cells),(1,.v (.slice fa V.length fk)),(2,.v (.int .i64 (i:Nat)))]) rfl ?_;refine vc_ok ⟨tbE_ok,_,Tryz.func43,Tryz.results43,Tryz.ntmps43⟩ 400 _ _ _ _ ?_;conv=>whnf
 refine Ext.index slRun.u slRun.size rfl (by exact hv) rfl i rfl hi ?_;conv=>whnf
 refine Ext.loadRun rfl hr hv hi rfl ?_;conv=>whnf
 generalize hd:D.runs[i]=y at *;obtain⟨d,p⟩:=y;dsimp only at hS hin ⊢;refine W.draw [(0,true),(1,false),(2,true),(3,true),(4,true),(5,true),(6,true),(7,true),(8,true),(9,true),(10,true),(11,true),(12,true),(13,true),(14,true),(15,true),(16,true),(17,true),(18,true),(19,true),(20,true),(21,true),(22,true),(24,true),(25,true),(26,true),(23,false),(27,true),(28,true)] [0,1] (some h) 99 (by kernel_rfl) rfl (by kernel_rfl) mixed rfl (fun g e=>by cases e;exact Hp.le_refl _) ?_;refine vc_ok ⟨tbE_ok,_,Tryz.func43,Tryz.results43,Tryz.ntmps43⟩ 400 _ _ _ _ ?_;conv=>whnf
 refine(sRunOk_con d p hS.sh h hin).mono ?_;rintro r h1 ⟨rfl,rfl⟩;conv=>whnf
 refine⟨Hp.le_refl _,?_⟩;conv=>whnf
 refine⟨fun b1=>?_,fun b1=>?_⟩<;>conv=>whnf
 rotate_left
 ·exact⟨⟨false,rfl,fun e=>(by cases e),fun f=>absurd f.ok (by simpa using b1)⟩,rfl⟩
 rw [w2];conv=>whnf
 refine⟨fun b2=>?_,fun b2=>?_⟩<;>conv=>whnf
 rotate_left
 ·exact⟨⟨false,rfl,fun e=>(by cases e),fun f=>absurd f.id (by simpa using b2)⟩,rfl⟩
 refine⟨fun b3=>?_,fun b3=>?_⟩<;>conv=>whnf
 rotate_left
 ·have b3':(D.code.length:Int)≤d.pl:=by simpa using b3
  exact⟨⟨false,rfl,fun e=>(by cases e),fun f=>absurd f.pl (Int.not_lt.2 b3')⟩,rfl⟩
 refine(l11Among_con _ _ _ _ (by have:=hsm.queue;show D.queue.length<100000;exact Nat.lt_of_le_of_lt this (by decide)) h1 hw.queue).mono ?_;rintro r h2 ⟨rfl,rfl⟩;conv=>whnf
 refine⟨Hp.le_refl _,?_⟩;conv=>whnf
 refine Rd.neqB rfl rfl rfl ?_;conv=>whnf
 refine⟨fun b4=>?_,fun b4=>?_⟩<;>conv=>whnf
 ·exact⟨⟨false,rfl,fun e=>(by cases e),fun f=>absurd f.q (show ¬amongP D.queue d.id=(d.st==1) by simpa using b4)⟩,rfl⟩
 have hd1:Eld.specRB d.toE=true:=by simpa using b1
 have hd2:d.id=(i:Int)+1:=by simpa using b2
 have hd3:d.pl<D.code.length:=by simpa using b3
 have hd4:amongP D.queue d.id=(d.st==1):=by simpa using b4
 clear b1 b2 b3 b4;have hF:RunF d:=runF (by have:=hd1;unfold Eld.specRB at this;rw [Bool.and_eq_true] at this;exact this.1);obtain⟨pk,hpk⟩:∃pk:Nat,d.pl=pk:=⟨d.pl.toNat,by have:=hF.pl.1;omega⟩;have hpl:∃k:Nat,d.pl=k∧k<D.code.length:=⟨pk,hpk,by omega⟩;refine⟨fun b5=>?_,fun b5=>?_⟩<;>conv=>whnf
 refine(l12Waiting_con D d p hS hpl h2 hw hin).mono ?_;rintro r h2 ⟨rfl,rfl⟩;conv=>whnf
 refine⟨fun b6=>?_,fun b6=>?_⟩<;>conv=>whnf
 ·refine⟨⟨false,rfl,fun e=>(by cases e),fun f=>?_⟩,rfl⟩;rw [f.sl (by simpa using b5)] at b6
  cases b6
 have hsl:d.st=2→sleepP D.pure d=true:=fun _=>by simpa using b6
 clear b5 b6;rotate_left;have hsl:d.st=2→sleepP D.pure d=true:=fun e=>by rw [e] at b5;cases b5
 clear b5
 all_goals
  refine⟨fun b7=>?_,fun b7=>?_⟩<;>conv=>whnf
  ·have h3:d.st=3:=by simpa using b7
   exact⟨⟨true,rfl,fun _=>⟨hd1,hd2,hd3,hd4,fun e=>by omega,fun e=>absurd h3 e,fun e=>absurd h3 e,fun e=>absurd h3 e⟩,fun _=>rfl⟩,rfl⟩
  have hne:d.st≠3:=fun e=>by rw [e] at b7;cases b7
  clear b7;refine W.cut [(7,.p 1 0),(3,.p 0 0),(1,.v (.slice fa V.length fk)),(8,.v (.int .i64 (0:Nat)))] [⟨27,D.cells⟩,⟨34,d.cells p⟩] [] ⟨rfl,rfl,rfl,rfl,trivial⟩ rfl rfl ⟨_,rfl⟩ ?_;refine W.loop (α:=Nat) (fun k=>[(7,.p 1 0),(3,.p 0 0),(1,.v (.slice fa V.length fk)),(8,.v (.int .i64 (k:Int)))]) (fun _=>[⟨27,D.cells⟩,⟨34,d.cells p⟩]) (fun k h'=>k≤d.links.length+d.wat.length∧(∀j (hj:j<(d.links++d.wat).length),j<k→(d.links++d.wat)[j]≤(D.runs.length:Int))∧h'=h2) (fun k=>d.links.length+d.wat.length-k) ?_ 0 h2 ⟨Nat.zero_le _,fun j _ hj=>absurd hj (Nat.not_lt_zero _),rfl⟩;have s2:=hS.s2;have s3:=hS.s3;have wn:IntKind.i64.wrap ((d.links.length:Int)+(d.wat.length:Int))=((d.links.length+d.wat.length:Nat):Int):=by rw [wrapN _ (by omega) (by omega)];omega
  rintro k h5 ⟨hk,hn,rfl⟩ ih;refine vc_ok ⟨tbE_ok,_,Tryz.func43,Tryz.results43,Tryz.ntmps43⟩ 400 _ _ _ _ ?_;conv=>whnf
  rw [wn];conv=>whnf
  refine⟨fun h6=>?_,fun h6=>?_⟩<;>conv=>whnf
  ·have hlt:k<d.links.length+d.wat.length:=by simp at h6;omega
   have hla:(d.links++d.wat).length=d.links.length+d.wat.length:=List.length_append;have step:∀(z:Int),(d.links++d.wat)[k]'(by omega)=z→z≤(D.runs.length:Int)→∀j (hj:j<(d.links++d.wat).length),j<k+1→(d.links++d.wat)[j]≤(D.runs.length:Int):=fun z hz hzl j hj hjk=>by
    rcases (by omega:j<k∨j=k) with h8|rfl
    ·exact hn j hj h8
    ·rw [hz];exact hzl
   have bad:∀(z:Int),(d.links++d.wat)[k]'(by omega)=z→(D.runs.length:Int)<z→¬FitS D.pure V i d:=fun z hz hzl f=>by
    have:=f.ties hne _ (List.getElem_mem (l:=d.links++d.wat) (n:=k) (by omega));rw [hz] at this;have:z≤(D.pure.runs.length:Int):=this;rw [pure_len] at this;omega
   have hwk:IntKind.i64.wrap ((k:Int)+1)=((k+1:Nat):Int):=by rw [wrapN _ (by omega) (by omega)];omega
   refine⟨fun b8=>?_,fun b8=>?_⟩<;>conv=>whnf
   ·have hkl:k<d.links.length:=by simp at b8;omega
    have hz:(d.links++d.wat)[k]'(by omega)=d.links[k]:=List.getElem_append_left hkl;obtain⟨gl,hva⟩:=row_some hin.r2 (by omega);have hlv:Value.slice p.a2 d.links.length p.k2=.slice (some ⟨gl,0,none⟩) d.links.length p.k2:=by rw [hva]
    refine Ext.index slInt.u slInt.size rfl (by exact hlv) rfl k rfl hkl ?_;conv=>whnf
    refine Ext.loadInt rfl hin.r2 hlv hkl rfl ?_;conv=>whnf
    refine⟨fun b9=>?_,fun b9=>?_⟩<;>conv=>whnf
    ·exact⟨⟨false,rfl,fun e=>(by cases e),fun f=>absurd f (bad _ hz (by simpa using b9))⟩,rfl⟩
    ·rw [hwk];exact W.back (ih (k+1) _ ⟨by omega,step _ hz (by simpa using b9),rfl⟩ (by omega)) [] (by exact⟨rfl,rfl,rfl,rfl,trivial⟩) rfl rfl
   ·have hkl:d.links.length≤k:=by simp at b8;omega
    have hkw:k-d.links.length<d.wat.length:=by omega
    have hz:(d.links++d.wat)[k]'(by omega)=d.wat[k-d.links.length]:=List.getElem_append_right hkl;have wk:IntKind.i64.wrap ((k:Int)-(d.links.length:Int))=((k-d.links.length:Nat):Int):=by rw [wrapN _ (by omega) (by omega)];omega
    obtain⟨gl,hva⟩:=row_some hin.r3 (by omega);have hlv:Value.slice p.a3 d.wat.length p.k3=.slice (some ⟨gl,0,none⟩) d.wat.length p.k3:=by rw [hva]
    refine Ext.index slInt.u slInt.size rfl (by exact hlv) rfl (k-d.links.length) wk hkw ?_;conv=>whnf
    refine Ext.loadInt rfl hin.r3 hlv hkw rfl ?_;conv=>whnf
    refine⟨fun b9=>?_,fun b9=>?_⟩<;>conv=>whnf
    ·exact⟨⟨false,rfl,fun e=>(by cases e),fun f=>absurd f (bad _ hz (by simpa using b9))⟩,rfl⟩
    ·rw [hwk];exact W.back (ih (k+1) _ ⟨by omega,step _ hz (by simpa using b9),rfl⟩ (by omega)) [] (by exact⟨rfl,rfl,rfl,rfl,trivial⟩) rfl rfl
  ·have hge:k=d.links.length+d.wat.length:=by simp at h6;omega
   have hties:∀x∈d.links++d.wat,x≤(D.pure.runs.length:Int):=fun x hx=>by
    obtain⟨j,hj,rfl⟩:=List.getElem_of_mem hx;rw [pure_len];exact hn j hj (by rw [hge,←List.length_append];exact hj)
   obtain⟨gv,hfa⟩:=row_some hV (by omega);have hfv:Value.slice fa V.length fk=.slice (some ⟨gv,0,none⟩) V.length fk:=by rw [hfa]
   have hpk2:pk<V.length:=by omega
   have hat:V[pk]=Eld.atV V d.pl.toNat:=by
    unfold Eld.atV;rw [hpk,List.getD_eq_getElem?_getD,show ((pk:Int)).toNat=pk by simp,List.getElem?_eq_getElem hpk2];rfl
   have hbd:=hVb d.pl.toNat;rw [←hat] at hbd;refine W.draw [(0,true),(1,true),(2,true),(3,true),(4,true),(5,true),(6,true),(7,true),(8,true),(9,true),(10,true),(11,true),(12,true),(13,true),(15,true),(16,true),(17,true),(18,true),(19,true),(14,false),(20,true),(21,true),(22,true)] [1] (some h5) 99 (by kernel_rfl) rfl (by kernel_rfl) mixed rfl (fun g e=>by cases e;exact Hp.le_refl _) ?_;refine vc_ok ⟨tbE_ok,_,Tryz.func43,Tryz.results43,Tryz.ntmps43⟩ 400 _ _ _ _ ?_;conv=>whnf
   refine Rd.index slInt.u slInt.size rfl (by exact hfv) rfl pk hpk hpk2 ?_;conv=>whnf
   refine Rd.loadInt rfl hV hfv hpk2 rfl ?_;conv=>whnf
   refine⟨fun b8=>?_,fun b8=>?_⟩<;>conv=>whnf
   ·have b8':0≤V[pk]:=by simpa using b8
    refine Rd.index slInt.u slInt.size rfl (by exact hfv) rfl pk hpk hpk2 ?_;conv=>whnf
    refine Rd.loadInt rfl hV hfv hpk2 rfl ?_;conv=>whnf
    refine Rd.index slInt.u slInt.size rfl (by exact hfv) rfl pk hpk hpk2 ?_;conv=>whnf
    refine Rd.loadInt rfl hV hfv hpk2 rfl ?_;conv=>whnf
    refine(both_con V[pk] d.full hbd hF.full.1 hF.full.2 h5).mono ?_;rintro r h9 ⟨rfl,rfl⟩;conv=>whnf
    refine⟨Hp.le_refl _,?_⟩;conv=>whnf
    refine⟨⟨_,rfl,fun e=>⟨hd1,hd2,hd3,hd4,hsl,fun _=>hties,fun _=>by rw [←hat];exact b8',fun _=>by rw [←hat];simpa using e⟩,fun f=>?_⟩,rfl⟩;have:=f.full hne;rw [←hat] at this;simpa using this
   ·exact⟨⟨false,rfl,fun e=>(by cases e),fun f=>absurd (f.nn hne) (by rw [←hat];simpa using b8)⟩,rfl⟩
def WOk (w:PW):Prop:=Eld.SafeOf (w.code.map OpD.toV) true∧∃V,Eld.IsFull (w.code.map OpD.toV) V∧OkS w V
theorem wok_full {w:PW} (h:WOk w) {V:List Int} (hV:Eld.IsFull (w.code.map OpD.toV) V):OkS w V:=by
 obtain⟨_,U,hU,ho⟩:=h;rw [Eld.full_one hV hU];exact ho
theorem in_no {lo n hi:Int} (h:(!(decide (lo≤n)&&decide (n≤hi)))=true):¬(lo≤n∧n≤hi):=fun k=>by
 rw [decide_eq_true k.1,decide_eq_true k.2] at h
 cases h
theorem in_yes {lo n hi:Int} (h:(!(decide (lo≤n)&&decide (n≤hi)))=false):lo≤n∧n≤hi:=by simpa using h
theorem full_bd {C:List Eld.OpV} {V:List Int} (h:Eld.IsFull C V) (k:Nat):Eld.Bd (Eld.atV V k):=h.1.1.2 k
theorem safeOf_ok {C:List Eld.OpV} (h:Eld.SafeOf C true):Eld.codeB C=true:=by
 rcases h with⟨h,_⟩|⟨_,h⟩
 ·exact h
 ·cases h
theorem mails_take (L:List RunD) (i:Nat) (hi:i<L.length):mailsP (L.take (i+1))=mailsP (L.take i)+L[i].mail.length:=by
 unfold mailsP;rw [List.take_succ_eq_append_getElem hi,List.map_append,List.sum_append];simp
theorem mails_le {L:List RunD} (h:∀d∈L,d.mail.length≤1000):∀i,mailsP (L.take i)≤i*1000
 |0=>by simp [mailsP]
 |i+1=>by
  by_cases hi:i<L.length
  ·rw [mails_take L i hi];have:=mails_le h i;have:=h _ (List.getElem_mem hi);omega
  ·have e:L.take (i+1)=L.take i:=by rw [List.take_of_length_le (by omega),List.take_of_length_le (by omega)]
   rw [e];have:=mails_le h i;omega
theorem sWorldOk_con (D:WD) (hsm:D.pure.Sm) (h:Hp) (hw:WIn h D) :
  Con Tryz.prog 17 #[D.val] h fun r h'=>(∃b,r=.bool b∧(b=true↔WOk D.pure))∧h'=h:=by
 refine Con.keep ?_;have hn:D.runs.length≤1000:=by have:=hsm.runs;rw [pure_len] at this;exact this
 have hC:D.code.length≤1000:=hsm.code;have hQ:D.queue.length≤1000:=hsm.queue;refine Con.of_W (tb:=tbE) (args:=[D.val]) Tryz.func17 rfl Tryz.results17 Tryz.ntmps17 (by simp) (Tryz.call17 _) (tm:=[(0,.a D.cells)]) rfl ?_;refine vc_ok ⟨tbE_ok,_,Tryz.func17,Tryz.results17,Tryz.ntmps17⟩ 400 _ _ _ _ ?_;conv=>whnf
 refine(codeSafe_con D.ca D.ck D.code (by omega) h hw.code).mono ?_;rintro r h1 ⟨⟨sb,rfl,hsafe⟩,rfl⟩;conv=>whnf
 refine⟨fun b0=>?_,fun b0=>?_⟩<;>conv=>whnf
 rotate_left
 ·have hs0:sb=false:=by simpa using b0
  exact⟨⟨false,rfl,fun e=>(by cases e),fun f=>by rw [hs0] at hsafe;have:=Eld.safeOf_one hsafe f.1;cases this⟩,Hp.le_refl _⟩
 have hs0:sb=true:=by simpa using b0
 subst hs0;refine(l6In_con _ _ _ h1).mono ?_;rintro r h1 ⟨rfl,rfl⟩;conv=>whnf
 refine⟨fun b1=>?_,fun b1=>?_⟩<;>conv=>whnf
 rotate_left
 ·exact⟨⟨false,rfl,fun e=>(by cases e),fun⟨_,V,_,f⟩=>absurd (show (1:Int)≤D.runs.length∧(D.runs.length:Int)≤6 from by have h1:=f.n1;have h2:=f.n6;rw [pure_len] at h1 h2;omega) (in_no b1)⟩,Hp.le_refl _⟩
 refine(l6In_con _ _ _ h1).mono ?_;rintro r h1 ⟨rfl,rfl⟩;conv=>whnf
 refine⟨fun b2=>?_,fun b2=>?_⟩<;>conv=>whnf
 rotate_left
 ·exact⟨⟨false,rfl,fun e=>(by cases e),fun⟨_,V,_,f⟩=>absurd f.cnt.now (in_no b2)⟩,Hp.le_refl _⟩
 refine(l6In_con _ _ _ h1).mono ?_;rintro r h1 ⟨rfl,rfl⟩;conv=>whnf
 refine⟨fun b3=>?_,fun b3=>?_⟩<;>conv=>whnf
 rotate_left
 ·exact⟨⟨false,rfl,fun e=>(by cases e),fun⟨_,V,_,f⟩=>absurd f.cnt.sent (in_no b3)⟩,Hp.le_refl _⟩
 refine(l6In_con _ _ _ h1).mono ?_;rintro r h1 ⟨rfl,rfl⟩;conv=>whnf
 refine⟨fun b4=>?_,fun b4=>?_⟩<;>conv=>whnf
 rotate_left
 ·exact⟨⟨false,rfl,fun e=>(by cases e),fun⟨_,V,_,f⟩=>absurd f.cnt.taken (in_no b4)⟩,Hp.le_refl _⟩
 refine(l6In_con _ _ _ h1).mono ?_;rintro r h1 ⟨rfl,rfl⟩;conv=>whnf
 refine⟨fun b5=>?_,fun b5=>?_⟩<;>conv=>whnf
 rotate_left
 ·exact⟨⟨false,rfl,fun e=>(by cases e),fun⟨_,V,_,f⟩=>absurd f.cnt.lost (in_no b5)⟩,Hp.le_refl _⟩
 refine(ids_con 0 D.qa D.qk D.queue (by omega) h1 hw.queue).mono ?_;rintro r h1 ⟨rfl,rfl⟩;conv=>whnf
 refine⟨fun b6=>?_,fun b6=>?_⟩<;>conv=>whnf
 ·exact⟨⟨false,rfl,fun e=>(by cases e),fun⟨_,V,_,f⟩=>absurd (show Eld.idsB 0 D.queue=true from f.ids) (by simpa using b6)⟩,Hp.le_refl _⟩
 have hcb:=safeOf_ok hsafe;have i1:=in_yes b1;have hcnt:CntP D.pure:=⟨in_yes b2,in_yes b3,in_yes b4,in_yes b5⟩;have hids:Eld.idsB 0 D.queue=true:=by simpa using b6
 clear b0 b1 b2 b3 b4 b5 b6;refine(fullS_con D.ca D.ck D.code hcb h1 [] (Own.nil h1) hw.code).mono ?_;rintro r h2 ⟨V,fa,fk,rfl,hfull,hle,ho2⟩;have hw2:=hw.le hle;have hV:RowOk h2 (rowI (.slice fa V.length fk) V):=ho2.rowOk List.mem_cons_self;have hVl:V.length=D.code.length:=by rw [hfull.1.1.1,List.length_map]
 have hVb:=full_bd hfull;clear ho2 hw;conv=>whnf
 refine W.cut [(1,.p 0 0),(3,.v (.slice fa V.length fk)),(4,.v (.int .i64 (0:Nat))),(5,.v (.int .i64 (0:Nat)))] [⟨27,D.cells⟩] [] ⟨rfl,rfl,rfl,rfl,trivial⟩ rfl rfl ⟨_,rfl⟩ ?_;have hml:∀d∈D.pure.runs,d.mail.length≤1000:=fun d hd=>(hsm.each d hd).s1
 have hlenP:=pure_len D;refine W.loop (α:=Nat) (fun i=>[(1,.p 0 0),(3,.v (.slice fa V.length fk)),(4,.v (.int .i64 (mailsP (D.pure.runs.take i):Nat))),(5,.v (.int .i64 (i:Nat)))]) (fun _=>[⟨27,D.cells⟩]) (fun i h'=>i≤D.runs.length∧(∀j (hj:j<D.pure.runs.length),j<i→FitS D.pure V j D.pure.runs[j])∧h'=h2) (fun i=>D.runs.length-i) ?_ 0 h2 ⟨Nat.zero_le _,fun j _ hj=>absurd hj (Nat.not_lt_zero _),rfl⟩;rintro i h5 ⟨hi,hfit,rfl⟩ ih;refine vc_ok ⟨tbE_ok,_,Tryz.func17,Tryz.results17,Tryz.ntmps17⟩ 400 _ _ _ _ ?_;conv=>whnf
 refine⟨fun h6=>?_,fun h6=>?_⟩<;>conv=>whnf
 ·have hlt:i<D.runs.length:=by simp at h6;omega
  have hltP:i<D.pure.runs.length:=by omega
  refine(l12Run_con D V fa fk i hlt hsm hVl hVb h5 hw2 hV).mono ?_;rintro r h5 ⟨⟨fb,rfl,hfb⟩,rfl⟩;rw [←pure_get D i hlt hltP] at hfb;conv=>whnf
  refine⟨fun b7=>?_,fun b7=>?_⟩<;>conv=>whnf
  ·have hf0:fb=false:=by simpa using b7
   refine⟨⟨false,rfl,fun e=>(by cases e),fun f=>?_⟩,hle⟩;have:=hfb.2 ((wok_full f hfull).fit i hltP);rw [hf0] at this
   cases this
  have hf1:fb=true:=by simpa using b7
  have hr:RowOk h5 (rowR D.rv D.runs):=hw2.runs;obtain⟨g,hra⟩:=row_some hr (by omega);have hv:D.rv=.slice (some ⟨g,0,none⟩) D.runs.length D.rk:=by rw [WD.rv,hra]
  refine Ext.index slRun.u slRun.size rfl (by exact hv) rfl i rfl hlt ?_;conv=>whnf
  refine Ext.loadRunCell (D:=D) rfl ⟨rfl,rfl⟩ rfl hr hv hlt 4 (by decide) rfl (.slice D.runs[i].2.a1 D.runs[i].1.mail.length D.runs[i].2.k1) rfl ?_;conv=>whnf
  have hm1:=mails_le hml i;have hm2:=hml _ (List.getElem_mem hltP);have hm3:=mails_take D.pure.runs i hltP;have hg:D.pure.runs[i].mail.length=D.runs[i].1.mail.length:=by rw [pure_get D i hlt hltP]
  have hwm:IntKind.i64.wrap ((mailsP (D.pure.runs.take i):Int)+(D.runs[i].1.mail.length:Int))=((mailsP (D.pure.runs.take (i+1)):Nat):Int):=by rw [wrapN _ (by omega) (by omega)];omega
  have hwk:IntKind.i64.wrap ((i:Int)+1)=((i+1:Nat):Int):=by rw [wrapN _ (by omega) (by omega)];omega
  rw [hwm,hwk];exact W.back (ih (i+1) _ ⟨hlt,fun j hj hji=>(by
   rcases (by omega:j<i∨j=i) with h8|rfl
   ·exact hfit j hj h8
   ·exact hfb.1 hf1),rfl⟩ (by omega)) [] (by exact⟨rfl,rfl,rfl,rfl,trivial⟩) rfl rfl
 have hge:i=D.runs.length:=by simp at h6;omega
 have hall:∀j (hj:j<D.pure.runs.length),FitS D.pure V j D.pure.runs[j]:=fun j hj=>hfit j hj (by omega)
 have hT:D.pure.runs.take i=D.pure.runs:=by rw [List.take_of_length_le (by omega)]
 rw [hT];clear hfit ih h6;refine W.cut [(1,.p 0 0),(4,.v (.int .i64 (mailsP D.pure.runs:Nat))),(6,.v (.int .i64 (0:Nat)))] [⟨27,D.cells⟩] [] ⟨rfl,rfl,rfl,trivial⟩ rfl rfl ⟨_,rfl⟩ ?_;refine W.loop (α:=Nat) (fun i=>[(1,.p 0 0),(4,.v (.int .i64 (mailsP D.pure.runs:Nat))),(6,.v (.int .i64 (i:Nat)))]) (fun _=>[⟨27,D.cells⟩]) (fun i h'=>i≤D.queue.length∧(∀j (hj:j<D.queue.length),j<i→D.queue[j]≤(D.runs.length:Int))∧h'=h5) (fun i=>D.queue.length-i) ?_ 0 h5 ⟨Nat.zero_le _,fun j _ hj=>absurd hj (Nat.not_lt_zero _),rfl⟩;rintro q h6 ⟨hq,hqn,rfl⟩ ih;refine vc_ok ⟨tbE_ok,_,Tryz.func17,Tryz.results17,Tryz.ntmps17⟩ 400 _ _ _ _ ?_;conv=>whnf
 refine⟨fun h7=>?_,fun h7=>?_⟩<;>conv=>whnf
 ·have hlt:q<D.queue.length:=by simp at h7;omega
  obtain⟨gq,hqa⟩:=row_some hw2.queue (by omega);have hqv:D.qv=.slice (some ⟨gq,0,none⟩) D.queue.length D.qk:=by rw [WD.qv,hqa]
  refine W.draw [(0,true),(1,true),(2,true),(3,true),(4,true),(5,true),(6,true),(7,true),(8,true)] [0] (some h6) 99 (by kernel_rfl) rfl (by kernel_rfl) mixed rfl (fun g e=>by cases e;exact Hp.le_refl _) ?_;refine vc_ok ⟨tbE_ok,_,Tryz.func17,Tryz.results17,Tryz.ntmps17⟩ 400 _ _ _ _ ?_;conv=>whnf
  refine Rd.index slInt.u slInt.size rfl (by exact hqv) rfl q rfl hlt ?_;conv=>whnf
  refine Rd.loadInt rfl hw2.queue hqv hlt rfl ?_;conv=>whnf
  refine⟨fun b8=>?_,fun b8=>?_⟩<;>conv=>whnf
  ·refine⟨⟨false,rfl,fun e=>(by cases e),fun f=>?_⟩,hle⟩;have:=(wok_full f hfull).qn _ (List.getElem_mem (l:=D.queue) (n:=q) hlt);rw [pure_len] at this;have b9:(D.runs.length:Int)<D.queue[q]:=by simpa using b8
   omega
  have b9:D.queue[q]≤(D.runs.length:Int):=by simpa using b8
  have hwk:IntKind.i64.wrap ((q:Int)+1)=((q+1:Nat):Int):=by rw [wrapN _ (by omega) (by omega)];omega
  rw [hwk];exact W.back (ih (q+1) _ ⟨hlt,fun j hj hji=>(by
   rcases (by omega:j<q∨j=q) with h8|rfl
   ·exact hqn j hj h8
   ·exact b9),rfl⟩ (by omega)) [] (by exact⟨rfl,rfl,rfl,trivial⟩) rfl rfl
 have hqall:∀x∈D.pure.queue,x≤(D.pure.runs.length:Int):=fun x hx=>by
  obtain⟨j,hj,rfl⟩:=List.getElem_of_mem hx;rw [pure_len];exact hqn j hj (by((have:D.pure.queue.length=D.queue.length:=rfl);simp at h7);omega)
 clear hqn ih h7;refine W.cut [(1,.p 0 0),(4,.v (.int .i64 (mailsP D.pure.runs:Nat))),(7,.v (.int .i64 (0:Nat)))] [⟨27,D.cells⟩] [] ⟨rfl,rfl,rfl,trivial⟩ rfl rfl ⟨_,rfl⟩ ?_;refine W.loop (α:=Nat) (fun i=>[(1,.p 0 0),(4,.v (.int .i64 (mailsP D.pure.runs:Nat))),(7,.v (.int .i64 (i:Nat)))]) (fun _=>[⟨27,D.cells⟩]) (fun i h'=>i≤D.runs.length∧(∀a b (ha:a<D.pure.runs.length) (hb:b<a),a<i→amongP D.pure.runs[a].links ((b:Int)+1)=amongP (D.pure.runs[b]'(Nat.lt_trans hb ha)).links ((a:Int)+1))∧h'=h6) (fun i=>D.runs.length-i) ?_ 0 h6 ⟨Nat.zero_le _,fun j _ _ _ hj=>absurd hj (Nat.not_lt_zero _),rfl⟩;rintro a h7 ⟨ha,hab,rfl⟩ ih;refine vc_ok ⟨tbE_ok,_,Tryz.func17,Tryz.results17,Tryz.ntmps17⟩ 400 _ _ _ _ ?_;conv=>whnf
 refine⟨fun h8=>?_,fun h8=>?_⟩<;>conv=>whnf
 ·have hlt:a<D.runs.length:=by simp at h8;omega
  have hltP:a<D.pure.runs.length:=by omega
  have hwa:IntKind.i64.wrap ((a:Int)+1)=((a+1:Nat):Int):=by rw [wrapN _ (by omega) (by omega)];omega
  refine W.cut [(1,.p 0 0),(4,.v (.int .i64 (mailsP D.pure.runs:Nat))),(7,.v (.int .i64 (a:Nat))),(8,.v (.int .i64 (0:Nat)))] [⟨27,D.cells⟩] [] ⟨rfl,rfl,rfl,rfl,trivial⟩ rfl rfl ⟨_,rfl⟩ ?_;refine W.loop (α:=Nat) (fun i=>[(1,.p 0 0),(4,.v (.int .i64 (mailsP D.pure.runs:Nat))),(7,.v (.int .i64 (a:Nat))),(8,.v (.int .i64 (i:Nat)))]) (fun _=>[⟨27,D.cells⟩]) (fun i h'=>i≤a∧(∀b (hb:b<a),b<i→amongP D.pure.runs[a].links ((b:Int)+1)=amongP (D.pure.runs[b]'(Nat.lt_trans hb hltP)).links ((a:Int)+1))∧h'=h7) (fun i=>a-i) ?_ 0 h7 ⟨Nat.zero_le _,fun j _ hj=>absurd hj (Nat.not_lt_zero _),rfl⟩;rintro b h9 ⟨hb,hbb,rfl⟩ ih2;refine vc_ok ⟨tbE_ok,_,Tryz.func17,Tryz.results17,Tryz.ntmps17⟩ 400 _ _ _ _ ?_;conv=>whnf
  refine⟨fun h10=>?_,fun h10=>?_⟩<;>conv=>whnf
  ·have hblt:b<a:=by simp at h10;omega
   have hwb:IntKind.i64.wrap ((b:Int)+1)=((b+1:Nat):Int):=by rw [wrapN _ (by omega) (by omega)];omega
   refine(l12Linked_con D a b hlt (by omega) hsm h9 hw2).mono ?_;rintro r h9 ⟨rfl,rfl⟩;conv=>whnf
   have ea:=pure_get D a hlt hltP;have eb:=pure_get D b (by omega) (Nat.lt_trans hblt hltP);rw [←ea,←eb];refine⟨fun b8=>?_,fun b8=>?_⟩<;>conv=>whnf
   ·refine⟨⟨false,rfl,fun e=>(by cases e),fun f=>?_⟩,hle⟩;have:=(wok_full f hfull).both a b hltP hblt;rw [this] at b8;simp at b8
   have b9:amongP D.pure.runs[a].links ((b:Int)+1)=amongP (D.pure.runs[b]'(Nat.lt_trans hblt hltP)).links ((a:Int)+1):=by simpa using b8
   rw [hwb];exact W.back (ih2 (b+1) _ ⟨hblt,fun j hj hji=>(by
    rcases (by omega:j<b∨j=b) with h8|rfl
    ·exact hbb j hj h8
    ·exact b9),rfl⟩ (by omega)) [] (by exact⟨rfl,rfl,rfl,rfl,trivial⟩) rfl rfl
  have hbe:b=a:=by simp at h10;omega
  subst hbe;rw [hwa];exact W.back (ih (b+1) _ ⟨hlt,fun x y hx hy hxi=>(by
   rcases (by omega:x<b∨x=b) with h8|rfl
   ·exact hab x y hx hy h8
   ·exact hbb y hy hy),rfl⟩ (by omega)) [] (by exact⟨rfl,rfl,rfl,trivial⟩) rfl rfl
 have hae:a=D.runs.length:=by simp at h8;omega
 have hmm:=mails_le hml D.pure.runs.length;rw [List.take_length] at hmm;have c3:0≤D.taken∧D.taken≤9999:=hcnt.taken;have c4:0≤D.lost∧D.lost≤9999:=hcnt.lost;have e1:IntKind.i64.wrap (IntKind.i64.wrap (D.taken+D.lost)+(mailsP D.pure.runs:Int))=D.taken+D.lost+(mailsP D.pure.runs:Int):=by
  rw [wrapN (D.taken+D.lost) (by omega) (by omega),wrapN _ (by omega) (by omega)]
 rw [e1];refine⟨⟨_,rfl,fun e=>?_,fun f=>?_⟩,hle⟩
 ·have hsum:D.sent=D.taken+D.lost+(mailsP D.pure.runs:Int):=by simpa using e
  refine⟨hsafe,V,hfull,⟨by omega,by omega,hcnt,hids,hall,hqall,fun x y hx hy=>hab x y hx hy (by omega),hsum⟩⟩
 ·have hsum:D.sent=D.taken+D.lost+(mailsP D.pure.runs:Int):=(wok_full f hfull).sum;simpa using hsum
end Go.Proofs.YtgmkmeodimmdoaaGreatDoor
