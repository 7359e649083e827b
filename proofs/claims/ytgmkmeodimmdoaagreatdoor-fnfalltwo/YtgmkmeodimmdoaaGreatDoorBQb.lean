import Derived.Test.YtgmkmeodimmdoaaGreatDoorBQa
import Derived.OwnWalk
import Derived.Laws.OwnMore
set_option maxRecDepth 20000
set_option maxHeartbeats 8000000
namespace Go.Proofs.YtgmkmeodimmdoaaGreatDoor.Eld
def formL:List (Bool×Bool×Bool×Bool) :=
 [(false,false,false,false),(true,false,false,true),(true,true,false,false),(true,true,false,false),(true,false,false,false),(true,false,true,false),(true,true,false,false),(true,true,false,false),(true,true,true,true),(false,false,true,false),(true,false,true,true),(true,false,false,false),(true,false,false,false),(false,false,false,true),(true,false,false,false)]
def fR (k:Int):Bool:=(formL.getD k.toNat (false,false,false,false)).1
def fS (k:Int):Bool:=(formL.getD k.toNat (false,false,false,false)).2.1
def fT (k:Int):Bool:=(formL.getD k.toNat (false,false,false,false)).2.2.1
def fV (k:Int):Bool:=(formL.getD k.toNat (false,false,false,false)).2.2.2
def inB (n lo hi:Int):Bool:=decide (lo≤n)&&decide (n≤hi)
def opB (k r s t vk vn:Int):Bool :=
 inB k 1 14&&okB vk vn&&(!(k==8)||(vk==1&&decide (1≤vn)))&&(!(k==13)||(vk==1&&inB vn 0 1))
  && ((inB r 0 3&&fR k)||r==0)&&((inB s 0 3&&fS k)||s==0)&&((inB t 0 15&&fT k)||t==0)&&(fV k||(vk==0&&vn==0))
theorem inB_iff {n lo hi:Int}:inB n lo hi=true↔lo≤n∧n≤hi:=by simp [inB]
structure OpIs (k r s t vk vn:Int):Prop where
 k1:1≤k
 k2:k≤14
 v:okB vk vn=true
 after:k=8→vk=1∧1≤vn
 trap:k=13→vk=1∧0≤vn∧vn≤1
 r1:0≤r
 r2:r≤3
 s1:0≤s
 s2:s≤3
 t1:0≤t
 t2:t≤15
 rN:fR k=false→r=0
 sN:fS k=false→s=0
 tN:fT k=false→t=0
 vN:fV k=false→vk=0∧vn=0
theorem opIs_of {k r s t vk vn:Int} (h:opB k r s t vk vn=true):OpIs k r s t vk vn:=by
 simp only [opB,Bool.and_eq_true,Bool.or_eq_true,Bool.not_eq_true',inB_iff,beq_iff_eq,beq_eq_false_iff_ne,decide_eq_true_eq] at h;obtain⟨⟨⟨⟨⟨⟨⟨⟨h1,h2⟩,h3⟩,h4⟩,h5⟩,h6⟩,h7⟩,h8⟩,h9⟩:=h;refine⟨h1,h2,h3,?_,?_,?_,?_,?_,?_,?_,?_,?_,?_,?_,?_⟩
 ·intro e;rcases h4 with h|h;exact absurd e h;exact h
 ·intro e;rcases h5 with h|h;exact absurd e h;exact h
 ·rcases h6 with h|h;exact h.1.1;omega
 ·rcases h6 with h|h;exact h.1.2;omega
 ·rcases h7 with h|h;exact h.1.1;omega
 ·rcases h7 with h|h;exact h.1.2;omega
 ·rcases h8 with h|h;exact h.1.1;omega
 ·rcases h8 with h|h;exact h.1.2;omega
 ·intro e;rcases h6 with h|h;rw [e] at h;cases h.2;exact h
 ·intro e;rcases h7 with h|h;rw [e] at h;cases h.2;exact h
 ·intro e;rcases h8 with h|h;rw [e] at h;cases h.2;exact h
 ·intro e;rcases h9 with h|h;rw [e] at h;cases h;exact h
structure OpV where
 k:Int
 r:Int
 s:Int
 t:Int
 a:Int
 b:Int
def meet (x y:Int):Int:=if x<0 then y else ((x.toNat &&& y.toNat:Nat):Int)
def orB (x y:Int):Int:=((x.toNat ||| y.toNat:Nat):Int)
def bitOf (r:Int):Int:=if r=0 then 1 else if r=1 then 2 else if r=2 then 4 else 8
abbrev Le (x y:Int):Prop:=y = -1∨meet x y=x
def Bd (x:Int):Prop := -1≤x∧x≤15
def rank (x:Int):Nat:=if x<0 then 5 else x.toNat % 2+x.toNat / 2 % 2+x.toNat / 4 % 2+x.toNat / 8 % 2
theorem bd_fin {x:Int} (h:Bd x):∃i:Fin 17,x=(i.val:Int)-1:=by
 obtain⟨h1,h2⟩:=h;exact⟨⟨(x+1).toNat,by omega⟩,by simp;omega⟩
theorem meet_bd {x y:Int} (hx:Bd x) (h1:0≤y) (h2:y≤15):0≤meet x y∧meet x y≤15:=by
 have key:∀i j:Fin 17,0≤(j.val:Int)-1→0≤meet ((i.val:Int)-1) ((j.val:Int)-1)∧meet ((i.val:Int)-1) ((j.val:Int)-1)≤15:=by decide +kernel
 obtain⟨i,rfl⟩:=bd_fin hx;obtain⟨j,rfl⟩:=bd_fin (x:=y) ⟨by omega,h2⟩;exact key i j h1
theorem meet_left {x y:Int} (hx:Bd x) (h1:0≤y) (h2:y≤15):Le (meet x y) x:=by
 have key:∀i j:Fin 17,0≤(j.val:Int)-1→Le (meet ((i.val:Int)-1) ((j.val:Int)-1)) ((i.val:Int)-1):=by decide +kernel
 obtain⟨i,rfl⟩:=bd_fin hx;obtain⟨j,rfl⟩:=bd_fin (x:=y) ⟨by omega,h2⟩;exact key i j h1
theorem meet_right {x y:Int} (hx:Bd x) (h1:0≤y) (h2:y≤15):Le (meet x y) y:=by
 have key:∀i j:Fin 17,0≤(j.val:Int)-1→Le (meet ((i.val:Int)-1) ((j.val:Int)-1)) ((j.val:Int)-1):=by decide +kernel
 obtain⟨i,rfl⟩:=bd_fin hx;obtain⟨j,rfl⟩:=bd_fin (x:=y) ⟨by omega,h2⟩;exact key i j h1
theorem le_meet {u x y:Int} (hu:Bd u) (hx:Bd x) (h1:0≤y) (h2:y≤15) (a:Le u x) (b:Le u y):Le u (meet x y):=by
 have key:∀i j l:Fin 17,0≤(l.val:Int)-1→Le ((i.val:Int)-1) ((j.val:Int)-1)→Le ((i.val:Int)-1) ((l.val:Int)-1)→Le ((i.val:Int)-1) (meet ((j.val:Int)-1) ((l.val:Int)-1)):=by decide +kernel
 obtain⟨i,rfl⟩:=bd_fin hu;obtain⟨j,rfl⟩:=bd_fin hx;obtain⟨l,rfl⟩:=bd_fin (x:=y) ⟨by omega,h2⟩;exact key i j l h1 a b
theorem le_trans3 {u x y:Int} (hu:Bd u) (hx:Bd x) (hy:Bd y) (a:Le u x) (b:Le x y):Le u y:=by
 have key:∀i j l:Fin 17,Le ((i.val:Int)-1) ((j.val:Int)-1)→Le ((j.val:Int)-1) ((l.val:Int)-1)→Le ((i.val:Int)-1) ((l.val:Int)-1):=by decide +kernel
 obtain⟨i,rfl⟩:=bd_fin hu;obtain⟨j,rfl⟩:=bd_fin hx;obtain⟨l,rfl⟩:=bd_fin hy;exact key i j l a b
theorem le_anti {x y:Int} (hx:Bd x) (hy:Bd y) (a:Le x y) (b:Le y x):x=y:=by
 have key:∀i j:Fin 17,Le ((i.val:Int)-1) ((j.val:Int)-1)→Le ((j.val:Int)-1) ((i.val:Int)-1)→(i.val:Int)-1=(j.val:Int)-1:=by decide +kernel
 obtain⟨i,rfl⟩:=bd_fin hx;obtain⟨j,rfl⟩:=bd_fin hy;exact key i j a b
theorem le_self {x:Int} (hx:Bd x):Le x x:=by
 have key:∀i:Fin 17,Le ((i.val:Int)-1) ((i.val:Int)-1):=by decide +kernel
 obtain⟨i,rfl⟩:=bd_fin hx;exact key i
theorem le_nn {x y:Int} (hx:Bd x) (hy:Bd y) (h:0≤y) (a:Le x y):0≤x:=by
 have key:∀i j:Fin 17,0≤(j.val:Int)-1→Le ((i.val:Int)-1) ((j.val:Int)-1)→0≤(i.val:Int)-1:=by decide +kernel
 obtain⟨i,rfl⟩:=bd_fin hx;obtain⟨j,rfl⟩:=bd_fin hy;exact key i j h a
theorem or_mono {x y b:Int} (hx:Bd x) (hy:Bd y) (h1:0≤y) (hb:0≤b) (hb2:b≤15) (a:Le x y):Le (orB x b) (orB y b):=by
 have key:∀i j l:Fin 17,0≤(j.val:Int)-1→0≤(l.val:Int)-1→Le ((i.val:Int)-1) ((j.val:Int)-1)→Le (orB ((i.val:Int)-1) ((l.val:Int)-1)) (orB ((j.val:Int)-1) ((l.val:Int)-1)):=by decide +kernel
 obtain⟨i,rfl⟩:=bd_fin hx;obtain⟨j,rfl⟩:=bd_fin hy;obtain⟨l,rfl⟩:=bd_fin (x:=b) ⟨by omega,hb2⟩;exact key i j l h1 hb a
theorem or_bd {x b:Int} (hx:Bd x) (h0:0≤x) (hb:0≤b) (hb2:b≤15):0≤orB x b∧orB x b≤15:=by
 have key:∀i j:Fin 17,0≤(i.val:Int)-1→0≤(j.val:Int)-1→0≤orB ((i.val:Int)-1) ((j.val:Int)-1)∧orB ((i.val:Int)-1) ((j.val:Int)-1)≤15:=by decide +kernel
 obtain⟨i,rfl⟩:=bd_fin hx;obtain⟨j,rfl⟩:=bd_fin (x:=b) ⟨by omega,hb2⟩;exact key i j h0 hb
theorem rank_le (x:Int):rank x≤5:=by unfold rank;split<;>omega
theorem rank_meet {x y:Int} (hx:Bd x) (h1:0≤y) (h2:y≤15) (h:meet x y≠x):rank (meet x y)<rank x:=by
 have key:∀i j:Fin 17,0≤(j.val:Int)-1→meet ((i.val:Int)-1) ((j.val:Int)-1)≠(i.val:Int)-1→rank (meet ((i.val:Int)-1) ((j.val:Int)-1))<rank ((i.val:Int)-1):=by decide +kernel
 obtain⟨i,rfl⟩:=bd_fin hx;obtain⟨j,rfl⟩:=bd_fin (x:=y) ⟨by omega,h2⟩;exact key i j h1 h
def goesB (k:Int):Bool:=k==5||k==8||k==9||k==10
def fillsB (k:Int):Bool:=k==1||k==2||k==4||k==5||k==7||k==8
def onB (o:OpV) (x:Int):Int:=if fillsB o.k=true then orB x (bitOf o.r) else x
def nextW (o:OpV) (i n:Nat) (x:Int):List (Nat×Int):=if (!(o.k==9||o.k==14)&&decide (i+1<n))=true then [(i+1,onB o x)] else []
def toW (o:OpV) (x:Int):List (Nat×Int):=if o.k=8∨o.k=9∨o.k=10 then [(o.t.toNat,x)] else if o.k=5 then [(o.t.toNat,1)] else []
def waysL (o:OpV) (i n:Nat) (x:Int):List (Nat×Int):=nextW o i n x++toW o x
def atV (v:List Int) (i:Nat):Int:=v.getD i (-1)
theorem atV_set (v:List Int) (i j:Nat) (x:Int) (h:i<v.length):atV (v.set i x) j=if i=j then x else atV v j:=by
 unfold atV;rw [List.getD_eq_getElem?_getD,List.getElem?_set];by_cases e:i=j
 ·subst e;simp [h]
 ·simp [e]
def Well (C:List OpV):Prop:=0<C.length∧∀i (h:i<C.length),0≤C[i].t∧C[i].t<C.length∧0≤C[i].r∧C[i].r≤3
theorem bit_bd (r:Int):0≤bitOf r∧bitOf r≤15:=by unfold bitOf;repeat' split<;>omega
theorem on_bd (o:OpV) {x:Int} (hx:Bd x) (h0:0≤x):0≤onB o x∧onB o x≤15:=by
 unfold onB;split
 ·exact or_bd hx h0 (bit_bd _).1 (bit_bd _).2
 ·exact⟨h0,hx.2⟩
theorem on_mono (o:OpV) {x y:Int} (hx:Bd x) (hy:Bd y) (h0:0≤y) (a:Le x y):Le (onB o x) (onB o y):=by
 unfold onB;split
 ·exact or_mono hx hy h0 (bit_bd _).1 (bit_bd _).2 a
 ·exact a
theorem ways_bd {C:List OpV} (hC:Well C) {i:Nat} (hi:i<C.length) {x:Int} (hx:Bd x) (h0:0≤x):∀p∈waysL C[i] i C.length x,p.1<C.length∧0≤p.2∧p.2≤15:=by
 intro p hp;have ht:=hC.2 i hi;rcases List.mem_append.1 hp with hp|hp
 ·unfold nextW at hp
  split at hp
  ·rename_i h
   simp only [Bool.and_eq_true,decide_eq_true_eq] at h;rw [List.mem_singleton.1 hp];exact⟨h.2,on_bd _ hx h0⟩
  ·cases hp
 ·unfold toW at hp
  split at hp
  ·rw [List.mem_singleton.1 hp];exact⟨by dsimp only;omega,h0,hx.2⟩
  ·split at hp
   ·rw [List.mem_singleton.1 hp];exact⟨by dsimp only;omega,by simp,by simp⟩
   ·cases hp
theorem ways_mono {o:OpV} {i n:Nat} {x y:Int} (hx:Bd x) (hy:Bd y) (h0:0≤y) (a:Le x y):∀p∈waysL o i n y,∃q∈waysL o i n x,q.1=p.1∧Le q.2 p.2:=by
 intro p hp;rcases List.mem_append.1 hp with hp|hp
 ·unfold nextW at hp
  split at hp
  ·rename_i h
   rw [List.mem_singleton.1 hp];exact⟨(i+1,onB o x),List.mem_append.2 (.inl (by unfold nextW;rw [if_pos h];simp)),rfl,on_mono o hx hy h0 a⟩
  ·cases hp
 ·unfold toW at hp
  split at hp
  ·rename_i h
   rw [List.mem_singleton.1 hp];exact⟨(o.t.toNat,x),List.mem_append.2 (.inr (by unfold toW;rw [if_pos h];simp)),rfl,a⟩
  ·split at hp
   ·rename_i h h'
    rw [List.mem_singleton.1 hp];exact⟨(o.t.toNat,1),List.mem_append.2 (.inr (by unfold toW;rw [if_neg h,if_pos h'];simp)),rfl,le_self ⟨by simp,by simp⟩⟩
   ·cases hp
def Vec (C:List OpV) (v:List Int):Prop:=v.length=C.length∧∀i,Bd (atV v i)
theorem Vec.set {C:List OpV} {v:List Int} (h:Vec C v) {i:Nat} (hi:i<C.length) {x:Int} (hx:Bd x):Vec C (v.set i x):=by
 refine⟨by simp [h.1],fun j=>?_⟩;rw [atV_set _ _ _ _ (by rw [h.1];exact hi)]
 split
 ·exact hx
 ·exact h.2 j
def Sol (C:List OpV) (v:List Int):Prop :=
 Vec C v∧Le (atV v 0) 1∧∀i (hi:i<C.length),0≤atV v i→∀p∈waysL C[i] i C.length (atV v i),Le (atV v p.1) p.2
def Top (C:List OpV) (v:List Int):Prop:=∀u,Sol C u→∀i,Le (atV u i) (atV v i)
def IsFull (C:List OpV) (v:List Int):Prop:=Sol C v∧Top C v
theorem full_one {C:List OpV} {u v:List Int} (h:IsFull C u) (k:IsFull C v):u=v:=by
 have h1:=h.1.1;have k1:=k.1.1
 apply List.ext_getElem (by rw [h1.1,k1.1])
 intro i a b;have e:=le_anti (h1.2 i) (k1.2 i) (k.2 u h.1 i) (h.2 v k.1 i);simpa [atV,List.getD_eq_getElem?_getD,List.getElem?_eq_getElem a,List.getElem?_eq_getElem b] using e
def Sound (C:List OpV) (p:Nat×Int):Prop:=p.1<C.length∧(0≤p.2∧p.2≤15)∧∀u,Sol C u→Le (atV u p.1) p.2
theorem sound_first {C:List OpV} (hC:Well C):Sound C (0,1):=⟨hC.1,⟨by decide,by decide⟩,fun _ hu=>hu.2.1⟩
theorem sound_ways {C:List OpV} (hC:Well C) {v:List Int} (hv:Vec C v) (hT:Top C v) {i:Nat} (hi:i<C.length) (h0:0≤atV v i):∀p∈waysL C[i] i C.length (atV v i),Sound C p:=by
 intro p hp;obtain⟨h1,h2⟩:=ways_bd hC hi (hv.2 i) h0 p hp;refine⟨h1,h2,fun u hu=>?_⟩;have hui:=hT u hu i;obtain⟨q,hq,e,l⟩:=ways_mono (hu.1.2 i) (hv.2 i) h0 hui p hp;have hu0:=le_nn (hu.1.2 i) (hv.2 i) h0 hui;have l2:=hu.2.2 i hi hu0 q hq;have qb:=(ways_bd hC hi (hu.1.2 i) hu0 q hq).2;rw [e] at l2;exact le_trans3 (hu.1.2 _) ⟨by omega,qb.2⟩ ⟨by omega,h2.2⟩ l2 l
theorem top_merge {C:List OpV} {v:List Int} (hv:Vec C v) (hT:Top C v) {p:Nat×Int} (hp:Sound C p):Vec C (v.set p.1 (meet (atV v p.1) p.2))∧Top C (v.set p.1 (meet (atV v p.1) p.2)):=by
 have hb:=meet_bd (hv.2 p.1) hp.2.1.1 hp.2.1.2;refine⟨hv.set hp.1 ⟨by omega,hb.2⟩,fun u hu i=>?_⟩;rw [atV_set _ _ _ _ (by rw [hv.1];exact hp.1)]
 split
 ·rename_i e;subst e;exact le_meet (hu.1.2 _) (hv.2 _) hp.2.1.1 hp.2.1.2 (hT u hu _) (hp.2.2 u hu)
 ·exact hT u hu i
def sumR (v:List Int):Nat:=(v.map rank).sum
theorem sum_set:∀(v:List Nat) (i:Nat) (x:Nat),(h:i<v.length)→(v.set i x).sum+v[i]=v.sum+x
 |a::l,0,x,_=>by simp;omega
 |a::l,i+1,x,h=>by
  have:=sum_set l i x (by simpa using h);simp;omega
theorem sum_merge {C:List OpV} {v:List Int} (hv:Vec C v) {p:Nat×Int} (hp:Sound C p) (h:meet (atV v p.1) p.2≠atV v p.1):sumR (v.set p.1 (meet (atV v p.1) p.2))<sumR v:=by
 have hr:=rank_meet (hv.2 p.1) hp.2.1.1 hp.2.1.2 h;have hl:p.1<v.length:=by rw [hv.1];exact hp.1
 have:=sum_set (v.map rank) p.1 (rank (meet (atV v p.1) p.2)) (by simpa using hl);have e:atV v p.1=v[p.1]:=by simp [atV,List.getD_eq_getElem?_getD,List.getElem?_eq_getElem hl]
 unfold sumR;rw [List.map_set];simp only [List.getElem_map] at this;rw [←e] at this;omega
def Inv (C:List OpV) (v:List Int) (Q:List (Nat×Int)):Prop :=
 Vec C v∧Top C v∧(∀p∈Q,Sound C p)∧(Le (atV v 0) 1∨(0,1)∈Q)∧∀i (hi:i<C.length),0≤atV v i→∀p∈waysL C[i] i C.length (atV v i),Le (atV v p.1) p.2∨p∈Q
theorem atV_replicate (n i:Nat):atV (List.replicate n (-1)) i = -1:=by
 unfold atV;rw [List.getD_eq_getElem?_getD];by_cases h:i<n
 ·rw [List.getElem?_eq_getElem (by simpa using h)];simp
 ·rw [List.getElem?_eq_none (by simp;omega)];rfl
theorem inv_start {C:List OpV} (hC:Well C):Inv C (List.replicate C.length (-1)) [(0,1)]:=by
 refine⟨⟨by simp,fun i=>by rw [atV_replicate];exact⟨by decide,by decide⟩⟩,fun u _ i=>.inl (atV_replicate _ _),fun p hp=>?_,.inr (by simp),fun i _ h=>?_⟩
 ·rw [List.mem_singleton.1 hp];exact sound_first hC
 ·rw [atV_replicate] at h;exact absurd h (by decide)
theorem inv_same {C:List OpV} {v:List Int} {p:Nat×Int} {Q:List (Nat×Int)} (h:Inv C v (p::Q)) (e:meet (atV v p.1) p.2=atV v p.1):Inv C v Q:=by
 obtain⟨h1,h2,h3,h4,h5⟩:=h;refine⟨h1,h2,fun q hq=>h3 q (by simp [hq]),?_,fun i hi h0 q hq=>?_⟩
 ·rcases h4 with h|h
  ·exact .inl h
  ·rcases List.mem_cons.1 h with rfl|h
   ·exact .inl (.inr e)
   ·exact .inr h
 ·rcases h5 i hi h0 q hq with h|h
  ·exact .inl h
  ·rcases List.mem_cons.1 h with rfl|h
   ·exact .inl (.inr e)
   ·exact .inr h
theorem le_of_set {C:List OpV} {v:List Int} (hv:Vec C v) {p:Nat×Int} (hp:Sound C p) {j:Nat} {y:Int} (hy:Bd y) (h:Le (atV v j) y):Le (atV (v.set p.1 (meet (atV v p.1) p.2)) j) y:=by
 have hb:=meet_bd (hv.2 p.1) hp.2.1.1 hp.2.1.2;rw [atV_set _ _ _ _ (by rw [hv.1];exact hp.1)]
 split
 ·rename_i e;subst e
  exact le_trans3 ⟨by omega,hb.2⟩ (hv.2 _) hy (meet_left (hv.2 _) hp.2.1.1 hp.2.1.2) h
 ·exact h
theorem inv_less {C:List OpV} (hC:Well C) {v:List Int} {p:Nat×Int} {Q:List (Nat×Int)} (h:Inv C v (p::Q)) (hp:p.1<C.length) :
  Inv C (v.set p.1 (meet (atV v p.1) p.2)) (Q++waysL C[p.1] p.1 C.length (meet (atV v p.1) p.2)):=by
 obtain⟨h1,h2,h3,h4,h5⟩:=h;have hs:=h3 p (by simp);have hb:=meet_bd (h1.2 p.1) hs.2.1.1 hs.2.1.2;obtain⟨k1,k2⟩:=top_merge h1 h2 hs;have ea:atV (v.set p.1 (meet (atV v p.1) p.2)) p.1=meet (atV v p.1) p.2:=by rw [atV_set _ _ _ _ (by rw [h1.1];exact hp)];simp
 have er:Le (atV (v.set p.1 (meet (atV v p.1) p.2)) p.1) p.2:=by rw [ea];exact meet_right (h1.2 _) hs.2.1.1 hs.2.1.2
 refine⟨k1,k2,fun q hq=>?_,?_,fun i hi h0 q hq=>?_⟩
 ·rcases List.mem_append.1 hq with hq|hq
  ·exact h3 q (by simp [hq])
  ·have:=sound_ways hC k1 k2 hp (by rw [ea];exact hb.1) q (by rw [ea];exact hq);exact this
 ·rcases h4 with h|h
  ·exact .inl (le_of_set h1 hs ⟨by decide,by decide⟩ h)
  ·rcases List.mem_cons.1 h with e|h
   ·subst e;exact .inl er
   ·exact .inr (List.mem_append.2 (.inl h))
 ·by_cases e:p.1=i
  ·subst e;rw [ea] at hq;exact .inr (List.mem_append.2 (.inr hq))
  ·have e':atV (v.set p.1 (meet (atV v p.1) p.2)) i=atV v i:=by rw [atV_set _ _ _ _ (by rw [h1.1];exact hp),if_neg e]
   rw [e'] at hq h0;have qb:=(ways_bd hC hi (h1.2 i) h0 q hq).2;rcases h5 i hi h0 q hq with h|h
   ·exact .inl (le_of_set h1 hs ⟨by omega,qb.2⟩ h)
   ·rcases List.mem_cons.1 h with rfl|h
    ·exact .inl er
    ·exact .inr (List.mem_append.2 (.inl h))
theorem inv_done {C:List OpV} {v:List Int} (h:Inv C v []):IsFull C v:=by
 obtain⟨h1,h2,_,h4,h5⟩:=h;refine⟨⟨h1,?_,fun i hi h0 p hp=>?_⟩,h2⟩
 ·rcases h4 with h|h
  ·exact h
  ·cases h
 ·rcases h5 i hi h0 p hp with h|h
  ·exact h
  ·cases h
theorem ways_len (o:OpV) (i n:Nat) (x:Int):(waysL o i n x).length≤2:=by
 unfold waysL nextW toW
 split<;>split<;>(try split)<;>simp
theorem sum_le (v:List Int):sumR v≤5*v.length:=by
 unfold sumR
 induction v with
 |nil=>simp
 |cons a l ih=>have:=rank_le a;simp;omega
def mergeV (v:List Int) (p:Nat×Int):List Int:=if meet (atV v p.1) p.2=atV v p.1 then v else v.set p.1 (meet (atV v p.1) p.2)
def mergeB (v:List Int) (p:Nat×Int):Bool:=!(meet (atV v p.1) p.2==atV v p.1)
def Rnd (C:List OpV) (u v:List Int) (m:Bool):Prop:=Vec C v∧Top C v∧Le (atV v 0) 1∧(m=false→v=u)∧(m=true→sumR v<sumR u)
theorem rnd_merge {C:List OpV} {u v:List Int} {m:Bool} (h:Rnd C u v m) {p:Nat×Int} (hp:Sound C p) :
  Rnd C u (mergeV v p) (mergeB v p||m)∧(mergeB v p=false→mergeV v p=v∧Le (atV v p.1) p.2):=by
 obtain⟨h1,h2,h3,h4,h5⟩:=h;unfold mergeV mergeB;by_cases e:meet (atV v p.1) p.2=atV v p.1
 ·rw [if_pos e];refine⟨⟨h1,h2,h3,?_,?_⟩,fun _=>⟨rfl,.inr e⟩⟩
  ·simpa [e] using h4
  ·simpa [e] using h5
 ·rw [if_neg e];obtain⟨k1,k2⟩:=top_merge h1 h2 hp;refine⟨⟨k1,k2,le_of_set h1 hp ⟨by decide,by decide⟩ h3,?_,fun _=>?_⟩,?_⟩
  ·simp [e]
  ·have:=sum_merge h1 hp e
   cases m with
   |false=>rw [h4 rfl] at this ⊢;exact this
   |true=>have:=h5 rfl;omega
  ·simp [e]
def Upto (C:List OpV) (i:Nat) (v:List Int):Prop:=∀j (hj:j<C.length),j<i→0≤atV v j→∀p∈waysL C[j] j C.length (atV v j),Le (atV v p.1) p.2
theorem rnd_done {C:List OpV} {u v:List Int} (h:Rnd C u v false) (k:Upto C C.length v):IsFull C v :=
 ⟨⟨h.1,h.2.2.1,fun i hi h0 p hp=>k i hi hi h0 p hp⟩,h.2.1⟩
def startV (n:Nat):List Int:=(List.replicate n (-1)).set 0 1
theorem rnd_start {C:List OpV} (hC:Well C):Vec C (startV C.length)∧Top C (startV C.length)∧Le (atV (startV C.length) 0) 1:=by
 have h:=inv_start hC;have hv:Vec C (List.replicate C.length (-1)):=h.1;have hs:=sound_first hC;have e:startV C.length=(List.replicate C.length (-1)).set (0,1).1 (meet (atV (List.replicate C.length (-1)) (0,1).1) (0,1).2):=by
  rw [atV_replicate];rfl
 obtain⟨k1,k2⟩:=top_merge hv h.2.1 hs;rw [e];refine⟨k1,k2,?_⟩;rw [atV_set _ _ _ _ (by simpa using hC.1)];simp;exact meet_right (hv.2 _) (by decide) (by decide)
open Go.ChangeShapes Go.WideShapes Go.ChangeAt Go.RowKit Go.Joins
def OpV.ok (o:OpV):Bool:=opB o.k o.r o.s o.t o.a o.b
abbrev OpV.val (o:OpV):Value:=.agg #[.int .i64 o.k,.int .i64 o.r,.int .i64 o.s,.int .i64 o.t,.int .i64 o.a,.int .i64 o.b]
def OpV.cells (o:OpV):List Value:=[.int .i64 o.k,.int .i64 o.r,.int .i64 o.s,.int .i64 o.t,.int .i64 o.a,.int .i64 o.b]
def codeB (C:List OpV):Bool:=decide (1≤C.length)&&decide (C.length≤16)&&C.all fun o=>o.ok&&decide (o.t<C.length)
structure StepAt (w:World) (b o:Nat) (x:OpV):Prop where
 c0:w.cell? ⟨b,o,none⟩=some (.int .i64 x.k)
 c1:w.cell? ⟨b,o+1,none⟩=some (.int .i64 x.r)
 c2:w.cell? ⟨b,o+2,none⟩=some (.int .i64 x.s)
 c3:w.cell? ⟨b,o+3,none⟩=some (.int .i64 x.t)
 c4:w.cell? ⟨b,o+4,none⟩=some (.int .i64 x.a)
 c5:w.cell? ⟨b,o+5,none⟩=some (.int .i64 x.b)
theorem StepAt.below {w w':World} {b o:Nat} {x:OpV} (h:StepAt w b o x) (hb:Below w.heap.size w w'):StepAt w' b o x:=by
 have hl:=World.block_lt_of_cell? _ _ h.c0;exact⟨(hb.cell (p:=⟨b,o,none⟩) hl).trans h.c0,(hb.cell (p:=⟨b,o+1,none⟩) hl).trans h.c1,(hb.cell (p:=⟨b,o+2,none⟩) hl).trans h.c2,
  (hb.cell (p:=⟨b,o+3,none⟩) hl).trans h.c3,(hb.cell (p:=⟨b,o+4,none⟩) hl).trans h.c4,(hb.cell (p:=⟨b,o+5,none⟩) hl).trans h.c5⟩
def CodeAt (w:World) (ao:Option Addr) (C:List OpV):Prop :=
 C=[]∨∃b o,ao=some ⟨b,o,none⟩∧b<w.heap.size∧∀i (h:i<C.length),StepAt w b (o+i*6) C[i]
theorem CodeAt.below {w w':World} {ao:Option Addr} {C:List OpV} (h:CodeAt w ao C) (hb:Below w.heap.size w w'):CodeAt w' ao C:=by
 rcases h with h|⟨b,o,ha,hl,hs⟩
 ·exact .inl h
 ·exact .inr ⟨b,o,ha,Nat.lt_of_lt_of_le hl hb.size,fun i hi=>(hs i hi).below hb⟩
theorem codeB_well {C:List OpV} (h:codeB C=true):Well C∧C.length≤16∧∀i (hi:i<C.length),C[i].ok=true:=by
 simp only [codeB,Bool.and_eq_true,decide_eq_true_eq,List.all_eq_true] at h;obtain⟨⟨h1,h2⟩,h3⟩:=h;have h4:∀i (hi:i<C.length),C[i].ok=true:=fun i hi=>(h3 _ (List.getElem_mem hi)).1
 refine⟨⟨h1,fun i hi=>?_⟩,h2,h4⟩;have o:=opIs_of (h4 i hi);exact⟨o.t1,(h3 _ (List.getElem_mem hi)).2,o.r1,o.r2⟩
def UptoOk (C:List OpV) (k:Nat):Prop:=∀j (h:j<C.length),j<k→C[j].ok=true∧C[j].t<C.length
theorem codeB_all {C:List OpV} (h:UptoOk C C.length):codeB C=(decide (1≤C.length)&&decide (C.length≤16)):=by
 have:(C.all fun o=>o.ok&&decide (o.t<C.length))=true:=by
  rw [List.all_eq_true];intro o ho;obtain⟨i,hi,rfl⟩:=List.getElem_of_mem ho;simp [h i hi hi]
 simp [codeB,this]
theorem codeB_no {C:List OpV} {k:Nat} (hk:k<C.length) (h:C[k].ok=false∨(C.length:Int)≤C[k].t):codeB C=false:=by
 have:(C.all fun o=>o.ok&&decide (o.t<C.length))=false:=by
  rw [List.all_eq_false];refine⟨C[k],List.getElem_mem hk,?_⟩;rcases h with h|h
  ·simp [h]
  ·simp;intro _;exact h
 simp [codeB,this]
def FullOf (C:List OpV) (L:List Int):Prop:=(codeB C=true∧IsFull C L)∨(codeB C=false∧L=[])
theorem fullOf_len {C:List OpV} {L:List Int} (h:FullOf C L):L.length≤C.length:=by
 rcases h with⟨_,a⟩|⟨_,rfl⟩
 ·rw [a.1.1.1];exact Nat.le_refl _
 ·simp
abbrev formO (k:Int):Obj:=.cells #[.bool (fR k),.bool (fS k),.bool (fT k),.bool (fV k)] 4
theorem kinds14 {k:Int} (h1:1≤k) (h2:k≤14):k=1∨k=2∨k=3∨k=4∨k=5∨k=6∨k=7∨k=8∨k=9∨k=10∨k=11∨k=12∨k=13∨k=14:=by omega
theorem form_any (k:Int) (w:World) (h1:1≤k) (h2:k≤14) :
  Calls Tryz.prog 148 #[.int .i64 k] w fun e w'=>e=.returned (.slice (some ⟨w.heap.size,0,none⟩) 4 4)∧w'=w.alloc (formO k):=by
 rcases kinds14 h1 h2 with rfl|rfl|rfl|rfl|rfl|rfl|rfl|rfl|rfl|rfl|rfl|rfl|rfl|rfl <;>
 ·go_enter Tryz.func148,Tryz.ntmps148
  go_wp2_with fail
  go_ret
  exact⟨rfl,rfl⟩
theorem form_none (k:Int) (w:World) (h:k<1∨14<k) :
  Calls Tryz.prog 148 #[.int .i64 k] w fun e w'=>(∃a,e=.returned (.slice (some a) 0 0))∧Below w.heap.size w w':=by
 have e1:(k==1)=false:=by simp;omega
 have e2:(k==2)=false:=by simp;omega
 have e3:(k==3)=false:=by simp;omega
 have e4:(k==4)=false:=by simp;omega
 have e5:(k==5)=false:=by simp;omega
 have e6:(k==6)=false:=by simp;omega
 have e7:(k==7)=false:=by simp;omega
 have e8:(k==8)=false:=by simp;omega
 have e9:(k==9)=false:=by simp;omega
 have e10:(k==10)=false:=by simp;omega
 have e11:(k==11)=false:=by simp;omega
 have e12:(k==12)=false:=by simp;omega
 have e13:(k==13)=false:=by simp;omega
 have e14:(k==14)=false:=by simp;omega
 go_enter Tryz.func148,Tryz.ntmps148
 go_wp2_with fail
 go_ret
 exact⟨⟨_,rfl⟩,(Below.refl _ _).alloc (Nat.le_refl _) _⟩
theorem slot_any (n:Int) (w:World):Calls Tryz.prog 154 #[.int .i64 n] w fun e w'=>e=.returned (.bool (inB n 0 3))∧w'=w:=by
 go_enter Tryz.func154,Tryz.ntmps154
 go_wp2_with fail
 refine(l6In_any _ _ _ _).mono ?_;rintro e w1 ⟨rfl,rfl⟩
 go_wp2_with fail
 go_ret
 exact⟨rfl,rfl⟩
theorem to_any (n:Int) (w:World):Calls Tryz.prog 108 #[.int .i64 n] w fun e w'=>e=.returned (.bool (inB n 0 15))∧w'=w:=by
 go_enter Tryz.func108,Tryz.ntmps108
 go_wp2_with fail
 refine(l6In_any _ _ _ _).mono ?_;rintro e w1 ⟨rfl,rfl⟩
 go_wp2_with fail
 go_ret
 exact⟨rfl,rfl⟩
theorem specOpOk_else (k r s t vk vn:Int) (w:World) (h1:1≤k) (h2:k≤14) (h8:(k==8)=false) (h13:(k==13)=false) :
  Calls Tryz.prog 102 #[.agg #[.int .i64 k,.int .i64 r,.int .i64 s,.int .i64 t,.int .i64 vk,.int .i64 vn]] w fun e w'=>e=.returned (.bool (opB k r s t vk vn))∧Below w.heap.size w w':=by
 have hk:inB k 1 14=true:=inB_iff.2 ⟨h1,h2⟩
 go_enter Tryz.func102,Tryz.ntmps102
 go_wp2_with fail
 refine(form_any _ _ h1 h2).mono ?_;rintro e w1 ⟨rfl,rfl⟩
 go_wp2_with fail
 refine(specOk_any _ _ _).mono ?_;rintro e w3 ⟨rfl,hb3⟩;obtain⟨hc3,hf3⟩:=bcell hb3;have hz3:=hb3.size;simp at hz3;have c0:w3.cell? ⟨w.heap.size,0,none⟩=some (.int .i64 k):=by rw [hc3 _ _ (by simp;omega)];simp [go_sem]
 have c1:w3.cell? ⟨w.heap.size,1,none⟩=some (.int .i64 r):=by rw [hc3 _ _ (by simp;omega)];simp [go_sem]
 have c2:w3.cell? ⟨w.heap.size,2,none⟩=some (.int .i64 s):=by rw [hc3 _ _ (by simp;omega)];simp [go_sem]
 have c3:w3.cell? ⟨w.heap.size,3,none⟩=some (.int .i64 t):=by rw [hc3 _ _ (by simp;omega)];simp [go_sem]
 have c4:w3.cell? ⟨w.heap.size,4,none⟩=some (.int .i64 vk):=by rw [hc3 _ _ (by simp;omega)];simp [go_sem]
 have c5:w3.cell? ⟨w.heap.size,5,none⟩=some (.int .i64 vn):=by rw [hc3 _ _ (by simp;omega)];simp [go_sem]
 have d0:w3.cell? ⟨w.heap.size+1,0,none⟩=some (.bool (fR k)):=by rw [hc3 _ _ (by simp)];simp [go_sem]
 have d1:w3.cell? ⟨w.heap.size+1,1,none⟩=some (.bool (fS k)):=by rw [hc3 _ _ (by simp)];simp [go_sem]
 have d2:w3.cell? ⟨w.heap.size+1,2,none⟩=some (.bool (fT k)):=by rw [hc3 _ _ (by simp)];simp [go_sem]
 have d3:w3.cell? ⟨w.heap.size+1,3,none⟩=some (.bool (fV k)):=by rw [hc3 _ _ (by simp)];simp [go_sem]
 have l0:w.heap.size<w3.heap.size:=by omega
 have l1:w.heap.size+1<w3.heap.size:=by omega
 have hB3:Below w.heap.size w w3:=(((Below.refl _ _).alloc (Nat.le_refl _) _).alloc (by simp) _).trans (hb3.mono (by simp;omega));clear hc3 hf3 hb3
 cases hv:okB vk vn with
 |false =>
  go_wp2_with fail
  go_ret
  exact⟨by simp [opB,hv],hB3⟩
 |true =>
  go_wp2_with fail
  refine(slot_any _ _).mono ?_;rintro e wx ⟨rfl,rfl⟩
  cases hr:inB r 0 3 with
  |false =>
   have r0:(r==0)=false:=by
    rw [beq_eq_false_iff_ne];rintro rfl;exact absurd hr (by decide)
   go_wp2_with fail
   go_ret
   exact⟨by simp [opB,hk,hv,h8,h13,hr,r0],hB3⟩
  |true =>
   cases hfr:fR k with
   |true =>
    go_wp2_with fail
    refine(slot_any _ _).mono ?_;rintro e wx ⟨rfl,rfl⟩
    cases hs:inB s 0 3 with
    |false =>
     have s0:(s==0)=false:=by
      rw [beq_eq_false_iff_ne];rintro rfl;exact absurd hs (by decide)
     go_wp2_with fail
     go_ret
     exact⟨by simp [opB,hk,hv,h8,h13,hr,hfr,hs,s0],hB3⟩
    |true =>
     cases hfs:fS k with
     |true =>
      go_wp2_with fail
      refine(to_any _ _).mono ?_;rintro e wx ⟨rfl,rfl⟩
      cases ht:inB t 0 15 with
      |false =>
       have t0:(t==0)=false:=by
        rw [beq_eq_false_iff_ne];rintro rfl;exact absurd ht (by decide)
       go_wp2_with fail
       go_ret
       exact⟨by simp [opB,hk,hv,h8,h13,hr,hfr,hs,hfs,ht,t0],hB3⟩
      |true =>
       cases hft:fT k with
       |true =>
        cases hfv:fV k with
        |true =>
         go_wp2_with fail
         go_ret
         exact⟨by simp [opB,hk,hv,h8,h13,hr,hfr,hs,hfs,ht,hft,hfv],hB3⟩
        |false =>
         cases hv0:(vk==0) with
         |false =>
          go_wp2_with fail
          go_ret
          exact⟨by simp [opB,hk,hv,h8,h13,hr,hfr,hs,hfs,ht,hft,hfv,hv0],hB3⟩
         |true =>
          cases hn0:(vn==0) with
          |false =>
           go_wp2_with fail
           go_ret
           exact⟨by simp [opB,hk,hv,h8,h13,hr,hfr,hs,hfs,ht,hft,hfv,hv0,hn0],hB3⟩
          |true =>
           go_wp2_with fail
           go_ret
           exact⟨by simp [opB,hk,hv,h8,h13,hr,hfr,hs,hfs,ht,hft,hfv,hv0,hn0],hB3⟩
       |false =>
        cases t0:(t==0) with
        |false =>
         go_wp2_with fail
         go_ret
         exact⟨by simp [opB,hk,hv,h8,h13,hr,hfr,hs,hfs,ht,hft,t0],hB3⟩
        |true =>
         cases hfv:fV k with
         |true =>
          go_wp2_with fail
          go_ret
          exact⟨by simp [opB,hk,hv,h8,h13,hr,hfr,hs,hfs,ht,hft,t0,hfv],hB3⟩
         |false =>
          cases hv0:(vk==0) with
          |false =>
           go_wp2_with fail
           go_ret
           exact⟨by simp [opB,hk,hv,h8,h13,hr,hfr,hs,hfs,ht,hft,t0,hfv,hv0],hB3⟩
          |true =>
           cases hn0:(vn==0) with
           |false =>
            go_wp2_with fail
            go_ret
            exact⟨by simp [opB,hk,hv,h8,h13,hr,hfr,hs,hfs,ht,hft,t0,hfv,hv0,hn0],hB3⟩
           |true =>
            go_wp2_with fail
            go_ret
            exact⟨by simp [opB,hk,hv,h8,h13,hr,hfr,hs,hfs,ht,hft,t0,hfv,hv0,hn0],hB3⟩
     |false =>
      cases s0:(s==0) with
      |false =>
       go_wp2_with fail
       go_ret
       exact⟨by simp [opB,hk,hv,h8,h13,hr,hfr,hs,hfs,s0],hB3⟩
      |true =>
       go_wp2_with fail
       refine(to_any _ _).mono ?_;rintro e wx ⟨rfl,rfl⟩
       cases ht:inB t 0 15 with
       |false =>
        have t0:(t==0)=false:=by
         rw [beq_eq_false_iff_ne];rintro rfl;exact absurd ht (by decide)
        go_wp2_with fail
        go_ret
        exact⟨by simp [opB,hk,hv,h8,h13,hr,hfr,hs,hfs,s0,ht,t0],hB3⟩
       |true =>
        cases hft:fT k with
        |true =>
         cases hfv:fV k with
         |true =>
          go_wp2_with fail
          go_ret
          exact⟨by simp [opB,hk,hv,h8,h13,hr,hfr,hs,hfs,s0,ht,hft,hfv],hB3⟩
         |false =>
          cases hv0:(vk==0) with
          |false =>
           go_wp2_with fail
           go_ret
           exact⟨by simp [opB,hk,hv,h8,h13,hr,hfr,hs,hfs,s0,ht,hft,hfv,hv0],hB3⟩
          |true =>
           cases hn0:(vn==0) with
           |false =>
            go_wp2_with fail
            go_ret
            exact⟨by simp [opB,hk,hv,h8,h13,hr,hfr,hs,hfs,s0,ht,hft,hfv,hv0,hn0],hB3⟩
           |true =>
            go_wp2_with fail
            go_ret
            exact⟨by simp [opB,hk,hv,h8,h13,hr,hfr,hs,hfs,s0,ht,hft,hfv,hv0,hn0],hB3⟩
        |false =>
         cases t0:(t==0) with
         |false =>
          go_wp2_with fail
          go_ret
          exact⟨by simp [opB,hk,hv,h8,h13,hr,hfr,hs,hfs,s0,ht,hft,t0],hB3⟩
         |true =>
          cases hfv:fV k with
          |true =>
           go_wp2_with fail
           go_ret
           exact⟨by simp [opB,hk,hv,h8,h13,hr,hfr,hs,hfs,s0,ht,hft,t0,hfv],hB3⟩
          |false =>
           cases hv0:(vk==0) with
           |false =>
            go_wp2_with fail
            go_ret
            exact⟨by simp [opB,hk,hv,h8,h13,hr,hfr,hs,hfs,s0,ht,hft,t0,hfv,hv0],hB3⟩
           |true =>
            cases hn0:(vn==0) with
            |false =>
             go_wp2_with fail
             go_ret
             exact⟨by simp [opB,hk,hv,h8,h13,hr,hfr,hs,hfs,s0,ht,hft,t0,hfv,hv0,hn0],hB3⟩
            |true =>
             go_wp2_with fail
             go_ret
             exact⟨by simp [opB,hk,hv,h8,h13,hr,hfr,hs,hfs,s0,ht,hft,t0,hfv,hv0,hn0],hB3⟩
   |false =>
    cases r0:(r==0) with
    |false =>
     go_wp2_with fail
     go_ret
     exact⟨by simp [opB,hk,hv,h8,h13,hr,hfr,r0],hB3⟩
    |true =>
     go_wp2_with fail
     refine(slot_any _ _).mono ?_;rintro e wx ⟨rfl,rfl⟩
     cases hs:inB s 0 3 with
     |false =>
      have s0:(s==0)=false:=by
       rw [beq_eq_false_iff_ne];rintro rfl;exact absurd hs (by decide)
      go_wp2_with fail
      go_ret
      exact⟨by simp [opB,hk,hv,h8,h13,hr,hfr,r0,hs,s0],hB3⟩
     |true =>
      cases hfs:fS k with
      |true =>
       go_wp2_with fail
       refine(to_any _ _).mono ?_;rintro e wx ⟨rfl,rfl⟩
       cases ht:inB t 0 15 with
       |false =>
        have t0:(t==0)=false:=by
         rw [beq_eq_false_iff_ne];rintro rfl;exact absurd ht (by decide)
        go_wp2_with fail
        go_ret
        exact⟨by simp [opB,hk,hv,h8,h13,hr,hfr,r0,hs,hfs,ht,t0],hB3⟩
       |true =>
        cases hft:fT k with
        |true =>
         cases hfv:fV k with
         |true =>
          go_wp2_with fail
          go_ret
          exact⟨by simp [opB,hk,hv,h8,h13,hr,hfr,r0,hs,hfs,ht,hft,hfv],hB3⟩
         |false =>
          cases hv0:(vk==0) with
          |false =>
           go_wp2_with fail
           go_ret
           exact⟨by simp [opB,hk,hv,h8,h13,hr,hfr,r0,hs,hfs,ht,hft,hfv,hv0],hB3⟩
          |true =>
           cases hn0:(vn==0) with
           |false =>
            go_wp2_with fail
            go_ret
            exact⟨by simp [opB,hk,hv,h8,h13,hr,hfr,r0,hs,hfs,ht,hft,hfv,hv0,hn0],hB3⟩
           |true =>
            go_wp2_with fail
            go_ret
            exact⟨by simp [opB,hk,hv,h8,h13,hr,hfr,r0,hs,hfs,ht,hft,hfv,hv0,hn0],hB3⟩
        |false =>
         cases t0:(t==0) with
         |false =>
          go_wp2_with fail
          go_ret
          exact⟨by simp [opB,hk,hv,h8,h13,hr,hfr,r0,hs,hfs,ht,hft,t0],hB3⟩
         |true =>
          cases hfv:fV k with
          |true =>
           go_wp2_with fail
           go_ret
           exact⟨by simp [opB,hk,hv,h8,h13,hr,hfr,r0,hs,hfs,ht,hft,t0,hfv],hB3⟩
          |false =>
           cases hv0:(vk==0) with
           |false =>
            go_wp2_with fail
            go_ret
            exact⟨by simp [opB,hk,hv,h8,h13,hr,hfr,r0,hs,hfs,ht,hft,t0,hfv,hv0],hB3⟩
           |true =>
            cases hn0:(vn==0) with
            |false =>
             go_wp2_with fail
             go_ret
             exact⟨by simp [opB,hk,hv,h8,h13,hr,hfr,r0,hs,hfs,ht,hft,t0,hfv,hv0,hn0],hB3⟩
            |true =>
             go_wp2_with fail
             go_ret
             exact⟨by simp [opB,hk,hv,h8,h13,hr,hfr,r0,hs,hfs,ht,hft,t0,hfv,hv0,hn0],hB3⟩
      |false =>
       cases s0:(s==0) with
       |false =>
        go_wp2_with fail
        go_ret
        exact⟨by simp [opB,hk,hv,h8,h13,hr,hfr,r0,hs,hfs,s0],hB3⟩
       |true =>
        go_wp2_with fail
        refine(to_any _ _).mono ?_;rintro e wx ⟨rfl,rfl⟩
        cases ht:inB t 0 15 with
        |false =>
         have t0:(t==0)=false:=by
          rw [beq_eq_false_iff_ne];rintro rfl;exact absurd ht (by decide)
         go_wp2_with fail
         go_ret
         exact⟨by simp [opB,hk,hv,h8,h13,hr,hfr,r0,hs,hfs,s0,ht,t0],hB3⟩
        |true =>
         cases hft:fT k with
         |true =>
          cases hfv:fV k with
          |true =>
           go_wp2_with fail
           go_ret
           exact⟨by simp [opB,hk,hv,h8,h13,hr,hfr,r0,hs,hfs,s0,ht,hft,hfv],hB3⟩
          |false =>
           cases hv0:(vk==0) with
           |false =>
            go_wp2_with fail
            go_ret
            exact⟨by simp [opB,hk,hv,h8,h13,hr,hfr,r0,hs,hfs,s0,ht,hft,hfv,hv0],hB3⟩
           |true =>
            cases hn0:(vn==0) with
            |false =>
             go_wp2_with fail
             go_ret
             exact⟨by simp [opB,hk,hv,h8,h13,hr,hfr,r0,hs,hfs,s0,ht,hft,hfv,hv0,hn0],hB3⟩
            |true =>
             go_wp2_with fail
             go_ret
             exact⟨by simp [opB,hk,hv,h8,h13,hr,hfr,r0,hs,hfs,s0,ht,hft,hfv,hv0,hn0],hB3⟩
         |false =>
          cases t0:(t==0) with
          |false =>
           go_wp2_with fail
           go_ret
           exact⟨by simp [opB,hk,hv,h8,h13,hr,hfr,r0,hs,hfs,s0,ht,hft,t0],hB3⟩
          |true =>
           cases hfv:fV k with
           |true =>
            go_wp2_with fail
            go_ret
            exact⟨by simp [opB,hk,hv,h8,h13,hr,hfr,r0,hs,hfs,s0,ht,hft,t0,hfv],hB3⟩
           |false =>
            cases hv0:(vk==0) with
            |false =>
             go_wp2_with fail
             go_ret
             exact⟨by simp [opB,hk,hv,h8,h13,hr,hfr,r0,hs,hfs,s0,ht,hft,t0,hfv,hv0],hB3⟩
            |true =>
             cases hn0:(vn==0) with
             |false =>
              go_wp2_with fail
              go_ret
              exact⟨by simp [opB,hk,hv,h8,h13,hr,hfr,r0,hs,hfs,s0,ht,hft,t0,hfv,hv0,hn0],hB3⟩
             |true =>
              go_wp2_with fail
              go_ret
              exact⟨by simp [opB,hk,hv,h8,h13,hr,hfr,r0,hs,hfs,s0,ht,hft,t0,hfv,hv0,hn0],hB3⟩
theorem specOpOk_after (r s t vk vn:Int) (w:World) :
  Calls Tryz.prog 102 #[.agg #[.int .i64 8,.int .i64 r,.int .i64 s,.int .i64 t,.int .i64 vk,.int .i64 vn]] w fun e w'=>e=.returned (.bool (opB 8 r s t vk vn))∧Below w.heap.size w w':=by
 have hk:inB 8 1 14=true:=rfl;have hfR:fR 8=true:=rfl;have hfS:fS 8=true:=rfl;have hfT:fT 8=true:=rfl;have hfV:fV 8=true:=rfl
 go_enter Tryz.func102,Tryz.ntmps102
 go_wp2_with fail
 refine(form_any _ _ (by omega) (by omega)).mono ?_;rintro e w1 ⟨rfl,rfl⟩
 go_wp2_with fail
 refine(specOk_any _ _ _).mono ?_;rintro e w3 ⟨rfl,hb3⟩;obtain⟨hc3,hf3⟩:=bcell hb3;have hz3:=hb3.size;simp at hz3;have c0:w3.cell? ⟨w.heap.size,0,none⟩=some (.int .i64 8):=by rw [hc3 _ _ (by simp;omega)];simp [go_sem]
 have c1:w3.cell? ⟨w.heap.size,1,none⟩=some (.int .i64 r):=by rw [hc3 _ _ (by simp;omega)];simp [go_sem]
 have c2:w3.cell? ⟨w.heap.size,2,none⟩=some (.int .i64 s):=by rw [hc3 _ _ (by simp;omega)];simp [go_sem]
 have c3:w3.cell? ⟨w.heap.size,3,none⟩=some (.int .i64 t):=by rw [hc3 _ _ (by simp;omega)];simp [go_sem]
 have c4:w3.cell? ⟨w.heap.size,4,none⟩=some (.int .i64 vk):=by rw [hc3 _ _ (by simp;omega)];simp [go_sem]
 have c5:w3.cell? ⟨w.heap.size,5,none⟩=some (.int .i64 vn):=by rw [hc3 _ _ (by simp;omega)];simp [go_sem]
 have d0:w3.cell? ⟨w.heap.size+1,0,none⟩=some (.bool (fR 8)):=by rw [hc3 _ _ (by simp)];simp [go_sem]
 have d1:w3.cell? ⟨w.heap.size+1,1,none⟩=some (.bool (fS 8)):=by rw [hc3 _ _ (by simp)];simp [go_sem]
 have d2:w3.cell? ⟨w.heap.size+1,2,none⟩=some (.bool (fT 8)):=by rw [hc3 _ _ (by simp)];simp [go_sem]
 have d3:w3.cell? ⟨w.heap.size+1,3,none⟩=some (.bool (fV 8)):=by rw [hc3 _ _ (by simp)];simp [go_sem]
 have l0:w.heap.size<w3.heap.size:=by omega
 have l1:w.heap.size+1<w3.heap.size:=by omega
 have hB3:Below w.heap.size w w3:=(((Below.refl _ _).alloc (Nat.le_refl _) _).alloc (by simp) _).trans (hb3.mono (by simp;omega));clear hc3 hf3 hb3
 cases hv:okB vk vn with
 |false =>
  go_wp2_with fail
  go_ret
  exact⟨by simp [opB,hv],hB3⟩
 |true =>
  cases hvk:(vk==1) with
  |false =>
   have hvk':(vk != 1)=true:=by rw [bne,hvk];rfl
   go_wp2_with fail
   go_ret
   exact⟨by simp [opB,hk,hv,hvk],hB3⟩
  |true =>
   have hvk':(vk != 1)=false:=by rw [bne,hvk];rfl
   by_cases hvn:vn<1
   ·have hvn':decide (1≤vn)=false:=by simp;omega
    go_wp2_with fail
    go_ret
    exact⟨by simp [opB,hk,hv,hvk,hvn'],hB3⟩
   ·have hvn':decide (1≤vn)=true:=by simp;omega
    go_wp2_with fail
    refine(slot_any _ _).mono ?_;rintro e wx ⟨rfl,rfl⟩
    cases hr:inB r 0 3 with
    |false =>
     have r0:(r==0)=false:=by
      rw [beq_eq_false_iff_ne];rintro rfl;exact absurd hr (by decide)
     go_wp2_with fail
     go_ret
     exact⟨by simp [opB,hk,hv,hvk,hvn',hr,r0],hB3⟩
    |true =>
     go_wp2_with fail
     refine(slot_any _ _).mono ?_;rintro e wx ⟨rfl,rfl⟩
     cases hs:inB s 0 3 with
     |false =>
      have s0:(s==0)=false:=by
       rw [beq_eq_false_iff_ne];rintro rfl;exact absurd hs (by decide)
      go_wp2_with fail
      go_ret
      exact⟨by simp [opB,hk,hv,hvk,hvn',hr,hfR,hs,s0],hB3⟩
     |true =>
      go_wp2_with fail
      refine(to_any _ _).mono ?_;rintro e wx ⟨rfl,rfl⟩
      cases ht:inB t 0 15 with
      |false =>
       have t0:(t==0)=false:=by
        rw [beq_eq_false_iff_ne];rintro rfl;exact absurd ht (by decide)
       go_wp2_with fail
       go_ret
       exact⟨by simp [opB,hk,hv,hvk,hvn',hr,hfR,hs,hfS,ht,t0],hB3⟩
      |true =>
       go_wp2_with fail
       go_ret
       exact⟨by simp [opB,hk,hv,hvk,hvn',hr,hfR,hs,hfS,ht,hfT,hfV],hB3⟩
theorem specOpOk_trap (r s t vk vn:Int) (w:World) :
  Calls Tryz.prog 102 #[.agg #[.int .i64 13,.int .i64 r,.int .i64 s,.int .i64 t,.int .i64 vk,.int .i64 vn]] w fun e w'=>e=.returned (.bool (opB 13 r s t vk vn))∧Below w.heap.size w w':=by
 have hk:inB 13 1 14=true:=rfl;have hfR:fR 13=false:=rfl;have hfS:fS 13=false:=rfl;have hfT:fT 13=false:=rfl;have hfV:fV 13=true:=rfl
 go_enter Tryz.func102,Tryz.ntmps102
 go_wp2_with fail
 refine(form_any _ _ (by omega) (by omega)).mono ?_;rintro e w1 ⟨rfl,rfl⟩
 go_wp2_with fail
 refine(specOk_any _ _ _).mono ?_;rintro e w3 ⟨rfl,hb3⟩;obtain⟨hc3,hf3⟩:=bcell hb3;have hz3:=hb3.size;simp at hz3;have c0:w3.cell? ⟨w.heap.size,0,none⟩=some (.int .i64 13):=by rw [hc3 _ _ (by simp;omega)];simp [go_sem]
 have c1:w3.cell? ⟨w.heap.size,1,none⟩=some (.int .i64 r):=by rw [hc3 _ _ (by simp;omega)];simp [go_sem]
 have c2:w3.cell? ⟨w.heap.size,2,none⟩=some (.int .i64 s):=by rw [hc3 _ _ (by simp;omega)];simp [go_sem]
 have c3:w3.cell? ⟨w.heap.size,3,none⟩=some (.int .i64 t):=by rw [hc3 _ _ (by simp;omega)];simp [go_sem]
 have c4:w3.cell? ⟨w.heap.size,4,none⟩=some (.int .i64 vk):=by rw [hc3 _ _ (by simp;omega)];simp [go_sem]
 have c5:w3.cell? ⟨w.heap.size,5,none⟩=some (.int .i64 vn):=by rw [hc3 _ _ (by simp;omega)];simp [go_sem]
 have d0:w3.cell? ⟨w.heap.size+1,0,none⟩=some (.bool (fR 13)):=by rw [hc3 _ _ (by simp)];simp [go_sem]
 have d1:w3.cell? ⟨w.heap.size+1,1,none⟩=some (.bool (fS 13)):=by rw [hc3 _ _ (by simp)];simp [go_sem]
 have d2:w3.cell? ⟨w.heap.size+1,2,none⟩=some (.bool (fT 13)):=by rw [hc3 _ _ (by simp)];simp [go_sem]
 have d3:w3.cell? ⟨w.heap.size+1,3,none⟩=some (.bool (fV 13)):=by rw [hc3 _ _ (by simp)];simp [go_sem]
 have l0:w.heap.size<w3.heap.size:=by omega
 have l1:w.heap.size+1<w3.heap.size:=by omega
 have hB3:Below w.heap.size w w3:=(((Below.refl _ _).alloc (Nat.le_refl _) _).alloc (by simp) _).trans (hb3.mono (by simp;omega));clear hc3 hf3 hb3
 cases hv:okB vk vn with
 |false =>
  go_wp2_with fail
  go_ret
  exact⟨by simp [opB,hv],hB3⟩
 |true =>
  cases hvk:(vk==1) with
  |false =>
   have hvk':(vk != 1)=true:=by rw [bne,hvk];rfl
   go_wp2_with fail
   go_ret
   exact⟨by simp [opB,hk,hv,hvk],hB3⟩
  |true =>
   have hvk':(vk != 1)=false:=by rw [bne,hvk];rfl
   go_wp2_with fail
   refine(l6In_any _ _ _ _).mono ?_;rintro e wx ⟨rfl,rfl⟩
   cases hvn:(decide (0≤vn)&&decide (vn≤1)) with
   |false =>
    have hvn':inB vn 0 1=false:=hvn
    go_wp2_with fail
    go_ret
    exact⟨by simp [opB,hk,hv,hvk,hvn'],hB3⟩
   |true =>
    have hvn':inB vn 0 1=true:=hvn
    go_wp2_with fail
    refine(slot_any _ _).mono ?_;rintro e wx ⟨rfl,rfl⟩
    cases hr:inB r 0 3 with
    |false =>
     have r0:(r==0)=false:=by
      rw [beq_eq_false_iff_ne];rintro rfl;exact absurd hr (by decide)
     go_wp2_with fail
     go_ret
     exact⟨by simp [opB,hk,hv,hvk,hvn',hr,r0],hB3⟩
    |true =>
     cases r0:(r==0) with
     |false =>
      go_wp2_with fail
      go_ret
      exact⟨by simp [opB,hk,hv,hvk,hvn',hr,hfR,r0],hB3⟩
     |true =>
      go_wp2_with fail
      refine(slot_any _ _).mono ?_;rintro e wx ⟨rfl,rfl⟩
      cases hs:inB s 0 3 with
      |false =>
       have s0:(s==0)=false:=by
        rw [beq_eq_false_iff_ne];rintro rfl;exact absurd hs (by decide)
       go_wp2_with fail
       go_ret
       exact⟨by simp [opB,hk,hv,hvk,hvn',hr,hfR,r0,hs,s0],hB3⟩
      |true =>
       cases s0:(s==0) with
       |false =>
        go_wp2_with fail
        go_ret
        exact⟨by simp [opB,hk,hv,hvk,hvn',hr,hfR,r0,hs,hfS,s0],hB3⟩
       |true =>
        go_wp2_with fail
        refine(to_any _ _).mono ?_;rintro e wx ⟨rfl,rfl⟩
        cases ht:inB t 0 15 with
        |false =>
         have t0:(t==0)=false:=by
          rw [beq_eq_false_iff_ne];rintro rfl;exact absurd ht (by decide)
         go_wp2_with fail
         go_ret
         exact⟨by simp [opB,hk,hv,hvk,hvn',hr,hfR,r0,hs,hfS,s0,ht,t0],hB3⟩
        |true =>
         cases t0:(t==0) with
         |false =>
          go_wp2_with fail
          go_ret
          exact⟨by simp [opB,hk,hv,hvk,hvn',hr,hfR,r0,hs,hfS,s0,ht,hfT,t0],hB3⟩
         |true =>
          go_wp2_with fail
          go_ret
          exact⟨by simp [opB,hk,hv,hvk,hvn',hr,hfR,r0,hs,hfS,s0,ht,hfT,t0,hfV],hB3⟩
theorem specOpOk_any (k r s t vk vn:Int) (w:World) :
  Calls Tryz.prog 102 #[.agg #[.int .i64 k,.int .i64 r,.int .i64 s,.int .i64 t,.int .i64 vk,.int .i64 vn]] w fun e w'=>e=.returned (.bool (opB k r s t vk vn))∧Below w.heap.size w w':=by
 by_cases h:1≤k∧k≤14
 ·cases h8:(k==8) with
  |true=>obtain rfl:=beq_iff_eq.1 h8;exact specOpOk_after r s t vk vn w
  |false =>
   cases h13:(k==13) with
   |true=>obtain rfl:=beq_iff_eq.1 h13;exact specOpOk_trap r s t vk vn w
   |false=>exact specOpOk_else k r s t vk vn w h.1 h.2 h8 h13
 ·have hk:inB k 1 14=false:=by rw [Bool.eq_false_iff];exact fun e=>h (inB_iff.1 e)
  go_enter Tryz.func102,Tryz.ntmps102
  go_wp2_with fail
  refine(form_none _ _ (by omega)).mono ?_;rintro e w1 ⟨⟨a,rfl⟩,hb1⟩
  go_wp2_with fail
  go_ret
  exact⟨by simp [opB,hk],((Below.refl _ _).alloc (Nat.le_refl _) _).trans (hb1.mono (by simp))⟩
def usesL (k r s:Int):List Int:=if k=2 then [s] else if k=3∨k=6 then [r,s] else if k=10∨k=11∨k=12∨k=14 then [r] else []
def usesOf (k r s t vk vn:Int):List Int:=if opB k r s t vk vn=true then usesL k r s else []
theorem usesOf_bad {k r s t vk vn:Int} (h:opB k r s t vk vn=false):usesOf k r s t vk vn=[]:=by rw [usesOf,if_neg (by rw [h];decide)]
theorem usesOf_ok {k r s t vk vn:Int} (h:opB k r s t vk vn=true):usesOf k r s t vk vn=usesL k r s:=by rw [usesOf,if_pos h]
def NewRow (w:World) (L:List Int) (e:Ending) (w':World):Prop :=
 ∃b,e=.returned (.slice (some ⟨b,0,none⟩) L.length L.length)∧w.heap.size≤b∧b<w'.heap.size∧(∀i,i<L.length→w'.cell? ⟨b,i,none⟩=some (.int .i64 (L.getD i 0)))∧Below w.heap.size w w'
theorem l2Uses_any (k r s t vk vn:Int) (w:World) (h1:1≤k) (h2:k≤14) :
  Calls Tryz.prog 72 #[.agg #[.int .i64 k,.int .i64 r,.int .i64 s,.int .i64 t,.int .i64 vk,.int .i64 vn]] w fun e w'=>NewRow w (usesL k r s) e w':=by
 rcases kinds14 h1 h2 with rfl|rfl|rfl|rfl|rfl|rfl|rfl|rfl|rfl|rfl|rfl|rfl|rfl|rfl <;>
 ·go_enter Tryz.func72,Tryz.ntmps72
  go_wp2_with fail
  go_ret
  refine⟨_,rfl,?_,?_,?_,?_⟩
  ·simp
  ·simp
  ·intro i hi;have h3:i=0∨i=1∨2≤i:=(by omega);rcases h3 with rfl|rfl|h3
   ·first|(simp [usesL] at hi;done)|(simp [usesL,go_sem];done)
   ·first|(simp [usesL] at hi;done)|(simp [usesL,go_sem];done)
   ·simp [usesL] at hi<;>omega
  ·exact((Below.refl _ _).alloc (Nat.le_refl _) _).alloc (by simp) _
def Ints (S:Nat) (w:World) (v:Value) (L:List Int):Prop :=
 ∃ao cap,v=.slice ao L.length cap∧(L=[]∨∃b o,ao=some ⟨b,o,none⟩∧b<S∧∀i (h:i<L.length),w.cell? ⟨b,o+i,none⟩=some (.int .i64 L[i]))
theorem Ints.below {S:Nat} {w w':World} {v:Value} {L:List Int} (h:Ints S w v L) (hb:Below S w w'):Ints S w' v L:=by
 obtain⟨ao,cap,hv,h⟩:=h;refine⟨ao,cap,hv,h.imp id ?_⟩;rintro⟨b,o,ha,hl,hc⟩;exact⟨b,o,ha,hl,fun i hi=>(hb.cell (p:=⟨b,o+i,none⟩) hl).trans (hc i hi)⟩
abbrev Owns (w:World) (B:Nat) (v:Value) (L:List Int):Prop:=w.ownsRow B 3 1 v L.length (L.map (Value.int .i64))
theorem Owns.ints {w:World} {B:Nat} {v:Value} {L:List Int} (h:Owns w B v L):Ints w.heap.size w v L:=by
 rcases h.2 with⟨rfl,hn⟩|⟨g,cap,cur,rfl,hg,hh,_⟩
 ·have:L=[]:=List.eq_nil_of_length_eq_zero hn;subst this;exact⟨none,0,rfl,.inl rfl⟩
 ·refine⟨_,cap,rfl,.inr ⟨g,0,rfl,?_,fun i hi=>?_⟩⟩
  ·rcases Decidable.em (g<w.heap.size) with h|h
   ·exact h
   ·rw [Array.getElem?_eq_none (by omega)] at hh;cases hh
  ·have:=World.ownsRow.cellAt (w:=w) (base:=B) (e:=3) (size:=1) (g:=g) (cap:=cap) h i (by omega);rw [Nat.zero_add,this,List.getElem?_map,List.getElem?_eq_getElem hi];rfl
theorem Owns.mono {w:World} {A B:Nat} {v:Value} {L:List Int} (h:Owns w B v L) (hb:A≤B):Owns w A v L :=
 ⟨h.1,h.2.imp id fun⟨g,cap,cur,h1,h2,h3⟩=>⟨g,cap,cur,h1,Nat.le_trans hb h2,h3⟩⟩
theorem info_intI:∃i,Tryz.prog.info? 3=some i∧i.zero=some (.int .i64 0)∧i.size=1∧i.bytes=8 :=
 ⟨(Tryz.prog.info? 3).get (by kernel_rfl),(Option.some_get _).symm,by kernel_rfl,by kernel_rfl,by kernel_rfl⟩
def hasI (L:List Int) (n:Int):Bool:=L.contains n
theorem hasI_yes {L:List Int} {n:Int} (h:n∈L):hasI L n=true:=by unfold hasI;rw [List.contains_iff_mem];exact h
theorem hasI_no {L:List Int} {n:Int} (h:∀j (h:j<L.length),L[j]≠n):hasI L n=false:=by
 unfold hasI;rw [←Bool.not_eq_true,List.contains_iff_mem];intro hm;obtain⟨j,hj,e⟩:=List.getElem_of_mem hm;exact h j hj e
theorem among_any (S:Nat) (L:List Int) (v:Value) (n:Int) (w:World) (hl:L.length≤1048576) (h:Ints S w v L) :
  Calls Tryz.prog 65 #[v,.int .i64 n] w fun e w'=>e=.returned (.bool (hasI L n))∧w'=w:=by
 obtain⟨ao,cap,rfl,h⟩:=h;rcases h with rfl|⟨b,o,rfl,_,hc⟩
 ·go_enter Tryz.func65,Tryz.ntmps65
  go_wp2_with fail
  refine wp_loop_rounds 1 ?_;rw [rounds_succ]
  go_wp2_with fail
  go_ret
  exact⟨rfl,rfl⟩
 ·go_enter Tryz.func65,Tryz.ntmps65
  go_wp2_with fail
  go_loop [5] (fun i=>∃k:Nat,k≤L.length∧i=.int .i64 k∧∀j (h:j<L.length),j<k→L[j]≠n) (fun i=>L.length-(intOf i).toNat)
  case atStart=>exact⟨0,Nat.zero_le _,rfl,fun j _ h=>by omega⟩
  case round =>
   obtain⟨k,hk,rfl,hU⟩:=hrel;by_cases hlt:k<L.length
   ·have c0:=hc k hlt;obtain⟨x,hx0⟩:∃x,x=L[k]:=⟨_,rfl⟩;rw [←hx0] at c0;have hx:Hid (x=L[k]):=hx0;clear hx0 hc;by_cases e0:x=n
    ·have e':(x==n)=true:=by simp [e0]
     have e:Hid (x=n):=e0;clear e0
     go_wp2_with fail
     go_ret
     have:hasI L n=true:=hasI_yes (by rw [←e.out,hx.out];exact List.getElem_mem hlt);exact⟨by rw [this];rfl,rfl⟩
    ·have e':(x==n)=false:=by simp [e0]
     have e:Hid (¬x=n):=e0;clear e0
     go_wp2_with fail
     go_round
     case rel=>exact⟨k+1,by omega,by go_num,fun j hj hjk=>by
      by_cases h:j<k
      ·exact hU j hj h
      ·have:j=k:=by omega
       subst this;rw [←hx.out];exact e.out⟩
     case measure=>simp [intOf];omega
   ·have e:k=L.length:=by omega
    subst e
    go_wp2_with fail
    go_ret
    have:hasI L n=false:=hasI_no fun j hj=>hU j hj hj
    exact⟨by rw [this];rfl,rfl⟩
theorem index_any (S:Nat) (L:List Int) (v:Value) (n:Int) (w:World) (hl:L.length≤1048576) (h:Ints S w v L) :
  Calls Tryz.prog 86 #[v,.int .i64 n] w fun e w'=>∃m:Int,e=.returned (.int .i64 m)∧decide (0≤m)=hasI L n∧w'=w:=by
 obtain⟨ao,cap,rfl,h⟩:=h;rcases h with rfl|⟨b,o,rfl,_,hc⟩
 ·go_enter Tryz.func86,Tryz.ntmps86
  go_wp2_with fail
  refine wp_loop_rounds 1 ?_;rw [rounds_succ]
  go_wp2_with fail
  go_ret
  exact⟨_,rfl,rfl,rfl⟩
 ·go_enter Tryz.func86,Tryz.ntmps86
  go_wp2_with fail
  go_loop [8] (fun i=>∃k:Nat,k≤L.length∧i=.int .i64 k∧∀j (h:j<L.length),j<k→L[j]≠n) (fun i=>L.length-(intOf i).toNat)
  case atStart=>exact⟨0,Nat.zero_le _,rfl,fun j _ h=>by omega⟩
  case round =>
   obtain⟨k,hk,rfl,hU⟩:=hrel;by_cases hlt:k<L.length
   ·have c0:=hc k hlt;obtain⟨x,hx0⟩:∃x,x=L[k]:=⟨_,rfl⟩;rw [←hx0] at c0;have hx:Hid (x=L[k]):=hx0;clear hx0 hc;by_cases e0:n=x
    ·have e':(n==x)=true:=by simp [e0]
     have e:Hid (n=x):=e0;clear e0
     go_wp2_with fail
     go_ret
     have:hasI L n=true:=hasI_yes (by rw [e.out,hx.out];exact List.getElem_mem hlt);exact⟨_,rfl,by rw [this];simp,rfl⟩
    ·have e':(n==x)=false:=by simp [e0]
     have e:Hid (¬n=x):=e0;clear e0
     go_wp2_with fail
     go_round
     case rel=>exact⟨k+1,by omega,by go_num,fun j hj hjk=>by
      by_cases h:j<k
      ·exact hU j hj h
      ·have:j=k:=by omega
       subst this;rw [←hx.out];exact fun h=>e.out h.symm⟩
     case measure=>simp [intOf];omega
   ·have e:k=L.length:=by omega
    subst e
    go_wp2_with fail
    go_ret
    have:hasI L n=false:=hasI_no fun j hj=>hU j hj hj
    exact⟨_,rfl,by rw [this];rfl,rfl⟩
theorem contains_any (S:Nat) (L:List Int) (v:Value) (n:Int) (w:World) (hl:L.length≤1048576) (h:Ints S w v L) :
  Calls Tryz.prog 55 #[v,.int .i64 n] w fun e w'=>e=.returned (.bool (hasI L n))∧w'=w:=by
 go_enter Tryz.func55,Tryz.ntmps55
 go_wp2_with fail
 refine(index_any S L v n _ hl h).mono ?_;rintro e w1 ⟨m,rfl,hm,rfl⟩;have hm':Hid (decide (0≤m)=hasI L n):=hm;clear hm
 go_wp2_with fail
 go_ret
 exact⟨by rw [←hm'.out];rfl,rfl⟩
abbrev Bits (w:World) (F:Nat) (L:List Int):Prop:=w.ownsRow F 3 1 (.slice (some ⟨F,0,none⟩) L.length L.length) L.length (L.map (Value.int .i64))
theorem Bits.cell {w:World} {F:Nat} {L:List Int} (h:Bits w F L) {i:Nat} (hi:i<L.length):w.cell? ⟨F,i,none⟩=some (.int .i64 (atV L i)):=by
 rw [World.ownsRow.cellAt h i (by omega),List.getElem?_map,List.getElem?_eq_getElem hi];simp [atV,List.getD_eq_getElem?_getD,List.getElem?_eq_getElem hi]
theorem Bits.free {w:World} {F:Nat} {L:List Int} (h:Bits w F L) (i:Nat):w.frozen? ⟨F,i,none⟩=false:=World.ownsRow.frozenAt h i
theorem Bits.set {w:World} {F:Nat} {L:List Int} (h:Bits w F L) (i:Nat) (x:Int):Bits (w.setCell ⟨F,i,none⟩ (.int .i64 x)) F (L.set i x):=by
 have:=(World.ownsRow.stored h i (.int .i64 x)).1;rw [←List.map_set] at this;simpa [Bits] using this
theorem Bits.keep {w w':World} {F:Nat} {L:List Int} (h:Bits w F L) (hk:w'.heap[F]?=w.heap[F]?):Bits w' F L:=by
 obtain⟨h1,h2⟩:=h;refine⟨h1,h2.imp id ?_⟩;rintro⟨g,cap,cur,hv,hg,hh,hr⟩;have e:g=F:=by simp at hv;exact hv.1.symm
 subst e;exact⟨g,cap,cur,hv,hg,hk.trans hh,hr⟩
theorem Bits.lt {w:World} {F:Nat} {L:List Int} (h:Bits w F L):F<w.heap.size:=(World.ownsRow.lt h F rfl).2
theorem bit_four (r:Int):bitOf r=1∨bitOf r=2∨bitOf r=4∨bitOf r=8:=by
 unfold bitOf
 split
 ·exact .inl rfl
 ·split
  ·exact .inr (.inl rfl)
  ·split
   ·exact .inr (.inr (.inl rfl))
   ·exact .inr (.inr (.inr rfl))
theorem l3Bit_any (r:Int) (w:World) (h0:0≤r) (h3:r≤3):Calls Tryz.prog 104 #[.int .i64 r] w fun e w'=>e=.returned (.int .i64 (bitOf r))∧Below w.heap.size w w':=by
 have h:r=0∨r=1∨r=2∨r=3:=by omega
 rcases h with rfl|rfl|rfl|rfl <;>
 ·go_enter Tryz.func104,Tryz.ntmps104
  go_wp2_with fail
  go_ret
  exact⟨rfl,(Below.refl _ _).alloc (Nat.le_refl _) _⟩
def hasB (x r:Int):Bool:=x / bitOf r % 2==1
theorem l3Has_any (x r:Int) (w:World) (hx0:0≤x) (hx:x≤15) (h0:0≤r) (h3:r≤3):Calls Tryz.prog 73 #[.int .i64 x,.int .i64 r] w fun e w'=>e=.returned (.bool (hasB x r))∧Below w.heap.size w w':=by
 go_enter Tryz.func73,Tryz.ntmps73
 go_wp2_with fail
 refine(l3Bit_any r _ h0 h3).mono ?_;rintro e w1 ⟨rfl,hb1⟩;have hH:Hid (hasB x r=(x / bitOf r % 2==1)):=rfl;have hb:=bit_four r;generalize bitOf r=b at *;rcases hb with rfl|rfl|rfl|rfl
 all_goals
  go_wp2_with fail
  go_ret
  exact⟨by rw [hH.out];first|rfl|(rw [Int.ediv_one];rfl),hb1⟩
theorem with_or {x r:Int} (hx0:0≤x) (hx:x≤15) (h0:0≤r) (h3:r≤3):(if hasB x r=true then x else x+bitOf r)=orB x (bitOf r):=by
 have key:∀i:Fin 17,∀j:Fin 4,0≤(i.val:Int)-1→(if hasB ((i.val:Int)-1) (j.val:Int)=true then (i.val:Int)-1 else (i.val:Int)-1+bitOf (j.val:Int))=orB ((i.val:Int)-1) (bitOf (j.val:Int)):=by decide +kernel
 obtain⟨i,rfl⟩:=bd_fin (x:=x) ⟨by omega,hx⟩;have:=key i ⟨r.toNat,by omega⟩ hx0;have e:((r.toNat:Nat):Int)=r:=by omega
 simpa [e] using this
theorem l3With_any (x r:Int) (w:World) (hx0:0≤x) (hx:x≤15) (h0:0≤r) (h3:r≤3):Calls Tryz.prog 106 #[.int .i64 x,.int .i64 r] w fun e w'=>e=.returned (.int .i64 (orB x (bitOf r)))∧Below w.heap.size w w':=by
 have hor:Hid ((if hasB x r=true then x else x+bitOf r)=orB x (bitOf r)):=with_or hx0 hx h0 h3
 go_enter Tryz.func106,Tryz.ntmps106
 go_wp2_with fail
 refine(l3Has_any x r _ hx0 hx h0 h3).mono ?_;rintro e w1 ⟨rfl,hb1⟩
 cases hh:hasB x r with
 |true =>
  go_wp2_with fail
  go_ret
  exact⟨by rw [←hor.out,if_pos hh];rfl,hb1⟩
 |false =>
  go_wp2_with fail
  refine(l3Bit_any r _ h0 h3).mono ?_;rintro e w2 ⟨rfl,hb2⟩;have hbb:=bit_bd r
  go_wp2_with fail
  go_ret
  exact⟨by rw [←hor.out,if_neg (by rw [hh];decide)];rfl,hb1.trans (hb2.mono hb1.size)⟩
def bothTo (a b:Int):Nat→Int
 |0=>0
 |k+1=>bothTo a b k+if (hasB a (k:Int)&&hasB b (k:Int))=true then bitOf (k:Int) else 0
theorem both_meet {a b:Int} (ha0:0≤a) (ha:a≤15) (hb0:0≤b) (hb:b≤15):bothTo a b 4=meet a b:=by
 have key:∀i j:Fin 17,0≤(i.val:Int)-1→0≤(j.val:Int)-1→bothTo ((i.val:Int)-1) ((j.val:Int)-1) 4=meet ((i.val:Int)-1) ((j.val:Int)-1):=by decide +kernel
 obtain⟨i,rfl⟩:=bd_fin (x:=a) ⟨by omega,ha⟩;obtain⟨j,rfl⟩:=bd_fin (x:=b) ⟨by omega,hb⟩;exact key i j ha0 hb0
theorem both_bd (a b:Int):∀k:Nat,0≤bothTo a b k∧bothTo a b k≤15*(k:Int)
 |0=>by simp [bothTo]
 |k+1=>by
  have ih:=both_bd a b k;have:=bit_bd (k:Int);unfold bothTo
  split<;>omega
theorem l3Both_any (a b:Int) (w:World) (ha:Bd a) (hb0:0≤b) (hb:b≤15):Calls Tryz.prog 77 #[.int .i64 a,.int .i64 b] w fun e w'=>e=.returned (.int .i64 (meet a b))∧Below w.heap.size w w':=by
 obtain⟨ha1,ha2⟩:=ha;by_cases h0:a<0
 ·have e:Hid (meet a b=b):=by show meet a b=b;unfold meet;rw [if_pos h0]
  go_enter Tryz.func77,Tryz.ntmps77
  go_wp2_with fail
  go_ret
  exact⟨by rw [e.out];rfl,Below.refl _ _⟩
 ·have hm:Hid (bothTo a b 4=meet a b):=both_meet (by omega) ha2 hb0 hb
  go_enter Tryz.func77,Tryz.ntmps77
  go_wp2_with fail
  go_loopw [5,6] (fun x i wr=>∃k:Nat,k≤4∧i=.int .i64 k∧x=.int .i64 (bothTo a b k)∧Below w.heap.size w wr) (fun _ i _=>4-(intOf i).toNat)
  case atStart=>exact⟨0,by decide,rfl,rfl,Below.refl _ _⟩
  case round =>
   obtain⟨k,hk,rfl,rfl,hB⟩:=hrel;have hbk:=both_bd a b k;have hzr:=hB.size;by_cases hlt:k<4
   ·have hlt':(k:Int)≤3:=by omega
    have hs:∀c,(hasB a (k:Int)&&hasB b (k:Int))=c→Hid (bothTo a b (k+1)=bothTo a b k+if c=true then bitOf (k:Int) else 0):=by
     intro c hc;show bothTo a b (k+1)=_;rw [bothTo,hc]
    have hbb:=bit_bd (k:Int)
    go_wp2_with fail
    refine(l3Has_any a (k:Int) _ (by omega) ha2 (by omega) hlt').mono ?_;rintro e w1 ⟨rfl,hb1⟩;have hB1:Below w.heap.size w w1:=hB.trans (hb1.mono hzr);have hz1:=hb1.size;clear hb1
    cases h1:hasB a (k:Int) with
    |false =>
     have hs':=hs false (by rw [h1];rfl);clear hs;generalize bothTo a b k=x0 at *
     go_wp2_with fail
     go_roundw
     case rel=>exact⟨k+1,by omega,by go_num,by rw [hs'.out];simp,hB1⟩
     case measure=>simp [intOf];omega
    |true =>
     go_wp2_with fail
     refine(l3Has_any b (k:Int) _ hb0 hb (by omega) hlt').mono ?_;rintro e w2 ⟨rfl,hb2⟩;have hB2:Below w.heap.size w w2:=hB1.trans (hb2.mono (by omega));have hz2:=hb2.size;clear hb2
     cases h2:hasB b (k:Int) with
     |false =>
      have hs':=hs false (by rw [h1,h2];rfl);clear hs;generalize bothTo a b k=x0 at *
      go_wp2_with fail
      go_roundw
      case rel=>exact⟨k+1,by omega,by go_num,by rw [hs'.out];simp,hB2⟩
      case measure=>simp [intOf];omega
     |true =>
      have hs':=hs true (by rw [h1,h2];rfl);clear hs
      go_wp2_with fail
      refine(l3Bit_any (k:Int) _ (by omega) hlt').mono ?_;rintro e w3 ⟨rfl,hb3⟩;have hB3:Below w.heap.size w w3:=hB2.trans (hb3.mono (by omega));clear hb3;generalize bothTo a b k=x0 at *;generalize bitOf (k:Int)=y0 at *
      go_wp2_with fail
      go_roundw
      case rel=>exact⟨k+1,by omega,by go_num,by rw [hs'.out];simp,hB3⟩
      case measure=>simp [intOf];omega
   ·have e:k=4:=by omega
    subst e;rw [hm.out] at *
    go_wp2_with fail
    go_ret
    exact⟨rfl,hB⟩
theorem l3Fills_any (k:Int) (w:World) (h1:1≤k) (h2:k≤14):Calls Tryz.prog 105 #[.int .i64 k] w fun e w'=>e=.returned (.bool (fillsB k))∧w'=w:=by
 rcases kinds14 h1 h2 with rfl|rfl|rfl|rfl|rfl|rfl|rfl|rfl|rfl|rfl|rfl|rfl|rfl|rfl <;>
 ·go_enter Tryz.func105,Tryz.ntmps105
  go_wp2_with fail
  go_ret
  exact⟨rfl,rfl⟩
theorem merge_len (V:List Int) (p:Nat×Int):(mergeV V p).length=V.length:=by unfold mergeV;split<;>simp
theorem l3Merge_any (F n:Nat) (V:List Int) (hn:V.length=n) (i:Nat) (y:Int) (w:World) (hF:Bits w F V) (hi:i<V.length) (hx:Bd (atV V i)) (hy0:0≤y) (hy:y≤15) :
  Calls Tryz.prog 107 #[.slice (some ⟨F,0,none⟩) n n,.int .i64 i,.int .i64 y] w fun e w'=>e=.returned (.bool (mergeB V (i,y)))∧Bits w' F (mergeV V (i,y))∧But F w w':=by
 subst hn;have c0:=hF.cell hi;have f0:=hF.free i;have hlt:=hF.lt;have hii:(i:Int)<(V.length:Int):=by omega
 go_enter Tryz.func107,Tryz.ntmps107
 go_wp2_with fail
 refine(l3Both_any _ _ _ hx hy0 hy).mono ?_;rintro e w1 ⟨rfl,hb1⟩;have c1:w1.cell? ⟨F,i,none⟩=some (.int .i64 (atV V i)):=(hb1.cell (p:=⟨F,i,none⟩) hlt).trans c0;have f1:w1.frozen? ⟨F,i,none⟩=false:=(hb1.frozen (p:=⟨F,i,none⟩) hlt).trans f0;have hF1:Hid (Bits w1 F V):=hF.keep (hb1.block F hlt);have hM:Hid (mergeV V (i,y)=(if meet (atV V i) y=atV V i then V else V.set i (meet (atV V i) y))∧mergeB V (i,y)=!(meet (atV V i) y==atV V i)):=⟨rfl,rfl⟩;clear c0 f0 hF;generalize atV V i=x at *;generalize meet x y=m at *;by_cases he:m=x
 ·have he':(m==x)=true:=by simp [he]
  have hM2:Hid (mergeV V (i,y)=V∧mergeB V (i,y)=false):=by
   refine⟨by rw [hM.out.1,if_pos he],by rw [hM.out.2,he'];rfl⟩
  clear he
  go_wp2_with fail
  go_ret
  exact⟨by rw [hM2.out.2];rfl,by rw [hM2.out.1];exact hF1.out,But.of_below hb1⟩
 ·have he':(m==x)=false:=by simp [he]
  have hM2:Hid (mergeV V (i,y)=V.set i m∧mergeB V (i,y)=true):=by
   refine⟨by rw [hM.out.1,if_neg he],by rw [hM.out.2,he'];rfl⟩
  clear he
  go_wp2_with fail
  go_ret
  exact⟨by rw [hM2.out.2];rfl,by rw [hM2.out.1];exact hF1.out.set i m,(But.of_below (R:=F) hb1).setCell (p:=⟨F,i,none⟩) rfl _⟩
theorem l3Merge_out (F n:Nat) (i:Nat) (y:Int) (w:World) (hi:n≤i) :
  Calls Tryz.prog 107 #[.slice (some ⟨F,0,none⟩) n n,.int .i64 i,.int .i64 y] w fun e w'=>e=.returned (.bool false)∧w'=w:=by
 have hii:(n:Int)≤(i:Int):=by omega
 go_enter Tryz.func107,Tryz.ntmps107
 go_wp2_with fail
 go_ret
 exact⟨rfl,rfl⟩
def endsB (k:Int):Bool:=k==9||k==14
theorem goesOrEnds_any (x:OpV) (w:World):Calls Tryz.prog 132 #[x.val] w fun e w'=>e=.returned (.bool (endsB x.k))∧Below w.heap.size w w':=by
 by_cases h9:x.k=9
 ·have e:Hid (endsB x.k=true):=by show endsB x.k=true;simp [endsB,h9]
  go_enter Tryz.func132,Tryz.ntmps132
  go_wp2_with fail
  go_ret
  exact⟨by rw [e.out];rfl,(Below.refl _ _).alloc (Nat.le_refl _) _⟩
 ·have e9:(x.k==9)=false:=by simp [h9]
  go_enter Tryz.func132,Tryz.ntmps132
  go_wp2_with fail
  go_ret
  exact⟨by simp [endsB,h9],(Below.refl _ _).alloc (Nat.le_refl _) _⟩
theorem slotBit_any (r:Int) (w:World) (h0:0≤r) (h3:r≤3):Calls Tryz.prog 168 #[.int .i64 r] w fun e w'=>e=.returned (.int .i64 (bitOf r))∧w'=w:=by
 have h:r=0∨r=1∨r=2∨r=3:=by omega
 rcases h with rfl|rfl|rfl|rfl <;>
 ·go_enter Tryz.func168,Tryz.ntmps168
  go_wp2_with fail
  go_ret
  exact⟨rfl,rfl⟩
def fillV (x:OpV):Int:=if fillsB x.k=true then bitOf x.r else 0
theorem fills_any (x:OpV) (w:World) (h1:1≤x.k) (h2:x.k≤14) (h0:0≤x.r) (h3:x.r≤3):Calls Tryz.prog 166 #[x.val] w fun e w'=>e=.returned (.int .i64 (fillV x))∧Below w.heap.size w w':=by
 obtain⟨k,r,s,t,a,b⟩:=x;dsimp only at h0 h1 h2 h3;rcases kinds14 h1 h2 with rfl|rfl|rfl|rfl|rfl|rfl|rfl|rfl|rfl|rfl|rfl|rfl|rfl|rfl
 all_goals
  go_enter Tryz.func166,Tryz.ntmps166
  go_wp2_with (go_at_call 168;refine(slotBit_any _ _ h0 h3).mono ?_;rintro e w1 ⟨rfl,rfl⟩)
  go_ret
  exact⟨rfl,(Below.refl _ _).alloc (Nat.le_refl _) _⟩
theorem or_i64 {x y:Int} (hx:Bd x) (h0:0≤x) (hy:0≤y) (hy2:y≤15):bits .or .i64 x y=orB x y:=by
 have key:∀i j:Fin 17,0≤(i.val:Int)-1→0≤(j.val:Int)-1→bits .or .i64 ((i.val:Int)-1) ((j.val:Int)-1)=orB ((i.val:Int)-1) ((j.val:Int)-1):=by decide +kernel
 obtain⟨i,rfl⟩:=bd_fin hx;obtain⟨j,rfl⟩:=bd_fin (x:=y) ⟨by omega,hy2⟩;exact key i j h0 hy
theorem and_i64 {x y:Int} (hx:Bd x) (hy:0≤y) (hy2:y≤15):bits .and .i64 x y=meet x y:=by
 have key:∀i j:Fin 17,0≤(j.val:Int)-1→bits .and .i64 ((i.val:Int)-1) ((j.val:Int)-1)=meet ((i.val:Int)-1) ((j.val:Int)-1):=by decide +kernel
 obtain⟨i,rfl⟩:=bd_fin hx;obtain⟨j,rfl⟩:=bd_fin (x:=y) ⟨by omega,hy2⟩;exact key i j hy
theorem on_or (o:OpV) {x:Int} (hx:Bd x) (h0:0≤x):bits .or .i64 x (fillV o)=onB o x:=by
 have hb:=bit_bd o.r;have e:orB x 0=x:=by
  have key:∀i:Fin 17,0≤(i.val:Int)-1→orB ((i.val:Int)-1) 0=(i.val:Int)-1:=by decide +kernel
  obtain⟨i,rfl⟩:=bd_fin hx;exact key i h0
 unfold fillV onB
 split
 ·exact or_i64 hx h0 hb.1 hb.2
 ·rw [or_i64 hx h0 (by decide) (by decide),e]
def wayCells (L:List (Nat×Int)):List Value:=L.flatMap fun p=>[.int .i64 (p.1:Int),.int .i64 p.2]
def OwnWays (w:World) (L:List (Nat×Int)) (e:Ending) (w':World):Prop :=
 ∃v,e=.returned v∧w'.ownsRow w.heap.size 145 2 v L.length (wayCells L)∧Below w.heap.size w w'
theorem info_way:∃i,Tryz.prog.info? 145=some i∧i.zero=some (.agg #[.int .i64 0,.int .i64 0])∧i.size=2∧i.bytes=16 :=
 ⟨(Tryz.prog.info? 145).get (by kernel_rfl),(Option.some_get _).symm,by kernel_rfl,by kernel_rfl,by kernel_rfl⟩
theorem own_monoW {B B':Nat} {e:TypeId} {sz:Nat} {v:Value} {n:Nat} {xs:List Value} {w:World} (h:w.ownsRow B e sz v n xs) (hb:B'≤B):w.ownsRow B' e sz v n xs :=
 ⟨h.1,h.2.imp id fun⟨g,cap,cur,h1,h2,h3⟩=>⟨g,cap,cur,h1,Nat.le_trans hb h2,h3⟩⟩
theorem ways_any (C:List OpV) (ao:Option Addr) (cap i:Nat) (full:Int) (w:World) (hC:codeB C=true) (h:CodeAt w ao C) (hi:i<C.length) (hf:Bd full) (hf0:0≤full) :
  Calls Tryz.prog 130 #[.slice ao C.length cap,.int .i64 i,.int .i64 full] w fun e w'=>OwnWays w (waysL C[i] i C.length full) e w':=by
 obtain⟨hw,hl,hok⟩:=codeB_well hC;rcases h with rfl|⟨b,o,rfl,hlt,hs⟩
 ·exact absurd hi (by simp)
 have oi:=opIs_of (hok i hi);have ht:=hw.2 i hi;have s:=hs i hi;obtain⟨x,hx0⟩:∃x,x=C[i]:=⟨_,rfl⟩;rw [←hx0] at s oi ht ⊢;clear hx0 hs;obtain⟨c0,c1,c2,c3,c4,c5⟩:=s;obtain⟨inf,i1,i2,i3,i4⟩:=info_way
 go_enter Tryz.func130,Tryz.ntmps130
 go_wp2_with fail
 refine(goesOrEnds_any x _).mono ?_;rintro e w1 ⟨rfl,hb1⟩;obtain⟨hc1,_⟩:=bcell hb1;have d0:w1.cell? ⟨w.heap.size,0,none⟩=some (.int .i64 x.k):=by rw [hc1 _ _ (by simp)];simp [go_sem]
 have d1:w1.cell? ⟨w.heap.size,1,none⟩=some (.int .i64 x.r):=by rw [hc1 _ _ (by simp)];simp [go_sem]
 have d2:w1.cell? ⟨w.heap.size,2,none⟩=some (.int .i64 x.s):=by rw [hc1 _ _ (by simp)];simp [go_sem]
 have d3:w1.cell? ⟨w.heap.size,3,none⟩=some (.int .i64 x.t):=by rw [hc1 _ _ (by simp)];simp [go_sem]
 have d4:w1.cell? ⟨w.heap.size,4,none⟩=some (.int .i64 x.a):=by rw [hc1 _ _ (by simp)];simp [go_sem]
 have d5:w1.cell? ⟨w.heap.size,5,none⟩=some (.int .i64 x.b):=by rw [hc1 _ _ (by simp)];simp [go_sem]
 have hz1:=hb1.size;simp at hz1;have hB1:Below w.heap.size w w1:=((Below.refl _ _).alloc (Nat.le_refl _) _).trans (hb1.mono (by simp));clear hc1 hb1 c0 c1 c2 c3 c4 c5
 cases he:endsB x.k with
 |true =>
  by_cases h9:x.k=9
  ·have e8:(x.k==8)=false:=by simp [h9]
   have e9:(x.k==9)=true:=by simp [h9]
   have hL:Hid (waysL x i C.length full=[(x.t.toNat,full)]):=by show waysL x i C.length full=[(x.t.toNat,full)];simp [waysL,nextW,toW,h9]
   go_wp2_with (refine wpList_append_own _ rfl (.tmp 39) (.tmp 44) 146 rfl w1.heap.size 145 inf (.agg #[.int .i64 0,.int .i64 0]) 2 16 Tryz.underlying146 i1 i2 i3 i4 rfl (by decide) (.slice none 0 0) 0 [] rfl ⟨rfl,.inl ⟨rfl,rfl⟩⟩ ⟨w1.heap.size,0,none⟩ 1 1 [.int .i64 x.t,.int .i64 full] rfl rfl (by intro q u hq;match q,hq with|0,hq=>simp at hq;subst hq;simp [Addr.add,go_sem]|1,hq=>simp at hq;subst hq;simp [Addr.add,go_sem]|q+2,hq=>simp at hq) (by simp [Value.oneCell']) (by decide) (by decide) (by simp<;>omega) ?_;intro y w9 ho hg _)
   have hB9:Below w.heap.size w w9:=(hB1.alloc (by omega) _).grown hg (by simp<;>omega) (by intro k hk;cases hk);replace ho:w9.ownsRow w1.heap.size 145 2 y 1 (wayCells [(x.t.toNat,full)]):=by simpa [wayCells,Int.toNat_of_nonneg ht.1] using ho
   go_wp2_with fail
   go_ret
   exact⟨_,rfl,by rw [hL.out];exact own_monoW ho (by omega),hB9⟩
  have e14:x.k=14:=by simp [endsB,h9] at he;exact he
  have e8:(x.k==8)=false:=by simp [e14]
  have e9:(x.k==9)=false:=by simp [e14]
  have e10:(x.k==10)=false:=by simp [e14]
  have e5:(x.k==5)=false:=by simp [e14]
  have hk:Hid (x.k=14):=e14;clear e14;have hL:Hid (waysL x i C.length full=[]):=by show waysL x i C.length full=[];simp [waysL,nextW,toW,hk.out]
  go_wp2_with fail
  go_ret
  exact⟨_,rfl,by rw [hL.out];exact⟨rfl,.inl ⟨rfl,rfl⟩⟩,hB1⟩
 |false =>
  by_cases hn:i+1<C.length
  ·go_wp2_with fail
   refine(fills_any x _ oi.k1 oi.k2 oi.r1 oi.r2).mono ?_;rintro e w2 ⟨rfl,hb2⟩;obtain⟨hc2,_⟩:=bcell hb2;replace d0:w2.cell? ⟨w.heap.size,0,none⟩=some (.int .i64 x.k):=by rw [hc2 _ _ (by omega)];exact d0
   replace d3:w2.cell? ⟨w.heap.size,3,none⟩=some (.int .i64 x.t):=by rw [hc2 _ _ (by omega)];exact d3
   have hz2:=hb2.size;have hB2:Below w.heap.size w w2:=hB1.trans (hb2.mono (by omega));clear hc2 hb2 d1 d2 d4 d5;have hon:=on_or x hf hf0;by_cases h8:x.k=8
   ·have e8:(x.k==8)=true:=by simp [h8]
    have hk:Hid (x.k=8):=h8;clear h8;have hL:Hid (waysL x i C.length full=[(i+1,onB x full),(x.t.toNat,full)]):=by show waysL x i C.length full=[(i+1,onB x full),(x.t.toNat,full)];simp [waysL,nextW,toW,hk.out,hn]
    go_wp2_with (first|(refine wpList_append_own _ rfl (.tmp 23) (.tmp 31) 146 rfl w1.heap.size 145 inf (.agg #[.int .i64 0,.int .i64 0]) 2 16 Tryz.underlying146 i1 i2 i3 i4 rfl (by decide) (.slice none 0 0) 0 [] rfl ⟨rfl,.inl ⟨rfl,rfl⟩⟩ ⟨w2.heap.size,0,none⟩ 1 1 [.int .i64 ((i:Int)+1),.int .i64 (onB x full)] rfl rfl (by intro q u hq;match q,hq with|0,hq=>simp at hq;subst hq;simp [Addr.add,go_sem]|1,hq=>simp at hq;subst hq;simp [Addr.add,go_sem]|q+2,hq=>simp at hq) (by simp [Value.oneCell']) (by decide) (by decide) (by simp<;>omega) ?_;intro z w3 ho1 hg1 _;have D0:w3.cell? ⟨w.heap.size,0,none⟩=some (.int .i64 x.k):=hg1.cell (by rw [World.cell?_alloc_past _ _ _ (by omega)];exact d0) (by intro h;cases h);have D3:w3.cell? ⟨w.heap.size,3,none⟩=some (.int .i64 x.t):=hg1.cell (by rw [World.cell?_alloc_past _ _ _ (by omega)];exact d3) (by intro h;cases h);have hz3:=hg1.size;simp only [World.size_alloc] at hz3;have hB3:Below w.heap.size w w3:=(hB2.alloc (by omega) _).grown hg1 (by simp<;>omega) (by intro k hk;cases hk);replace ho1:w3.ownsRow w1.heap.size 145 2 z 1 (wayCells [(i+1,onB x full)]):=by simpa [wayCells] using ho1)|(refine wpList_append_own _ rfl (.tmp 39) (.tmp 44) 146 rfl w1.heap.size 145 inf (.agg #[.int .i64 0,.int .i64 0]) 2 16 Tryz.underlying146 i1 i2 i3 i4 rfl (by decide) z 1 (wayCells [(i+1,onB x full)]) rfl (ho1.alloc _) ⟨w3.heap.size,0,none⟩ 1 1 [.int .i64 x.t,.int .i64 full] rfl rfl (by intro q u hq;match q,hq with|0,hq=>simp at hq;subst hq;simp [Addr.add,go_sem]|1,hq=>simp at hq;subst hq;simp [Addr.add,go_sem]|q+2,hq=>simp at hq) (by simp [Value.oneCell']) (by decide) (by decide) (by simp<;>omega) ?_;intro y w9 ho hg _))
    have hB9:Below w.heap.size w w9:=(hB3.alloc (by omega) _).grown hg (by simp<;>omega) (by intro k hk;have:=(ho1.lt k hk).1;omega);replace ho:w9.ownsRow w1.heap.size 145 2 y 2 (wayCells [(i+1,onB x full),(x.t.toNat,full)]):=by simpa [wayCells,Int.toNat_of_nonneg ht.1] using ho
    go_wp2_with fail
    go_ret
    exact⟨_,rfl,by rw [hL.out];exact own_monoW ho (by omega),hB9⟩
   by_cases h10:x.k=10
   ·have e8:(x.k==8)=false:=by simp [h8]
    have e9:(x.k==9)=false:=by simp [h10]
    have e10:(x.k==10)=true:=by simp [h10]
    have hk:Hid (x.k=10):=h10;clear h10;have hL:Hid (waysL x i C.length full=[(i+1,onB x full),(x.t.toNat,full)]):=by show waysL x i C.length full=[(i+1,onB x full),(x.t.toNat,full)];simp [waysL,nextW,toW,hk.out,hn]
    go_wp2_with (first|(refine wpList_append_own _ rfl (.tmp 23) (.tmp 31) 146 rfl w1.heap.size 145 inf (.agg #[.int .i64 0,.int .i64 0]) 2 16 Tryz.underlying146 i1 i2 i3 i4 rfl (by decide) (.slice none 0 0) 0 [] rfl ⟨rfl,.inl ⟨rfl,rfl⟩⟩ ⟨w2.heap.size,0,none⟩ 1 1 [.int .i64 ((i:Int)+1),.int .i64 (onB x full)] rfl rfl (by intro q u hq;match q,hq with|0,hq=>simp at hq;subst hq;simp [Addr.add,go_sem]|1,hq=>simp at hq;subst hq;simp [Addr.add,go_sem]|q+2,hq=>simp at hq) (by simp [Value.oneCell']) (by decide) (by decide) (by simp<;>omega) ?_;intro z w3 ho1 hg1 _;have D0:w3.cell? ⟨w.heap.size,0,none⟩=some (.int .i64 x.k):=hg1.cell (by rw [World.cell?_alloc_past _ _ _ (by omega)];exact d0) (by intro h;cases h);have D3:w3.cell? ⟨w.heap.size,3,none⟩=some (.int .i64 x.t):=hg1.cell (by rw [World.cell?_alloc_past _ _ _ (by omega)];exact d3) (by intro h;cases h);have hz3:=hg1.size;simp only [World.size_alloc] at hz3;have hB3:Below w.heap.size w w3:=(hB2.alloc (by omega) _).grown hg1 (by simp<;>omega) (by intro k hk;cases hk);replace ho1:w3.ownsRow w1.heap.size 145 2 z 1 (wayCells [(i+1,onB x full)]):=by simpa [wayCells] using ho1)|(refine wpList_append_own _ rfl (.tmp 39) (.tmp 44) 146 rfl w1.heap.size 145 inf (.agg #[.int .i64 0,.int .i64 0]) 2 16 Tryz.underlying146 i1 i2 i3 i4 rfl (by decide) z 1 (wayCells [(i+1,onB x full)]) rfl (ho1.alloc _) ⟨w3.heap.size,0,none⟩ 1 1 [.int .i64 x.t,.int .i64 full] rfl rfl (by intro q u hq;match q,hq with|0,hq=>simp at hq;subst hq;simp [Addr.add,go_sem]|1,hq=>simp at hq;subst hq;simp [Addr.add,go_sem]|q+2,hq=>simp at hq) (by simp [Value.oneCell']) (by decide) (by decide) (by simp<;>omega) ?_;intro y w9 ho hg _))
    have hB9:Below w.heap.size w w9:=(hB3.alloc (by omega) _).grown hg (by simp<;>omega) (by intro k hk;have:=(ho1.lt k hk).1;omega);replace ho:w9.ownsRow w1.heap.size 145 2 y 2 (wayCells [(i+1,onB x full),(x.t.toNat,full)]):=by simpa [wayCells,Int.toNat_of_nonneg ht.1] using ho
    go_wp2_with fail
    go_ret
    exact⟨_,rfl,by rw [hL.out];exact own_monoW ho (by omega),hB9⟩
   by_cases h5:x.k=5
   ·have e8:(x.k==8)=false:=by simp [h8]
    have e9:(x.k==9)=false:=by simp [h5]
    have e10:(x.k==10)=false:=by simp [h10]
    have e5:(x.k==5)=true:=by simp [h5]
    have hk:Hid (x.k=5):=h5;clear h5;have hL:Hid (waysL x i C.length full=[(i+1,onB x full),(x.t.toNat,1)]):=by show waysL x i C.length full=[(i+1,onB x full),(x.t.toNat,1)];simp [waysL,nextW,toW,hk.out,hn]
    go_wp2_with (first|(refine wpList_append_own _ rfl (.tmp 23) (.tmp 31) 146 rfl w1.heap.size 145 inf (.agg #[.int .i64 0,.int .i64 0]) 2 16 Tryz.underlying146 i1 i2 i3 i4 rfl (by decide) (.slice none 0 0) 0 [] rfl ⟨rfl,.inl ⟨rfl,rfl⟩⟩ ⟨w2.heap.size,0,none⟩ 1 1 [.int .i64 ((i:Int)+1),.int .i64 (onB x full)] rfl rfl (by intro q u hq;match q,hq with|0,hq=>simp at hq;subst hq;simp [Addr.add,go_sem]|1,hq=>simp at hq;subst hq;simp [Addr.add,go_sem]|q+2,hq=>simp at hq) (by simp [Value.oneCell']) (by decide) (by decide) (by simp<;>omega) ?_;intro z w3 ho1 hg1 _;have D0:w3.cell? ⟨w.heap.size,0,none⟩=some (.int .i64 x.k):=hg1.cell (by rw [World.cell?_alloc_past _ _ _ (by omega)];exact d0) (by intro h;cases h);have D3:w3.cell? ⟨w.heap.size,3,none⟩=some (.int .i64 x.t):=hg1.cell (by rw [World.cell?_alloc_past _ _ _ (by omega)];exact d3) (by intro h;cases h);have hz3:=hg1.size;simp only [World.size_alloc] at hz3;have hB3:Below w.heap.size w w3:=(hB2.alloc (by omega) _).grown hg1 (by simp<;>omega) (by intro k hk;cases hk);replace ho1:w3.ownsRow w1.heap.size 145 2 z 1 (wayCells [(i+1,onB x full)]):=by simpa [wayCells] using ho1)|(refine wpList_append_own _ rfl (.tmp 48) (.tmp 52) 146 rfl w1.heap.size 145 inf (.agg #[.int .i64 0,.int .i64 0]) 2 16 Tryz.underlying146 i1 i2 i3 i4 rfl (by decide) z 1 (wayCells [(i+1,onB x full)]) rfl (ho1.alloc _) ⟨w3.heap.size,0,none⟩ 1 1 [.int .i64 x.t,.int .i64 1] rfl rfl (by intro q u hq;match q,hq with|0,hq=>simp at hq;subst hq;simp [Addr.add,go_sem]|1,hq=>simp at hq;subst hq;simp [Addr.add,go_sem]|q+2,hq=>simp at hq) (by simp [Value.oneCell']) (by decide) (by decide) (by simp<;>omega) ?_;intro y w9 ho hg _))
    have hB9:Below w.heap.size w w9:=(hB3.alloc (by omega) _).grown hg (by simp<;>omega) (by intro k hk;have:=(ho1.lt k hk).1;omega);replace ho:w9.ownsRow w1.heap.size 145 2 y 2 (wayCells [(i+1,onB x full),(x.t.toNat,1)]):=by simpa [wayCells,Int.toNat_of_nonneg ht.1] using ho
    go_wp2_with fail
    go_ret
    exact⟨_,rfl,by rw [hL.out];exact own_monoW ho (by omega),hB9⟩
   have h9:x.k≠9:=by intro h;simp [endsB,h] at he
   have h14:x.k≠14:=by intro h;simp [endsB,h] at he
   have e8:(x.k==8)=false:=by simp [h8]
   have e9:(x.k==9)=false:=by simp [h9]
   have e10:(x.k==10)=false:=by simp [h10]
   have e5:(x.k==5)=false:=by simp [h5]
   have hL:Hid (waysL x i C.length full=[(i+1,onB x full)]):=by show waysL x i C.length full=[(i+1,onB x full)];simp [waysL,nextW,toW,h8,h9,h10,h5,h14,hn]
   go_wp2_with (refine wpList_append_own _ rfl (.tmp 23) (.tmp 31) 146 rfl w1.heap.size 145 inf (.agg #[.int .i64 0,.int .i64 0]) 2 16 Tryz.underlying146 i1 i2 i3 i4 rfl (by decide) (.slice none 0 0) 0 [] rfl ⟨rfl,.inl ⟨rfl,rfl⟩⟩ ⟨w2.heap.size,0,none⟩ 1 1 [.int .i64 ((i:Int)+1),.int .i64 (onB x full)] rfl rfl (by intro q u hq;match q,hq with|0,hq=>simp at hq;subst hq;simp [Addr.add,go_sem]|1,hq=>simp at hq;subst hq;simp [Addr.add,go_sem]|q+2,hq=>simp at hq) (by simp [Value.oneCell']) (by decide) (by decide) (by simp<;>omega) ?_;intro z w3 ho1 hg1 _;have D0:w3.cell? ⟨w.heap.size,0,none⟩=some (.int .i64 x.k):=hg1.cell (by rw [World.cell?_alloc_past _ _ _ (by omega)];exact d0) (by intro h;cases h);have D3:w3.cell? ⟨w.heap.size,3,none⟩=some (.int .i64 x.t):=hg1.cell (by rw [World.cell?_alloc_past _ _ _ (by omega)];exact d3) (by intro h;cases h);have hz3:=hg1.size;simp only [World.size_alloc] at hz3;have hB3:Below w.heap.size w w3:=(hB2.alloc (by omega) _).grown hg1 (by simp<;>omega) (by intro k hk;cases hk);replace ho1:w3.ownsRow w1.heap.size 145 2 z 1 (wayCells [(i+1,onB x full)]):=by simpa [wayCells] using ho1)
   go_ret
   exact⟨_,rfl,by rw [hL.out];exact own_monoW ho1 (by omega),hB3⟩
  ·have hn':¬((i:Int)+1<(C.length:Int)):=by omega
   by_cases h8:x.k=8
   ·have e8:(x.k==8)=true:=by simp [h8]
    have hk:Hid (x.k=8):=h8;clear h8;have hL:Hid (waysL x i C.length full=[(x.t.toNat,full)]):=by show waysL x i C.length full=[(x.t.toNat,full)];simp [waysL,nextW,toW,hk.out,hn]
    go_wp2_with (refine wpList_append_own _ rfl (.tmp 39) (.tmp 44) 146 rfl w1.heap.size 145 inf (.agg #[.int .i64 0,.int .i64 0]) 2 16 Tryz.underlying146 i1 i2 i3 i4 rfl (by decide) (.slice none 0 0) 0 [] rfl ⟨rfl,.inl ⟨rfl,rfl⟩⟩ ⟨w1.heap.size,0,none⟩ 1 1 [.int .i64 x.t,.int .i64 full] rfl rfl (by intro q u hq;match q,hq with|0,hq=>simp at hq;subst hq;simp [Addr.add,go_sem]|1,hq=>simp at hq;subst hq;simp [Addr.add,go_sem]|q+2,hq=>simp at hq) (by simp [Value.oneCell']) (by decide) (by decide) (by simp<;>omega) ?_;intro y w9 ho hg _)
    have hB9:Below w.heap.size w w9:=(hB1.alloc (by omega) _).grown hg (by simp<;>omega) (by intro k hk;cases hk);replace ho:w9.ownsRow w1.heap.size 145 2 y 1 (wayCells [(x.t.toNat,full)]):=by simpa [wayCells,Int.toNat_of_nonneg ht.1] using ho
    go_wp2_with fail
    go_ret
    exact⟨_,rfl,by rw [hL.out];exact own_monoW ho (by omega),hB9⟩
   by_cases h10:x.k=10
   ·have e8:(x.k==8)=false:=by simp [h8]
    have e9:(x.k==9)=false:=by simp [h10]
    have e10:(x.k==10)=true:=by simp [h10]
    have hk:Hid (x.k=10):=h10;clear h10;have hL:Hid (waysL x i C.length full=[(x.t.toNat,full)]):=by show waysL x i C.length full=[(x.t.toNat,full)];simp [waysL,nextW,toW,hk.out,hn]
    go_wp2_with (refine wpList_append_own _ rfl (.tmp 39) (.tmp 44) 146 rfl w1.heap.size 145 inf (.agg #[.int .i64 0,.int .i64 0]) 2 16 Tryz.underlying146 i1 i2 i3 i4 rfl (by decide) (.slice none 0 0) 0 [] rfl ⟨rfl,.inl ⟨rfl,rfl⟩⟩ ⟨w1.heap.size,0,none⟩ 1 1 [.int .i64 x.t,.int .i64 full] rfl rfl (by intro q u hq;match q,hq with|0,hq=>simp at hq;subst hq;simp [Addr.add,go_sem]|1,hq=>simp at hq;subst hq;simp [Addr.add,go_sem]|q+2,hq=>simp at hq) (by simp [Value.oneCell']) (by decide) (by decide) (by simp<;>omega) ?_;intro y w9 ho hg _)
    have hB9:Below w.heap.size w w9:=(hB1.alloc (by omega) _).grown hg (by simp<;>omega) (by intro k hk;cases hk);replace ho:w9.ownsRow w1.heap.size 145 2 y 1 (wayCells [(x.t.toNat,full)]):=by simpa [wayCells,Int.toNat_of_nonneg ht.1] using ho
    go_wp2_with fail
    go_ret
    exact⟨_,rfl,by rw [hL.out];exact own_monoW ho (by omega),hB9⟩
   by_cases h5:x.k=5
   ·have e8:(x.k==8)=false:=by simp [h8]
    have e9:(x.k==9)=false:=by simp [h5]
    have e10:(x.k==10)=false:=by simp [h10]
    have e5:(x.k==5)=true:=by simp [h5]
    have hk:Hid (x.k=5):=h5;clear h5;have hL:Hid (waysL x i C.length full=[(x.t.toNat,1)]):=by show waysL x i C.length full=[(x.t.toNat,1)];simp [waysL,nextW,toW,hk.out,hn]
    go_wp2_with (refine wpList_append_own _ rfl (.tmp 48) (.tmp 52) 146 rfl w1.heap.size 145 inf (.agg #[.int .i64 0,.int .i64 0]) 2 16 Tryz.underlying146 i1 i2 i3 i4 rfl (by decide) (.slice none 0 0) 0 [] rfl ⟨rfl,.inl ⟨rfl,rfl⟩⟩ ⟨w1.heap.size,0,none⟩ 1 1 [.int .i64 x.t,.int .i64 1] rfl rfl (by intro q u hq;match q,hq with|0,hq=>simp at hq;subst hq;simp [Addr.add,go_sem]|1,hq=>simp at hq;subst hq;simp [Addr.add,go_sem]|q+2,hq=>simp at hq) (by simp [Value.oneCell']) (by decide) (by decide) (by simp<;>omega) ?_;intro y w9 ho hg _)
    have hB9:Below w.heap.size w w9:=(hB1.alloc (by omega) _).grown hg (by simp<;>omega) (by intro k hk;cases hk);replace ho:w9.ownsRow w1.heap.size 145 2 y 1 (wayCells [(x.t.toNat,1)]):=by simpa [wayCells,Int.toNat_of_nonneg ht.1] using ho
    go_wp2_with fail
    go_ret
    exact⟨_,rfl,by rw [hL.out];exact own_monoW ho (by omega),hB9⟩
   have h9:x.k≠9:=by intro h;simp [endsB,h] at he
   have h14:x.k≠14:=by intro h;simp [endsB,h] at he
   have e8:(x.k==8)=false:=by simp [h8]
   have e9:(x.k==9)=false:=by simp [h9]
   have e10:(x.k==10)=false:=by simp [h10]
   have e5:(x.k==5)=false:=by simp [h5]
   have hL:Hid (waysL x i C.length full=[]):=by show waysL x i C.length full=[];simp [waysL,nextW,toW,h8,h9,h10,h5,hn]
   go_wp2_with fail
   go_ret
   exact⟨_,rfl,by rw [hL.out];exact⟨rfl,.inl ⟨rfl,rfl⟩⟩,hB1⟩
def safeP (C:List OpV) (V:List Int) (i:Nat):Prop :=
 ∀(h:i<C.length),0≤atV V i→(∀u∈usesL C[i].k C[i].r C[i].s,hasB (atV V i) u=true)∧(endsB C[i].k=true∨i+1<C.length)
def SafeOf (C:List OpV) (b:Bool):Prop:=(codeB C=true∧∃V,IsFull C V∧(b=true↔∀i,i<C.length→safeP C V i))∨(codeB C=false∧b=false)
theorem safeOf_one {C:List OpV} {a b:Bool} (h:SafeOf C a) (k:SafeOf C b):a=b:=by
 rcases h with⟨h,V,f,e⟩|⟨h,rfl⟩
 ·rcases k with⟨_,U,g,d⟩|⟨k,_⟩
  ·have:=full_one f g;subst this;rw [Bool.eq_iff_iff,e,d]
  ·rw [h] at k;cases k
 ·rcases k with⟨k,_⟩|⟨_,rfl⟩
  ·rw [h] at k;cases k
  ·rfl
theorem safe_yes {C:List OpV} (hC:codeB C=true) {V:List Int} (h:IsFull C V) (k:∀i,i<C.length→safeP C V i):SafeOf C true:=.inl ⟨hC,V,h,by simp;exact k⟩
theorem safe_no {C:List OpV} (hC:codeB C=true) {V:List Int} (h:IsFull C V) {i:Nat} (hi:i<C.length) (k:¬safeP C V i):SafeOf C false:=.inl ⟨hC,V,h,by simp;exact⟨i,hi,k⟩⟩
def foldO (l:List Int):Int:=l.foldl (fun b u=>orB b (bitOf u)) 0
theorem int_fin4 {u:Int} (h:0≤u∧u≤3):∃i:Fin 4,u=(i.val:Int):=⟨⟨u.toNat,by omega⟩,by simp;omega⟩
theorem andNot_uses {x:Int} (hx:Bd x) (h0:0≤x):∀l:List Int,l.length≤2→(∀u∈l,0≤u∧u≤3)→(bits .andNot .i64 (foldO l) x==0)=l.all (hasB x)
 |[],_,_=>by
  have key:∀i:Fin 17,0≤(i.val:Int)-1→(bits .andNot .i64 (foldO []) ((i.val:Int)-1)==0)=true:=by decide +kernel
  obtain⟨i,rfl⟩:=bd_fin hx;exact key i h0
 |[u],_,h=>by
  have key:∀i:Fin 17,∀j:Fin 4,0≤(i.val:Int)-1→(bits .andNot .i64 (foldO [(j.val:Int)]) ((i.val:Int)-1)==0)=[(j.val:Int)].all (hasB ((i.val:Int)-1)):=by decide +kernel
  obtain⟨i,rfl⟩:=bd_fin hx;obtain⟨j,rfl⟩:=int_fin4 (h u (by simp));exact key i j h0
 |[u,v],_,h=>by
  have key:∀i:Fin 17,∀j k:Fin 4,0≤(i.val:Int)-1→(bits .andNot .i64 (foldO [(j.val:Int),(k.val:Int)]) ((i.val:Int)-1)==0)=[(j.val:Int),(k.val:Int)].all (hasB ((i.val:Int)-1)):=by decide +kernel
  obtain⟨i,rfl⟩:=bd_fin hx;obtain⟨j,rfl⟩:=int_fin4 (h u (by simp));obtain⟨k,rfl⟩:=int_fin4 (h v (by simp));exact key i j k h0
 |_::_::_::_,hl,_=>by simp at hl
theorem foldO_take (l:List Int) (k:Nat) (h:k<l.length):foldO (l.take (k+1))=orB (foldO (l.take k)) (bitOf l[k]):=by
 unfold foldO;rw [List.take_add_one,List.getElem?_eq_getElem h,List.foldl_append];rfl
theorem foldO_bd:∀l:List Int,0≤foldO l∧foldO l≤15:=by
 have key:∀(l:List Int) (b:Int),0≤b∧b≤15→0≤l.foldl (fun b u=>orB b (bitOf u)) b∧l.foldl (fun b u=>orB b (bitOf u)) b≤15:=by
  intro l
  induction l with
  |nil=>intro b h;exact h
  |cons u l ih =>
   intro b h;have hb:=bit_bd u;exact ih _ (or_bd ⟨by omega,h.2⟩ h.1 hb.1 hb.2)
 exact fun l=>key l 0 ⟨by decide,by decide⟩
theorem uses_bd {k r s:Int} (hr:0≤r∧r≤3) (hs:0≤s∧s≤3):∀u∈usesL k r s,0≤u∧u≤3:=by
 intro u hu;unfold usesL at hu
 repeat' split at hu
 all_goals simp at hu
 all_goals first|(rcases hu with rfl|rfl<;>assumption)|(subst hu;assumption)
theorem uses_len (k r s:Int):(usesL k r s).length≤2:=by
 unfold usesL
 split
 ·simp
 ·split
  ·simp
  ·split<;>simp
def foldV (V:List Int):List (Nat×Int)→List Int
 |[]=>V
 |p::ps=>foldV (mergeV V p) ps
def foldB (V:List Int):List (Nat×Int)→Bool
 |[]=>false
 |p::ps=>foldB (mergeV V p) ps||mergeB V p
theorem rnd_fold {C:List OpV} {u:List Int}:∀(ps:List (Nat×Int)) {v:List Int} {m:Bool},Rnd C u v m→(∀p∈ps,Sound C p) →
  Rnd C u (foldV v ps) (foldB v ps||m)∧(foldB v ps=false→foldV v ps=v∧∀p∈ps,Le (atV v p.1) p.2)
 |[],v,m,h,_=>⟨by simpa [foldV,foldB] using h,fun _=>⟨rfl,fun p hp=>by cases hp⟩⟩
 |p::ps,v,m,h,hs=>by
  obtain⟨h1,h2⟩:=rnd_merge h (hs p (by simp));obtain⟨k1,k2⟩:=rnd_fold ps h1 (fun q hq=>hs q (by simp [hq]));refine⟨?_,fun e=>?_⟩
  ·simp only [foldV,foldB,Bool.or_assoc];exact k1
  ·simp only [foldB,Bool.or_eq_false_iff] at e;obtain⟨a1,a2⟩:=k2 e.1;obtain⟨b1,b2⟩:=h2 e.2;refine⟨by simp only [foldV];rw [a1,b1],fun q hq=>?_⟩;rcases List.mem_cons.1 hq with rfl|hq
   ·exact b2
   ·have:=a2 q hq;rwa [b1] at this
theorem merge_vec {C:List OpV} {v:List Int} (hv:Vec C v) {p:Nat×Int} (h1:p.1<C.length) (h2:0≤p.2∧p.2≤15):Vec C (mergeV v p):=by
 unfold mergeV;split
 ·exact hv
 ·have hb:=meet_bd (hv.2 p.1) h2.1 h2.2;exact hv.set h1 ⟨by omega,hb.2⟩
def fromW (o:OpV) (i n:Nat) (x:Int):List (Nat×Int):=toW o x++nextW o i n x
theorem fromW_mem (o:OpV) (i n:Nat) (x:Int) (p:Nat×Int):p∈fromW o i n x↔p∈waysL o i n x:=by unfold fromW waysL;simp [or_comm]
theorem l3From_any (C:List OpV) (ao:Option Addr) (cap F:Nat) (V:List Int) (i:Nat) (w:World) (hC:codeB C=true) (h:CodeAt w ao C) (hF:Bits w F V) (hV:Vec C V) (hi:i<C.length) (h0:0≤atV V i) :
  Calls Tryz.prog 74 #[.slice ao C.length cap,.slice (some ⟨F,0,none⟩) C.length C.length,.int .i64 i] w fun e w' =>
   e=.returned (.bool (foldB V (fromW C[i] i C.length (atV V i))))∧Bits w' F (foldV V (fromW C[i] i C.length (atV V i)))∧But F w w':=by
 obtain⟨hw,hl,hok⟩:=codeB_well hC;rcases h with rfl|⟨b,o,rfl,hlt,hs⟩
 ·exact absurd hi (by simp)
 have hVl:V.length=C.length:=hV.1;have oi:=opIs_of (hok i hi);have ht:=hw.2 i hi;have s:=hs i hi;obtain⟨x,hx0⟩:∃x,x=C[i]:=⟨_,rfl⟩;rw [←hx0] at s oi ht ⊢;clear hx0 hs;obtain⟨c0,c1,c2,c3,c4,c5⟩:=s;have hk1:=oi.k1;have hk2:=oi.k2;have cF:=hF.cell (i:=i) (by omega);have hFlt:=hF.lt;have hbd:=hV.2 i;have hbd1:=hbd.1;have hbd2:=hbd.2;obtain⟨t,htt⟩:=Int.eq_ofNat_of_zero_le ht.1;have htl:t<C.length:=by omega
 have htn:Hid (x.t.toNat=t):=by show x.t.toNat=t;rw [htt];simp
 rw [htt] at c3;have hii:(i:Int)<(C.length:Int):=by omega
 have hon:Hid (0≤onB x (atV V i)∧onB x (atV V i)≤15):=on_bd x hbd h0;have hOn:Hid (onB x (atV V i)=if fillsB x.k=true then orB (atV V i) (bitOf x.r) else atV V i):=rfl;have hW:Hid (fromW x i C.length (atV V i)=toW x (atV V i)++nextW x i C.length (atV V i)):=rfl;have hTo:∀y,Hid (toW x y=if x.k=8∨x.k=9∨x.k=10 then [(t,y)] else if x.k=5 then [(t,1)] else []):=by
  intro y;show toW x y=_;unfold toW;rw [htn.out]
 have hNx:∀y,Hid (nextW x i C.length y=if (!(x.k==9||x.k==14)&&decide (i+1<C.length))=true then [(i+1,onB x y)] else []):=fun y=>rfl
 generalize hbe:atV V i=bits at *;have hbe':Hid (atV V i=bits):=hbe;clear htt hw hok hC hbe
 go_enter Tryz.func74,Tryz.ntmps74
 go_wp2_with fail
 refine(l3Fills_any _ _ hk1 hk2).mono ?_;rintro e wq ⟨rfl,rfl⟩
 cases hfl:fillsB x.k with
 |true =>
  have hO2:Hid (orB bits (bitOf x.r)=onB x bits):=by show orB bits (bitOf x.r)=onB x bits;rw [hOn.out,if_pos hfl]
  go_wp2_with fail
  refine(l3With_any bits x.r _ h0 hbd2 ht.2.2.1 ht.2.2.2).mono ?_;rintro e w1 ⟨rfl,hbw⟩;rw [hO2.out];obtain⟨hc1,_⟩:=bcell hbw;have hz1:=hbw.size;simp at hz1;have d0:w1.cell? ⟨w.heap.size,0,none⟩=some (.int .i64 x.k):=by rw [hc1 _ _ (by simp)];simp [go_sem]
  have d3:w1.cell? ⟨w.heap.size,3,none⟩=some (.int .i64 (t:Int)):=by rw [hc1 _ _ (by simp)];simp [go_sem]
  have hb1:Below w.heap.size w w1:=((Below.refl _ _).alloc (Nat.le_refl _) _).trans (hbw.mono (by simp));have hF1:Bits w1 F V:=hF.keep (hb1.block F hFlt);have bt1:But F w w1:=But.of_below hb1;clear hc1 hbw cF c0 c1 c2 c3 c4 c5 hF;by_cases h5:x.k=5
  ·have hk:x.k=5:=h5;have e5:(x.k==5)=true:=by simp [hk]
   have e9:(x.k==9)=false:=by simp [hk]
   have e8:(x.k==8)=false:=by simp [hk]
   have e10:(x.k==10)=false:=by simp [hk]
   have e14:(x.k==14)=false:=by simp [hk]
   have hkk:Hid (x.k=5):=hk;clear hk h5;have hT2:Hid (toW x bits=[(t,1)]):=by show toW x bits=[(t,1)];rw [(hTo bits).out];simp [hkk.out]
   go_wp2_with fail
   refine(l3Merge_any F C.length V hVl t 1 _ hF1 (by omega) (hV.2 t) (by decide) (by decide)).mono ?_;rintro e wm ⟨rfl,hF2,bt2⟩;have hFl2:=hF2.lt;have hlen2:=merge_len V (t,1);have hV2:=merge_vec hV (p:=(t,1)) htl ⟨by simp,by simp⟩;have bt:But F w wm:=bt1.trans bt2;clear bt2;generalize hmb:mergeB V (t,1)=mb0 at *;by_cases hn:i+1<C.length
   ·have hL:Hid (fromW x i C.length bits=[(t,1)]++[(i+1,(onB x bits))]):=by show fromW x i C.length bits=[(t,1)]++[(i+1,(onB x bits))];rw [hW.out,hT2.out,(hNx bits).out];simp [hkk.out,hn]
    go_wp2_with fail
    have K:=l3Merge_any F C.length (mergeV V (t,1)) (by rw [hlen2,hVl]) (i+1) (onB x bits) _ hF2 (by rw [hlen2];omega) (hV2.2 _) hon.out.1 hon.out.2;refine K.mono ?_;rintro e wn ⟨rfl,hF3,bt3⟩;clear K
    cases hmb2:mergeB (mergeV V (t,1)) (i+1,(onB x bits)) with
    |true =>
     go_wp2_with fail
     go_ret
     exact⟨by rw [hL.out];simp [foldB,hmb2],by rw [hL.out];exact hF3,bt.trans bt3⟩
    |false =>
     go_wp2_with fail
     go_ret
     exact⟨by rw [hL.out];simp [foldB,hmb2,hmb],by rw [hL.out];exact hF3,bt.trans bt3⟩
   ·have hL:Hid (fromW x i C.length bits=[(t,1)]++[]):=by show fromW x i C.length bits=[(t,1)]++[];rw [hW.out,hT2.out,(hNx bits).out];simp [hkk.out,hn]
    go_wp2_with fail
    refine(l3Merge_out F C.length (i+1) (onB x bits) _ (by omega)).mono ?_;rintro e wn ⟨rfl,rfl⟩
    go_wp2_with fail
    go_ret
    exact⟨by rw [hL.out];simp [foldB,hmb],by rw [hL.out];exact hF2,bt⟩
  by_cases h8:x.k=8
  ·have hk:x.k=8:=h8;have e5:(x.k==5)=false:=by simp [hk]
   have e9:(x.k==9)=false:=by simp [hk]
   have e8:(x.k==8)=true:=by simp [hk]
   have e10:(x.k==10)=false:=by simp [hk]
   have e14:(x.k==14)=false:=by simp [hk]
   have hkk:Hid (x.k=8):=hk;clear hk h8;have hT2:Hid (toW x bits=[(t,bits)]):=by show toW x bits=[(t,bits)];rw [(hTo bits).out];simp [hkk.out]
   go_wp2_with fail
   refine(l3Merge_any F C.length V hVl t bits _ hF1 (by omega) (hV.2 t) h0 hbd2).mono ?_;rintro e wm ⟨rfl,hF2,bt2⟩;have hFl2:=hF2.lt;have hlen2:=merge_len V (t,bits);have hV2:=merge_vec hV (p:=(t,bits)) htl ⟨h0,hbd2⟩;have bt:But F w wm:=bt1.trans bt2;clear bt2;generalize hmb:mergeB V (t,bits)=mb0 at *;by_cases hn:i+1<C.length
   ·have hL:Hid (fromW x i C.length bits=[(t,bits)]++[(i+1,(onB x bits))]):=by show fromW x i C.length bits=[(t,bits)]++[(i+1,(onB x bits))];rw [hW.out,hT2.out,(hNx bits).out];simp [hkk.out,hn]
    go_wp2_with fail
    have K:=l3Merge_any F C.length (mergeV V (t,bits)) (by rw [hlen2,hVl]) (i+1) (onB x bits) _ hF2 (by rw [hlen2];omega) (hV2.2 _) hon.out.1 hon.out.2;refine K.mono ?_;rintro e wn ⟨rfl,hF3,bt3⟩;clear K
    cases hmb2:mergeB (mergeV V (t,bits)) (i+1,(onB x bits)) with
    |true =>
     go_wp2_with fail
     go_ret
     exact⟨by rw [hL.out];simp [foldB,hmb2],by rw [hL.out];exact hF3,bt.trans bt3⟩
    |false =>
     go_wp2_with fail
     go_ret
     exact⟨by rw [hL.out];simp [foldB,hmb2,hmb],by rw [hL.out];exact hF3,bt.trans bt3⟩
   ·have hL:Hid (fromW x i C.length bits=[(t,bits)]++[]):=by show fromW x i C.length bits=[(t,bits)]++[];rw [hW.out,hT2.out,(hNx bits).out];simp [hkk.out,hn]
    go_wp2_with fail
    refine(l3Merge_out F C.length (i+1) (onB x bits) _ (by omega)).mono ?_;rintro e wn ⟨rfl,rfl⟩
    go_wp2_with fail
    go_ret
    exact⟨by rw [hL.out];simp [foldB,hmb],by rw [hL.out];exact hF2,bt⟩
  have h9:x.k≠9:=by intro h;rw [h] at hfl;exact absurd hfl (by decide)
  have h10:x.k≠10:=by intro h;rw [h] at hfl;exact absurd hfl (by decide)
  have h14:x.k≠14:=by intro h;rw [h] at hfl;exact absurd hfl (by decide)
  have e5:(x.k==5)=false:=by simp [h5]
  have e9:(x.k==9)=false:=by simp [h9]
  have e8:(x.k==8)=false:=by simp [h8]
  have e10:(x.k==10)=false:=by simp [h10]
  have e14:(x.k==14)=false:=by simp [h14]
  have hT2:Hid (toW x bits=[]):=by show toW x bits=[];rw [(hTo bits).out];simp [h5,h8,h9,h10]
  by_cases hn:i+1<C.length
  ·have hL:Hid (fromW x i C.length bits=[]++[(i+1,(onB x bits))]):=by show fromW x i C.length bits=[]++[(i+1,(onB x bits))];rw [hW.out,hT2.out,(hNx bits).out];simp [h9,h14,hn]
   go_wp2_with fail
   have K:=l3Merge_any F C.length V (hVl) (i+1) (onB x bits) _ hF1 (by omega) (hV.2 _) hon.out.1 hon.out.2;refine K.mono ?_;rintro e wn ⟨rfl,hF3,bt3⟩;clear K
   cases hmb2:mergeB V (i+1,(onB x bits)) with
   |true =>
    go_wp2_with fail
    go_ret
    exact⟨by rw [hL.out];simp [foldB,hmb2],by rw [hL.out];exact hF3,bt1.trans bt3⟩
   |false =>
    go_wp2_with fail
    go_ret
    exact⟨by rw [hL.out];simp [foldB,hmb2],by rw [hL.out];exact hF3,bt1.trans bt3⟩
  ·have hL:Hid (fromW x i C.length bits=[]++[]):=by show fromW x i C.length bits=[]++[];rw [hW.out,hT2.out,(hNx bits).out];simp [hn]
   go_wp2_with fail
   refine(l3Merge_out F C.length (i+1) (onB x bits) _ (by omega)).mono ?_;rintro e wn ⟨rfl,rfl⟩
   go_wp2_with fail
   go_ret
   exact⟨by rw [hL.out];simp [foldB],by rw [hL.out];exact hF1,bt1⟩
 |false =>
  have hO2:Hid (bits=onB x bits):=by show bits=onB x bits;rw [hOn.out,if_neg (by rw [hfl];decide)]
  have hb1:Below w.heap.size w (w.alloc (.cells #[.int .i64 x.k,.int .i64 x.r,.int .i64 x.s,.int .i64 (t:Int),.int .i64 x.a,.int .i64 x.b] 80)):=(Below.refl _ _).alloc (Nat.le_refl _) _;have hF1:Bits (w.alloc (.cells #[.int .i64 x.k,.int .i64 x.r,.int .i64 x.s,.int .i64 (t:Int),.int .i64 x.a,.int .i64 x.b] 80)) F V:=hF.keep (hb1.block F hFlt);have bt1:But F w (w.alloc (.cells #[.int .i64 x.k,.int .i64 x.r,.int .i64 x.s,.int .i64 (t:Int),.int .i64 x.a,.int .i64 x.b] 80)):=But.of_below hb1;clear cF c0 c1 c2 c3 c4 c5 hF;by_cases h9:x.k=9
  ·have hk:x.k=9:=h9;have e5:(x.k==5)=false:=by simp [hk]
   have e9:(x.k==9)=true:=by simp [hk]
   have e8:(x.k==8)=false:=by simp [hk]
   have e10:(x.k==10)=false:=by simp [hk]
   have e14:(x.k==14)=false:=by simp [hk]
   have hkk:Hid (x.k=9):=hk;clear hk h9;have hT2:Hid (toW x bits=[(t,bits)]):=by show toW x bits=[(t,bits)];rw [(hTo bits).out];simp [hkk.out]
   go_wp2_with fail
   refine(l3Merge_any F C.length V hVl t bits _ hF1 (by omega) (hV.2 t) h0 hbd2).mono ?_;rintro e wm ⟨rfl,hF2,bt2⟩;have hFl2:=hF2.lt;have hlen2:=merge_len V (t,bits);have hV2:=merge_vec hV (p:=(t,bits)) htl ⟨h0,hbd2⟩;have bt:But F w wm:=bt1.trans bt2;clear bt2;have hL:Hid (fromW x i C.length bits=[(t,bits)]++[]):=by show fromW x i C.length bits=[(t,bits)]++[];rw [hW.out,hT2.out,(hNx bits).out];simp [hkk.out]
   go_wp2_with fail
   go_ret
   exact⟨by rw [hL.out];simp [foldB],by rw [hL.out];exact hF2,bt⟩
  by_cases h10:x.k=10
  ·have hk:x.k=10:=h10;have e5:(x.k==5)=false:=by simp [hk]
   have e9:(x.k==9)=false:=by simp [hk]
   have e8:(x.k==8)=false:=by simp [hk]
   have e10:(x.k==10)=true:=by simp [hk]
   have e14:(x.k==14)=false:=by simp [hk]
   have hkk:Hid (x.k=10):=hk;clear hk h10;have hT2:Hid (toW x bits=[(t,bits)]):=by show toW x bits=[(t,bits)];rw [(hTo bits).out];simp [hkk.out]
   go_wp2_with fail
   refine(l3Merge_any F C.length V hVl t bits _ hF1 (by omega) (hV.2 t) h0 hbd2).mono ?_;rintro e wm ⟨rfl,hF2,bt2⟩;have hFl2:=hF2.lt;have hlen2:=merge_len V (t,bits);have hV2:=merge_vec hV (p:=(t,bits)) htl ⟨h0,hbd2⟩;have bt:But F w wm:=bt1.trans bt2;clear bt2;generalize hmb:mergeB V (t,bits)=mb0 at *;by_cases hn:i+1<C.length
   ·have hL:Hid (fromW x i C.length bits=[(t,bits)]++[(i+1,bits)]):=by show fromW x i C.length bits=[(t,bits)]++[(i+1,bits)];rw [hW.out,hT2.out,(hNx bits).out];simp [hkk.out,hn,←hO2.out]
    go_wp2_with fail
    have K:=l3Merge_any F C.length (mergeV V (t,bits)) (by rw [hlen2,hVl]) (i+1) bits _ hF2 (by rw [hlen2];omega) (hV2.2 _) h0 hbd2;refine K.mono ?_;rintro e wn ⟨rfl,hF3,bt3⟩;clear K
    cases hmb2:mergeB (mergeV V (t,bits)) (i+1,bits) with
    |true =>
     go_wp2_with fail
     go_ret
     exact⟨by rw [hL.out];simp [foldB,hmb2],by rw [hL.out];exact hF3,bt.trans bt3⟩
    |false =>
     go_wp2_with fail
     go_ret
     exact⟨by rw [hL.out];simp [foldB,hmb2,hmb],by rw [hL.out];exact hF3,bt.trans bt3⟩
   ·have hL:Hid (fromW x i C.length bits=[(t,bits)]++[]):=by show fromW x i C.length bits=[(t,bits)]++[];rw [hW.out,hT2.out,(hNx bits).out];simp [hkk.out,hn]
    go_wp2_with fail
    refine(l3Merge_out F C.length (i+1) bits _ (by omega)).mono ?_;rintro e wn ⟨rfl,rfl⟩
    go_wp2_with fail
    go_ret
    exact⟨by rw [hL.out];simp [foldB,hmb],by rw [hL.out];exact hF2,bt⟩
  by_cases h14:x.k=14
  ·have hk:x.k=14:=h14;have e5:(x.k==5)=false:=by simp [hk]
   have e9:(x.k==9)=false:=by simp [hk]
   have e8:(x.k==8)=false:=by simp [hk]
   have e10:(x.k==10)=false:=by simp [hk]
   have e14:(x.k==14)=true:=by simp [hk]
   have hkk:Hid (x.k=14):=hk;clear hk h14;have hT2:Hid (toW x bits=[]):=by show toW x bits=[];rw [(hTo bits).out];simp [hkk.out]
   have hL:Hid (fromW x i C.length bits=[]++[]):=by show fromW x i C.length bits=[]++[];rw [hW.out,hT2.out,(hNx bits).out];simp [hkk.out]
   go_wp2_with fail
   go_ret
   exact⟨by rw [hL.out];rfl,by rw [hL.out];exact hF1,bt1⟩
  have h5:x.k≠5:=by intro h;rw [h] at hfl;exact absurd hfl (by decide)
  have h8:x.k≠8:=by intro h;rw [h] at hfl;exact absurd hfl (by decide)
  have e5:(x.k==5)=false:=by simp [h5]
  have e9:(x.k==9)=false:=by simp [h9]
  have e8:(x.k==8)=false:=by simp [h8]
  have e10:(x.k==10)=false:=by simp [h10]
  have e14:(x.k==14)=false:=by simp [h14]
  have hT2:Hid (toW x bits=[]):=by show toW x bits=[];rw [(hTo bits).out];simp [h5,h8,h9,h10]
  by_cases hn:i+1<C.length
  ·have hL:Hid (fromW x i C.length bits=[]++[(i+1,bits)]):=by show fromW x i C.length bits=[]++[(i+1,bits)];rw [hW.out,hT2.out,(hNx bits).out];simp [h9,h14,hn,←hO2.out]
   go_wp2_with fail
   have K:=l3Merge_any F C.length V (hVl) (i+1) bits _ hF1 (by omega) (hV.2 _) h0 hbd2;refine K.mono ?_;rintro e wn ⟨rfl,hF3,bt3⟩;clear K
   cases hmb2:mergeB V (i+1,bits) with
   |true =>
    go_wp2_with fail
    go_ret
    exact⟨by rw [hL.out];simp [foldB,hmb2],by rw [hL.out];exact hF3,bt1.trans bt3⟩
   |false =>
    go_wp2_with fail
    go_ret
    exact⟨by rw [hL.out];simp [foldB,hmb2],by rw [hL.out];exact hF3,bt1.trans bt3⟩
  ·have hL:Hid (fromW x i C.length bits=[]++[]):=by show fromW x i C.length bits=[]++[];rw [hW.out,hT2.out,(hNx bits).out];simp [hn]
   go_wp2_with fail
   refine(l3Merge_out F C.length (i+1) bits _ (by omega)).mono ?_;rintro e wn ⟨rfl,rfl⟩
   go_wp2_with fail
   go_ret
   exact⟨by rw [hL.out];simp [foldB],by rw [hL.out];exact hF1,bt1⟩
theorem goes_any (k:Int) (w:World):Calls Tryz.prog 103 #[.int .i64 k] w fun e w'=>e=.returned (.bool (goesB k))∧w'=w:=by
 by_cases h5:k=5
 ·subst h5;go_enter Tryz.func103,Tryz.ntmps103;go_wp2_with fail;go_ret;exact⟨rfl,rfl⟩
 by_cases h8:k=8
 ·subst h8;go_enter Tryz.func103,Tryz.ntmps103;go_wp2_with fail;go_ret;exact⟨rfl,rfl⟩
 by_cases h9:k=9
 ·subst h9;go_enter Tryz.func103,Tryz.ntmps103;go_wp2_with fail;go_ret;exact⟨rfl,rfl⟩
 have e5:(k==5)=false:=by simp [h5]
 have e8:(k==8)=false:=by simp [h8]
 have e9:(k==9)=false:=by simp [h9]
 go_enter Tryz.func103,Tryz.ntmps103
 go_wp2_with fail
 go_ret
 exact⟨by simp [goesB,h5,h8,h9],rfl⟩
theorem specCodeOk_any (C:List OpV) (ao:Option Addr) (cap:Nat) (w:World) (hl:C.length≤1048576) (h:CodeAt w ao C) :
  Calls Tryz.prog 71 #[.slice ao C.length cap] w fun e w'=>e=.returned (.bool (codeB C))∧Below w.heap.size w w':=by
 rcases h with rfl|⟨b,o,rfl,hlt,hs⟩
 ·go_enter Tryz.func71,Tryz.ntmps71
  go_wp2_with fail
  refine wp_loop_rounds 1 ?_;rw [rounds_succ]
  go_wp2_with fail
  refine(l6In_any _ _ _ _).mono ?_;rintro e w1 ⟨rfl,rfl⟩
  go_wp2_with fail
  go_ret
  exact⟨rfl,Below.refl _ _⟩
 ·go_enter Tryz.func71,Tryz.ntmps71
  go_wp2_with fail
  go_loopw [3] (fun i wr=>∃k:Nat,k≤C.length∧i=.int .i64 k∧Below w.heap.size w wr∧UptoOk C k) (fun i _=>C.length-(intOf i).toNat)
  case atStart=>exact⟨0,Nat.zero_le _,rfl,Below.refl _ _,fun j _ h=>by omega⟩
  case round =>
   obtain⟨k,hk,rfl,hB,hU⟩:=hrel;by_cases hlt':k<C.length
   ·have s:=hs k hlt';obtain⟨c0,c1,c2,c3,c4,c5⟩:=s.below (w':=wr) (by exact hB);obtain⟨x,hx0⟩:∃x,x=C[k]:=⟨_,rfl⟩;rw [←hx0] at c0 c1 c2 c3 c4 c5;have hx:Hid (x=C[k]):=hx0;clear hx0 s;have hbw:b<wr.heap.size:=by have:=hB.size;omega
    go_wp2_with fail
    refine(specOpOk_any _ _ _ _ _ _ _).mono ?_;rintro e w1 ⟨rfl,hb1⟩;obtain⟨hc1,_⟩:=bcell hb1;replace c0:w1.cell? ⟨b,o+k*6,none⟩=some (.int .i64 x.k):=by rw [hc1 _ _ hbw];exact c0
    replace c3:w1.cell? ⟨b,o+k*6+3,none⟩=some (.int .i64 x.t):=by rw [hc1 _ _ hbw];exact c3
    have hB1:Below w.heap.size w w1:=hB.trans (hb1.mono hB.size);clear hc1 hb1 c1 c2 c4 c5
    cases hok:opB x.k x.r x.s x.t x.a x.b with
    |false =>
     go_wp2_with fail
     go_ret
     exact⟨by rw [codeB_no hlt' (.inl (by rw [←hx.out];exact hok))];rfl,hB1⟩
    |true =>
     have oi:=opIs_of hok
     go_wp2_with fail
     refine(goes_any _ _).mono ?_;rintro e w2 ⟨rfl,rfl⟩;have hn:∀t,x.t<(C.length:Int)→t=k+1→UptoOk C t:=by
      rintro t ht rfl j hj hjk;by_cases e:j<k
      ·exact hU j hj e
      ·have:j=k:=by omega
       subst this;rw [←hx.out];exact⟨hok,ht⟩
     cases hg:goesB x.k with
     |false =>
      have ht0:x.t<(C.length:Int):=by
       have:x.t=0:=oi.tN (by
        have h1:=oi.k1;have h2:=oi.k2;rcases kinds14 h1 h2 with e|e|e|e|e|e|e|e|e|e|e|e|e|e<;>rw [e] at hg ⊢<;>first|rfl|(exact absurd hg (by decide)))
       omega
      go_wp2_with fail
      go_roundw
      case rel=>exact⟨k+1,by omega,by go_num,hB1,hn _ ht0 rfl⟩
      case measure=>simp [intOf];omega
     |true =>
      by_cases ht:x.t<(C.length:Int)
      ·go_wp2_with fail
       go_roundw
       case rel=>exact⟨k+1,by omega,by go_num,hB1,hn _ ht rfl⟩
       case measure=>simp [intOf];omega
      ·go_wp2_with fail
       go_ret
       exact⟨by rw [codeB_no hlt' (.inr (by rw [←hx.out];omega))];rfl,hB1⟩
   ·have e:k=C.length:=by omega
    subst e
    go_wp2_with fail
    refine(l6In_any _ _ _ _).mono ?_;rintro e w1 ⟨rfl,rfl⟩
    go_wp2_with fail
    go_ret
    refine⟨?_,hB⟩;rw [codeB_all hU];have e1:decide (1≤(C.length:Int))=decide (1≤C.length):=by congr 1;simp;omega
    have e2:decide ((C.length:Int)≤16)=decide (C.length≤16):=by congr 1;simp;omega
    rw [e1,e2];rfl
end Go.Proofs.YtgmkmeodimmdoaaGreatDoor.Eld
