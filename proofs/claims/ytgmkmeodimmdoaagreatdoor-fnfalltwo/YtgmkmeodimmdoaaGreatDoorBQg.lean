import Derived.Test.YtgmkmeodimmdoaaGreatDoorBQf
set_option maxHeartbeats 8000000
set_option maxRecDepth 100000
namespace Go.Proofs.YtgmkmeodimmdoaaGreatDoor.Eld
open Go.ChangeShapes Go.WideShapes Go.ChangeAt Go.RowKit Go.Joins
def ReadIs (x:List UInt8) (k r s t a b:Int) (ok:Bool):Prop :=
 (ok=true∧opB k r s t a b=true∧x=opTxt k r s t a b) ∨
 (ok=false∧(k=0∧r=0∧s=0∧t=0∧a=0∧b=0)∧∀k r s t a b,opB k r s t a b=true→x≠opTxt k r s t a b)
theorem cutsAt_pcs (x:List UInt8):cutsAt 32 x=pcs x:=by
 rw [←cuts_pcs];have:cutStepAt 32=cutStep:=by funext out c;rfl
 unfold cutsAt cuts;rw [this]
def KUp (x:List UInt8) (n:Nat) (k:Int):Prop:=(0≤k∧k≤14)∧∀j:Nat,1≤j→j<n→x=wordL.getD j []→k=(j:Int)
theorem KUp.zero (x:List UInt8):KUp x 1 0:=⟨by omega,fun j h1 h2=>by omega⟩
theorem KUp.same {x:List UInt8} {n:Nat} {k:Int} (h:KUp x n k) (hx:wordL.getD n []≠x):KUp x (n+1) k :=
 ⟨h.1,fun j h1 h2 e=>by
  by_cases hj:j=n
  ·subst hj;exact absurd e.symm hx
  ·exact h.2 j h1 (by omega) e⟩
theorem KUp.next {x:List UInt8} {n:Nat} (hn:n≤14) (hn1:1≤n) (hx:wordL.getD n []=x):KUp x (n+1) (n:Int) :=
 ⟨by omega,fun j h1 h2 e=>by
  rw [words_inj j (by omega) n (by omega) (by rw [hx,e])]⟩
theorem word_of {x p0:List UInt8} {ps:List (List UInt8)} {k r s t a b:Int} (hp:pcs x=p0::ps) (h:opB k r s t a b=true) (e:x=opTxt k r s t a b):p0=word k:=by
 rw [e,pcs_op h] at hp
 injection hp with h1 h2
 exact h1.symm
theorem KUp.done {x p0:List UInt8} {ps:List (List UInt8)} {n k r s t a b:Int} (hu:KUp p0 15 n) (hp:pcs x=p0::ps) (h:opB k r s t a b=true) (e:x=opTxt k r s t a b):n=k:=by
 have o:=opIs_of h;have h1:=o.k1;have h2:=o.k2;have:=hu.2 k.toNat (by omega) (by omega) (by rw [word_of hp h e];rfl);omega
theorem read_end {x:List UInt8} {k r s t a b:Int} (hc:∀k' r' s' t' a' b',opB k' r' s' t' a' b'=true→x=opTxt k' r' s' t' a' b'→k'=k∧r'=r∧s'=s∧t'=t∧a'=a∧b'=b) :
  (x≠[]→opTxt k r s t a b=x→ReadIs x k r s t a b true)∧((x=[]∨opTxt k r s t a b≠x)→ReadIs x 0 0 0 0 0 0 false):=by
 refine⟨fun h1 h2=>.inl ⟨rfl,?_,h2.symm⟩,fun h=>.inr ⟨rfl,by simp,fun k' r' s' t' a' b' ho e=>?_⟩⟩
 ·cases ho:opB k r s t a b with
  |true=>rfl
  |false=>rw [opTxt_bad ho] at h2;exact absurd h2.symm h1
 ·obtain⟨rfl,rfl,rfl,rfl,rfl,rfl⟩:=hc _ _ _ _ _ _ ho e;rcases h with h|h
  ·exact opTxt_some ho (by rw [←e];exact h)
  ·exact h e.symm
theorem six_set {w w3:World} (hB:Below w.heap.size w w3) (v0 v1 v2 v3 v4 v5:Value):Below w.heap.size w ((((((w3.setCell ⟨w.heap.size,0,none⟩ v0).setCell ⟨w.heap.size,1,none⟩ v1).setCell ⟨w.heap.size,2,none⟩ v2).setCell ⟨w.heap.size,3,none⟩ v3).setCell ⟨w.heap.size,4,none⟩ v4).setCell ⟨w.heap.size,5,none⟩ v5):=by
 have h:But w.heap.size w3 ((((((w3.setCell ⟨w.heap.size,0,none⟩ v0).setCell ⟨w.heap.size,1,none⟩ v1).setCell ⟨w.heap.size,2,none⟩ v2).setCell ⟨w.heap.size,3,none⟩ v3).setCell ⟨w.heap.size,4,none⟩ v4).setCell ⟨w.heap.size,5,none⟩ v5) :=
  ((((((But.refl w.heap.size w3).setCell (p:=⟨w.heap.size,0,none⟩) rfl _).setCell (p:=⟨w.heap.size,1,none⟩) rfl _).setCell (p:=⟨w.heap.size,2,none⟩) rfl _).setCell (p:=⟨w.heap.size,3,none⟩) rfl _).setCell (p:=⟨w.heap.size,4,none⟩) rfl _).setCell (p:=⟨w.heap.size,5,none⟩) rfl _
 exact hB.trans (h.below (Nat.le_refl _) hB.size)
structure RS (w:World) (g Y X:Nat) (P:List (List UInt8)) (k r s t a b:Int) (wr:World):Prop where
 c0:wr.cell? ⟨X,0,none⟩=some (.int .i64 k)
 c1:wr.cell? ⟨X,1,none⟩=some (.int .i64 r)
 c2:wr.cell? ⟨X,2,none⟩=some (.int .i64 s)
 c3:wr.cell? ⟨X,3,none⟩=some (.int .i64 t)
 c4:wr.cell? ⟨X,4,none⟩=some (.int .i64 a)
 c5:wr.cell? ⟨X,5,none⟩=some (.int .i64 b)
 fz:∀j,wr.frozen? ⟨X,j,none⟩=false
 zz:∀j,j<6→wr.cell? ⟨w.heap.size,j,none⟩=some (.int .i64 0)
 zf:∀j,wr.frozen? ⟨w.heap.size,j,none⟩=false
 nm:∀m,m<15→wr.cell? ⟨Y,m,none⟩=some (.string ⟨(wordL.getD m []).toArray⟩)
 pc:∀n,(h:n<P.length)→wr.cell? ⟨g,n,none⟩=some (.string ⟨P[n].toArray⟩)
 lX:X<wr.heap.size
 lY:Y<X
 lg:g<X
 lw:w.heap.size<X
 below:Below w.heap.size w wr
theorem RS.go {w:World} {g Y X:Nat} {P:List (List UInt8)} {k r s t a b k' r' s' t' a' b':Int} {wr w':World} (h:RS w g Y X P k r s t a b wr) (hb:But X wr w')
  (c0:w'.cell? ⟨X,0,none⟩=some (.int .i64 k')) (c1:w'.cell? ⟨X,1,none⟩=some (.int .i64 r')) (c2:w'.cell? ⟨X,2,none⟩=some (.int .i64 s')) (c3:w'.cell? ⟨X,3,none⟩=some (.int .i64 t')) (c4:w'.cell? ⟨X,4,none⟩=some (.int .i64 a')) (c5:w'.cell? ⟨X,5,none⟩=some (.int .i64 b'))
  (fz:∀j,w'.frozen? ⟨X,j,none⟩=false):RS w g Y X P k' r' s' t' a' b' w' where
 c0:=c0
 c1:=c1
 c2:=c2
 c3:=c3
 c4:=c4
 c5:=c5
 fz:=fz
 zz j hj:=by rw [hb.cell (p:=⟨w.heap.size,j,none⟩) (by have:=h.lX;have:=h.lw;simp;omega) (by have:=h.lw;simp;omega)];exact h.zz j hj
 zf j:=by rw [hb.frozen (p:=⟨w.heap.size,j,none⟩) (by have:=h.lX;have:=h.lw;simp;omega) (by have:=h.lw;simp;omega)];exact h.zf j
 nm j hj:=by rw [hb.cell (p:=⟨Y,j,none⟩) (by have:=h.lX;have:=h.lY;simp;omega) (by have:=h.lY;simp;omega)];exact h.nm j hj
 pc j hj:=by rw [hb.cell (p:=⟨g,j,none⟩) (by have:=h.lX;have:=h.lg;simp;omega) (by have:=h.lg;simp;omega)];exact h.pc j hj
 lX:=Nat.lt_of_lt_of_le h.lX hb.size
 lY:=h.lY
 lg:=h.lg
 lw:=h.lw
 below:=h.below.trans (hb.below (by have:=h.lw;omega) h.below.size)
theorem RS.below_ {w:World} {g Y X:Nat} {P:List (List UInt8)} {k r s t a b:Int} {wr w':World} (h:RS w g Y X P k r s t a b wr) (hb:Below wr.heap.size wr w'):RS w g Y X P k r s t a b w':=by
 have hc:=(bcell hb).1;have hf:=(bcell hb).2;exact h.go (But.of_below hb) (by rw [hc _ _ h.lX];exact h.c0) (by rw [hc _ _ h.lX];exact h.c1) (by rw [hc _ _ h.lX];exact h.c2) (by rw [hc _ _ h.lX];exact h.c3) (by rw [hc _ _ h.lX];exact h.c4) (by rw [hc _ _ h.lX];exact h.c5) (fun j=>by rw [hf _ _ h.lX];exact h.fz j)
theorem RS.six {w:World} {g Y X:Nat} {P:List (List UInt8)} {k r s t a b:Int} {wr:World} (h:RS w g Y X P k r s t a b wr):wr.cell? ⟨X,0,none⟩=some (.int .i64 k)∧wr.cell? ⟨X,1,none⟩=some (.int .i64 r)∧wr.cell? ⟨X,2,none⟩=some (.int .i64 s)∧wr.cell? ⟨X,3,none⟩=some (.int .i64 t)∧wr.cell? ⟨X,4,none⟩=some (.int .i64 a)∧wr.cell? ⟨X,5,none⟩=some (.int .i64 b):=⟨h.c0,h.c1,h.c2,h.c3,h.c4,h.c5⟩
theorem RS.res {w:World} {g Y X:Nat} {P:List (List UInt8)} {k r s t a b:Int} {wr:World} (h:RS w g Y X P k r s t a b wr):(wr.cell? ⟨w.heap.size,0,none⟩=some (.int .i64 0)∧wr.cell? ⟨w.heap.size,1,none⟩=some (.int .i64 0)∧wr.cell? ⟨w.heap.size,2,none⟩=some (.int .i64 0)∧wr.cell? ⟨w.heap.size,3,none⟩=some (.int .i64 0)∧wr.cell? ⟨w.heap.size,4,none⟩=some (.int .i64 0)∧wr.cell? ⟨w.heap.size,5,none⟩=some (.int .i64 0)) ∧
  wr.frozen? ⟨w.heap.size,0,none⟩=false∧wr.frozen? ⟨w.heap.size,1,none⟩=false∧wr.frozen? ⟨w.heap.size,2,none⟩=false∧wr.frozen? ⟨w.heap.size,3,none⟩=false∧wr.frozen? ⟨w.heap.size,4,none⟩=false∧wr.frozen? ⟨w.heap.size,5,none⟩=false :=
 ⟨⟨h.zz 0 (by omega),h.zz 1 (by omega),h.zz 2 (by omega),h.zz 3 (by omega),h.zz 4 (by omega),h.zz 5 (by omega)⟩,h.zf 0,h.zf 1,h.zf 2,h.zf 3,h.zf 4,h.zf 5⟩
theorem RS.drewN {w:World} {g Y X:Nat} {P:List (List UInt8)} {k r s t a b:Int} {wr:World} (h:RS w g Y X P k r s t a b wr) (q:Nat):RS w g Y X P k r s t a b (wr.drewN q) :=
 h.below_ ⟨rfl,rfl,rfl,Nat.le_refl _,fun _ _=>rfl⟩
theorem RS.set0 {w:World} {g Y X:Nat} {P:List (List UInt8)} {k r s t a b:Int} {wr:World} (h:RS w g Y X P k r s t a b wr) (n:Int):RS w g Y X P n r s t a b (wr.setCell ⟨X,0,none⟩ (.int .i64 n)):=by
 refine h.go (But.setCell (R:=X) (But.refl _ _) (p:=⟨X,0,none⟩) rfl _) ?_ ?_ ?_ ?_ ?_ ?_ (fun j=>?_)
 ·exact World.cell?_setCell_same _ _ _ h.c0
 ·simp [go_sem,h.c1]
 ·simp [go_sem,h.c2]
 ·simp [go_sem,h.c3]
 ·simp [go_sem,h.c4]
 ·simp [go_sem,h.c5]
 ·simp [go_sem,h.fz]
theorem RS.set1 {w:World} {g Y X:Nat} {P:List (List UInt8)} {k r s t a b:Int} {wr:World} (h:RS w g Y X P k r s t a b wr) (n:Int):RS w g Y X P k n s t a b (wr.setCell ⟨X,1,none⟩ (.int .i64 n)):=by
 refine h.go (But.setCell (R:=X) (But.refl _ _) (p:=⟨X,1,none⟩) rfl _) ?_ ?_ ?_ ?_ ?_ ?_ (fun j=>?_)
 ·simp [go_sem,h.c0]
 ·exact World.cell?_setCell_same _ _ _ h.c1
 ·simp [go_sem,h.c2]
 ·simp [go_sem,h.c3]
 ·simp [go_sem,h.c4]
 ·simp [go_sem,h.c5]
 ·simp [go_sem,h.fz]
theorem RS.set2 {w:World} {g Y X:Nat} {P:List (List UInt8)} {k r s t a b:Int} {wr:World} (h:RS w g Y X P k r s t a b wr) (n:Int):RS w g Y X P k r n t a b (wr.setCell ⟨X,2,none⟩ (.int .i64 n)):=by
 refine h.go (But.setCell (R:=X) (But.refl _ _) (p:=⟨X,2,none⟩) rfl _) ?_ ?_ ?_ ?_ ?_ ?_ (fun j=>?_)
 ·simp [go_sem,h.c0]
 ·simp [go_sem,h.c1]
 ·exact World.cell?_setCell_same _ _ _ h.c2
 ·simp [go_sem,h.c3]
 ·simp [go_sem,h.c4]
 ·simp [go_sem,h.c5]
 ·simp [go_sem,h.fz]
theorem RS.set3 {w:World} {g Y X:Nat} {P:List (List UInt8)} {k r s t a b:Int} {wr:World} (h:RS w g Y X P k r s t a b wr) (n:Int):RS w g Y X P k r s n a b (wr.setCell ⟨X,3,none⟩ (.int .i64 n)):=by
 refine h.go (But.setCell (R:=X) (But.refl _ _) (p:=⟨X,3,none⟩) rfl _) ?_ ?_ ?_ ?_ ?_ ?_ (fun j=>?_)
 ·simp [go_sem,h.c0]
 ·simp [go_sem,h.c1]
 ·simp [go_sem,h.c2]
 ·exact World.cell?_setCell_same _ _ _ h.c3
 ·simp [go_sem,h.c4]
 ·simp [go_sem,h.c5]
 ·simp [go_sem,h.fz]
theorem RS.set4 {w:World} {g Y X:Nat} {P:List (List UInt8)} {k r s t a b:Int} {wr:World} (h:RS w g Y X P k r s t a b wr) (n:Int):RS w g Y X P k r s t n b (wr.setCell ⟨X,4,none⟩ (.int .i64 n)):=by
 refine h.go (But.setCell (R:=X) (But.refl _ _) (p:=⟨X,4,none⟩) rfl _) ?_ ?_ ?_ ?_ ?_ ?_ (fun j=>?_)
 ·simp [go_sem,h.c0]
 ·simp [go_sem,h.c1]
 ·simp [go_sem,h.c2]
 ·simp [go_sem,h.c3]
 ·exact World.cell?_setCell_same _ _ _ h.c4
 ·simp [go_sem,h.c5]
 ·simp [go_sem,h.fz]
theorem RS.set5 {w:World} {g Y X:Nat} {P:List (List UInt8)} {k r s t a b:Int} {wr:World} (h:RS w g Y X P k r s t a b wr) (n:Int):RS w g Y X P k r s t a n (wr.setCell ⟨X,5,none⟩ (.int .i64 n)):=by
 refine h.go (But.setCell (R:=X) (But.refl _ _) (p:=⟨X,5,none⟩) rfl _) ?_ ?_ ?_ ?_ ?_ ?_ (fun j=>?_)
 ·simp [go_sem,h.c0]
 ·simp [go_sem,h.c1]
 ·simp [go_sem,h.c2]
 ·simp [go_sem,h.c3]
 ·simp [go_sem,h.c4]
 ·exact World.cell?_setCell_same _ _ _ h.c5
 ·simp [go_sem,h.fz]
structure FormAt (w:World) (F X:Nat) (k:Int):Prop where
 cel:∀j,j<4→w.cell? ⟨F,j,none⟩=some (.bool (fP k j))
 lt:F<w.heap.size
 gt:X<F
theorem FormAt.but {w w':World} {F X:Nat} {k:Int} (h:FormAt w F X k) (hb:But X w w'):FormAt w' F X k :=
 ⟨fun j hj=>(hb.cell (p:=⟨F,j,none⟩) (by exact h.lt) (by have:=h.gt;simp;omega)).trans (h.cel j hj),Nat.lt_of_lt_of_le h.lt hb.size,h.gt⟩
theorem FormAt.below {w w':World} {F X:Nat} {k:Int} (h:FormAt w F X k) (hb:Below w.heap.size w w'):FormAt w' F X k:=h.but (But.of_below hb)
theorem formAt_new (w:World) (k:Int) (X:Nat) (hX:X<w.heap.size):FormAt (w.alloc (formO k)) w.heap.size X k:=by
 refine⟨fun j hj=>?_,by simp,hX⟩;rcases (by omega:j=0∨j=1∨j=2∨j=3) with rfl|rfl|rfl|rfl<;>simp [go_sem,fP]
theorem specOpRead_any (x:List UInt8) (w:World) (hx:x.length≤1048576) :
  Calls Tryz.prog 174 #[.string ⟨x.toArray⟩] w fun e w'=>∃k r s t a b ok,e=.returned (.tuple #[.agg #[.int .i64 k,.int .i64 r,.int .i64 s,.int .i64 t,.int .i64 a,.int .i64 b],.bool ok])∧ReadIs x k r s t a b ok∧Below w.heap.size w w':=by
 have hz:(⟨x.toArray⟩:ByteArray).size=x.length:=ba_size _;by_cases h24:24<x.length
 ·have g1:(24:Int)<(x.length:Int):=by omega
  go_enter Tryz.func174,Tryz.ntmps174
  go_wp2_with fail
  refine bodyPost_ret (v:=.tuple #[.agg #[.int .i64 0,.int .i64 0,.int .i64 0,.int .i64 0,.int .i64 0,.int .i64 0],.bool false]) (by simp [results,Tryz.results174,go_sem]) rfl ⟨0,0,0,0,0,0,false,rfl,.inr ⟨rfl,by simp,fun k r s t a b h e=>?_⟩,(Below.refl _ _).alloc (Nat.le_refl _) _⟩;have:=opTxt_len h;rw [←e] at this;omega
 ·have g1:¬(24:Int)<(x.length:Int):=by omega
  go_enter Tryz.func174,Tryz.ntmps174
  go_wp2_with fail
  refine(l2Cut_any _ 32 _ (by rw [hz];omega)).mono ?_;rintro e w1 ⟨v,rfl,ho,hb1⟩;have hz1:=hb1.size;simp at hz1;rw [show (⟨x.toArray⟩:ByteArray).data.toList=x from by simp,cutsAt_pcs] at ho;obtain⟨p0,ps,hps⟩:=pcs_cons x;have hpl:=pcs_len x;have hB1:Below w.heap.size w w1:=((Below.refl _ _).alloc (Nat.le_refl _) _).trans (hb1.mono (by simp));have r0:∀j,w1.cell? ⟨w.heap.size,j,none⟩=(w.alloc (.cells #[.int .i64 0,.int .i64 0,.int .i64 0,.int .i64 0,.int .i64 0,.int .i64 0] 80)).cell? ⟨w.heap.size,j,none⟩:=fun j=>(bcell hb1).1 _ _ (by simp)
  have r1:Hid (∀j,w1.frozen? ⟨w.heap.size,j,none⟩=(w.alloc (.cells #[.int .i64 0,.int .i64 0,.int .i64 0,.int .i64 0,.int .i64 0,.int .i64 0] 80)).frozen? ⟨w.heap.size,j,none⟩):=fun j=>(bcell hb1).2 _ _ (by simp)
  generalize hPe:pcs x=P at *;replace hPe:Hid (pcs x=P):=hPe;have hpp:0<P.length:=by rw [hps];simp
  have hp0:Hid (∃h:0<P.length,P[0]=p0):=⟨hpp,by simp [hps]⟩;rcases ho.2 with⟨_,hn0⟩|⟨g,cap,cur,rfl,hg,hh,_⟩
  ·omega
  replace hps:Hid (P=p0::ps):=hps;have ho':w1.ownsRow (w.alloc (.cells #[.int .i64 0,.int .i64 0,.int .i64 0,.int .i64 0,.int .i64 0,.int .i64 0] 80)).heap.size 9 1 (.slice (some ⟨g,0,none⟩) P.length cap) P.length (P.map strV):=ho;have hgb:=ho'.lt g rfl;simp at hgb;have hc:Hid (∀n,(h:n<P.length)→w1.cell? ⟨g,n,none⟩=some (.string ⟨P[n].toArray⟩)):=by
   show ∀n,(h:n<P.length)→_;intro n h;rw [ho'.cellAt n (by omega),List.getElem?_map,List.getElem?_eq_getElem h];rfl
  replace r0:Hid (∀j,w1.cell? ⟨w.heap.size,j,none⟩=(w.alloc (.cells #[.int .i64 0,.int .i64 0,.int .i64 0,.int .i64 0,.int .i64 0,.int .i64 0] 80)).cell? ⟨w.heap.size,j,none⟩):=r0;clear ho ho' hh hb1 hg
  go_wp2_with fail
  refine(names_any _).mono ?_;rintro e w1' ⟨rfl,rfl⟩
  go_wp2_with fail
  have l0:w.heap.size<w1.heap.size:=by omega
  have hrs:Hid (RS w g w1.heap.size (w1.heap.size+1) P 0 0 0 0 0 0 ((w1.alloc (.cells namesA 9)).alloc (.cells #[.int .i64 0,.int .i64 0,.int .i64 0,.int .i64 0,.int .i64 0,.int .i64 0] 80))):=by
   show RS _ _ _ _ _ _ _ _ _ _ _ _;have hbb:Below w1.heap.size w1 ((w1.alloc (.cells namesA 9)).alloc (.cells #[.int .i64 0,.int .i64 0,.int .i64 0,.int .i64 0,.int .i64 0,.int .i64 0] 80)):=((Below.refl _ _).alloc (Nat.le_refl _) _).alloc (by simp) _;have hcc:=(bcell hbb).1;have hff:=(bcell hbb).2;refine⟨by simp [go_sem],by simp [go_sem],by simp [go_sem],by simp [go_sem],by simp [go_sem],by simp [go_sem],fun j=>by simp [go_sem],fun j hj=>?_,fun j=>?_,fun m hm=>?_,fun n hn=>?_,by simp,by omega,by omega,by omega,hB1.trans (hbb.mono (by omega))⟩
   ·rw [hcc _ _ l0,r0.out j];rcases (by omega:j=0∨j=1∨j=2∨j=3∨j=4∨j=5) with rfl|rfl|rfl|rfl|rfl|rfl<;>simp [go_sem]
   ·rw [hff _ _ l0,r1.out j];simp [go_sem]
   ·have e:=heap_new (w:=w1) (o:=.cells namesA 9) (n:=w1.heap.size) rfl;have e2:((w1.alloc (.cells namesA 9)).alloc (.cells #[.int .i64 0,.int .i64 0,.int .i64 0,.int .i64 0,.int .i64 0,.int .i64 0] 80)).heap[w1.heap.size]?=some (.cells namesA 9):=by
     rw [←e];exact((Below.refl (w1.alloc (.cells namesA 9)).heap.size (w1.alloc (.cells namesA 9))).alloc (Nat.le_refl _) _).block _ (by simp)
    rw [cell_of_row _ _ m _ _ _ e2,namesA_at m hm]
   ·rw [hcc _ _ (by omega)];exact hc.out n hn
  go_loopw [7] (fun i wr=>∃(n:Nat) (k:Int),(1≤n∧n≤15)∧i=.int .i64 n∧KUp p0 n k∧RS w g w1.heap.size (w1.heap.size+1) P k 0 0 0 0 0 wr) (fun i _=>15-(intOf i).toNat)
  case atStart=>exact⟨1,0,⟨by omega,by omega⟩,rfl,KUp.zero _,hrs.out⟩
  case round =>
   obtain⟨n,k,⟨hn1,hn2⟩,rfl,hku,h⟩:=hrel;clear hrs r0 r1 hc;by_cases hlt:n<15
   ·have g2:(n:Int)<15:=by omega
    have cn:=h.nm n hlt;have cp:wr.cell? ⟨g,0,none⟩=some (.string ⟨p0.toArray⟩):=by obtain⟨q1,q2⟩:=hp0.out;rw [h.pc 0 q1,q2]
    have c0:=h.c0;have f0:=h.fz 0;have lX:=h.lX;have hh:Hid (RS w g w1.heap.size (w1.heap.size+1) P k 0 0 0 0 0 wr):=h;clear h;by_cases he:wordL.getD n []=p0
    ·have he2:=KUp.next (n:=n) (by omega) hn1 he;rw [he] at cn;clear he
     go_wp2_with fail
     go_quiet (fail)
     go_step
     go_wp2_with fail
     go_roundw
     case rel=>exact⟨n+1,n,⟨by omega,by omega⟩,by go_num,he2,(hh.out.drewN _).set0 _⟩
     case measure=>simp [intOf];omega
    ·have he2:=hku.same he;have hbe:(wordL.getD n []==p0)=false:=by rw [beq_eq_false_iff_ne];exact he
     generalize wordL.getD n []=wn at *;clear he
     go_wp2_with fail
     go_quiet (fail)
     go_step
     go_wp2_with fail
     go_roundw
     case rel=>exact⟨n+1,k,⟨by omega,by omega⟩,by go_num,he2,hh.out.drewN _⟩
     case measure=>simp [intOf];omega
   ·have e:n=15:=by omega
    subst e;have c0:=h.c0;have lX:=h.lX;have hh:Hid (RS w g w1.heap.size (w1.heap.size+1) P k 0 0 0 0 0 wr):=h;clear h;by_cases hk:1≤k
    ·have hk2:=hku.1.2
     go_wp2_with fail
     refine(form_any k _ hk hk2).mono ?_;rintro e w2' ⟨rfl,rfl⟩;have hks:Hid (∀k' r' s' t' a' b',opB k' r' s' t' a' b'=true→x=opTxt k' r' s' t' a' b'→k'=k):=fun k' r' s' t' a' b' ho e=>(hku.done (by rw [hPe.out];exact hps.out) ho e).symm
     have hh2:Hid (RS w g w1.heap.size (w1.heap.size+1) P k 0 0 0 0 0 (wr.alloc (formO k))):=hh.out.below_ ((Below.refl _ _).alloc (Nat.le_refl _) _);have hF2:Hid (FormAt (wr.alloc (formO k)) wr.heap.size (w1.heap.size+1) k):=formAt_new wr k (w1.heap.size+1) lX;replace hpl:Hid (P.length≤x.length+1∧∀y∈P,y.length≤x.length):=hpl;clear hku c0 hh hp0;generalize hFe:wr.heap.size=F at *;generalize wr.alloc (formO k)=wf at *;clear hFe lX
     go_wp2_with fail
     go_loopw [9,10] (fun at' i wy=>∃(j:Nat) (r s t a b:Int),j≤4∧i=.int .i64 j∧at'=.int .i64 ((1+cntP k j:Nat):Int)∧UpTo x k r s t a b j∧RS w g w1.heap.size (w1.heap.size+1) P k r s t a b wy∧FormAt wy F (w1.heap.size+1) k) (fun _ i _=>4-(intOf i).toNat)
     case atStart=>exact⟨0,0,0,0,0,0,by omega,rfl,by rw [cntP_zero];rfl,UpTo.start hks.out,hh2.out,hF2.out⟩
     clear hh2 hF2;obtain⟨j,r,s,t,a,b,hj,rfl,rfl,hup',h,hf'⟩:=hrel;have hup:Hid (UpTo x k r s t a b j):=hup';have hh2:Hid (RS w g w1.heap.size (w1.heap.size+1) P k r s t a b wr):=h;have hF2:Hid (FormAt wr F (w1.heap.size+1) k):=hf';clear hup' h hf';rcases (by omega:j=0∨j=1∨j=2∨j=3∨j=4) with rfl|rfl|rfl|rfl|rfl
     ·have cf:=hF2.out.cel 0 (by omega);have hcs:=cntP_succ k 0 (by omega)
      cases hf:fP k 0 with
      |false =>
       rw [hf] at cf hcs;have hup2:Hid (UpTo x k r s t a b 1):=hup.out.skip (by omega) hf;clear hup hf
       go_wp2_with fail
       go_roundw
       case rel=>exact⟨1,r,s,t,a,b,by omega,rfl,by rw [hcs];simp,hup2.out,hh2.out,hF2.out⟩
       case measure=>simp [intOf]
      |true =>
       rw [hf] at cf hcs;have hcl:=cntP_le k 0;by_cases hA:P.length≤1+cntP k 0
       ·have g5:(P.length:Int)≤((1+cntP k 0:Nat):Int):=by omega
        have hres:Hid (ReadIs x 0 0 0 0 0 0 false):=.inr ⟨rfl,by simp,hup.out.none hPe.out (by omega) hf hA⟩;obtain⟨⟨z0,z1,z2,z3,z4,z5⟩,y0,y1,y2,y3,y4,y5⟩:=hh2.out.res;have hB:=hh2.out.below;generalize 1+cntP k 0=A at *;clear hup hf hcs hcl hh2 hF2
        go_wp2_with fail
        all_goals exact bodyPost_ret (v:=.tuple #[.agg #[.int .i64 0,.int .i64 0,.int .i64 0,.int .i64 0,.int .i64 0,.int .i64 0],.bool false]) (by simp [results,Tryz.results174,go_sem,z0,z1,z2,z3,z4,z5]) rfl ⟨0,0,0,0,0,0,false,rfl,hres.out,six_set hB _ _ _ _ _ _⟩
       ·have g5:¬(P.length:Int)≤((1+cntP k 0:Nat):Int):=by omega
        have g6:((1+cntP k 0:Nat):Int)<(P.length:Int):=by omega
        have hA':1+cntP k 0<P.length:=by omega
        have cp:=hh2.out.pc _ hA';have hpl5:P[1+cntP k 0].length≤1048576:=by have:=hpl.out.2 _ (List.getElem_mem hA');omega
        obtain⟨n,nb,hn,hdec⟩:=decS P[1+cntP k 0] hpl5;obtain⟨va,vc,vb,hv,hval⟩:=valS P[1+cntP k 0];have hup2:Hid (UpTo x k n s t a b 1):=hup.out.putR hPe.out (by simpa [fP] using hf) hA' hn;have hat:Hid (((1+cntP k 0:Nat):Int)+1=((1+cntP k 1:Nat):Int)):=by show _=_;rw [hcs];simp;omega
        have hAl:1+cntP k 0≤5:=by omega
        generalize P[1+cntP k 0]=W at *;generalize 1+cntP k 0=A at *;clear hup hf hcs hn hv hA;have lX:=hh2.out.lX
        go_wp2_with (go_at_call 207;refine(hdec _).mono ?_;rintro e w5 ⟨rfl,rfl⟩)
        refine(hval _).mono ?_;rintro e w5 ⟨rfl,hb5⟩;have hh5:Hid (RS w g w1.heap.size (w1.heap.size+1) P k r s t a b w5):=hh2.out.below_ hb5;have hF5:Hid (FormAt w5 F (w1.heap.size+1) k):=hF2.out.below hb5;have lX5:=hh5.out.lX;obtain⟨c0,c1,c2,c3,c4,c5⟩:=hh5.out.six;have f0:=hh5.out.fz;have y1:=f0 1;have y2:=f0 2;have y3:=f0 3;have y4:=f0 4;have y5:=f0 5;clear f0 hh2 hF2 cp cf hb5
        go_wp2_with fail
        go_roundw
        case rel=>exact⟨1,n,s,t,a,b,by omega,rfl,by rw [←hat.out],hup2.out,((hh5.out.set1 _)).below_ ((Below.refl _ _).alloc (Nat.le_refl _) _),((hF5.out.but ((But.refl _ _).setCell (p:=⟨w1.heap.size+1,1,none⟩) rfl _))).below ((Below.refl _ _).alloc (Nat.le_refl _) _)⟩
        case measure=>simp [intOf]
     ·have cf:=hF2.out.cel 1 (by omega);have hcs:=cntP_succ k 1 (by omega)
      cases hf:fP k 1 with
      |false =>
       rw [hf] at cf hcs;have hup2:Hid (UpTo x k r s t a b 2):=hup.out.skip (by omega) hf;clear hup hf
       go_wp2_with fail
       go_roundw
       case rel=>exact⟨2,r,s,t,a,b,by omega,rfl,by rw [hcs];simp,hup2.out,hh2.out,hF2.out⟩
       case measure=>simp [intOf]
      |true =>
       rw [hf] at cf hcs;have hcl:=cntP_le k 1;by_cases hA:P.length≤1+cntP k 1
       ·have g5:(P.length:Int)≤((1+cntP k 1:Nat):Int):=by omega
        have hres:Hid (ReadIs x 0 0 0 0 0 0 false):=.inr ⟨rfl,by simp,hup.out.none hPe.out (by omega) hf hA⟩;obtain⟨⟨z0,z1,z2,z3,z4,z5⟩,y0,y1,y2,y3,y4,y5⟩:=hh2.out.res;have hB:=hh2.out.below;generalize 1+cntP k 1=A at *;clear hup hf hcs hcl hh2 hF2
        go_wp2_with fail
        all_goals exact bodyPost_ret (v:=.tuple #[.agg #[.int .i64 0,.int .i64 0,.int .i64 0,.int .i64 0,.int .i64 0,.int .i64 0],.bool false]) (by simp [results,Tryz.results174,go_sem,z0,z1,z2,z3,z4,z5]) rfl ⟨0,0,0,0,0,0,false,rfl,hres.out,six_set hB _ _ _ _ _ _⟩
       ·have g5:¬(P.length:Int)≤((1+cntP k 1:Nat):Int):=by omega
        have g6:((1+cntP k 1:Nat):Int)<(P.length:Int):=by omega
        have hA':1+cntP k 1<P.length:=by omega
        have cp:=hh2.out.pc _ hA';have hpl5:P[1+cntP k 1].length≤1048576:=by have:=hpl.out.2 _ (List.getElem_mem hA');omega
        obtain⟨n,nb,hn,hdec⟩:=decS P[1+cntP k 1] hpl5;obtain⟨va,vc,vb,hv,hval⟩:=valS P[1+cntP k 1];have hup2:Hid (UpTo x k r n t a b 2):=hup.out.putS hPe.out (by simpa [fP] using hf) hA' hn;have hat:Hid (((1+cntP k 1:Nat):Int)+1=((1+cntP k 2:Nat):Int)):=by show _=_;rw [hcs];simp;omega
        have hAl:1+cntP k 1≤5:=by omega
        generalize P[1+cntP k 1]=W at *;generalize 1+cntP k 1=A at *;clear hup hf hcs hn hv hA;have lX:=hh2.out.lX
        go_wp2_with (go_at_call 207;refine(hdec _).mono ?_;rintro e w5 ⟨rfl,rfl⟩)
        refine(hval _).mono ?_;rintro e w5 ⟨rfl,hb5⟩;have hh5:Hid (RS w g w1.heap.size (w1.heap.size+1) P k r s t a b w5):=hh2.out.below_ hb5;have hF5:Hid (FormAt w5 F (w1.heap.size+1) k):=hF2.out.below hb5;have lX5:=hh5.out.lX;obtain⟨c0,c1,c2,c3,c4,c5⟩:=hh5.out.six;have f0:=hh5.out.fz;have y1:=f0 1;have y2:=f0 2;have y3:=f0 3;have y4:=f0 4;have y5:=f0 5;clear f0 hh2 hF2 cp cf hb5
        go_wp2_with fail
        go_roundw
        case rel=>exact⟨2,r,n,t,a,b,by omega,rfl,by rw [←hat.out],hup2.out,((hh5.out.set2 _)).below_ ((Below.refl _ _).alloc (Nat.le_refl _) _),((hF5.out.but ((But.refl _ _).setCell (p:=⟨w1.heap.size+1,2,none⟩) rfl _))).below ((Below.refl _ _).alloc (Nat.le_refl _) _)⟩
        case measure=>simp [intOf]
     ·have cf:=hF2.out.cel 2 (by omega);have hcs:=cntP_succ k 2 (by omega)
      cases hf:fP k 2 with
      |false =>
       rw [hf] at cf hcs;have hup2:Hid (UpTo x k r s t a b 3):=hup.out.skip (by omega) hf;clear hup hf
       go_wp2_with fail
       go_roundw
       case rel=>exact⟨3,r,s,t,a,b,by omega,rfl,by rw [hcs];simp,hup2.out,hh2.out,hF2.out⟩
       case measure=>simp [intOf]
      |true =>
       rw [hf] at cf hcs;have hcl:=cntP_le k 2;by_cases hA:P.length≤1+cntP k 2
       ·have g5:(P.length:Int)≤((1+cntP k 2:Nat):Int):=by omega
        have hres:Hid (ReadIs x 0 0 0 0 0 0 false):=.inr ⟨rfl,by simp,hup.out.none hPe.out (by omega) hf hA⟩;obtain⟨⟨z0,z1,z2,z3,z4,z5⟩,y0,y1,y2,y3,y4,y5⟩:=hh2.out.res;have hB:=hh2.out.below;generalize 1+cntP k 2=A at *;clear hup hf hcs hcl hh2 hF2
        go_wp2_with fail
        all_goals exact bodyPost_ret (v:=.tuple #[.agg #[.int .i64 0,.int .i64 0,.int .i64 0,.int .i64 0,.int .i64 0,.int .i64 0],.bool false]) (by simp [results,Tryz.results174,go_sem,z0,z1,z2,z3,z4,z5]) rfl ⟨0,0,0,0,0,0,false,rfl,hres.out,six_set hB _ _ _ _ _ _⟩
       ·have g5:¬(P.length:Int)≤((1+cntP k 2:Nat):Int):=by omega
        have g6:((1+cntP k 2:Nat):Int)<(P.length:Int):=by omega
        have hA':1+cntP k 2<P.length:=by omega
        have cp:=hh2.out.pc _ hA';have hpl5:P[1+cntP k 2].length≤1048576:=by have:=hpl.out.2 _ (List.getElem_mem hA');omega
        obtain⟨n,nb,hn,hdec⟩:=decS P[1+cntP k 2] hpl5;obtain⟨va,vc,vb,hv,hval⟩:=valS P[1+cntP k 2];have hup2:Hid (UpTo x k r s n a b 3):=hup.out.putT hPe.out (by simpa [fP] using hf) hA' hn;have hat:Hid (((1+cntP k 2:Nat):Int)+1=((1+cntP k 3:Nat):Int)):=by show _=_;rw [hcs];simp;omega
        have hAl:1+cntP k 2≤5:=by omega
        generalize P[1+cntP k 2]=W at *;generalize 1+cntP k 2=A at *;clear hup hf hcs hn hv hA;have lX:=hh2.out.lX
        go_wp2_with (go_at_call 207;refine(hdec _).mono ?_;rintro e w5 ⟨rfl,rfl⟩)
        refine(hval _).mono ?_;rintro e w5 ⟨rfl,hb5⟩;have hh5:Hid (RS w g w1.heap.size (w1.heap.size+1) P k r s t a b w5):=hh2.out.below_ hb5;have hF5:Hid (FormAt w5 F (w1.heap.size+1) k):=hF2.out.below hb5;have lX5:=hh5.out.lX;obtain⟨c0,c1,c2,c3,c4,c5⟩:=hh5.out.six;have f0:=hh5.out.fz;have y1:=f0 1;have y2:=f0 2;have y3:=f0 3;have y4:=f0 4;have y5:=f0 5;clear f0 hh2 hF2 cp cf hb5
        go_wp2_with fail
        go_roundw
        case rel=>exact⟨3,r,s,n,a,b,by omega,rfl,by rw [←hat.out],hup2.out,((hh5.out.set3 _)).below_ ((Below.refl _ _).alloc (Nat.le_refl _) _),((hF5.out.but ((But.refl _ _).setCell (p:=⟨w1.heap.size+1,3,none⟩) rfl _))).below ((Below.refl _ _).alloc (Nat.le_refl _) _)⟩
        case measure=>simp [intOf]
     ·have cf:=hF2.out.cel 3 (by omega);have hcs:=cntP_succ k 3 (by omega)
      cases hf:fP k 3 with
      |false =>
       rw [hf] at cf hcs;have hup2:Hid (UpTo x k r s t a b 4):=hup.out.skip (by omega) hf;clear hup hf
       go_wp2_with fail
       go_roundw
       case rel=>exact⟨4,r,s,t,a,b,by omega,rfl,by rw [hcs];simp,hup2.out,hh2.out,hF2.out⟩
       case measure=>simp [intOf]
      |true =>
       rw [hf] at cf hcs;have hcl:=cntP_le k 3;by_cases hA:P.length≤1+cntP k 3
       ·have g5:(P.length:Int)≤((1+cntP k 3:Nat):Int):=by omega
        have hres:Hid (ReadIs x 0 0 0 0 0 0 false):=.inr ⟨rfl,by simp,hup.out.none hPe.out (by omega) hf hA⟩;obtain⟨⟨z0,z1,z2,z3,z4,z5⟩,y0,y1,y2,y3,y4,y5⟩:=hh2.out.res;have hB:=hh2.out.below;generalize 1+cntP k 3=A at *;clear hup hf hcs hcl hh2 hF2
        go_wp2_with fail
        all_goals exact bodyPost_ret (v:=.tuple #[.agg #[.int .i64 0,.int .i64 0,.int .i64 0,.int .i64 0,.int .i64 0,.int .i64 0],.bool false]) (by simp [results,Tryz.results174,go_sem,z0,z1,z2,z3,z4,z5]) rfl ⟨0,0,0,0,0,0,false,rfl,hres.out,six_set hB _ _ _ _ _ _⟩
       ·have g5:¬(P.length:Int)≤((1+cntP k 3:Nat):Int):=by omega
        have g6:((1+cntP k 3:Nat):Int)<(P.length:Int):=by omega
        have hA':1+cntP k 3<P.length:=by omega
        have cp:=hh2.out.pc _ hA';have hpl5:P[1+cntP k 3].length≤1048576:=by have:=hpl.out.2 _ (List.getElem_mem hA');omega
        obtain⟨n,nb,hn,hdec⟩:=decS P[1+cntP k 3] hpl5;obtain⟨va,vc,vb,hv,hval⟩:=valS P[1+cntP k 3];have hup2:Hid (UpTo x k r s t va vc 4):=hup.out.putV hPe.out (by simpa [fP] using hf) hA' hv;have hat:Hid (((1+cntP k 3:Nat):Int)+1=((1+cntP k 4:Nat):Int)):=by show _=_;rw [hcs];simp;omega
        have hAl:1+cntP k 3≤5:=by omega
        generalize P[1+cntP k 3]=W at *;generalize 1+cntP k 3=A at *;clear hup hf hcs hn hv hA;have lX:=hh2.out.lX
        go_wp2_with (go_at_call 207;refine(hdec _).mono ?_;rintro e w5 ⟨rfl,rfl⟩)
        refine(hval _).mono ?_;rintro e w5 ⟨rfl,hb5⟩;have hh5:Hid (RS w g w1.heap.size (w1.heap.size+1) P k r s t a b w5):=hh2.out.below_ hb5;have hF5:Hid (FormAt w5 F (w1.heap.size+1) k):=hF2.out.below hb5;have lX5:=hh5.out.lX;obtain⟨c0,c1,c2,c3,c4,c5⟩:=hh5.out.six;have f0:=hh5.out.fz;have y1:=f0 1;have y2:=f0 2;have y3:=f0 3;have y4:=f0 4;have y5:=f0 5;clear f0 hh2 hF2 cp cf hb5
        go_wp2_with fail
        go_roundw
        case rel=>exact⟨4,r,s,t,va,vc,by omega,rfl,by rw [←hat.out],hup2.out,(((hh5.out.set4 _).set5 _)).below_ ((Below.refl _ _).alloc (Nat.le_refl _) _),((hF5.out.but (((But.refl _ _).setCell (p:=⟨w1.heap.size+1,4,none⟩) rfl _).setCell (p:=⟨w1.heap.size+1,5,none⟩) rfl _))).below ((Below.refl _ _).alloc (Nat.le_refl _) _)⟩
        case measure=>simp [intOf]
     ·have hcomp:=hup.out.done;have hend:=read_end hcomp;clear hcomp hup hF2;obtain⟨c0,c1,c2,c3,c4,c5⟩:=hh2.out.six;obtain⟨⟨z0,z1,z2,z3,z4,z5⟩,y0,y1,y2,y3,y4,y5⟩:=hh2.out.res;by_cases hxe:x=[]
      ·have hbe:(x==[])=true:=by rw [beq_iff_eq];exact hxe
       have hres:=hend.2 (.inl hxe);have hB:=hh2.out.below;clear hh2 hend
       go_wp2_with fail
       all_goals exact bodyPost_ret (v:=.tuple #[.agg #[.int .i64 0,.int .i64 0,.int .i64 0,.int .i64 0,.int .i64 0,.int .i64 0],.bool false]) (by simp [results,Tryz.results174,go_sem,z0,z1,z2,z3,z4,z5]) rfl ⟨0,0,0,0,0,0,false,rfl,hres,six_set hB _ _ _ _ _ _⟩
      ·have hbe:(x==[])=false:=by rw [beq_eq_false_iff_ne];exact hxe
       go_wp2_with fail
       refine(specOpText_any _ _ _ _ _ _ _).mono ?_;rintro e w3 ⟨rfl,hb3⟩;have hh3:Hid (RS w g w1.heap.size (w1.heap.size+1) P k r s t a b w3):=hh2.out.below_ hb3;clear c0 c1 c2 c3 c4 c5 z0 z1 z2 z3 z4 z5 y0 y1 y2 y3 y4 y5 hh2 hb3;obtain⟨c0,c1,c2,c3,c4,c5⟩:=hh3.out.six;obtain⟨⟨z0,z1,z2,z3,z4,z5⟩,y0,y1,y2,y3,y4,y5⟩:=hh3.out.res;have hB:=hh3.out.below;generalize opTxt k r s t a b=T at *;by_cases hT:T=x
       ·have hres:=hend.1 hxe hT;have hbt:(!T==x)=false:=by rw [hT];simp
        have hbv:(T==x)=true:=by rw [hT];simp
        clear hend hh3
        go_wp2_with fail
        all_goals exact bodyPost_ret (v:=.tuple #[.agg #[.int .i64 k,.int .i64 r,.int .i64 s,.int .i64 t,.int .i64 a,.int .i64 b],.bool true]) (by simp [results,Tryz.results174,go_sem,z0,z1,z2,z3,z4,z5]) rfl ⟨k,r,s,t,a,b,true,rfl,hres,six_set hB _ _ _ _ _ _⟩
       ·have hres:=hend.2 (.inr hT);have hbt:(!T==x)=true:=by simp [hT]
        clear hend hh3
        go_wp2_with fail
        all_goals exact bodyPost_ret (v:=.tuple #[.agg #[.int .i64 0,.int .i64 0,.int .i64 0,.int .i64 0,.int .i64 0,.int .i64 0],.bool false]) (by simp [results,Tryz.results174,go_sem,z0,z1,z2,z3,z4,z5]) rfl ⟨0,0,0,0,0,0,false,rfl,hres,six_set hB _ _ _ _ _ _⟩
    ·have e:k=0:=by have:=hku.1;omega
     subst e
     go_wp2_with fail
     refine(form_none 0 _ (by omega)).mono ?_;rintro e w2 ⟨⟨F,rfl⟩,hb2⟩;have hh2:Hid (RS w g w1.heap.size (w1.heap.size+1) P 0 0 0 0 0 0 w2):=hh.out.below_ hb2;have hcomp:Hid (∀k' r' s' t' a' b',opB k' r' s' t' a' b'=true→x=opTxt k' r' s' t' a' b'→k'=0∧r'=0∧s'=0∧t'=0∧a'=0∧b'=0):=fun k' r' s' t' a' b' ho e=>by
      have:=hku.done (by rw [hPe.out];exact hps.out) ho e;have:=(opIs_of ho).k1;omega
     clear hku c0 hh lX hb2
     go_wp2_with fail
     go_loopw [10] (fun i wr=>i=.int .i64 0∧RS w g w1.heap.size (w1.heap.size+1) P 0 0 0 0 0 0 wr) (fun _ _=>0)
     case atStart=>exact⟨rfl,hh2.out⟩
     obtain⟨rfl,h⟩:=hrel;clear hh2;have hh2:Hid (RS w g w1.heap.size (w1.heap.size+1) P 0 0 0 0 0 0 wr):=h;clear h;have hend:=read_end hcomp.out;clear hcomp;obtain⟨c0,c1,c2,c3,c4,c5⟩:=hh2.out.six;obtain⟨⟨z0,z1,z2,z3,z4,z5⟩,y0,y1,y2,y3,y4,y5⟩:=hh2.out.res;by_cases hxe:x=[]
     ·have hbe:(x==[])=true:=by rw [beq_iff_eq];exact hxe
      have hres:=hend.2 (.inl hxe);have hB:=hh2.out.below;clear hh2 hend
      go_wp2_with fail
      all_goals exact bodyPost_ret (v:=.tuple #[.agg #[.int .i64 0,.int .i64 0,.int .i64 0,.int .i64 0,.int .i64 0,.int .i64 0],.bool false]) (by simp [results,Tryz.results174,go_sem,z0,z1,z2,z3,z4,z5]) rfl ⟨0,0,0,0,0,0,false,rfl,hres,six_set hB _ _ _ _ _ _⟩
     ·have hbe:(x==[])=false:=by rw [beq_eq_false_iff_ne];exact hxe
      go_wp2_with fail
      refine(specOpText_any _ _ _ _ _ _ _).mono ?_;rintro e w3 ⟨rfl,hb3⟩;have hh3:Hid (RS w g w1.heap.size (w1.heap.size+1) P 0 0 0 0 0 0 w3):=hh2.out.below_ hb3;clear c0 c1 c2 c3 c4 c5 z0 z1 z2 z3 z4 z5 y0 y1 y2 y3 y4 y5 hh2 hb3;obtain⟨c0,c1,c2,c3,c4,c5⟩:=hh3.out.six;obtain⟨⟨z0,z1,z2,z3,z4,z5⟩,y0,y1,y2,y3,y4,y5⟩:=hh3.out.res;have hB:=hh3.out.below;generalize opTxt 0 0 0 0 0 0=T at *;by_cases hT:T=x
      ·have hres:=hend.1 hxe hT;have hbt:(!T==x)=false:=by rw [hT];simp
       have hbv:(T==x)=true:=by rw [hT];simp
       clear hend hh3
       go_wp2_with fail
       all_goals exact bodyPost_ret (v:=.tuple #[.agg #[.int .i64 0,.int .i64 0,.int .i64 0,.int .i64 0,.int .i64 0,.int .i64 0],.bool true]) (by simp [results,Tryz.results174,go_sem,z0,z1,z2,z3,z4,z5]) rfl ⟨0,0,0,0,0,0,true,rfl,hres,six_set hB _ _ _ _ _ _⟩
      ·have hres:=hend.2 (.inr hT);have hbt:(!T==x)=true:=by simp [hT]
       clear hend hh3
       go_wp2_with fail
       all_goals exact bodyPost_ret (v:=.tuple #[.agg #[.int .i64 0,.int .i64 0,.int .i64 0,.int .i64 0,.int .i64 0,.int .i64 0],.bool false]) (by simp [results,Tryz.results174,go_sem,z0,z1,z2,z3,z4,z5]) rfl ⟨0,0,0,0,0,0,false,rfl,hres,six_set hB _ _ _ _ _ _⟩
def cellsO:List OpV→List Value
 |[]=>[]
 |x::C=>.int .i64 x.k::.int .i64 x.r::.int .i64 x.s::.int .i64 x.t::.int .i64 x.a::.int .i64 x.b::cellsO C
theorem cellsO_snoc:∀(C:List OpV) (x:OpV),cellsO (C++[x])=cellsO C++x.cells
 |[],x=>rfl
 |y::C,x=>by simp [cellsO,cellsO_snoc C x]
theorem cellsO_at:∀(C:List OpV) (i:Nat) (h:i<C.length),(cellsO C)[i*6]?=some (.int .i64 C[i].k)∧(cellsO C)[i*6+1]?=some (.int .i64 C[i].r)∧(cellsO C)[i*6+2]?=some (.int .i64 C[i].s)∧(cellsO C)[i*6+3]?=some (.int .i64 C[i].t)∧(cellsO C)[i*6+4]?=some (.int .i64 C[i].a)∧(cellsO C)[i*6+5]?=some (.int .i64 C[i].b)
 |x::C,0,_=>⟨rfl,rfl,rfl,rfl,rfl,rfl⟩
 |x::C,i+1,h=>by
  have ih:=cellsO_at C i (by simpa using h);have e:∀j,(cellsO (x::C))[(i+1)*6+j]?=(cellsO C)[i*6+j]?:=fun j=>by
   rw [show (i+1)*6+j=(i*6+j)+6 by omega];rfl
  exact⟨(e 0).trans ih.1,(e 1).trans ih.2.1,(e 2).trans ih.2.2.1,(e 3).trans ih.2.2.2.1,(e 4).trans ih.2.2.2.2.1,(e 5).trans ih.2.2.2.2.2⟩
abbrev OwnsO (w:World) (B:Nat) (v:Value) (C:List OpV):Prop:=w.ownsRow B 80 6 v C.length (cellsO C)
theorem OwnsO.code {w:World} {B:Nat} {v:Value} {C:List OpV} (h:OwnsO w B v C):∃ao cap,v=.slice ao C.length cap∧CodeAt w ao C∧(C≠[]→∃g,ao=some ⟨g,0,none⟩):=by
 rcases h.2 with⟨rfl,hn⟩|⟨g,cap,cur,rfl,hg,hh,_⟩
 ·have:C=[]:=List.eq_nil_of_length_eq_zero hn;subst this;exact⟨none,0,rfl,.inl rfl,fun h=>absurd rfl h⟩
 ·refine⟨_,cap,rfl,.inr ⟨g,0,rfl,?_,fun i hi=>?_⟩,fun _=>⟨g,rfl⟩⟩
  ·rcases Decidable.em (g<w.heap.size) with h|h
   ·exact h
   ·rw [Array.getElem?_eq_none (by omega)] at hh;cases hh
  ·have k:=World.ownsRow.cellAt (w:=w) (base:=B) (e:=80) (size:=6) (g:=g) (cap:=cap) h;obtain⟨a0,a1,a2,a3,a4,a5⟩:=cellsO_at C i hi;refine⟨?_,?_,?_,?_,?_,?_⟩
   ·rw [Nat.zero_add,k (i*6) (by omega),a0]
   ·rw [Nat.zero_add,k (i*6+1) (by omega),a1]
   ·rw [Nat.zero_add,k (i*6+2) (by omega),a2]
   ·rw [Nat.zero_add,k (i*6+3) (by omega),a3]
   ·rw [Nat.zero_add,k (i*6+4) (by omega),a4]
   ·rw [Nat.zero_add,k (i*6+5) (by omega),a5]
theorem OwnsO.keep {w w':World} {B:Nat} {v:Value} {C:List OpV} (h:OwnsO w B v C) {row:Option Nat} (hg:w.grownBy w' row) (hr:∀k,row=some k→v.ownBlock≠some k):OwnsO w' B v C :=
 World.ownsRow.kept h hg (by
  cases row with
  |none=>cases hv:v.ownBlock with
   |none=>exact .inl rfl
   |some k=>exact .inr (by simp)
  |some k=>exact .inr (hr k rfl))
theorem OwnsO.below {w w':World} {B:Nat} {v:Value} {C:List OpV} (h:OwnsO w B v C) (hb:Below w.heap.size w w'):OwnsO w' B v C :=
 h.keep (row:=none) ⟨hb.os,hb.tape,hb.output,hb.size,fun k hk _=>hb.block k hk⟩ (fun k e=>by cases e)
theorem OwnsO.mono {w:World} {A B:Nat} {v:Value} {C:List OpV} (h:OwnsO w B v C) (hb:A≤B):OwnsO w A v C :=
 ⟨h.1,h.2.imp id fun⟨g,cap,cur,h1,h2,h3⟩=>⟨g,cap,cur,h1,Nat.le_trans hb h2,h3⟩⟩
theorem infoO:∃i,Tryz.prog.info? 80=some i∧i.zero=some (.agg #[.int .i64 0,.int .i64 0,.int .i64 0,.int .i64 0,.int .i64 0,.int .i64 0])∧i.size=6∧i.bytes=48 :=
 ⟨(Tryz.prog.info? 80).get (by kernel_rfl),(Option.some_get _).symm,by kernel_rfl,by kernel_rfl,by kernel_rfl⟩
theorem ownsO_empty (w:World) (B:Nat) (hB:B≤w.heap.size):OwnsO (w.alloc (.cells #[] 80)) B (.slice (some ⟨w.heap.size,0,none⟩) 0 0) []:=by
 have:=World.ownsRow_lit (base:=B) (e:=80) (size:=6) w #[] 0 hB (by unfold maxLen;omega) rfl;simpa [OwnsO,cellsO] using this
theorem specCodeRead_any (x:List UInt8) (w:World) (hx:x.length≤1048576) :
  Calls Tryz.prog 142 #[.string ⟨x.toArray⟩] w fun e w'=>∃C v ok,e=.returned (.tuple #[v,.bool ok])∧ReadCode x C ok∧OwnsO w' w.heap.size v C∧Below w.heap.size w w':=by
 have hz:(⟨x.toArray⟩:ByteArray).size=x.length:=ba_size _;by_cases h400:400<x.length
 ·have g1:(400:Int)<(x.length:Int):=by omega
  go_enter Tryz.func142,Tryz.ntmps142
  go_wp2_with fail
  go_ret2
  exact⟨[],_,false,rfl,read_long h400,ownsO_empty _ _ (Nat.le_refl _),(Below.refl _ _).alloc (Nat.le_refl _) _⟩
 ·have g1:¬(400:Int)<(x.length:Int):=by omega
  go_enter Tryz.func142,Tryz.ntmps142
  go_wp2_with fail
  refine(l2Cut_any _ 10 _ (by rw [hz];omega)).mono ?_;rintro e w1 ⟨v,rfl,ho,hb1⟩;have hz1:=hb1.size;rw [show (⟨x.toArray⟩:ByteArray).data.toList=x from by simp] at ho;have hcl:=cutsAt_len 10 x;have hne:=cutsAt_some 10 x;generalize hPe:cutsAt 10 x=P at *;replace hPe:Hid (cutsAt 10 x=P):=hPe;obtain⟨m,hm⟩:∃m,P.length=m+1:=⟨P.length-1,by have:=List.length_pos_iff.2 hne;omega⟩;rcases ho.2 with⟨_,hn0⟩|⟨g,cap,cur,rfl,hg,hh,_⟩
  ·omega
  have ho':w1.ownsRow w.heap.size 9 1 (.slice (some ⟨g,0,none⟩) P.length cap) P.length (P.map strV):=ho;have hgb:=ho'.lt g rfl;have hc:Hid (∀n,(h:n<P.length)→w1.cell? ⟨g,n,none⟩=some (.string ⟨P[n].toArray⟩)):=by
   show ∀n,(h:n<P.length)→_;intro n h;rw [ho'.cellAt n (by omega),List.getElem?_map,List.getElem?_eq_getElem h];rfl
  clear ho ho' hh hg;by_cases hm1:m<1
  ·have e:m=0:=by omega
   subst e;rw [hm];have hr:Hid (ReadCode x [] false):=read_no_end (.inl (by rw [hPe.out];omega))
   go_wp2_with fail
   go_ret2
   exact⟨[],_,false,rfl,hr.out,ownsO_empty _ _ hz1,hb1.alloc hz1 _⟩
  ·have g2:¬(m:Int)<1:=by omega
   have hml:m<P.length:=by omega
   have hwm:IntKind.i64.wrap (m:Int)=(m:Int):=by simp [IntKind.wrap,IntKind.bits,IntKind.signed];omega
   have cl:=hc.out m hml;have hlast:Hid (P.getLastD []=P[m]):=by
    show _=_;rw [List.getLastD_eq_getLast?,List.getLast?_eq_getElem?,hm];simp only [Nat.add_sub_cancel];rw [List.getElem?_eq_getElem hml];rfl
   rw [hm];by_cases hlz:P[m]=[]
   ·rw [hlz] at cl
    go_wp2_with fail
    have hx0:Hid ((cutsAt 10 x).getLastD []=[]):=by show _=_;rw [hPe.out,hlast.out,hlz]
    have hB1:Below w.heap.size w (w1.alloc (.cells #[] 80)):=hb1.alloc hz1 _;have ho0:OwnsO (w1.alloc (.cells #[] 80)) w1.heap.size (.slice (some ⟨w1.heap.size,0,none⟩) 0 0) []:=ownsO_empty _ _ (Nat.le_refl _);clear cl hlz hlast;obtain⟨inf,i1,i2,i3,i4⟩:=infoO
    go_loopw [6,7] (fun v i wr=>∃(k:Nat) (O:List OpV),k≤m∧i=.int .i64 k∧LinesTo x k O∧OwnsO wr w1.heap.size v O∧Below w1.heap.size w1 wr) (fun _ i _=>m-(intOf i).toNat)
    case atStart=>exact⟨0,[],Nat.zero_le _,rfl,LinesTo.zero x,ho0,(Below.refl _ _).alloc (Nat.le_refl _) _⟩
    case round =>
     clear ho0 hB1;obtain⟨k,O,hk,rfl,hL,hO,hB⟩:=hrel;have hzr:=hB.size;have hOl:=hL.1;by_cases hlt:k<m
     ·have g3:(k:Int)<(m:Int):=by omega
      have hkp:k<P.length:=by omega
      have g4:(k:Int)<(m:Int)+1:=by omega
      have ck:wr.cell? ⟨g,k,none⟩=some (.string ⟨P[k].toArray⟩):=(hB.cell (p:=⟨g,k,none⟩) hgb.2).trans (hc.out k hkp);have hpl:P[k].length≤1048576:=by have:=hcl.2 _ (List.getElem_mem hkp);omega
      have hPk:Hid ((cutsAt 10 x)[k]?=some P[k]):=by show _=_;rw [hPe.out,List.getElem?_eq_getElem hkp]
      have hPl:Hid (k+1<(cutsAt 10 x).length):=by show _<_;rw [hPe.out];omega
      have hL':Hid (LinesTo x k O):=hL;generalize P[k]=q at *;clear hL
      go_wp2_with fail
      refine(specOpRead_any q _ hpl).mono ?_;rintro e w2 ⟨k',r,s,t,a,b,ok,rfl,hR,hb2⟩;have hz2:=hb2.size;have hB2:Below w1.heap.size w1 w2:=hB.trans (hb2.mono hzr);have hO2:=OwnsO.below hO hb2;rcases hR with⟨rfl,hok,hqe⟩|⟨rfl,⟨rfl,rfl,rfl,rfl,rfl,rfl⟩,hno⟩
      ·have hL2:Hid (LinesTo x (k+1) (O++[⟨k',r,s,t,a,b⟩])):=hL'.out.next (o:=⟨k',r,s,t,a,b⟩) hok (by rw [hPk.out,hqe];rfl);clear hqe hL' hPk hPl hO;have hOb:O.length≤1048576:=by omega
       clear hOl
       go_wp2_with (refine wpList_append_own _ rfl (.tmp 46) (.tmp 48) 23 rfl w1.heap.size 80 inf (.agg #[.int .i64 0,.int .i64 0,.int .i64 0,.int .i64 0,.int .i64 0,.int .i64 0]) 6 48 Tryz.underlying23 i1 i2 i3 i4 rfl (by decide) _ _ _ rfl (World.ownsRow.alloc (World.ownsRow.alloc hO2 _) _) ⟨w2.heap.size+1,0,none⟩ 1 1 (OpV.cells ⟨k',r,s,t,a,b⟩) rfl rfl (by intro q u hq;rcases (by have:=(List.getElem?_eq_some_iff.1 hq).1;simp [OpV.cells] at this;omega:q=0∨q=1∨q=2∨q=3∨q=4∨q=5) with rfl|rfl|rfl|rfl|rfl|rfl<;>(simp [OpV.cells] at hq;subst hq;simp [Addr.add,go_sem])) (by simp [OpV.cells,Value.oneCell']) (by unfold maxLen;omega) (by omega) (by simp<;>omega) ?_;intro x0 w4 ho0 hg0 _)
       have hB4:Below w1.heap.size w1 w4:=((hB2.alloc (by omega) _).alloc (by simp;omega) _).grown hg0 (by simp;omega) (by intro k hk;have:=(World.ownsRow.lt hO2 k hk).1;omega)
       go_roundw
       case rel=>exact⟨k+1,_,by omega,by go_num,hL2.out,by unfold OwnsO;rw [cellsO_snoc];simpa using ho0,hB4⟩
       case measure=>simp [intOf];omega
      ·have hr:Hid (ReadCode x [] false):=read_no_line hPl.out hPk.out hno;clear hno hL' hPk hPl
       go_wp2_with fail
       all_goals
        go_ret2
        exact⟨[],_,false,rfl,hr.out,(by simpa using ownsO_empty (w2.alloc (.cells #[.int .i64 0,.int .i64 0,.int .i64 0,.int .i64 0,.int .i64 0,.int .i64 0] 80)) w.heap.size (by simp;omega)),((hb1.trans (hB2.mono hz1)).alloc (by omega) _).alloc (by simp;omega) _⟩
     ·have e:k=m:=by omega
      subst e;have hall:=read_all (O:=O) (by rw [hOl];exact hL) (by rw [hPe.out,hOl];exact hm) hx0.out;obtain⟨ao,cp,rfl,hC,_⟩:=hO.code;have hOs:O.length≤1048576:=by omega
      clear hOl;replace hm:Hid (P.length=k+1):=hm
      go_wp2_with fail
      refine(specCodeOk_any O ao cp _ hOs hC).mono ?_;rintro e w2 ⟨rfl,hb2⟩;have hB2:Below w.heap.size w w2:=hb1.trans ((hB.trans (hb2.mono hzr)).mono hz1);have hz2:=hb2.size;have hO2:=OwnsO.below hO hb2
      cases hcb:codeB O with
      |true =>
       have hr:Hid (ReadCode x O true):=hall.1 hcb;clear hall
       go_wp2_with fail
       go_ret2
       exact⟨O,_,true,rfl,hr.out,OwnsO.mono hO2 (by omega),hB2⟩
      |false =>
       have hr:Hid (ReadCode x [] false):=hall.2 hcb;clear hall
       go_wp2_with fail
       go_ret2
       exact⟨[],_,false,rfl,hr.out,ownsO_empty _ _ (by omega),hB2.alloc (by omega) _⟩
   ·have hbl:(P[m]==[])=false:=by rw [beq_eq_false_iff_ne];exact hlz
    have hr:Hid (ReadCode x [] false):=read_no_end (.inr (by rw [hPe.out,hlast.out];exact hlz));generalize P[m]=q at *
    go_wp2_with fail
    all_goals
     go_ret2
     exact⟨[],_,false,rfl,hr.out,ownsO_empty _ _ hz1,hb1.alloc hz1 _⟩
attribute [local go_sem ↓] Go.wp_at_zero Go.wp_at_succ
def textsA:Array Value:=#[.string ⟨text0.toArray⟩,.string ⟨text1.toArray⟩,.string ⟨text2.toArray⟩,.string ⟨text3.toArray⟩,.string ⟨text4.toArray⟩]
theorem texts_any (w:World):Calls Tryz.prog 144 #[] w fun e w'=>e=.returned (.slice (some ⟨w.heap.size,0,none⟩) 5 5)∧w'=w.alloc (.cells textsA 9):=by
 go_enter Tryz.func144,Tryz.ntmps144
 go_wp2_with fail
 go_ret
 exact⟨rfl,rfl⟩
theorem textsA_at (n:Nat) (h:n<5):textsA[n]?=some (.string ⟨(textsL.getD n []).toArray⟩):=by
 rcases (by omega:n=0∨n=1∨n=2∨n=3∨n=4) with rfl|rfl|rfl|rfl|rfl<;>rfl
end Go.Proofs.YtgmkmeodimmdoaaGreatDoor.Eld
