import Derived.Test.YtgmkmeodimmdoaaGreatDoorBQb
import Derived.Laws.IdiomCopy
import Derived.Deep.RegionWith
import Derived.BigRegion
set_option maxHeartbeats 4000000
set_option maxRecDepth 20000
namespace Go.Proofs.YtgmkmeodimmdoaaGreatDoor.Eld
open Go.ChangeShapes Go.WideShapes Go.ChangeAt Go.RowKit Go.Joins
structure ValAt (w:World) (b o:Nat) (x:Int×Int):Prop where
 c0:w.cell? ⟨b,o,none⟩=some (.int .i64 x.1)
 c1:w.cell? ⟨b,o+1,none⟩=some (.int .i64 x.2)
theorem ValAt.below {S:Nat} {w w':World} {b o:Nat} {x:Int×Int} (h:ValAt w b o x) (hl:b<S) (hb:Below S w w'):ValAt w' b o x :=
 ⟨(hb.cell (p:=⟨b,o,none⟩) hl).trans h.c0,(hb.cell (p:=⟨b,o+1,none⟩) hl).trans h.c1⟩
def Vals (S:Nat) (w:World) (v:Value) (L:List (Int×Int)):Prop :=
 ∃ao cap,v=.slice ao L.length cap∧(L=[]∨∃b o,ao=some ⟨b,o,none⟩∧b<S∧∀i (h:i<L.length),ValAt w b (o+i*2) L[i])
theorem Vals.below {S:Nat} {w w':World} {v:Value} {L:List (Int×Int)} (h:Vals S w v L) (hb:Below S w w'):Vals S w' v L:=by
 obtain⟨ao,cap,hv,h⟩:=h;refine⟨ao,cap,hv,h.imp id ?_⟩;rintro⟨b,o,ha,hl,hc⟩;exact⟨b,o,ha,hl,fun i hi=>(hc i hi).below hl hb⟩
structure RunD where
 id:Int
 pl:Int
 slots:List (Int×Int)
 full:Int
 mail:List (Int×Int)
 st:Int
 due:Int
 links:List Int
 wat:List Int
 trap:Bool
 wk:Int
 wn:Int
 tu:Int
structure RunP where
 a0:Option Addr
 k0:Nat
 a1:Option Addr
 k1:Nat
 a2:Option Addr
 k2:Nat
 a3:Option Addr
 k3:Nat
abbrev RunD.cells (d:RunD) (p:RunP):Array Value:=#[.int .i64 d.id,.int .i64 d.pl,.slice p.a0 d.slots.length p.k0,.int .i64 d.full,.slice p.a1 d.mail.length p.k1,.int .i64 d.st,.int .i64 d.due,.slice p.a2 d.links.length p.k2,.slice p.a3 d.wat.length p.k3,.bool d.trap,.int .i64 d.wk,.int .i64 d.wn,.int .i64 d.tu]
abbrev RunD.val (d:RunD) (p:RunP):Value:=.agg (d.cells p)
def runZ:RunD:=⟨0,0,[],0,[],0,0,[],[],false,0,0,0⟩
abbrev RunD.v0 (d:RunD) (p:RunP):Value:=.slice p.a0 d.slots.length p.k0
abbrev RunD.v1 (d:RunD) (p:RunP):Value:=.slice p.a1 d.mail.length p.k1
abbrev RunD.v2 (d:RunD) (p:RunP):Value:=.slice p.a2 d.links.length p.k2
abbrev RunD.v3 (d:RunD) (p:RunP):Value:=.slice p.a3 d.wat.length p.k3
structure RunAt (w:World) (b:Nat) (d:RunD) (p:RunP):Prop where
 c0:w.cell? ⟨b,0,none⟩=some (.int .i64 d.id)
 c1:w.cell? ⟨b,1,none⟩=some (.int .i64 d.pl)
 c2:w.cell? ⟨b,2,none⟩=some (.slice p.a0 d.slots.length p.k0)
 c3:w.cell? ⟨b,3,none⟩=some (.int .i64 d.full)
 c4:w.cell? ⟨b,4,none⟩=some (.slice p.a1 d.mail.length p.k1)
 c5:w.cell? ⟨b,5,none⟩=some (.int .i64 d.st)
 c6:w.cell? ⟨b,6,none⟩=some (.int .i64 d.due)
 c7:w.cell? ⟨b,7,none⟩=some (.slice p.a2 d.links.length p.k2)
 c8:w.cell? ⟨b,8,none⟩=some (.slice p.a3 d.wat.length p.k3)
 c9:w.cell? ⟨b,9,none⟩=some (.bool d.trap)
 c10:w.cell? ⟨b,10,none⟩=some (.int .i64 d.wk)
 c11:w.cell? ⟨b,11,none⟩=some (.int .i64 d.wn)
 c12:w.cell? ⟨b,12,none⟩=some (.int .i64 d.tu)
theorem RunAt.below {S:Nat} {w w':World} {b:Nat} {d:RunD} {p:RunP} (h:RunAt w b d p) (hl:b<S) (hb:Below S w w'):RunAt w' b d p :=
 ⟨(hb.cell (p:=⟨b,0,none⟩) hl).trans h.c0,(hb.cell (p:=⟨b,1,none⟩) hl).trans h.c1,(hb.cell (p:=⟨b,2,none⟩) hl).trans h.c2,(hb.cell (p:=⟨b,3,none⟩) hl).trans h.c3,(hb.cell (p:=⟨b,4,none⟩) hl).trans h.c4,(hb.cell (p:=⟨b,5,none⟩) hl).trans h.c5,(hb.cell (p:=⟨b,6,none⟩) hl).trans h.c6,(hb.cell (p:=⟨b,7,none⟩) hl).trans h.c7,(hb.cell (p:=⟨b,8,none⟩) hl).trans h.c8,(hb.cell (p:=⟨b,9,none⟩) hl).trans h.c9,(hb.cell (p:=⟨b,10,none⟩) hl).trans h.c10,(hb.cell (p:=⟨b,11,none⟩) hl).trans h.c11,(hb.cell (p:=⟨b,12,none⟩) hl).trans h.c12⟩
structure RunMem (S:Nat) (w:World) (d:RunD) (p:RunP):Prop where
 m0:Vals S w (d.v0 p) d.slots
 m1:Vals S w (d.v1 p) d.mail
 m2:Ints S w (d.v2 p) d.links
 m3:Ints S w (d.v3 p) d.wat
theorem RunMem.below {S:Nat} {w w':World} {d:RunD} {p:RunP} (h:RunMem S w d p) (hb:Below S w w'):RunMem S w' d p:=⟨h.m0.below hb,h.m1.below hb,h.m2.below hb,h.m3.below hb⟩
structure RunD.Short (d:RunD):Prop where
 s0:d.slots.length≤1048576
 s1:d.mail.length≤1048576
 s2:d.links.length≤1048576
 s3:d.wat.length≤1048576
theorem runAt_new (w:World) (d:RunD) (p:RunP) (t:TypeId):RunAt (w.alloc (.cells (d.cells p) t)) w.heap.size d p :=
 ⟨by simp [go_sem],by simp [go_sem],by simp [go_sem],by simp [go_sem],by simp [go_sem],by simp [go_sem],by simp [go_sem],by simp [go_sem],by simp [go_sem],by simp [go_sem],by simp [go_sem],by simp [go_sem],by simp [go_sem]⟩
def isRunB (n:Int):Bool:=decide (1≤n)&&decide (n≤6)
def isPlaceB (n:Int):Bool:=decide (0≤n)&&decide (n≤15)
theorem isRun_any (n:Int) (w:World):Calls Tryz.prog 134 #[.int .i64 n] w fun e w'=>e=.returned (.bool (isRunB n))∧w'=w:=by
 go_enter Tryz.func134,Tryz.ntmps134
 go_wp2_with (go_at_call 170;refine(inRun_any _ _).mono ?_;rintro e w' ⟨rfl,rfl⟩)
 go_ret
 exact⟨rfl,rfl⟩
theorem isPlace_any (n:Int) (w:World):Calls Tryz.prog 135 #[.int .i64 n] w fun e w'=>e=.returned (.bool (isPlaceB n))∧w'=w:=by
 by_cases h1:0≤n
 ·by_cases h2:n<16
  ·go_enter Tryz.func135,Tryz.ntmps135
   go_wp2
   go_ret
   exact⟨by(have:n≤15:=by omega);simp [isPlaceB,h1,this],rfl⟩
  ·go_enter Tryz.func135,Tryz.ntmps135
   go_wp2
   go_ret
   exact⟨by simp [isPlaceB];omega,rfl⟩
 ·go_enter Tryz.func135,Tryz.ntmps135
  go_wp2
  go_ret
  exact⟨by simp [isPlaceB];omega,rfl⟩
theorem l2To_any (n:Int) (w:World):Calls Tryz.prog 108 #[.int .i64 n] w fun e w'=>e=.returned (.bool (isPlaceB n))∧w'=w:=by
 go_enter Tryz.func108,Tryz.ntmps108
 go_wp2_with (go_at_call 40;refine(l6In_any _ _ _ _).mono ?_;rintro e w' ⟨rfl,rfl⟩)
 go_ret
 exact⟨rfl,rfl⟩
def newB (i a k n:Int):Bool:=isRunB i&&(isPlaceB a&&okB k n)
def newR (i a k n:Int):RunD:=⟨i,a,[(k,n),(0,0),(0,0),(0,0)],1,[],1,0,[],[],false,0,0,0⟩
def newD (i a k n:Int):RunD:=if newB i a k n=true then newR i a k n else runZ
def allOk (L:List (Int×Int)):Bool:=L.all fun x=>okB x.1 x.2
def mailB (L:List (Int×Int)):Bool:=decide (L.length≤12)&&allOk L
theorem allOk_no {L:List (Int×Int)} {i:Nat} (hi:i<L.length) (h:okB L[i].1 L[i].2=false):allOk L=false:=by
 unfold allOk;rw [List.all_eq_false];exact⟨L[i],List.getElem_mem hi,by rw [h];simp⟩
theorem allOk_yes {L:List (Int×Int)} (h:∀i (h:i<L.length),okB L[i].1 L[i].2=true):allOk L=true:=by
 unfold allOk;rw [List.all_eq_true];intro x hx;obtain⟨i,hi,rfl⟩:=List.getElem_of_mem hx;exact h i hi
theorem mailOk_any (S:Nat) (d:RunD) (q:RunP) (w:World) (hS:S≤w.heap.size) (hl:d.mail.length≤1048576) (h:Vals S w (d.v1 q) d.mail) :
  Calls Tryz.prog 137 #[d.val q] w fun e w'=>e=.returned (.bool (mailB d.mail))∧Below w.heap.size w w':=by
 have hb0:Below w.heap.size w (w.alloc (.cells (d.cells q) 34)):=(Below.refl _ _).alloc (Nat.le_refl _) _;have c04:(w.alloc (.cells (d.cells q) 34)).cell? ⟨w.heap.size,4,none⟩=some (.slice q.a1 d.mail.length q.k1):=(runAt_new w d q 34).c4;have hz0:w.heap.size<(w.alloc (.cells (d.cells q) 34)).heap.size:=by simp
 obtain⟨ao,cap,hv,hc⟩:=h;have hv':Value.slice q.a1 d.mail.length q.k1=.slice ao d.mail.length cap:=hv
 injection hv' with h1 _ h3
 rw [h1,h3] at c04;by_cases h12:d.mail.length≤12
 case neg =>
  have g1:(12:Int)<(d.mail.length:Int):=by omega
  have hf:Hid (mailB d.mail=false):=by show mailB d.mail=false;simp [mailB,h12]
  go_enter Tryz.func137,Tryz.ntmps137
  go_wp2_with fail
  go_ret
  exact⟨by rw [hf.out];rfl,hb0⟩
 have g1:¬(12:Int)<(d.mail.length:Int):=by omega
 have hm:Hid (mailB d.mail=allOk d.mail):=by show mailB d.mail=allOk d.mail;simp [mailB,h12]
 rcases hc with hL0|⟨b,o,rfl,hb,hc⟩
 ·have hy:Hid (mailB d.mail=true):=by show mailB d.mail=true;rw [hm.out,hL0];rfl
  have hn0:((d.mail.length:Nat):Int)=0:=by rw [hL0];rfl
  replace hL0:Hid (d.mail=[]):=hL0
  go_enter Tryz.func137,Tryz.ntmps137
  go_wp2_with fail
  refine wp_loop_rounds 1 ?_;rw [rounds_succ]
  go_wp2_with fail
  go_ret
  exact⟨by rw [hy.out];rfl,hb0⟩
 replace hc:Hid (∀i (h:i<d.mail.length),ValAt w b (o+i*2) d.mail[i]):=hc
 go_enter Tryz.func137,Tryz.ntmps137
 go_wp2_with fail
 generalize hLe:d.mail=L at *;replace hLe:Hid (d.mail=L):=hLe;generalize (w.alloc (.cells (d.cells q) 34))=w0 at *
 go_loopw [12] (fun i wr=>∃k:Nat,k≤L.length∧i=.int .i64 k∧(∀j (h:j<L.length),j<k→okB L[j].1 L[j].2=true)∧Below w0.heap.size w0 wr) (fun i _=>L.length-(intOf i).toNat)
 case atStart=>exact⟨0,Nat.zero_le _,rfl,fun j _ hj=>by omega,Below.refl _ _⟩
 case round =>
  obtain⟨k,hk,rfl,hU,hBr⟩:=hrel;have hzr:=hBr.size;replace hU:Hid (∀j (h:j<L.length),j<k→okB L[j].1 L[j].2=true):=hU;have hBw:Below w.heap.size w wr:=hb0.trans (hBr.mono (by omega));by_cases hlt:k<L.length
  ·have g2:(k:Int)<(L.length:Int):=by omega
   obtain⟨v0,v1⟩:=hc.out k hlt;have d0:wr.cell? ⟨b,o+k*2,none⟩=some (.int .i64 L[k].1):=(hBw.cell (p:=⟨b,o+k*2,none⟩) (by show b<w.heap.size;omega)).trans v0;have d1:wr.cell? ⟨b,o+k*2+1,none⟩=some (.int .i64 L[k].2):=(hBw.cell (p:=⟨b,o+k*2+1,none⟩) (by show b<w.heap.size;omega)).trans v1;have hno:Hid (okB L[k].1 L[k].2=false→allOk L=false):=fun h=>allOk_no hlt h
   have hyes:Hid (okB L[k].1 L[k].2=true→∀j (h:j<L.length),j<k+1→okB L[j].1 L[j].2=true):=fun h j hjl hj=>by
    by_cases e:j<k
    ·exact hU.out j hjl e
    ·have:j=k:=by omega
     subst this;exact h
   clear v0 v1;generalize L[k].1=x at *;generalize L[k].2=y at *
   go_wp2_with fail
   refine(implOk_any x y _).mono ?_;rintro e w1 ⟨rfl,hb1⟩;have hB1:Below w0.heap.size w0 w1:=(hBr.alloc hzr _).trans (hb1.mono (by simp;omega))
   cases ho:okB x y with
   |false =>
    have hf:Hid (allOk L=false):=hno.out ho;clear hb1
    go_wp2_with fail
    go_ret
    exact⟨by rw [hLe.out,hm.out,hf.out];rfl,hb0.trans (hB1.mono (by omega))⟩
   |true =>
    have hn:Hid (∀j (h:j<L.length),j<k+1→okB L[j].1 L[j].2=true):=hyes.out ho;clear hb1
    go_wp2_with fail
    go_roundw
    case rel=>exact⟨k+1,by omega,by go_num,hn.out,hB1⟩
    case measure=>simp [intOf];omega
  ·have e:k=L.length:=by omega
   subst e;have hy:Hid (allOk L=true):=allOk_yes (fun i hi=>hU.out i hi hi)
   go_wp2_with fail
   go_ret
   exact⟨by rw [hLe.out,hm.out,hy.out];rfl,hBw⟩
def bit5 (r:Int):Int:=if r=0 then 1 else if r=1 then 2 else if r=2 then 4 else if r=3 then 8 else 16
theorem slotBit5_any (r:Int) (w:World) (h0:0≤r) (h4:r≤4):Calls Tryz.prog 168 #[.int .i64 r] w fun e w'=>e=.returned (.int .i64 (bit5 r))∧w'=w:=by
 rcases (by omega:r=0∨r=1∨r=2∨r=3∨r=4) with rfl|rfl|rfl|rfl|rfl <;>
 ·go_enter Tryz.func168,Tryz.ntmps168
  go_wp2_with fail
  go_ret
  exact⟨rfl,rfl⟩
end Go.Proofs.YtgmkmeodimmdoaaGreatDoor.Eld
