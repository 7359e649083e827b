import Derived.Test.YtbejochaghmmbaaGreatDoorKQb
import Derived.Laws.IdiomCopy
import Derived.Deep.RegionWith
import Derived.BigRegion
import Derived.Test.YtbejochaghmmbaaGreatDoorKQa
namespace Go.Proofs.YtbejochaghmmbaaGreatDoor.Eld
open Go.ChangeShapes Go.WideShapes Go.ChangeAt Go.RowKit Go.Joins
abbrev vval (x:Int×Int):Value:=.agg #[.int .i64 x.1,.int .i64 x.2]
def cellsV:List (Int×Int)→List Value
 | []=>[]
 | x::L=>.int .i64 x.1::.int .i64 x.2::cellsV L
theorem cellsV_len:∀L:List (Int×Int),(cellsV L).length=L.length*2
 | []=>rfl
 | x::L=>by simp [cellsV,cellsV_len L];omega
theorem cellsV_at0:∀(L:List (Int×Int)) (i:Nat) (h:i<L.length),(cellsV L)[i*2]?=some (.int .i64 L[i].1)
 | x::L,0,_=>rfl
 | x::L,i+1,h=>by
  have e:(i+1)*2=i*2+1+1:=by omega
  rw [e,cellsV,List.getElem?_cons_succ,List.getElem?_cons_succ,cellsV_at0 L i (by simpa using h)];rfl
theorem cellsV_at1:∀(L:List (Int×Int)) (i:Nat) (h:i<L.length),(cellsV L)[i*2+1]?=some (.int .i64 L[i].2)
 | x::L,0,_=>rfl
 | x::L,i+1,h=>by
  have e:(i+1)*2+1=(i*2+1)+1+1:=by omega
  rw [e,cellsV,List.getElem?_cons_succ,List.getElem?_cons_succ,cellsV_at1 L i (by simpa using h)];rfl
theorem cellsV_set:∀(L:List (Int×Int)) (i:Nat) (_:i<L.length) (a b:Int),((cellsV L).set (i*2) (.int .i64 a)).set (i*2+1) (.int .i64 b)=cellsV (L.set i (a,b))
 | x::L,0,_,a,b=>rfl
 | x::L,i+1,h,a,b=>by
  have e:(i+1)*2=i*2+1+1:=by omega
  have e1:(i+1)*2+1=(i*2+1)+1+1:=by omega
  rw [e1,e,cellsV,List.set_cons_succ,List.set_cons_succ,List.set_cons_succ,List.set_cons_succ,cellsV_set L i (by simpa using h) a b];rfl
structure ValAt (w:World) (b o:Nat) (x:Int×Int):Prop where
 c0:w.cell? ⟨b,o,none⟩=some (.int .i64 x.1)
 c1:w.cell? ⟨b,o+1,none⟩=some (.int .i64 x.2)
theorem ValAt.below {S:Nat} {w w':World} {b o:Nat} {x:Int×Int} (h:ValAt w b o x) (hl:b<S) (hb:Below S w w'):ValAt w' b o x :=
 ⟨(hb.cell (p:=⟨b,o,none⟩) hl).trans h.c0,(hb.cell (p:=⟨b,o+1,none⟩) hl).trans h.c1⟩
def Vals (S:Nat) (w:World) (v:Value) (L:List (Int×Int)):Prop :=
 ∃ao cap,v=.slice ao L.length cap∧(L=[]∨∃b o,ao=some ⟨b,o,none⟩∧b<S∧∀i (h:i<L.length),ValAt w b (o+i*2) L[i])
theorem Vals.below {S:Nat} {w w':World} {v:Value} {L:List (Int×Int)} (h:Vals S w v L) (hb:Below S w w'):Vals S w' v L:=by
 obtain⟨ao,cap,hv,h⟩:=h
 refine⟨ao,cap,hv,h.imp id ?_⟩
 rintro⟨b,o,ha,hl,hc⟩
 exact⟨b,o,ha,hl,fun i hi=>(hc i hi).below hl hb⟩
theorem Vals.mono {S T:Nat} {w:World} {v:Value} {L:List (Int×Int)} (h:Vals S w v L) (hs:S≤T):Vals T w v L:=by
 obtain⟨ao,cap,hv,h⟩:=h
 refine⟨ao,cap,hv,h.imp id ?_⟩
 rintro⟨b,o,ha,hl,hc⟩
 exact⟨b,o,ha,by omega,hc⟩
abbrev OwnsV (w:World) (B:Nat) (v:Value) (L:List (Int×Int)):Prop:=w.ownsRow B 37 2 v L.length (cellsV L)
theorem OwnsV.vals {w:World} {B:Nat} {v:Value} {L:List (Int×Int)} (h:OwnsV w B v L):Vals w.heap.size w v L:=by
 rcases h.2 with ⟨rfl,hn⟩ | ⟨g,cap,cur,rfl,hg,hh,_⟩
 ·have:L=[]:=List.eq_nil_of_length_eq_zero hn
  subst this
  exact⟨none,0,rfl,.inl rfl⟩
 ·refine⟨_,cap,rfl,.inr ⟨g,0,rfl,?_,fun i hi=>?_⟩⟩
  ·rcases Decidable.em (g<w.heap.size) with h | h
   ·exact h
   ·rw [Array.getElem?_eq_none (by omega)] at hh;cases hh
  ·have k:=World.ownsRow.cellAt (w:=w) (base:=B) (e:=37) (size:=2) (g:=g) (cap:=cap) h
   refine⟨?_,?_⟩
   ·rw [Nat.zero_add,k (i*2) (by omega),cellsV_at0 L i hi]
   ·rw [Nat.zero_add,k (i*2+1) (by omega),cellsV_at1 L i hi]
theorem OwnsV.keep {w w':World} {B:Nat} {v:Value} {L:List (Int×Int)} (h:OwnsV w B v L) {row:Option Nat} (hg:w.grownBy w' row) (hr:∀k,row=some k→v.ownBlock≠some k):OwnsV w' B v L :=
 World.ownsRow.kept h hg (by
  cases row with
  | none=>cases hv:v.ownBlock with
   | none=>exact .inl rfl
   | some k=>exact .inr (by simp)
  | some k=>exact .inr (hr k rfl))
theorem OwnsV.below {w w':World} {B:Nat} {v:Value} {L:List (Int×Int)} (h:OwnsV w B v L) (hb:Below w.heap.size w w'):OwnsV w' B v L :=
 h.keep (row:=none) ⟨hb.os,hb.tape,hb.output,hb.size,fun k hk _=>hb.block k hk⟩ (fun k e=>by cases e)
theorem OwnsV.mono {w:World} {A B:Nat} {v:Value} {L:List (Int×Int)} (h:OwnsV w B v L) (hb:A≤B):OwnsV w A v L :=
 ⟨h.1,h.2.imp id fun⟨g,cap,cur,h1,h2,h3⟩=>⟨g,cap,cur,h1,Nat.le_trans hb h2,h3⟩⟩
theorem info_val:∃i,Tryz.prog.info? 37=some i∧i.zero=some (.agg #[.int .i64 0,.int .i64 0])∧i.size=2∧i.bytes=16 :=
 ⟨(Tryz.prog.info? 37).get (by kernel_rfl),(Option.some_get _).symm,by kernel_rfl,by kernel_rfl,by kernel_rfl⟩
def upsI (a:Int) (n:Nat):List Int:=(List.range n).map fun i:Nat=>a+(i:Int)
theorem upsI_len (a:Int) (n:Nat):(upsI a n).length=n:=by simp [upsI]
theorem upsI_at (a:Int) (n i:Nat) (h:i<n):(upsI a n)[i]'(by rw [upsI_len];exact h)=a+(i:Int):=by simp [upsI]
def markedI (a:Int) (L:List Int) (k:Nat):List Int:=upsI a k++L.drop k
theorem markedI_len (a:Int) (L:List Int) (k:Nat) (h:k≤L.length):(markedI a L k).length=L.length:=by simp [markedI,upsI_len];omega
theorem markedI_step (a:Int) (L:List Int) (k:Nat) (h:k<L.length):(markedI a L k).set k (a+(k:Int))=markedI a L (k+1):=by
 unfold markedI
 rw [List.set_append_right _ _ (by rw [upsI_len];exact Nat.le_refl _),upsI_len,Nat.sub_self,List.drop_eq_getElem_cons h,List.set_cons_zero]
 unfold upsI
 rw [List.range_succ,List.map_append]
 simp only [List.map_cons,List.map_nil,List.append_assoc,List.cons_append,List.nil_append]
theorem markedI_all (a:Int) (L:List Int):markedI a L L.length=upsI a L.length:=by simp [markedI]
def upsV (a:Int) (n:Nat):List (Int×Int):=(List.range n).map fun i:Nat=>(a+2*(i:Int),a+2*(i:Int)+1)
theorem upsV_len (a:Int) (n:Nat):(upsV a n).length=n:=by simp [upsV]
theorem upsV_at (a:Int) (n i:Nat) (h:i<n):(upsV a n)[i]'(by rw [upsV_len];exact h)=(a+2*(i:Int),a+2*(i:Int)+1):=by simp [upsV]
def markedV (a:Int) (L:List (Int×Int)) (k:Nat):List (Int×Int):=upsV a k++L.drop k
theorem markedV_len (a:Int) (L:List (Int×Int)) (k:Nat) (h:k≤L.length):(markedV a L k).length=L.length:=by simp [markedV,upsV_len];omega
theorem markedV_step (a:Int) (L:List (Int×Int)) (k:Nat) (h:k<L.length):(markedV a L k).set k (a+2*(k:Int),a+2*(k:Int)+1)=markedV a L (k+1):=by
 unfold markedV
 rw [List.set_append_right _ _ (by rw [upsV_len];exact Nat.le_refl _),upsV_len,Nat.sub_self,List.drop_eq_getElem_cons h,List.set_cons_zero]
 unfold upsV
 rw [List.range_succ,List.map_append]
 simp only [List.map_cons,List.map_nil,List.append_assoc,List.cons_append,List.nil_append]
theorem markedV_all (a:Int) (L:List (Int×Int)):markedV a L L.length=upsV a L.length:=by simp [markedV]
def ups (n:Nat):List Int:=(List.range n).map fun i:Nat=>(i:Int)+1
theorem ups_len (n:Nat):(ups n).length=n:=by simp [ups]
theorem ups_at (n i:Nat) (h:i<n):(ups n)[i]'(by rw [ups_len];exact h)=(i:Int)+1:=by simp [ups]
def marked (L:List Int) (k:Nat):List Int:=ups k++L.drop k
theorem marked_len (L:List Int) (k:Nat) (h:k≤L.length):(marked L k).length=L.length:=by simp [marked,ups_len];omega
theorem marked_step (L:List Int) (k:Nat) (h:k<L.length):(marked L k).set k ((k:Int)+1)=marked L (k+1):=by
 unfold marked
 rw [List.set_append_right _ _ (by rw [ups_len];exact Nat.le_refl _),ups_len,Nat.sub_self,List.drop_eq_getElem_cons h,List.set_cons_zero]
 unfold ups
 rw [List.range_succ,List.map_append]
 simp only [List.map_cons,List.map_nil,List.append_assoc,List.cons_append,List.nil_append]
theorem marked_all (L:List Int):marked L L.length=ups L.length:=by simp [marked]
structure RunD where
 id:Int
 pl:Int
 slots:List (Int×Int)
 full:Int
 mail:List (Int×Int)
 st:Int
 due:Int
 links:List Int
 wat:List Int
 trap:Bool
 wk:Int
 wn:Int
 tu:Int
structure RunP where
 a0:Option Addr
 k0:Nat
 a1:Option Addr
 k1:Nat
 a2:Option Addr
 k2:Nat
 a3:Option Addr
 k3:Nat
abbrev RunD.cells (d:RunD) (p:RunP):Array Value:=#[.int .i64 d.id,.int .i64 d.pl,.slice p.a0 d.slots.length p.k0,.int .i64 d.full,.slice p.a1 d.mail.length p.k1,.int .i64 d.st,.int .i64 d.due,.slice p.a2 d.links.length p.k2,.slice p.a3 d.wat.length p.k3,.bool d.trap,.int .i64 d.wk,.int .i64 d.wn,.int .i64 d.tu]
abbrev RunD.val (d:RunD) (p:RunP):Value:=.agg (d.cells p)
def runZ:RunD:=⟨0,0,[],0,[],0,0,[],[],false,0,0,0⟩
def runPZ:RunP:=⟨none,0,none,0,none,0,none,0⟩
abbrev RunD.v0 (d:RunD) (p:RunP):Value:=.slice p.a0 d.slots.length p.k0
abbrev RunD.v1 (d:RunD) (p:RunP):Value:=.slice p.a1 d.mail.length p.k1
abbrev RunD.v2 (d:RunD) (p:RunP):Value:=.slice p.a2 d.links.length p.k2
abbrev RunD.v3 (d:RunD) (p:RunP):Value:=.slice p.a3 d.wat.length p.k3
structure RunAt (w:World) (b:Nat) (d:RunD) (p:RunP):Prop where
 c0:w.cell? ⟨b,0,none⟩=some (.int .i64 d.id)
 c1:w.cell? ⟨b,1,none⟩=some (.int .i64 d.pl)
 c2:w.cell? ⟨b,2,none⟩=some (.slice p.a0 d.slots.length p.k0)
 c3:w.cell? ⟨b,3,none⟩=some (.int .i64 d.full)
 c4:w.cell? ⟨b,4,none⟩=some (.slice p.a1 d.mail.length p.k1)
 c5:w.cell? ⟨b,5,none⟩=some (.int .i64 d.st)
 c6:w.cell? ⟨b,6,none⟩=some (.int .i64 d.due)
 c7:w.cell? ⟨b,7,none⟩=some (.slice p.a2 d.links.length p.k2)
 c8:w.cell? ⟨b,8,none⟩=some (.slice p.a3 d.wat.length p.k3)
 c9:w.cell? ⟨b,9,none⟩=some (.bool d.trap)
 c10:w.cell? ⟨b,10,none⟩=some (.int .i64 d.wk)
 c11:w.cell? ⟨b,11,none⟩=some (.int .i64 d.wn)
 c12:w.cell? ⟨b,12,none⟩=some (.int .i64 d.tu)
theorem RunAt.below {S:Nat} {w w':World} {b:Nat} {d:RunD} {p:RunP} (h:RunAt w b d p) (hl:b<S) (hb:Below S w w'):RunAt w' b d p :=
 ⟨(hb.cell (p:=⟨b,0,none⟩) hl).trans h.c0,(hb.cell (p:=⟨b,1,none⟩) hl).trans h.c1,(hb.cell (p:=⟨b,2,none⟩) hl).trans h.c2,(hb.cell (p:=⟨b,3,none⟩) hl).trans h.c3,(hb.cell (p:=⟨b,4,none⟩) hl).trans h.c4,(hb.cell (p:=⟨b,5,none⟩) hl).trans h.c5,(hb.cell (p:=⟨b,6,none⟩) hl).trans h.c6,(hb.cell (p:=⟨b,7,none⟩) hl).trans h.c7,(hb.cell (p:=⟨b,8,none⟩) hl).trans h.c8,(hb.cell (p:=⟨b,9,none⟩) hl).trans h.c9,(hb.cell (p:=⟨b,10,none⟩) hl).trans h.c10,(hb.cell (p:=⟨b,11,none⟩) hl).trans h.c11,(hb.cell (p:=⟨b,12,none⟩) hl).trans h.c12⟩
structure RunMem (S:Nat) (w:World) (d:RunD) (p:RunP):Prop where
 m0:Vals S w (d.v0 p) d.slots
 m1:Vals S w (d.v1 p) d.mail
 m2:Ints S w (d.v2 p) d.links
 m3:Ints S w (d.v3 p) d.wat
theorem RunMem.below {S:Nat} {w w':World} {d:RunD} {p:RunP} (h:RunMem S w d p) (hb:Below S w w'):RunMem S w' d p:=⟨h.m0.below hb,h.m1.below hb,h.m2.below hb,h.m3.below hb⟩
theorem RunMem.mono {S T:Nat} {w:World} {d:RunD} {p:RunP} (h:RunMem S w d p) (hs:S≤T):RunMem T w d p:=⟨h.m0.mono hs,h.m1.mono hs,h.m2.mono hs,h.m3.mono hs⟩
structure RunD.Short (d:RunD):Prop where
 s0:d.slots.length≤1048576
 s1:d.mail.length≤1048576
 s2:d.links.length≤1048576
 s3:d.wat.length≤1048576
def Apart (u v:Value):Prop:=∀k,u.ownBlock=some k→v.ownBlock≠some k
theorem Apart.symm {u v:Value} (h:Apart u v):Apart v u:=fun k hk e=>h k e hk
structure OwnRun (w:World) (B:Nat) (d:RunD) (p:RunP):Prop where
 o0:OwnsV w B (d.v0 p) d.slots
 o1:OwnsV w B (d.v1 p) d.mail
 o2:Owns w B (d.v2 p) d.links
 o3:Owns w B (d.v3 p) d.wat
 x01:Apart (d.v0 p) (d.v1 p)
 x02:Apart (d.v0 p) (d.v2 p)
 x03:Apart (d.v0 p) (d.v3 p)
 x12:Apart (d.v1 p) (d.v2 p)
 x13:Apart (d.v1 p) (d.v3 p)
 x23:Apart (d.v2 p) (d.v3 p)
theorem OwnRun.mem {w:World} {B:Nat} {d:RunD} {p:RunP} (h:OwnRun w B d p):RunMem w.heap.size w d p:=⟨OwnsV.vals h.o0,OwnsV.vals h.o1,Owns.ints h.o2,Owns.ints h.o3⟩
theorem OwnRun.below {w w':World} {B:Nat} {d:RunD} {p:RunP} (h:OwnRun w B d p) (hb:Below w.heap.size w w'):OwnRun w' B d p :=
 ⟨OwnsV.below h.o0 hb,OwnsV.below h.o1 hb,Owns.below h.o2 hb,Owns.below h.o3 hb,h.x01,h.x02,h.x03,h.x12,h.x13,h.x23⟩
theorem OwnRun.mono {w:World} {A B:Nat} {d:RunD} {p:RunP} (h:OwnRun w B d p) (hb:A≤B):OwnRun w A d p :=
 ⟨OwnsV.mono h.o0 hb,OwnsV.mono h.o1 hb,Owns.mono h.o2 hb,Owns.mono h.o3 hb,h.x01,h.x02,h.x03,h.x12,h.x13,h.x23⟩
theorem Owns.apart {w w':World} {B:Nat} {u v:Value} {L:List Int} (h:Owns w B v L) (hg:w.grownBy w' u.ownBlock) (hx:Apart u v):Owns w' B v L :=
 World.ownsRow.kept h hg (by
  cases hv:v.ownBlock with
  | none=>exact .inl rfl
  | some k=>exact .inr fun e=>hx k e.symm hv)
theorem OwnsV.apart {w w':World} {B:Nat} {u v:Value} {L:List (Int×Int)} (h:OwnsV w B v L) (hg:w.grownBy w' u.ownBlock) (hx:Apart u v):OwnsV w' B v L :=
 World.ownsRow.kept h hg (by
  cases hv:v.ownBlock with
  | none=>exact .inl rfl
  | some k=>exact .inr fun e=>hx k e.symm hv)
def RunD.marks (d:RunD):Int:=2*(d.slots.length:Int)+2*(d.mail.length:Int)+(d.links.length:Int)+(d.wat.length:Int)
def RunD.up (d:RunD) (a:Int):RunD :=
 { d with slots:=upsV a d.slots.length,mail:=upsV (a+2*(d.slots.length:Int)) d.mail.length,links:=upsI (a+2*(d.slots.length:Int)+2*(d.mail.length:Int)) d.links.length,wat:=upsI (a+2*(d.slots.length:Int)+2*(d.mail.length:Int)+(d.links.length:Int)) d.wat.length }
theorem RunD.up_v (d:RunD) (a:Int) (p:RunP):(d.up a).v0 p=d.v0 p∧(d.up a).v1 p=d.v1 p∧(d.up a).v2 p=d.v2 p∧(d.up a).v3 p=d.v3 p:=by
 simp [RunD.up,upsV_len,upsI_len,RunD.v0,RunD.v1,RunD.v2,RunD.v3]
theorem RunD.up_val (d:RunD) (a:Int) (p:RunP):(d.up a).val p=d.val p:=by
 simp [RunD.up,upsV_len,upsI_len,RunD.val,RunD.cells]
theorem runAt_new (w:World) (d:RunD) (p:RunP) (t:TypeId):RunAt (w.alloc (.cells (d.cells p) t)) w.heap.size d p :=
 ⟨by simp [go_sem],by simp [go_sem],by simp [go_sem],by simp [go_sem],by simp [go_sem],by simp [go_sem],by simp [go_sem],by simp [go_sem],by simp [go_sem],by simp [go_sem],by simp [go_sem],by simp [go_sem],by simp [go_sem]⟩
theorem OwnsV.block {w:World} {B:Nat} {v:Value} {L:List (Int×Int)} (h:OwnsV w B v L) (k:Nat) (e:v.ownBlock=some k):B≤k:=(World.ownsRow.lt h k e).1
theorem Owns.block {w:World} {B:Nat} {v:Value} {L:List Int} (h:Owns w B v L) (k:Nat) (e:v.ownBlock=some k):B≤k:=(World.ownsRow.lt h k e).1
def KeptBut (d:RunD) (p:RunP) (w w':World):Prop:=∀k,k<w.heap.size→(d.v0 p).ownBlock≠some k→(d.v1 p).ownBlock≠some k→(d.v2 p).ownBlock≠some k→(d.v3 p).ownBlock≠some k→w'.heap[k]?=w.heap[k]?
theorem RunAt.same {w w':World} {b:Nat} {d:RunD} {p:RunP} (h:RunAt w b d p) (e:w'.heap[b]?=w.heap[b]?):RunAt w' b d p:=by
 have k:∀i v,w.cell? ⟨b,i,none⟩=some v→w'.cell? ⟨b,i,none⟩=some v:=fun i v hv=>by
  rw [World.cell?_of_block (w:=w) e];exact hv
 exact⟨k _ _ h.c0,k _ _ h.c1,k _ _ h.c2,k _ _ h.c3,k _ _ h.c4,k _ _ h.c5,k _ _ h.c6,k _ _ h.c7,k _ _ h.c8,k _ _ h.c9,k _ _ h.c10,k _ _ h.c11,k _ _ h.c12⟩
theorem RunAt.but {w w':World} {b:Nat} {d:RunD} {p:RunP} {row:Option Nat} (h:RunAt w b d p) (hg:w.grownBy w' row) (hr:row≠some b):RunAt w' b d p:=by
 have k:∀i v,w.cell? ⟨b,i,none⟩=some v→w'.cell? ⟨b,i,none⟩=some v:=fun i v hv=>by
  rw [World.cell?_of_block (w:=w) (hg.block b (World.block_lt_of_cell? _ _ hv) (fun e=>hr e.symm))];exact hv
 exact⟨k _ _ h.c0,k _ _ h.c1,k _ _ h.c2,k _ _ h.c3,k _ _ h.c4,k _ _ h.c5,k _ _ h.c6,k _ _ h.c7,k _ _ h.c8,k _ _ h.c9,k _ _ h.c10,k _ _ h.c11,k _ _ h.c12⟩
theorem But.grown {R:Nat} {a b:World} (h:But R a b):a.grownBy b (some R):=⟨h.os,h.tape,h.output,h.size,fun k hk hn=>h.block k hk (fun e=>hn (by rw [e]))⟩
theorem made_val (n j:Nat) (h:j<n):(madeCells (Value.cells (.agg #[.int .i64 0,.int .i64 0])) n).toList[j]?=some (.int .i64 0):=by
 have h6:j % 2<2:=Nat.mod_lt _ (by decide)
 have key:∀r,r<2→(#[.int .i64 0,.int .i64 0]:Array Value)[r]! = .int .i64 0
  | 0,_=>rfl
  | 1,_=>rfl
 simp only [madeCells,Value.cells,Array.toList_map,Array.toList_range,List.getElem?_map,List.getElem?_range h,Option.map_some]
 exact congrArg some (key _ h6)
theorem cellsV_zero:∀n,cellsV (List.replicate n (0,0))=List.replicate (n*2) (.int .i64 0)
 | 0=>rfl
 | n+1=>by
  have e:(n+1)*2=n*2+1+1:=by omega
  rw [e,List.replicate_succ,cellsV,cellsV_zero n,List.replicate_succ,List.replicate_succ]
theorem made_vals (n:Nat):(madeCells (Value.cells (.agg #[.int .i64 0,.int .i64 0])) (n*2)).toList=cellsV (List.replicate n (0,0)):=by
 rw [cellsV_zero]
 apply List.ext_getElem?
 intro j
 by_cases h:j<n*2
 ·rw [made_val _ _ h,List.getElem?_replicate,if_pos h]
 ·rw [List.getElem?_replicate,if_neg h,List.getElem?_eq_none]
  simp only [madeCells,Array.toList_map,Array.toList_range,List.length_map,List.length_range];omega
def isRunB (n:Int):Bool:=decide (1≤n)&&decide (n≤6)
def isPlaceB (n:Int):Bool:=decide (0≤n)&&decide (n≤15)
theorem isRun_any (n:Int) (w:World):Calls Tryz.prog 75 #[.int .i64 n] w fun e w'=>e=.returned (.bool (isRunB n))∧w'=w:=by
 go_enter Tryz.func75,Tryz.ntmps75
 go_wp2_with (go_at_call 129;refine(inRun_any _ _).mono ?_;rintro e w' ⟨rfl,rfl⟩)
 go_ret
 exact⟨rfl,rfl⟩
theorem isPlace_any (n:Int) (w:World):Calls Tryz.prog 76 #[.int .i64 n] w fun e w'=>e=.returned (.bool (isPlaceB n))∧w'=w:=by
 by_cases h1:0≤n
 ·by_cases h2:n<16
  ·go_enter Tryz.func76,Tryz.ntmps76
   go_wp2
   go_ret
   exact⟨by(have:n≤15:=by omega);simp [isPlaceB,h1,this],rfl⟩
  ·go_enter Tryz.func76,Tryz.ntmps76
   go_wp2
   go_ret
   exact⟨by simp [isPlaceB];omega,rfl⟩
 ·go_enter Tryz.func76,Tryz.ntmps76
  go_wp2
  go_ret
  exact⟨by simp [isPlaceB];omega,rfl⟩
theorem l2To_any (n:Int) (w:World):Calls Tryz.prog 138 #[.int .i64 n] w fun e w'=>e=.returned (.bool (isPlaceB n))∧w'=w:=by
 go_enter Tryz.func138,Tryz.ntmps138
 go_wp2_with (go_at_call 57;refine(l6In_any _ _ _ _).mono ?_;rintro e w' ⟨rfl,rfl⟩)
 go_ret
 exact⟨rfl,rfl⟩
def newB (i a k n:Int):Bool:=isRunB i&&(isPlaceB a&&okB k n)
def newR (i a k n:Int):RunD:=⟨i,a,[(k,n),(0,0),(0,0),(0,0)],1,[],1,0,[],[],false,0,0,0⟩
def newD (i a k n:Int):RunD:=if newB i a k n=true then newR i a k n else runZ
theorem newD_yes {i a k n:Int} (h:newB i a k n=true):newD i a k n=newR i a k n:=if_pos h
theorem newD_no {i a k n:Int} (h:newB i a k n=false):newD i a k n=runZ:=if_neg (by rw [h];decide)
theorem own_runZ (w:World) (B:Nat):OwnRun w B runZ runPZ:=by
 have ap:∀v:Value,Apart (.slice none 0 0) v:=fun v k e=>by cases e
 exact⟨World.ownsRow_nil _ _ _ _,World.ownsRow_nil _ _ _ _,World.ownsRow_nil _ _ _ _,World.ownsRow_nil _ _ _ _,ap _,ap _,ap _,ap _,ap _,ap _⟩
set_option maxRecDepth 20000 in
set_option maxHeartbeats 4000000 in
theorem implNew_any (i a k n:Int) (w:World) :
  Calls Tryz.prog 44 #[.int .i64 i,.int .i64 a,.agg #[.int .i64 k,.int .i64 n]] w fun e w'=>∃p,e=.returned (.tuple #[(newD i a k n).val p,.bool (newB i a k n)])∧OwnRun w' w.heap.size (newD i a k n) p∧Below w.heap.size w w':=by
 have fin:∀(h:newB i a k n=false) (w':World),Below w.heap.size w w'→∃p,Ending.returned (.tuple #[runZ.val runPZ,.bool false])=.returned (.tuple #[(newD i a k n).val p,.bool (newB i a k n)])∧OwnRun w' w.heap.size (newD i a k n) p∧Below w.heap.size w w' :=
  fun h w' hb=>⟨runPZ,by rw [newD_no h,h],by rw [newD_no h];exact own_runZ _ _,hb⟩
 cases h1:isRunB i
 case false =>
  go_enter Tryz.func44,Tryz.ntmps44
  go_wp2_with (go_at_call 75;refine(isRun_any _ _).mono ?_;rintro e w' ⟨rfl,rfl⟩;rw [h1])
  exact bodyPost_ret (v:=.tuple #[runZ.val runPZ,.bool false]) (by simp [results,Tryz.results44,go_sem,runZ,runPZ]) rfl (fin (by simp [newB,h1]) _ (((Below.refl _ _).alloc (Nat.le_refl _) _).alloc (by simp) _))
 case true =>
 cases h2:isPlaceB a
 case false =>
  go_enter Tryz.func44,Tryz.ntmps44
  go_wp2_with (first | (go_at_call 75;refine(isRun_any _ _).mono ?_;rintro e w' ⟨rfl,rfl⟩;rw [h1]) | (go_at_call 76;refine(isPlace_any _ _).mono ?_;rintro e w' ⟨rfl,rfl⟩;rw [h2]))
  exact bodyPost_ret (v:=.tuple #[runZ.val runPZ,.bool false]) (by simp [results,Tryz.results44,go_sem,runZ,runPZ]) rfl (fin (by simp [newB,h2]) _ (((Below.refl _ _).alloc (Nat.le_refl _) _).alloc (by simp) _))
 case true =>
 cases h3:okB k n
 case false =>
  go_enter Tryz.func44,Tryz.ntmps44
  go_wp2_with (first | (go_at_call 75;refine(isRun_any _ _).mono ?_;rintro e w' ⟨rfl,rfl⟩;rw [h1]) | (go_at_call 76;refine(isPlace_any _ _).mono ?_;rintro e w' ⟨rfl,rfl⟩;rw [h2]))
  refine(implOk_any _ _ _).mono ?_
  rintro e w1 ⟨rfl,hb1⟩
  rw [h3]
  obtain⟨hc1,hf1⟩:=bcell hb1
  have hz1:w.heap.size+1<w1.heap.size:=by have:=hb1.size;simp at this;omega
  have hB1:Below w.heap.size w w1:=(((Below.refl _ _).alloc (Nat.le_refl _) _).alloc (by simp) _).trans (hb1.mono (by simp;omega))
  have z0:w1.cell? ⟨w.heap.size+1,0,none⟩=some (.int .i64 0):=by rw [hc1 _ _ (by simp)];simp [go_sem]
  have z1:w1.cell? ⟨w.heap.size+1,1,none⟩=some (.int .i64 0):=by rw [hc1 _ _ (by simp)];simp [go_sem]
  have z2:w1.cell? ⟨w.heap.size+1,2,none⟩=some (.slice none 0 0):=by rw [hc1 _ _ (by simp)];simp [go_sem]
  have z3:w1.cell? ⟨w.heap.size+1,3,none⟩=some (.int .i64 0):=by rw [hc1 _ _ (by simp)];simp [go_sem]
  have z4:w1.cell? ⟨w.heap.size+1,4,none⟩=some (.slice none 0 0):=by rw [hc1 _ _ (by simp)];simp [go_sem]
  have z5:w1.cell? ⟨w.heap.size+1,5,none⟩=some (.int .i64 0):=by rw [hc1 _ _ (by simp)];simp [go_sem]
  have z6:w1.cell? ⟨w.heap.size+1,6,none⟩=some (.int .i64 0):=by rw [hc1 _ _ (by simp)];simp [go_sem]
  have z7:w1.cell? ⟨w.heap.size+1,7,none⟩=some (.slice none 0 0):=by rw [hc1 _ _ (by simp)];simp [go_sem]
  have z8:w1.cell? ⟨w.heap.size+1,8,none⟩=some (.slice none 0 0):=by rw [hc1 _ _ (by simp)];simp [go_sem]
  have z9:w1.cell? ⟨w.heap.size+1,9,none⟩=some (.bool false):=by rw [hc1 _ _ (by simp)];simp [go_sem]
  have z10:w1.cell? ⟨w.heap.size+1,10,none⟩=some (.int .i64 0):=by rw [hc1 _ _ (by simp)];simp [go_sem]
  have z11:w1.cell? ⟨w.heap.size+1,11,none⟩=some (.int .i64 0):=by rw [hc1 _ _ (by simp)];simp [go_sem]
  have z12:w1.cell? ⟨w.heap.size+1,12,none⟩=some (.int .i64 0):=by rw [hc1 _ _ (by simp)];simp [go_sem]
  have f0:w1.frozen? ⟨w.heap.size+1,0,none⟩=false:=by rw [hf1 _ _ (by simp)];simp [go_sem]
  have f1:w1.frozen? ⟨w.heap.size+1,1,none⟩=false:=by rw [hf1 _ _ (by simp)];simp [go_sem]
  have f2:w1.frozen? ⟨w.heap.size+1,2,none⟩=false:=by rw [hf1 _ _ (by simp)];simp [go_sem]
  have f3:w1.frozen? ⟨w.heap.size+1,3,none⟩=false:=by rw [hf1 _ _ (by simp)];simp [go_sem]
  have f4:w1.frozen? ⟨w.heap.size+1,4,none⟩=false:=by rw [hf1 _ _ (by simp)];simp [go_sem]
  have f5:w1.frozen? ⟨w.heap.size+1,5,none⟩=false:=by rw [hf1 _ _ (by simp)];simp [go_sem]
  have f6:w1.frozen? ⟨w.heap.size+1,6,none⟩=false:=by rw [hf1 _ _ (by simp)];simp [go_sem]
  have f7:w1.frozen? ⟨w.heap.size+1,7,none⟩=false:=by rw [hf1 _ _ (by simp)];simp [go_sem]
  have f8:w1.frozen? ⟨w.heap.size+1,8,none⟩=false:=by rw [hf1 _ _ (by simp)];simp [go_sem]
  have f9:w1.frozen? ⟨w.heap.size+1,9,none⟩=false:=by rw [hf1 _ _ (by simp)];simp [go_sem]
  have f10:w1.frozen? ⟨w.heap.size+1,10,none⟩=false:=by rw [hf1 _ _ (by simp)];simp [go_sem]
  have f11:w1.frozen? ⟨w.heap.size+1,11,none⟩=false:=by rw [hf1 _ _ (by simp)];simp [go_sem]
  have f12:w1.frozen? ⟨w.heap.size+1,12,none⟩=false:=by rw [hf1 _ _ (by simp)];simp [go_sem]
  have y0:w1.cell? ⟨w.heap.size,0,none⟩=some (.int .i64 k):=by rw [hc1 _ _ (by simp;omega)];simp [go_sem]
  have y1:w1.cell? ⟨w.heap.size,1,none⟩=some (.int .i64 n):=by rw [hc1 _ _ (by simp;omega)];simp [go_sem]
  clear hb1 hc1 hf1
  go_wp2_with fail
  exact bodyPost_ret (v:=.tuple #[runZ.val runPZ,.bool false]) (by simp [results,Tryz.results44,go_sem,runZ,runPZ,z0,z1,z2,z3,z4,z5,z6,z7,z8,z9,z10,z11,z12]) rfl (fin (by simp [newB,h3]) _ (((((((((((((hB1.setCell (by exact Nat.le_succ _) _).setCell (by exact Nat.le_succ _) _).setCell (by exact Nat.le_succ _) _).setCell (by exact Nat.le_succ _) _).setCell (by exact Nat.le_succ _) _).setCell (by exact Nat.le_succ _) _).setCell (by exact Nat.le_succ _) _).setCell (by exact Nat.le_succ _) _).setCell (by exact Nat.le_succ _) _).setCell (by exact Nat.le_succ _) _).setCell (by exact Nat.le_succ _) _).setCell (by exact Nat.le_succ _) _).setCell (by exact Nat.le_succ _) _))
 case true =>
  have hb:newB i a k n=true:=by simp [newB,h1,h2,h3]
  rw [newD_yes hb,hb]
  clear fin
  go_enter Tryz.func44,Tryz.ntmps44
  go_wp2_with (first | (go_at_call 75;refine(isRun_any _ _).mono ?_;rintro e w' ⟨rfl,rfl⟩;rw [h1]) | (go_at_call 76;refine(isPlace_any _ _).mono ?_;rintro e w' ⟨rfl,rfl⟩;rw [h2]))
  refine(implOk_any _ _ _).mono ?_
  rintro e w1 ⟨rfl,hb1⟩
  rw [h3]
  obtain⟨hc1,hf1⟩:=bcell hb1
  have hz1:w.heap.size+1<w1.heap.size:=by have:=hb1.size;simp at this;omega
  have hB1:Below w.heap.size w w1:=(((Below.refl _ _).alloc (Nat.le_refl _) _).alloc (by simp) _).trans (hb1.mono (by simp;omega))
  have z0:w1.cell? ⟨w.heap.size+1,0,none⟩=some (.int .i64 0):=by rw [hc1 _ _ (by simp)];simp [go_sem]
  have z1:w1.cell? ⟨w.heap.size+1,1,none⟩=some (.int .i64 0):=by rw [hc1 _ _ (by simp)];simp [go_sem]
  have z2:w1.cell? ⟨w.heap.size+1,2,none⟩=some (.slice none 0 0):=by rw [hc1 _ _ (by simp)];simp [go_sem]
  have z3:w1.cell? ⟨w.heap.size+1,3,none⟩=some (.int .i64 0):=by rw [hc1 _ _ (by simp)];simp [go_sem]
  have z4:w1.cell? ⟨w.heap.size+1,4,none⟩=some (.slice none 0 0):=by rw [hc1 _ _ (by simp)];simp [go_sem]
  have z5:w1.cell? ⟨w.heap.size+1,5,none⟩=some (.int .i64 0):=by rw [hc1 _ _ (by simp)];simp [go_sem]
  have z6:w1.cell? ⟨w.heap.size+1,6,none⟩=some (.int .i64 0):=by rw [hc1 _ _ (by simp)];simp [go_sem]
  have z7:w1.cell? ⟨w.heap.size+1,7,none⟩=some (.slice none 0 0):=by rw [hc1 _ _ (by simp)];simp [go_sem]
  have z8:w1.cell? ⟨w.heap.size+1,8,none⟩=some (.slice none 0 0):=by rw [hc1 _ _ (by simp)];simp [go_sem]
  have z9:w1.cell? ⟨w.heap.size+1,9,none⟩=some (.bool false):=by rw [hc1 _ _ (by simp)];simp [go_sem]
  have z10:w1.cell? ⟨w.heap.size+1,10,none⟩=some (.int .i64 0):=by rw [hc1 _ _ (by simp)];simp [go_sem]
  have z11:w1.cell? ⟨w.heap.size+1,11,none⟩=some (.int .i64 0):=by rw [hc1 _ _ (by simp)];simp [go_sem]
  have z12:w1.cell? ⟨w.heap.size+1,12,none⟩=some (.int .i64 0):=by rw [hc1 _ _ (by simp)];simp [go_sem]
  have f0:w1.frozen? ⟨w.heap.size+1,0,none⟩=false:=by rw [hf1 _ _ (by simp)];simp [go_sem]
  have f1:w1.frozen? ⟨w.heap.size+1,1,none⟩=false:=by rw [hf1 _ _ (by simp)];simp [go_sem]
  have f2:w1.frozen? ⟨w.heap.size+1,2,none⟩=false:=by rw [hf1 _ _ (by simp)];simp [go_sem]
  have f3:w1.frozen? ⟨w.heap.size+1,3,none⟩=false:=by rw [hf1 _ _ (by simp)];simp [go_sem]
  have f4:w1.frozen? ⟨w.heap.size+1,4,none⟩=false:=by rw [hf1 _ _ (by simp)];simp [go_sem]
  have f5:w1.frozen? ⟨w.heap.size+1,5,none⟩=false:=by rw [hf1 _ _ (by simp)];simp [go_sem]
  have f6:w1.frozen? ⟨w.heap.size+1,6,none⟩=false:=by rw [hf1 _ _ (by simp)];simp [go_sem]
  have f7:w1.frozen? ⟨w.heap.size+1,7,none⟩=false:=by rw [hf1 _ _ (by simp)];simp [go_sem]
  have f8:w1.frozen? ⟨w.heap.size+1,8,none⟩=false:=by rw [hf1 _ _ (by simp)];simp [go_sem]
  have f9:w1.frozen? ⟨w.heap.size+1,9,none⟩=false:=by rw [hf1 _ _ (by simp)];simp [go_sem]
  have f10:w1.frozen? ⟨w.heap.size+1,10,none⟩=false:=by rw [hf1 _ _ (by simp)];simp [go_sem]
  have f11:w1.frozen? ⟨w.heap.size+1,11,none⟩=false:=by rw [hf1 _ _ (by simp)];simp [go_sem]
  have f12:w1.frozen? ⟨w.heap.size+1,12,none⟩=false:=by rw [hf1 _ _ (by simp)];simp [go_sem]
  have y0:w1.cell? ⟨w.heap.size,0,none⟩=some (.int .i64 k):=by rw [hc1 _ _ (by simp;omega)];simp [go_sem]
  have y1:w1.cell? ⟨w.heap.size,1,none⟩=some (.int .i64 n):=by rw [hc1 _ _ (by simp;omega)];simp [go_sem]
  clear hb1 hc1 hf1
  obtain⟨inf,i1,i2,i3,i4⟩:=info_val
  go_wp2_with (refine wpList_make_full _ rfl (.const (.int .i64 4)) (.const (.int .i64 4)) 35 rfl w1.heap.size 37 inf _ 2 Tryz.underlying35 i1 i2 i3 .i64 .i64 _ _ 4 rfl rfl rfl rfl (by rw [i4];omega) (by unfold maxLen;omega) (Nat.le_refl _) ?_;intro w0 ho hg0;have hb0:Below w1.heap.size w1 w0:=(Below.refl _ _).grown hg0 (Nat.le_refl _) (by intro k hk;cases hk);obtain⟨hc0,hf0⟩:=bcell hb0;replace z0:=(hc0 _ _ (by omega)).trans z0;replace z1:=(hc0 _ _ (by omega)).trans z1;replace z2:=(hc0 _ _ (by omega)).trans z2;replace z3:=(hc0 _ _ (by omega)).trans z3;replace z4:=(hc0 _ _ (by omega)).trans z4;replace z5:=(hc0 _ _ (by omega)).trans z5;replace z6:=(hc0 _ _ (by omega)).trans z6;replace z7:=(hc0 _ _ (by omega)).trans z7;replace z8:=(hc0 _ _ (by omega)).trans z8;replace z9:=(hc0 _ _ (by omega)).trans z9;replace z10:=(hc0 _ _ (by omega)).trans z10;replace z11:=(hc0 _ _ (by omega)).trans z11;replace z12:=(hc0 _ _ (by omega)).trans z12;replace f0:=(hf0 _ _ (by omega)).trans f0;replace f1:=(hf0 _ _ (by omega)).trans f1;replace f2:=(hf0 _ _ (by omega)).trans f2;replace f3:=(hf0 _ _ (by omega)).trans f3;replace f4:=(hf0 _ _ (by omega)).trans f4;replace f5:=(hf0 _ _ (by omega)).trans f5;replace f6:=(hf0 _ _ (by omega)).trans f6;replace f7:=(hf0 _ _ (by omega)).trans f7;replace f8:=(hf0 _ _ (by omega)).trans f8;replace f9:=(hf0 _ _ (by omega)).trans f9;replace f10:=(hf0 _ _ (by omega)).trans f10;replace f11:=(hf0 _ _ (by omega)).trans f11;replace f12:=(hf0 _ _ (by omega)).trans f12;replace y0:=(hc0 _ _ (by omega)).trans y0;replace y1:=(hc0 _ _ (by omega)).trans y1;have x0:w0.cell? ⟨w1.heap.size,0,none⟩=some (.int .i64 0):=(by rw [ho.cellAt 0 (by omega)];exact made_val _ _ (by omega));have x1:w0.cell? ⟨w1.heap.size,1,none⟩=some (.int .i64 0):=(by rw [ho.cellAt 1 (by omega)];exact made_val _ _ (by omega));have g0:w0.frozen? ⟨w1.heap.size,0,none⟩=false:=ho.frozenAt 0;have g1:w0.frozen? ⟨w1.heap.size,1,none⟩=false:=ho.frozenAt 1;have HO:Hid (w0.ownsRow w1.heap.size 37 2 (.slice (some ⟨w1.heap.size,0,none⟩) 4 4) 4 (cellsV [(0,0),(0,0),(0,0),(0,0)])):=(made_vals 4) ▸ ho;have hB0:Below w.heap.size w w0:=hB1.trans (hb0.mono (by omega));have hz0:w1.heap.size<w0.heap.size:=(ho.lt _ rfl).2;clear hc0 hf0 ho hg0 hb0 hB1)
  obtain⟨s1,s2⟩:=HO.out.stored 0 (.int .i64 k)
  obtain⟨t1,t2⟩:=s1.stored 1 (.int .i64 n)
  have t3:((w0.setCell ⟨w1.heap.size,0,none⟩ (.int .i64 k)).setCell ⟨w1.heap.size,1,none⟩ (.int .i64 n)).ownsRow w1.heap.size 37 2 (.slice (some ⟨w1.heap.size,0,none⟩) 4 4) 4 (cellsV [(k,n),(0,0),(0,0),(0,0)]):=t1
  have hB2:Below w.heap.size w ((w0.setCell ⟨w1.heap.size,0,none⟩ (.int .i64 k)).setCell ⟨w1.heap.size,1,none⟩ (.int .i64 n)):=(hB0.setCell (by dsimp only;omega) _).setCell (by dsimp only;omega) _
  refine bodyPost_ret (v:=.tuple #[(newR i a k n).val ⟨some ⟨w1.heap.size,0,none⟩,4,none,0,none,0,none,0⟩,.bool true]) (by simp [results,Tryz.results44,go_sem,newR,z0,z1,z2,z3,z4,z5,z6,z7,z8,z9,z10,z11,z12]) rfl ⟨_,rfl,⟨?_,World.ownsRow_nil _ _ _ _,World.ownsRow_nil _ _ _ _,World.ownsRow_nil _ _ _ _,?_,?_,?_,?_,?_,?_⟩,(((((((((((((hB2.setCell (by exact Nat.le_succ _) _).setCell (by exact Nat.le_succ _) _).setCell (by exact Nat.le_succ _) _).setCell (by exact Nat.le_succ _) _).setCell (by exact Nat.le_succ _) _).setCell (by exact Nat.le_succ _) _).setCell (by exact Nat.le_succ _) _).setCell (by exact Nat.le_succ _) _).setCell (by exact Nat.le_succ _) _).setCell (by exact Nat.le_succ _) _).setCell (by exact Nat.le_succ _) _).setCell (by exact Nat.le_succ _) _).setCell (by exact Nat.le_succ _) _)⟩
  ·refine World.ownsRow.kept (row:=some (w.heap.size+1)) (OwnsV.mono (L:=[(k,n),(0,0),(0,0),(0,0)]) t3 (by omega)) ?_ (.inr (by simp [Value.ownBlock];omega))
   exact(But.grown ((((((((((((((But.refl (w.heap.size+1) _).setCell (by exact rfl) _).setCell (by exact rfl) _).setCell (by exact rfl) _).setCell (by exact rfl) _).setCell (by exact rfl) _).setCell (by exact rfl) _).setCell (by exact rfl) _).setCell (by exact rfl) _).setCell (by exact rfl) _).setCell (by exact rfl) _).setCell (by exact rfl) _).setCell (by exact rfl) _).setCell (by exact rfl) _))
  ·exact fun k _ e=>by cases e
  ·exact fun k _ e=>by cases e
  ·exact fun k _ e=>by cases e
  ·exact fun k e=>by cases e
  ·exact fun k e=>by cases e
  ·exact fun k e=>by cases e
def allOk (L:List (Int×Int)):Bool:=L.all fun x=>okB x.1 x.2
def mailB (L:List (Int×Int)):Bool:=decide (L.length≤12)&&allOk L
theorem allOk_no {L:List (Int×Int)} {i:Nat} (hi:i<L.length) (h:okB L[i].1 L[i].2=false):allOk L=false:=by
 unfold allOk
 rw [List.all_eq_false]
 exact⟨L[i],List.getElem_mem hi,by rw [h];simp⟩
theorem allOk_yes {L:List (Int×Int)} (h:∀i (h:i<L.length),okB L[i].1 L[i].2=true):allOk L=true:=by
 unfold allOk
 rw [List.all_eq_true]
 intro x hx
 obtain⟨i,hi,rfl⟩:=List.getElem_of_mem hx
 exact h i hi
set_option maxRecDepth 20000 in
set_option maxHeartbeats 4000000 in
theorem mailOk_any (S:Nat) (d:RunD) (q:RunP) (w:World) (hS:S≤w.heap.size) (hl:d.mail.length≤1048576) (h:Vals S w (d.v1 q) d.mail) :
  Calls Tryz.prog 90 #[d.val q] w fun e w'=>e=.returned (.bool (mailB d.mail))∧Below w.heap.size w w':=by
 have hb0:Below w.heap.size w (w.alloc (.cells (d.cells q) 39)):=(Below.refl _ _).alloc (Nat.le_refl _) _
 have c04:(w.alloc (.cells (d.cells q) 39)).cell? ⟨w.heap.size,4,none⟩=some (.slice q.a1 d.mail.length q.k1):=(runAt_new w d q 39).c4
 have hz0:w.heap.size<(w.alloc (.cells (d.cells q) 39)).heap.size:=by simp
 obtain⟨ao,cap,hv,hc⟩:=h
 have hv':Value.slice q.a1 d.mail.length q.k1=.slice ao d.mail.length cap:=hv
 injection hv' with h1 _ h3
 rw [h1,h3] at c04
 by_cases h12:d.mail.length≤12
 case neg =>
  have g1:(12:Int)<(d.mail.length:Int):=by omega
  have hf:Hid (mailB d.mail=false):=by show mailB d.mail=false;simp [mailB,h12]
  go_enter Tryz.func90,Tryz.ntmps90
  go_wp2_with fail
  go_ret
  exact⟨by rw [hf.out];rfl,hb0⟩
 have g1:¬(12:Int)<(d.mail.length:Int):=by omega
 have hm:Hid (mailB d.mail=allOk d.mail):=by show mailB d.mail=allOk d.mail;simp [mailB,h12]
 rcases hc with hL0 | ⟨b,o,rfl,hb,hc⟩
 ·have hy:Hid (mailB d.mail=true):=by show mailB d.mail=true;rw [hm.out,hL0];rfl
  have hn0:((d.mail.length:Nat):Int)=0:=by rw [hL0];rfl
  replace hL0:Hid (d.mail=[]):=hL0
  go_enter Tryz.func90,Tryz.ntmps90
  go_wp2_with fail
  refine wp_loop_rounds 1 ?_
  rw [rounds_succ]
  go_wp2_with fail
  go_ret
  exact⟨by rw [hy.out];rfl,hb0⟩
 replace hc:Hid (∀i (h:i<d.mail.length),ValAt w b (o+i*2) d.mail[i]):=hc
 go_enter Tryz.func90,Tryz.ntmps90
 go_wp2_with fail
 generalize hLe:d.mail=L at *
 replace hLe:Hid (d.mail=L):=hLe
 generalize (w.alloc (.cells (d.cells q) 39))=w0 at *
 go_loopw [12] (fun i wr=>∃k:Nat,k≤L.length∧i=.int .i64 k∧(∀j (h:j<L.length),j<k→okB L[j].1 L[j].2=true)∧Below w0.heap.size w0 wr) (fun i _=>L.length-(intOf i).toNat)
 case atStart=>exact⟨0,Nat.zero_le _,rfl,fun j _ hj=>by omega,Below.refl _ _⟩
 case round =>
  obtain⟨k,hk,rfl,hU,hBr⟩:=hrel
  have hzr:=hBr.size
  replace hU:Hid (∀j (h:j<L.length),j<k→okB L[j].1 L[j].2=true):=hU
  have hBw:Below w.heap.size w wr:=hb0.trans (hBr.mono (by omega))
  by_cases hlt:k<L.length
  ·have g2:(k:Int)<(L.length:Int):=by omega
   obtain⟨v0,v1⟩:=hc.out k hlt
   have d0:wr.cell? ⟨b,o+k*2,none⟩=some (.int .i64 L[k].1):=(hBw.cell (p:=⟨b,o+k*2,none⟩) (by show b<w.heap.size;omega)).trans v0
   have d1:wr.cell? ⟨b,o+k*2+1,none⟩=some (.int .i64 L[k].2):=(hBw.cell (p:=⟨b,o+k*2+1,none⟩) (by show b<w.heap.size;omega)).trans v1
   have hno:Hid (okB L[k].1 L[k].2=false→allOk L=false):=fun h=>allOk_no hlt h
   have hyes:Hid (okB L[k].1 L[k].2=true→∀j (h:j<L.length),j<k+1→okB L[j].1 L[j].2=true):=fun h j hjl hj=>by
    by_cases e:j<k
    ·exact hU.out j hjl e
    ·have:j=k:=by omega
     subst this;exact h
   clear v0 v1
   generalize L[k].1=x at *
   generalize L[k].2=y at *
   go_wp2_with fail
   refine(implOk_any x y _).mono ?_
   rintro e w1 ⟨rfl,hb1⟩
   have hB1:Below w0.heap.size w0 w1:=(hBr.alloc hzr _).trans (hb1.mono (by simp;omega))
   cases ho:okB x y with
   | false =>
    have hf:Hid (allOk L=false):=hno.out ho
    clear hb1
    go_wp2_with fail
    go_ret
    exact⟨by rw [hLe.out,hm.out,hf.out];rfl,hb0.trans (hB1.mono (by omega))⟩
   | true =>
    have hn:Hid (∀j (h:j<L.length),j<k+1→okB L[j].1 L[j].2=true):=hyes.out ho
    clear hb1
    go_wp2_with fail
    go_roundw
    case rel=>exact⟨k+1,by omega,by go_num,hn.out,hB1⟩
    case measure=>simp [intOf];omega
  ·have e:k=L.length:=by omega
   subst e
   have hy:Hid (allOk L=true):=allOk_yes (fun i hi=>hU.out i hi hi)
   go_wp2_with fail
   go_ret
   exact⟨by rw [hLe.out,hm.out,hy.out];rfl,hBw⟩
def bit5 (r:Int):Int:=if r=0 then 1 else if r=1 then 2 else if r=2 then 4 else if r=3 then 8 else 16
theorem slotBit5_any (r:Int) (w:World) (h0:0≤r) (h4:r≤4):Calls Tryz.prog 131 #[.int .i64 r] w fun e w'=>e=.returned (.int .i64 (bit5 r))∧w'=w:=by
 rcases (by omega:r=0∨r=1∨r=2∨r=3∨r=4) with rfl | rfl | rfl | rfl | rfl <;>
 ·go_enter Tryz.func131,Tryz.ntmps131
  go_wp2_with fail
  go_ret
  exact⟨rfl,rfl⟩
end Go.Proofs.YtbejochaghmmbaaGreatDoor.Eld
