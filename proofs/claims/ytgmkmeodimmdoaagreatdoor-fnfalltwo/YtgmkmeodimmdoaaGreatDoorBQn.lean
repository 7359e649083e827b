import Derived.Test.YtgmkmeodimmdoaaGreatDoorBQb
import Derived.Deep.Upon
set_option maxHeartbeats 400000
namespace Go.Proofs.YtgmkmeodimmdoaaGreatDoor.Eld
def nextL (o:OpV) (i n:Nat):List Nat :=
 let out:=if (!(o.k==9||o.k==14)&&decide (i+1<n))=true then [i+1] else []
 if (goesB o.k&&!(out.contains o.t.toNat))=true then out++[o.t.toNat] else out
theorem next_ways (o:OpV) (i n:Nat) (x:Int) (j:Nat):j∈nextL o i n↔∃p∈waysL o i n x,p.1=j:=by
 have hg:goesB o.k=true↔∃p∈toW o x,True:=by
  unfold goesB toW
  constructor
  ·intro h;simp only [Bool.or_eq_true,beq_iff_eq] at h;rcases h with((h|h)|h)|h<;>simp [h]
  ·rintro⟨p,hp,_⟩
   split at hp
   ·rename_i h;rcases h with h|h|h<;>simp [h]
   ·split at hp
    ·rename_i h;simp [h]
    ·cases hp
 have ht:∀p∈toW o x,p.1=o.t.toNat:=by
  intro p hp;unfold toW at hp
  split at hp
  ·rw [List.mem_singleton.1 hp]
  ·split at hp
   ·rw [List.mem_singleton.1 hp]
   ·cases hp
 have hn:∀j,j∈(if (!(o.k==9||o.k==14)&&decide (i+1<n))=true then [i+1] else [])↔∃p∈nextW o i n x,p.1=j:=by
  intro j;unfold nextW
  split
  ·simp [eq_comm]
  ·simp
 have hm:j∈nextL o i n↔j∈(if (!(o.k==9||o.k==14)&&decide (i+1<n))=true then [i+1] else [])∨(goesB o.k=true∧j=o.t.toNat):=by
  unfold nextL;generalize (if (!(o.k==9||o.k==14)&&decide (i+1<n))=true then [i+1] else [])=out;simp only;by_cases hg:goesB o.k=true
  ·by_cases hc:o.t.toNat∈out
   ·simp only [hg,hc,Bool.true_and,List.contains_eq_mem,decide_true,Bool.not_true,Bool.false_eq_true,if_false,true_and]
    constructor
    ·exact .inl
    ·rintro(h|h)
     ·exact h
     ·subst h;exact hc
   ·simp [hg,hc]
  ·simp [hg]
 rw [hm,hn];unfold waysL
 constructor
 ·rintro(⟨p,hp,e⟩|⟨h,e⟩)
  ·exact⟨p,List.mem_append.2 (.inl hp),e⟩
  ·obtain⟨p,hp,_⟩:=hg.1 h;exact⟨p,List.mem_append.2 (.inr hp),(ht p hp).trans e.symm⟩
 ·rintro⟨p,hp,e⟩;rcases List.mem_append.1 hp with hp|hp
  ·exact .inl ⟨p,hp,e⟩
  ·exact .inr ⟨hg.2 ⟨p,hp,trivial⟩,e.symm.trans (ht p hp)⟩
theorem nodup_le:∀(n:Nat) (L:List Nat),L.Nodup→(∀x∈L,x<n)→L.length≤n
 |0,L,_,h=>by
  cases L with
  |nil=>simp
  |cons a l=>exact absurd (h a (by simp)) (by omega)
 |n+1,L,hn,h=>by
  have h1:=nodup_le n (L.erase n) (hn.erase n) (fun x hx=>by
   have hx':=List.mem_of_mem_erase hx;have h2:=h x hx';have h3:x≠n:=by rintro rfl;exact(List.Nodup.not_mem_erase hn) hx
   omega)
  have h2:=List.length_erase (l:=L) (a:=n)
  split at h2<;>omega
open Go.ChangeShapes Go.WideShapes Go.ChangeAt Go.RowKit Go.Joins
def WaysAt (S:Nat) (w:World) (v:Value) (L:List (Nat×Int)):Prop :=
 ∃ao cap,v=.slice ao L.length cap∧L.length≤cap∧(L=[]∨∃b o,ao=some ⟨b,o,none⟩∧b<S∧∀i (h:i<L.length),w.cell? ⟨b,o+i*2,none⟩=some (.int .i64 (L[i].1:Int))∧w.cell? ⟨b,o+i*2+1,none⟩=some (.int .i64 L[i].2))
theorem wayCells_at:∀(L:List (Nat×Int)) (i:Nat) (h:i<L.length),(wayCells L)[i*2]?=some (.int .i64 (L[i].1:Int))∧(wayCells L)[i*2+1]?=some (.int .i64 L[i].2)
 |p::L,0,_=>⟨rfl,rfl⟩
 |p::L,i+1,h=>by
  have ih:=wayCells_at L i (by simpa using h);have e1:(i+1)*2=i*2+2:=by omega
  rw [e1];exact ih
theorem OwnsW.at {w:World} {B:Nat} {v:Value} {L:List (Nat×Int)} (h:w.ownsRow B 145 2 v L.length (wayCells L)):WaysAt w.heap.size w v L:=by
 rcases h.2 with⟨rfl,hn⟩|⟨g,cap,cur,rfl,hg,hh,hlc,_⟩
 ·have:L=[]:=List.eq_nil_of_length_eq_zero hn;subst this;exact⟨none,0,rfl,Nat.le_refl _,.inl rfl⟩
 ·refine⟨_,cap,rfl,hlc,.inr ⟨g,0,rfl,?_,fun i hi=>?_⟩⟩
  ·rcases Decidable.em (g<w.heap.size) with h|h
   ·exact h
   ·rw [Array.getElem?_eq_none (by omega)] at hh;cases hh
  ·have c0:=World.ownsRow.cellAt (w:=w) (base:=B) (e:=145) (size:=2) (g:=g) (cap:=cap) h (i*2) (by omega);have c1:=World.ownsRow.cellAt (w:=w) (base:=B) (e:=145) (size:=2) (g:=g) (cap:=cap) h (i*2+1) (by omega);have k:=wayCells_at L i hi;exact⟨by rw [Nat.zero_add,c0];exact k.1,by rw [Nat.zero_add,c1];exact k.2⟩
def QAt (w:World) (B:Nat) (v:Value) (Q:List (Nat×Int)):Prop :=
 ∃ao cap,v=.slice ao Q.length cap∧Q.length≤cap∧cap≤maxLen∧(cap=0∨∃g o,ao=some ⟨g,o,none⟩∧B≤g∧g<w.heap.size∧(∀j,j<Q.length*2→w.cell? ⟨g,o+j,none⟩=(wayCells Q)[j]?)∧∀j,j<cap*2→(w.cell? ⟨g,o+j,none⟩).isSome=true∧w.frozen? ⟨g,o+j,none⟩=false)
theorem wayCells_len:∀L:List (Nat×Int),(wayCells L).length=L.length*2
 |[]=>rfl
 |p::L=>by
  have:=wayCells_len L;have e:wayCells (p::L)=[.int .i64 (p.1:Int),.int .i64 p.2]++wayCells L:=rfl;rw [e,List.length_append,this,List.length_cons];simp;omega
theorem wayCells_app (L M:List (Nat×Int)):wayCells (L++M)=wayCells L++wayCells M:=by simp [wayCells]
theorem wayCells_one (L:List (Nat×Int)):∀u∈wayCells L,u.oneCell'=true:=by
 intro u hu;obtain⟨p,_,hp⟩:=List.mem_flatMap.1 hu;simp at hp;rcases hp with rfl|rfl<;>rfl
theorem QAt.keep {w w':World} {B:Nat} {v:Value} {Q:List (Nat×Int)} (h:QAt w B v Q) (hs:w.heap.size≤w'.heap.size) (hk:∀k,B≤k→k<w.heap.size→w'.heap[k]?=w.heap[k]?):QAt w' B v Q:=by
 obtain⟨ao,cap,hv,h1,h2,h3⟩:=h;refine⟨ao,cap,hv,h1,h2,h3.imp id ?_⟩;rintro⟨g,o,ha,hg,hl,hc,hf⟩;refine⟨g,o,ha,hg,by omega,fun j hj=>?_,fun j hj=>?_⟩
 ·rw [World.cell?_of_block (w:=w) (a:=⟨g,o+j,none⟩) (hk g hg hl)];exact hc j hj
 ·rw [World.cell?_of_block (w:=w) (a:=⟨g,o+j,none⟩) (hk g hg hl),World.frozen?_of_block (w:=w) (a:=⟨g,o+j,none⟩) (hk g hg hl)];exact hf j hj
theorem QAt.below {w w':World} {B:Nat} {v:Value} {Q:List (Nat×Int)} (h:QAt w B v Q) (hb:Below w.heap.size w w'):QAt w' B v Q:=h.keep hb.size fun k _ hk=>hb.block k hk
theorem QAt.tail {w:World} {B g o cap:Nat} {p:Nat×Int} {Q:List (Nat×Int)} {ao:Option Addr} (hlc:Q.length+1≤cap) (hm:cap≤maxLen) (hg:B≤g) (hl:g<w.heap.size)
  (hc:∀j,j<(Q.length+1)*2→w.cell? ⟨g,o+j,none⟩=(wayCells (p::Q))[j]?) (hf:∀j,j<cap*2→(w.cell? ⟨g,o+j,none⟩).isSome=true∧w.frozen? ⟨g,o+j,none⟩=false)
  (ha:cap-1=0∨ao=some ⟨g,o+2,none⟩):QAt w B (.slice ao Q.length (cap-1)) Q:=by
 refine⟨ao,cap-1,rfl,by omega,by omega,ha.imp id fun e=>⟨g,o+2,e,hg,hl,fun j hj=>?_,fun j hj=>?_⟩⟩
 ·have:=hc (j+2) (by omega);rw [show o+(j+2)=o+2+j by omega] at this;rw [this];rfl
 ·have:=hf (j+2) (by omega);rw [show o+(j+2)=o+2+j by omega] at this;exact this
theorem size_setCells (b:Nat):∀(vs:List Value) (o:Nat) (w:World),(w.setCells b o vs).heap.size=w.heap.size
 |[],_,_=>rfl
 |v::vs,o,w=>by rw [World.setCells,size_setCells b vs (o+1)];simp [World.setCell]
theorem below_setCells {B g:Nat} (hg:B≤g):∀(vs:List Value) (o:Nat) (w:World),Below B w (w.setCells g o vs)
 |[],_,_=>Below.refl _ _
 |v::vs,o,w=>((Below.refl B w).setCell (p:=⟨g,o,none⟩) hg v).trans (below_setCells hg vs (o+1) _)
theorem run_append_queue {w:World} {B S:Nat} {v xv:Value} {Q L:List (Nat×Int)} (ty:TypeId) (hq:QAt w B v Q) (hL:WaysAt S w xv L) (hb:B≤w.heap.size) (hn:Q.length+L.length≤1048576) :
  ∃v' w',(Builtin.append_ #[146,146] ty #[v,xv]).run Tryz.prog w=.ok v' w'∧QAt w' B v' (Q++L)∧Below B w w':=by
 obtain⟨inf,i1,i2,i3,i4⟩:=info_way;obtain⟨ao,cap,rfl,h1,h2,h3⟩:=hq;obtain⟨bo,xc,rfl,hxl,hx⟩:=hL;have hsrc:L=[]∨Src Tryz.prog inf.size 146 (.slice bo L.length xc) L.length (wayCells L) w:=by
  rcases hx with h|⟨b,o,rfl,_,hc⟩
  ·exact .inl h
  ·refine .inr (Src.ofSlice w Tryz.underlying146 ⟨b,o,none⟩ L.length xc (wayCells L) (by rw [i3,wayCells_len]) (fun j u hj=>?_) (wayCells_one L));have hjl:j<L.length*2:=by
    rcases Decidable.em (j<L.length*2) with h|h
    ·exact h
    ·rw [List.getElem?_eq_none (by rw [wayCells_len];omega)] at hj;cases hj
   have hi:j / 2<L.length:=by omega
   have k:=wayCells_at L (j / 2) hi;have c:=hc (j / 2) hi;have ea:(⟨b,o,none⟩:Addr).add j=⟨b,o+j,none⟩:=by unfold Addr.add;split<;>simp_all
   rw [ea];rcases Nat.mod_two_eq_zero_or_one j with e|e
   ·have e2:j / 2*2=j:=by omega
    rw [e2] at k c;rw [c.1,←hj,k.1]
   ·have e2:j / 2*2+1=j:=by omega
    have e3:o+j / 2*2+1=o+j:=by omega
    rw [e2] at k;rw [e3] at c;rw [c.2,←hj,k.2]
 have hsrc:Src Tryz.prog inf.size 146 (.slice bo L.length xc) L.length (wayCells L) w:=by
  rcases hsrc with rfl|hs
  ·cases bo with
   |none=>exact Src.ofNil w Tryz.underlying146 xc
   |some a=>exact Src.ofSlice w Tryz.underlying146 a 0 xc [] (by simp) (by simp) (by simp)
  ·exact hs
 by_cases hroom:Q.length+L.length≤cap
 ·rcases h3 with rfl|⟨g,o,rfl,hg,hlt,hc,hf⟩
  ·have hL0:L=[]:=List.eq_nil_of_length_eq_zero (by omega);subst hL0;refine⟨_,_,run_append_nothing w 146 146 ty 145 inf Tryz.underlying146 i1 ao Q.length 0 (by omega) _ hsrc,?_,Below.refl _ _⟩;rw [List.append_nil];exact⟨ao,0,rfl,h1,h2,.inl rfl⟩
  ·have hr:=run_append_room_src w 146 146 ty 145 inf Tryz.underlying146 i1 g o Q.length cap _ L.length (wayCells L) hsrc hroom
    (fun j hj=>by rw [wayCells_len] at hj;have:=(hf (Q.length*2+j) (by omega)).1;rw [i3,Nat.add_assoc];exact this)
    (fun j hj=>by rw [wayCells_len] at hj;have:=(hf (Q.length*2+j) (by omega)).2;rw [i3,Nat.add_assoc];exact this)
   rw [i3] at hr;have hin:=World.cell?_setCells_in g (wayCells L) (o+Q.length*2) w (fun j hj=>by rw [wayCells_len] at hj;have:=(hf (Q.length*2+j) (by omega)).1;rw [Nat.add_assoc];exact this);have hout:=World.cell?_setCells_out g (wayCells L) (o+Q.length*2) w;have hbk:∀i,i<w.heap.size→i≠g→(w.setCells g (o+Q.length*2) (wayCells L)).heap[i]?=w.heap[i]?:=fun i hi hne=>World.heap_setCells_other w g _ _ hi hne
   have hsz:=size_setCells g (wayCells L) (o+Q.length*2) w;refine⟨_,_,hr,⟨_,cap,by rw [List.length_append],by rw [List.length_append];exact hroom,h2,.inr ⟨g,o,rfl,hg,by rw [hsz];exact hlt,fun j hj=>?_,fun j hj=>⟨?_,?_⟩⟩⟩,below_setCells hg _ _ _⟩
   ·rw [List.length_append] at hj;rw [wayCells_app];by_cases hjq:j<Q.length*2
    ·rw [hout ⟨g,o+j,none⟩ (fun _ _=>.inl (by dsimp only;omega)),hc j hjq,List.getElem?_append_left (by rw [wayCells_len];exact hjq)]
    ·have hj2:j-Q.length*2<(wayCells L).length:=by rw [wayCells_len];omega
     have:=hin (j-Q.length*2) hj2;rw [show o+Q.length*2+(j-Q.length*2)=o+j by omega] at this;rw [this,List.getElem?_append_right (by rw [wayCells_len];omega),wayCells_len,List.getElem?_eq_getElem hj2]
   ·by_cases hjq:j<Q.length*2∨Q.length*2+L.length*2≤j
    ·rw [hout ⟨g,o+j,none⟩ (fun _ _=>by rw [wayCells_len];dsimp only;omega)];exact(hf j hj).1
    ·have hj2:j-Q.length*2<(wayCells L).length:=by rw [wayCells_len];omega
     have:=hin (j-Q.length*2) hj2;rw [show o+Q.length*2+(j-Q.length*2)=o+j by omega] at this;rw [this];rfl
   ·rw [World.frozen?_setCells];exact(hf j hj).2
 ·have hold:(Builtin.firstCells inf.size Q.length (.slice ao Q.length cap)).run Tryz.prog w.drew=.ok (wayCells Q).toArray w.drew:=by
   rcases h3 with rfl|⟨g,o,rfl,hg,hlt,hc,hf⟩
   ·have hQ0:Q=[]:=List.eq_nil_of_length_eq_zero (by omega);subst hQ0
    cases ao with
    |none=>exact run_firstCells_none _ _ _ _ _
    |some a=>exact run_firstCells_some _ _ _ a _ _ [] (by simp) (by simp)
   ·refine run_firstCells_some w.drew inf.size Q.length ⟨g,o,none⟩ Q.length cap (wayCells Q) (by rw [i3,wayCells_len]) (fun j u hj=>?_);have hjl:j<Q.length*2:=by
     rcases Decidable.em (j<Q.length*2) with h|h
     ·exact h
     ·rw [List.getElem?_eq_none (by rw [wayCells_len];omega)] at hj;cases hj
    have ea:(⟨g,o,none⟩:Addr).add j=⟨g,o+j,none⟩:=by unfold Addr.add;split<;>simp_all
    rw [ea,←hj];exact hc j hjl
  have hr:=run_append_grow_src w 146 146 ty 145 inf _ Tryz.underlying146 i1 i2 ao Q.length cap (wayCells Q) hold _ L.length (wayCells L) hsrc (by omega) (by omega) (growslice_fits (by omega) (by rw [i4];omega));have hge:=grownCap_ge w (Q.length+L.length) cap 145;have hcm:=grownCap_le_maxLen w (Q.length+L.length) cap 145 (by unfold maxLen;omega);generalize grownCap w (Q.length+L.length) cap 145=cc at *;refine⟨_,_,hr,⟨_,cc,by rw [List.length_append],by rw [List.length_append];exact hge,hcm,.inr ⟨w.heap.size,0,rfl,hb,by simp,fun j hj=>?_,fun j hj=>⟨?_,?_⟩⟩⟩,((Below.refl _ _).drew).alloc (by exact hb) _⟩
  ·rw [List.length_append] at hj;have e1:=World.cell?_alloc_new w.drew ((wayCells Q++wayCells L).toArray++Builtin.zeroCells (Value.cells (.agg #[.int .i64 0,.int .i64 0])) (cc-(Q.length+L.length))) 145 (0+j);refine e1.trans ?_;rw [Nat.zero_add,Array.getElem?_append_left (by simp only [List.size_toArray,List.length_append,wayCells_len];omega),List.getElem?_toArray,wayCells_app]
  ·have e1:=World.cell?_alloc_new w.drew ((wayCells Q++wayCells L).toArray++Builtin.zeroCells (Value.cells (.agg #[.int .i64 0,.int .i64 0])) (cc-(Q.length+L.length))) 145 (0+j);have e2:((wayCells Q++wayCells L).toArray++Builtin.zeroCells (Value.cells (.agg #[.int .i64 0,.int .i64 0])) (cc-(Q.length+L.length))).size=cc*2:=by
    rw [Array.size_append,List.size_toArray,List.length_append,wayCells_len,wayCells_len,size_zeroCells];simp [Value.cells];omega
   rw [Array.getElem?_eq_getElem (by rw [e2];omega)] at e1;exact(congrArg Option.isSome e1).trans rfl
  ·exact World.frozen?_alloc_new w.drew _ _ _
theorem wpList_append_queue (w:World) {ops:Array Oper} {rest:List Oper} {o:Oper} {a:Act} {R:Exit→Act→World→Prop} (hgd:o.guard=none) (s x:Operand)
  (ho:o.op=.call { callee:=.builtin .append,args:=#[s,x],argTypes:=#[146,146] }) {B S:Nat} {v xv:Value} {Q L:List (Nat×Int)} (hv:a.eval s=v) (hx:a.eval x=xv)
  (hq:QAt w B v Q) (hL:WaysAt S w xv L) (hb:B≤w.heap.size) (hn:Q.length+L.length≤1048576)
  (hK:∀v' w',QAt w' B v' (Q++L)→Below B w w'→wpList Tryz.prog ops R rest (a.put o.dst v') w'):wpList Tryz.prog ops R (o::rest) a w:=by
 refine wpList_plain hgd fun K hK'=>?_
 obtain⟨v',w',hrun,h1,h2⟩:=run_append_queue o.type hq hL hb hn;unfold Oper.wp;simp [execOp,ho,resolve,invoke,builtin,hv,hx,hrun,Result.andThen];exact hK' _ _ (hK v' w' h1 h2)
def numB (k n:Int):Bool:=(k==1)&&okB k n
theorem numB_bd {k n:Int} (h:numB k n=true):k=1 ∧ -99≤n∧n≤99:=by
 simp only [numB,Bool.and_eq_true,beq_iff_eq] at h;obtain⟨rfl,h⟩:=h;rw [okB_one] at h;simp at h;omega
theorem count_any (n:Int) (w:World) :
  Calls Tryz.prog 228 #[.int .i64 n] w fun e w'=>e=.returned (.int .i64 n)∧w'=w:=by
 go_enter Tryz.func228,Tryz.ntmps228
 go_wp2
 go_ret
 exact⟨rfl,rfl⟩
theorem assert_num (n:Int) (w:World):(Instr.typeAssert (.iface 126 (.int .i64 n)) 87 126 true).run Tryz.prog w=.ok (.tuple #[.int .i64 n,.bool true]) w:=by kernel_rfl
theorem assert_name (n:Int) (w:World):(Instr.typeAssert (.iface 127 (.int .i64 n)) 87 126 true).run Tryz.prog w=.ok (.tuple #[.int .i64 0,.bool false]) w:=by kernel_rfl
theorem assert_run (n:Int) (w:World):(Instr.typeAssert (.iface 128 (.int .i64 n)) 87 126 true).run Tryz.prog w=.ok (.tuple #[.int .i64 0,.bool false]) w:=by kernel_rfl
theorem assert_nil (w:World):(Instr.typeAssert .nilIface 87 126 true).run Tryz.prog w=.ok (.tuple #[.int .i64 0,.bool false]) w:=by kernel_rfl
theorem number_yes (n:Int) (w:World) (h:numB 1 n=true) :
  Calls Tryz.prog 219 #[.agg #[.int .i64 1,.int .i64 n]] w fun e w'=>e=.returned (.tuple #[.int .i64 n,.bool true])∧Below w.heap.size w w':=by
 have hok:okB 1 n=true:=by simpa [numB] using h
 have ht:thingV 1 n=.iface 126 (.int .i64 n):=by simp [thingV,hok]
 have hm:=assert_num n;clear h
 go_enter Tryz.func219,Tryz.ntmps219
 go_wp2_with fail
 refine(thing_any _ _ _).mono ?_;rintro e w1 ⟨rfl,hb⟩
 go_wp2_with (go_at_call 228;refine(count_any _ _).mono ?_;rintro e w2 ⟨rfl,rfl⟩)
 go_ret2
 exact⟨rfl,((Below.refl _ _).alloc (Nat.le_refl _) _).trans (hb.mono (by simp))⟩
theorem number_bad (k n:Int) (w:World) (h:okB k n=false) :
  Calls Tryz.prog 219 #[.agg #[.int .i64 k,.int .i64 n]] w fun e w'=>e=.returned (.tuple #[.int .i64 0,.bool false])∧Below w.heap.size w w':=by
 go_enter Tryz.func219,Tryz.ntmps219
 go_wp2_with fail
 refine(thing_any _ _ _).mono ?_;rintro e w1 ⟨rfl,hb⟩
 go_wp2_with fail
 go_ret2
 exact⟨rfl,((Below.refl _ _).alloc (Nat.le_refl _) _).trans (hb.mono (by simp))⟩
theorem number_other (k n:Int) (w:World) (hok:okB k n=true) (v:Value) (hv:thingV k n=v) (hm:∀w,(Instr.typeAssert v 87 126 true).run Tryz.prog w=.ok (.tuple #[.int .i64 0,.bool false]) w) :
  Calls Tryz.prog 219 #[.agg #[.int .i64 k,.int .i64 n]] w fun e w'=>e=.returned (.tuple #[.int .i64 0,.bool false])∧Below w.heap.size w w':=by
 go_enter Tryz.func219,Tryz.ntmps219
 go_wp2_with fail
 refine(thing_any _ _ _).mono ?_;rintro e w1 ⟨rfl,hb⟩
 go_wp2_with fail
 go_ret2
 exact⟨rfl,((Below.refl _ _).alloc (Nat.le_refl _) _).trans (hb.mono (by simp))⟩
theorem number_no (k n:Int) (w:World) (h:numB k n=false) :
  Calls Tryz.prog 219 #[.agg #[.int .i64 k,.int .i64 n]] w fun e w'=>e=.returned (.tuple #[.int .i64 0,.bool false])∧Below w.heap.size w w':=by
 cases hok:okB k n with
 |false=>exact number_bad k n w hok
 |true =>
  have hk:=okB k n;by_cases h1:k=1
  ·subst h1;simp [numB,hok] at h
  by_cases h2:k=2
  ·subst h2;exact number_other 2 n w hok _ (by simp [thingV,hok]) (assert_name n)
  by_cases h3:k=3
  ·subst h3;exact number_other 3 n w hok _ (by simp [thingV,hok]) (assert_run n)
  ·exact number_other k n w hok _ (by simp [thingV,h1,h2,h3]) assert_nil
theorem isSlot_any (n:Int) (w:World):Calls Tryz.prog 213 #[.int .i64 n] w fun e w'=>e=.returned (.bool (inB n 0 3))∧w'=w:=by
 by_cases h1:0≤n
 ·go_enter Tryz.func213,Tryz.ntmps213
  go_wp2
  go_ret
  exact⟨by simp [inB];omega,rfl⟩
 ·go_enter Tryz.func213,Tryz.ntmps213
  go_wp2
  go_ret
  exact⟨by simp [inB];omega,rfl⟩
theorem isPlace_anyJ (n:Int) (w:World):Calls Tryz.prog 135 #[.int .i64 n] w fun e w'=>e=.returned (.bool (inB n 0 15))∧w'=w:=by
 have e:(n<16)=(n≤15):=propext ⟨fun h=>by omega,fun h=>by omega⟩;by_cases h1:0≤n
 ·go_enter Tryz.func135,Tryz.ntmps135
  go_wp2
  go_ret
  exact⟨by simp [inB];omega,rfl⟩
 ·go_enter Tryz.func135,Tryz.ntmps135
  go_wp2
  go_ret
  exact⟨by simp [inB];omega,rfl⟩
theorem isKind_any (n:Int) (w:World):Calls Tryz.prog 218 #[.int .i64 n] w fun e w'=>e=.returned (.bool (inB n 0 3))∧w'=w:=by
 by_cases h1:0≤n
 ·go_enter Tryz.func218,Tryz.ntmps218
  go_wp2
  go_ret
  exact⟨by simp [inB];omega,rfl⟩
 ·go_enter Tryz.func218,Tryz.ntmps218
  go_wp2
  go_ret
  exact⟨by simp [inB];omega,rfl⟩
theorem slotR_any (k r s t a b:Int) (w:World):Calls Tryz.prog 185 #[.agg #[.int .i64 k,.int .i64 r,.int .i64 s,.int .i64 t,.int .i64 a,.int .i64 b]] w fun e w'=>e=.returned (.bool (inB r 0 3))∧Below w.heap.size w w':=by
 go_enter Tryz.func185,Tryz.ntmps185
 go_wp2_with fail
 refine(isSlot_any _ _).mono ?_;rintro e w1 ⟨rfl,rfl⟩
 go_wp2_with fail
 go_ret
 exact⟨rfl,(Below.refl _ _).alloc (Nat.le_refl _) _⟩
theorem slotS_any (k r s t a b:Int) (w:World):Calls Tryz.prog 189 #[.agg #[.int .i64 k,.int .i64 r,.int .i64 s,.int .i64 t,.int .i64 a,.int .i64 b]] w fun e w'=>e=.returned (.bool (inB s 0 3))∧Below w.heap.size w w':=by
 go_enter Tryz.func189,Tryz.ntmps189
 go_wp2_with fail
 refine(isSlot_any _ _).mono ?_;rintro e w1 ⟨rfl,rfl⟩
 go_wp2_with fail
 go_ret
 exact⟨rfl,(Below.refl _ _).alloc (Nat.le_refl _) _⟩
theorem kindS_any (k r s t a b:Int) (w:World):Calls Tryz.prog 201 #[.agg #[.int .i64 k,.int .i64 r,.int .i64 s,.int .i64 t,.int .i64 a,.int .i64 b]] w fun e w'=>e=.returned (.bool (inB s 0 3))∧Below w.heap.size w w':=by
 go_enter Tryz.func201,Tryz.ntmps201
 go_wp2_with fail
 refine(isKind_any _ _).mono ?_;rintro e w1 ⟨rfl,rfl⟩
 go_wp2_with fail
 go_ret
 exact⟨rfl,(Below.refl _ _).alloc (Nat.le_refl _) _⟩
theorem placeTo_any (k r s t a b:Int) (w:World):Calls Tryz.prog 193 #[.agg #[.int .i64 k,.int .i64 r,.int .i64 s,.int .i64 t,.int .i64 a,.int .i64 b]] w fun e w'=>e=.returned (.bool (inB t 0 15))∧Below w.heap.size w w':=by
 go_enter Tryz.func193,Tryz.ntmps193
 go_wp2_with fail
 refine(isPlace_anyJ _ _).mono ?_;rintro e w1 ⟨rfl,rfl⟩
 go_wp2_with fail
 go_ret
 exact⟨rfl,(Below.refl _ _).alloc (Nat.le_refl _) _⟩
theorem noR_any (k r s t a b:Int) (w:World):Calls Tryz.prog 188 #[.agg #[.int .i64 k,.int .i64 r,.int .i64 s,.int .i64 t,.int .i64 a,.int .i64 b]] w fun e w'=>e=.returned (.bool (r==0))∧Below w.heap.size w w':=by
 go_enter Tryz.func188,Tryz.ntmps188
 go_wp2_with fail
 go_ret
 exact⟨rfl,(Below.refl _ _).alloc (Nat.le_refl _) _⟩
theorem noS_any (k r s t a b:Int) (w:World):Calls Tryz.prog 192 #[.agg #[.int .i64 k,.int .i64 r,.int .i64 s,.int .i64 t,.int .i64 a,.int .i64 b]] w fun e w'=>e=.returned (.bool (s==0))∧Below w.heap.size w w':=by
 go_enter Tryz.func192,Tryz.ntmps192
 go_wp2_with fail
 go_ret
 exact⟨rfl,(Below.refl _ _).alloc (Nat.le_refl _) _⟩
theorem noTo_any (k r s t a b:Int) (w:World):Calls Tryz.prog 196 #[.agg #[.int .i64 k,.int .i64 r,.int .i64 s,.int .i64 t,.int .i64 a,.int .i64 b]] w fun e w'=>e=.returned (.bool (t==0))∧Below w.heap.size w w':=by
 go_enter Tryz.func196,Tryz.ntmps196
 go_wp2_with fail
 go_ret
 exact⟨rfl,(Below.refl _ _).alloc (Nat.le_refl _) _⟩
theorem noV_any (k r s t a b:Int) (w:World):Calls Tryz.prog 200 #[.agg #[.int .i64 k,.int .i64 r,.int .i64 s,.int .i64 t,.int .i64 a,.int .i64 b]] w fun e w'=>e=.returned (.bool (a==0&&b==0))∧Below w.heap.size w w':=by
 by_cases h0:a=0
 ·subst h0;by_cases h1:b=0
  ·subst h1
   go_enter Tryz.func200,Tryz.ntmps200
   go_wp2_with fail
   go_ret
   exact⟨rfl,(Below.refl _ _).alloc (Nat.le_refl _) _⟩
  ·go_enter Tryz.func200,Tryz.ntmps200
   go_wp2_with fail
   go_ret
   exact⟨by simp [h1],(Below.refl _ _).alloc (Nat.le_refl _) _⟩
 ·go_enter Tryz.func200,Tryz.ntmps200
  go_wp2_with fail
  go_ret
  exact⟨by simp [h0],(Below.refl _ _).alloc (Nat.le_refl _) _⟩
theorem valueV_any (k r s t a b:Int) (w:World):Calls Tryz.prog 197 #[.agg #[.int .i64 k,.int .i64 r,.int .i64 s,.int .i64 t,.int .i64 a,.int .i64 b]] w fun e w'=>e=.returned (.bool (okB a b))∧Below w.heap.size w w':=by
 go_enter Tryz.func197,Tryz.ntmps197
 go_wp2_with fail
 refine(implOk_any _ _ _).mono ?_;rintro e w1 ⟨rfl,hb1⟩
 go_wp2_with fail
 go_ret
 exact⟨rfl,((Below.refl _ _).alloc (Nat.le_refl _) _).trans (hb1.mono (by simp))⟩
def timeB (a b:Int):Bool:=numB a b&&decide (1≤b)
def onOffB (a b:Int):Bool:=numB a b&&(b==0||b==1)
theorem timeV_any (k r s t a b:Int) (w:World):Calls Tryz.prog 202 #[.agg #[.int .i64 k,.int .i64 r,.int .i64 s,.int .i64 t,.int .i64 a,.int .i64 b]] w fun e w'=>e=.returned (.bool (timeB a b))∧Below w.heap.size w w':=by
 cases h:numB a b with
 |true =>
  obtain⟨rfl,_⟩:=numB_bd h
  go_enter Tryz.func202,Tryz.ntmps202
  go_wp2_with fail
  refine(number_yes _ _ h).mono ?_;rintro e w1 ⟨rfl,hb1⟩
  go_wp2_with fail
  go_ret
  exact⟨by simp [timeB,h],((Below.refl _ _).alloc (Nat.le_refl _) _).trans (hb1.mono (by simp))⟩
 |false =>
  go_enter Tryz.func202,Tryz.ntmps202
  go_wp2_with fail
  refine(number_no _ _ _ h).mono ?_;rintro e w1 ⟨rfl,hb1⟩
  go_wp2_with fail
  go_ret
  exact⟨by simp [timeB,h],((Below.refl _ _).alloc (Nat.le_refl _) _).trans (hb1.mono (by simp))⟩
theorem onOffV_any (k r s t a b:Int) (w:World):Calls Tryz.prog 203 #[.agg #[.int .i64 k,.int .i64 r,.int .i64 s,.int .i64 t,.int .i64 a,.int .i64 b]] w fun e w'=>e=.returned (.bool (onOffB a b))∧Below w.heap.size w w':=by
 cases h:numB a b with
 |true =>
  obtain⟨rfl,_⟩:=numB_bd h;by_cases h0:b=0
  ·subst h0
   go_enter Tryz.func203,Tryz.ntmps203
   go_wp2_with fail
   refine(number_yes _ _ h).mono ?_;rintro e w1 ⟨rfl,hb1⟩
   go_wp2_with fail
   go_ret
   exact⟨by simp [onOffB,h],((Below.refl _ _).alloc (Nat.le_refl _) _).trans (hb1.mono (by simp))⟩
  ·go_enter Tryz.func203,Tryz.ntmps203
   go_wp2_with fail
   refine(number_yes _ _ h).mono ?_;rintro e w1 ⟨rfl,hb1⟩;have e0:(b==0)=false:=by simpa using h0
   go_wp2_with fail
   go_ret
   exact⟨by simp [onOffB,h,h0],((Below.refl _ _).alloc (Nat.le_refl _) _).trans (hb1.mono (by simp))⟩
 |false =>
  go_enter Tryz.func203,Tryz.ntmps203
  go_wp2_with fail
  refine(number_no _ _ _ h).mono ?_;rintro e w1 ⟨rfl,hb1⟩
  go_wp2_with fail
  go_ret
  exact⟨by simp [onOffB,h],((Below.refl _ _).alloc (Nat.le_refl _) _).trans (hb1.mono (by simp))⟩
end Go.Proofs.YtgmkmeodimmdoaaGreatDoor.Eld
