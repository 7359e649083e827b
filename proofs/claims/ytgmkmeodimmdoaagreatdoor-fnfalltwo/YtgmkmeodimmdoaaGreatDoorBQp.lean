import Derived.Test.YtgmkmeodimmdoaaGreatDoorBQo
set_option maxHeartbeats 40000000
set_option maxRecDepth 20000
namespace Go.Proofs.YtgmkmeodimmdoaaGreatDoor.Eld
open Go.ChangeShapes Go.WideShapes Go.ChangeAt Go.RowKit Go.Joins
def zeroT:Array Value:=(L0++L0++L0++L0++L0++L0++L0++L0++L0++L0++L0++L0++L0++L0++L0).toArray
theorem wpList_allocT {ops:Array Oper} {Q:Exit→Act→World→Prop} {o:Oper} {rest:List Oper} {a:Act} {W:World} (hg:o.guard=none) (ho:o.op=.alloc 202)
  (hk:wpList Tryz.prog ops Q rest (a.put o.dst (.pointer (some ⟨W.heap.size,0,none⟩))) (W.alloc (.cells zeroT 202))):wpList Tryz.prog ops Q (o::rest) a W:=by
 refine wpList_plain hg fun _ hK=>?_
 obtain⟨dst,op,ty,pos,af,gd⟩:=o;dsimp only at ho hg hk;subst ho;have e:(execOp a.eval ⟨dst,.alloc 202,ty,pos,af,gd⟩).run Tryz.prog W=.ok (.value (.pointer (some ⟨W.heap.size,0,none⟩))) (W.alloc (.cells zeroT 202)):=by kernel_rfl
 unfold Oper.wp;rw [e];exact hK _ _ hk
def rowV:Nat→Nat→Nat→Nat→Value
 |1,_,_,_=>F1
 |2,_,y,_=>F2 y
 |3,_,_,z=>F3 z
 |4,_,_,_=>F4
 |5,_,_,_=>F5
 |6,_,_,z=>F6 z
 |7,_,_,_=>F7
 |8,_,_,_=>F8
 |9,_,_,_=>F9
 |10,x,_,_=>F10 x
 |11,x,_,_=>F11 x
 |12,x,_,_=>F12 x
 |13,_,_,_=>F13
 |14,x,_,_=>F14 x
 |_,_,_,_=>.agg #[]
theorem row_1 (x y z:Nat):rowV (Int.toNat 1) x y z=.agg #[.string ⟨#[115,101,116]⟩,.func (.func 185) #[] #[],.func (.func 186) #[] #[],.func (.func 187) #[] #[],.func (.func 192) #[] #[],.nilFunc,.nilFunc,.func (.func 196) #[] #[],.nilFunc,.nilFunc,.func (.func 197) #[] #[],.func (.func 198) #[] #[],.func (.func 199) #[] #[],(.slice none 0 0)]:=rfl
theorem row_2 (x y z:Nat):rowV (Int.toNat 2) x y z=.agg #[.string ⟨#[109,111,118,101]⟩,.func (.func 185) #[] #[],.func (.func 186) #[] #[],.func (.func 187) #[] #[],.func (.func 189) #[] #[],.func (.func 190) #[] #[],.func (.func 191) #[] #[],.func (.func 196) #[] #[],.nilFunc,.nilFunc,.func (.func 200) #[] #[],.nilFunc,.nilFunc,(.slice (some ⟨y,0,none⟩) 1 1)]:=rfl
theorem row_3 (x y z:Nat):rowV (Int.toNat 3) x y z=.agg #[.string ⟨#[97,100,100]⟩,.func (.func 185) #[] #[],.func (.func 186) #[] #[],.func (.func 187) #[] #[],.func (.func 189) #[] #[],.func (.func 190) #[] #[],.func (.func 191) #[] #[],.func (.func 196) #[] #[],.nilFunc,.nilFunc,.func (.func 200) #[] #[],.nilFunc,.nilFunc,(.slice (some ⟨z,0,none⟩) 2 2)]:=rfl
theorem row_4 (x y z:Nat):rowV (Int.toNat 4) x y z=.agg #[.string ⟨#[115,101,108,102]⟩,.func (.func 185) #[] #[],.func (.func 186) #[] #[],.func (.func 187) #[] #[],.func (.func 192) #[] #[],.nilFunc,.nilFunc,.func (.func 196) #[] #[],.nilFunc,.nilFunc,.func (.func 200) #[] #[],.nilFunc,.nilFunc,(.slice none 0 0)]:=rfl
theorem row_5 (x y z:Nat):rowV (Int.toNat 5) x y z=.agg #[.string ⟨#[98,101,103,105,110]⟩,.func (.func 185) #[] #[],.func (.func 186) #[] #[],.func (.func 187) #[] #[],.func (.func 192) #[] #[],.nilFunc,.nilFunc,.func (.func 193) #[] #[],.func (.func 194) #[] #[],.func (.func 195) #[] #[],.func (.func 200) #[] #[],.nilFunc,.nilFunc,(.slice none 0 0)]:=rfl
theorem row_6 (x y z:Nat):rowV (Int.toNat 6) x y z=.agg #[.string ⟨#[115,101,110,100]⟩,.func (.func 185) #[] #[],.func (.func 186) #[] #[],.func (.func 187) #[] #[],.func (.func 189) #[] #[],.func (.func 190) #[] #[],.func (.func 191) #[] #[],.func (.func 196) #[] #[],.nilFunc,.nilFunc,.func (.func 200) #[] #[],.nilFunc,.nilFunc,(.slice (some ⟨z,0,none⟩) 2 2)]:=rfl
theorem row_7 (x y z:Nat):rowV (Int.toNat 7) x y z=.agg #[.string ⟨#[116,97,107,101]⟩,.func (.func 185) #[] #[],.func (.func 186) #[] #[],.func (.func 187) #[] #[],.func (.func 201) #[] #[],.func (.func 190) #[] #[],.func (.func 191) #[] #[],.func (.func 196) #[] #[],.nilFunc,.nilFunc,.func (.func 200) #[] #[],.nilFunc,.nilFunc,(.slice none 0 0)]:=rfl
theorem row_8 (x y z:Nat):rowV (Int.toNat 8) x y z=.agg #[.string ⟨#[97,102,116,101,114]⟩,.func (.func 185) #[] #[],.func (.func 186) #[] #[],.func (.func 187) #[] #[],.func (.func 201) #[] #[],.func (.func 190) #[] #[],.func (.func 191) #[] #[],.func (.func 193) #[] #[],.func (.func 194) #[] #[],.func (.func 195) #[] #[],.func (.func 202) #[] #[],.func (.func 198) #[] #[],.func (.func 199) #[] #[],(.slice none 0 0)]:=rfl
theorem row_9 (x y z:Nat):rowV (Int.toNat 9) x y z=.agg #[.string ⟨#[103,111]⟩,.func (.func 188) #[] #[],.nilFunc,.nilFunc,.func (.func 192) #[] #[],.nilFunc,.nilFunc,.func (.func 193) #[] #[],.func (.func 194) #[] #[],.func (.func 195) #[] #[],.func (.func 200) #[] #[],.nilFunc,.nilFunc,(.slice none 0 0)]:=rfl
theorem row_10 (x y z:Nat):rowV (Int.toNat 10) x y z=.agg #[.string ⟨#[105,102]⟩,.func (.func 185) #[] #[],.func (.func 186) #[] #[],.func (.func 187) #[] #[],.func (.func 192) #[] #[],.nilFunc,.nilFunc,.func (.func 193) #[] #[],.func (.func 194) #[] #[],.func (.func 195) #[] #[],.func (.func 197) #[] #[],.func (.func 198) #[] #[],.func (.func 199) #[] #[],(.slice (some ⟨x,0,none⟩) 1 1)]:=rfl
theorem row_11 (x y z:Nat):rowV (Int.toNat 11) x y z=.agg #[.string ⟨#[108,105,110,107]⟩,.func (.func 185) #[] #[],.func (.func 186) #[] #[],.func (.func 187) #[] #[],.func (.func 192) #[] #[],.nilFunc,.nilFunc,.func (.func 196) #[] #[],.nilFunc,.nilFunc,.func (.func 200) #[] #[],.nilFunc,.nilFunc,(.slice (some ⟨x,0,none⟩) 1 1)]:=rfl
theorem row_12 (x y z:Nat):rowV (Int.toNat 12) x y z=.agg #[.string ⟨#[119,97,116,99,104]⟩,.func (.func 185) #[] #[],.func (.func 186) #[] #[],.func (.func 187) #[] #[],.func (.func 192) #[] #[],.nilFunc,.nilFunc,.func (.func 196) #[] #[],.nilFunc,.nilFunc,.func (.func 200) #[] #[],.nilFunc,.nilFunc,(.slice (some ⟨x,0,none⟩) 1 1)]:=rfl
theorem row_13 (x y z:Nat):rowV (Int.toNat 13) x y z=.agg #[.string ⟨#[116,114,97,112]⟩,.func (.func 188) #[] #[],.nilFunc,.nilFunc,.func (.func 192) #[] #[],.nilFunc,.nilFunc,.func (.func 196) #[] #[],.nilFunc,.nilFunc,.func (.func 203) #[] #[],.func (.func 198) #[] #[],.func (.func 199) #[] #[],(.slice none 0 0)]:=rfl
theorem row_14 (x y z:Nat):rowV (Int.toNat 14) x y z=.agg #[.string ⟨#[101,110,100]⟩,.func (.func 185) #[] #[],.func (.func 186) #[] #[],.func (.func 187) #[] #[],.func (.func 192) #[] #[],.nilFunc,.nilFunc,.func (.func 196) #[] #[],.nilFunc,.nilFunc,.func (.func 200) #[] #[],.nilFunc,.nilFunc,(.slice (some ⟨x,0,none⟩) 1 1)]:=rfl
theorem tab_row (x y z:Nat):∀n,1≤n→n≤14→∃v0 v1 v2 v3 v4 v5 v6 v7 v8 v9 v10 v11 v12 v13,rowV n x y z=.agg #[v0,v1,v2,v3,v4,v5,v6,v7,v8,v9,v10,v11,v12,v13]∧#[v0,v1,v2,v3,v4,v5,v6,v7,v8,v9,v10,v11,v12,v13].all (·.oneCell')=true ∧
  (tabA x y z)[n*14]?=some v0∧(tabA x y z)[n*14+1]?=some v1∧(tabA x y z)[n*14+2]?=some v2∧(tabA x y z)[n*14+3]?=some v3∧(tabA x y z)[n*14+4]?=some v4∧(tabA x y z)[n*14+5]?=some v5∧(tabA x y z)[n*14+6]?=some v6∧(tabA x y z)[n*14+7]?=some v7∧(tabA x y z)[n*14+8]?=some v8∧(tabA x y z)[n*14+9]?=some v9∧(tabA x y z)[n*14+10]?=some v10∧(tabA x y z)[n*14+11]?=some v11∧(tabA x y z)[n*14+12]?=some v12∧(tabA x y z)[n*14+13]?=some v13
 |1,_,_=>⟨_,_,_,_,_,_,_,_,_,_,_,_,_,_,rfl,by kernel_rfl,by kernel_rfl,by kernel_rfl,by kernel_rfl,by kernel_rfl,by kernel_rfl,by kernel_rfl,by kernel_rfl,by kernel_rfl,by kernel_rfl,by kernel_rfl,by kernel_rfl,by kernel_rfl,by kernel_rfl,by kernel_rfl⟩
 |2,_,_=>⟨_,_,_,_,_,_,_,_,_,_,_,_,_,_,rfl,by kernel_rfl,by kernel_rfl,by kernel_rfl,by kernel_rfl,by kernel_rfl,by kernel_rfl,by kernel_rfl,by kernel_rfl,by kernel_rfl,by kernel_rfl,by kernel_rfl,by kernel_rfl,by kernel_rfl,by kernel_rfl,by kernel_rfl⟩
 |3,_,_=>⟨_,_,_,_,_,_,_,_,_,_,_,_,_,_,rfl,by kernel_rfl,by kernel_rfl,by kernel_rfl,by kernel_rfl,by kernel_rfl,by kernel_rfl,by kernel_rfl,by kernel_rfl,by kernel_rfl,by kernel_rfl,by kernel_rfl,by kernel_rfl,by kernel_rfl,by kernel_rfl,by kernel_rfl⟩
 |4,_,_=>⟨_,_,_,_,_,_,_,_,_,_,_,_,_,_,rfl,by kernel_rfl,by kernel_rfl,by kernel_rfl,by kernel_rfl,by kernel_rfl,by kernel_rfl,by kernel_rfl,by kernel_rfl,by kernel_rfl,by kernel_rfl,by kernel_rfl,by kernel_rfl,by kernel_rfl,by kernel_rfl,by kernel_rfl⟩
 |5,_,_=>⟨_,_,_,_,_,_,_,_,_,_,_,_,_,_,rfl,by kernel_rfl,by kernel_rfl,by kernel_rfl,by kernel_rfl,by kernel_rfl,by kernel_rfl,by kernel_rfl,by kernel_rfl,by kernel_rfl,by kernel_rfl,by kernel_rfl,by kernel_rfl,by kernel_rfl,by kernel_rfl,by kernel_rfl⟩
 |6,_,_=>⟨_,_,_,_,_,_,_,_,_,_,_,_,_,_,rfl,by kernel_rfl,by kernel_rfl,by kernel_rfl,by kernel_rfl,by kernel_rfl,by kernel_rfl,by kernel_rfl,by kernel_rfl,by kernel_rfl,by kernel_rfl,by kernel_rfl,by kernel_rfl,by kernel_rfl,by kernel_rfl,by kernel_rfl⟩
 |7,_,_=>⟨_,_,_,_,_,_,_,_,_,_,_,_,_,_,rfl,by kernel_rfl,by kernel_rfl,by kernel_rfl,by kernel_rfl,by kernel_rfl,by kernel_rfl,by kernel_rfl,by kernel_rfl,by kernel_rfl,by kernel_rfl,by kernel_rfl,by kernel_rfl,by kernel_rfl,by kernel_rfl,by kernel_rfl⟩
 |8,_,_=>⟨_,_,_,_,_,_,_,_,_,_,_,_,_,_,rfl,by kernel_rfl,by kernel_rfl,by kernel_rfl,by kernel_rfl,by kernel_rfl,by kernel_rfl,by kernel_rfl,by kernel_rfl,by kernel_rfl,by kernel_rfl,by kernel_rfl,by kernel_rfl,by kernel_rfl,by kernel_rfl,by kernel_rfl⟩
 |9,_,_=>⟨_,_,_,_,_,_,_,_,_,_,_,_,_,_,rfl,by kernel_rfl,by kernel_rfl,by kernel_rfl,by kernel_rfl,by kernel_rfl,by kernel_rfl,by kernel_rfl,by kernel_rfl,by kernel_rfl,by kernel_rfl,by kernel_rfl,by kernel_rfl,by kernel_rfl,by kernel_rfl,by kernel_rfl⟩
 |10,_,_=>⟨_,_,_,_,_,_,_,_,_,_,_,_,_,_,rfl,by kernel_rfl,by kernel_rfl,by kernel_rfl,by kernel_rfl,by kernel_rfl,by kernel_rfl,by kernel_rfl,by kernel_rfl,by kernel_rfl,by kernel_rfl,by kernel_rfl,by kernel_rfl,by kernel_rfl,by kernel_rfl,by kernel_rfl⟩
 |11,_,_=>⟨_,_,_,_,_,_,_,_,_,_,_,_,_,_,rfl,by kernel_rfl,by kernel_rfl,by kernel_rfl,by kernel_rfl,by kernel_rfl,by kernel_rfl,by kernel_rfl,by kernel_rfl,by kernel_rfl,by kernel_rfl,by kernel_rfl,by kernel_rfl,by kernel_rfl,by kernel_rfl,by kernel_rfl⟩
 |12,_,_=>⟨_,_,_,_,_,_,_,_,_,_,_,_,_,_,rfl,by kernel_rfl,by kernel_rfl,by kernel_rfl,by kernel_rfl,by kernel_rfl,by kernel_rfl,by kernel_rfl,by kernel_rfl,by kernel_rfl,by kernel_rfl,by kernel_rfl,by kernel_rfl,by kernel_rfl,by kernel_rfl,by kernel_rfl⟩
 |13,_,_=>⟨_,_,_,_,_,_,_,_,_,_,_,_,_,_,rfl,by kernel_rfl,by kernel_rfl,by kernel_rfl,by kernel_rfl,by kernel_rfl,by kernel_rfl,by kernel_rfl,by kernel_rfl,by kernel_rfl,by kernel_rfl,by kernel_rfl,by kernel_rfl,by kernel_rfl,by kernel_rfl,by kernel_rfl⟩
 |14,_,_=>⟨_,_,_,_,_,_,_,_,_,_,_,_,_,_,rfl,by kernel_rfl,by kernel_rfl,by kernel_rfl,by kernel_rfl,by kernel_rfl,by kernel_rfl,by kernel_rfl,by kernel_rfl,by kernel_rfl,by kernel_rfl,by kernel_rfl,by kernel_rfl,by kernel_rfl,by kernel_rfl,by kernel_rfl⟩
 |0,h,_=>absurd h (by decide)
 |n+15,_,h=>absurd h (by omega)
def RowIs (k:Int) (w:World) (e:Ending) (w':World):Prop :=
 Below w.heap.size w w'∧∃x y z,e=.returned (.tuple #[rowV k.toNat x y z,.bool true])∧w'.cell? ⟨x,0,none⟩=some (.func (.func 204) #[] #[])∧w'.cell? ⟨y,0,none⟩=some (.func (.func 205) #[] #[]) ∧
  w'.cell? ⟨z,0,none⟩=some (.func (.func 204) #[] #[])∧w'.cell? ⟨z,1,none⟩=some (.func (.func 205) #[] #[])
theorem below_row {B g:Nat} {a w:World} (h:Below B a w) (hg:B≤g) (cs:Array Value):Below B a (w.setRow g cs) :=
 h.trans ⟨rfl,rfl,rfl,by simp,fun k hk=>setRow_other _ _ _ _ (by omega)⟩
theorem formOf_nat (n:Nat) (w:World) (h1:1≤n) (h2:n≤14) :
  Calls Tryz.prog 169 #[.int .i64 n] w fun e w'=>RowIs n w e w':=by
 go_enter Tryz.func169,Tryz.ntmps169
 iterate 172 go_step
 change Exit.then _ _ _ _ (tabW w)
 have hT:=tabW_is w;generalize tabW w=W at *;obtain⟨h0',h1',h2',h3',h4',h5',h6',h7',h8',h9',h10',h11',h12',h13',h14',hsz,hbl⟩:=hT;generalize e1:w.heap.size+1=a1 at *;generalize e2:a1+1=a2 at *;generalize e3:a2+1=a3 at *;generalize e4:a3+1=a4 at *;generalize e5:a4+1=a5 at *;generalize e6:a5+1=a6 at *;generalize e7:a6+1=a7 at *;generalize e8:a7+1=a8 at *;generalize e9:a8+1=a9 at *;generalize e10:a9+1=a10 at *;generalize e11:a10+1=a11 at *;generalize e12:a11+1=a12 at *;generalize e13:a12+1=a13 at *;generalize e14:a13+1=a14 at *
 iterate 4 go_step
 refine tabs_sound progT _ _ _ (tabs_T n w.heap.size a1 a2 a3 a4 a5 a6 a7 a8 a9 a10 a11 a12 a13 a14) ?fits ?mem ?_
 case fits =>
  unfold progT;refine⟨?_,?_,?_,?_,?_,?_,?_,?_,?_,?_,?_,?_,?_,?_,?_,?_,?_,?_,?_,?_,?_,?_,?_,?_,?_,?_,?_,?_,?_,?_,?_,?_,?_,?_,?_,?_,?_,?_,?_,?_,?_,?_,?_,?_,?_,?_,?_,?_,?_,?_,?_,?_,?_,?_,?_,?_,?_,?_,?_,?_,?_,?_,?_,?_,?_,?_,?_,?_,?_,?_,?_,?_,?_,?_,?_,?_,?_,?_,?_,?_,?_,?_,?_,?_,?_,?_,?_,?_,?_,?_,?_,?_,trivial⟩<;>exact⟨rfl,rfl,rfl⟩
 case mem =>
  intro s cs hs;unfold memT at hs
  split at hs
  ·injection hs with hs;subst hs;exact⟨rfl,a1,(0,0),rfl,h1'⟩
  ·injection hs with hs;subst hs;exact⟨rfl,a2,(0,0),rfl,h2'⟩
  ·injection hs with hs;subst hs;exact⟨rfl,a3,(0,0),rfl,h3'⟩
  ·injection hs with hs;subst hs;exact⟨rfl,a4,(0,0),rfl,h4'⟩
  ·injection hs with hs;subst hs;exact⟨rfl,a5,(0,0),rfl,h5'⟩
  ·injection hs with hs;subst hs;exact⟨rfl,a6,(0,0),rfl,h6'⟩
  ·injection hs with hs;subst hs;exact⟨rfl,a7,(0,0),rfl,h7'⟩
  ·injection hs with hs;subst hs;exact⟨rfl,a8,(0,0),rfl,h8'⟩
  ·injection hs with hs;subst hs;exact⟨rfl,a9,(0,0),rfl,h9'⟩
  ·injection hs with hs;subst hs;exact⟨rfl,a10,(0,0),rfl,h10'⟩
  ·injection hs with hs;subst hs;exact⟨rfl,a11,(0,0),rfl,h11'⟩
  ·cases hs
 clear h1' h2' h3' h4' h5' h6' h7' h8' h9' h10' h11';refine wpList_allocT rfl rfl ?_;refine wpList_store_row rfl 202 (.tmp 18) (.tmp 124) rfl W.heap.size (tabA a12 a13 a14) rfl rfl 202 zeroT (heap_newJ rfl) (by kernel_rfl) (by kernel_rfl) (by kernel_rfl) ?_;have g15:=setRow_heap (W.alloc (.cells zeroT 202)) W.heap.size zeroT (tabA a12 a13 a14) 202 (0,0) (heap_newJ rfl);have go:∀i,i<W.heap.size→((W.alloc (.cells zeroT 202)).setRow W.heap.size (tabA a12 a13 a14)).heap[i]?=W.heap[i]?:=fun i hi=>(setRow_other _ _ _ _ (by omega)).trans (heap_old hi)
 have g0:=(go w.heap.size (by omega)).trans h0';have g12:=(go a12 (by omega)).trans h12';have g13:=(go a13 (by omega)).trans h13';have g14:=(go a14 (by omega)).trans h14';have hb2:Below w.heap.size w ((W.alloc (.cells zeroT 202)).setRow W.heap.size (tabA a12 a13 a14)):=below_row (hbl.alloc (by omega) _) (by omega) _;have hs2:((W.alloc (.cells zeroT 202)).setRow W.heap.size (tabA a12 a13 a14)).heap.size=W.heap.size+1:=by simp
 clear go h0' h12' h13' h14' hbl;have ea:W.heap.size=a14+1:=by omega
 unfold actT;rw [ea] at g15 g0 g12 g13 g14 hb2 hs2 ⊢;generalize (W.alloc (.cells zeroT 202)).setRow (a14+1) (tabA a12 a13 a14)=W2 at *;generalize e15:a14+1=a15 at *;have hc:=fun j=>cell_of_row W2 a15 j _ _ _ g15
 have q12:=cell_of_row W2 a12 0 _ _ _ g12;have q13:=cell_of_row W2 a13 0 _ _ _ g13;have q14:=cell_of_row W2 a14 0 _ _ _ g14;have q14':=cell_of_row W2 a14 1 _ _ _ g14;obtain⟨v0,v1,v2,v3,v4,v5,v6,v7,v8,v9,v10,v11,v12,v13,hrow,hall,t0,t1,t2,t3,t4,t5,t6,t7,t8,t9,t10,t11,t12,t13⟩:=tab_row a12 a13 a14 n h1 h2;have c0:=(hc (n*14)).trans t0;have c1:=(hc (n*14+1)).trans t1;have c2:=(hc (n*14+2)).trans t2;have c3:=(hc (n*14+3)).trans t3;have c4:=(hc (n*14+4)).trans t4;have c5:=(hc (n*14+5)).trans t5;have c6:=(hc (n*14+6)).trans t6;have c7:=(hc (n*14+7)).trans t7;have c8:=(hc (n*14+8)).trans t8;have c9:=(hc (n*14+9)).trans t9;have c10:=(hc (n*14+10)).trans t10;have c11:=(hc (n*14+11)).trans t11;have c12:=(hc (n*14+12)).trans t12;have c13:=(hc (n*14+13)).trans t13;clear hc g15 t0 t1 t2 t3 t4 t5 t6 t7 t8 t9 t10 t11 t12 t13;have l1:((n:Int)<1)=False:=eq_false (by omega);have l2:((14:Int)<n)=False:=eq_false (by omega)
 go_wp2_with (refine wpList_store_row rfl 182 (.tmp 2) (.tmp 134) rfl w.heap.size #[v0,v1,v2,v3,v4,v5,v6,v7,v8,v9,v10,v11,v12,v13] rfl rfl 182 _ g0 (by kernel_rfl) (by kernel_rfl) hall ?_)
 clear c0 c1 c2 c3 c4 c5 c6 c7 c8 c9 c10 c11 c12 c13;have z0:(W2.setRow w.heap.size #[v0,v1,v2,v3,v4,v5,v6,v7,v8,v9,v10,v11,v12,v13]).cell? ⟨w.heap.size,0,none⟩=some v0:=cell_setRow_same W2 _ 0 _ _ _ _ g0;have z1:(W2.setRow w.heap.size #[v0,v1,v2,v3,v4,v5,v6,v7,v8,v9,v10,v11,v12,v13]).cell? ⟨w.heap.size,1,none⟩=some v1:=cell_setRow_same W2 _ 1 _ _ _ _ g0;have z2:(W2.setRow w.heap.size #[v0,v1,v2,v3,v4,v5,v6,v7,v8,v9,v10,v11,v12,v13]).cell? ⟨w.heap.size,2,none⟩=some v2:=cell_setRow_same W2 _ 2 _ _ _ _ g0;have z3:(W2.setRow w.heap.size #[v0,v1,v2,v3,v4,v5,v6,v7,v8,v9,v10,v11,v12,v13]).cell? ⟨w.heap.size,3,none⟩=some v3:=cell_setRow_same W2 _ 3 _ _ _ _ g0;have z4:(W2.setRow w.heap.size #[v0,v1,v2,v3,v4,v5,v6,v7,v8,v9,v10,v11,v12,v13]).cell? ⟨w.heap.size,4,none⟩=some v4:=cell_setRow_same W2 _ 4 _ _ _ _ g0;have z5:(W2.setRow w.heap.size #[v0,v1,v2,v3,v4,v5,v6,v7,v8,v9,v10,v11,v12,v13]).cell? ⟨w.heap.size,5,none⟩=some v5:=cell_setRow_same W2 _ 5 _ _ _ _ g0;have z6:(W2.setRow w.heap.size #[v0,v1,v2,v3,v4,v5,v6,v7,v8,v9,v10,v11,v12,v13]).cell? ⟨w.heap.size,6,none⟩=some v6:=cell_setRow_same W2 _ 6 _ _ _ _ g0;have z7:(W2.setRow w.heap.size #[v0,v1,v2,v3,v4,v5,v6,v7,v8,v9,v10,v11,v12,v13]).cell? ⟨w.heap.size,7,none⟩=some v7:=cell_setRow_same W2 _ 7 _ _ _ _ g0;have z8:(W2.setRow w.heap.size #[v0,v1,v2,v3,v4,v5,v6,v7,v8,v9,v10,v11,v12,v13]).cell? ⟨w.heap.size,8,none⟩=some v8:=cell_setRow_same W2 _ 8 _ _ _ _ g0;have z9:(W2.setRow w.heap.size #[v0,v1,v2,v3,v4,v5,v6,v7,v8,v9,v10,v11,v12,v13]).cell? ⟨w.heap.size,9,none⟩=some v9:=cell_setRow_same W2 _ 9 _ _ _ _ g0;have z10:(W2.setRow w.heap.size #[v0,v1,v2,v3,v4,v5,v6,v7,v8,v9,v10,v11,v12,v13]).cell? ⟨w.heap.size,10,none⟩=some v10:=cell_setRow_same W2 _ 10 _ _ _ _ g0;have z11:(W2.setRow w.heap.size #[v0,v1,v2,v3,v4,v5,v6,v7,v8,v9,v10,v11,v12,v13]).cell? ⟨w.heap.size,11,none⟩=some v11:=cell_setRow_same W2 _ 11 _ _ _ _ g0;have z12:(W2.setRow w.heap.size #[v0,v1,v2,v3,v4,v5,v6,v7,v8,v9,v10,v11,v12,v13]).cell? ⟨w.heap.size,12,none⟩=some v12:=cell_setRow_same W2 _ 12 _ _ _ _ g0;have z13:(W2.setRow w.heap.size #[v0,v1,v2,v3,v4,v5,v6,v7,v8,v9,v10,v11,v12,v13]).cell? ⟨w.heap.size,13,none⟩=some v13:=cell_setRow_same W2 _ 13 _ _ _ _ g0;have p12:=(cell_setRow_other W2 w.heap.size #[v0,v1,v2,v3,v4,v5,v6,v7,v8,v9,v10,v11,v12,v13] ⟨a12,0,none⟩ (by dsimp only;omega)).trans q12;have p13:=(cell_setRow_other W2 w.heap.size #[v0,v1,v2,v3,v4,v5,v6,v7,v8,v9,v10,v11,v12,v13] ⟨a13,0,none⟩ (by dsimp only;omega)).trans q13;have p14:=(cell_setRow_other W2 w.heap.size #[v0,v1,v2,v3,v4,v5,v6,v7,v8,v9,v10,v11,v12,v13] ⟨a14,0,none⟩ (by dsimp only;omega)).trans q14;have p14':=(cell_setRow_other W2 w.heap.size #[v0,v1,v2,v3,v4,v5,v6,v7,v8,v9,v10,v11,v12,v13] ⟨a14,1,none⟩ (by dsimp only;omega)).trans q14';have hb3:=below_row hb2 (Nat.le_refl _) #[v0,v1,v2,v3,v4,v5,v6,v7,v8,v9,v10,v11,v12,v13];generalize W2.setRow w.heap.size #[v0,v1,v2,v3,v4,v5,v6,v7,v8,v9,v10,v11,v12,v13]=W3 at *;refine bodyPost_ret (v:=.tuple #[.agg #[v0,v1,v2,v3,v4,v5,v6,v7,v8,v9,v10,v11,v12,v13],.bool true]) (by simp [results,Tryz.results169,go_sem,z0,z1,z2,z3,z4,z5,z6,z7,z8,z9,z10,z11,z12,z13]) rfl ⟨hb3,a12,a13,a14,by rw [Int.toNat_natCast,hrow],p12,p13,p14,p14'⟩
theorem formOf_any (k:Int) (w:World) (h1:1≤k) (h2:k≤14) :
  Calls Tryz.prog 169 #[.int .i64 k] w fun e w'=>RowIs k w e w':=by
 have h:=formOf_nat k.toNat w (by omega) (by omega)
 rwa [Int.toNat_of_nonneg (by omega)] at h
theorem formOf_none (k:Int) (w:World) (hk:k<1∨14<k) :
  Calls Tryz.prog 169 #[.int .i64 k] w fun e w'=>e=.returned (.tuple #[.agg L0.toArray,.bool false])∧Below w.heap.size w w':=by
 go_enter Tryz.func169,Tryz.ntmps169
 iterate 172 go_step
 change Exit.then _ _ _ _ (tabW w)
 have hT:=tabW_is w;generalize tabW w=W at *;obtain⟨h0',h1',h2',h3',h4',h5',h6',h7',h8',h9',h10',h11',h12',h13',h14',hsz,hbl⟩:=hT;generalize e1:w.heap.size+1=a1 at *;generalize e2:a1+1=a2 at *;generalize e3:a2+1=a3 at *;generalize e4:a3+1=a4 at *;generalize e5:a4+1=a5 at *;generalize e6:a5+1=a6 at *;generalize e7:a6+1=a7 at *;generalize e8:a7+1=a8 at *;generalize e9:a8+1=a9 at *;generalize e10:a9+1=a10 at *;generalize e11:a10+1=a11 at *;generalize e12:a11+1=a12 at *;generalize e13:a12+1=a13 at *;generalize e14:a13+1=a14 at *
 iterate 4 go_step
 refine tabs_sound progT _ _ _ (tabs_T k w.heap.size a1 a2 a3 a4 a5 a6 a7 a8 a9 a10 a11 a12 a13 a14) ?fits ?mem ?_
 case fits =>
  unfold progT;refine⟨?_,?_,?_,?_,?_,?_,?_,?_,?_,?_,?_,?_,?_,?_,?_,?_,?_,?_,?_,?_,?_,?_,?_,?_,?_,?_,?_,?_,?_,?_,?_,?_,?_,?_,?_,?_,?_,?_,?_,?_,?_,?_,?_,?_,?_,?_,?_,?_,?_,?_,?_,?_,?_,?_,?_,?_,?_,?_,?_,?_,?_,?_,?_,?_,?_,?_,?_,?_,?_,?_,?_,?_,?_,?_,?_,?_,?_,?_,?_,?_,?_,?_,?_,?_,?_,?_,?_,?_,?_,?_,?_,?_,trivial⟩<;>exact⟨rfl,rfl,rfl⟩
 case mem =>
  intro s cs hs;unfold memT at hs
  split at hs
  ·injection hs with hs;subst hs;exact⟨rfl,a1,(0,0),rfl,h1'⟩
  ·injection hs with hs;subst hs;exact⟨rfl,a2,(0,0),rfl,h2'⟩
  ·injection hs with hs;subst hs;exact⟨rfl,a3,(0,0),rfl,h3'⟩
  ·injection hs with hs;subst hs;exact⟨rfl,a4,(0,0),rfl,h4'⟩
  ·injection hs with hs;subst hs;exact⟨rfl,a5,(0,0),rfl,h5'⟩
  ·injection hs with hs;subst hs;exact⟨rfl,a6,(0,0),rfl,h6'⟩
  ·injection hs with hs;subst hs;exact⟨rfl,a7,(0,0),rfl,h7'⟩
  ·injection hs with hs;subst hs;exact⟨rfl,a8,(0,0),rfl,h8'⟩
  ·injection hs with hs;subst hs;exact⟨rfl,a9,(0,0),rfl,h9'⟩
  ·injection hs with hs;subst hs;exact⟨rfl,a10,(0,0),rfl,h10'⟩
  ·injection hs with hs;subst hs;exact⟨rfl,a11,(0,0),rfl,h11'⟩
  ·cases hs
 clear h1' h2' h3' h4' h5' h6' h7' h8' h9' h10' h11';refine wpList_allocT rfl rfl ?_;refine wpList_store_row rfl 202 (.tmp 18) (.tmp 124) rfl W.heap.size (tabA a12 a13 a14) rfl rfl 202 zeroT (heap_newJ rfl) (by kernel_rfl) (by kernel_rfl) (by kernel_rfl) ?_;have g15:=setRow_heap (W.alloc (.cells zeroT 202)) W.heap.size zeroT (tabA a12 a13 a14) 202 (0,0) (heap_newJ rfl);have go:∀i,i<W.heap.size→((W.alloc (.cells zeroT 202)).setRow W.heap.size (tabA a12 a13 a14)).heap[i]?=W.heap[i]?:=fun i hi=>(setRow_other _ _ _ _ (by omega)).trans (heap_old hi)
 have g0:=(go w.heap.size (by omega)).trans h0';have g12:=(go a12 (by omega)).trans h12';have g13:=(go a13 (by omega)).trans h13';have g14:=(go a14 (by omega)).trans h14';have hb2:Below w.heap.size w ((W.alloc (.cells zeroT 202)).setRow W.heap.size (tabA a12 a13 a14)):=below_row (hbl.alloc (by omega) _) (by omega) _;have hs2:((W.alloc (.cells zeroT 202)).setRow W.heap.size (tabA a12 a13 a14)).heap.size=W.heap.size+1:=by simp
 clear go h0' h12' h13' h14' hbl;have ea:W.heap.size=a14+1:=by omega
 unfold actT;rw [ea] at g15 g0 g12 g13 g14 hb2 hs2 ⊢;generalize (W.alloc (.cells zeroT 202)).setRow (a14+1) (tabA a12 a13 a14)=W2 at *;generalize e15:a14+1=a15 at *;clear g15 g12 g13 g14;have e0:(k<1)=True∨(k<1)=False∧(14<k)=True:=by
  rcases Decidable.em (k<1) with h|h
  ·exact .inl (eq_true h)
  ·exact .inr ⟨eq_false h,eq_true (by omega)⟩
 rcases e0 with e0|⟨e0,e0'⟩
 ·go_wp2_with (refine wpList_store_row rfl 182 (.tmp 2) (.tmp 131) rfl w.heap.size L0.toArray rfl rfl 182 _ g0 (by kernel_rfl) (by kernel_rfl) (by kernel_rfl) ?_)
  have z0:(W2.setRow w.heap.size L0.toArray).cell? ⟨w.heap.size,0,none⟩=some (.string ⟨#[]⟩):=cell_setRow_same W2 _ 0 _ _ _ _ g0;have z1:(W2.setRow w.heap.size L0.toArray).cell? ⟨w.heap.size,1,none⟩=some (.nilFunc):=cell_setRow_same W2 _ 1 _ _ _ _ g0;have z2:(W2.setRow w.heap.size L0.toArray).cell? ⟨w.heap.size,2,none⟩=some (.nilFunc):=cell_setRow_same W2 _ 2 _ _ _ _ g0;have z3:(W2.setRow w.heap.size L0.toArray).cell? ⟨w.heap.size,3,none⟩=some (.nilFunc):=cell_setRow_same W2 _ 3 _ _ _ _ g0;have z4:(W2.setRow w.heap.size L0.toArray).cell? ⟨w.heap.size,4,none⟩=some (.nilFunc):=cell_setRow_same W2 _ 4 _ _ _ _ g0;have z5:(W2.setRow w.heap.size L0.toArray).cell? ⟨w.heap.size,5,none⟩=some (.nilFunc):=cell_setRow_same W2 _ 5 _ _ _ _ g0;have z6:(W2.setRow w.heap.size L0.toArray).cell? ⟨w.heap.size,6,none⟩=some (.nilFunc):=cell_setRow_same W2 _ 6 _ _ _ _ g0;have z7:(W2.setRow w.heap.size L0.toArray).cell? ⟨w.heap.size,7,none⟩=some (.nilFunc):=cell_setRow_same W2 _ 7 _ _ _ _ g0;have z8:(W2.setRow w.heap.size L0.toArray).cell? ⟨w.heap.size,8,none⟩=some (.nilFunc):=cell_setRow_same W2 _ 8 _ _ _ _ g0;have z9:(W2.setRow w.heap.size L0.toArray).cell? ⟨w.heap.size,9,none⟩=some (.nilFunc):=cell_setRow_same W2 _ 9 _ _ _ _ g0;have z10:(W2.setRow w.heap.size L0.toArray).cell? ⟨w.heap.size,10,none⟩=some (.nilFunc):=cell_setRow_same W2 _ 10 _ _ _ _ g0;have z11:(W2.setRow w.heap.size L0.toArray).cell? ⟨w.heap.size,11,none⟩=some (.nilFunc):=cell_setRow_same W2 _ 11 _ _ _ _ g0;have z12:(W2.setRow w.heap.size L0.toArray).cell? ⟨w.heap.size,12,none⟩=some (.nilFunc):=cell_setRow_same W2 _ 12 _ _ _ _ g0;have z13:(W2.setRow w.heap.size L0.toArray).cell? ⟨w.heap.size,13,none⟩=some (.slice none 0 0):=cell_setRow_same W2 _ 13 _ _ _ _ g0;have hb3:=below_row hb2 (Nat.le_refl _) L0.toArray;generalize W2.setRow w.heap.size L0.toArray=W3 at *;refine bodyPost_ret (v:=.tuple #[.agg L0.toArray,.bool false]) (by simp [L0,results,Tryz.results169,go_sem,z0,z1,z2,z3,z4,z5,z6,z7,z8,z9,z10,z11,z12,z13]) rfl ⟨rfl,hb3⟩
 ·go_wp2_with (refine wpList_store_row rfl 182 (.tmp 2) (.tmp 131) rfl w.heap.size L0.toArray rfl rfl 182 _ g0 (by kernel_rfl) (by kernel_rfl) (by kernel_rfl) ?_)
  have z0:(W2.setRow w.heap.size L0.toArray).cell? ⟨w.heap.size,0,none⟩=some (.string ⟨#[]⟩):=cell_setRow_same W2 _ 0 _ _ _ _ g0;have z1:(W2.setRow w.heap.size L0.toArray).cell? ⟨w.heap.size,1,none⟩=some (.nilFunc):=cell_setRow_same W2 _ 1 _ _ _ _ g0;have z2:(W2.setRow w.heap.size L0.toArray).cell? ⟨w.heap.size,2,none⟩=some (.nilFunc):=cell_setRow_same W2 _ 2 _ _ _ _ g0;have z3:(W2.setRow w.heap.size L0.toArray).cell? ⟨w.heap.size,3,none⟩=some (.nilFunc):=cell_setRow_same W2 _ 3 _ _ _ _ g0;have z4:(W2.setRow w.heap.size L0.toArray).cell? ⟨w.heap.size,4,none⟩=some (.nilFunc):=cell_setRow_same W2 _ 4 _ _ _ _ g0;have z5:(W2.setRow w.heap.size L0.toArray).cell? ⟨w.heap.size,5,none⟩=some (.nilFunc):=cell_setRow_same W2 _ 5 _ _ _ _ g0;have z6:(W2.setRow w.heap.size L0.toArray).cell? ⟨w.heap.size,6,none⟩=some (.nilFunc):=cell_setRow_same W2 _ 6 _ _ _ _ g0;have z7:(W2.setRow w.heap.size L0.toArray).cell? ⟨w.heap.size,7,none⟩=some (.nilFunc):=cell_setRow_same W2 _ 7 _ _ _ _ g0;have z8:(W2.setRow w.heap.size L0.toArray).cell? ⟨w.heap.size,8,none⟩=some (.nilFunc):=cell_setRow_same W2 _ 8 _ _ _ _ g0;have z9:(W2.setRow w.heap.size L0.toArray).cell? ⟨w.heap.size,9,none⟩=some (.nilFunc):=cell_setRow_same W2 _ 9 _ _ _ _ g0;have z10:(W2.setRow w.heap.size L0.toArray).cell? ⟨w.heap.size,10,none⟩=some (.nilFunc):=cell_setRow_same W2 _ 10 _ _ _ _ g0;have z11:(W2.setRow w.heap.size L0.toArray).cell? ⟨w.heap.size,11,none⟩=some (.nilFunc):=cell_setRow_same W2 _ 11 _ _ _ _ g0;have z12:(W2.setRow w.heap.size L0.toArray).cell? ⟨w.heap.size,12,none⟩=some (.nilFunc):=cell_setRow_same W2 _ 12 _ _ _ _ g0;have z13:(W2.setRow w.heap.size L0.toArray).cell? ⟨w.heap.size,13,none⟩=some (.slice none 0 0):=cell_setRow_same W2 _ 13 _ _ _ _ g0;have hb3:=below_row hb2 (Nat.le_refl _) L0.toArray;generalize W2.setRow w.heap.size L0.toArray=W3 at *;refine bodyPost_ret (v:=.tuple #[.agg L0.toArray,.bool false]) (by simp [L0,results,Tryz.results169,go_sem,z0,z1,z2,z3,z4,z5,z6,z7,z8,z9,z10,z11,z12,z13]) rfl ⟨rfl,hb3⟩
end Go.Proofs.YtgmkmeodimmdoaaGreatDoor.Eld
