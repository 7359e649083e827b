import Derived.Test.YtgmkmeodimmdoaaGreatDoorBQr
set_option maxHeartbeats 4000000
set_option maxRecDepth 20000
namespace Go.Proofs.YtgmkmeodimmdoaaGreatDoor.Eld
open Go.ChangeShapes Go.WideShapes Go.ChangeAt Go.RowKit Go.Joins
def OwnRow (w:World) (L:List Int) (e:Ending) (w':World):Prop :=
 ∃v,e=.returned v∧w'.ownsRow w.heap.size 3 1 v L.length (L.map (Value.int .i64))∧Below w.heap.size w w'
theorem getR_any (k r s t a b:Int) (w:World):Calls Tryz.prog 204 #[.agg #[.int .i64 k,.int .i64 r,.int .i64 s,.int .i64 t,.int .i64 a,.int .i64 b]] w fun e w'=>e=.returned (.int .i64 r)∧Below w.heap.size w w':=by
 go_enter Tryz.func204,Tryz.ntmps204
 go_wp2_with fail
 go_ret
 exact⟨rfl,(Below.refl _ _).alloc (Nat.le_refl _) _⟩
theorem getS_any (k r s t a b:Int) (w:World):Calls Tryz.prog 205 #[.agg #[.int .i64 k,.int .i64 r,.int .i64 s,.int .i64 t,.int .i64 a,.int .i64 b]] w fun e w'=>e=.returned (.int .i64 s)∧Below w.heap.size w w':=by
 go_enter Tryz.func205,Tryz.ntmps205
 go_wp2_with fail
 go_ret
 exact⟨rfl,(Below.refl _ _).alloc (Nat.le_refl _) _⟩
theorem en_getR:∀args w,(callFunc 204 args).run Tryz.prog w=.ok (.enter 204 args) w:=enters_of Tryz.func204 (by kernel_rfl) rfl
theorem en_getS:∀args w,(callFunc 205 args).run Tryz.prog w=.ok (.enter 205 args) w:=enters_of Tryz.func205 (by kernel_rfl) rfl
theorem info_int:∃i,Tryz.prog.info? 3=some i∧i.zero=some (.int .i64 0)∧i.size=1∧i.bytes=8 :=
 ⟨(Tryz.prog.info? 3).get (by kernel_rfl),(Option.some_get _).symm,by kernel_rfl,by kernel_rfl,by kernel_rfl⟩
theorem own_below {B:Nat} {e:TypeId} {sz:Nat} {v:Value} {n:Nat} {xs:List Value} {w w':World} (h:w.ownsRow B e sz v n xs) (hb:Below w.heap.size w w'):w'.ownsRow B e sz v n xs :=
 h.kept (row:=none) ⟨hb.os,hb.tape,hb.output,hb.size,fun k hk _=>hb.block k hk⟩ (by cases hv:v.ownBlock with|none=>exact .inl rfl|some k=>exact .inr (by simp))
theorem own_mono {B B':Nat} {e:TypeId} {sz:Nat} {v:Value} {n:Nat} {xs:List Value} {w:World} (h:w.ownsRow B e sz v n xs) (hb:B'≤B):w.ownsRow B' e sz v n xs :=
 ⟨h.1,h.2.imp id fun⟨g,cap,cur,h1,h2,h3⟩=>⟨g,cap,cur,h1,Nat.le_trans hb h2,h3⟩⟩
theorem implUses_0 {k r s t a b:Int} {v0 v1 v2 v3 v4 v5 v6 v7 v8 v9 v10 v11 v12:Value} (hall:∀u:Option Addr,∀n,#[v0,v1,v2,v3,v4,v5,v6,v7,v8,v9,v10,v11,v12,.slice u n n].all (·.oneCell')=true)
  (hF:∀w,Calls Tryz.prog 169 #[.int .i64 k] w fun e w'=>(e=.returned (.tuple #[.agg #[v0,v1,v2,v3,v4,v5,v6,v7,v8,v9,v10,v11,v12,.slice none 0 0],.bool true]))∧Below w.heap.size w w')
  (hU:usesL k r s=[]) (w:World) :
  Calls Tryz.prog 167 #[.agg #[.int .i64 k,.int .i64 r,.int .i64 s,.int .i64 t,.int .i64 a,.int .i64 b]] w fun e w'=>OwnRow w (usesOf k r s t a b) e w':=by
 replace hall:=hall none 0
 go_enter Tryz.func167,Tryz.ntmps167
 go_wp2_with fail
 refine(hF _).mono ?_;rintro e w1 ⟨rfl,hb1⟩;obtain⟨hc1,_⟩:=bcell hb1;have hz1:=hb1.size;simp at hz1;have c0:w1.cell? ⟨w.heap.size,0,none⟩=some (.int .i64 k):=by rw [hc1 _ _ (by simp)];simp [go_sem]
 have c1:w1.cell? ⟨w.heap.size,1,none⟩=some (.int .i64 r):=by rw [hc1 _ _ (by simp)];simp [go_sem]
 have c2:w1.cell? ⟨w.heap.size,2,none⟩=some (.int .i64 s):=by rw [hc1 _ _ (by simp)];simp [go_sem]
 have c3:w1.cell? ⟨w.heap.size,3,none⟩=some (.int .i64 t):=by rw [hc1 _ _ (by simp)];simp [go_sem]
 have c4:w1.cell? ⟨w.heap.size,4,none⟩=some (.int .i64 a):=by rw [hc1 _ _ (by simp)];simp [go_sem]
 have c5:w1.cell? ⟨w.heap.size,5,none⟩=some (.int .i64 b):=by rw [hc1 _ _ (by simp)];simp [go_sem]
 have l0:w.heap.size<w1.heap.size:=by omega
 have hB1:Below w.heap.size w w1:=((Below.refl _ _).alloc (Nat.le_refl _) _).trans (hb1.mono (by simp));clear hc1 hb1
 go_wp2_with (refine wpList_store_row rfl 182 (.tmp 3) (.tmp 12) rfl _ _ rfl rfl 182 _ (heap_newJ (by simp)) (by kernel_rfl) (by kernel_rfl) hall ?_;rw [setRow_new (by simp)])
 refine(implOpOk_any _ _ _ _ _ _ _).mono ?_;rintro e w2 ⟨rfl,hb2⟩;obtain⟨hc2,_⟩:=bcell hb2;have hz2:=hb2.size;simp at hz2;have d0:w2.cell? ⟨w.heap.size,0,none⟩=some (.int .i64 k):=by rw [hc2 _ _ (by simp<;>omega)];simp [go_sem,c0,l0]
 have d1:w2.cell? ⟨w.heap.size,1,none⟩=some (.int .i64 r):=by rw [hc2 _ _ (by simp<;>omega)];simp [go_sem,c1,l0]
 have d2:w2.cell? ⟨w.heap.size,2,none⟩=some (.int .i64 s):=by rw [hc2 _ _ (by simp<;>omega)];simp [go_sem,c2,l0]
 have d3:w2.cell? ⟨w.heap.size,3,none⟩=some (.int .i64 t):=by rw [hc2 _ _ (by simp<;>omega)];simp [go_sem,c3,l0]
 have d4:w2.cell? ⟨w.heap.size,4,none⟩=some (.int .i64 a):=by rw [hc2 _ _ (by simp<;>omega)];simp [go_sem,c4,l0]
 have d5:w2.cell? ⟨w.heap.size,5,none⟩=some (.int .i64 b):=by rw [hc2 _ _ (by simp<;>omega)];simp [go_sem,c5,l0]
 have du:w2.cell? ⟨w1.heap.size,13,none⟩=some (.slice none 0 0):=by rw [hc2 _ _ (by simp)];simp [go_sem]
 have m0:w.heap.size<w2.heap.size:=by omega
 have hB2:Below w.heap.size w w2:=(hB1.alloc (by omega) _).trans (hb2.mono (by simp<;>omega));clear hc2 hb2
 cases hk:opB k r s t a b with
 |false =>
  go_wp2_with fail
  go_ret
  rw [usesOf_bad hk];exact⟨_,rfl,⟨rfl,.inl ⟨rfl,rfl⟩⟩,hB2⟩
 |true =>
 go_wp2_with fail
 refine wp_loop_rounds 3 ?_;rw [rounds_succ]
 go_wp2_with fail
 go_ret
 rw [usesOf_ok hk,hU];exact⟨_,rfl,⟨rfl,.inl ⟨rfl,rfl⟩⟩,hB2⟩
theorem implUses_1 {k r s t a b:Int} {v0 v1 v2 v3 v4 v5 v6 v7 v8 v9 v10 v11 v12:Value} {g0:Nat} {u0:Int} (hall:∀u:Option Addr,∀n,#[v0,v1,v2,v3,v4,v5,v6,v7,v8,v9,v10,v11,v12,.slice u n n].all (·.oneCell')=true)
  (hF:∀w,Calls Tryz.prog 169 #[.int .i64 k] w fun e w'=>(∃x,e=.returned (.tuple #[.agg #[v0,v1,v2,v3,v4,v5,v6,v7,v8,v9,v10,v11,v12,.slice (some ⟨x,0,none⟩) 1 1],.bool true])∧w'.cell? ⟨x,0,none⟩=some (.func (.func g0) #[] #[]))∧Below w.heap.size w w')
  (n0:∀args w,(callFunc g0 args).run Tryz.prog w=.ok (.enter g0 args) w) (k0:∀w,Calls Tryz.prog g0 #[.agg #[.int .i64 k,.int .i64 r,.int .i64 s,.int .i64 t,.int .i64 a,.int .i64 b]] w fun e w'=>e=.returned (.int .i64 u0)∧Below w.heap.size w w')
  (hU:usesL k r s=[u0]) (w:World) :
  Calls Tryz.prog 167 #[.agg #[.int .i64 k,.int .i64 r,.int .i64 s,.int .i64 t,.int .i64 a,.int .i64 b]] w fun e w'=>OwnRow w (usesOf k r s t a b) e w':=by
 go_enter Tryz.func167,Tryz.ntmps167
 go_wp2_with fail
 refine(hF _).mono ?_;rintro e w1 ⟨⟨x,rfl,cx0⟩,hb1⟩;obtain⟨hc1,_⟩:=bcell hb1;have hz1:=hb1.size;simp at hz1;have c0:w1.cell? ⟨w.heap.size,0,none⟩=some (.int .i64 k):=by rw [hc1 _ _ (by simp)];simp [go_sem]
 have c1:w1.cell? ⟨w.heap.size,1,none⟩=some (.int .i64 r):=by rw [hc1 _ _ (by simp)];simp [go_sem]
 have c2:w1.cell? ⟨w.heap.size,2,none⟩=some (.int .i64 s):=by rw [hc1 _ _ (by simp)];simp [go_sem]
 have c3:w1.cell? ⟨w.heap.size,3,none⟩=some (.int .i64 t):=by rw [hc1 _ _ (by simp)];simp [go_sem]
 have c4:w1.cell? ⟨w.heap.size,4,none⟩=some (.int .i64 a):=by rw [hc1 _ _ (by simp)];simp [go_sem]
 have c5:w1.cell? ⟨w.heap.size,5,none⟩=some (.int .i64 b):=by rw [hc1 _ _ (by simp)];simp [go_sem]
 have l0:w.heap.size<w1.heap.size:=by omega
 have lx:x<w1.heap.size:=World.block_lt_of_cell? _ _ cx0;have hB1:Below w.heap.size w w1:=((Below.refl _ _).alloc (Nat.le_refl _) _).trans (hb1.mono (by simp));clear hc1 hb1
 go_wp2_with (refine wpList_store_row rfl 182 (.tmp 3) (.tmp 12) rfl _ _ rfl rfl 182 _ (heap_newJ (by simp)) (by kernel_rfl) (by kernel_rfl) (hall _ _) ?_;rw [setRow_new (by simp)])
 refine(implOpOk_any _ _ _ _ _ _ _).mono ?_;rintro e w2 ⟨rfl,hb2⟩;obtain⟨hc2,_⟩:=bcell hb2;have hz2:=hb2.size;simp at hz2;have d0:w2.cell? ⟨w.heap.size,0,none⟩=some (.int .i64 k):=by rw [hc2 _ _ (by simp<;>omega)];simp [go_sem,c0,l0]
 have d1:w2.cell? ⟨w.heap.size,1,none⟩=some (.int .i64 r):=by rw [hc2 _ _ (by simp<;>omega)];simp [go_sem,c1,l0]
 have d2:w2.cell? ⟨w.heap.size,2,none⟩=some (.int .i64 s):=by rw [hc2 _ _ (by simp<;>omega)];simp [go_sem,c2,l0]
 have d3:w2.cell? ⟨w.heap.size,3,none⟩=some (.int .i64 t):=by rw [hc2 _ _ (by simp<;>omega)];simp [go_sem,c3,l0]
 have d4:w2.cell? ⟨w.heap.size,4,none⟩=some (.int .i64 a):=by rw [hc2 _ _ (by simp<;>omega)];simp [go_sem,c4,l0]
 have d5:w2.cell? ⟨w.heap.size,5,none⟩=some (.int .i64 b):=by rw [hc2 _ _ (by simp<;>omega)];simp [go_sem,c5,l0]
 have y0:w2.cell? ⟨x,0,none⟩=some (.func (.func g0) #[] #[]):=by rw [hc2 _ _ (by simp<;>omega)];simp [go_sem,cx0,lx]
 have du:w2.cell? ⟨w1.heap.size,13,none⟩=some (.slice (some ⟨x,0,none⟩) 1 1):=by rw [hc2 _ _ (by simp)];simp [go_sem]
 have m0:w.heap.size<w2.heap.size:=by omega
 have hB2:Below w.heap.size w w2:=(hB1.alloc (by omega) _).trans (hb2.mono (by simp<;>omega));clear hc2 hb2
 cases hk:opB k r s t a b with
 |false =>
  go_wp2_with fail
  go_ret
  rw [usesOf_bad hk];exact⟨_,rfl,⟨rfl,.inl ⟨rfl,rfl⟩⟩,hB2⟩
 |true =>
 go_wp2_with fail
 refine wp_loop_rounds 3 ?_;obtain⟨inf,i1,i2,i3,i4⟩:=info_int;rw [rounds_succ]
 go_wp2_with fail
 refine(k0 _).mono ?_;rintro e w3 ⟨rfl,hb3⟩;obtain⟨hc3,_⟩:=bcell hb3;have hz3:=hb3.size;have hB3:Below w.heap.size w w3:=hB2.trans (hb3.mono (by omega));clear hc3 hb3
 go_wp2_with (refine wpList_append_own _ rfl (.tmp 28) (.tmp 32) 25 rfl w3.heap.size 3 inf (.int .i64 0) 1 8 Tryz.underlying25 i1 i2 i3 i4 rfl (by decide) (.slice none 0 0) 0 [] rfl ⟨rfl,.inl ⟨rfl,rfl⟩⟩ ⟨w3.heap.size,0,none⟩ 1 1 [.int .i64 u0] rfl rfl (by intro q u hq;cases q with|zero=>simp at hq;subst hq;simp [Addr.add,go_sem]|succ q=>simp at hq) (by simp [Value.oneCell']) (by decide) (by decide) (by simp<;>omega) ?_;intro x0 w4 ho0 hg0 _)
 have hz4:=hg0.size;simp at hz4;have hB4:Below w.heap.size w w4:=(hB3.alloc (by omega) _).grown hg0 (by simp<;>omega) (by intro k hk;cases hk);rw [rounds_succ]
 go_wp2_with fail
 go_ret
 rw [usesOf_ok hk,hU];exact⟨_,rfl,own_mono ho0 (by omega),hB4⟩
theorem implUses_2 {k r s t a b:Int} {v0 v1 v2 v3 v4 v5 v6 v7 v8 v9 v10 v11 v12:Value} {g0 g1:Nat} {u0 u1:Int} (hall:∀u:Option Addr,∀n,#[v0,v1,v2,v3,v4,v5,v6,v7,v8,v9,v10,v11,v12,.slice u n n].all (·.oneCell')=true)
  (hF:∀w,Calls Tryz.prog 169 #[.int .i64 k] w fun e w'=>(∃x,e=.returned (.tuple #[.agg #[v0,v1,v2,v3,v4,v5,v6,v7,v8,v9,v10,v11,v12,.slice (some ⟨x,0,none⟩) 2 2],.bool true])∧w'.cell? ⟨x,0,none⟩=some (.func (.func g0) #[] #[])∧w'.cell? ⟨x,1,none⟩=some (.func (.func g1) #[] #[]))∧Below w.heap.size w w')
  (n0:∀args w,(callFunc g0 args).run Tryz.prog w=.ok (.enter g0 args) w) (k0:∀w,Calls Tryz.prog g0 #[.agg #[.int .i64 k,.int .i64 r,.int .i64 s,.int .i64 t,.int .i64 a,.int .i64 b]] w fun e w'=>e=.returned (.int .i64 u0)∧Below w.heap.size w w')
  (n1:∀args w,(callFunc g1 args).run Tryz.prog w=.ok (.enter g1 args) w) (k1:∀w,Calls Tryz.prog g1 #[.agg #[.int .i64 k,.int .i64 r,.int .i64 s,.int .i64 t,.int .i64 a,.int .i64 b]] w fun e w'=>e=.returned (.int .i64 u1)∧Below w.heap.size w w')
  (hU:usesL k r s=[u0,u1]) (w:World) :
  Calls Tryz.prog 167 #[.agg #[.int .i64 k,.int .i64 r,.int .i64 s,.int .i64 t,.int .i64 a,.int .i64 b]] w fun e w'=>OwnRow w (usesOf k r s t a b) e w':=by
 go_enter Tryz.func167,Tryz.ntmps167
 go_wp2_with fail
 refine(hF _).mono ?_;rintro e w1 ⟨⟨x,rfl,cx0,cx1⟩,hb1⟩;obtain⟨hc1,_⟩:=bcell hb1;have hz1:=hb1.size;simp at hz1;have c0:w1.cell? ⟨w.heap.size,0,none⟩=some (.int .i64 k):=by rw [hc1 _ _ (by simp)];simp [go_sem]
 have c1:w1.cell? ⟨w.heap.size,1,none⟩=some (.int .i64 r):=by rw [hc1 _ _ (by simp)];simp [go_sem]
 have c2:w1.cell? ⟨w.heap.size,2,none⟩=some (.int .i64 s):=by rw [hc1 _ _ (by simp)];simp [go_sem]
 have c3:w1.cell? ⟨w.heap.size,3,none⟩=some (.int .i64 t):=by rw [hc1 _ _ (by simp)];simp [go_sem]
 have c4:w1.cell? ⟨w.heap.size,4,none⟩=some (.int .i64 a):=by rw [hc1 _ _ (by simp)];simp [go_sem]
 have c5:w1.cell? ⟨w.heap.size,5,none⟩=some (.int .i64 b):=by rw [hc1 _ _ (by simp)];simp [go_sem]
 have l0:w.heap.size<w1.heap.size:=by omega
 have lx:x<w1.heap.size:=World.block_lt_of_cell? _ _ cx0;have hB1:Below w.heap.size w w1:=((Below.refl _ _).alloc (Nat.le_refl _) _).trans (hb1.mono (by simp));clear hc1 hb1
 go_wp2_with (refine wpList_store_row rfl 182 (.tmp 3) (.tmp 12) rfl _ _ rfl rfl 182 _ (heap_newJ (by simp)) (by kernel_rfl) (by kernel_rfl) (hall _ _) ?_;rw [setRow_new (by simp)])
 refine(implOpOk_any _ _ _ _ _ _ _).mono ?_;rintro e w2 ⟨rfl,hb2⟩;obtain⟨hc2,_⟩:=bcell hb2;have hz2:=hb2.size;simp at hz2;have d0:w2.cell? ⟨w.heap.size,0,none⟩=some (.int .i64 k):=by rw [hc2 _ _ (by simp<;>omega)];simp [go_sem,c0,l0]
 have d1:w2.cell? ⟨w.heap.size,1,none⟩=some (.int .i64 r):=by rw [hc2 _ _ (by simp<;>omega)];simp [go_sem,c1,l0]
 have d2:w2.cell? ⟨w.heap.size,2,none⟩=some (.int .i64 s):=by rw [hc2 _ _ (by simp<;>omega)];simp [go_sem,c2,l0]
 have d3:w2.cell? ⟨w.heap.size,3,none⟩=some (.int .i64 t):=by rw [hc2 _ _ (by simp<;>omega)];simp [go_sem,c3,l0]
 have d4:w2.cell? ⟨w.heap.size,4,none⟩=some (.int .i64 a):=by rw [hc2 _ _ (by simp<;>omega)];simp [go_sem,c4,l0]
 have d5:w2.cell? ⟨w.heap.size,5,none⟩=some (.int .i64 b):=by rw [hc2 _ _ (by simp<;>omega)];simp [go_sem,c5,l0]
 have y0:w2.cell? ⟨x,0,none⟩=some (.func (.func g0) #[] #[]):=by rw [hc2 _ _ (by simp<;>omega)];simp [go_sem,cx0,lx]
 have y1:w2.cell? ⟨x,1,none⟩=some (.func (.func g1) #[] #[]):=by rw [hc2 _ _ (by simp<;>omega)];simp [go_sem,cx1,lx]
 have du:w2.cell? ⟨w1.heap.size,13,none⟩=some (.slice (some ⟨x,0,none⟩) 2 2):=by rw [hc2 _ _ (by simp)];simp [go_sem]
 have m0:w.heap.size<w2.heap.size:=by omega
 have hB2:Below w.heap.size w w2:=(hB1.alloc (by omega) _).trans (hb2.mono (by simp<;>omega));clear hc2 hb2
 cases hk:opB k r s t a b with
 |false =>
  go_wp2_with fail
  go_ret
  rw [usesOf_bad hk];exact⟨_,rfl,⟨rfl,.inl ⟨rfl,rfl⟩⟩,hB2⟩
 |true =>
 go_wp2_with fail
 refine wp_loop_rounds 3 ?_;obtain⟨inf,i1,i2,i3,i4⟩:=info_int;rw [rounds_succ]
 go_wp2_with fail
 refine(k0 _).mono ?_;rintro e w3 ⟨rfl,hb3⟩;obtain⟨hc3,_⟩:=bcell hb3;have hz3:=hb3.size;replace d0:w3.cell? ⟨w.heap.size,0,none⟩=some (.int .i64 k):=by rw [hc3 _ _ (by omega)];exact d0
 replace d1:w3.cell? ⟨w.heap.size,1,none⟩=some (.int .i64 r):=by rw [hc3 _ _ (by omega)];exact d1
 replace d2:w3.cell? ⟨w.heap.size,2,none⟩=some (.int .i64 s):=by rw [hc3 _ _ (by omega)];exact d2
 replace d3:w3.cell? ⟨w.heap.size,3,none⟩=some (.int .i64 t):=by rw [hc3 _ _ (by omega)];exact d3
 replace d4:w3.cell? ⟨w.heap.size,4,none⟩=some (.int .i64 a):=by rw [hc3 _ _ (by omega)];exact d4
 replace d5:w3.cell? ⟨w.heap.size,5,none⟩=some (.int .i64 b):=by rw [hc3 _ _ (by omega)];exact d5
 replace y0:w3.cell? ⟨x,0,none⟩=some (.func (.func g0) #[] #[]):=by rw [hc3 _ _ (by omega)];exact y0
 replace y1:w3.cell? ⟨x,1,none⟩=some (.func (.func g1) #[] #[]):=by rw [hc3 _ _ (by omega)];exact y1
 have hB3:Below w.heap.size w w3:=hB2.trans (hb3.mono (by omega));clear hc3 hb3
 go_wp2_with (refine wpList_append_own _ rfl (.tmp 28) (.tmp 32) 25 rfl w3.heap.size 3 inf (.int .i64 0) 1 8 Tryz.underlying25 i1 i2 i3 i4 rfl (by decide) (.slice none 0 0) 0 [] rfl ⟨rfl,.inl ⟨rfl,rfl⟩⟩ ⟨w3.heap.size,0,none⟩ 1 1 [.int .i64 u0] rfl rfl (by intro q u hq;cases q with|zero=>simp at hq;subst hq;simp [Addr.add,go_sem]|succ q=>simp at hq) (by simp [Value.oneCell']) (by decide) (by decide) (by simp<;>omega) ?_;intro x0 w4 ho0 hg0 _)
 have hz4:=hg0.size;simp at hz4;have hB4:Below w.heap.size w w4:=(hB3.alloc (by omega) _).grown hg0 (by simp<;>omega) (by intro k hk;cases hk);have q0:∀b o,b<w3.heap.size→w4.cell? ⟨b,o,none⟩=w3.cell? ⟨b,o,none⟩:=fun b o hb=>by
  rw [World.cell?_of_block (a:=⟨b,o,none⟩) (hg0.block b (by simp<;>omega) (by intro h;cases h)),World.cell?_alloc_past _ _ _ hb]
 replace d0:w4.cell? ⟨w.heap.size,0,none⟩=some (.int .i64 k):=by rw [q0 _ _ (by omega)];exact d0
 replace d1:w4.cell? ⟨w.heap.size,1,none⟩=some (.int .i64 r):=by rw [q0 _ _ (by omega)];exact d1
 replace d2:w4.cell? ⟨w.heap.size,2,none⟩=some (.int .i64 s):=by rw [q0 _ _ (by omega)];exact d2
 replace d3:w4.cell? ⟨w.heap.size,3,none⟩=some (.int .i64 t):=by rw [q0 _ _ (by omega)];exact d3
 replace d4:w4.cell? ⟨w.heap.size,4,none⟩=some (.int .i64 a):=by rw [q0 _ _ (by omega)];exact d4
 replace d5:w4.cell? ⟨w.heap.size,5,none⟩=some (.int .i64 b):=by rw [q0 _ _ (by omega)];exact d5
 replace y0:w4.cell? ⟨x,0,none⟩=some (.func (.func g0) #[] #[]):=by rw [q0 _ _ (by omega)];exact y0
 replace y1:w4.cell? ⟨x,1,none⟩=some (.func (.func g1) #[] #[]):=by rw [q0 _ _ (by omega)];exact y1
 rw [rounds_succ]
 go_wp2_with fail
 refine(k1 _).mono ?_;rintro e w5 ⟨rfl,hb5⟩;obtain⟨hc5,_⟩:=bcell hb5;have hz5:=hb5.size;have hB5:Below w.heap.size w w5:=hB4.trans (hb5.mono (by omega));replace ho0:=own_below ho0 hb5;clear hc5 hb5
 go_wp2_with (refine wpList_append_own _ rfl (.tmp 28) (.tmp 32) 25 rfl w3.heap.size 3 inf (.int .i64 0) 1 8 Tryz.underlying25 i1 i2 i3 i4 rfl (by decide) x0 1 [.int .i64 u0] rfl (ho0.alloc _) ⟨w5.heap.size,0,none⟩ 1 1 [.int .i64 u1] rfl rfl (by intro q u hq;cases q with|zero=>simp at hq;subst hq;simp [Addr.add,go_sem]|succ q=>simp at hq) (by simp [Value.oneCell']) (by decide) (by decide) (by simp<;>omega) ?_;intro x1 w6 ho1 hg1 _)
 have hz6:=hg1.size;simp at hz6;have hB6:Below w.heap.size w w6:=(hB5.alloc (by omega) _).grown hg1 (by simp<;>omega) (by intro k hk;have:=((ho0.alloc (.cells #[.int .i64 u1] 3)).lt k hk).1;omega);rw [rounds_succ]
 go_wp2_with fail
 go_ret
 rw [usesOf_ok hk,hU];exact⟨_,rfl,own_mono ho1 (by omega),hB6⟩
theorem implUses_k1 (r s t a b:Int) (w:World) :
  Calls Tryz.prog 167 #[.agg #[.int .i64 1,.int .i64 r,.int .i64 s,.int .i64 t,.int .i64 a,.int .i64 b]] w fun e w'=>OwnRow w (usesOf 1 r s t a b) e w' :=
 implUses_0 (fun _ _=>by kernel_rfl) (fun w=>(formOf_any 1 w (by decide) (by decide)).mono fun e w' ⟨hb,x,y,z,he,_⟩=>⟨he.trans (by rw [row_1]),hb⟩) rfl w
theorem implUses_k2 (r s t a b:Int) (w:World) :
  Calls Tryz.prog 167 #[.agg #[.int .i64 2,.int .i64 r,.int .i64 s,.int .i64 t,.int .i64 a,.int .i64 b]] w fun e w'=>OwnRow w (usesOf 2 r s t a b) e w' :=
 implUses_1 (fun _ _=>by kernel_rfl) (fun w=>(formOf_any 2 w (by decide) (by decide)).mono fun e w' ⟨hb,x,y,z,he,cx,cy,_,_⟩=>⟨⟨y,he.trans (by rw [row_2]),cy⟩,hb⟩) en_getS (getS_any _ _ _ _ _ _) rfl w
theorem implUses_k3 (r s t a b:Int) (w:World) :
  Calls Tryz.prog 167 #[.agg #[.int .i64 3,.int .i64 r,.int .i64 s,.int .i64 t,.int .i64 a,.int .i64 b]] w fun e w'=>OwnRow w (usesOf 3 r s t a b) e w' :=
 implUses_2 (fun _ _=>by kernel_rfl) (fun w=>(formOf_any 3 w (by decide) (by decide)).mono fun e w' ⟨hb,x,y,z,he,_,_,c0,c1⟩=>⟨⟨z,he.trans (by rw [row_3]),c0,c1⟩,hb⟩) en_getR (getR_any _ _ _ _ _ _) en_getS (getS_any _ _ _ _ _ _) rfl w
theorem implUses_k4 (r s t a b:Int) (w:World) :
  Calls Tryz.prog 167 #[.agg #[.int .i64 4,.int .i64 r,.int .i64 s,.int .i64 t,.int .i64 a,.int .i64 b]] w fun e w'=>OwnRow w (usesOf 4 r s t a b) e w' :=
 implUses_0 (fun _ _=>by kernel_rfl) (fun w=>(formOf_any 4 w (by decide) (by decide)).mono fun e w' ⟨hb,x,y,z,he,_⟩=>⟨he.trans (by rw [row_4]),hb⟩) rfl w
theorem implUses_k5 (r s t a b:Int) (w:World) :
  Calls Tryz.prog 167 #[.agg #[.int .i64 5,.int .i64 r,.int .i64 s,.int .i64 t,.int .i64 a,.int .i64 b]] w fun e w'=>OwnRow w (usesOf 5 r s t a b) e w' :=
 implUses_0 (fun _ _=>by kernel_rfl) (fun w=>(formOf_any 5 w (by decide) (by decide)).mono fun e w' ⟨hb,x,y,z,he,_⟩=>⟨he.trans (by rw [row_5]),hb⟩) rfl w
theorem implUses_k6 (r s t a b:Int) (w:World) :
  Calls Tryz.prog 167 #[.agg #[.int .i64 6,.int .i64 r,.int .i64 s,.int .i64 t,.int .i64 a,.int .i64 b]] w fun e w'=>OwnRow w (usesOf 6 r s t a b) e w' :=
 implUses_2 (fun _ _=>by kernel_rfl) (fun w=>(formOf_any 6 w (by decide) (by decide)).mono fun e w' ⟨hb,x,y,z,he,_,_,c0,c1⟩=>⟨⟨z,he.trans (by rw [row_6]),c0,c1⟩,hb⟩) en_getR (getR_any _ _ _ _ _ _) en_getS (getS_any _ _ _ _ _ _) rfl w
theorem implUses_k7 (r s t a b:Int) (w:World) :
  Calls Tryz.prog 167 #[.agg #[.int .i64 7,.int .i64 r,.int .i64 s,.int .i64 t,.int .i64 a,.int .i64 b]] w fun e w'=>OwnRow w (usesOf 7 r s t a b) e w' :=
 implUses_0 (fun _ _=>by kernel_rfl) (fun w=>(formOf_any 7 w (by decide) (by decide)).mono fun e w' ⟨hb,x,y,z,he,_⟩=>⟨he.trans (by rw [row_7]),hb⟩) rfl w
theorem implUses_k8 (r s t a b:Int) (w:World) :
  Calls Tryz.prog 167 #[.agg #[.int .i64 8,.int .i64 r,.int .i64 s,.int .i64 t,.int .i64 a,.int .i64 b]] w fun e w'=>OwnRow w (usesOf 8 r s t a b) e w' :=
 implUses_0 (fun _ _=>by kernel_rfl) (fun w=>(formOf_any 8 w (by decide) (by decide)).mono fun e w' ⟨hb,x,y,z,he,_⟩=>⟨he.trans (by rw [row_8]),hb⟩) rfl w
theorem implUses_k9 (r s t a b:Int) (w:World) :
  Calls Tryz.prog 167 #[.agg #[.int .i64 9,.int .i64 r,.int .i64 s,.int .i64 t,.int .i64 a,.int .i64 b]] w fun e w'=>OwnRow w (usesOf 9 r s t a b) e w' :=
 implUses_0 (fun _ _=>by kernel_rfl) (fun w=>(formOf_any 9 w (by decide) (by decide)).mono fun e w' ⟨hb,x,y,z,he,_⟩=>⟨he.trans (by rw [row_9]),hb⟩) rfl w
theorem implUses_k10 (r s t a b:Int) (w:World) :
  Calls Tryz.prog 167 #[.agg #[.int .i64 10,.int .i64 r,.int .i64 s,.int .i64 t,.int .i64 a,.int .i64 b]] w fun e w'=>OwnRow w (usesOf 10 r s t a b) e w' :=
 implUses_1 (fun _ _=>by kernel_rfl) (fun w=>(formOf_any 10 w (by decide) (by decide)).mono fun e w' ⟨hb,x,y,z,he,cx,cy,_,_⟩=>⟨⟨x,he.trans (by rw [row_10]),cx⟩,hb⟩) en_getR (getR_any _ _ _ _ _ _) rfl w
theorem implUses_k11 (r s t a b:Int) (w:World) :
  Calls Tryz.prog 167 #[.agg #[.int .i64 11,.int .i64 r,.int .i64 s,.int .i64 t,.int .i64 a,.int .i64 b]] w fun e w'=>OwnRow w (usesOf 11 r s t a b) e w' :=
 implUses_1 (fun _ _=>by kernel_rfl) (fun w=>(formOf_any 11 w (by decide) (by decide)).mono fun e w' ⟨hb,x,y,z,he,cx,cy,_,_⟩=>⟨⟨x,he.trans (by rw [row_11]),cx⟩,hb⟩) en_getR (getR_any _ _ _ _ _ _) rfl w
theorem implUses_k12 (r s t a b:Int) (w:World) :
  Calls Tryz.prog 167 #[.agg #[.int .i64 12,.int .i64 r,.int .i64 s,.int .i64 t,.int .i64 a,.int .i64 b]] w fun e w'=>OwnRow w (usesOf 12 r s t a b) e w' :=
 implUses_1 (fun _ _=>by kernel_rfl) (fun w=>(formOf_any 12 w (by decide) (by decide)).mono fun e w' ⟨hb,x,y,z,he,cx,cy,_,_⟩=>⟨⟨x,he.trans (by rw [row_12]),cx⟩,hb⟩) en_getR (getR_any _ _ _ _ _ _) rfl w
theorem implUses_k13 (r s t a b:Int) (w:World) :
  Calls Tryz.prog 167 #[.agg #[.int .i64 13,.int .i64 r,.int .i64 s,.int .i64 t,.int .i64 a,.int .i64 b]] w fun e w'=>OwnRow w (usesOf 13 r s t a b) e w' :=
 implUses_0 (fun _ _=>by kernel_rfl) (fun w=>(formOf_any 13 w (by decide) (by decide)).mono fun e w' ⟨hb,x,y,z,he,_⟩=>⟨he.trans (by rw [row_13]),hb⟩) rfl w
theorem implUses_k14 (r s t a b:Int) (w:World) :
  Calls Tryz.prog 167 #[.agg #[.int .i64 14,.int .i64 r,.int .i64 s,.int .i64 t,.int .i64 a,.int .i64 b]] w fun e w'=>OwnRow w (usesOf 14 r s t a b) e w' :=
 implUses_1 (fun _ _=>by kernel_rfl) (fun w=>(formOf_any 14 w (by decide) (by decide)).mono fun e w' ⟨hb,x,y,z,he,cx,cy,_,_⟩=>⟨⟨x,he.trans (by rw [row_14]),cx⟩,hb⟩) en_getR (getR_any _ _ _ _ _ _) rfl w
theorem implUses_out (k r s t a b:Int) (w:World) (h:k<1∨14<k) :
  Calls Tryz.prog 167 #[.agg #[.int .i64 k,.int .i64 r,.int .i64 s,.int .i64 t,.int .i64 a,.int .i64 b]] w fun e w'=>OwnRow w (usesOf k r s t a b) e w':=by
 go_enter Tryz.func167,Tryz.ntmps167
 go_wp2_with fail
 refine(formOf_none k _ h).mono ?_;rintro e w1 ⟨rfl,hb1⟩;have hz1:=hb1.size;simp at hz1;have hB1:Below w.heap.size w w1:=((Below.refl _ _).alloc (Nat.le_refl _) _).trans (hb1.mono (by simp));clear hb1;unfold L0
 go_wp2_with fail
 go_ret
 rw [usesOf_bad (opB_out h r s t a b)];exact⟨_,rfl,⟨rfl,.inl ⟨rfl,rfl⟩⟩,hB1.alloc (by omega) _⟩
theorem implUses_any (k r s t a b:Int) (w:World) :
  Calls Tryz.prog 167 #[.agg #[.int .i64 k,.int .i64 r,.int .i64 s,.int .i64 t,.int .i64 a,.int .i64 b]] w fun e w'=>OwnRow w (usesOf k r s t a b) e w':=by
 rcases Decidable.em (k<1∨14<k) with h|h
 ·exact implUses_out k r s t a b w h
 ·rcases kinds14 (k:=k) (by omega) (by omega) with rfl|rfl|rfl|rfl|rfl|rfl|rfl|rfl|rfl|rfl|rfl|rfl|rfl|rfl
  ·exact implUses_k1 r s t a b w
  ·exact implUses_k2 r s t a b w
  ·exact implUses_k3 r s t a b w
  ·exact implUses_k4 r s t a b w
  ·exact implUses_k5 r s t a b w
  ·exact implUses_k6 r s t a b w
  ·exact implUses_k7 r s t a b w
  ·exact implUses_k8 r s t a b w
  ·exact implUses_k9 r s t a b w
  ·exact implUses_k10 r s t a b w
  ·exact implUses_k11 r s t a b w
  ·exact implUses_k12 r s t a b w
  ·exact implUses_k13 r s t a b w
  ·exact implUses_k14 r s t a b w
theorem reads_any (x:OpV) (w:World) (hok:x.ok=true):Calls Tryz.prog 131 #[x.val] w fun e w'=>e=.returned (.int .i64 (foldO (usesL x.k x.r x.s)))∧Below w.heap.size w w':=by
 have oi:=opIs_of hok;have hub:=uses_bd (k:=x.k) ⟨oi.r1,oi.r2⟩ ⟨oi.s1,oi.s2⟩;have hul:=uses_len x.k x.r x.s
 go_enter Tryz.func131,Tryz.ntmps131
 go_wp2_with fail
 refine(implUses_any x.k x.r x.s x.t x.a x.b _).mono ?_;rintro e w1 ⟨v,rfl,ho,hb1⟩;rw [usesOf_ok hok] at ho;have hB1:Below w.heap.size w w1:=((Below.refl _ _).alloc (Nat.le_refl _) _).trans (hb1.mono (by simp));obtain⟨ao,cap,rfl,hc⟩:=Owns.ints ho;generalize hLe:usesL x.k x.r x.s=L at *;have hLe':Hid (usesL x.k x.r x.s=L):=hLe;clear ho hb1 hLe
 go_wp2_with fail
 go_loopw [3,9] (fun y i wr=>∃k:Nat,k≤L.length∧i=.int .i64 k∧y=.int .i64 (foldO (L.take k))∧wr=w1) (fun _ i _=>L.length-(intOf i).toNat)
 case atStart=>exact⟨0,Nat.zero_le _,rfl,rfl,rfl⟩
 case round =>
  obtain⟨k,hk,rfl,rfl,hwr⟩:=hrel;have hfb:=foldO_bd (L.take k);by_cases hlt:k<L.length
  ·rcases hc with rfl|⟨b,o,rfl,_,hcc⟩
   ·exact absurd hlt (by simp)
   have c0:wr.cell? ⟨b,o+k,none⟩=some (.int .i64 L[k]):=by rw [hwr];exact hcc k hlt
   have hu:=hub L[k] (List.getElem_mem hlt);have hst:Hid (foldO (L.take (k+1))=orB (foldO (L.take k)) (bitOf L[k])):=foldO_take L k hlt;have hbb:=bit_bd L[k];have hor:=or_i64 (x:=foldO (L.take k)) (y:=bitOf L[k]) ⟨by omega,hfb.2⟩ hfb.1 hbb.1 hbb.2;have hwr':Hid (wr=w1):=hwr;generalize foldO (L.take k)=y at *;generalize L[k]=u at *;clear hcc hwr
   go_wp2_with fail
   refine(slotBit_any u _ hu.1 hu.2).mono ?_;rintro e wq ⟨rfl,hwq⟩;rw [hwq];clear hwq
   go_wp2_with fail
   go_roundw
   case rel=>exact⟨k+1,by omega,by go_num,by rw [hst.out],hwr'.out⟩
   case measure=>simp [intOf];omega
  ·have e:k=L.length:=by omega
   subst e;rw [List.take_length];have hwr':Hid (wr=w1):=hwr;clear hwr
   go_wp2_with fail
   go_ret
   exact⟨by rw [hLe'.out];rfl,by rw [hwr'.out];exact hB1⟩
theorem safeAt_any (C:List OpV) (ao:Option Addr) (cap i:Nat) (full:Int) (w:World) (hC:codeB C=true) (h:CodeAt w ao C) (hi:i<C.length) (hf:Bd full) (hf0:0≤full) :
  Calls Tryz.prog 90 #[.slice ao C.length cap,.int .i64 i,.int .i64 full] w fun e w'=>e=.returned (.bool ((usesL C[i].k C[i].r C[i].s).all (hasB full)&&(endsB C[i].k||decide (i+1<C.length))))∧Below w.heap.size w w':=by
 obtain⟨hw,hl,hok⟩:=codeB_well hC;rcases h with rfl|⟨b,o,rfl,hlt,hs⟩
 ·exact absurd hi (by simp)
 have hoki:=hok i hi;have oi:=opIs_of hoki;have s:=hs i hi;obtain⟨x,hx0⟩:∃x,x=C[i]:=⟨_,rfl⟩;rw [←hx0] at s oi hoki ⊢;clear hx0 hs hok;obtain⟨c0,c1,c2,c3,c4,c5⟩:=s;have han:=andNot_uses hf hf0 (usesL x.k x.r x.s) (uses_len _ _ _) (uses_bd ⟨oi.r1,oi.r2⟩ ⟨oi.s1,oi.s2⟩)
 go_enter Tryz.func90,Tryz.ntmps90
 go_wp2_with fail
 refine(reads_any x _ hoki).mono ?_;rintro e w1 ⟨rfl,hb1⟩;obtain⟨hc1,_⟩:=bcell hb1;have d0:w1.cell? ⟨w.heap.size,0,none⟩=some (.int .i64 x.k):=by rw [hc1 _ _ (by simp)];simp [go_sem]
 have d1:w1.cell? ⟨w.heap.size,1,none⟩=some (.int .i64 x.r):=by rw [hc1 _ _ (by simp)];simp [go_sem]
 have d2:w1.cell? ⟨w.heap.size,2,none⟩=some (.int .i64 x.s):=by rw [hc1 _ _ (by simp)];simp [go_sem]
 have d3:w1.cell? ⟨w.heap.size,3,none⟩=some (.int .i64 x.t):=by rw [hc1 _ _ (by simp)];simp [go_sem]
 have d4:w1.cell? ⟨w.heap.size,4,none⟩=some (.int .i64 x.a):=by rw [hc1 _ _ (by simp)];simp [go_sem]
 have d5:w1.cell? ⟨w.heap.size,5,none⟩=some (.int .i64 x.b):=by rw [hc1 _ _ (by simp)];simp [go_sem]
 have hz1:=hb1.size;simp at hz1;have hB1:Below w.heap.size w w1:=((Below.refl _ _).alloc (Nat.le_refl _) _).trans (hb1.mono (by simp));clear hc1 hb1 c0 c1 c2 c3 c4 c5;generalize hae:(usesL x.k x.r x.s).all (hasB full)=A at *;have hae':Hid ((usesL x.k x.r x.s).all (hasB full)=A):=hae;generalize foldO (usesL x.k x.r x.s)=R at *;clear hae
 cases A with
 |false =>
  go_wp2_with fail
  go_ret
  exact⟨by rw [hae'.out];rfl,hB1⟩
 |true =>
  go_wp2_with fail
  refine(goesOrEnds_any x _).mono ?_;rintro e w2 ⟨rfl,hb2⟩;have hB2:Below w.heap.size w w2:=hB1.trans (hb2.mono (by omega))
  cases he:endsB x.k with
  |true =>
   go_wp2_with fail
   go_ret
   exact⟨by rw [hae'.out,he];rfl,hB2⟩
  |false =>
   have e1:Hid (decide ((i:Int)+1<(C.length:Int))=decide (i+1<C.length)):=by show _=_;congr 1;simp;omega
   go_wp2_with fail
   go_ret
   refine⟨?_,hB2⟩;rw [hae'.out,he];simp;omega
theorem implCodeSafe_any (C:List OpV) (ao:Option Addr) (cap:Nat) (w:World) (hl:C.length≤1048576) (h:CodeAt w ao C) :
  Calls Tryz.prog 57 #[.slice ao C.length cap] w fun e w'=>∃b,e=.returned (.bool b)∧SafeOf C b∧Below w.heap.size w w':=by
 go_enter Tryz.func57,Tryz.ntmps57
 go_wp2_with fail
 refine(implCodeFull_any C ao cap _ hl h).mono ?_;rintro e w1 ⟨v1,V,rfl,hV,hO,hb1⟩;have hVl:=fullOf_len hV;have hz1:=hb1.size;obtain⟨ao1,cap1,rfl,hcells⟩:=Owns.ints hO;have hcode:=h.below hb1;clear hO
 go_wp2_with fail
 go_loopw [8] (fun i wr=>∃k:Nat,k≤V.length∧i=.int .i64 k∧Below w1.heap.size w1 wr∧∀j,j<k→safeP C V j) (fun i _=>V.length-(intOf i).toNat)
 case atStart=>exact⟨0,Nat.zero_le _,rfl,Below.refl _ _,fun j hj=>by omega⟩
 case round =>
  obtain⟨k,hk,rfl,hB,hU⟩:=hrel;have hzr:=hB.size;by_cases hlt:k<V.length
  ·rcases hV with⟨hC,hF⟩|⟨hC,rfl⟩
   ·have hkl:k<C.length:=by omega
    rcases hcells with rfl|⟨b,o,rfl,hbl,hc⟩
    ·exact absurd hlt (by simp)
    have c0:wr.cell? ⟨b,o+k,none⟩=some (.int .i64 (atV V k)):=by
     rw [hB.cell (p:=⟨b,o+k,none⟩) hbl,hc k hlt];simp [atV,List.getD_eq_getElem?_getD,List.getElem?_eq_getElem hlt]
    have hbd:=hF.1.1.2 k;have hbd1:=hbd.1;have hP:Hid (safeP C V k↔((0≤atV V k)→((usesL C[k].k C[k].r C[k].s).all (hasB (atV V k))&&(endsB C[k].k||decide (k+1<C.length)))=true)):=by
     show _↔_;unfold safeP
     constructor
     ·intro hh h0;have:=hh hkl h0;simp;exact⟨fun u hu=>this.1 u hu,this.2⟩
     ·intro hh _ h0;have:=hh h0;simp at this;exact⟨this.1,this.2⟩
    have hcall:=fun h0=>safeAt_any C ao cap k (atV V k) wr hC (hcode.below hB) hkl hbd h0
    generalize ((usesL C[k].k C[k].r C[k].s).all (hasB (atV V k))&&(endsB C[k].k||decide (k+1<C.length)))=A at *;generalize atV V k=x at *;clear hc;by_cases hx:x = -1
    ·have hx':(x != -1)=false:=by simp [hx]
     have hn:Hid (∀j,j<k+1→safeP C V j):=fun j hj=>by
      by_cases e:j<k
      ·exact hU j e
      ·have:j=k:=by omega
       subst this;exact hP.out.2 fun h0=>by omega
     clear hx hU hcall
     go_wp2_with fail
     go_roundw
     case rel=>exact⟨k+1,by omega,by go_num,hB,hn.out⟩
     case measure=>simp [intOf];omega
    ·have hx':(x != -1)=true:=by simp [hx]
     have h0:0≤x:=by omega
     have hcall':=hcall h0;have hU':Hid (∀j,j<k→safeP C V j):=hU;clear hx hcall hU
     go_wp2_with fail
     refine hcall'.mono ?_;rintro e w2 ⟨rfl,hb2⟩;have hB2:Below w1.heap.size w1 w2:=hB.trans (hb2.mono hzr);clear hcall'
     cases A with
     |true =>
      have hn:Hid (∀j,j<k+1→safeP C V j):=fun j hj=>by
       by_cases e:j<k
       ·exact hU'.out j e
       ·have:j=k:=by omega
        subst this;exact hP.out.2 fun _=>rfl
      go_wp2_with fail
      go_roundw
      case rel=>exact⟨k+1,by omega,by go_num,hB2,hn.out⟩
      case measure=>simp [intOf];omega
     |false =>
      go_wp2_with fail
      go_ret
      exact⟨false,rfl,safe_no hC hF hkl (fun hh=>absurd (hP.out.1 hh h0) (by decide)),hb1.trans (hB2.mono (by omega))⟩
   ·exact absurd hlt (by simp)
  ·have e:k=V.length:=by omega
   subst e
   go_wp2_with fail
   refine(implCodeOk_any C ao cap _ hl (hcode.below hB)).mono ?_;rintro e w2 ⟨rfl,hb2⟩
   go_wp2_with fail
   go_ret
   refine⟨_,rfl,?_,hb1.trans ((hB.mono (by omega)).trans (hb2.mono (by omega)))⟩;rcases hV with⟨hC,hF⟩|⟨hC,rfl⟩
   ·rw [hC];exact safe_yes hC hF (fun i hi=>hU i (by rw [show V.length=C.length from hF.1.1.1];exact hi))
   ·rw [hC];exact .inr ⟨hC,rfl⟩
end Go.Proofs.YtgmkmeodimmdoaaGreatDoor.Eld
