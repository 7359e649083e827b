import Derived.Test.YtgmkmeodimmdoaaGreatDoorBQp
import Derived.LoopN
import Derived.Shelf.Abstract
import Derived.Deep.WholeRow
set_option maxHeartbeats 4000000
set_option maxRecDepth 20000
namespace Go.Proofs.YtgmkmeodimmdoaaGreatDoor.Eld
open Go.ChangeShapes Go.WideShapes Go.ChangeAt Go.RowKit Go.Joins
theorem setRow_new {w:World} {n:Nat} (h:n=w.heap.size) (c c':Array Value) (t:TypeId):(w.alloc (.cells c t)).setRow n c'=w.alloc (.cells c' t):=by
 subst h;exact World.setRow_alloc_new w c c' t
theorem oc_func (f:Fn) (a b:Array Value):(Value.func f a b).oneCell'=true:=rfl
theorem oc_str (s:ByteArray):(Value.string s).oneCell'=true:=rfl
theorem implOpOk_gen {k r s t a b:Int} {wd:ByteArray} {f0 f1 f2 f3:Nat} {t0 q0 t1 q1 t2 q2 t3 q3:Value} {b0 b1 b2 b3:Bool}
  (ht0:t0.oneCell'=true) (hq0:q0.oneCell'=true) (ht1:t1.oneCell'=true) (hq1:q1.oneCell'=true) (ht2:t2.oneCell'=true) (hq2:q2.oneCell'=true) (ht3:t3.oneCell'=true) (hq3:q3.oneCell'=true)
  (hF:∀w,Calls Tryz.prog 169 #[.int .i64 k] w fun e w'=>(∃u,e=.returned (.tuple #[.agg #[.string wd,.func (.func f0) #[] #[],t0,q0,.func (.func f1) #[] #[],t1,q1,.func (.func f2) #[] #[],t2,q2,.func (.func f3) #[] #[],t3,q3,u],.bool true])∧u.oneCell'=true)∧Below w.heap.size w w')
  (n0:∀args w,(callFunc f0 args).run Tryz.prog w=.ok (.enter f0 args) w) (n1:∀args w,(callFunc f1 args).run Tryz.prog w=.ok (.enter f1 args) w) (n2:∀args w,(callFunc f2 args).run Tryz.prog w=.ok (.enter f2 args) w) (n3:∀args w,(callFunc f3 args).run Tryz.prog w=.ok (.enter f3 args) w)
  (k0:∀w,Calls Tryz.prog f0 #[.agg #[.int .i64 k,.int .i64 r,.int .i64 s,.int .i64 t,.int .i64 a,.int .i64 b]] w fun e w'=>e=.returned (.bool b0)∧Below w.heap.size w w')
  (k1:∀w,Calls Tryz.prog f1 #[.agg #[.int .i64 k,.int .i64 r,.int .i64 s,.int .i64 t,.int .i64 a,.int .i64 b]] w fun e w'=>e=.returned (.bool b1)∧Below w.heap.size w w')
  (k2:∀w,Calls Tryz.prog f2 #[.agg #[.int .i64 k,.int .i64 r,.int .i64 s,.int .i64 t,.int .i64 a,.int .i64 b]] w fun e w'=>e=.returned (.bool b2)∧Below w.heap.size w w')
  (k3:∀w,Calls Tryz.prog f3 #[.agg #[.int .i64 k,.int .i64 r,.int .i64 s,.int .i64 t,.int .i64 a,.int .i64 b]] w fun e w'=>e=.returned (.bool b3)∧Below w.heap.size w w') (w:World) :
  Calls Tryz.prog 133 #[.agg #[.int .i64 k,.int .i64 r,.int .i64 s,.int .i64 t,.int .i64 a,.int .i64 b]] w fun e w'=>e=.returned (.bool (b0&&b1&&b2&&b3))∧Below w.heap.size w w':=by
 have i0:∀w,(Instr.index 179 (.agg #[.func (.func f0) #[] #[],t0,q0,.func (.func f1) #[] #[],t1,q1,.func (.func f2) #[] #[],t2,q2,.func (.func f3) #[] #[],t3,q3]) (.int .i64 0)).run Tryz.prog w=.ok (.agg #[.func (.func f0) #[] #[],t0,q0]) w:=fun _=>by kernel_rfl
 have i1:∀w,(Instr.index 179 (.agg #[.func (.func f0) #[] #[],t0,q0,.func (.func f1) #[] #[],t1,q1,.func (.func f2) #[] #[],t2,q2,.func (.func f3) #[] #[],t3,q3]) (.int .i64 1)).run Tryz.prog w=.ok (.agg #[.func (.func f1) #[] #[],t1,q1]) w:=fun _=>by kernel_rfl
 have i2:∀w,(Instr.index 179 (.agg #[.func (.func f0) #[] #[],t0,q0,.func (.func f1) #[] #[],t1,q1,.func (.func f2) #[] #[],t2,q2,.func (.func f3) #[] #[],t3,q3]) (.int .i64 2)).run Tryz.prog w=.ok (.agg #[.func (.func f2) #[] #[],t2,q2]) w:=fun _=>by kernel_rfl
 have i3:∀w,(Instr.index 179 (.agg #[.func (.func f0) #[] #[],t0,q0,.func (.func f1) #[] #[],t1,q1,.func (.func f2) #[] #[],t2,q2,.func (.func f3) #[] #[],t3,q3]) (.int .i64 3)).run Tryz.prog w=.ok (.agg #[.func (.func f3) #[] #[],t3,q3]) w:=fun _=>by kernel_rfl
 go_enter Tryz.func133,Tryz.ntmps133
 go_wp2_with fail
 refine(hF _).mono ?_;rintro e w1 ⟨⟨u,rfl,hu⟩,hb1⟩;obtain⟨hc1,_⟩:=bcell hb1;have hz1:=hb1.size;simp at hz1;have c0:w1.cell? ⟨w.heap.size,0,none⟩=some (.int .i64 k):=by rw [hc1 _ _ (by simp)];simp [go_sem]
 have c1:w1.cell? ⟨w.heap.size,1,none⟩=some (.int .i64 r):=by rw [hc1 _ _ (by simp)];simp [go_sem]
 have c2:w1.cell? ⟨w.heap.size,2,none⟩=some (.int .i64 s):=by rw [hc1 _ _ (by simp)];simp [go_sem]
 have c3:w1.cell? ⟨w.heap.size,3,none⟩=some (.int .i64 t):=by rw [hc1 _ _ (by simp)];simp [go_sem]
 have c4:w1.cell? ⟨w.heap.size,4,none⟩=some (.int .i64 a):=by rw [hc1 _ _ (by simp)];simp [go_sem]
 have c5:w1.cell? ⟨w.heap.size,5,none⟩=some (.int .i64 b):=by rw [hc1 _ _ (by simp)];simp [go_sem]
 have l0:w.heap.size<w1.heap.size:=by omega
 have hB1:Below w.heap.size w w1:=((Below.refl _ _).alloc (Nat.le_refl _) _).trans (hb1.mono (by simp));clear hc1 hb1
 go_wp2_with (refine wpList_store_row rfl 182 (.tmp 3) (.tmp 11) rfl _ _ rfl rfl 182 _ (heap_newJ (by simp)) (by kernel_rfl) (by kernel_rfl) (by simp [oc_func,oc_str,ht0,hq0,ht1,hq1,ht2,hq2,ht3,hq3,hu]) ?_;rw [setRow_new (by simp)])
 refine wp_loop_rounds 5 ?_;rw [rounds_succ]
 go_wp2_with (refine wpList_store_row rfl 178 (.tmp 6) (.tmp 19) rfl _ _ rfl rfl 178 _ (heap_newJ (by simp)) (by kernel_rfl) (by kernel_rfl) (by simp [oc_func,ht0,hq0]) ?_;rw [setRow_new (by simp)])
 refine(k0 _).mono ?_;rintro e w2 ⟨rfl,hb2⟩;obtain⟨hc2,_⟩:=bcell hb2;have hz2:=hb2.size;simp at hz2;have d0:w2.cell? ⟨w.heap.size,0,none⟩=some (.int .i64 k):=by rw [hc2 _ _ (by simp<;>omega)];simp [go_sem,c0,l0]
 have d1:w2.cell? ⟨w.heap.size,1,none⟩=some (.int .i64 r):=by rw [hc2 _ _ (by simp<;>omega)];simp [go_sem,c1,l0]
 have d2:w2.cell? ⟨w.heap.size,2,none⟩=some (.int .i64 s):=by rw [hc2 _ _ (by simp<;>omega)];simp [go_sem,c2,l0]
 have d3:w2.cell? ⟨w.heap.size,3,none⟩=some (.int .i64 t):=by rw [hc2 _ _ (by simp<;>omega)];simp [go_sem,c3,l0]
 have d4:w2.cell? ⟨w.heap.size,4,none⟩=some (.int .i64 a):=by rw [hc2 _ _ (by simp<;>omega)];simp [go_sem,c4,l0]
 have d5:w2.cell? ⟨w.heap.size,5,none⟩=some (.int .i64 b):=by rw [hc2 _ _ (by simp<;>omega)];simp [go_sem,c5,l0]
 have m0:w.heap.size<w2.heap.size:=by omega
 have hB2:Below w.heap.size w w2:=((hB1.alloc (by omega) _).alloc (by simp<;>omega) _).trans (hb2.mono (by simp<;>omega));clear hc2 hb2 hz2 l0 c0 c1 c2 c3 c4 c5;have l0:=m0;have c0:=d0;have c1:=d1;have c2:=d2;have c3:=d3;have c4:=d4;have c5:=d5;clear m0 d0 d1 d2 d3 d4 d5
 cases b0 with
 |false =>
  go_wp2_with fail
  go_ret
  exact⟨by simp,hB2⟩
 |true =>
 go_wp2_with fail
 rw [rounds_succ]
 go_wp2_with (refine wpList_store_row rfl 178 (.tmp 6) (.tmp 19) rfl _ _ rfl rfl 178 _ (heap_newJ (by simp)) (by kernel_rfl) (by kernel_rfl) (by simp [oc_func,ht1,hq1]) ?_;rw [setRow_new (by simp)])
 refine(k1 _).mono ?_;rintro e w3 ⟨rfl,hb3⟩;obtain⟨hc3,_⟩:=bcell hb3;have hz3:=hb3.size;simp at hz3;have d0:w3.cell? ⟨w.heap.size,0,none⟩=some (.int .i64 k):=by rw [hc3 _ _ (by simp<;>omega)];simp [go_sem,c0,l0]
 have d1:w3.cell? ⟨w.heap.size,1,none⟩=some (.int .i64 r):=by rw [hc3 _ _ (by simp<;>omega)];simp [go_sem,c1,l0]
 have d2:w3.cell? ⟨w.heap.size,2,none⟩=some (.int .i64 s):=by rw [hc3 _ _ (by simp<;>omega)];simp [go_sem,c2,l0]
 have d3:w3.cell? ⟨w.heap.size,3,none⟩=some (.int .i64 t):=by rw [hc3 _ _ (by simp<;>omega)];simp [go_sem,c3,l0]
 have d4:w3.cell? ⟨w.heap.size,4,none⟩=some (.int .i64 a):=by rw [hc3 _ _ (by simp<;>omega)];simp [go_sem,c4,l0]
 have d5:w3.cell? ⟨w.heap.size,5,none⟩=some (.int .i64 b):=by rw [hc3 _ _ (by simp<;>omega)];simp [go_sem,c5,l0]
 have m0:w.heap.size<w3.heap.size:=by omega
 have hB3:Below w.heap.size w w3:=(hB2.alloc (by omega) _).trans (hb3.mono (by simp<;>omega));clear hc3 hb3 hz3 l0 c0 c1 c2 c3 c4 c5;have l0:=m0;have c0:=d0;have c1:=d1;have c2:=d2;have c3:=d3;have c4:=d4;have c5:=d5;clear m0 d0 d1 d2 d3 d4 d5
 cases b1 with
 |false =>
  go_wp2_with fail
  go_ret
  exact⟨by simp,hB3⟩
 |true =>
 go_wp2_with fail
 rw [rounds_succ]
 go_wp2_with (refine wpList_store_row rfl 178 (.tmp 6) (.tmp 19) rfl _ _ rfl rfl 178 _ (heap_newJ (by simp)) (by kernel_rfl) (by kernel_rfl) (by simp [oc_func,ht2,hq2]) ?_;rw [setRow_new (by simp)])
 refine(k2 _).mono ?_;rintro e w4 ⟨rfl,hb4⟩;obtain⟨hc4,_⟩:=bcell hb4;have hz4:=hb4.size;simp at hz4;have d0:w4.cell? ⟨w.heap.size,0,none⟩=some (.int .i64 k):=by rw [hc4 _ _ (by simp<;>omega)];simp [go_sem,c0,l0]
 have d1:w4.cell? ⟨w.heap.size,1,none⟩=some (.int .i64 r):=by rw [hc4 _ _ (by simp<;>omega)];simp [go_sem,c1,l0]
 have d2:w4.cell? ⟨w.heap.size,2,none⟩=some (.int .i64 s):=by rw [hc4 _ _ (by simp<;>omega)];simp [go_sem,c2,l0]
 have d3:w4.cell? ⟨w.heap.size,3,none⟩=some (.int .i64 t):=by rw [hc4 _ _ (by simp<;>omega)];simp [go_sem,c3,l0]
 have d4:w4.cell? ⟨w.heap.size,4,none⟩=some (.int .i64 a):=by rw [hc4 _ _ (by simp<;>omega)];simp [go_sem,c4,l0]
 have d5:w4.cell? ⟨w.heap.size,5,none⟩=some (.int .i64 b):=by rw [hc4 _ _ (by simp<;>omega)];simp [go_sem,c5,l0]
 have m0:w.heap.size<w4.heap.size:=by omega
 have hB4:Below w.heap.size w w4:=(hB3.alloc (by omega) _).trans (hb4.mono (by simp<;>omega));clear hc4 hb4 hz4 l0 c0 c1 c2 c3 c4 c5;have l0:=m0;have c0:=d0;have c1:=d1;have c2:=d2;have c3:=d3;have c4:=d4;have c5:=d5;clear m0 d0 d1 d2 d3 d4 d5
 cases b2 with
 |false =>
  go_wp2_with fail
  go_ret
  exact⟨by simp,hB4⟩
 |true =>
 go_wp2_with fail
 rw [rounds_succ]
 go_wp2_with (refine wpList_store_row rfl 178 (.tmp 6) (.tmp 19) rfl _ _ rfl rfl 178 _ (heap_newJ (by simp)) (by kernel_rfl) (by kernel_rfl) (by simp [oc_func,ht3,hq3]) ?_;rw [setRow_new (by simp)])
 refine(k3 _).mono ?_;rintro e w5 ⟨rfl,hb5⟩;obtain⟨hc5,_⟩:=bcell hb5;have hz5:=hb5.size;simp at hz5;have d0:w5.cell? ⟨w.heap.size,0,none⟩=some (.int .i64 k):=by rw [hc5 _ _ (by simp<;>omega)];simp [go_sem,c0,l0]
 have d1:w5.cell? ⟨w.heap.size,1,none⟩=some (.int .i64 r):=by rw [hc5 _ _ (by simp<;>omega)];simp [go_sem,c1,l0]
 have d2:w5.cell? ⟨w.heap.size,2,none⟩=some (.int .i64 s):=by rw [hc5 _ _ (by simp<;>omega)];simp [go_sem,c2,l0]
 have d3:w5.cell? ⟨w.heap.size,3,none⟩=some (.int .i64 t):=by rw [hc5 _ _ (by simp<;>omega)];simp [go_sem,c3,l0]
 have d4:w5.cell? ⟨w.heap.size,4,none⟩=some (.int .i64 a):=by rw [hc5 _ _ (by simp<;>omega)];simp [go_sem,c4,l0]
 have d5:w5.cell? ⟨w.heap.size,5,none⟩=some (.int .i64 b):=by rw [hc5 _ _ (by simp<;>omega)];simp [go_sem,c5,l0]
 have m0:w.heap.size<w5.heap.size:=by omega
 have hB5:Below w.heap.size w w5:=(hB4.alloc (by omega) _).trans (hb5.mono (by simp<;>omega));clear hc5 hb5 hz5 l0 c0 c1 c2 c3 c4 c5;have l0:=m0;have c0:=d0;have c1:=d1;have c2:=d2;have c3:=d3;have c4:=d4;have c5:=d5;clear m0 d0 d1 d2 d3 d4 d5
 cases b3 with
 |false =>
  go_wp2_with fail
  go_ret
  exact⟨by simp,hB5⟩
 |true =>
 go_wp2_with fail
 rw [rounds_succ]
 go_wp2_with fail
 go_ret
 exact⟨rfl,hB5⟩
theorem slot_yes (n hi:Int) (h:0≤hi):(inB n 0 hi&&true||n==0)=inB n 0 hi:=by
 rw [Bool.eq_iff_iff];simp [inB];omega
theorem slot_no (n hi:Int):(inB n 0 hi&&false||n==0)=(n==0):=by simp
theorem none_ok (a b:Int) (h:(a==0&&b==0)=true):okB a b=true:=by
 simp at h;obtain⟨rfl,rfl⟩:=h;rfl
theorem opB_1 (r s t a b:Int):(inB r 0 3&&(s==0)&&(t==0)&&okB a b)=opB 1 r s t a b:=by
 unfold opB;rw [show fR 1=true from rfl,show fS 1=false from rfl,show fT 1=false from rfl,show fV 1=true from rfl,slot_yes r 3 (by decide),slot_no s 3,slot_no t 15,show inB 1 1 14=true from rfl,show ((1:Int)==8)=false from rfl,show ((1:Int)==13)=false from rfl];generalize inB r 0 3=x;generalize (s==0)=y;generalize (t==0)=z;generalize (a==0&&b==0)=v;generalize okB a b=o;generalize (a==1&&decide (1≤b))=m1;generalize (a==1&&inB b 0 1)=m2
 revert x y z v o m1 m2
 decide
theorem opB_2 (r s t a b:Int):(inB r 0 3&&inB s 0 3&&(t==0)&&(a==0&&b==0))=opB 2 r s t a b:=by
 have hz:=none_ok a b;unfold opB;rw [show fR 2=true from rfl,show fS 2=true from rfl,show fT 2=false from rfl,show fV 2=false from rfl,slot_yes r 3 (by decide),slot_yes s 3 (by decide),slot_no t 15,show inB 2 1 14=true from rfl,show ((2:Int)==8)=false from rfl,show ((2:Int)==13)=false from rfl];generalize inB r 0 3=x;generalize inB s 0 3=y;generalize (t==0)=z;generalize (a==0&&b==0)=v at *;generalize okB a b=o at *;generalize (a==1&&decide (1≤b))=m1;generalize (a==1&&inB b 0 1)=m2
 revert x y z v o m1 m2
 decide
theorem opB_3 (r s t a b:Int):(inB r 0 3&&inB s 0 3&&(t==0)&&(a==0&&b==0))=opB 3 r s t a b:=by
 have hz:=none_ok a b;unfold opB;rw [show fR 3=true from rfl,show fS 3=true from rfl,show fT 3=false from rfl,show fV 3=false from rfl,slot_yes r 3 (by decide),slot_yes s 3 (by decide),slot_no t 15,show inB 3 1 14=true from rfl,show ((3:Int)==8)=false from rfl,show ((3:Int)==13)=false from rfl];generalize inB r 0 3=x;generalize inB s 0 3=y;generalize (t==0)=z;generalize (a==0&&b==0)=v at *;generalize okB a b=o at *;generalize (a==1&&decide (1≤b))=m1;generalize (a==1&&inB b 0 1)=m2
 revert x y z v o m1 m2
 decide
theorem opB_4 (r s t a b:Int):(inB r 0 3&&(s==0)&&(t==0)&&(a==0&&b==0))=opB 4 r s t a b:=by
 have hz:=none_ok a b;unfold opB;rw [show fR 4=true from rfl,show fS 4=false from rfl,show fT 4=false from rfl,show fV 4=false from rfl,slot_yes r 3 (by decide),slot_no s 3,slot_no t 15,show inB 4 1 14=true from rfl,show ((4:Int)==8)=false from rfl,show ((4:Int)==13)=false from rfl];generalize inB r 0 3=x;generalize (s==0)=y;generalize (t==0)=z;generalize (a==0&&b==0)=v at *;generalize okB a b=o at *;generalize (a==1&&decide (1≤b))=m1;generalize (a==1&&inB b 0 1)=m2
 revert x y z v o m1 m2
 decide
theorem opB_5 (r s t a b:Int):(inB r 0 3&&(s==0)&&inB t 0 15&&(a==0&&b==0))=opB 5 r s t a b:=by
 have hz:=none_ok a b;unfold opB;rw [show fR 5=true from rfl,show fS 5=false from rfl,show fT 5=true from rfl,show fV 5=false from rfl,slot_yes r 3 (by decide),slot_no s 3,slot_yes t 15 (by decide),show inB 5 1 14=true from rfl,show ((5:Int)==8)=false from rfl,show ((5:Int)==13)=false from rfl];generalize inB r 0 3=x;generalize (s==0)=y;generalize inB t 0 15=z;generalize (a==0&&b==0)=v at *;generalize okB a b=o at *;generalize (a==1&&decide (1≤b))=m1;generalize (a==1&&inB b 0 1)=m2
 revert x y z v o m1 m2
 decide
theorem opB_6 (r s t a b:Int):(inB r 0 3&&inB s 0 3&&(t==0)&&(a==0&&b==0))=opB 6 r s t a b:=by
 have hz:=none_ok a b;unfold opB;rw [show fR 6=true from rfl,show fS 6=true from rfl,show fT 6=false from rfl,show fV 6=false from rfl,slot_yes r 3 (by decide),slot_yes s 3 (by decide),slot_no t 15,show inB 6 1 14=true from rfl,show ((6:Int)==8)=false from rfl,show ((6:Int)==13)=false from rfl];generalize inB r 0 3=x;generalize inB s 0 3=y;generalize (t==0)=z;generalize (a==0&&b==0)=v at *;generalize okB a b=o at *;generalize (a==1&&decide (1≤b))=m1;generalize (a==1&&inB b 0 1)=m2
 revert x y z v o m1 m2
 decide
theorem opB_7 (r s t a b:Int):(inB r 0 3&&inB s 0 3&&(t==0)&&(a==0&&b==0))=opB 7 r s t a b:=by
 have hz:=none_ok a b;unfold opB;rw [show fR 7=true from rfl,show fS 7=true from rfl,show fT 7=false from rfl,show fV 7=false from rfl,slot_yes r 3 (by decide),slot_yes s 3 (by decide),slot_no t 15,show inB 7 1 14=true from rfl,show ((7:Int)==8)=false from rfl,show ((7:Int)==13)=false from rfl];generalize inB r 0 3=x;generalize inB s 0 3=y;generalize (t==0)=z;generalize (a==0&&b==0)=v at *;generalize okB a b=o at *;generalize (a==1&&decide (1≤b))=m1;generalize (a==1&&inB b 0 1)=m2
 revert x y z v o m1 m2
 decide
theorem opB_8 (r s t a b:Int):(inB r 0 3&&inB s 0 3&&inB t 0 15&&timeB a b)=opB 8 r s t a b:=by
 unfold opB timeB numB;rw [show fR 8=true from rfl,show fS 8=true from rfl,show fT 8=true from rfl,show fV 8=true from rfl,slot_yes r 3 (by decide),slot_yes s 3 (by decide),slot_yes t 15 (by decide),show inB 8 1 14=true from rfl,show ((8:Int)==8)=true from rfl,show ((8:Int)==13)=false from rfl];generalize inB r 0 3=x;generalize inB s 0 3=y;generalize inB t 0 15=z;generalize (a==0&&b==0)=v;generalize okB a b=o;generalize (a==1)=q;generalize decide (1≤b)=u;generalize inB b 0 1=m
 revert x y z v o q u m
 decide
theorem opB_9 (r s t a b:Int):((r==0)&&(s==0)&&inB t 0 15&&(a==0&&b==0))=opB 9 r s t a b:=by
 have hz:=none_ok a b;unfold opB;rw [show fR 9=false from rfl,show fS 9=false from rfl,show fT 9=true from rfl,show fV 9=false from rfl,slot_no r 3,slot_no s 3,slot_yes t 15 (by decide),show inB 9 1 14=true from rfl,show ((9:Int)==8)=false from rfl,show ((9:Int)==13)=false from rfl];generalize (r==0)=x;generalize (s==0)=y;generalize inB t 0 15=z;generalize (a==0&&b==0)=v at *;generalize okB a b=o at *;generalize (a==1&&decide (1≤b))=m1;generalize (a==1&&inB b 0 1)=m2
 revert x y z v o m1 m2
 decide
theorem opB_10 (r s t a b:Int):(inB r 0 3&&(s==0)&&inB t 0 15&&okB a b)=opB 10 r s t a b:=by
 unfold opB;rw [show fR 10=true from rfl,show fS 10=false from rfl,show fT 10=true from rfl,show fV 10=true from rfl,slot_yes r 3 (by decide),slot_no s 3,slot_yes t 15 (by decide),show inB 10 1 14=true from rfl,show ((10:Int)==8)=false from rfl,show ((10:Int)==13)=false from rfl];generalize inB r 0 3=x;generalize (s==0)=y;generalize inB t 0 15=z;generalize (a==0&&b==0)=v;generalize okB a b=o;generalize (a==1&&decide (1≤b))=m1;generalize (a==1&&inB b 0 1)=m2
 revert x y z v o m1 m2
 decide
theorem opB_11 (r s t a b:Int):(inB r 0 3&&(s==0)&&(t==0)&&(a==0&&b==0))=opB 11 r s t a b:=by
 have hz:=none_ok a b;unfold opB;rw [show fR 11=true from rfl,show fS 11=false from rfl,show fT 11=false from rfl,show fV 11=false from rfl,slot_yes r 3 (by decide),slot_no s 3,slot_no t 15,show inB 11 1 14=true from rfl,show ((11:Int)==8)=false from rfl,show ((11:Int)==13)=false from rfl];generalize inB r 0 3=x;generalize (s==0)=y;generalize (t==0)=z;generalize (a==0&&b==0)=v at *;generalize okB a b=o at *;generalize (a==1&&decide (1≤b))=m1;generalize (a==1&&inB b 0 1)=m2
 revert x y z v o m1 m2
 decide
theorem opB_12 (r s t a b:Int):(inB r 0 3&&(s==0)&&(t==0)&&(a==0&&b==0))=opB 12 r s t a b:=by
 have hz:=none_ok a b;unfold opB;rw [show fR 12=true from rfl,show fS 12=false from rfl,show fT 12=false from rfl,show fV 12=false from rfl,slot_yes r 3 (by decide),slot_no s 3,slot_no t 15,show inB 12 1 14=true from rfl,show ((12:Int)==8)=false from rfl,show ((12:Int)==13)=false from rfl];generalize inB r 0 3=x;generalize (s==0)=y;generalize (t==0)=z;generalize (a==0&&b==0)=v at *;generalize okB a b=o at *;generalize (a==1&&decide (1≤b))=m1;generalize (a==1&&inB b 0 1)=m2
 revert x y z v o m1 m2
 decide
theorem opB_13 (r s t a b:Int):((r==0)&&(s==0)&&(t==0)&&onOffB a b)=opB 13 r s t a b:=by
 unfold opB onOffB numB;rw [show fR 13=false from rfl,show fS 13=false from rfl,show fT 13=false from rfl,show fV 13=true from rfl,slot_no r 3,slot_no s 3,slot_no t 15,show inB 13 1 14=true from rfl,show ((13:Int)==8)=false from rfl,show ((13:Int)==13)=true from rfl];have hx:inB b 0 1=(b==0||b==1):=by rw [Bool.eq_iff_iff];simp [inB];omega
 rw [hx];generalize (r==0)=x;generalize (s==0)=y;generalize (t==0)=z;generalize (a==0&&b==0)=v;generalize okB a b=o;generalize (a==1)=q;generalize (b==0||b==1)=u;generalize decide (1≤b)=m
 revert x y z v o q u m
 decide
theorem opB_14 (r s t a b:Int):(inB r 0 3&&(s==0)&&(t==0)&&(a==0&&b==0))=opB 14 r s t a b:=by
 have hz:=none_ok a b;unfold opB;rw [show fR 14=true from rfl,show fS 14=false from rfl,show fT 14=false from rfl,show fV 14=false from rfl,slot_yes r 3 (by decide),slot_no s 3,slot_no t 15,show inB 14 1 14=true from rfl,show ((14:Int)==8)=false from rfl,show ((14:Int)==13)=false from rfl];generalize inB r 0 3=x;generalize (s==0)=y;generalize (t==0)=z;generalize (a==0&&b==0)=v at *;generalize okB a b=o at *;generalize (a==1&&decide (1≤b))=m1;generalize (a==1&&inB b 0 1)=m2
 revert x y z v o m1 m2
 decide
theorem en_slotR:∀args w,(callFunc 185 args).run Tryz.prog w=.ok (.enter 185 args) w:=enters_of Tryz.func185 (by kernel_rfl) rfl
theorem en_noR:∀args w,(callFunc 188 args).run Tryz.prog w=.ok (.enter 188 args) w:=enters_of Tryz.func188 (by kernel_rfl) rfl
theorem en_slotS:∀args w,(callFunc 189 args).run Tryz.prog w=.ok (.enter 189 args) w:=enters_of Tryz.func189 (by kernel_rfl) rfl
theorem en_noS:∀args w,(callFunc 192 args).run Tryz.prog w=.ok (.enter 192 args) w:=enters_of Tryz.func192 (by kernel_rfl) rfl
theorem en_placeTo:∀args w,(callFunc 193 args).run Tryz.prog w=.ok (.enter 193 args) w:=enters_of Tryz.func193 (by kernel_rfl) rfl
theorem en_noTo:∀args w,(callFunc 196 args).run Tryz.prog w=.ok (.enter 196 args) w:=enters_of Tryz.func196 (by kernel_rfl) rfl
theorem en_valueV:∀args w,(callFunc 197 args).run Tryz.prog w=.ok (.enter 197 args) w:=enters_of Tryz.func197 (by kernel_rfl) rfl
theorem en_noV:∀args w,(callFunc 200 args).run Tryz.prog w=.ok (.enter 200 args) w:=enters_of Tryz.func200 (by kernel_rfl) rfl
theorem en_kindS:∀args w,(callFunc 201 args).run Tryz.prog w=.ok (.enter 201 args) w:=enters_of Tryz.func201 (by kernel_rfl) rfl
theorem en_timeV:∀args w,(callFunc 202 args).run Tryz.prog w=.ok (.enter 202 args) w:=enters_of Tryz.func202 (by kernel_rfl) rfl
theorem en_onOffV:∀args w,(callFunc 203 args).run Tryz.prog w=.ok (.enter 203 args) w:=enters_of Tryz.func203 (by kernel_rfl) rfl
theorem implOpOk_1 (r s t a b:Int) (w:World) :
  Calls Tryz.prog 133 #[.agg #[.int .i64 1,.int .i64 r,.int .i64 s,.int .i64 t,.int .i64 a,.int .i64 b]] w fun e w'=>e=.returned (.bool (opB 1 r s t a b))∧Below w.heap.size w w':=by
 rw [←opB_1];exact implOpOk_gen rfl rfl rfl rfl rfl rfl rfl rfl (fun w=>(formOf_any 1 w (by decide) (by decide)).mono fun e w' ⟨hb,x,y,z,he,_⟩=>⟨⟨_,he.trans (by rw [row_1]),rfl⟩,hb⟩)
  en_slotR en_noS en_noTo en_valueV (slotR_any _ _ _ _ _ _) (noS_any _ _ _ _ _ _) (noTo_any _ _ _ _ _ _) (valueV_any _ _ _ _ _ _) w
theorem implOpOk_2 (r s t a b:Int) (w:World) :
  Calls Tryz.prog 133 #[.agg #[.int .i64 2,.int .i64 r,.int .i64 s,.int .i64 t,.int .i64 a,.int .i64 b]] w fun e w'=>e=.returned (.bool (opB 2 r s t a b))∧Below w.heap.size w w':=by
 rw [←opB_2];exact implOpOk_gen rfl rfl rfl rfl rfl rfl rfl rfl (fun w=>(formOf_any 2 w (by decide) (by decide)).mono fun e w' ⟨hb,x,y,z,he,_⟩=>⟨⟨_,he.trans (by rw [row_2]),rfl⟩,hb⟩)
  en_slotR en_slotS en_noTo en_noV (slotR_any _ _ _ _ _ _) (slotS_any _ _ _ _ _ _) (noTo_any _ _ _ _ _ _) (noV_any _ _ _ _ _ _) w
theorem implOpOk_3 (r s t a b:Int) (w:World) :
  Calls Tryz.prog 133 #[.agg #[.int .i64 3,.int .i64 r,.int .i64 s,.int .i64 t,.int .i64 a,.int .i64 b]] w fun e w'=>e=.returned (.bool (opB 3 r s t a b))∧Below w.heap.size w w':=by
 rw [←opB_3];exact implOpOk_gen rfl rfl rfl rfl rfl rfl rfl rfl (fun w=>(formOf_any 3 w (by decide) (by decide)).mono fun e w' ⟨hb,x,y,z,he,_⟩=>⟨⟨_,he.trans (by rw [row_3]),rfl⟩,hb⟩)
  en_slotR en_slotS en_noTo en_noV (slotR_any _ _ _ _ _ _) (slotS_any _ _ _ _ _ _) (noTo_any _ _ _ _ _ _) (noV_any _ _ _ _ _ _) w
theorem implOpOk_4 (r s t a b:Int) (w:World) :
  Calls Tryz.prog 133 #[.agg #[.int .i64 4,.int .i64 r,.int .i64 s,.int .i64 t,.int .i64 a,.int .i64 b]] w fun e w'=>e=.returned (.bool (opB 4 r s t a b))∧Below w.heap.size w w':=by
 rw [←opB_4];exact implOpOk_gen rfl rfl rfl rfl rfl rfl rfl rfl (fun w=>(formOf_any 4 w (by decide) (by decide)).mono fun e w' ⟨hb,x,y,z,he,_⟩=>⟨⟨_,he.trans (by rw [row_4]),rfl⟩,hb⟩)
  en_slotR en_noS en_noTo en_noV (slotR_any _ _ _ _ _ _) (noS_any _ _ _ _ _ _) (noTo_any _ _ _ _ _ _) (noV_any _ _ _ _ _ _) w
theorem implOpOk_5 (r s t a b:Int) (w:World) :
  Calls Tryz.prog 133 #[.agg #[.int .i64 5,.int .i64 r,.int .i64 s,.int .i64 t,.int .i64 a,.int .i64 b]] w fun e w'=>e=.returned (.bool (opB 5 r s t a b))∧Below w.heap.size w w':=by
 rw [←opB_5];exact implOpOk_gen rfl rfl rfl rfl rfl rfl rfl rfl (fun w=>(formOf_any 5 w (by decide) (by decide)).mono fun e w' ⟨hb,x,y,z,he,_⟩=>⟨⟨_,he.trans (by rw [row_5]),rfl⟩,hb⟩)
  en_slotR en_noS en_placeTo en_noV (slotR_any _ _ _ _ _ _) (noS_any _ _ _ _ _ _) (placeTo_any _ _ _ _ _ _) (noV_any _ _ _ _ _ _) w
theorem implOpOk_6 (r s t a b:Int) (w:World) :
  Calls Tryz.prog 133 #[.agg #[.int .i64 6,.int .i64 r,.int .i64 s,.int .i64 t,.int .i64 a,.int .i64 b]] w fun e w'=>e=.returned (.bool (opB 6 r s t a b))∧Below w.heap.size w w':=by
 rw [←opB_6];exact implOpOk_gen rfl rfl rfl rfl rfl rfl rfl rfl (fun w=>(formOf_any 6 w (by decide) (by decide)).mono fun e w' ⟨hb,x,y,z,he,_⟩=>⟨⟨_,he.trans (by rw [row_6]),rfl⟩,hb⟩)
  en_slotR en_slotS en_noTo en_noV (slotR_any _ _ _ _ _ _) (slotS_any _ _ _ _ _ _) (noTo_any _ _ _ _ _ _) (noV_any _ _ _ _ _ _) w
theorem implOpOk_7 (r s t a b:Int) (w:World) :
  Calls Tryz.prog 133 #[.agg #[.int .i64 7,.int .i64 r,.int .i64 s,.int .i64 t,.int .i64 a,.int .i64 b]] w fun e w'=>e=.returned (.bool (opB 7 r s t a b))∧Below w.heap.size w w':=by
 rw [←opB_7];exact implOpOk_gen rfl rfl rfl rfl rfl rfl rfl rfl (fun w=>(formOf_any 7 w (by decide) (by decide)).mono fun e w' ⟨hb,x,y,z,he,_⟩=>⟨⟨_,he.trans (by rw [row_7]),rfl⟩,hb⟩)
  en_slotR en_kindS en_noTo en_noV (slotR_any _ _ _ _ _ _) (kindS_any _ _ _ _ _ _) (noTo_any _ _ _ _ _ _) (noV_any _ _ _ _ _ _) w
theorem implOpOk_8 (r s t a b:Int) (w:World) :
  Calls Tryz.prog 133 #[.agg #[.int .i64 8,.int .i64 r,.int .i64 s,.int .i64 t,.int .i64 a,.int .i64 b]] w fun e w'=>e=.returned (.bool (opB 8 r s t a b))∧Below w.heap.size w w':=by
 rw [←opB_8];exact implOpOk_gen rfl rfl rfl rfl rfl rfl rfl rfl (fun w=>(formOf_any 8 w (by decide) (by decide)).mono fun e w' ⟨hb,x,y,z,he,_⟩=>⟨⟨_,he.trans (by rw [row_8]),rfl⟩,hb⟩)
  en_slotR en_kindS en_placeTo en_timeV (slotR_any _ _ _ _ _ _) (kindS_any _ _ _ _ _ _) (placeTo_any _ _ _ _ _ _) (timeV_any _ _ _ _ _ _) w
theorem implOpOk_9 (r s t a b:Int) (w:World) :
  Calls Tryz.prog 133 #[.agg #[.int .i64 9,.int .i64 r,.int .i64 s,.int .i64 t,.int .i64 a,.int .i64 b]] w fun e w'=>e=.returned (.bool (opB 9 r s t a b))∧Below w.heap.size w w':=by
 rw [←opB_9];exact implOpOk_gen rfl rfl rfl rfl rfl rfl rfl rfl (fun w=>(formOf_any 9 w (by decide) (by decide)).mono fun e w' ⟨hb,x,y,z,he,_⟩=>⟨⟨_,he.trans (by rw [row_9]),rfl⟩,hb⟩)
  en_noR en_noS en_placeTo en_noV (noR_any _ _ _ _ _ _) (noS_any _ _ _ _ _ _) (placeTo_any _ _ _ _ _ _) (noV_any _ _ _ _ _ _) w
theorem implOpOk_10 (r s t a b:Int) (w:World) :
  Calls Tryz.prog 133 #[.agg #[.int .i64 10,.int .i64 r,.int .i64 s,.int .i64 t,.int .i64 a,.int .i64 b]] w fun e w'=>e=.returned (.bool (opB 10 r s t a b))∧Below w.heap.size w w':=by
 rw [←opB_10];exact implOpOk_gen rfl rfl rfl rfl rfl rfl rfl rfl (fun w=>(formOf_any 10 w (by decide) (by decide)).mono fun e w' ⟨hb,x,y,z,he,_⟩=>⟨⟨_,he.trans (by rw [row_10]),rfl⟩,hb⟩)
  en_slotR en_noS en_placeTo en_valueV (slotR_any _ _ _ _ _ _) (noS_any _ _ _ _ _ _) (placeTo_any _ _ _ _ _ _) (valueV_any _ _ _ _ _ _) w
theorem implOpOk_11 (r s t a b:Int) (w:World) :
  Calls Tryz.prog 133 #[.agg #[.int .i64 11,.int .i64 r,.int .i64 s,.int .i64 t,.int .i64 a,.int .i64 b]] w fun e w'=>e=.returned (.bool (opB 11 r s t a b))∧Below w.heap.size w w':=by
 rw [←opB_11];exact implOpOk_gen rfl rfl rfl rfl rfl rfl rfl rfl (fun w=>(formOf_any 11 w (by decide) (by decide)).mono fun e w' ⟨hb,x,y,z,he,_⟩=>⟨⟨_,he.trans (by rw [row_11]),rfl⟩,hb⟩)
  en_slotR en_noS en_noTo en_noV (slotR_any _ _ _ _ _ _) (noS_any _ _ _ _ _ _) (noTo_any _ _ _ _ _ _) (noV_any _ _ _ _ _ _) w
theorem implOpOk_12 (r s t a b:Int) (w:World) :
  Calls Tryz.prog 133 #[.agg #[.int .i64 12,.int .i64 r,.int .i64 s,.int .i64 t,.int .i64 a,.int .i64 b]] w fun e w'=>e=.returned (.bool (opB 12 r s t a b))∧Below w.heap.size w w':=by
 rw [←opB_12];exact implOpOk_gen rfl rfl rfl rfl rfl rfl rfl rfl (fun w=>(formOf_any 12 w (by decide) (by decide)).mono fun e w' ⟨hb,x,y,z,he,_⟩=>⟨⟨_,he.trans (by rw [row_12]),rfl⟩,hb⟩)
  en_slotR en_noS en_noTo en_noV (slotR_any _ _ _ _ _ _) (noS_any _ _ _ _ _ _) (noTo_any _ _ _ _ _ _) (noV_any _ _ _ _ _ _) w
theorem implOpOk_13 (r s t a b:Int) (w:World) :
  Calls Tryz.prog 133 #[.agg #[.int .i64 13,.int .i64 r,.int .i64 s,.int .i64 t,.int .i64 a,.int .i64 b]] w fun e w'=>e=.returned (.bool (opB 13 r s t a b))∧Below w.heap.size w w':=by
 rw [←opB_13];exact implOpOk_gen rfl rfl rfl rfl rfl rfl rfl rfl (fun w=>(formOf_any 13 w (by decide) (by decide)).mono fun e w' ⟨hb,x,y,z,he,_⟩=>⟨⟨_,he.trans (by rw [row_13]),rfl⟩,hb⟩)
  en_noR en_noS en_noTo en_onOffV (noR_any _ _ _ _ _ _) (noS_any _ _ _ _ _ _) (noTo_any _ _ _ _ _ _) (onOffV_any _ _ _ _ _ _) w
theorem implOpOk_14 (r s t a b:Int) (w:World) :
  Calls Tryz.prog 133 #[.agg #[.int .i64 14,.int .i64 r,.int .i64 s,.int .i64 t,.int .i64 a,.int .i64 b]] w fun e w'=>e=.returned (.bool (opB 14 r s t a b))∧Below w.heap.size w w':=by
 rw [←opB_14];exact implOpOk_gen rfl rfl rfl rfl rfl rfl rfl rfl (fun w=>(formOf_any 14 w (by decide) (by decide)).mono fun e w' ⟨hb,x,y,z,he,_⟩=>⟨⟨_,he.trans (by rw [row_14]),rfl⟩,hb⟩)
  en_slotR en_noS en_noTo en_noV (slotR_any _ _ _ _ _ _) (noS_any _ _ _ _ _ _) (noTo_any _ _ _ _ _ _) (noV_any _ _ _ _ _ _) w
theorem opB_out {k:Int} (h:k<1∨14<k) (r s t a b:Int):opB k r s t a b=false:=by
 have e:inB k 1 14=false:=by rw [←Bool.not_eq_true,inB_iff];omega
 unfold opB;rw [e];simp
theorem implOpOk_out (k r s t a b:Int) (w:World) (h:k<1∨14<k) :
  Calls Tryz.prog 133 #[.agg #[.int .i64 k,.int .i64 r,.int .i64 s,.int .i64 t,.int .i64 a,.int .i64 b]] w fun e w'=>e=.returned (.bool false)∧Below w.heap.size w w':=by
 go_enter Tryz.func133,Tryz.ntmps133
 go_wp2_with fail
 refine(formOf_none k _ h).mono ?_;rintro e w1 ⟨rfl,hb1⟩;have hz1:=hb1.size;simp at hz1;have hB1:Below w.heap.size w w1:=((Below.refl _ _).alloc (Nat.le_refl _) _).trans (hb1.mono (by simp));clear hb1;unfold L0
 go_wp2_with fail
 go_ret
 exact⟨rfl,hB1.alloc (by omega) _⟩
theorem implOpOk_any (k r s t a b:Int) (w:World) :
  Calls Tryz.prog 133 #[.agg #[.int .i64 k,.int .i64 r,.int .i64 s,.int .i64 t,.int .i64 a,.int .i64 b]] w fun e w'=>e=.returned (.bool (opB k r s t a b))∧Below w.heap.size w w':=by
 rcases Decidable.em (k<1∨14<k) with h|h
 ·rw [opB_out h];exact implOpOk_out k r s t a b w h
 ·rcases kinds14 (k:=k) (by omega) (by omega) with rfl|rfl|rfl|rfl|rfl|rfl|rfl|rfl|rfl|rfl|rfl|rfl|rfl|rfl
  ·exact implOpOk_1 r s t a b w
  ·exact implOpOk_2 r s t a b w
  ·exact implOpOk_3 r s t a b w
  ·exact implOpOk_4 r s t a b w
  ·exact implOpOk_5 r s t a b w
  ·exact implOpOk_6 r s t a b w
  ·exact implOpOk_7 r s t a b w
  ·exact implOpOk_8 r s t a b w
  ·exact implOpOk_9 r s t a b w
  ·exact implOpOk_10 r s t a b w
  ·exact implOpOk_11 r s t a b w
  ·exact implOpOk_12 r s t a b w
  ·exact implOpOk_13 r s t a b w
  ·exact implOpOk_14 r s t a b w
theorem implCodeOk_any (C:List OpV) (ao:Option Addr) (cap:Nat) (w:World) (hl:C.length≤1048576) (h:CodeAt w ao C) :
  Calls Tryz.prog 91 #[.slice ao C.length cap] w fun e w'=>e=.returned (.bool (codeB C))∧Below w.heap.size w w':=by
 by_cases hn:C.length<1
 ·have:C=[]:=by cases C with|nil=>rfl|cons a l=>simp at hn
  subst this
  go_enter Tryz.func91,Tryz.ntmps91
  go_wp2_with fail
  go_ret
  exact⟨rfl,Below.refl _ _⟩
 by_cases hx:16<C.length
 ·go_enter Tryz.func91,Tryz.ntmps91
  go_wp2_with fail
  go_ret
  have e:codeB C=false:=by
   have:decide (C.length≤16)=false:=by simp;omega
   simp [codeB,this]
  exact⟨by rw [e];rfl,Below.refl _ _⟩
 rcases h with rfl|⟨b,o,rfl,hlt,hs⟩
 ·exact absurd (by decide) hn
 ·go_enter Tryz.func91,Tryz.ntmps91
  go_wp2_with fail
  go_loopw [15] (fun i wr=>∃k:Nat,k≤C.length∧i=.int .i64 k∧Below w.heap.size w wr∧UptoOk C k) (fun i _=>C.length-(intOf i).toNat)
  case atStart=>exact⟨0,Nat.zero_le _,rfl,Below.refl _ _,fun j _ h=>by omega⟩
  case round =>
   obtain⟨k,hk,rfl,hB,hU⟩:=hrel;by_cases hlt':k<C.length
   ·have s:=hs k hlt';obtain⟨c0,c1,c2,c3,c4,c5⟩:=s.below (w':=wr) (by exact hB);obtain⟨x,hx0⟩:∃x,x=C[k]:=⟨_,rfl⟩;rw [←hx0] at c0 c1 c2 c3 c4 c5;have hx:Hid (x=C[k]):=hx0;clear hx0 s;have hbw:=hB.size
    go_wp2_with fail
    refine(implOpOk_any _ _ _ _ _ _ _).mono ?_;rintro e w1 ⟨rfl,hb1⟩;obtain⟨hc1,_⟩:=bcell hb1;have d3:w1.cell? ⟨wr.heap.size,3,none⟩=some (.int .i64 x.t):=by rw [hc1 _ _ (by simp)];simp [go_sem]
    have hB1:Below w.heap.size w w1:=(hB.alloc hbw _).trans (hb1.mono (by simp;omega));clear hc1 hb1 c0 c1 c2 c3 c4 c5
    cases hok:opB x.k x.r x.s x.t x.a x.b with
    |false =>
     go_wp2_with fail
     go_ret
     exact⟨by rw [codeB_no hlt' (.inl (by rw [←hx.out];exact hok))];rfl,hB1⟩
    |true =>
     have hn:∀t,x.t<(C.length:Int)→t=k+1→UptoOk C t:=by
      rintro t ht rfl j hj hjk;by_cases e:j<k
      ·exact hU j hj e
      ·have:j=k:=by omega
       subst this;rw [←hx.out];exact⟨hok,ht⟩
     by_cases ht:x.t<(C.length:Int)
     ·go_wp2_with fail
      go_roundw
      case rel=>exact⟨k+1,by omega,by go_num,hB1,hn _ ht rfl⟩
      case measure=>simp [intOf];omega
     ·go_wp2_with fail
      go_ret
      exact⟨by rw [codeB_no hlt' (.inr (by rw [←hx.out];omega))];rfl,hB1⟩
   ·have e:k=C.length:=by omega
    subst e
    go_wp2_with fail
    go_ret
    refine⟨?_,hB⟩;rw [codeB_all hU];have e1:decide (1≤C.length)=true:=by simp;omega
    have e2:decide (C.length≤16)=true:=by simp;omega
    rw [e1,e2];rfl
end Go.Proofs.YtgmkmeodimmdoaaGreatDoor.Eld
