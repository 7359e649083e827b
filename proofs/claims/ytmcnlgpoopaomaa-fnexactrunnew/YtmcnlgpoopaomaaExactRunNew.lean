/-
  For every number, place and value, ok or not, impl.RunNew answers as the specification's RunNew does, in lists of its own that a second call leaves as they are. No condition.
-/
import Derived.Test.YtmcnlgpoopaomaaRunBox
import Derived.Test.YtmcnlgpoopaomaaFrame
namespace Go.Proofs.Ytmcnlgpoopaomaa
open Go.ChangeShapes Go.WideShapes Go.ChangeAt Go.RowKit Go.Joins
namespace ExactRunNew
theorem newD_short (i a k n : Int) : (newD i a k n).Short := by
  unfold newD; split
  · exact ⟨by simp [newR], by simp [newR], by simp [newR], by simp [newR]⟩
  · exact ⟨by simp [runZ], by simp [runZ], by simp [runZ], by simp [runZ]⟩
set_option maxRecDepth 20000 in
set_option maxHeartbeats 4000000 in
theorem walk (i a k n : Int) (w : World) :
    Calls Try.prog 3 #[.int .i64 i, .int .i64 a, .agg #[.int .i64 k, .int .i64 n]] w fun e w' => e = .returned (.bool true) ∧ Below w.heap.size w w' := by
  have hs := newD_short i a k n
  have hbe : (newB i a k n != newB i a k n) = false := by simp
  have hmk : 0 ≤ (newD i a k n).marks := by unfold RunD.marks; omega
  have hmk2 : (newD i a k n).marks ≤ 8388608 := by unfold RunD.marks; have := hs.s0; have := hs.s1; have := hs.s2; have := hs.s3; omega
  have hneg : ¬ 1 + (newD i a k n).marks < 0 := by omega
  have hme : (1 + (newD i a k n).marks != 1 + (newD i a k n).marks) = false := by simp
  generalize hd : newD i a k n = d at *
  generalize hb : newB i a k n = b at *
  have hsp : ∀ w, Calls Try.prog 8 #[.int .i64 i, .int .i64 a, .agg #[.int .i64 k, .int .i64 n]] w fun e w' => ∃ p, e = .returned (.tuple #[d.val p, .bool b]) ∧ OwnRun w' w.heap.size d p ∧ Below w.heap.size w w' := fun w => by rw [← hd, ← hb]; exact specNew_any i a k n w
  have him : ∀ w, Calls Try.prog 10 #[.int .i64 i, .int .i64 a, .agg #[.int .i64 k, .int .i64 n]] w fun e w' => ∃ p, e = .returned (.tuple #[d.val p, .bool b]) ∧ OwnRun w' w.heap.size d p ∧ Below w.heap.size w w' := fun w => by rw [← hd, ← hb]; exact implNew_any i a k n w
  replace hsp : Hid (∀ w, Calls Try.prog 8 #[.int .i64 i, .int .i64 a, .agg #[.int .i64 k, .int .i64 n]] w fun e w' => ∃ p, e = .returned (.tuple #[d.val p, .bool b]) ∧ OwnRun w' w.heap.size d p ∧ Below w.heap.size w w') := hsp
  replace him : Hid (∀ w, Calls Try.prog 10 #[.int .i64 i, .int .i64 a, .agg #[.int .i64 k, .int .i64 n]] w fun e w' => ∃ p, e = .returned (.tuple #[d.val p, .bool b]) ∧ OwnRun w' w.heap.size d p ∧ Below w.heap.size w w') := him
  clear hd hb
  go_enter Try.func3, Try.ntmps3
  go_wp2_with fail
  have hB0 : Below w.heap.size w (w.alloc (.cells #[.int .i64 k, .int .i64 n] 23)) := (Below.refl _ _).alloc (Nat.le_refl _) _
  have c0 : (w.alloc (.cells #[.int .i64 k, .int .i64 n] 23)).cell? ⟨w.heap.size, 0, none⟩ = some (.int .i64 k) := by simp [go_sem]
  have c1 : (w.alloc (.cells #[.int .i64 k, .int .i64 n] 23)).cell? ⟨w.heap.size, 1, none⟩ = some (.int .i64 n) := by simp [go_sem]
  have hz0 : w.heap.size < (w.alloc (.cells #[.int .i64 k, .int .i64 n] 23)).heap.size := by simp
  generalize (w.alloc (.cells #[.int .i64 k, .int .i64 n] 23)) = w0 at *
  refine (toVal_any _ _ _).mono ?_
  rintro e w1 ⟨rfl, hb1⟩
  have hz1 := hb1.size
  have hB1 : Below w.heap.size w w1 := hB0.trans (hb1.mono (by omega))
  replace c0 : w1.cell? ⟨w.heap.size, 0, none⟩ = some (.int .i64 k) := (hb1.cell (p := ⟨w.heap.size, 0, none⟩) (by show w.heap.size < _; omega)).trans c0
  have hzq1 : w.heap.size < w1.heap.size := by omega
  replace c1 : w1.cell? ⟨w.heap.size, 1, none⟩ = some (.int .i64 n) := (hb1.cell (p := ⟨w.heap.size, 1, none⟩) (by show w.heap.size < _; omega)).trans c1
  have hzz : w.heap.size < w1.heap.size := by omega
  clear hb1
  go_wp2_with fail
  refine (hsp.out _).mono ?_
  rintro e w2 ⟨p2, rfl, ho2, hb2⟩
  have hz2 := hb2.size
  have hB2 : Below w.heap.size w w2 := hB1.trans (hb2.mono (by omega))
  replace c0 : w2.cell? ⟨w.heap.size, 0, none⟩ = some (.int .i64 k) := (hb2.cell (p := ⟨w.heap.size, 0, none⟩) (by show w.heap.size < _; omega)).trans c0
  have hzq2 : w.heap.size < w2.heap.size := by omega
  replace c1 : w2.cell? ⟨w.heap.size, 1, none⟩ = some (.int .i64 n) := (hb2.cell (p := ⟨w.heap.size, 1, none⟩) (by show w.heap.size < _; omega)).trans c1
  have m2 := ho2.mem
  clear ho2 hb2
  go_wp2_with fail
  have r2 : RunAt (w2.alloc (.cells (d.cells p2) 28)) w2.heap.size d p2 := runAt_new w2 d p2 28
  have a2 : Below w2.heap.size w2 (w2.alloc (.cells (d.cells p2) 28)) := (Below.refl _ _).alloc (Nat.le_refl _) _
  have x2 : w2.heap.size < (w2.alloc (.cells (d.cells p2) 28)).heap.size := by simp
  have hBa : Below w.heap.size w (w2.alloc (.cells (d.cells p2) 28)) := hB2.trans (a2.mono (by omega))
  replace m2 := m2.below a2
  replace c0 := (a2.cell (p := ⟨w.heap.size, 0, none⟩) (by show w.heap.size < _; omega)).trans c0
  replace c1 := (a2.cell (p := ⟨w.heap.size, 1, none⟩) (by show w.heap.size < _; omega)).trans c1
  generalize hb2e : w2.heap.size = b2 at *
  generalize (w2.alloc (.cells (d.cells p2) 28)) = w3 at *
  clear hB2 a2 hz2 hb2e
  refine (toVal_any _ _ _).mono ?_
  rintro e w4 ⟨rfl, hb4⟩
  have hz4 := hb4.size
  have hB4 : Below w.heap.size w w4 := hBa.trans (hb4.mono (by omega))
  replace c0 : w4.cell? ⟨w.heap.size, 0, none⟩ = some (.int .i64 k) := (hb4.cell (p := ⟨w.heap.size, 0, none⟩) (by show w.heap.size < _; omega)).trans c0
  have hzq4 : w.heap.size < w4.heap.size := by omega
  replace c1 : w4.cell? ⟨w.heap.size, 1, none⟩ = some (.int .i64 n) := (hb4.cell (p := ⟨w.heap.size, 1, none⟩) (by show w.heap.size < _; omega)).trans c1
  have hzz : w.heap.size < w4.heap.size := by omega
  replace m2 := m2.below (hb4.mono (by omega))
  replace r2 := r2.below (S := w3.heap.size) (by omega) hb4
  clear hb4 hBa
  go_wp2_with fail
  refine (him.out _).mono ?_
  rintro e w5 ⟨p5, rfl, ho5, hb5⟩
  have hz5 := hb5.size
  have hB5 : Below w.heap.size w w5 := hB4.trans (hb5.mono (by omega))
  replace c0 : w5.cell? ⟨w.heap.size, 0, none⟩ = some (.int .i64 k) := (hb5.cell (p := ⟨w.heap.size, 0, none⟩) (by show w.heap.size < _; omega)).trans c0
  have hzq5 : w.heap.size < w5.heap.size := by omega
  replace c1 : w5.cell? ⟨w.heap.size, 1, none⟩ = some (.int .i64 n) := (hb5.cell (p := ⟨w.heap.size, 1, none⟩) (by show w.heap.size < _; omega)).trans c1
  replace m2 := m2.below (hb5.mono (by omega))
  replace r2 := r2.below (S := w4.heap.size) (by omega) hb5
  clear hb5 hB4
  have y2 : b2 < w5.heap.size := by omega
  obtain ⟨q0, q1, q2, q3, q4, q5, q6, q7, q8, q9, q10, q11, q12⟩ := id r2
  go_wp2_with fail
  have r5 : RunAt (w5.alloc (.cells (d.cells p5) 28)) w5.heap.size d p5 := runAt_new w5 d p5 28
  have a5 : Below w5.heap.size w5 (w5.alloc (.cells (d.cells p5) 28)) := (Below.refl _ _).alloc (Nat.le_refl _) _
  have x5 : w5.heap.size < (w5.alloc (.cells (d.cells p5) 28)).heap.size := by simp
  have hBb : Below w.heap.size w (w5.alloc (.cells (d.cells p5) 28)) := hB5.trans (a5.mono (by omega))
  replace m2 := m2.below (a5.mono (by omega))
  replace r2 := r2.below (S := w5.heap.size) (by omega) a5
  have hnb := ho5.not_box (b := w5.heap.size) (.inr (Nat.le_refl _))
  replace ho5 := ho5.below a5
  replace c0 := (a5.cell (p := ⟨w.heap.size, 0, none⟩) (by show w.heap.size < _; omega)).trans c0
  replace c1 := (a5.cell (p := ⟨w.heap.size, 1, none⟩) (by show w.heap.size < _; omega)).trans c1
  clear q0 q1 q2 q3 q4 q5 q6 q7 q8 q9 q10 q11 q12
  generalize hb5e : w5.heap.size = b5 at *
  generalize (w5.alloc (.cells (d.cells p5) 28)) = w6 at *
  clear hB5 a5
  refine (eqRun_same w6.heap.size d p5 p2 _ (Nat.le_refl _) hs ho5.mem (m2.mono (by omega))).mono ?_
  rintro e w7 ⟨rfl, hb7⟩
  have hz7 := hb7.size
  have hB7 : Below w.heap.size w w7 := hBb.trans (hb7.mono (by omega))
  replace m2 := m2.below (hb7.mono (by omega))
  replace r2 := r2.below (S := w6.heap.size) (by omega) hb7
  replace r5 := r5.below (S := w6.heap.size) (by omega) hb7
  replace ho5 := ho5.below hb7
  replace c0 : w7.cell? ⟨w.heap.size, 0, none⟩ = some (.int .i64 k) := (hb7.cell (p := ⟨w.heap.size, 0, none⟩) (by show w.heap.size < _; omega)).trans c0
  have hzq7 : w.heap.size < w7.heap.size := by omega
  replace c1 : w7.cell? ⟨w.heap.size, 1, none⟩ = some (.int .i64 n) := (hb7.cell (p := ⟨w.heap.size, 1, none⟩) (by show w.heap.size < _; omega)).trans c1
  clear hb7
  have y2_7 : b2 < w7.heap.size := by omega
  have y5_7 : b5 < w7.heap.size := by omega
  obtain ⟨q0, q1, q2, q3, q4, q5, q6, q7, q8, q9, q10, q11, q12⟩ := id r2
  obtain ⟨u0, u1, u2, u3, u4, u5, u6, u7, u8, u9, u10, u11, u12⟩ := id r5
  go_wp2_with fail
  clear q0 q1 q2 q3 q4 q5 q6 q7 q8 q9 q10 q11 q12 u0 u1 u2 u3 u4 u5 u6 u7 u8 u9 u10 u11 u12
  refine (markRun_any w4.heap.size d p5 _ (by omega) hs ho5).mono ?_
  rintro e w8 ⟨rfl, ho8, hb8, kb8⟩
  have hz8 := hb8.size
  have hB8 : Below w.heap.size w w8 := hB7.trans (hb8.mono (by omega))
  replace m2 := m2.below (hb8.mono (by omega))
  replace r2 := r2.below (S := w4.heap.size) (by omega) hb8
  replace r5 := r5.kept (by omega) kb8 hnb.1 hnb.2.1 hnb.2.2.1 hnb.2.2.2
  replace c0 : w8.cell? ⟨w.heap.size, 0, none⟩ = some (.int .i64 k) := (hb8.cell (p := ⟨w.heap.size, 0, none⟩) (by show w.heap.size < _; omega)).trans c0
  have hzq8 : w.heap.size < w8.heap.size := by omega
  replace c1 : w8.cell? ⟨w.heap.size, 1, none⟩ = some (.int .i64 n) := (hb8.cell (p := ⟨w.heap.size, 1, none⟩) (by show w.heap.size < _; omega)).trans c1
  clear hb8 kb8 ho5
  have y2_8 : b2 < w8.heap.size := by omega
  have y5_8 : b5 < w8.heap.size := by omega
  obtain ⟨q0, q1, q2, q3, q4, q5, q6, q7, q8, q9, q10, q11, q12⟩ := id r2
  obtain ⟨u0, u1, u2, u3, u4, u5, u6, u7, u8, u9, u10, u11, u12⟩ := id r5
  go_wp2_with fail
  clear q0 q1 q2 q3 q4 q5 q6 q7 q8 q9 q10 q11 q12 u0 u1 u2 u3 u4 u5 u6 u7 u8 u9 u10 u11 u12
  refine (heldRun_any w8.heap.size d p5 _ (Nat.le_refl _) hs (by have := ho8.mem; exact this)).mono ?_
  rintro e w9 ⟨rfl, hb9⟩
  replace ho8 := ho8.below hb9
  have hz9 := hb9.size
  have hB9 : Below w.heap.size w w9 := hB8.trans (hb9.mono (by omega))
  replace m2 := m2.below (hb9.mono (by omega))
  replace r2 := r2.below (S := w8.heap.size) (by omega) hb9
  replace r5 := r5.below (S := w8.heap.size) (by omega) hb9
  replace c0 : w9.cell? ⟨w.heap.size, 0, none⟩ = some (.int .i64 k) := (hb9.cell (p := ⟨w.heap.size, 0, none⟩) (by show w.heap.size < _; omega)).trans c0
  have hzq9 : w.heap.size < w9.heap.size := by omega
  replace c1 : w9.cell? ⟨w.heap.size, 1, none⟩ = some (.int .i64 n) := (hb9.cell (p := ⟨w.heap.size, 1, none⟩) (by show w.heap.size < _; omega)).trans c1
  clear hb9
  have y2_9 : b2 < w9.heap.size := by omega
  have y5_9 : b5 < w9.heap.size := by omega
  obtain ⟨q0, q1, q2, q3, q4, q5, q6, q7, q8, q9, q10, q11, q12⟩ := id r2
  obtain ⟨u0, u1, u2, u3, u4, u5, u6, u7, u8, u9, u10, u11, u12⟩ := id r5
  go_wp2_with fail
  clear q0 q1 q2 q3 q4 q5 q6 q7 q8 q9 q10 q11 q12 u0 u1 u2 u3 u4 u5 u6 u7 u8 u9 u10 u11 u12
  refine (toVal_any _ _ _).mono ?_
  rintro e w10 ⟨rfl, hb10⟩
  have hz10 := hb10.size
  have hB10 : Below w.heap.size w w10 := hB9.trans (hb10.mono (by omega))
  replace c0 : w10.cell? ⟨w.heap.size, 0, none⟩ = some (.int .i64 k) := (hb10.cell (p := ⟨w.heap.size, 0, none⟩) (by show w.heap.size < _; omega)).trans c0
  have hzq10 : w.heap.size < w10.heap.size := by omega
  replace c1 : w10.cell? ⟨w.heap.size, 1, none⟩ = some (.int .i64 n) := (hb10.cell (p := ⟨w.heap.size, 1, none⟩) (by show w.heap.size < _; omega)).trans c1
  have hzz : w.heap.size < w10.heap.size := by omega
  replace m2 := m2.below (hb10.mono (by omega))
  replace r2 := r2.below (S := w9.heap.size) (by omega) hb10
  replace r5 := r5.below (S := w9.heap.size) (by omega) hb10
  replace ho8 := ho8.below hb10
  clear hb10
  have y2_10 : b2 < w10.heap.size := by omega
  have y5_10 : b5 < w10.heap.size := by omega
  obtain ⟨q0, q1, q2, q3, q4, q5, q6, q7, q8, q9, q10, q11, q12⟩ := id r2
  obtain ⟨u0, u1, u2, u3, u4, u5, u6, u7, u8, u9, u10, u11, u12⟩ := id r5
  go_wp2_with fail
  clear q0 q1 q2 q3 q4 q5 q6 q7 q8 q9 q10 q11 q12 u0 u1 u2 u3 u4 u5 u6 u7 u8 u9 u10 u11 u12
  refine (him.out _).mono ?_
  rintro e w11 ⟨p11, rfl, ho11, hb11⟩
  replace ho8 := ho8.below hb11
  have hz11 := hb11.size
  have hB11 : Below w.heap.size w w11 := hB10.trans (hb11.mono (by omega))
  replace m2 := m2.below (hb11.mono (by omega))
  replace r2 := r2.below (S := w10.heap.size) (by omega) hb11
  replace r5 := r5.below (S := w10.heap.size) (by omega) hb11
  replace c0 : w11.cell? ⟨w.heap.size, 0, none⟩ = some (.int .i64 k) := (hb11.cell (p := ⟨w.heap.size, 0, none⟩) (by show w.heap.size < _; omega)).trans c0
  have hzq11 : w.heap.size < w11.heap.size := by omega
  replace c1 : w11.cell? ⟨w.heap.size, 1, none⟩ = some (.int .i64 n) := (hb11.cell (p := ⟨w.heap.size, 1, none⟩) (by show w.heap.size < _; omega)).trans c1
  clear hb11
  have y2_11 : b2 < w11.heap.size := by omega
  have y5_11 : b5 < w11.heap.size := by omega
  obtain ⟨q0, q1, q2, q3, q4, q5, q6, q7, q8, q9, q10, q11, q12⟩ := id r2
  obtain ⟨u0, u1, u2, u3, u4, u5, u6, u7, u8, u9, u10, u11, u12⟩ := id r5
  go_wp2_with fail
  clear q0 q1 q2 q3 q4 q5 q6 q7 q8 q9 q10 q11 q12 u0 u1 u2 u3 u4 u5 u6 u7 u8 u9 u10 u11 u12
  have r11 : RunAt (w11.alloc (.cells (d.cells p11) 28)) w11.heap.size d p11 := runAt_new w11 d p11 28
  have a11 : Below w11.heap.size w11 (w11.alloc (.cells (d.cells p11) 28)) := (Below.refl _ _).alloc (Nat.le_refl _) _
  have x11 : w11.heap.size < (w11.alloc (.cells (d.cells p11) 28)).heap.size := by simp
  have hBc : Below w.heap.size w (w11.alloc (.cells (d.cells p11) 28)) := hB11.trans (a11.mono (by omega))
  replace m2 := m2.below (a11.mono (by omega))
  replace r2 := r2.below (S := w11.heap.size) (by omega) a11
  replace r5 := r5.below (S := w11.heap.size) (by omega) a11
  replace ho8 := ho8.below a11
  replace ho11 := ho11.below a11
  generalize hb11e : w11.heap.size = b11 at *
  generalize (w11.alloc (.cells (d.cells p11) 28)) = w12 at *
  clear hB11 a11 c0 c1
  refine (eqRun_same w12.heap.size d p11 p2 _ (Nat.le_refl _) hs ho11.mem (m2.mono (by omega))).mono ?_
  rintro e w13 ⟨rfl, hb13⟩
  have hz13 := hb13.size
  have hB13 : Below w.heap.size w w13 := hBc.trans (hb13.mono (by omega))
  replace ho8 := ho8.below hb13
  replace r5 := r5.below (S := w12.heap.size) (by omega) hb13
  replace r2 := r2.below (S := w12.heap.size) (by omega) hb13
  replace r11 := r11.below (S := w12.heap.size) (by omega) hb13
  clear hb13
  have y2_13 : b2 < w13.heap.size := by omega
  have y5_13 : b5 < w13.heap.size := by omega
  obtain ⟨q0, q1, q2, q3, q4, q5, q6, q7, q8, q9, q10, q11, q12⟩ := id r2
  obtain ⟨u0, u1, u2, u3, u4, u5, u6, u7, u8, u9, u10, u11, u12⟩ := id r5
  obtain ⟨t0, t1, t2, t3, t4, t5, t6, t7, t8, t9, t10, t11, t12⟩ := id r11
  go_wp2_with fail
  clear q0 q1 q2 q3 q4 q5 q6 q7 q8 q9 q10 q11 q12 u0 u1 u2 u3 u4 u5 u6 u7 u8 u9 u10 u11 u12
  refine (heldRun_any w13.heap.size d p5 _ (Nat.le_refl _) hs (by have := ho8.mem; exact this)).mono ?_
  rintro e w14 ⟨rfl, hb14⟩
  have hB14 : Below w.heap.size w w14 := hB13.trans (hb14.mono (by omega))
  clear hb14 t0 t1 t2 t3 t4 t5 t6 t7 t8 t9 t10 t11 t12
  go_wp2_with fail
  go_ret
  exact ⟨rfl, hB14⟩

set_option maxRecDepth 100000 in
theorem lifted (os : Os) (started : os.Started) (H : Type) (enc : TypeId × Value → H) :
    ReturnsInHanded {} Try.checked os 3 .any (Rows.fnExactRunNewSpec.pre6 enc Try.prog Try.f3 Rows.fnExactRunNewRow.domain false) (Rows.fnExactRunNewSpec.post enc Try.prog Try.f3 false true false false) := by
  refine returnsInHanded_of_change (C := Try.checked) own started (by kernel_rfl) Try.func3
    (ChangeSpec.witness6 (enc := enc) (C := Try.checked) false ⟨#[], #[.int .i64 0, .int .i64 0, .agg #[.int .i64 0, .int .i64 0]], []⟩ 8 (by kernel_rfl) (by kernel_rfl) (by kernel_rfl) (by kernel_rfl)) ?_
  intro W base args ds gs before hval0 hW hcnd _
  have hval : ∀ (j : Nat) t v, Try.f3.params[j]? = some t → args[j]? = some v → Value.okWide Try.prog W .any base t v := hval0
  have hW' := hW
  obtain ⟨p, q, hA0, hV, rfl, hfz, hnd⟩ := hW
  have hA : DataW.TrodAll enc Try.prog W 0 (fun _ => true) true Try.f3.params.toList args.toList ds p := hA0
  rw [Try.params3] at hA hval
  obtain ⟨v0, vs0, d0, ds0, p0, q0, hargs, rfl, rfl, h0, r0⟩ := trodAll_cons hA
  obtain ⟨v1, vs1, d1, ds1, p1, q1, rfl, rfl, rfl, h1, r1⟩ := trodAll_cons r0
  obtain ⟨v2, vs2, d2, ds2, p2, q2, rfl, rfl, rfl, h2, r2⟩ := trodAll_cons r1
  obtain ⟨rfl, rfl, rfl⟩ := trodAll_nil r2
  obtain rfl : args = #[v0, v1, v2] := by cases args; simp_all
  obtain ⟨rfl, rfl⟩ := trodVars_none hV
  obtain ⟨a0, rfl, rfl, rfl, wa0⟩ := open_int Try.underlying3 (hval 0 3 v0 rfl rfl) h0
  obtain ⟨a1, rfl, rfl, rfl, wa1⟩ := open_int Try.underlying3 (hval 1 3 v1 rfl rfl) h1
  obtain ⟨c2, b2, y2, z2, m2, rfl, rfl, rfl, hy2, hz2⟩ := open_agg2 Try.underlying23 (by kernel_rfl) cellsVal (hval 2 23 v2 rfl rfl) h2
  obtain ⟨k2, e2, rfl, wk2⟩ := DataW.trod_int Try.underlying3 hy2
  obtain ⟨n2, g2, rfl, wn2⟩ := DataW.trod_int Try.underlying3 hz2
  simp at e2 g2
  subst e2 g2
  clear hA0 hval0
  simp only [List.append_nil] at hW'
  refine (walk a0 a1 k2 n2 W).mono fun e W' ⟨he, bel⟩ => ?_
  subst he
  exact ⟨_, rfl, _, _, _, [], _, [], hW', trodAll_mk1 (shut_bool Try.underlying4 _), (trodAll_cons_mk (shut_int Try.underlying3 wa0) (trodAll_cons_mk (shut_int Try.underlying3 wa1) (trodAll_cons_mk (aggVal enc k2 n2 wk2 wn2 _ _ _) trodAll_mk0))), rfl, bel.frame _, fun h => by cases h⟩

theorem over : Rows.fnExactRunNewRow.holds Try.pinned (OpenSpec.ofChange Rows.fnExactRunNewSpec) :=
  OpenClaim.holds_of_wide 3 Try.f3 rfl rfl rfl rfl rfl rfl rfl ⟨rfl, rfl, rfl, rfl, rfl⟩ rfl rfl rfl rfl rfl (by kernel_rfl) Try.func3 (by kernel_rfl)
    (of_decide_eq_true (by kernel_rfl)) (by unfold Func.isWrapper; first | (rw [if_pos (by decide +kernel)]; kernel_rfl) | (rw [if_neg (by decide +kernel)]; exact ⟨rfl, rfl⟩))
    (fun os started H enc _ => lifted os started H enc)
end ExactRunNew

/-- the given statement -/
theorem exactRunNew_holds : Rows.FnExactRunNewSaid := ExactRunNew.over
#print axioms exactRunNew_holds
end Go.Proofs.Ytmcnlgpoopaomaa
