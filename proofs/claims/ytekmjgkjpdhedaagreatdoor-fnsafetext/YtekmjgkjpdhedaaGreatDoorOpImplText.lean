/-
  What impl.OpText answers over this translation: a step's text, for every step; nothing that was there turns. The table that strconv reads is as its initialiser lays it.
-/
import Derived.Test.YtekmjgkjpdhedaaGreatDoorOpImplOk
import Derived.Test.YtekmjgkjpdhedaaGreatDoorOpText
namespace Go.Proofs.YtekmjgkjpdhedaaGreatDoor
open Go.ChangeShapes Go.WideShapes Go.ChangeAt Go.RowKit Go.Joins
theorem cat1 (a x : List UInt8) : (⟨a.toArray⟩ : ByteArray) ++ ((⟨#[32]⟩ : ByteArray) ++ ⟨x.toArray⟩) = ⟨(a ++ 32 :: x).toArray⟩ := by
  rw [show (⟨#[32]⟩ : ByteArray) = ⟨[(32 : UInt8)].toArray⟩ from rfl, cat, cat]; rfl
theorem oc_nil : Value.nilFunc.oneCell' = true := rfl
set_option maxRecDepth 20000 in
set_option maxHeartbeats 4000000 in
theorem implText_1001 {k r s t a b : Int} {wd : List UInt8} {p0 q0 p1 q1 p2 q2 p3 q3 : Value} {m0 m3 : Nat} {X0 X3 : List UInt8}
    (o0 : p0.oneCell' = true) (g0 : q0.oneCell' = true) (o1 : p1.oneCell' = true) (g1 : q1.oneCell' = true) (o2 : p2.oneCell' = true) (g2 : q2.oneCell' = true) (o3 : p3.oneCell' = true) (g3 : q3.oneCell' = true) (lw : wd.length ≤ 20) (hk : opB k r s t a b = true)
    (hF : ∀ w, Calls Tryz.prog 47 #[.int .i64 k] w fun e w' => (∃ u, e = .returned (.tuple #[.agg #[.string ⟨wd.toArray⟩, p0, .func (.func m0) #[] #[], q0, p1, .nilFunc, q1, p2, .nilFunc, q2, p3, .func (.func m3) #[] #[], q3, u], .bool true]) ∧ u.oneCell' = true) ∧ Below w.heap.size w w')
    (b0 : X0.length ≤ 20) (n0 : ∀ args w, (callFunc m0 args).run Tryz.prog w = .ok (.enter m0 args) w) (k0 : ∀ w, Tab w → Calls Tryz.prog m0 #[.agg #[.int .i64 k, .int .i64 r, .int .i64 s, .int .i64 t, .int .i64 a, .int .i64 b]] w fun e w' => e = .returned (.string ⟨X0.toArray⟩) ∧ Below w.heap.size w w')
    (b3 : X3.length ≤ 20) (n3 : ∀ args w, (callFunc m3 args).run Tryz.prog w = .ok (.enter m3 args) w) (k3 : ∀ w, Tab w → Calls Tryz.prog m3 #[.agg #[.int .i64 k, .int .i64 r, .int .i64 s, .int .i64 t, .int .i64 a, .int .i64 b]] w fun e w' => e = .returned (.string ⟨X3.toArray⟩) ∧ Below w.heap.size w w')
    (w : World) (hT : Tab w) :
    Calls Tryz.prog 26 #[.agg #[.int .i64 k, .int .i64 r, .int .i64 s, .int .i64 t, .int .i64 a, .int .i64 b]] w fun e w' => e = .returned (.string ⟨(wd ++ 32 :: X0 ++ 32 :: X3).toArray⟩) ∧ Below w.heap.size w w' := by
  have i0 : ∀ w, (Instr.index 76 (.agg #[p0, .func (.func m0) #[] #[], q0, p1, .nilFunc, q1, p2, .nilFunc, q2, p3, .func (.func m3) #[] #[], q3]) (.int .i64 0)).run Tryz.prog w = .ok (.agg #[p0, .func (.func m0) #[] #[], q0]) w := fun _ => by kernel_rfl
  have i1 : ∀ w, (Instr.index 76 (.agg #[p0, .func (.func m0) #[] #[], q0, p1, .nilFunc, q1, p2, .nilFunc, q2, p3, .func (.func m3) #[] #[], q3]) (.int .i64 1)).run Tryz.prog w = .ok (.agg #[p1, .nilFunc, q1]) w := fun _ => by kernel_rfl
  have i2 : ∀ w, (Instr.index 76 (.agg #[p0, .func (.func m0) #[] #[], q0, p1, .nilFunc, q1, p2, .nilFunc, q2, p3, .func (.func m3) #[] #[], q3]) (.int .i64 2)).run Tryz.prog w = .ok (.agg #[p2, .nilFunc, q2]) w := fun _ => by kernel_rfl
  have i3 : ∀ w, (Instr.index 76 (.agg #[p0, .func (.func m0) #[] #[], q0, p1, .nilFunc, q1, p2, .nilFunc, q2, p3, .func (.func m3) #[] #[], q3]) (.int .i64 3)).run Tryz.prog w = .ok (.agg #[p3, .func (.func m3) #[] #[], q3]) w := fun _ => by kernel_rfl
  have nq0 : ∀ w, (binOp .neq 44 (.func (.func m0) #[] #[]) .nilFunc).run Tryz.prog w = .ok (.bool true) w := fun _ => by kernel_rfl
  have nq3 : ∀ w, (binOp .neq 44 (.func (.func m3) #[] #[]) .nilFunc).run Tryz.prog w = .ok (.bool true) w := fun _ => by kernel_rfl
  have nq : ∀ w, (binOp .neq 44 .nilFunc .nilFunc).run Tryz.prog w = .ok (.bool false) w := fun _ => by kernel_rfl
  go_enter Tryz.func26, Tryz.ntmps26
  go_wp2_with fail
  refine (hF _).mono ?_
  rintro e w1 ⟨⟨u, rfl, hu⟩, hb1⟩
  replace hT := (hT.below ((Below.refl _ _).alloc (Nat.le_refl _) (.cells #[.int .i64 k, .int .i64 r, .int .i64 s, .int .i64 t, .int .i64 a, .int .i64 b] 43))).below hb1
  obtain ⟨hc1, _⟩ := bcell hb1
  have hz1 := hb1.size
  simp at hz1
  have c0 : w1.cell? ⟨w.heap.size, 0, none⟩ = some (.int .i64 k) := by rw [hc1 _ _ (by simp)]; simp [go_sem]
  have c1 : w1.cell? ⟨w.heap.size, 1, none⟩ = some (.int .i64 r) := by rw [hc1 _ _ (by simp)]; simp [go_sem]
  have c2 : w1.cell? ⟨w.heap.size, 2, none⟩ = some (.int .i64 s) := by rw [hc1 _ _ (by simp)]; simp [go_sem]
  have c3 : w1.cell? ⟨w.heap.size, 3, none⟩ = some (.int .i64 t) := by rw [hc1 _ _ (by simp)]; simp [go_sem]
  have c4 : w1.cell? ⟨w.heap.size, 4, none⟩ = some (.int .i64 a) := by rw [hc1 _ _ (by simp)]; simp [go_sem]
  have c5 : w1.cell? ⟨w.heap.size, 5, none⟩ = some (.int .i64 b) := by rw [hc1 _ _ (by simp)]; simp [go_sem]
  have l0 : w.heap.size < w1.heap.size := by omega
  have hB1 : Below w.heap.size w w1 := ((Below.refl _ _).alloc (Nat.le_refl _) _).trans (hb1.mono (by simp))
  clear hc1 hb1
  go_wp2_with (refine wpList_store_row rfl 79 (.tmp 3) (.tmp 12) rfl _ _ rfl rfl 79 _ (heap_new (by simp)) (by kernel_rfl) (by kernel_rfl) (by simp [oc_func, oc_str, oc_nil, o0, g0, o1, g1, o2, g2, o3, g3, hu]) ?_; rw [setRow_new (by simp)])
  refine (implOpOk_any _ _ _ _ _ _ _).mono ?_
  rintro e w2 ⟨rfl, hb2⟩
  rw [hk]
  replace hT := (hT.below ((Below.refl _ _).alloc (Nat.le_refl _) (.cells #[.string ⟨wd.toArray⟩, p0, .func (.func m0) #[] #[], q0, p1, .nilFunc, q1, p2, .nilFunc, q2, p3, .func (.func m3) #[] #[], q3, u] 79))).below hb2
  obtain ⟨hc2, _⟩ := bcell hb2
  have hz2 := hb2.size
  simp at hz2
  have d0 : w2.cell? ⟨w.heap.size, 0, none⟩ = some (.int .i64 k) := by rw [hc2 _ _ (by simp <;> omega)]; simp [go_sem, c0, l0]
  have d1 : w2.cell? ⟨w.heap.size, 1, none⟩ = some (.int .i64 r) := by rw [hc2 _ _ (by simp <;> omega)]; simp [go_sem, c1, l0]
  have d2 : w2.cell? ⟨w.heap.size, 2, none⟩ = some (.int .i64 s) := by rw [hc2 _ _ (by simp <;> omega)]; simp [go_sem, c2, l0]
  have d3 : w2.cell? ⟨w.heap.size, 3, none⟩ = some (.int .i64 t) := by rw [hc2 _ _ (by simp <;> omega)]; simp [go_sem, c3, l0]
  have d4 : w2.cell? ⟨w.heap.size, 4, none⟩ = some (.int .i64 a) := by rw [hc2 _ _ (by simp <;> omega)]; simp [go_sem, c4, l0]
  have d5 : w2.cell? ⟨w.heap.size, 5, none⟩ = some (.int .i64 b) := by rw [hc2 _ _ (by simp <;> omega)]; simp [go_sem, c5, l0]
  have y0 : w2.cell? ⟨w1.heap.size, 0, none⟩ = some (.string ⟨wd.toArray⟩) := by rw [hc2 _ _ (by simp)]; simp [go_sem]
  have y1 : w2.cell? ⟨w1.heap.size, 1, none⟩ = some (p0) := by rw [hc2 _ _ (by simp)]; simp [go_sem]
  have y2 : w2.cell? ⟨w1.heap.size, 2, none⟩ = some (.func (.func m0) #[] #[]) := by rw [hc2 _ _ (by simp)]; simp [go_sem]
  have y3 : w2.cell? ⟨w1.heap.size, 3, none⟩ = some (q0) := by rw [hc2 _ _ (by simp)]; simp [go_sem]
  have y4 : w2.cell? ⟨w1.heap.size, 4, none⟩ = some (p1) := by rw [hc2 _ _ (by simp)]; simp [go_sem]
  have y5 : w2.cell? ⟨w1.heap.size, 5, none⟩ = some (.nilFunc) := by rw [hc2 _ _ (by simp)]; simp [go_sem]
  have y6 : w2.cell? ⟨w1.heap.size, 6, none⟩ = some (q1) := by rw [hc2 _ _ (by simp)]; simp [go_sem]
  have y7 : w2.cell? ⟨w1.heap.size, 7, none⟩ = some (p2) := by rw [hc2 _ _ (by simp)]; simp [go_sem]
  have y8 : w2.cell? ⟨w1.heap.size, 8, none⟩ = some (.nilFunc) := by rw [hc2 _ _ (by simp)]; simp [go_sem]
  have y9 : w2.cell? ⟨w1.heap.size, 9, none⟩ = some (q2) := by rw [hc2 _ _ (by simp)]; simp [go_sem]
  have y10 : w2.cell? ⟨w1.heap.size, 10, none⟩ = some (p3) := by rw [hc2 _ _ (by simp)]; simp [go_sem]
  have y11 : w2.cell? ⟨w1.heap.size, 11, none⟩ = some (.func (.func m3) #[] #[]) := by rw [hc2 _ _ (by simp)]; simp [go_sem]
  have y12 : w2.cell? ⟨w1.heap.size, 12, none⟩ = some (q3) := by rw [hc2 _ _ (by simp)]; simp [go_sem]
  have m0' : w.heap.size < w2.heap.size := by omega
  have hB2 : Below w.heap.size w w2 := (hB1.alloc (by omega) _).trans (hb2.mono (by simp <;> omega))
  clear hc2 hb2 l0 c0 c1 c2 c3 c4 c5
  have l0 := m0'
  clear m0'
  go_wp2_with fail
  refine wp_loop_rounds 5 ?_
  rw [rounds_succ]
  have hT2 := hT.below ((Below.refl _ _).alloc (Nat.le_refl _) (.cells #[p0, .func (.func m0) #[] #[], q0] 75))
  go_wp2_with (refine wpList_store_row rfl 75 (.tmp 7) (.tmp 27) rfl _ _ rfl rfl 75 _ (heap_new (by simp)) (by kernel_rfl) (by kernel_rfl) (by simp [oc_func, o0, g0]) ?_; rw [setRow_new (by simp)])
  refine (k0 _ hT2).mono ?_
  rintro e w3 ⟨rfl, hb3⟩
  have hT' := hT2.below hb3
  clear hT2
  obtain ⟨hc3, _⟩ := bcell hb3
  have hz3 := hb3.size
  simp at hz3
  have e0 : w3.cell? ⟨w.heap.size, 0, none⟩ = some (.int .i64 k) := by rw [hc3 _ _ (by simp <;> omega)]; simp [go_sem, d0, l0]
  have e1 : w3.cell? ⟨w.heap.size, 1, none⟩ = some (.int .i64 r) := by rw [hc3 _ _ (by simp <;> omega)]; simp [go_sem, d1, l0]
  have e2 : w3.cell? ⟨w.heap.size, 2, none⟩ = some (.int .i64 s) := by rw [hc3 _ _ (by simp <;> omega)]; simp [go_sem, d2, l0]
  have e3 : w3.cell? ⟨w.heap.size, 3, none⟩ = some (.int .i64 t) := by rw [hc3 _ _ (by simp <;> omega)]; simp [go_sem, d3, l0]
  have e4 : w3.cell? ⟨w.heap.size, 4, none⟩ = some (.int .i64 a) := by rw [hc3 _ _ (by simp <;> omega)]; simp [go_sem, d4, l0]
  have e5 : w3.cell? ⟨w.heap.size, 5, none⟩ = some (.int .i64 b) := by rw [hc3 _ _ (by simp <;> omega)]; simp [go_sem, d5, l0]
  have m0' : w.heap.size < w3.heap.size := by omega
  have hB3 : Below w.heap.size w w3 := (hB2.alloc (by omega) _).trans (hb3.mono (by simp <;> omega))
  clear hc3 hb3
  clear d0 d1 d2 d3 d4 d5 l0 hT
  have d0 := e0
  have d1 := e1
  have d2 := e2
  have d3 := e3
  have d4 := e4
  have d5 := e5
  have l0 := m0'
  have hT := hT'
  clear m0' hT' e0 e1 e2 e3 e4 e5
  have s1 : ¬ 9223372036854775807 < 1 + X0.length := by omega
  have s2 : ¬ 9223372036854775807 < wd.length + (1 + X0.length) := by omega
  go_wp2_with fail
  rw [cat1]
  obtain ⟨tx0, htx0⟩ : ∃ x, x = wd ++ 32 :: X0 := ⟨_, rfl⟩
  rw [← htx0]
  have lx0 : tx0.length ≤ wd.length + 21 := by rw [htx0]; simp; omega
  have hx0 : Hid (tx0 = wd ++ 32 :: X0) := htx0
  clear s1 s2 htx0
  rw [rounds_succ]
  go_wp2_with (refine wpList_store_row rfl 75 (.tmp 7) (.tmp 27) rfl _ _ rfl rfl 75 _ (heap_new (by simp)) (by kernel_rfl) (by kernel_rfl) (by simp [oc_nil, o1, g1]) ?_; rw [setRow_new (by simp)])
  obtain ⟨w4, hw4⟩ : ∃ x, x = w3.alloc (.cells #[p1, .nilFunc, q1] 75) := ⟨_, rfl⟩
  rw [← hw4]
  have hz4 : w3.heap.size < w4.heap.size := by rw [hw4]; simp
  have e0 : w4.cell? ⟨w.heap.size, 0, none⟩ = some (.int .i64 k) := by rw [hw4]; simp [go_sem, d0, l0]
  have e1 : w4.cell? ⟨w.heap.size, 1, none⟩ = some (.int .i64 r) := by rw [hw4]; simp [go_sem, d1, l0]
  have e2 : w4.cell? ⟨w.heap.size, 2, none⟩ = some (.int .i64 s) := by rw [hw4]; simp [go_sem, d2, l0]
  have e3 : w4.cell? ⟨w.heap.size, 3, none⟩ = some (.int .i64 t) := by rw [hw4]; simp [go_sem, d3, l0]
  have e4 : w4.cell? ⟨w.heap.size, 4, none⟩ = some (.int .i64 a) := by rw [hw4]; simp [go_sem, d4, l0]
  have e5 : w4.cell? ⟨w.heap.size, 5, none⟩ = some (.int .i64 b) := by rw [hw4]; simp [go_sem, d5, l0]
  have m0' : w.heap.size < w4.heap.size := by omega
  have hb4 : Below w3.heap.size w3 w4 := by rw [hw4]; exact (Below.refl _ _).alloc (Nat.le_refl _) _
  have hB4 : Below w.heap.size w w4 := hB3.trans (hb4.mono (by omega))
  have hT' := hT.below hb4
  clear hw4 hb4
  clear d0 d1 d2 d3 d4 d5 l0 hT
  have d0 := e0
  have d1 := e1
  have d2 := e2
  have d3 := e3
  have d4 := e4
  have d5 := e5
  have l0 := m0'
  have hT := hT'
  clear m0' hT' e0 e1 e2 e3 e4 e5
  rw [rounds_succ]
  go_wp2_with (refine wpList_store_row rfl 75 (.tmp 7) (.tmp 27) rfl _ _ rfl rfl 75 _ (heap_new (by simp)) (by kernel_rfl) (by kernel_rfl) (by simp [oc_nil, o2, g2]) ?_; rw [setRow_new (by simp)])
  obtain ⟨w5, hw5⟩ : ∃ x, x = w4.alloc (.cells #[p2, .nilFunc, q2] 75) := ⟨_, rfl⟩
  rw [← hw5]
  have hz5 : w4.heap.size < w5.heap.size := by rw [hw5]; simp
  have e0 : w5.cell? ⟨w.heap.size, 0, none⟩ = some (.int .i64 k) := by rw [hw5]; simp [go_sem, d0, l0]
  have e1 : w5.cell? ⟨w.heap.size, 1, none⟩ = some (.int .i64 r) := by rw [hw5]; simp [go_sem, d1, l0]
  have e2 : w5.cell? ⟨w.heap.size, 2, none⟩ = some (.int .i64 s) := by rw [hw5]; simp [go_sem, d2, l0]
  have e3 : w5.cell? ⟨w.heap.size, 3, none⟩ = some (.int .i64 t) := by rw [hw5]; simp [go_sem, d3, l0]
  have e4 : w5.cell? ⟨w.heap.size, 4, none⟩ = some (.int .i64 a) := by rw [hw5]; simp [go_sem, d4, l0]
  have e5 : w5.cell? ⟨w.heap.size, 5, none⟩ = some (.int .i64 b) := by rw [hw5]; simp [go_sem, d5, l0]
  have m0' : w.heap.size < w5.heap.size := by omega
  have hb5 : Below w4.heap.size w4 w5 := by rw [hw5]; exact (Below.refl _ _).alloc (Nat.le_refl _) _
  have hB5 : Below w.heap.size w w5 := hB4.trans (hb5.mono (by omega))
  have hT' := hT.below hb5
  clear hw5 hb5
  clear d0 d1 d2 d3 d4 d5 l0 hT
  have d0 := e0
  have d1 := e1
  have d2 := e2
  have d3 := e3
  have d4 := e4
  have d5 := e5
  have l0 := m0'
  have hT := hT'
  clear m0' hT' e0 e1 e2 e3 e4 e5
  rw [rounds_succ]
  have hT2 := hT.below ((Below.refl _ _).alloc (Nat.le_refl _) (.cells #[p3, .func (.func m3) #[] #[], q3] 75))
  go_wp2_with (refine wpList_store_row rfl 75 (.tmp 7) (.tmp 27) rfl _ _ rfl rfl 75 _ (heap_new (by simp)) (by kernel_rfl) (by kernel_rfl) (by simp [oc_func, o3, g3]) ?_; rw [setRow_new (by simp)])
  refine (k3 _ hT2).mono ?_
  rintro e w6 ⟨rfl, hb6⟩
  have hT' := hT2.below hb6
  clear hT2
  obtain ⟨hc6, _⟩ := bcell hb6
  have hz6 := hb6.size
  simp at hz6
  have e0 : w6.cell? ⟨w.heap.size, 0, none⟩ = some (.int .i64 k) := by rw [hc6 _ _ (by simp <;> omega)]; simp [go_sem, d0, l0]
  have e1 : w6.cell? ⟨w.heap.size, 1, none⟩ = some (.int .i64 r) := by rw [hc6 _ _ (by simp <;> omega)]; simp [go_sem, d1, l0]
  have e2 : w6.cell? ⟨w.heap.size, 2, none⟩ = some (.int .i64 s) := by rw [hc6 _ _ (by simp <;> omega)]; simp [go_sem, d2, l0]
  have e3 : w6.cell? ⟨w.heap.size, 3, none⟩ = some (.int .i64 t) := by rw [hc6 _ _ (by simp <;> omega)]; simp [go_sem, d3, l0]
  have e4 : w6.cell? ⟨w.heap.size, 4, none⟩ = some (.int .i64 a) := by rw [hc6 _ _ (by simp <;> omega)]; simp [go_sem, d4, l0]
  have e5 : w6.cell? ⟨w.heap.size, 5, none⟩ = some (.int .i64 b) := by rw [hc6 _ _ (by simp <;> omega)]; simp [go_sem, d5, l0]
  have m0' : w.heap.size < w6.heap.size := by omega
  have hB6 : Below w.heap.size w w6 := (hB5.alloc (by omega) _).trans (hb6.mono (by simp <;> omega))
  clear hc6 hb6
  clear d0 d1 d2 d3 d4 d5 l0 hT
  have d0 := e0
  have d1 := e1
  have d2 := e2
  have d3 := e3
  have d4 := e4
  have d5 := e5
  have l0 := m0'
  have hT := hT'
  clear m0' hT' e0 e1 e2 e3 e4 e5
  have s1 : ¬ 9223372036854775807 < 1 + X3.length := by omega
  have s2 : ¬ 9223372036854775807 < tx0.length + (1 + X3.length) := by omega
  go_wp2_with fail
  rw [cat1]
  obtain ⟨tx3, htx3⟩ : ∃ x, x = tx0 ++ 32 :: X3 := ⟨_, rfl⟩
  rw [← htx3]
  have lx3 : tx3.length ≤ tx0.length + 21 := by rw [htx3]; simp; omega
  have hx3 : Hid (tx3 = tx0 ++ 32 :: X3) := htx3
  clear s1 s2 htx3
  rw [rounds_succ]
  go_wp2_with fail
  go_ret
  exact ⟨congrArg (fun x => Ending.returned (.string ⟨List.toArray x⟩)) (by rw [hx3.out, hx0.out]), hB6⟩
set_option maxRecDepth 20000 in
set_option maxHeartbeats 4000000 in
theorem implText_1100 {k r s t a b : Int} {wd : List UInt8} {p0 q0 p1 q1 p2 q2 p3 q3 : Value} {m0 m1 : Nat} {X0 X1 : List UInt8}
    (o0 : p0.oneCell' = true) (g0 : q0.oneCell' = true) (o1 : p1.oneCell' = true) (g1 : q1.oneCell' = true) (o2 : p2.oneCell' = true) (g2 : q2.oneCell' = true) (o3 : p3.oneCell' = true) (g3 : q3.oneCell' = true) (lw : wd.length ≤ 20) (hk : opB k r s t a b = true)
    (hF : ∀ w, Calls Tryz.prog 47 #[.int .i64 k] w fun e w' => (∃ u, e = .returned (.tuple #[.agg #[.string ⟨wd.toArray⟩, p0, .func (.func m0) #[] #[], q0, p1, .func (.func m1) #[] #[], q1, p2, .nilFunc, q2, p3, .nilFunc, q3, u], .bool true]) ∧ u.oneCell' = true) ∧ Below w.heap.size w w')
    (b0 : X0.length ≤ 20) (n0 : ∀ args w, (callFunc m0 args).run Tryz.prog w = .ok (.enter m0 args) w) (k0 : ∀ w, Tab w → Calls Tryz.prog m0 #[.agg #[.int .i64 k, .int .i64 r, .int .i64 s, .int .i64 t, .int .i64 a, .int .i64 b]] w fun e w' => e = .returned (.string ⟨X0.toArray⟩) ∧ Below w.heap.size w w')
    (b1 : X1.length ≤ 20) (n1 : ∀ args w, (callFunc m1 args).run Tryz.prog w = .ok (.enter m1 args) w) (k1 : ∀ w, Tab w → Calls Tryz.prog m1 #[.agg #[.int .i64 k, .int .i64 r, .int .i64 s, .int .i64 t, .int .i64 a, .int .i64 b]] w fun e w' => e = .returned (.string ⟨X1.toArray⟩) ∧ Below w.heap.size w w')
    (w : World) (hT : Tab w) :
    Calls Tryz.prog 26 #[.agg #[.int .i64 k, .int .i64 r, .int .i64 s, .int .i64 t, .int .i64 a, .int .i64 b]] w fun e w' => e = .returned (.string ⟨(wd ++ 32 :: X0 ++ 32 :: X1).toArray⟩) ∧ Below w.heap.size w w' := by
  have i0 : ∀ w, (Instr.index 76 (.agg #[p0, .func (.func m0) #[] #[], q0, p1, .func (.func m1) #[] #[], q1, p2, .nilFunc, q2, p3, .nilFunc, q3]) (.int .i64 0)).run Tryz.prog w = .ok (.agg #[p0, .func (.func m0) #[] #[], q0]) w := fun _ => by kernel_rfl
  have i1 : ∀ w, (Instr.index 76 (.agg #[p0, .func (.func m0) #[] #[], q0, p1, .func (.func m1) #[] #[], q1, p2, .nilFunc, q2, p3, .nilFunc, q3]) (.int .i64 1)).run Tryz.prog w = .ok (.agg #[p1, .func (.func m1) #[] #[], q1]) w := fun _ => by kernel_rfl
  have i2 : ∀ w, (Instr.index 76 (.agg #[p0, .func (.func m0) #[] #[], q0, p1, .func (.func m1) #[] #[], q1, p2, .nilFunc, q2, p3, .nilFunc, q3]) (.int .i64 2)).run Tryz.prog w = .ok (.agg #[p2, .nilFunc, q2]) w := fun _ => by kernel_rfl
  have i3 : ∀ w, (Instr.index 76 (.agg #[p0, .func (.func m0) #[] #[], q0, p1, .func (.func m1) #[] #[], q1, p2, .nilFunc, q2, p3, .nilFunc, q3]) (.int .i64 3)).run Tryz.prog w = .ok (.agg #[p3, .nilFunc, q3]) w := fun _ => by kernel_rfl
  have nq0 : ∀ w, (binOp .neq 44 (.func (.func m0) #[] #[]) .nilFunc).run Tryz.prog w = .ok (.bool true) w := fun _ => by kernel_rfl
  have nq1 : ∀ w, (binOp .neq 44 (.func (.func m1) #[] #[]) .nilFunc).run Tryz.prog w = .ok (.bool true) w := fun _ => by kernel_rfl
  have nq : ∀ w, (binOp .neq 44 .nilFunc .nilFunc).run Tryz.prog w = .ok (.bool false) w := fun _ => by kernel_rfl
  go_enter Tryz.func26, Tryz.ntmps26
  go_wp2_with fail
  refine (hF _).mono ?_
  rintro e w1 ⟨⟨u, rfl, hu⟩, hb1⟩
  replace hT := (hT.below ((Below.refl _ _).alloc (Nat.le_refl _) (.cells #[.int .i64 k, .int .i64 r, .int .i64 s, .int .i64 t, .int .i64 a, .int .i64 b] 43))).below hb1
  obtain ⟨hc1, _⟩ := bcell hb1
  have hz1 := hb1.size
  simp at hz1
  have c0 : w1.cell? ⟨w.heap.size, 0, none⟩ = some (.int .i64 k) := by rw [hc1 _ _ (by simp)]; simp [go_sem]
  have c1 : w1.cell? ⟨w.heap.size, 1, none⟩ = some (.int .i64 r) := by rw [hc1 _ _ (by simp)]; simp [go_sem]
  have c2 : w1.cell? ⟨w.heap.size, 2, none⟩ = some (.int .i64 s) := by rw [hc1 _ _ (by simp)]; simp [go_sem]
  have c3 : w1.cell? ⟨w.heap.size, 3, none⟩ = some (.int .i64 t) := by rw [hc1 _ _ (by simp)]; simp [go_sem]
  have c4 : w1.cell? ⟨w.heap.size, 4, none⟩ = some (.int .i64 a) := by rw [hc1 _ _ (by simp)]; simp [go_sem]
  have c5 : w1.cell? ⟨w.heap.size, 5, none⟩ = some (.int .i64 b) := by rw [hc1 _ _ (by simp)]; simp [go_sem]
  have l0 : w.heap.size < w1.heap.size := by omega
  have hB1 : Below w.heap.size w w1 := ((Below.refl _ _).alloc (Nat.le_refl _) _).trans (hb1.mono (by simp))
  clear hc1 hb1
  go_wp2_with (refine wpList_store_row rfl 79 (.tmp 3) (.tmp 12) rfl _ _ rfl rfl 79 _ (heap_new (by simp)) (by kernel_rfl) (by kernel_rfl) (by simp [oc_func, oc_str, oc_nil, o0, g0, o1, g1, o2, g2, o3, g3, hu]) ?_; rw [setRow_new (by simp)])
  refine (implOpOk_any _ _ _ _ _ _ _).mono ?_
  rintro e w2 ⟨rfl, hb2⟩
  rw [hk]
  replace hT := (hT.below ((Below.refl _ _).alloc (Nat.le_refl _) (.cells #[.string ⟨wd.toArray⟩, p0, .func (.func m0) #[] #[], q0, p1, .func (.func m1) #[] #[], q1, p2, .nilFunc, q2, p3, .nilFunc, q3, u] 79))).below hb2
  obtain ⟨hc2, _⟩ := bcell hb2
  have hz2 := hb2.size
  simp at hz2
  have d0 : w2.cell? ⟨w.heap.size, 0, none⟩ = some (.int .i64 k) := by rw [hc2 _ _ (by simp <;> omega)]; simp [go_sem, c0, l0]
  have d1 : w2.cell? ⟨w.heap.size, 1, none⟩ = some (.int .i64 r) := by rw [hc2 _ _ (by simp <;> omega)]; simp [go_sem, c1, l0]
  have d2 : w2.cell? ⟨w.heap.size, 2, none⟩ = some (.int .i64 s) := by rw [hc2 _ _ (by simp <;> omega)]; simp [go_sem, c2, l0]
  have d3 : w2.cell? ⟨w.heap.size, 3, none⟩ = some (.int .i64 t) := by rw [hc2 _ _ (by simp <;> omega)]; simp [go_sem, c3, l0]
  have d4 : w2.cell? ⟨w.heap.size, 4, none⟩ = some (.int .i64 a) := by rw [hc2 _ _ (by simp <;> omega)]; simp [go_sem, c4, l0]
  have d5 : w2.cell? ⟨w.heap.size, 5, none⟩ = some (.int .i64 b) := by rw [hc2 _ _ (by simp <;> omega)]; simp [go_sem, c5, l0]
  have y0 : w2.cell? ⟨w1.heap.size, 0, none⟩ = some (.string ⟨wd.toArray⟩) := by rw [hc2 _ _ (by simp)]; simp [go_sem]
  have y1 : w2.cell? ⟨w1.heap.size, 1, none⟩ = some (p0) := by rw [hc2 _ _ (by simp)]; simp [go_sem]
  have y2 : w2.cell? ⟨w1.heap.size, 2, none⟩ = some (.func (.func m0) #[] #[]) := by rw [hc2 _ _ (by simp)]; simp [go_sem]
  have y3 : w2.cell? ⟨w1.heap.size, 3, none⟩ = some (q0) := by rw [hc2 _ _ (by simp)]; simp [go_sem]
  have y4 : w2.cell? ⟨w1.heap.size, 4, none⟩ = some (p1) := by rw [hc2 _ _ (by simp)]; simp [go_sem]
  have y5 : w2.cell? ⟨w1.heap.size, 5, none⟩ = some (.func (.func m1) #[] #[]) := by rw [hc2 _ _ (by simp)]; simp [go_sem]
  have y6 : w2.cell? ⟨w1.heap.size, 6, none⟩ = some (q1) := by rw [hc2 _ _ (by simp)]; simp [go_sem]
  have y7 : w2.cell? ⟨w1.heap.size, 7, none⟩ = some (p2) := by rw [hc2 _ _ (by simp)]; simp [go_sem]
  have y8 : w2.cell? ⟨w1.heap.size, 8, none⟩ = some (.nilFunc) := by rw [hc2 _ _ (by simp)]; simp [go_sem]
  have y9 : w2.cell? ⟨w1.heap.size, 9, none⟩ = some (q2) := by rw [hc2 _ _ (by simp)]; simp [go_sem]
  have y10 : w2.cell? ⟨w1.heap.size, 10, none⟩ = some (p3) := by rw [hc2 _ _ (by simp)]; simp [go_sem]
  have y11 : w2.cell? ⟨w1.heap.size, 11, none⟩ = some (.nilFunc) := by rw [hc2 _ _ (by simp)]; simp [go_sem]
  have y12 : w2.cell? ⟨w1.heap.size, 12, none⟩ = some (q3) := by rw [hc2 _ _ (by simp)]; simp [go_sem]
  have m0' : w.heap.size < w2.heap.size := by omega
  have hB2 : Below w.heap.size w w2 := (hB1.alloc (by omega) _).trans (hb2.mono (by simp <;> omega))
  clear hc2 hb2 l0 c0 c1 c2 c3 c4 c5
  have l0 := m0'
  clear m0'
  go_wp2_with fail
  refine wp_loop_rounds 5 ?_
  rw [rounds_succ]
  have hT2 := hT.below ((Below.refl _ _).alloc (Nat.le_refl _) (.cells #[p0, .func (.func m0) #[] #[], q0] 75))
  go_wp2_with (refine wpList_store_row rfl 75 (.tmp 7) (.tmp 27) rfl _ _ rfl rfl 75 _ (heap_new (by simp)) (by kernel_rfl) (by kernel_rfl) (by simp [oc_func, o0, g0]) ?_; rw [setRow_new (by simp)])
  refine (k0 _ hT2).mono ?_
  rintro e w3 ⟨rfl, hb3⟩
  have hT' := hT2.below hb3
  clear hT2
  obtain ⟨hc3, _⟩ := bcell hb3
  have hz3 := hb3.size
  simp at hz3
  have e0 : w3.cell? ⟨w.heap.size, 0, none⟩ = some (.int .i64 k) := by rw [hc3 _ _ (by simp <;> omega)]; simp [go_sem, d0, l0]
  have e1 : w3.cell? ⟨w.heap.size, 1, none⟩ = some (.int .i64 r) := by rw [hc3 _ _ (by simp <;> omega)]; simp [go_sem, d1, l0]
  have e2 : w3.cell? ⟨w.heap.size, 2, none⟩ = some (.int .i64 s) := by rw [hc3 _ _ (by simp <;> omega)]; simp [go_sem, d2, l0]
  have e3 : w3.cell? ⟨w.heap.size, 3, none⟩ = some (.int .i64 t) := by rw [hc3 _ _ (by simp <;> omega)]; simp [go_sem, d3, l0]
  have e4 : w3.cell? ⟨w.heap.size, 4, none⟩ = some (.int .i64 a) := by rw [hc3 _ _ (by simp <;> omega)]; simp [go_sem, d4, l0]
  have e5 : w3.cell? ⟨w.heap.size, 5, none⟩ = some (.int .i64 b) := by rw [hc3 _ _ (by simp <;> omega)]; simp [go_sem, d5, l0]
  have m0' : w.heap.size < w3.heap.size := by omega
  have hB3 : Below w.heap.size w w3 := (hB2.alloc (by omega) _).trans (hb3.mono (by simp <;> omega))
  clear hc3 hb3
  clear d0 d1 d2 d3 d4 d5 l0 hT
  have d0 := e0
  have d1 := e1
  have d2 := e2
  have d3 := e3
  have d4 := e4
  have d5 := e5
  have l0 := m0'
  have hT := hT'
  clear m0' hT' e0 e1 e2 e3 e4 e5
  have s1 : ¬ 9223372036854775807 < 1 + X0.length := by omega
  have s2 : ¬ 9223372036854775807 < wd.length + (1 + X0.length) := by omega
  go_wp2_with fail
  rw [cat1]
  obtain ⟨tx0, htx0⟩ : ∃ x, x = wd ++ 32 :: X0 := ⟨_, rfl⟩
  rw [← htx0]
  have lx0 : tx0.length ≤ wd.length + 21 := by rw [htx0]; simp; omega
  have hx0 : Hid (tx0 = wd ++ 32 :: X0) := htx0
  clear s1 s2 htx0
  rw [rounds_succ]
  have hT2 := hT.below ((Below.refl _ _).alloc (Nat.le_refl _) (.cells #[p1, .func (.func m1) #[] #[], q1] 75))
  go_wp2_with (refine wpList_store_row rfl 75 (.tmp 7) (.tmp 27) rfl _ _ rfl rfl 75 _ (heap_new (by simp)) (by kernel_rfl) (by kernel_rfl) (by simp [oc_func, o1, g1]) ?_; rw [setRow_new (by simp)])
  refine (k1 _ hT2).mono ?_
  rintro e w4 ⟨rfl, hb4⟩
  have hT' := hT2.below hb4
  clear hT2
  obtain ⟨hc4, _⟩ := bcell hb4
  have hz4 := hb4.size
  simp at hz4
  have e0 : w4.cell? ⟨w.heap.size, 0, none⟩ = some (.int .i64 k) := by rw [hc4 _ _ (by simp <;> omega)]; simp [go_sem, d0, l0]
  have e1 : w4.cell? ⟨w.heap.size, 1, none⟩ = some (.int .i64 r) := by rw [hc4 _ _ (by simp <;> omega)]; simp [go_sem, d1, l0]
  have e2 : w4.cell? ⟨w.heap.size, 2, none⟩ = some (.int .i64 s) := by rw [hc4 _ _ (by simp <;> omega)]; simp [go_sem, d2, l0]
  have e3 : w4.cell? ⟨w.heap.size, 3, none⟩ = some (.int .i64 t) := by rw [hc4 _ _ (by simp <;> omega)]; simp [go_sem, d3, l0]
  have e4 : w4.cell? ⟨w.heap.size, 4, none⟩ = some (.int .i64 a) := by rw [hc4 _ _ (by simp <;> omega)]; simp [go_sem, d4, l0]
  have e5 : w4.cell? ⟨w.heap.size, 5, none⟩ = some (.int .i64 b) := by rw [hc4 _ _ (by simp <;> omega)]; simp [go_sem, d5, l0]
  have m0' : w.heap.size < w4.heap.size := by omega
  have hB4 : Below w.heap.size w w4 := (hB3.alloc (by omega) _).trans (hb4.mono (by simp <;> omega))
  clear hc4 hb4
  clear d0 d1 d2 d3 d4 d5 l0 hT
  have d0 := e0
  have d1 := e1
  have d2 := e2
  have d3 := e3
  have d4 := e4
  have d5 := e5
  have l0 := m0'
  have hT := hT'
  clear m0' hT' e0 e1 e2 e3 e4 e5
  have s1 : ¬ 9223372036854775807 < 1 + X1.length := by omega
  have s2 : ¬ 9223372036854775807 < tx0.length + (1 + X1.length) := by omega
  go_wp2_with fail
  rw [cat1]
  obtain ⟨tx1, htx1⟩ : ∃ x, x = tx0 ++ 32 :: X1 := ⟨_, rfl⟩
  rw [← htx1]
  have lx1 : tx1.length ≤ tx0.length + 21 := by rw [htx1]; simp; omega
  have hx1 : Hid (tx1 = tx0 ++ 32 :: X1) := htx1
  clear s1 s2 htx1
  rw [rounds_succ]
  go_wp2_with (refine wpList_store_row rfl 75 (.tmp 7) (.tmp 27) rfl _ _ rfl rfl 75 _ (heap_new (by simp)) (by kernel_rfl) (by kernel_rfl) (by simp [oc_nil, o2, g2]) ?_; rw [setRow_new (by simp)])
  obtain ⟨w5, hw5⟩ : ∃ x, x = w4.alloc (.cells #[p2, .nilFunc, q2] 75) := ⟨_, rfl⟩
  rw [← hw5]
  have hz5 : w4.heap.size < w5.heap.size := by rw [hw5]; simp
  have e0 : w5.cell? ⟨w.heap.size, 0, none⟩ = some (.int .i64 k) := by rw [hw5]; simp [go_sem, d0, l0]
  have e1 : w5.cell? ⟨w.heap.size, 1, none⟩ = some (.int .i64 r) := by rw [hw5]; simp [go_sem, d1, l0]
  have e2 : w5.cell? ⟨w.heap.size, 2, none⟩ = some (.int .i64 s) := by rw [hw5]; simp [go_sem, d2, l0]
  have e3 : w5.cell? ⟨w.heap.size, 3, none⟩ = some (.int .i64 t) := by rw [hw5]; simp [go_sem, d3, l0]
  have e4 : w5.cell? ⟨w.heap.size, 4, none⟩ = some (.int .i64 a) := by rw [hw5]; simp [go_sem, d4, l0]
  have e5 : w5.cell? ⟨w.heap.size, 5, none⟩ = some (.int .i64 b) := by rw [hw5]; simp [go_sem, d5, l0]
  have m0' : w.heap.size < w5.heap.size := by omega
  have hb5 : Below w4.heap.size w4 w5 := by rw [hw5]; exact (Below.refl _ _).alloc (Nat.le_refl _) _
  have hB5 : Below w.heap.size w w5 := hB4.trans (hb5.mono (by omega))
  have hT' := hT.below hb5
  clear hw5 hb5
  clear d0 d1 d2 d3 d4 d5 l0 hT
  have d0 := e0
  have d1 := e1
  have d2 := e2
  have d3 := e3
  have d4 := e4
  have d5 := e5
  have l0 := m0'
  have hT := hT'
  clear m0' hT' e0 e1 e2 e3 e4 e5
  rw [rounds_succ]
  go_wp2_with (refine wpList_store_row rfl 75 (.tmp 7) (.tmp 27) rfl _ _ rfl rfl 75 _ (heap_new (by simp)) (by kernel_rfl) (by kernel_rfl) (by simp [oc_nil, o3, g3]) ?_; rw [setRow_new (by simp)])
  obtain ⟨w6, hw6⟩ : ∃ x, x = w5.alloc (.cells #[p3, .nilFunc, q3] 75) := ⟨_, rfl⟩
  rw [← hw6]
  have hz6 : w5.heap.size < w6.heap.size := by rw [hw6]; simp
  have e0 : w6.cell? ⟨w.heap.size, 0, none⟩ = some (.int .i64 k) := by rw [hw6]; simp [go_sem, d0, l0]
  have e1 : w6.cell? ⟨w.heap.size, 1, none⟩ = some (.int .i64 r) := by rw [hw6]; simp [go_sem, d1, l0]
  have e2 : w6.cell? ⟨w.heap.size, 2, none⟩ = some (.int .i64 s) := by rw [hw6]; simp [go_sem, d2, l0]
  have e3 : w6.cell? ⟨w.heap.size, 3, none⟩ = some (.int .i64 t) := by rw [hw6]; simp [go_sem, d3, l0]
  have e4 : w6.cell? ⟨w.heap.size, 4, none⟩ = some (.int .i64 a) := by rw [hw6]; simp [go_sem, d4, l0]
  have e5 : w6.cell? ⟨w.heap.size, 5, none⟩ = some (.int .i64 b) := by rw [hw6]; simp [go_sem, d5, l0]
  have m0' : w.heap.size < w6.heap.size := by omega
  have hb6 : Below w5.heap.size w5 w6 := by rw [hw6]; exact (Below.refl _ _).alloc (Nat.le_refl _) _
  have hB6 : Below w.heap.size w w6 := hB5.trans (hb6.mono (by omega))
  have hT' := hT.below hb6
  clear hw6 hb6
  clear d0 d1 d2 d3 d4 d5 l0 hT
  have d0 := e0
  have d1 := e1
  have d2 := e2
  have d3 := e3
  have d4 := e4
  have d5 := e5
  have l0 := m0'
  have hT := hT'
  clear m0' hT' e0 e1 e2 e3 e4 e5
  rw [rounds_succ]
  go_wp2_with fail
  go_ret
  exact ⟨congrArg (fun x => Ending.returned (.string ⟨List.toArray x⟩)) (by rw [hx1.out, hx0.out]), hB6⟩
set_option maxRecDepth 20000 in
set_option maxHeartbeats 4000000 in
theorem implText_1000 {k r s t a b : Int} {wd : List UInt8} {p0 q0 p1 q1 p2 q2 p3 q3 : Value} {m0 : Nat} {X0 : List UInt8}
    (o0 : p0.oneCell' = true) (g0 : q0.oneCell' = true) (o1 : p1.oneCell' = true) (g1 : q1.oneCell' = true) (o2 : p2.oneCell' = true) (g2 : q2.oneCell' = true) (o3 : p3.oneCell' = true) (g3 : q3.oneCell' = true) (lw : wd.length ≤ 20) (hk : opB k r s t a b = true)
    (hF : ∀ w, Calls Tryz.prog 47 #[.int .i64 k] w fun e w' => (∃ u, e = .returned (.tuple #[.agg #[.string ⟨wd.toArray⟩, p0, .func (.func m0) #[] #[], q0, p1, .nilFunc, q1, p2, .nilFunc, q2, p3, .nilFunc, q3, u], .bool true]) ∧ u.oneCell' = true) ∧ Below w.heap.size w w')
    (b0 : X0.length ≤ 20) (n0 : ∀ args w, (callFunc m0 args).run Tryz.prog w = .ok (.enter m0 args) w) (k0 : ∀ w, Tab w → Calls Tryz.prog m0 #[.agg #[.int .i64 k, .int .i64 r, .int .i64 s, .int .i64 t, .int .i64 a, .int .i64 b]] w fun e w' => e = .returned (.string ⟨X0.toArray⟩) ∧ Below w.heap.size w w')
    (w : World) (hT : Tab w) :
    Calls Tryz.prog 26 #[.agg #[.int .i64 k, .int .i64 r, .int .i64 s, .int .i64 t, .int .i64 a, .int .i64 b]] w fun e w' => e = .returned (.string ⟨(wd ++ 32 :: X0).toArray⟩) ∧ Below w.heap.size w w' := by
  have i0 : ∀ w, (Instr.index 76 (.agg #[p0, .func (.func m0) #[] #[], q0, p1, .nilFunc, q1, p2, .nilFunc, q2, p3, .nilFunc, q3]) (.int .i64 0)).run Tryz.prog w = .ok (.agg #[p0, .func (.func m0) #[] #[], q0]) w := fun _ => by kernel_rfl
  have i1 : ∀ w, (Instr.index 76 (.agg #[p0, .func (.func m0) #[] #[], q0, p1, .nilFunc, q1, p2, .nilFunc, q2, p3, .nilFunc, q3]) (.int .i64 1)).run Tryz.prog w = .ok (.agg #[p1, .nilFunc, q1]) w := fun _ => by kernel_rfl
  have i2 : ∀ w, (Instr.index 76 (.agg #[p0, .func (.func m0) #[] #[], q0, p1, .nilFunc, q1, p2, .nilFunc, q2, p3, .nilFunc, q3]) (.int .i64 2)).run Tryz.prog w = .ok (.agg #[p2, .nilFunc, q2]) w := fun _ => by kernel_rfl
  have i3 : ∀ w, (Instr.index 76 (.agg #[p0, .func (.func m0) #[] #[], q0, p1, .nilFunc, q1, p2, .nilFunc, q2, p3, .nilFunc, q3]) (.int .i64 3)).run Tryz.prog w = .ok (.agg #[p3, .nilFunc, q3]) w := fun _ => by kernel_rfl
  have nq0 : ∀ w, (binOp .neq 44 (.func (.func m0) #[] #[]) .nilFunc).run Tryz.prog w = .ok (.bool true) w := fun _ => by kernel_rfl
  have nq : ∀ w, (binOp .neq 44 .nilFunc .nilFunc).run Tryz.prog w = .ok (.bool false) w := fun _ => by kernel_rfl
  go_enter Tryz.func26, Tryz.ntmps26
  go_wp2_with fail
  refine (hF _).mono ?_
  rintro e w1 ⟨⟨u, rfl, hu⟩, hb1⟩
  replace hT := (hT.below ((Below.refl _ _).alloc (Nat.le_refl _) (.cells #[.int .i64 k, .int .i64 r, .int .i64 s, .int .i64 t, .int .i64 a, .int .i64 b] 43))).below hb1
  obtain ⟨hc1, _⟩ := bcell hb1
  have hz1 := hb1.size
  simp at hz1
  have c0 : w1.cell? ⟨w.heap.size, 0, none⟩ = some (.int .i64 k) := by rw [hc1 _ _ (by simp)]; simp [go_sem]
  have c1 : w1.cell? ⟨w.heap.size, 1, none⟩ = some (.int .i64 r) := by rw [hc1 _ _ (by simp)]; simp [go_sem]
  have c2 : w1.cell? ⟨w.heap.size, 2, none⟩ = some (.int .i64 s) := by rw [hc1 _ _ (by simp)]; simp [go_sem]
  have c3 : w1.cell? ⟨w.heap.size, 3, none⟩ = some (.int .i64 t) := by rw [hc1 _ _ (by simp)]; simp [go_sem]
  have c4 : w1.cell? ⟨w.heap.size, 4, none⟩ = some (.int .i64 a) := by rw [hc1 _ _ (by simp)]; simp [go_sem]
  have c5 : w1.cell? ⟨w.heap.size, 5, none⟩ = some (.int .i64 b) := by rw [hc1 _ _ (by simp)]; simp [go_sem]
  have l0 : w.heap.size < w1.heap.size := by omega
  have hB1 : Below w.heap.size w w1 := ((Below.refl _ _).alloc (Nat.le_refl _) _).trans (hb1.mono (by simp))
  clear hc1 hb1
  go_wp2_with (refine wpList_store_row rfl 79 (.tmp 3) (.tmp 12) rfl _ _ rfl rfl 79 _ (heap_new (by simp)) (by kernel_rfl) (by kernel_rfl) (by simp [oc_func, oc_str, oc_nil, o0, g0, o1, g1, o2, g2, o3, g3, hu]) ?_; rw [setRow_new (by simp)])
  refine (implOpOk_any _ _ _ _ _ _ _).mono ?_
  rintro e w2 ⟨rfl, hb2⟩
  rw [hk]
  replace hT := (hT.below ((Below.refl _ _).alloc (Nat.le_refl _) (.cells #[.string ⟨wd.toArray⟩, p0, .func (.func m0) #[] #[], q0, p1, .nilFunc, q1, p2, .nilFunc, q2, p3, .nilFunc, q3, u] 79))).below hb2
  obtain ⟨hc2, _⟩ := bcell hb2
  have hz2 := hb2.size
  simp at hz2
  have d0 : w2.cell? ⟨w.heap.size, 0, none⟩ = some (.int .i64 k) := by rw [hc2 _ _ (by simp <;> omega)]; simp [go_sem, c0, l0]
  have d1 : w2.cell? ⟨w.heap.size, 1, none⟩ = some (.int .i64 r) := by rw [hc2 _ _ (by simp <;> omega)]; simp [go_sem, c1, l0]
  have d2 : w2.cell? ⟨w.heap.size, 2, none⟩ = some (.int .i64 s) := by rw [hc2 _ _ (by simp <;> omega)]; simp [go_sem, c2, l0]
  have d3 : w2.cell? ⟨w.heap.size, 3, none⟩ = some (.int .i64 t) := by rw [hc2 _ _ (by simp <;> omega)]; simp [go_sem, c3, l0]
  have d4 : w2.cell? ⟨w.heap.size, 4, none⟩ = some (.int .i64 a) := by rw [hc2 _ _ (by simp <;> omega)]; simp [go_sem, c4, l0]
  have d5 : w2.cell? ⟨w.heap.size, 5, none⟩ = some (.int .i64 b) := by rw [hc2 _ _ (by simp <;> omega)]; simp [go_sem, c5, l0]
  have y0 : w2.cell? ⟨w1.heap.size, 0, none⟩ = some (.string ⟨wd.toArray⟩) := by rw [hc2 _ _ (by simp)]; simp [go_sem]
  have y1 : w2.cell? ⟨w1.heap.size, 1, none⟩ = some (p0) := by rw [hc2 _ _ (by simp)]; simp [go_sem]
  have y2 : w2.cell? ⟨w1.heap.size, 2, none⟩ = some (.func (.func m0) #[] #[]) := by rw [hc2 _ _ (by simp)]; simp [go_sem]
  have y3 : w2.cell? ⟨w1.heap.size, 3, none⟩ = some (q0) := by rw [hc2 _ _ (by simp)]; simp [go_sem]
  have y4 : w2.cell? ⟨w1.heap.size, 4, none⟩ = some (p1) := by rw [hc2 _ _ (by simp)]; simp [go_sem]
  have y5 : w2.cell? ⟨w1.heap.size, 5, none⟩ = some (.nilFunc) := by rw [hc2 _ _ (by simp)]; simp [go_sem]
  have y6 : w2.cell? ⟨w1.heap.size, 6, none⟩ = some (q1) := by rw [hc2 _ _ (by simp)]; simp [go_sem]
  have y7 : w2.cell? ⟨w1.heap.size, 7, none⟩ = some (p2) := by rw [hc2 _ _ (by simp)]; simp [go_sem]
  have y8 : w2.cell? ⟨w1.heap.size, 8, none⟩ = some (.nilFunc) := by rw [hc2 _ _ (by simp)]; simp [go_sem]
  have y9 : w2.cell? ⟨w1.heap.size, 9, none⟩ = some (q2) := by rw [hc2 _ _ (by simp)]; simp [go_sem]
  have y10 : w2.cell? ⟨w1.heap.size, 10, none⟩ = some (p3) := by rw [hc2 _ _ (by simp)]; simp [go_sem]
  have y11 : w2.cell? ⟨w1.heap.size, 11, none⟩ = some (.nilFunc) := by rw [hc2 _ _ (by simp)]; simp [go_sem]
  have y12 : w2.cell? ⟨w1.heap.size, 12, none⟩ = some (q3) := by rw [hc2 _ _ (by simp)]; simp [go_sem]
  have m0' : w.heap.size < w2.heap.size := by omega
  have hB2 : Below w.heap.size w w2 := (hB1.alloc (by omega) _).trans (hb2.mono (by simp <;> omega))
  clear hc2 hb2 l0 c0 c1 c2 c3 c4 c5
  have l0 := m0'
  clear m0'
  go_wp2_with fail
  refine wp_loop_rounds 5 ?_
  rw [rounds_succ]
  have hT2 := hT.below ((Below.refl _ _).alloc (Nat.le_refl _) (.cells #[p0, .func (.func m0) #[] #[], q0] 75))
  go_wp2_with (refine wpList_store_row rfl 75 (.tmp 7) (.tmp 27) rfl _ _ rfl rfl 75 _ (heap_new (by simp)) (by kernel_rfl) (by kernel_rfl) (by simp [oc_func, o0, g0]) ?_; rw [setRow_new (by simp)])
  refine (k0 _ hT2).mono ?_
  rintro e w3 ⟨rfl, hb3⟩
  have hT' := hT2.below hb3
  clear hT2
  obtain ⟨hc3, _⟩ := bcell hb3
  have hz3 := hb3.size
  simp at hz3
  have e0 : w3.cell? ⟨w.heap.size, 0, none⟩ = some (.int .i64 k) := by rw [hc3 _ _ (by simp <;> omega)]; simp [go_sem, d0, l0]
  have e1 : w3.cell? ⟨w.heap.size, 1, none⟩ = some (.int .i64 r) := by rw [hc3 _ _ (by simp <;> omega)]; simp [go_sem, d1, l0]
  have e2 : w3.cell? ⟨w.heap.size, 2, none⟩ = some (.int .i64 s) := by rw [hc3 _ _ (by simp <;> omega)]; simp [go_sem, d2, l0]
  have e3 : w3.cell? ⟨w.heap.size, 3, none⟩ = some (.int .i64 t) := by rw [hc3 _ _ (by simp <;> omega)]; simp [go_sem, d3, l0]
  have e4 : w3.cell? ⟨w.heap.size, 4, none⟩ = some (.int .i64 a) := by rw [hc3 _ _ (by simp <;> omega)]; simp [go_sem, d4, l0]
  have e5 : w3.cell? ⟨w.heap.size, 5, none⟩ = some (.int .i64 b) := by rw [hc3 _ _ (by simp <;> omega)]; simp [go_sem, d5, l0]
  have m0' : w.heap.size < w3.heap.size := by omega
  have hB3 : Below w.heap.size w w3 := (hB2.alloc (by omega) _).trans (hb3.mono (by simp <;> omega))
  clear hc3 hb3
  clear d0 d1 d2 d3 d4 d5 l0 hT
  have d0 := e0
  have d1 := e1
  have d2 := e2
  have d3 := e3
  have d4 := e4
  have d5 := e5
  have l0 := m0'
  have hT := hT'
  clear m0' hT' e0 e1 e2 e3 e4 e5
  have s1 : ¬ 9223372036854775807 < 1 + X0.length := by omega
  have s2 : ¬ 9223372036854775807 < wd.length + (1 + X0.length) := by omega
  go_wp2_with fail
  rw [cat1]
  obtain ⟨tx0, htx0⟩ : ∃ x, x = wd ++ 32 :: X0 := ⟨_, rfl⟩
  rw [← htx0]
  have lx0 : tx0.length ≤ wd.length + 21 := by rw [htx0]; simp; omega
  have hx0 : Hid (tx0 = wd ++ 32 :: X0) := htx0
  clear s1 s2 htx0
  rw [rounds_succ]
  go_wp2_with (refine wpList_store_row rfl 75 (.tmp 7) (.tmp 27) rfl _ _ rfl rfl 75 _ (heap_new (by simp)) (by kernel_rfl) (by kernel_rfl) (by simp [oc_nil, o1, g1]) ?_; rw [setRow_new (by simp)])
  obtain ⟨w4, hw4⟩ : ∃ x, x = w3.alloc (.cells #[p1, .nilFunc, q1] 75) := ⟨_, rfl⟩
  rw [← hw4]
  have hz4 : w3.heap.size < w4.heap.size := by rw [hw4]; simp
  have e0 : w4.cell? ⟨w.heap.size, 0, none⟩ = some (.int .i64 k) := by rw [hw4]; simp [go_sem, d0, l0]
  have e1 : w4.cell? ⟨w.heap.size, 1, none⟩ = some (.int .i64 r) := by rw [hw4]; simp [go_sem, d1, l0]
  have e2 : w4.cell? ⟨w.heap.size, 2, none⟩ = some (.int .i64 s) := by rw [hw4]; simp [go_sem, d2, l0]
  have e3 : w4.cell? ⟨w.heap.size, 3, none⟩ = some (.int .i64 t) := by rw [hw4]; simp [go_sem, d3, l0]
  have e4 : w4.cell? ⟨w.heap.size, 4, none⟩ = some (.int .i64 a) := by rw [hw4]; simp [go_sem, d4, l0]
  have e5 : w4.cell? ⟨w.heap.size, 5, none⟩ = some (.int .i64 b) := by rw [hw4]; simp [go_sem, d5, l0]
  have m0' : w.heap.size < w4.heap.size := by omega
  have hb4 : Below w3.heap.size w3 w4 := by rw [hw4]; exact (Below.refl _ _).alloc (Nat.le_refl _) _
  have hB4 : Below w.heap.size w w4 := hB3.trans (hb4.mono (by omega))
  have hT' := hT.below hb4
  clear hw4 hb4
  clear d0 d1 d2 d3 d4 d5 l0 hT
  have d0 := e0
  have d1 := e1
  have d2 := e2
  have d3 := e3
  have d4 := e4
  have d5 := e5
  have l0 := m0'
  have hT := hT'
  clear m0' hT' e0 e1 e2 e3 e4 e5
  rw [rounds_succ]
  go_wp2_with (refine wpList_store_row rfl 75 (.tmp 7) (.tmp 27) rfl _ _ rfl rfl 75 _ (heap_new (by simp)) (by kernel_rfl) (by kernel_rfl) (by simp [oc_nil, o2, g2]) ?_; rw [setRow_new (by simp)])
  obtain ⟨w5, hw5⟩ : ∃ x, x = w4.alloc (.cells #[p2, .nilFunc, q2] 75) := ⟨_, rfl⟩
  rw [← hw5]
  have hz5 : w4.heap.size < w5.heap.size := by rw [hw5]; simp
  have e0 : w5.cell? ⟨w.heap.size, 0, none⟩ = some (.int .i64 k) := by rw [hw5]; simp [go_sem, d0, l0]
  have e1 : w5.cell? ⟨w.heap.size, 1, none⟩ = some (.int .i64 r) := by rw [hw5]; simp [go_sem, d1, l0]
  have e2 : w5.cell? ⟨w.heap.size, 2, none⟩ = some (.int .i64 s) := by rw [hw5]; simp [go_sem, d2, l0]
  have e3 : w5.cell? ⟨w.heap.size, 3, none⟩ = some (.int .i64 t) := by rw [hw5]; simp [go_sem, d3, l0]
  have e4 : w5.cell? ⟨w.heap.size, 4, none⟩ = some (.int .i64 a) := by rw [hw5]; simp [go_sem, d4, l0]
  have e5 : w5.cell? ⟨w.heap.size, 5, none⟩ = some (.int .i64 b) := by rw [hw5]; simp [go_sem, d5, l0]
  have m0' : w.heap.size < w5.heap.size := by omega
  have hb5 : Below w4.heap.size w4 w5 := by rw [hw5]; exact (Below.refl _ _).alloc (Nat.le_refl _) _
  have hB5 : Below w.heap.size w w5 := hB4.trans (hb5.mono (by omega))
  have hT' := hT.below hb5
  clear hw5 hb5
  clear d0 d1 d2 d3 d4 d5 l0 hT
  have d0 := e0
  have d1 := e1
  have d2 := e2
  have d3 := e3
  have d4 := e4
  have d5 := e5
  have l0 := m0'
  have hT := hT'
  clear m0' hT' e0 e1 e2 e3 e4 e5
  rw [rounds_succ]
  go_wp2_with (refine wpList_store_row rfl 75 (.tmp 7) (.tmp 27) rfl _ _ rfl rfl 75 _ (heap_new (by simp)) (by kernel_rfl) (by kernel_rfl) (by simp [oc_nil, o3, g3]) ?_; rw [setRow_new (by simp)])
  obtain ⟨w6, hw6⟩ : ∃ x, x = w5.alloc (.cells #[p3, .nilFunc, q3] 75) := ⟨_, rfl⟩
  rw [← hw6]
  have hz6 : w5.heap.size < w6.heap.size := by rw [hw6]; simp
  have e0 : w6.cell? ⟨w.heap.size, 0, none⟩ = some (.int .i64 k) := by rw [hw6]; simp [go_sem, d0, l0]
  have e1 : w6.cell? ⟨w.heap.size, 1, none⟩ = some (.int .i64 r) := by rw [hw6]; simp [go_sem, d1, l0]
  have e2 : w6.cell? ⟨w.heap.size, 2, none⟩ = some (.int .i64 s) := by rw [hw6]; simp [go_sem, d2, l0]
  have e3 : w6.cell? ⟨w.heap.size, 3, none⟩ = some (.int .i64 t) := by rw [hw6]; simp [go_sem, d3, l0]
  have e4 : w6.cell? ⟨w.heap.size, 4, none⟩ = some (.int .i64 a) := by rw [hw6]; simp [go_sem, d4, l0]
  have e5 : w6.cell? ⟨w.heap.size, 5, none⟩ = some (.int .i64 b) := by rw [hw6]; simp [go_sem, d5, l0]
  have m0' : w.heap.size < w6.heap.size := by omega
  have hb6 : Below w5.heap.size w5 w6 := by rw [hw6]; exact (Below.refl _ _).alloc (Nat.le_refl _) _
  have hB6 : Below w.heap.size w w6 := hB5.trans (hb6.mono (by omega))
  have hT' := hT.below hb6
  clear hw6 hb6
  clear d0 d1 d2 d3 d4 d5 l0 hT
  have d0 := e0
  have d1 := e1
  have d2 := e2
  have d3 := e3
  have d4 := e4
  have d5 := e5
  have l0 := m0'
  have hT := hT'
  clear m0' hT' e0 e1 e2 e3 e4 e5
  rw [rounds_succ]
  go_wp2_with fail
  go_ret
  exact ⟨congrArg (fun x => Ending.returned (.string ⟨List.toArray x⟩)) (by rw [hx0.out]), hB6⟩
set_option maxRecDepth 20000 in
set_option maxHeartbeats 4000000 in
theorem implText_1010 {k r s t a b : Int} {wd : List UInt8} {p0 q0 p1 q1 p2 q2 p3 q3 : Value} {m0 m2 : Nat} {X0 X2 : List UInt8}
    (o0 : p0.oneCell' = true) (g0 : q0.oneCell' = true) (o1 : p1.oneCell' = true) (g1 : q1.oneCell' = true) (o2 : p2.oneCell' = true) (g2 : q2.oneCell' = true) (o3 : p3.oneCell' = true) (g3 : q3.oneCell' = true) (lw : wd.length ≤ 20) (hk : opB k r s t a b = true)
    (hF : ∀ w, Calls Tryz.prog 47 #[.int .i64 k] w fun e w' => (∃ u, e = .returned (.tuple #[.agg #[.string ⟨wd.toArray⟩, p0, .func (.func m0) #[] #[], q0, p1, .nilFunc, q1, p2, .func (.func m2) #[] #[], q2, p3, .nilFunc, q3, u], .bool true]) ∧ u.oneCell' = true) ∧ Below w.heap.size w w')
    (b0 : X0.length ≤ 20) (n0 : ∀ args w, (callFunc m0 args).run Tryz.prog w = .ok (.enter m0 args) w) (k0 : ∀ w, Tab w → Calls Tryz.prog m0 #[.agg #[.int .i64 k, .int .i64 r, .int .i64 s, .int .i64 t, .int .i64 a, .int .i64 b]] w fun e w' => e = .returned (.string ⟨X0.toArray⟩) ∧ Below w.heap.size w w')
    (b2 : X2.length ≤ 20) (n2 : ∀ args w, (callFunc m2 args).run Tryz.prog w = .ok (.enter m2 args) w) (k2 : ∀ w, Tab w → Calls Tryz.prog m2 #[.agg #[.int .i64 k, .int .i64 r, .int .i64 s, .int .i64 t, .int .i64 a, .int .i64 b]] w fun e w' => e = .returned (.string ⟨X2.toArray⟩) ∧ Below w.heap.size w w')
    (w : World) (hT : Tab w) :
    Calls Tryz.prog 26 #[.agg #[.int .i64 k, .int .i64 r, .int .i64 s, .int .i64 t, .int .i64 a, .int .i64 b]] w fun e w' => e = .returned (.string ⟨(wd ++ 32 :: X0 ++ 32 :: X2).toArray⟩) ∧ Below w.heap.size w w' := by
  have i0 : ∀ w, (Instr.index 76 (.agg #[p0, .func (.func m0) #[] #[], q0, p1, .nilFunc, q1, p2, .func (.func m2) #[] #[], q2, p3, .nilFunc, q3]) (.int .i64 0)).run Tryz.prog w = .ok (.agg #[p0, .func (.func m0) #[] #[], q0]) w := fun _ => by kernel_rfl
  have i1 : ∀ w, (Instr.index 76 (.agg #[p0, .func (.func m0) #[] #[], q0, p1, .nilFunc, q1, p2, .func (.func m2) #[] #[], q2, p3, .nilFunc, q3]) (.int .i64 1)).run Tryz.prog w = .ok (.agg #[p1, .nilFunc, q1]) w := fun _ => by kernel_rfl
  have i2 : ∀ w, (Instr.index 76 (.agg #[p0, .func (.func m0) #[] #[], q0, p1, .nilFunc, q1, p2, .func (.func m2) #[] #[], q2, p3, .nilFunc, q3]) (.int .i64 2)).run Tryz.prog w = .ok (.agg #[p2, .func (.func m2) #[] #[], q2]) w := fun _ => by kernel_rfl
  have i3 : ∀ w, (Instr.index 76 (.agg #[p0, .func (.func m0) #[] #[], q0, p1, .nilFunc, q1, p2, .func (.func m2) #[] #[], q2, p3, .nilFunc, q3]) (.int .i64 3)).run Tryz.prog w = .ok (.agg #[p3, .nilFunc, q3]) w := fun _ => by kernel_rfl
  have nq0 : ∀ w, (binOp .neq 44 (.func (.func m0) #[] #[]) .nilFunc).run Tryz.prog w = .ok (.bool true) w := fun _ => by kernel_rfl
  have nq2 : ∀ w, (binOp .neq 44 (.func (.func m2) #[] #[]) .nilFunc).run Tryz.prog w = .ok (.bool true) w := fun _ => by kernel_rfl
  have nq : ∀ w, (binOp .neq 44 .nilFunc .nilFunc).run Tryz.prog w = .ok (.bool false) w := fun _ => by kernel_rfl
  go_enter Tryz.func26, Tryz.ntmps26
  go_wp2_with fail
  refine (hF _).mono ?_
  rintro e w1 ⟨⟨u, rfl, hu⟩, hb1⟩
  replace hT := (hT.below ((Below.refl _ _).alloc (Nat.le_refl _) (.cells #[.int .i64 k, .int .i64 r, .int .i64 s, .int .i64 t, .int .i64 a, .int .i64 b] 43))).below hb1
  obtain ⟨hc1, _⟩ := bcell hb1
  have hz1 := hb1.size
  simp at hz1
  have c0 : w1.cell? ⟨w.heap.size, 0, none⟩ = some (.int .i64 k) := by rw [hc1 _ _ (by simp)]; simp [go_sem]
  have c1 : w1.cell? ⟨w.heap.size, 1, none⟩ = some (.int .i64 r) := by rw [hc1 _ _ (by simp)]; simp [go_sem]
  have c2 : w1.cell? ⟨w.heap.size, 2, none⟩ = some (.int .i64 s) := by rw [hc1 _ _ (by simp)]; simp [go_sem]
  have c3 : w1.cell? ⟨w.heap.size, 3, none⟩ = some (.int .i64 t) := by rw [hc1 _ _ (by simp)]; simp [go_sem]
  have c4 : w1.cell? ⟨w.heap.size, 4, none⟩ = some (.int .i64 a) := by rw [hc1 _ _ (by simp)]; simp [go_sem]
  have c5 : w1.cell? ⟨w.heap.size, 5, none⟩ = some (.int .i64 b) := by rw [hc1 _ _ (by simp)]; simp [go_sem]
  have l0 : w.heap.size < w1.heap.size := by omega
  have hB1 : Below w.heap.size w w1 := ((Below.refl _ _).alloc (Nat.le_refl _) _).trans (hb1.mono (by simp))
  clear hc1 hb1
  go_wp2_with (refine wpList_store_row rfl 79 (.tmp 3) (.tmp 12) rfl _ _ rfl rfl 79 _ (heap_new (by simp)) (by kernel_rfl) (by kernel_rfl) (by simp [oc_func, oc_str, oc_nil, o0, g0, o1, g1, o2, g2, o3, g3, hu]) ?_; rw [setRow_new (by simp)])
  refine (implOpOk_any _ _ _ _ _ _ _).mono ?_
  rintro e w2 ⟨rfl, hb2⟩
  rw [hk]
  replace hT := (hT.below ((Below.refl _ _).alloc (Nat.le_refl _) (.cells #[.string ⟨wd.toArray⟩, p0, .func (.func m0) #[] #[], q0, p1, .nilFunc, q1, p2, .func (.func m2) #[] #[], q2, p3, .nilFunc, q3, u] 79))).below hb2
  obtain ⟨hc2, _⟩ := bcell hb2
  have hz2 := hb2.size
  simp at hz2
  have d0 : w2.cell? ⟨w.heap.size, 0, none⟩ = some (.int .i64 k) := by rw [hc2 _ _ (by simp <;> omega)]; simp [go_sem, c0, l0]
  have d1 : w2.cell? ⟨w.heap.size, 1, none⟩ = some (.int .i64 r) := by rw [hc2 _ _ (by simp <;> omega)]; simp [go_sem, c1, l0]
  have d2 : w2.cell? ⟨w.heap.size, 2, none⟩ = some (.int .i64 s) := by rw [hc2 _ _ (by simp <;> omega)]; simp [go_sem, c2, l0]
  have d3 : w2.cell? ⟨w.heap.size, 3, none⟩ = some (.int .i64 t) := by rw [hc2 _ _ (by simp <;> omega)]; simp [go_sem, c3, l0]
  have d4 : w2.cell? ⟨w.heap.size, 4, none⟩ = some (.int .i64 a) := by rw [hc2 _ _ (by simp <;> omega)]; simp [go_sem, c4, l0]
  have d5 : w2.cell? ⟨w.heap.size, 5, none⟩ = some (.int .i64 b) := by rw [hc2 _ _ (by simp <;> omega)]; simp [go_sem, c5, l0]
  have y0 : w2.cell? ⟨w1.heap.size, 0, none⟩ = some (.string ⟨wd.toArray⟩) := by rw [hc2 _ _ (by simp)]; simp [go_sem]
  have y1 : w2.cell? ⟨w1.heap.size, 1, none⟩ = some (p0) := by rw [hc2 _ _ (by simp)]; simp [go_sem]
  have y2 : w2.cell? ⟨w1.heap.size, 2, none⟩ = some (.func (.func m0) #[] #[]) := by rw [hc2 _ _ (by simp)]; simp [go_sem]
  have y3 : w2.cell? ⟨w1.heap.size, 3, none⟩ = some (q0) := by rw [hc2 _ _ (by simp)]; simp [go_sem]
  have y4 : w2.cell? ⟨w1.heap.size, 4, none⟩ = some (p1) := by rw [hc2 _ _ (by simp)]; simp [go_sem]
  have y5 : w2.cell? ⟨w1.heap.size, 5, none⟩ = some (.nilFunc) := by rw [hc2 _ _ (by simp)]; simp [go_sem]
  have y6 : w2.cell? ⟨w1.heap.size, 6, none⟩ = some (q1) := by rw [hc2 _ _ (by simp)]; simp [go_sem]
  have y7 : w2.cell? ⟨w1.heap.size, 7, none⟩ = some (p2) := by rw [hc2 _ _ (by simp)]; simp [go_sem]
  have y8 : w2.cell? ⟨w1.heap.size, 8, none⟩ = some (.func (.func m2) #[] #[]) := by rw [hc2 _ _ (by simp)]; simp [go_sem]
  have y9 : w2.cell? ⟨w1.heap.size, 9, none⟩ = some (q2) := by rw [hc2 _ _ (by simp)]; simp [go_sem]
  have y10 : w2.cell? ⟨w1.heap.size, 10, none⟩ = some (p3) := by rw [hc2 _ _ (by simp)]; simp [go_sem]
  have y11 : w2.cell? ⟨w1.heap.size, 11, none⟩ = some (.nilFunc) := by rw [hc2 _ _ (by simp)]; simp [go_sem]
  have y12 : w2.cell? ⟨w1.heap.size, 12, none⟩ = some (q3) := by rw [hc2 _ _ (by simp)]; simp [go_sem]
  have m0' : w.heap.size < w2.heap.size := by omega
  have hB2 : Below w.heap.size w w2 := (hB1.alloc (by omega) _).trans (hb2.mono (by simp <;> omega))
  clear hc2 hb2 l0 c0 c1 c2 c3 c4 c5
  have l0 := m0'
  clear m0'
  go_wp2_with fail
  refine wp_loop_rounds 5 ?_
  rw [rounds_succ]
  have hT2 := hT.below ((Below.refl _ _).alloc (Nat.le_refl _) (.cells #[p0, .func (.func m0) #[] #[], q0] 75))
  go_wp2_with (refine wpList_store_row rfl 75 (.tmp 7) (.tmp 27) rfl _ _ rfl rfl 75 _ (heap_new (by simp)) (by kernel_rfl) (by kernel_rfl) (by simp [oc_func, o0, g0]) ?_; rw [setRow_new (by simp)])
  refine (k0 _ hT2).mono ?_
  rintro e w3 ⟨rfl, hb3⟩
  have hT' := hT2.below hb3
  clear hT2
  obtain ⟨hc3, _⟩ := bcell hb3
  have hz3 := hb3.size
  simp at hz3
  have e0 : w3.cell? ⟨w.heap.size, 0, none⟩ = some (.int .i64 k) := by rw [hc3 _ _ (by simp <;> omega)]; simp [go_sem, d0, l0]
  have e1 : w3.cell? ⟨w.heap.size, 1, none⟩ = some (.int .i64 r) := by rw [hc3 _ _ (by simp <;> omega)]; simp [go_sem, d1, l0]
  have e2 : w3.cell? ⟨w.heap.size, 2, none⟩ = some (.int .i64 s) := by rw [hc3 _ _ (by simp <;> omega)]; simp [go_sem, d2, l0]
  have e3 : w3.cell? ⟨w.heap.size, 3, none⟩ = some (.int .i64 t) := by rw [hc3 _ _ (by simp <;> omega)]; simp [go_sem, d3, l0]
  have e4 : w3.cell? ⟨w.heap.size, 4, none⟩ = some (.int .i64 a) := by rw [hc3 _ _ (by simp <;> omega)]; simp [go_sem, d4, l0]
  have e5 : w3.cell? ⟨w.heap.size, 5, none⟩ = some (.int .i64 b) := by rw [hc3 _ _ (by simp <;> omega)]; simp [go_sem, d5, l0]
  have m0' : w.heap.size < w3.heap.size := by omega
  have hB3 : Below w.heap.size w w3 := (hB2.alloc (by omega) _).trans (hb3.mono (by simp <;> omega))
  clear hc3 hb3
  clear d0 d1 d2 d3 d4 d5 l0 hT
  have d0 := e0
  have d1 := e1
  have d2 := e2
  have d3 := e3
  have d4 := e4
  have d5 := e5
  have l0 := m0'
  have hT := hT'
  clear m0' hT' e0 e1 e2 e3 e4 e5
  have s1 : ¬ 9223372036854775807 < 1 + X0.length := by omega
  have s2 : ¬ 9223372036854775807 < wd.length + (1 + X0.length) := by omega
  go_wp2_with fail
  rw [cat1]
  obtain ⟨tx0, htx0⟩ : ∃ x, x = wd ++ 32 :: X0 := ⟨_, rfl⟩
  rw [← htx0]
  have lx0 : tx0.length ≤ wd.length + 21 := by rw [htx0]; simp; omega
  have hx0 : Hid (tx0 = wd ++ 32 :: X0) := htx0
  clear s1 s2 htx0
  rw [rounds_succ]
  go_wp2_with (refine wpList_store_row rfl 75 (.tmp 7) (.tmp 27) rfl _ _ rfl rfl 75 _ (heap_new (by simp)) (by kernel_rfl) (by kernel_rfl) (by simp [oc_nil, o1, g1]) ?_; rw [setRow_new (by simp)])
  obtain ⟨w4, hw4⟩ : ∃ x, x = w3.alloc (.cells #[p1, .nilFunc, q1] 75) := ⟨_, rfl⟩
  rw [← hw4]
  have hz4 : w3.heap.size < w4.heap.size := by rw [hw4]; simp
  have e0 : w4.cell? ⟨w.heap.size, 0, none⟩ = some (.int .i64 k) := by rw [hw4]; simp [go_sem, d0, l0]
  have e1 : w4.cell? ⟨w.heap.size, 1, none⟩ = some (.int .i64 r) := by rw [hw4]; simp [go_sem, d1, l0]
  have e2 : w4.cell? ⟨w.heap.size, 2, none⟩ = some (.int .i64 s) := by rw [hw4]; simp [go_sem, d2, l0]
  have e3 : w4.cell? ⟨w.heap.size, 3, none⟩ = some (.int .i64 t) := by rw [hw4]; simp [go_sem, d3, l0]
  have e4 : w4.cell? ⟨w.heap.size, 4, none⟩ = some (.int .i64 a) := by rw [hw4]; simp [go_sem, d4, l0]
  have e5 : w4.cell? ⟨w.heap.size, 5, none⟩ = some (.int .i64 b) := by rw [hw4]; simp [go_sem, d5, l0]
  have m0' : w.heap.size < w4.heap.size := by omega
  have hb4 : Below w3.heap.size w3 w4 := by rw [hw4]; exact (Below.refl _ _).alloc (Nat.le_refl _) _
  have hB4 : Below w.heap.size w w4 := hB3.trans (hb4.mono (by omega))
  have hT' := hT.below hb4
  clear hw4 hb4
  clear d0 d1 d2 d3 d4 d5 l0 hT
  have d0 := e0
  have d1 := e1
  have d2 := e2
  have d3 := e3
  have d4 := e4
  have d5 := e5
  have l0 := m0'
  have hT := hT'
  clear m0' hT' e0 e1 e2 e3 e4 e5
  rw [rounds_succ]
  have hT2 := hT.below ((Below.refl _ _).alloc (Nat.le_refl _) (.cells #[p2, .func (.func m2) #[] #[], q2] 75))
  go_wp2_with (refine wpList_store_row rfl 75 (.tmp 7) (.tmp 27) rfl _ _ rfl rfl 75 _ (heap_new (by simp)) (by kernel_rfl) (by kernel_rfl) (by simp [oc_func, o2, g2]) ?_; rw [setRow_new (by simp)])
  refine (k2 _ hT2).mono ?_
  rintro e w5 ⟨rfl, hb5⟩
  have hT' := hT2.below hb5
  clear hT2
  obtain ⟨hc5, _⟩ := bcell hb5
  have hz5 := hb5.size
  simp at hz5
  have e0 : w5.cell? ⟨w.heap.size, 0, none⟩ = some (.int .i64 k) := by rw [hc5 _ _ (by simp <;> omega)]; simp [go_sem, d0, l0]
  have e1 : w5.cell? ⟨w.heap.size, 1, none⟩ = some (.int .i64 r) := by rw [hc5 _ _ (by simp <;> omega)]; simp [go_sem, d1, l0]
  have e2 : w5.cell? ⟨w.heap.size, 2, none⟩ = some (.int .i64 s) := by rw [hc5 _ _ (by simp <;> omega)]; simp [go_sem, d2, l0]
  have e3 : w5.cell? ⟨w.heap.size, 3, none⟩ = some (.int .i64 t) := by rw [hc5 _ _ (by simp <;> omega)]; simp [go_sem, d3, l0]
  have e4 : w5.cell? ⟨w.heap.size, 4, none⟩ = some (.int .i64 a) := by rw [hc5 _ _ (by simp <;> omega)]; simp [go_sem, d4, l0]
  have e5 : w5.cell? ⟨w.heap.size, 5, none⟩ = some (.int .i64 b) := by rw [hc5 _ _ (by simp <;> omega)]; simp [go_sem, d5, l0]
  have m0' : w.heap.size < w5.heap.size := by omega
  have hB5 : Below w.heap.size w w5 := (hB4.alloc (by omega) _).trans (hb5.mono (by simp <;> omega))
  clear hc5 hb5
  clear d0 d1 d2 d3 d4 d5 l0 hT
  have d0 := e0
  have d1 := e1
  have d2 := e2
  have d3 := e3
  have d4 := e4
  have d5 := e5
  have l0 := m0'
  have hT := hT'
  clear m0' hT' e0 e1 e2 e3 e4 e5
  have s1 : ¬ 9223372036854775807 < 1 + X2.length := by omega
  have s2 : ¬ 9223372036854775807 < tx0.length + (1 + X2.length) := by omega
  go_wp2_with fail
  rw [cat1]
  obtain ⟨tx2, htx2⟩ : ∃ x, x = tx0 ++ 32 :: X2 := ⟨_, rfl⟩
  rw [← htx2]
  have lx2 : tx2.length ≤ tx0.length + 21 := by rw [htx2]; simp; omega
  have hx2 : Hid (tx2 = tx0 ++ 32 :: X2) := htx2
  clear s1 s2 htx2
  rw [rounds_succ]
  go_wp2_with (refine wpList_store_row rfl 75 (.tmp 7) (.tmp 27) rfl _ _ rfl rfl 75 _ (heap_new (by simp)) (by kernel_rfl) (by kernel_rfl) (by simp [oc_nil, o3, g3]) ?_; rw [setRow_new (by simp)])
  obtain ⟨w6, hw6⟩ : ∃ x, x = w5.alloc (.cells #[p3, .nilFunc, q3] 75) := ⟨_, rfl⟩
  rw [← hw6]
  have hz6 : w5.heap.size < w6.heap.size := by rw [hw6]; simp
  have e0 : w6.cell? ⟨w.heap.size, 0, none⟩ = some (.int .i64 k) := by rw [hw6]; simp [go_sem, d0, l0]
  have e1 : w6.cell? ⟨w.heap.size, 1, none⟩ = some (.int .i64 r) := by rw [hw6]; simp [go_sem, d1, l0]
  have e2 : w6.cell? ⟨w.heap.size, 2, none⟩ = some (.int .i64 s) := by rw [hw6]; simp [go_sem, d2, l0]
  have e3 : w6.cell? ⟨w.heap.size, 3, none⟩ = some (.int .i64 t) := by rw [hw6]; simp [go_sem, d3, l0]
  have e4 : w6.cell? ⟨w.heap.size, 4, none⟩ = some (.int .i64 a) := by rw [hw6]; simp [go_sem, d4, l0]
  have e5 : w6.cell? ⟨w.heap.size, 5, none⟩ = some (.int .i64 b) := by rw [hw6]; simp [go_sem, d5, l0]
  have m0' : w.heap.size < w6.heap.size := by omega
  have hb6 : Below w5.heap.size w5 w6 := by rw [hw6]; exact (Below.refl _ _).alloc (Nat.le_refl _) _
  have hB6 : Below w.heap.size w w6 := hB5.trans (hb6.mono (by omega))
  have hT' := hT.below hb6
  clear hw6 hb6
  clear d0 d1 d2 d3 d4 d5 l0 hT
  have d0 := e0
  have d1 := e1
  have d2 := e2
  have d3 := e3
  have d4 := e4
  have d5 := e5
  have l0 := m0'
  have hT := hT'
  clear m0' hT' e0 e1 e2 e3 e4 e5
  rw [rounds_succ]
  go_wp2_with fail
  go_ret
  exact ⟨congrArg (fun x => Ending.returned (.string ⟨List.toArray x⟩)) (by rw [hx2.out, hx0.out]), hB6⟩
set_option maxRecDepth 20000 in
set_option maxHeartbeats 4000000 in
theorem implText_1111 {k r s t a b : Int} {wd : List UInt8} {p0 q0 p1 q1 p2 q2 p3 q3 : Value} {m0 m1 m2 m3 : Nat} {X0 X1 X2 X3 : List UInt8}
    (o0 : p0.oneCell' = true) (g0 : q0.oneCell' = true) (o1 : p1.oneCell' = true) (g1 : q1.oneCell' = true) (o2 : p2.oneCell' = true) (g2 : q2.oneCell' = true) (o3 : p3.oneCell' = true) (g3 : q3.oneCell' = true) (lw : wd.length ≤ 20) (hk : opB k r s t a b = true)
    (hF : ∀ w, Calls Tryz.prog 47 #[.int .i64 k] w fun e w' => (∃ u, e = .returned (.tuple #[.agg #[.string ⟨wd.toArray⟩, p0, .func (.func m0) #[] #[], q0, p1, .func (.func m1) #[] #[], q1, p2, .func (.func m2) #[] #[], q2, p3, .func (.func m3) #[] #[], q3, u], .bool true]) ∧ u.oneCell' = true) ∧ Below w.heap.size w w')
    (b0 : X0.length ≤ 20) (n0 : ∀ args w, (callFunc m0 args).run Tryz.prog w = .ok (.enter m0 args) w) (k0 : ∀ w, Tab w → Calls Tryz.prog m0 #[.agg #[.int .i64 k, .int .i64 r, .int .i64 s, .int .i64 t, .int .i64 a, .int .i64 b]] w fun e w' => e = .returned (.string ⟨X0.toArray⟩) ∧ Below w.heap.size w w')
    (b1 : X1.length ≤ 20) (n1 : ∀ args w, (callFunc m1 args).run Tryz.prog w = .ok (.enter m1 args) w) (k1 : ∀ w, Tab w → Calls Tryz.prog m1 #[.agg #[.int .i64 k, .int .i64 r, .int .i64 s, .int .i64 t, .int .i64 a, .int .i64 b]] w fun e w' => e = .returned (.string ⟨X1.toArray⟩) ∧ Below w.heap.size w w')
    (b2 : X2.length ≤ 20) (n2 : ∀ args w, (callFunc m2 args).run Tryz.prog w = .ok (.enter m2 args) w) (k2 : ∀ w, Tab w → Calls Tryz.prog m2 #[.agg #[.int .i64 k, .int .i64 r, .int .i64 s, .int .i64 t, .int .i64 a, .int .i64 b]] w fun e w' => e = .returned (.string ⟨X2.toArray⟩) ∧ Below w.heap.size w w')
    (b3 : X3.length ≤ 20) (n3 : ∀ args w, (callFunc m3 args).run Tryz.prog w = .ok (.enter m3 args) w) (k3 : ∀ w, Tab w → Calls Tryz.prog m3 #[.agg #[.int .i64 k, .int .i64 r, .int .i64 s, .int .i64 t, .int .i64 a, .int .i64 b]] w fun e w' => e = .returned (.string ⟨X3.toArray⟩) ∧ Below w.heap.size w w')
    (w : World) (hT : Tab w) :
    Calls Tryz.prog 26 #[.agg #[.int .i64 k, .int .i64 r, .int .i64 s, .int .i64 t, .int .i64 a, .int .i64 b]] w fun e w' => e = .returned (.string ⟨(wd ++ 32 :: X0 ++ 32 :: X1 ++ 32 :: X2 ++ 32 :: X3).toArray⟩) ∧ Below w.heap.size w w' := by
  have i0 : ∀ w, (Instr.index 76 (.agg #[p0, .func (.func m0) #[] #[], q0, p1, .func (.func m1) #[] #[], q1, p2, .func (.func m2) #[] #[], q2, p3, .func (.func m3) #[] #[], q3]) (.int .i64 0)).run Tryz.prog w = .ok (.agg #[p0, .func (.func m0) #[] #[], q0]) w := fun _ => by kernel_rfl
  have i1 : ∀ w, (Instr.index 76 (.agg #[p0, .func (.func m0) #[] #[], q0, p1, .func (.func m1) #[] #[], q1, p2, .func (.func m2) #[] #[], q2, p3, .func (.func m3) #[] #[], q3]) (.int .i64 1)).run Tryz.prog w = .ok (.agg #[p1, .func (.func m1) #[] #[], q1]) w := fun _ => by kernel_rfl
  have i2 : ∀ w, (Instr.index 76 (.agg #[p0, .func (.func m0) #[] #[], q0, p1, .func (.func m1) #[] #[], q1, p2, .func (.func m2) #[] #[], q2, p3, .func (.func m3) #[] #[], q3]) (.int .i64 2)).run Tryz.prog w = .ok (.agg #[p2, .func (.func m2) #[] #[], q2]) w := fun _ => by kernel_rfl
  have i3 : ∀ w, (Instr.index 76 (.agg #[p0, .func (.func m0) #[] #[], q0, p1, .func (.func m1) #[] #[], q1, p2, .func (.func m2) #[] #[], q2, p3, .func (.func m3) #[] #[], q3]) (.int .i64 3)).run Tryz.prog w = .ok (.agg #[p3, .func (.func m3) #[] #[], q3]) w := fun _ => by kernel_rfl
  have nq0 : ∀ w, (binOp .neq 44 (.func (.func m0) #[] #[]) .nilFunc).run Tryz.prog w = .ok (.bool true) w := fun _ => by kernel_rfl
  have nq1 : ∀ w, (binOp .neq 44 (.func (.func m1) #[] #[]) .nilFunc).run Tryz.prog w = .ok (.bool true) w := fun _ => by kernel_rfl
  have nq2 : ∀ w, (binOp .neq 44 (.func (.func m2) #[] #[]) .nilFunc).run Tryz.prog w = .ok (.bool true) w := fun _ => by kernel_rfl
  have nq3 : ∀ w, (binOp .neq 44 (.func (.func m3) #[] #[]) .nilFunc).run Tryz.prog w = .ok (.bool true) w := fun _ => by kernel_rfl
  go_enter Tryz.func26, Tryz.ntmps26
  go_wp2_with fail
  refine (hF _).mono ?_
  rintro e w1 ⟨⟨u, rfl, hu⟩, hb1⟩
  replace hT := (hT.below ((Below.refl _ _).alloc (Nat.le_refl _) (.cells #[.int .i64 k, .int .i64 r, .int .i64 s, .int .i64 t, .int .i64 a, .int .i64 b] 43))).below hb1
  obtain ⟨hc1, _⟩ := bcell hb1
  have hz1 := hb1.size
  simp at hz1
  have c0 : w1.cell? ⟨w.heap.size, 0, none⟩ = some (.int .i64 k) := by rw [hc1 _ _ (by simp)]; simp [go_sem]
  have c1 : w1.cell? ⟨w.heap.size, 1, none⟩ = some (.int .i64 r) := by rw [hc1 _ _ (by simp)]; simp [go_sem]
  have c2 : w1.cell? ⟨w.heap.size, 2, none⟩ = some (.int .i64 s) := by rw [hc1 _ _ (by simp)]; simp [go_sem]
  have c3 : w1.cell? ⟨w.heap.size, 3, none⟩ = some (.int .i64 t) := by rw [hc1 _ _ (by simp)]; simp [go_sem]
  have c4 : w1.cell? ⟨w.heap.size, 4, none⟩ = some (.int .i64 a) := by rw [hc1 _ _ (by simp)]; simp [go_sem]
  have c5 : w1.cell? ⟨w.heap.size, 5, none⟩ = some (.int .i64 b) := by rw [hc1 _ _ (by simp)]; simp [go_sem]
  have l0 : w.heap.size < w1.heap.size := by omega
  have hB1 : Below w.heap.size w w1 := ((Below.refl _ _).alloc (Nat.le_refl _) _).trans (hb1.mono (by simp))
  clear hc1 hb1
  go_wp2_with (refine wpList_store_row rfl 79 (.tmp 3) (.tmp 12) rfl _ _ rfl rfl 79 _ (heap_new (by simp)) (by kernel_rfl) (by kernel_rfl) (by simp [oc_func, oc_str, o0, g0, o1, g1, o2, g2, o3, g3, hu]) ?_; rw [setRow_new (by simp)])
  refine (implOpOk_any _ _ _ _ _ _ _).mono ?_
  rintro e w2 ⟨rfl, hb2⟩
  rw [hk]
  replace hT := (hT.below ((Below.refl _ _).alloc (Nat.le_refl _) (.cells #[.string ⟨wd.toArray⟩, p0, .func (.func m0) #[] #[], q0, p1, .func (.func m1) #[] #[], q1, p2, .func (.func m2) #[] #[], q2, p3, .func (.func m3) #[] #[], q3, u] 79))).below hb2
  obtain ⟨hc2, _⟩ := bcell hb2
  have hz2 := hb2.size
  simp at hz2
  have d0 : w2.cell? ⟨w.heap.size, 0, none⟩ = some (.int .i64 k) := by rw [hc2 _ _ (by simp <;> omega)]; simp [go_sem, c0, l0]
  have d1 : w2.cell? ⟨w.heap.size, 1, none⟩ = some (.int .i64 r) := by rw [hc2 _ _ (by simp <;> omega)]; simp [go_sem, c1, l0]
  have d2 : w2.cell? ⟨w.heap.size, 2, none⟩ = some (.int .i64 s) := by rw [hc2 _ _ (by simp <;> omega)]; simp [go_sem, c2, l0]
  have d3 : w2.cell? ⟨w.heap.size, 3, none⟩ = some (.int .i64 t) := by rw [hc2 _ _ (by simp <;> omega)]; simp [go_sem, c3, l0]
  have d4 : w2.cell? ⟨w.heap.size, 4, none⟩ = some (.int .i64 a) := by rw [hc2 _ _ (by simp <;> omega)]; simp [go_sem, c4, l0]
  have d5 : w2.cell? ⟨w.heap.size, 5, none⟩ = some (.int .i64 b) := by rw [hc2 _ _ (by simp <;> omega)]; simp [go_sem, c5, l0]
  have y0 : w2.cell? ⟨w1.heap.size, 0, none⟩ = some (.string ⟨wd.toArray⟩) := by rw [hc2 _ _ (by simp)]; simp [go_sem]
  have y1 : w2.cell? ⟨w1.heap.size, 1, none⟩ = some (p0) := by rw [hc2 _ _ (by simp)]; simp [go_sem]
  have y2 : w2.cell? ⟨w1.heap.size, 2, none⟩ = some (.func (.func m0) #[] #[]) := by rw [hc2 _ _ (by simp)]; simp [go_sem]
  have y3 : w2.cell? ⟨w1.heap.size, 3, none⟩ = some (q0) := by rw [hc2 _ _ (by simp)]; simp [go_sem]
  have y4 : w2.cell? ⟨w1.heap.size, 4, none⟩ = some (p1) := by rw [hc2 _ _ (by simp)]; simp [go_sem]
  have y5 : w2.cell? ⟨w1.heap.size, 5, none⟩ = some (.func (.func m1) #[] #[]) := by rw [hc2 _ _ (by simp)]; simp [go_sem]
  have y6 : w2.cell? ⟨w1.heap.size, 6, none⟩ = some (q1) := by rw [hc2 _ _ (by simp)]; simp [go_sem]
  have y7 : w2.cell? ⟨w1.heap.size, 7, none⟩ = some (p2) := by rw [hc2 _ _ (by simp)]; simp [go_sem]
  have y8 : w2.cell? ⟨w1.heap.size, 8, none⟩ = some (.func (.func m2) #[] #[]) := by rw [hc2 _ _ (by simp)]; simp [go_sem]
  have y9 : w2.cell? ⟨w1.heap.size, 9, none⟩ = some (q2) := by rw [hc2 _ _ (by simp)]; simp [go_sem]
  have y10 : w2.cell? ⟨w1.heap.size, 10, none⟩ = some (p3) := by rw [hc2 _ _ (by simp)]; simp [go_sem]
  have y11 : w2.cell? ⟨w1.heap.size, 11, none⟩ = some (.func (.func m3) #[] #[]) := by rw [hc2 _ _ (by simp)]; simp [go_sem]
  have y12 : w2.cell? ⟨w1.heap.size, 12, none⟩ = some (q3) := by rw [hc2 _ _ (by simp)]; simp [go_sem]
  have m0' : w.heap.size < w2.heap.size := by omega
  have hB2 : Below w.heap.size w w2 := (hB1.alloc (by omega) _).trans (hb2.mono (by simp <;> omega))
  clear hc2 hb2 l0 c0 c1 c2 c3 c4 c5
  have l0 := m0'
  clear m0'
  go_wp2_with fail
  refine wp_loop_rounds 5 ?_
  rw [rounds_succ]
  have hT2 := hT.below ((Below.refl _ _).alloc (Nat.le_refl _) (.cells #[p0, .func (.func m0) #[] #[], q0] 75))
  go_wp2_with (refine wpList_store_row rfl 75 (.tmp 7) (.tmp 27) rfl _ _ rfl rfl 75 _ (heap_new (by simp)) (by kernel_rfl) (by kernel_rfl) (by simp [oc_func, o0, g0]) ?_; rw [setRow_new (by simp)])
  refine (k0 _ hT2).mono ?_
  rintro e w3 ⟨rfl, hb3⟩
  have hT' := hT2.below hb3
  clear hT2
  obtain ⟨hc3, _⟩ := bcell hb3
  have hz3 := hb3.size
  simp at hz3
  have e0 : w3.cell? ⟨w.heap.size, 0, none⟩ = some (.int .i64 k) := by rw [hc3 _ _ (by simp <;> omega)]; simp [go_sem, d0, l0]
  have e1 : w3.cell? ⟨w.heap.size, 1, none⟩ = some (.int .i64 r) := by rw [hc3 _ _ (by simp <;> omega)]; simp [go_sem, d1, l0]
  have e2 : w3.cell? ⟨w.heap.size, 2, none⟩ = some (.int .i64 s) := by rw [hc3 _ _ (by simp <;> omega)]; simp [go_sem, d2, l0]
  have e3 : w3.cell? ⟨w.heap.size, 3, none⟩ = some (.int .i64 t) := by rw [hc3 _ _ (by simp <;> omega)]; simp [go_sem, d3, l0]
  have e4 : w3.cell? ⟨w.heap.size, 4, none⟩ = some (.int .i64 a) := by rw [hc3 _ _ (by simp <;> omega)]; simp [go_sem, d4, l0]
  have e5 : w3.cell? ⟨w.heap.size, 5, none⟩ = some (.int .i64 b) := by rw [hc3 _ _ (by simp <;> omega)]; simp [go_sem, d5, l0]
  have m0' : w.heap.size < w3.heap.size := by omega
  have hB3 : Below w.heap.size w w3 := (hB2.alloc (by omega) _).trans (hb3.mono (by simp <;> omega))
  clear hc3 hb3
  clear d0 d1 d2 d3 d4 d5 l0 hT
  have d0 := e0
  have d1 := e1
  have d2 := e2
  have d3 := e3
  have d4 := e4
  have d5 := e5
  have l0 := m0'
  have hT := hT'
  clear m0' hT' e0 e1 e2 e3 e4 e5
  have s1 : ¬ 9223372036854775807 < 1 + X0.length := by omega
  have s2 : ¬ 9223372036854775807 < wd.length + (1 + X0.length) := by omega
  go_wp2_with fail
  rw [cat1]
  obtain ⟨tx0, htx0⟩ : ∃ x, x = wd ++ 32 :: X0 := ⟨_, rfl⟩
  rw [← htx0]
  have lx0 : tx0.length ≤ wd.length + 21 := by rw [htx0]; simp; omega
  have hx0 : Hid (tx0 = wd ++ 32 :: X0) := htx0
  clear s1 s2 htx0
  rw [rounds_succ]
  have hT2 := hT.below ((Below.refl _ _).alloc (Nat.le_refl _) (.cells #[p1, .func (.func m1) #[] #[], q1] 75))
  go_wp2_with (refine wpList_store_row rfl 75 (.tmp 7) (.tmp 27) rfl _ _ rfl rfl 75 _ (heap_new (by simp)) (by kernel_rfl) (by kernel_rfl) (by simp [oc_func, o1, g1]) ?_; rw [setRow_new (by simp)])
  refine (k1 _ hT2).mono ?_
  rintro e w4 ⟨rfl, hb4⟩
  have hT' := hT2.below hb4
  clear hT2
  obtain ⟨hc4, _⟩ := bcell hb4
  have hz4 := hb4.size
  simp at hz4
  have e0 : w4.cell? ⟨w.heap.size, 0, none⟩ = some (.int .i64 k) := by rw [hc4 _ _ (by simp <;> omega)]; simp [go_sem, d0, l0]
  have e1 : w4.cell? ⟨w.heap.size, 1, none⟩ = some (.int .i64 r) := by rw [hc4 _ _ (by simp <;> omega)]; simp [go_sem, d1, l0]
  have e2 : w4.cell? ⟨w.heap.size, 2, none⟩ = some (.int .i64 s) := by rw [hc4 _ _ (by simp <;> omega)]; simp [go_sem, d2, l0]
  have e3 : w4.cell? ⟨w.heap.size, 3, none⟩ = some (.int .i64 t) := by rw [hc4 _ _ (by simp <;> omega)]; simp [go_sem, d3, l0]
  have e4 : w4.cell? ⟨w.heap.size, 4, none⟩ = some (.int .i64 a) := by rw [hc4 _ _ (by simp <;> omega)]; simp [go_sem, d4, l0]
  have e5 : w4.cell? ⟨w.heap.size, 5, none⟩ = some (.int .i64 b) := by rw [hc4 _ _ (by simp <;> omega)]; simp [go_sem, d5, l0]
  have m0' : w.heap.size < w4.heap.size := by omega
  have hB4 : Below w.heap.size w w4 := (hB3.alloc (by omega) _).trans (hb4.mono (by simp <;> omega))
  clear hc4 hb4
  clear d0 d1 d2 d3 d4 d5 l0 hT
  have d0 := e0
  have d1 := e1
  have d2 := e2
  have d3 := e3
  have d4 := e4
  have d5 := e5
  have l0 := m0'
  have hT := hT'
  clear m0' hT' e0 e1 e2 e3 e4 e5
  have s1 : ¬ 9223372036854775807 < 1 + X1.length := by omega
  have s2 : ¬ 9223372036854775807 < tx0.length + (1 + X1.length) := by omega
  go_wp2_with fail
  rw [cat1]
  obtain ⟨tx1, htx1⟩ : ∃ x, x = tx0 ++ 32 :: X1 := ⟨_, rfl⟩
  rw [← htx1]
  have lx1 : tx1.length ≤ tx0.length + 21 := by rw [htx1]; simp; omega
  have hx1 : Hid (tx1 = tx0 ++ 32 :: X1) := htx1
  clear s1 s2 htx1
  rw [rounds_succ]
  have hT2 := hT.below ((Below.refl _ _).alloc (Nat.le_refl _) (.cells #[p2, .func (.func m2) #[] #[], q2] 75))
  go_wp2_with (refine wpList_store_row rfl 75 (.tmp 7) (.tmp 27) rfl _ _ rfl rfl 75 _ (heap_new (by simp)) (by kernel_rfl) (by kernel_rfl) (by simp [oc_func, o2, g2]) ?_; rw [setRow_new (by simp)])
  refine (k2 _ hT2).mono ?_
  rintro e w5 ⟨rfl, hb5⟩
  have hT' := hT2.below hb5
  clear hT2
  obtain ⟨hc5, _⟩ := bcell hb5
  have hz5 := hb5.size
  simp at hz5
  have e0 : w5.cell? ⟨w.heap.size, 0, none⟩ = some (.int .i64 k) := by rw [hc5 _ _ (by simp <;> omega)]; simp [go_sem, d0, l0]
  have e1 : w5.cell? ⟨w.heap.size, 1, none⟩ = some (.int .i64 r) := by rw [hc5 _ _ (by simp <;> omega)]; simp [go_sem, d1, l0]
  have e2 : w5.cell? ⟨w.heap.size, 2, none⟩ = some (.int .i64 s) := by rw [hc5 _ _ (by simp <;> omega)]; simp [go_sem, d2, l0]
  have e3 : w5.cell? ⟨w.heap.size, 3, none⟩ = some (.int .i64 t) := by rw [hc5 _ _ (by simp <;> omega)]; simp [go_sem, d3, l0]
  have e4 : w5.cell? ⟨w.heap.size, 4, none⟩ = some (.int .i64 a) := by rw [hc5 _ _ (by simp <;> omega)]; simp [go_sem, d4, l0]
  have e5 : w5.cell? ⟨w.heap.size, 5, none⟩ = some (.int .i64 b) := by rw [hc5 _ _ (by simp <;> omega)]; simp [go_sem, d5, l0]
  have m0' : w.heap.size < w5.heap.size := by omega
  have hB5 : Below w.heap.size w w5 := (hB4.alloc (by omega) _).trans (hb5.mono (by simp <;> omega))
  clear hc5 hb5
  clear d0 d1 d2 d3 d4 d5 l0 hT
  have d0 := e0
  have d1 := e1
  have d2 := e2
  have d3 := e3
  have d4 := e4
  have d5 := e5
  have l0 := m0'
  have hT := hT'
  clear m0' hT' e0 e1 e2 e3 e4 e5
  have s1 : ¬ 9223372036854775807 < 1 + X2.length := by omega
  have s2 : ¬ 9223372036854775807 < tx1.length + (1 + X2.length) := by omega
  go_wp2_with fail
  rw [cat1]
  obtain ⟨tx2, htx2⟩ : ∃ x, x = tx1 ++ 32 :: X2 := ⟨_, rfl⟩
  rw [← htx2]
  have lx2 : tx2.length ≤ tx1.length + 21 := by rw [htx2]; simp; omega
  have hx2 : Hid (tx2 = tx1 ++ 32 :: X2) := htx2
  clear s1 s2 htx2
  rw [rounds_succ]
  have hT2 := hT.below ((Below.refl _ _).alloc (Nat.le_refl _) (.cells #[p3, .func (.func m3) #[] #[], q3] 75))
  go_wp2_with (refine wpList_store_row rfl 75 (.tmp 7) (.tmp 27) rfl _ _ rfl rfl 75 _ (heap_new (by simp)) (by kernel_rfl) (by kernel_rfl) (by simp [oc_func, o3, g3]) ?_; rw [setRow_new (by simp)])
  refine (k3 _ hT2).mono ?_
  rintro e w6 ⟨rfl, hb6⟩
  have hT' := hT2.below hb6
  clear hT2
  obtain ⟨hc6, _⟩ := bcell hb6
  have hz6 := hb6.size
  simp at hz6
  have e0 : w6.cell? ⟨w.heap.size, 0, none⟩ = some (.int .i64 k) := by rw [hc6 _ _ (by simp <;> omega)]; simp [go_sem, d0, l0]
  have e1 : w6.cell? ⟨w.heap.size, 1, none⟩ = some (.int .i64 r) := by rw [hc6 _ _ (by simp <;> omega)]; simp [go_sem, d1, l0]
  have e2 : w6.cell? ⟨w.heap.size, 2, none⟩ = some (.int .i64 s) := by rw [hc6 _ _ (by simp <;> omega)]; simp [go_sem, d2, l0]
  have e3 : w6.cell? ⟨w.heap.size, 3, none⟩ = some (.int .i64 t) := by rw [hc6 _ _ (by simp <;> omega)]; simp [go_sem, d3, l0]
  have e4 : w6.cell? ⟨w.heap.size, 4, none⟩ = some (.int .i64 a) := by rw [hc6 _ _ (by simp <;> omega)]; simp [go_sem, d4, l0]
  have e5 : w6.cell? ⟨w.heap.size, 5, none⟩ = some (.int .i64 b) := by rw [hc6 _ _ (by simp <;> omega)]; simp [go_sem, d5, l0]
  have m0' : w.heap.size < w6.heap.size := by omega
  have hB6 : Below w.heap.size w w6 := (hB5.alloc (by omega) _).trans (hb6.mono (by simp <;> omega))
  clear hc6 hb6
  clear d0 d1 d2 d3 d4 d5 l0 hT
  have d0 := e0
  have d1 := e1
  have d2 := e2
  have d3 := e3
  have d4 := e4
  have d5 := e5
  have l0 := m0'
  have hT := hT'
  clear m0' hT' e0 e1 e2 e3 e4 e5
  have s1 : ¬ 9223372036854775807 < 1 + X3.length := by omega
  have s2 : ¬ 9223372036854775807 < tx2.length + (1 + X3.length) := by omega
  go_wp2_with fail
  rw [cat1]
  obtain ⟨tx3, htx3⟩ : ∃ x, x = tx2 ++ 32 :: X3 := ⟨_, rfl⟩
  rw [← htx3]
  have lx3 : tx3.length ≤ tx2.length + 21 := by rw [htx3]; simp; omega
  have hx3 : Hid (tx3 = tx2 ++ 32 :: X3) := htx3
  clear s1 s2 htx3
  rw [rounds_succ]
  go_wp2_with fail
  go_ret
  exact ⟨congrArg (fun x => Ending.returned (.string ⟨List.toArray x⟩)) (by rw [hx3.out, hx2.out, hx1.out, hx0.out]), hB6⟩
set_option maxRecDepth 20000 in
set_option maxHeartbeats 4000000 in
theorem implText_0010 {k r s t a b : Int} {wd : List UInt8} {p0 q0 p1 q1 p2 q2 p3 q3 : Value} {m2 : Nat} {X2 : List UInt8}
    (o0 : p0.oneCell' = true) (g0 : q0.oneCell' = true) (o1 : p1.oneCell' = true) (g1 : q1.oneCell' = true) (o2 : p2.oneCell' = true) (g2 : q2.oneCell' = true) (o3 : p3.oneCell' = true) (g3 : q3.oneCell' = true) (lw : wd.length ≤ 20) (hk : opB k r s t a b = true)
    (hF : ∀ w, Calls Tryz.prog 47 #[.int .i64 k] w fun e w' => (∃ u, e = .returned (.tuple #[.agg #[.string ⟨wd.toArray⟩, p0, .nilFunc, q0, p1, .nilFunc, q1, p2, .func (.func m2) #[] #[], q2, p3, .nilFunc, q3, u], .bool true]) ∧ u.oneCell' = true) ∧ Below w.heap.size w w')
    (b2 : X2.length ≤ 20) (n2 : ∀ args w, (callFunc m2 args).run Tryz.prog w = .ok (.enter m2 args) w) (k2 : ∀ w, Tab w → Calls Tryz.prog m2 #[.agg #[.int .i64 k, .int .i64 r, .int .i64 s, .int .i64 t, .int .i64 a, .int .i64 b]] w fun e w' => e = .returned (.string ⟨X2.toArray⟩) ∧ Below w.heap.size w w')
    (w : World) (hT : Tab w) :
    Calls Tryz.prog 26 #[.agg #[.int .i64 k, .int .i64 r, .int .i64 s, .int .i64 t, .int .i64 a, .int .i64 b]] w fun e w' => e = .returned (.string ⟨(wd ++ 32 :: X2).toArray⟩) ∧ Below w.heap.size w w' := by
  have i0 : ∀ w, (Instr.index 76 (.agg #[p0, .nilFunc, q0, p1, .nilFunc, q1, p2, .func (.func m2) #[] #[], q2, p3, .nilFunc, q3]) (.int .i64 0)).run Tryz.prog w = .ok (.agg #[p0, .nilFunc, q0]) w := fun _ => by kernel_rfl
  have i1 : ∀ w, (Instr.index 76 (.agg #[p0, .nilFunc, q0, p1, .nilFunc, q1, p2, .func (.func m2) #[] #[], q2, p3, .nilFunc, q3]) (.int .i64 1)).run Tryz.prog w = .ok (.agg #[p1, .nilFunc, q1]) w := fun _ => by kernel_rfl
  have i2 : ∀ w, (Instr.index 76 (.agg #[p0, .nilFunc, q0, p1, .nilFunc, q1, p2, .func (.func m2) #[] #[], q2, p3, .nilFunc, q3]) (.int .i64 2)).run Tryz.prog w = .ok (.agg #[p2, .func (.func m2) #[] #[], q2]) w := fun _ => by kernel_rfl
  have i3 : ∀ w, (Instr.index 76 (.agg #[p0, .nilFunc, q0, p1, .nilFunc, q1, p2, .func (.func m2) #[] #[], q2, p3, .nilFunc, q3]) (.int .i64 3)).run Tryz.prog w = .ok (.agg #[p3, .nilFunc, q3]) w := fun _ => by kernel_rfl
  have nq2 : ∀ w, (binOp .neq 44 (.func (.func m2) #[] #[]) .nilFunc).run Tryz.prog w = .ok (.bool true) w := fun _ => by kernel_rfl
  have nq : ∀ w, (binOp .neq 44 .nilFunc .nilFunc).run Tryz.prog w = .ok (.bool false) w := fun _ => by kernel_rfl
  go_enter Tryz.func26, Tryz.ntmps26
  go_wp2_with fail
  refine (hF _).mono ?_
  rintro e w1 ⟨⟨u, rfl, hu⟩, hb1⟩
  replace hT := (hT.below ((Below.refl _ _).alloc (Nat.le_refl _) (.cells #[.int .i64 k, .int .i64 r, .int .i64 s, .int .i64 t, .int .i64 a, .int .i64 b] 43))).below hb1
  obtain ⟨hc1, _⟩ := bcell hb1
  have hz1 := hb1.size
  simp at hz1
  have c0 : w1.cell? ⟨w.heap.size, 0, none⟩ = some (.int .i64 k) := by rw [hc1 _ _ (by simp)]; simp [go_sem]
  have c1 : w1.cell? ⟨w.heap.size, 1, none⟩ = some (.int .i64 r) := by rw [hc1 _ _ (by simp)]; simp [go_sem]
  have c2 : w1.cell? ⟨w.heap.size, 2, none⟩ = some (.int .i64 s) := by rw [hc1 _ _ (by simp)]; simp [go_sem]
  have c3 : w1.cell? ⟨w.heap.size, 3, none⟩ = some (.int .i64 t) := by rw [hc1 _ _ (by simp)]; simp [go_sem]
  have c4 : w1.cell? ⟨w.heap.size, 4, none⟩ = some (.int .i64 a) := by rw [hc1 _ _ (by simp)]; simp [go_sem]
  have c5 : w1.cell? ⟨w.heap.size, 5, none⟩ = some (.int .i64 b) := by rw [hc1 _ _ (by simp)]; simp [go_sem]
  have l0 : w.heap.size < w1.heap.size := by omega
  have hB1 : Below w.heap.size w w1 := ((Below.refl _ _).alloc (Nat.le_refl _) _).trans (hb1.mono (by simp))
  clear hc1 hb1
  go_wp2_with (refine wpList_store_row rfl 79 (.tmp 3) (.tmp 12) rfl _ _ rfl rfl 79 _ (heap_new (by simp)) (by kernel_rfl) (by kernel_rfl) (by simp [oc_func, oc_str, oc_nil, o0, g0, o1, g1, o2, g2, o3, g3, hu]) ?_; rw [setRow_new (by simp)])
  refine (implOpOk_any _ _ _ _ _ _ _).mono ?_
  rintro e w2 ⟨rfl, hb2⟩
  rw [hk]
  replace hT := (hT.below ((Below.refl _ _).alloc (Nat.le_refl _) (.cells #[.string ⟨wd.toArray⟩, p0, .nilFunc, q0, p1, .nilFunc, q1, p2, .func (.func m2) #[] #[], q2, p3, .nilFunc, q3, u] 79))).below hb2
  obtain ⟨hc2, _⟩ := bcell hb2
  have hz2 := hb2.size
  simp at hz2
  have d0 : w2.cell? ⟨w.heap.size, 0, none⟩ = some (.int .i64 k) := by rw [hc2 _ _ (by simp <;> omega)]; simp [go_sem, c0, l0]
  have d1 : w2.cell? ⟨w.heap.size, 1, none⟩ = some (.int .i64 r) := by rw [hc2 _ _ (by simp <;> omega)]; simp [go_sem, c1, l0]
  have d2 : w2.cell? ⟨w.heap.size, 2, none⟩ = some (.int .i64 s) := by rw [hc2 _ _ (by simp <;> omega)]; simp [go_sem, c2, l0]
  have d3 : w2.cell? ⟨w.heap.size, 3, none⟩ = some (.int .i64 t) := by rw [hc2 _ _ (by simp <;> omega)]; simp [go_sem, c3, l0]
  have d4 : w2.cell? ⟨w.heap.size, 4, none⟩ = some (.int .i64 a) := by rw [hc2 _ _ (by simp <;> omega)]; simp [go_sem, c4, l0]
  have d5 : w2.cell? ⟨w.heap.size, 5, none⟩ = some (.int .i64 b) := by rw [hc2 _ _ (by simp <;> omega)]; simp [go_sem, c5, l0]
  have y0 : w2.cell? ⟨w1.heap.size, 0, none⟩ = some (.string ⟨wd.toArray⟩) := by rw [hc2 _ _ (by simp)]; simp [go_sem]
  have y1 : w2.cell? ⟨w1.heap.size, 1, none⟩ = some (p0) := by rw [hc2 _ _ (by simp)]; simp [go_sem]
  have y2 : w2.cell? ⟨w1.heap.size, 2, none⟩ = some (.nilFunc) := by rw [hc2 _ _ (by simp)]; simp [go_sem]
  have y3 : w2.cell? ⟨w1.heap.size, 3, none⟩ = some (q0) := by rw [hc2 _ _ (by simp)]; simp [go_sem]
  have y4 : w2.cell? ⟨w1.heap.size, 4, none⟩ = some (p1) := by rw [hc2 _ _ (by simp)]; simp [go_sem]
  have y5 : w2.cell? ⟨w1.heap.size, 5, none⟩ = some (.nilFunc) := by rw [hc2 _ _ (by simp)]; simp [go_sem]
  have y6 : w2.cell? ⟨w1.heap.size, 6, none⟩ = some (q1) := by rw [hc2 _ _ (by simp)]; simp [go_sem]
  have y7 : w2.cell? ⟨w1.heap.size, 7, none⟩ = some (p2) := by rw [hc2 _ _ (by simp)]; simp [go_sem]
  have y8 : w2.cell? ⟨w1.heap.size, 8, none⟩ = some (.func (.func m2) #[] #[]) := by rw [hc2 _ _ (by simp)]; simp [go_sem]
  have y9 : w2.cell? ⟨w1.heap.size, 9, none⟩ = some (q2) := by rw [hc2 _ _ (by simp)]; simp [go_sem]
  have y10 : w2.cell? ⟨w1.heap.size, 10, none⟩ = some (p3) := by rw [hc2 _ _ (by simp)]; simp [go_sem]
  have y11 : w2.cell? ⟨w1.heap.size, 11, none⟩ = some (.nilFunc) := by rw [hc2 _ _ (by simp)]; simp [go_sem]
  have y12 : w2.cell? ⟨w1.heap.size, 12, none⟩ = some (q3) := by rw [hc2 _ _ (by simp)]; simp [go_sem]
  have m0' : w.heap.size < w2.heap.size := by omega
  have hB2 : Below w.heap.size w w2 := (hB1.alloc (by omega) _).trans (hb2.mono (by simp <;> omega))
  clear hc2 hb2 l0 c0 c1 c2 c3 c4 c5
  have l0 := m0'
  clear m0'
  go_wp2_with fail
  refine wp_loop_rounds 5 ?_
  rw [rounds_succ]
  go_wp2_with (refine wpList_store_row rfl 75 (.tmp 7) (.tmp 27) rfl _ _ rfl rfl 75 _ (heap_new (by simp)) (by kernel_rfl) (by kernel_rfl) (by simp [oc_nil, o0, g0]) ?_; rw [setRow_new (by simp)])
  obtain ⟨w3, hw3⟩ : ∃ x, x = w2.alloc (.cells #[p0, .nilFunc, q0] 75) := ⟨_, rfl⟩
  rw [← hw3]
  have hz3 : w2.heap.size < w3.heap.size := by rw [hw3]; simp
  have e0 : w3.cell? ⟨w.heap.size, 0, none⟩ = some (.int .i64 k) := by rw [hw3]; simp [go_sem, d0, l0]
  have e1 : w3.cell? ⟨w.heap.size, 1, none⟩ = some (.int .i64 r) := by rw [hw3]; simp [go_sem, d1, l0]
  have e2 : w3.cell? ⟨w.heap.size, 2, none⟩ = some (.int .i64 s) := by rw [hw3]; simp [go_sem, d2, l0]
  have e3 : w3.cell? ⟨w.heap.size, 3, none⟩ = some (.int .i64 t) := by rw [hw3]; simp [go_sem, d3, l0]
  have e4 : w3.cell? ⟨w.heap.size, 4, none⟩ = some (.int .i64 a) := by rw [hw3]; simp [go_sem, d4, l0]
  have e5 : w3.cell? ⟨w.heap.size, 5, none⟩ = some (.int .i64 b) := by rw [hw3]; simp [go_sem, d5, l0]
  have m0' : w.heap.size < w3.heap.size := by omega
  have hb3 : Below w2.heap.size w2 w3 := by rw [hw3]; exact (Below.refl _ _).alloc (Nat.le_refl _) _
  have hB3 : Below w.heap.size w w3 := hB2.trans (hb3.mono (by omega))
  have hT' := hT.below hb3
  clear hw3 hb3
  clear d0 d1 d2 d3 d4 d5 l0 hT
  have d0 := e0
  have d1 := e1
  have d2 := e2
  have d3 := e3
  have d4 := e4
  have d5 := e5
  have l0 := m0'
  have hT := hT'
  clear m0' hT' e0 e1 e2 e3 e4 e5
  rw [rounds_succ]
  go_wp2_with (refine wpList_store_row rfl 75 (.tmp 7) (.tmp 27) rfl _ _ rfl rfl 75 _ (heap_new (by simp)) (by kernel_rfl) (by kernel_rfl) (by simp [oc_nil, o1, g1]) ?_; rw [setRow_new (by simp)])
  obtain ⟨w4, hw4⟩ : ∃ x, x = w3.alloc (.cells #[p1, .nilFunc, q1] 75) := ⟨_, rfl⟩
  rw [← hw4]
  have hz4 : w3.heap.size < w4.heap.size := by rw [hw4]; simp
  have e0 : w4.cell? ⟨w.heap.size, 0, none⟩ = some (.int .i64 k) := by rw [hw4]; simp [go_sem, d0, l0]
  have e1 : w4.cell? ⟨w.heap.size, 1, none⟩ = some (.int .i64 r) := by rw [hw4]; simp [go_sem, d1, l0]
  have e2 : w4.cell? ⟨w.heap.size, 2, none⟩ = some (.int .i64 s) := by rw [hw4]; simp [go_sem, d2, l0]
  have e3 : w4.cell? ⟨w.heap.size, 3, none⟩ = some (.int .i64 t) := by rw [hw4]; simp [go_sem, d3, l0]
  have e4 : w4.cell? ⟨w.heap.size, 4, none⟩ = some (.int .i64 a) := by rw [hw4]; simp [go_sem, d4, l0]
  have e5 : w4.cell? ⟨w.heap.size, 5, none⟩ = some (.int .i64 b) := by rw [hw4]; simp [go_sem, d5, l0]
  have m0' : w.heap.size < w4.heap.size := by omega
  have hb4 : Below w3.heap.size w3 w4 := by rw [hw4]; exact (Below.refl _ _).alloc (Nat.le_refl _) _
  have hB4 : Below w.heap.size w w4 := hB3.trans (hb4.mono (by omega))
  have hT' := hT.below hb4
  clear hw4 hb4
  clear d0 d1 d2 d3 d4 d5 l0 hT
  have d0 := e0
  have d1 := e1
  have d2 := e2
  have d3 := e3
  have d4 := e4
  have d5 := e5
  have l0 := m0'
  have hT := hT'
  clear m0' hT' e0 e1 e2 e3 e4 e5
  rw [rounds_succ]
  have hT2 := hT.below ((Below.refl _ _).alloc (Nat.le_refl _) (.cells #[p2, .func (.func m2) #[] #[], q2] 75))
  go_wp2_with (refine wpList_store_row rfl 75 (.tmp 7) (.tmp 27) rfl _ _ rfl rfl 75 _ (heap_new (by simp)) (by kernel_rfl) (by kernel_rfl) (by simp [oc_func, o2, g2]) ?_; rw [setRow_new (by simp)])
  refine (k2 _ hT2).mono ?_
  rintro e w5 ⟨rfl, hb5⟩
  have hT' := hT2.below hb5
  clear hT2
  obtain ⟨hc5, _⟩ := bcell hb5
  have hz5 := hb5.size
  simp at hz5
  have e0 : w5.cell? ⟨w.heap.size, 0, none⟩ = some (.int .i64 k) := by rw [hc5 _ _ (by simp <;> omega)]; simp [go_sem, d0, l0]
  have e1 : w5.cell? ⟨w.heap.size, 1, none⟩ = some (.int .i64 r) := by rw [hc5 _ _ (by simp <;> omega)]; simp [go_sem, d1, l0]
  have e2 : w5.cell? ⟨w.heap.size, 2, none⟩ = some (.int .i64 s) := by rw [hc5 _ _ (by simp <;> omega)]; simp [go_sem, d2, l0]
  have e3 : w5.cell? ⟨w.heap.size, 3, none⟩ = some (.int .i64 t) := by rw [hc5 _ _ (by simp <;> omega)]; simp [go_sem, d3, l0]
  have e4 : w5.cell? ⟨w.heap.size, 4, none⟩ = some (.int .i64 a) := by rw [hc5 _ _ (by simp <;> omega)]; simp [go_sem, d4, l0]
  have e5 : w5.cell? ⟨w.heap.size, 5, none⟩ = some (.int .i64 b) := by rw [hc5 _ _ (by simp <;> omega)]; simp [go_sem, d5, l0]
  have m0' : w.heap.size < w5.heap.size := by omega
  have hB5 : Below w.heap.size w w5 := (hB4.alloc (by omega) _).trans (hb5.mono (by simp <;> omega))
  clear hc5 hb5
  clear d0 d1 d2 d3 d4 d5 l0 hT
  have d0 := e0
  have d1 := e1
  have d2 := e2
  have d3 := e3
  have d4 := e4
  have d5 := e5
  have l0 := m0'
  have hT := hT'
  clear m0' hT' e0 e1 e2 e3 e4 e5
  have s1 : ¬ 9223372036854775807 < 1 + X2.length := by omega
  have s2 : ¬ 9223372036854775807 < wd.length + (1 + X2.length) := by omega
  go_wp2_with fail
  rw [cat1]
  obtain ⟨tx2, htx2⟩ : ∃ x, x = wd ++ 32 :: X2 := ⟨_, rfl⟩
  rw [← htx2]
  have lx2 : tx2.length ≤ wd.length + 21 := by rw [htx2]; simp; omega
  have hx2 : Hid (tx2 = wd ++ 32 :: X2) := htx2
  clear s1 s2 htx2
  rw [rounds_succ]
  go_wp2_with (refine wpList_store_row rfl 75 (.tmp 7) (.tmp 27) rfl _ _ rfl rfl 75 _ (heap_new (by simp)) (by kernel_rfl) (by kernel_rfl) (by simp [oc_nil, o3, g3]) ?_; rw [setRow_new (by simp)])
  obtain ⟨w6, hw6⟩ : ∃ x, x = w5.alloc (.cells #[p3, .nilFunc, q3] 75) := ⟨_, rfl⟩
  rw [← hw6]
  have hz6 : w5.heap.size < w6.heap.size := by rw [hw6]; simp
  have e0 : w6.cell? ⟨w.heap.size, 0, none⟩ = some (.int .i64 k) := by rw [hw6]; simp [go_sem, d0, l0]
  have e1 : w6.cell? ⟨w.heap.size, 1, none⟩ = some (.int .i64 r) := by rw [hw6]; simp [go_sem, d1, l0]
  have e2 : w6.cell? ⟨w.heap.size, 2, none⟩ = some (.int .i64 s) := by rw [hw6]; simp [go_sem, d2, l0]
  have e3 : w6.cell? ⟨w.heap.size, 3, none⟩ = some (.int .i64 t) := by rw [hw6]; simp [go_sem, d3, l0]
  have e4 : w6.cell? ⟨w.heap.size, 4, none⟩ = some (.int .i64 a) := by rw [hw6]; simp [go_sem, d4, l0]
  have e5 : w6.cell? ⟨w.heap.size, 5, none⟩ = some (.int .i64 b) := by rw [hw6]; simp [go_sem, d5, l0]
  have m0' : w.heap.size < w6.heap.size := by omega
  have hb6 : Below w5.heap.size w5 w6 := by rw [hw6]; exact (Below.refl _ _).alloc (Nat.le_refl _) _
  have hB6 : Below w.heap.size w w6 := hB5.trans (hb6.mono (by omega))
  have hT' := hT.below hb6
  clear hw6 hb6
  clear d0 d1 d2 d3 d4 d5 l0 hT
  have d0 := e0
  have d1 := e1
  have d2 := e2
  have d3 := e3
  have d4 := e4
  have d5 := e5
  have l0 := m0'
  have hT := hT'
  clear m0' hT' e0 e1 e2 e3 e4 e5
  rw [rounds_succ]
  go_wp2_with fail
  go_ret
  exact ⟨congrArg (fun x => Ending.returned (.string ⟨List.toArray x⟩)) (by rw [hx2.out]), hB6⟩
set_option maxRecDepth 20000 in
set_option maxHeartbeats 4000000 in
theorem implText_1011 {k r s t a b : Int} {wd : List UInt8} {p0 q0 p1 q1 p2 q2 p3 q3 : Value} {m0 m2 m3 : Nat} {X0 X2 X3 : List UInt8}
    (o0 : p0.oneCell' = true) (g0 : q0.oneCell' = true) (o1 : p1.oneCell' = true) (g1 : q1.oneCell' = true) (o2 : p2.oneCell' = true) (g2 : q2.oneCell' = true) (o3 : p3.oneCell' = true) (g3 : q3.oneCell' = true) (lw : wd.length ≤ 20) (hk : opB k r s t a b = true)
    (hF : ∀ w, Calls Tryz.prog 47 #[.int .i64 k] w fun e w' => (∃ u, e = .returned (.tuple #[.agg #[.string ⟨wd.toArray⟩, p0, .func (.func m0) #[] #[], q0, p1, .nilFunc, q1, p2, .func (.func m2) #[] #[], q2, p3, .func (.func m3) #[] #[], q3, u], .bool true]) ∧ u.oneCell' = true) ∧ Below w.heap.size w w')
    (b0 : X0.length ≤ 20) (n0 : ∀ args w, (callFunc m0 args).run Tryz.prog w = .ok (.enter m0 args) w) (k0 : ∀ w, Tab w → Calls Tryz.prog m0 #[.agg #[.int .i64 k, .int .i64 r, .int .i64 s, .int .i64 t, .int .i64 a, .int .i64 b]] w fun e w' => e = .returned (.string ⟨X0.toArray⟩) ∧ Below w.heap.size w w')
    (b2 : X2.length ≤ 20) (n2 : ∀ args w, (callFunc m2 args).run Tryz.prog w = .ok (.enter m2 args) w) (k2 : ∀ w, Tab w → Calls Tryz.prog m2 #[.agg #[.int .i64 k, .int .i64 r, .int .i64 s, .int .i64 t, .int .i64 a, .int .i64 b]] w fun e w' => e = .returned (.string ⟨X2.toArray⟩) ∧ Below w.heap.size w w')
    (b3 : X3.length ≤ 20) (n3 : ∀ args w, (callFunc m3 args).run Tryz.prog w = .ok (.enter m3 args) w) (k3 : ∀ w, Tab w → Calls Tryz.prog m3 #[.agg #[.int .i64 k, .int .i64 r, .int .i64 s, .int .i64 t, .int .i64 a, .int .i64 b]] w fun e w' => e = .returned (.string ⟨X3.toArray⟩) ∧ Below w.heap.size w w')
    (w : World) (hT : Tab w) :
    Calls Tryz.prog 26 #[.agg #[.int .i64 k, .int .i64 r, .int .i64 s, .int .i64 t, .int .i64 a, .int .i64 b]] w fun e w' => e = .returned (.string ⟨(wd ++ 32 :: X0 ++ 32 :: X2 ++ 32 :: X3).toArray⟩) ∧ Below w.heap.size w w' := by
  have i0 : ∀ w, (Instr.index 76 (.agg #[p0, .func (.func m0) #[] #[], q0, p1, .nilFunc, q1, p2, .func (.func m2) #[] #[], q2, p3, .func (.func m3) #[] #[], q3]) (.int .i64 0)).run Tryz.prog w = .ok (.agg #[p0, .func (.func m0) #[] #[], q0]) w := fun _ => by kernel_rfl
  have i1 : ∀ w, (Instr.index 76 (.agg #[p0, .func (.func m0) #[] #[], q0, p1, .nilFunc, q1, p2, .func (.func m2) #[] #[], q2, p3, .func (.func m3) #[] #[], q3]) (.int .i64 1)).run Tryz.prog w = .ok (.agg #[p1, .nilFunc, q1]) w := fun _ => by kernel_rfl
  have i2 : ∀ w, (Instr.index 76 (.agg #[p0, .func (.func m0) #[] #[], q0, p1, .nilFunc, q1, p2, .func (.func m2) #[] #[], q2, p3, .func (.func m3) #[] #[], q3]) (.int .i64 2)).run Tryz.prog w = .ok (.agg #[p2, .func (.func m2) #[] #[], q2]) w := fun _ => by kernel_rfl
  have i3 : ∀ w, (Instr.index 76 (.agg #[p0, .func (.func m0) #[] #[], q0, p1, .nilFunc, q1, p2, .func (.func m2) #[] #[], q2, p3, .func (.func m3) #[] #[], q3]) (.int .i64 3)).run Tryz.prog w = .ok (.agg #[p3, .func (.func m3) #[] #[], q3]) w := fun _ => by kernel_rfl
  have nq0 : ∀ w, (binOp .neq 44 (.func (.func m0) #[] #[]) .nilFunc).run Tryz.prog w = .ok (.bool true) w := fun _ => by kernel_rfl
  have nq2 : ∀ w, (binOp .neq 44 (.func (.func m2) #[] #[]) .nilFunc).run Tryz.prog w = .ok (.bool true) w := fun _ => by kernel_rfl
  have nq3 : ∀ w, (binOp .neq 44 (.func (.func m3) #[] #[]) .nilFunc).run Tryz.prog w = .ok (.bool true) w := fun _ => by kernel_rfl
  have nq : ∀ w, (binOp .neq 44 .nilFunc .nilFunc).run Tryz.prog w = .ok (.bool false) w := fun _ => by kernel_rfl
  go_enter Tryz.func26, Tryz.ntmps26
  go_wp2_with fail
  refine (hF _).mono ?_
  rintro e w1 ⟨⟨u, rfl, hu⟩, hb1⟩
  replace hT := (hT.below ((Below.refl _ _).alloc (Nat.le_refl _) (.cells #[.int .i64 k, .int .i64 r, .int .i64 s, .int .i64 t, .int .i64 a, .int .i64 b] 43))).below hb1
  obtain ⟨hc1, _⟩ := bcell hb1
  have hz1 := hb1.size
  simp at hz1
  have c0 : w1.cell? ⟨w.heap.size, 0, none⟩ = some (.int .i64 k) := by rw [hc1 _ _ (by simp)]; simp [go_sem]
  have c1 : w1.cell? ⟨w.heap.size, 1, none⟩ = some (.int .i64 r) := by rw [hc1 _ _ (by simp)]; simp [go_sem]
  have c2 : w1.cell? ⟨w.heap.size, 2, none⟩ = some (.int .i64 s) := by rw [hc1 _ _ (by simp)]; simp [go_sem]
  have c3 : w1.cell? ⟨w.heap.size, 3, none⟩ = some (.int .i64 t) := by rw [hc1 _ _ (by simp)]; simp [go_sem]
  have c4 : w1.cell? ⟨w.heap.size, 4, none⟩ = some (.int .i64 a) := by rw [hc1 _ _ (by simp)]; simp [go_sem]
  have c5 : w1.cell? ⟨w.heap.size, 5, none⟩ = some (.int .i64 b) := by rw [hc1 _ _ (by simp)]; simp [go_sem]
  have l0 : w.heap.size < w1.heap.size := by omega
  have hB1 : Below w.heap.size w w1 := ((Below.refl _ _).alloc (Nat.le_refl _) _).trans (hb1.mono (by simp))
  clear hc1 hb1
  go_wp2_with (refine wpList_store_row rfl 79 (.tmp 3) (.tmp 12) rfl _ _ rfl rfl 79 _ (heap_new (by simp)) (by kernel_rfl) (by kernel_rfl) (by simp [oc_func, oc_str, oc_nil, o0, g0, o1, g1, o2, g2, o3, g3, hu]) ?_; rw [setRow_new (by simp)])
  refine (implOpOk_any _ _ _ _ _ _ _).mono ?_
  rintro e w2 ⟨rfl, hb2⟩
  rw [hk]
  replace hT := (hT.below ((Below.refl _ _).alloc (Nat.le_refl _) (.cells #[.string ⟨wd.toArray⟩, p0, .func (.func m0) #[] #[], q0, p1, .nilFunc, q1, p2, .func (.func m2) #[] #[], q2, p3, .func (.func m3) #[] #[], q3, u] 79))).below hb2
  obtain ⟨hc2, _⟩ := bcell hb2
  have hz2 := hb2.size
  simp at hz2
  have d0 : w2.cell? ⟨w.heap.size, 0, none⟩ = some (.int .i64 k) := by rw [hc2 _ _ (by simp <;> omega)]; simp [go_sem, c0, l0]
  have d1 : w2.cell? ⟨w.heap.size, 1, none⟩ = some (.int .i64 r) := by rw [hc2 _ _ (by simp <;> omega)]; simp [go_sem, c1, l0]
  have d2 : w2.cell? ⟨w.heap.size, 2, none⟩ = some (.int .i64 s) := by rw [hc2 _ _ (by simp <;> omega)]; simp [go_sem, c2, l0]
  have d3 : w2.cell? ⟨w.heap.size, 3, none⟩ = some (.int .i64 t) := by rw [hc2 _ _ (by simp <;> omega)]; simp [go_sem, c3, l0]
  have d4 : w2.cell? ⟨w.heap.size, 4, none⟩ = some (.int .i64 a) := by rw [hc2 _ _ (by simp <;> omega)]; simp [go_sem, c4, l0]
  have d5 : w2.cell? ⟨w.heap.size, 5, none⟩ = some (.int .i64 b) := by rw [hc2 _ _ (by simp <;> omega)]; simp [go_sem, c5, l0]
  have y0 : w2.cell? ⟨w1.heap.size, 0, none⟩ = some (.string ⟨wd.toArray⟩) := by rw [hc2 _ _ (by simp)]; simp [go_sem]
  have y1 : w2.cell? ⟨w1.heap.size, 1, none⟩ = some (p0) := by rw [hc2 _ _ (by simp)]; simp [go_sem]
  have y2 : w2.cell? ⟨w1.heap.size, 2, none⟩ = some (.func (.func m0) #[] #[]) := by rw [hc2 _ _ (by simp)]; simp [go_sem]
  have y3 : w2.cell? ⟨w1.heap.size, 3, none⟩ = some (q0) := by rw [hc2 _ _ (by simp)]; simp [go_sem]
  have y4 : w2.cell? ⟨w1.heap.size, 4, none⟩ = some (p1) := by rw [hc2 _ _ (by simp)]; simp [go_sem]
  have y5 : w2.cell? ⟨w1.heap.size, 5, none⟩ = some (.nilFunc) := by rw [hc2 _ _ (by simp)]; simp [go_sem]
  have y6 : w2.cell? ⟨w1.heap.size, 6, none⟩ = some (q1) := by rw [hc2 _ _ (by simp)]; simp [go_sem]
  have y7 : w2.cell? ⟨w1.heap.size, 7, none⟩ = some (p2) := by rw [hc2 _ _ (by simp)]; simp [go_sem]
  have y8 : w2.cell? ⟨w1.heap.size, 8, none⟩ = some (.func (.func m2) #[] #[]) := by rw [hc2 _ _ (by simp)]; simp [go_sem]
  have y9 : w2.cell? ⟨w1.heap.size, 9, none⟩ = some (q2) := by rw [hc2 _ _ (by simp)]; simp [go_sem]
  have y10 : w2.cell? ⟨w1.heap.size, 10, none⟩ = some (p3) := by rw [hc2 _ _ (by simp)]; simp [go_sem]
  have y11 : w2.cell? ⟨w1.heap.size, 11, none⟩ = some (.func (.func m3) #[] #[]) := by rw [hc2 _ _ (by simp)]; simp [go_sem]
  have y12 : w2.cell? ⟨w1.heap.size, 12, none⟩ = some (q3) := by rw [hc2 _ _ (by simp)]; simp [go_sem]
  have m0' : w.heap.size < w2.heap.size := by omega
  have hB2 : Below w.heap.size w w2 := (hB1.alloc (by omega) _).trans (hb2.mono (by simp <;> omega))
  clear hc2 hb2 l0 c0 c1 c2 c3 c4 c5
  have l0 := m0'
  clear m0'
  go_wp2_with fail
  refine wp_loop_rounds 5 ?_
  rw [rounds_succ]
  have hT2 := hT.below ((Below.refl _ _).alloc (Nat.le_refl _) (.cells #[p0, .func (.func m0) #[] #[], q0] 75))
  go_wp2_with (refine wpList_store_row rfl 75 (.tmp 7) (.tmp 27) rfl _ _ rfl rfl 75 _ (heap_new (by simp)) (by kernel_rfl) (by kernel_rfl) (by simp [oc_func, o0, g0]) ?_; rw [setRow_new (by simp)])
  refine (k0 _ hT2).mono ?_
  rintro e w3 ⟨rfl, hb3⟩
  have hT' := hT2.below hb3
  clear hT2
  obtain ⟨hc3, _⟩ := bcell hb3
  have hz3 := hb3.size
  simp at hz3
  have e0 : w3.cell? ⟨w.heap.size, 0, none⟩ = some (.int .i64 k) := by rw [hc3 _ _ (by simp <;> omega)]; simp [go_sem, d0, l0]
  have e1 : w3.cell? ⟨w.heap.size, 1, none⟩ = some (.int .i64 r) := by rw [hc3 _ _ (by simp <;> omega)]; simp [go_sem, d1, l0]
  have e2 : w3.cell? ⟨w.heap.size, 2, none⟩ = some (.int .i64 s) := by rw [hc3 _ _ (by simp <;> omega)]; simp [go_sem, d2, l0]
  have e3 : w3.cell? ⟨w.heap.size, 3, none⟩ = some (.int .i64 t) := by rw [hc3 _ _ (by simp <;> omega)]; simp [go_sem, d3, l0]
  have e4 : w3.cell? ⟨w.heap.size, 4, none⟩ = some (.int .i64 a) := by rw [hc3 _ _ (by simp <;> omega)]; simp [go_sem, d4, l0]
  have e5 : w3.cell? ⟨w.heap.size, 5, none⟩ = some (.int .i64 b) := by rw [hc3 _ _ (by simp <;> omega)]; simp [go_sem, d5, l0]
  have m0' : w.heap.size < w3.heap.size := by omega
  have hB3 : Below w.heap.size w w3 := (hB2.alloc (by omega) _).trans (hb3.mono (by simp <;> omega))
  clear hc3 hb3
  clear d0 d1 d2 d3 d4 d5 l0 hT
  have d0 := e0
  have d1 := e1
  have d2 := e2
  have d3 := e3
  have d4 := e4
  have d5 := e5
  have l0 := m0'
  have hT := hT'
  clear m0' hT' e0 e1 e2 e3 e4 e5
  have s1 : ¬ 9223372036854775807 < 1 + X0.length := by omega
  have s2 : ¬ 9223372036854775807 < wd.length + (1 + X0.length) := by omega
  go_wp2_with fail
  rw [cat1]
  obtain ⟨tx0, htx0⟩ : ∃ x, x = wd ++ 32 :: X0 := ⟨_, rfl⟩
  rw [← htx0]
  have lx0 : tx0.length ≤ wd.length + 21 := by rw [htx0]; simp; omega
  have hx0 : Hid (tx0 = wd ++ 32 :: X0) := htx0
  clear s1 s2 htx0
  rw [rounds_succ]
  go_wp2_with (refine wpList_store_row rfl 75 (.tmp 7) (.tmp 27) rfl _ _ rfl rfl 75 _ (heap_new (by simp)) (by kernel_rfl) (by kernel_rfl) (by simp [oc_nil, o1, g1]) ?_; rw [setRow_new (by simp)])
  obtain ⟨w4, hw4⟩ : ∃ x, x = w3.alloc (.cells #[p1, .nilFunc, q1] 75) := ⟨_, rfl⟩
  rw [← hw4]
  have hz4 : w3.heap.size < w4.heap.size := by rw [hw4]; simp
  have e0 : w4.cell? ⟨w.heap.size, 0, none⟩ = some (.int .i64 k) := by rw [hw4]; simp [go_sem, d0, l0]
  have e1 : w4.cell? ⟨w.heap.size, 1, none⟩ = some (.int .i64 r) := by rw [hw4]; simp [go_sem, d1, l0]
  have e2 : w4.cell? ⟨w.heap.size, 2, none⟩ = some (.int .i64 s) := by rw [hw4]; simp [go_sem, d2, l0]
  have e3 : w4.cell? ⟨w.heap.size, 3, none⟩ = some (.int .i64 t) := by rw [hw4]; simp [go_sem, d3, l0]
  have e4 : w4.cell? ⟨w.heap.size, 4, none⟩ = some (.int .i64 a) := by rw [hw4]; simp [go_sem, d4, l0]
  have e5 : w4.cell? ⟨w.heap.size, 5, none⟩ = some (.int .i64 b) := by rw [hw4]; simp [go_sem, d5, l0]
  have m0' : w.heap.size < w4.heap.size := by omega
  have hb4 : Below w3.heap.size w3 w4 := by rw [hw4]; exact (Below.refl _ _).alloc (Nat.le_refl _) _
  have hB4 : Below w.heap.size w w4 := hB3.trans (hb4.mono (by omega))
  have hT' := hT.below hb4
  clear hw4 hb4
  clear d0 d1 d2 d3 d4 d5 l0 hT
  have d0 := e0
  have d1 := e1
  have d2 := e2
  have d3 := e3
  have d4 := e4
  have d5 := e5
  have l0 := m0'
  have hT := hT'
  clear m0' hT' e0 e1 e2 e3 e4 e5
  rw [rounds_succ]
  have hT2 := hT.below ((Below.refl _ _).alloc (Nat.le_refl _) (.cells #[p2, .func (.func m2) #[] #[], q2] 75))
  go_wp2_with (refine wpList_store_row rfl 75 (.tmp 7) (.tmp 27) rfl _ _ rfl rfl 75 _ (heap_new (by simp)) (by kernel_rfl) (by kernel_rfl) (by simp [oc_func, o2, g2]) ?_; rw [setRow_new (by simp)])
  refine (k2 _ hT2).mono ?_
  rintro e w5 ⟨rfl, hb5⟩
  have hT' := hT2.below hb5
  clear hT2
  obtain ⟨hc5, _⟩ := bcell hb5
  have hz5 := hb5.size
  simp at hz5
  have e0 : w5.cell? ⟨w.heap.size, 0, none⟩ = some (.int .i64 k) := by rw [hc5 _ _ (by simp <;> omega)]; simp [go_sem, d0, l0]
  have e1 : w5.cell? ⟨w.heap.size, 1, none⟩ = some (.int .i64 r) := by rw [hc5 _ _ (by simp <;> omega)]; simp [go_sem, d1, l0]
  have e2 : w5.cell? ⟨w.heap.size, 2, none⟩ = some (.int .i64 s) := by rw [hc5 _ _ (by simp <;> omega)]; simp [go_sem, d2, l0]
  have e3 : w5.cell? ⟨w.heap.size, 3, none⟩ = some (.int .i64 t) := by rw [hc5 _ _ (by simp <;> omega)]; simp [go_sem, d3, l0]
  have e4 : w5.cell? ⟨w.heap.size, 4, none⟩ = some (.int .i64 a) := by rw [hc5 _ _ (by simp <;> omega)]; simp [go_sem, d4, l0]
  have e5 : w5.cell? ⟨w.heap.size, 5, none⟩ = some (.int .i64 b) := by rw [hc5 _ _ (by simp <;> omega)]; simp [go_sem, d5, l0]
  have m0' : w.heap.size < w5.heap.size := by omega
  have hB5 : Below w.heap.size w w5 := (hB4.alloc (by omega) _).trans (hb5.mono (by simp <;> omega))
  clear hc5 hb5
  clear d0 d1 d2 d3 d4 d5 l0 hT
  have d0 := e0
  have d1 := e1
  have d2 := e2
  have d3 := e3
  have d4 := e4
  have d5 := e5
  have l0 := m0'
  have hT := hT'
  clear m0' hT' e0 e1 e2 e3 e4 e5
  have s1 : ¬ 9223372036854775807 < 1 + X2.length := by omega
  have s2 : ¬ 9223372036854775807 < tx0.length + (1 + X2.length) := by omega
  go_wp2_with fail
  rw [cat1]
  obtain ⟨tx2, htx2⟩ : ∃ x, x = tx0 ++ 32 :: X2 := ⟨_, rfl⟩
  rw [← htx2]
  have lx2 : tx2.length ≤ tx0.length + 21 := by rw [htx2]; simp; omega
  have hx2 : Hid (tx2 = tx0 ++ 32 :: X2) := htx2
  clear s1 s2 htx2
  rw [rounds_succ]
  have hT2 := hT.below ((Below.refl _ _).alloc (Nat.le_refl _) (.cells #[p3, .func (.func m3) #[] #[], q3] 75))
  go_wp2_with (refine wpList_store_row rfl 75 (.tmp 7) (.tmp 27) rfl _ _ rfl rfl 75 _ (heap_new (by simp)) (by kernel_rfl) (by kernel_rfl) (by simp [oc_func, o3, g3]) ?_; rw [setRow_new (by simp)])
  refine (k3 _ hT2).mono ?_
  rintro e w6 ⟨rfl, hb6⟩
  have hT' := hT2.below hb6
  clear hT2
  obtain ⟨hc6, _⟩ := bcell hb6
  have hz6 := hb6.size
  simp at hz6
  have e0 : w6.cell? ⟨w.heap.size, 0, none⟩ = some (.int .i64 k) := by rw [hc6 _ _ (by simp <;> omega)]; simp [go_sem, d0, l0]
  have e1 : w6.cell? ⟨w.heap.size, 1, none⟩ = some (.int .i64 r) := by rw [hc6 _ _ (by simp <;> omega)]; simp [go_sem, d1, l0]
  have e2 : w6.cell? ⟨w.heap.size, 2, none⟩ = some (.int .i64 s) := by rw [hc6 _ _ (by simp <;> omega)]; simp [go_sem, d2, l0]
  have e3 : w6.cell? ⟨w.heap.size, 3, none⟩ = some (.int .i64 t) := by rw [hc6 _ _ (by simp <;> omega)]; simp [go_sem, d3, l0]
  have e4 : w6.cell? ⟨w.heap.size, 4, none⟩ = some (.int .i64 a) := by rw [hc6 _ _ (by simp <;> omega)]; simp [go_sem, d4, l0]
  have e5 : w6.cell? ⟨w.heap.size, 5, none⟩ = some (.int .i64 b) := by rw [hc6 _ _ (by simp <;> omega)]; simp [go_sem, d5, l0]
  have m0' : w.heap.size < w6.heap.size := by omega
  have hB6 : Below w.heap.size w w6 := (hB5.alloc (by omega) _).trans (hb6.mono (by simp <;> omega))
  clear hc6 hb6
  clear d0 d1 d2 d3 d4 d5 l0 hT
  have d0 := e0
  have d1 := e1
  have d2 := e2
  have d3 := e3
  have d4 := e4
  have d5 := e5
  have l0 := m0'
  have hT := hT'
  clear m0' hT' e0 e1 e2 e3 e4 e5
  have s1 : ¬ 9223372036854775807 < 1 + X3.length := by omega
  have s2 : ¬ 9223372036854775807 < tx2.length + (1 + X3.length) := by omega
  go_wp2_with fail
  rw [cat1]
  obtain ⟨tx3, htx3⟩ : ∃ x, x = tx2 ++ 32 :: X3 := ⟨_, rfl⟩
  rw [← htx3]
  have lx3 : tx3.length ≤ tx2.length + 21 := by rw [htx3]; simp; omega
  have hx3 : Hid (tx3 = tx2 ++ 32 :: X3) := htx3
  clear s1 s2 htx3
  rw [rounds_succ]
  go_wp2_with fail
  go_ret
  exact ⟨congrArg (fun x => Ending.returned (.string ⟨List.toArray x⟩)) (by rw [hx3.out, hx2.out, hx0.out]), hB6⟩
set_option maxRecDepth 20000 in
set_option maxHeartbeats 4000000 in
theorem implText_0001 {k r s t a b : Int} {wd : List UInt8} {p0 q0 p1 q1 p2 q2 p3 q3 : Value} {m3 : Nat} {X3 : List UInt8}
    (o0 : p0.oneCell' = true) (g0 : q0.oneCell' = true) (o1 : p1.oneCell' = true) (g1 : q1.oneCell' = true) (o2 : p2.oneCell' = true) (g2 : q2.oneCell' = true) (o3 : p3.oneCell' = true) (g3 : q3.oneCell' = true) (lw : wd.length ≤ 20) (hk : opB k r s t a b = true)
    (hF : ∀ w, Calls Tryz.prog 47 #[.int .i64 k] w fun e w' => (∃ u, e = .returned (.tuple #[.agg #[.string ⟨wd.toArray⟩, p0, .nilFunc, q0, p1, .nilFunc, q1, p2, .nilFunc, q2, p3, .func (.func m3) #[] #[], q3, u], .bool true]) ∧ u.oneCell' = true) ∧ Below w.heap.size w w')
    (b3 : X3.length ≤ 20) (n3 : ∀ args w, (callFunc m3 args).run Tryz.prog w = .ok (.enter m3 args) w) (k3 : ∀ w, Tab w → Calls Tryz.prog m3 #[.agg #[.int .i64 k, .int .i64 r, .int .i64 s, .int .i64 t, .int .i64 a, .int .i64 b]] w fun e w' => e = .returned (.string ⟨X3.toArray⟩) ∧ Below w.heap.size w w')
    (w : World) (hT : Tab w) :
    Calls Tryz.prog 26 #[.agg #[.int .i64 k, .int .i64 r, .int .i64 s, .int .i64 t, .int .i64 a, .int .i64 b]] w fun e w' => e = .returned (.string ⟨(wd ++ 32 :: X3).toArray⟩) ∧ Below w.heap.size w w' := by
  have i0 : ∀ w, (Instr.index 76 (.agg #[p0, .nilFunc, q0, p1, .nilFunc, q1, p2, .nilFunc, q2, p3, .func (.func m3) #[] #[], q3]) (.int .i64 0)).run Tryz.prog w = .ok (.agg #[p0, .nilFunc, q0]) w := fun _ => by kernel_rfl
  have i1 : ∀ w, (Instr.index 76 (.agg #[p0, .nilFunc, q0, p1, .nilFunc, q1, p2, .nilFunc, q2, p3, .func (.func m3) #[] #[], q3]) (.int .i64 1)).run Tryz.prog w = .ok (.agg #[p1, .nilFunc, q1]) w := fun _ => by kernel_rfl
  have i2 : ∀ w, (Instr.index 76 (.agg #[p0, .nilFunc, q0, p1, .nilFunc, q1, p2, .nilFunc, q2, p3, .func (.func m3) #[] #[], q3]) (.int .i64 2)).run Tryz.prog w = .ok (.agg #[p2, .nilFunc, q2]) w := fun _ => by kernel_rfl
  have i3 : ∀ w, (Instr.index 76 (.agg #[p0, .nilFunc, q0, p1, .nilFunc, q1, p2, .nilFunc, q2, p3, .func (.func m3) #[] #[], q3]) (.int .i64 3)).run Tryz.prog w = .ok (.agg #[p3, .func (.func m3) #[] #[], q3]) w := fun _ => by kernel_rfl
  have nq3 : ∀ w, (binOp .neq 44 (.func (.func m3) #[] #[]) .nilFunc).run Tryz.prog w = .ok (.bool true) w := fun _ => by kernel_rfl
  have nq : ∀ w, (binOp .neq 44 .nilFunc .nilFunc).run Tryz.prog w = .ok (.bool false) w := fun _ => by kernel_rfl
  go_enter Tryz.func26, Tryz.ntmps26
  go_wp2_with fail
  refine (hF _).mono ?_
  rintro e w1 ⟨⟨u, rfl, hu⟩, hb1⟩
  replace hT := (hT.below ((Below.refl _ _).alloc (Nat.le_refl _) (.cells #[.int .i64 k, .int .i64 r, .int .i64 s, .int .i64 t, .int .i64 a, .int .i64 b] 43))).below hb1
  obtain ⟨hc1, _⟩ := bcell hb1
  have hz1 := hb1.size
  simp at hz1
  have c0 : w1.cell? ⟨w.heap.size, 0, none⟩ = some (.int .i64 k) := by rw [hc1 _ _ (by simp)]; simp [go_sem]
  have c1 : w1.cell? ⟨w.heap.size, 1, none⟩ = some (.int .i64 r) := by rw [hc1 _ _ (by simp)]; simp [go_sem]
  have c2 : w1.cell? ⟨w.heap.size, 2, none⟩ = some (.int .i64 s) := by rw [hc1 _ _ (by simp)]; simp [go_sem]
  have c3 : w1.cell? ⟨w.heap.size, 3, none⟩ = some (.int .i64 t) := by rw [hc1 _ _ (by simp)]; simp [go_sem]
  have c4 : w1.cell? ⟨w.heap.size, 4, none⟩ = some (.int .i64 a) := by rw [hc1 _ _ (by simp)]; simp [go_sem]
  have c5 : w1.cell? ⟨w.heap.size, 5, none⟩ = some (.int .i64 b) := by rw [hc1 _ _ (by simp)]; simp [go_sem]
  have l0 : w.heap.size < w1.heap.size := by omega
  have hB1 : Below w.heap.size w w1 := ((Below.refl _ _).alloc (Nat.le_refl _) _).trans (hb1.mono (by simp))
  clear hc1 hb1
  go_wp2_with (refine wpList_store_row rfl 79 (.tmp 3) (.tmp 12) rfl _ _ rfl rfl 79 _ (heap_new (by simp)) (by kernel_rfl) (by kernel_rfl) (by simp [oc_func, oc_str, oc_nil, o0, g0, o1, g1, o2, g2, o3, g3, hu]) ?_; rw [setRow_new (by simp)])
  refine (implOpOk_any _ _ _ _ _ _ _).mono ?_
  rintro e w2 ⟨rfl, hb2⟩
  rw [hk]
  replace hT := (hT.below ((Below.refl _ _).alloc (Nat.le_refl _) (.cells #[.string ⟨wd.toArray⟩, p0, .nilFunc, q0, p1, .nilFunc, q1, p2, .nilFunc, q2, p3, .func (.func m3) #[] #[], q3, u] 79))).below hb2
  obtain ⟨hc2, _⟩ := bcell hb2
  have hz2 := hb2.size
  simp at hz2
  have d0 : w2.cell? ⟨w.heap.size, 0, none⟩ = some (.int .i64 k) := by rw [hc2 _ _ (by simp <;> omega)]; simp [go_sem, c0, l0]
  have d1 : w2.cell? ⟨w.heap.size, 1, none⟩ = some (.int .i64 r) := by rw [hc2 _ _ (by simp <;> omega)]; simp [go_sem, c1, l0]
  have d2 : w2.cell? ⟨w.heap.size, 2, none⟩ = some (.int .i64 s) := by rw [hc2 _ _ (by simp <;> omega)]; simp [go_sem, c2, l0]
  have d3 : w2.cell? ⟨w.heap.size, 3, none⟩ = some (.int .i64 t) := by rw [hc2 _ _ (by simp <;> omega)]; simp [go_sem, c3, l0]
  have d4 : w2.cell? ⟨w.heap.size, 4, none⟩ = some (.int .i64 a) := by rw [hc2 _ _ (by simp <;> omega)]; simp [go_sem, c4, l0]
  have d5 : w2.cell? ⟨w.heap.size, 5, none⟩ = some (.int .i64 b) := by rw [hc2 _ _ (by simp <;> omega)]; simp [go_sem, c5, l0]
  have y0 : w2.cell? ⟨w1.heap.size, 0, none⟩ = some (.string ⟨wd.toArray⟩) := by rw [hc2 _ _ (by simp)]; simp [go_sem]
  have y1 : w2.cell? ⟨w1.heap.size, 1, none⟩ = some (p0) := by rw [hc2 _ _ (by simp)]; simp [go_sem]
  have y2 : w2.cell? ⟨w1.heap.size, 2, none⟩ = some (.nilFunc) := by rw [hc2 _ _ (by simp)]; simp [go_sem]
  have y3 : w2.cell? ⟨w1.heap.size, 3, none⟩ = some (q0) := by rw [hc2 _ _ (by simp)]; simp [go_sem]
  have y4 : w2.cell? ⟨w1.heap.size, 4, none⟩ = some (p1) := by rw [hc2 _ _ (by simp)]; simp [go_sem]
  have y5 : w2.cell? ⟨w1.heap.size, 5, none⟩ = some (.nilFunc) := by rw [hc2 _ _ (by simp)]; simp [go_sem]
  have y6 : w2.cell? ⟨w1.heap.size, 6, none⟩ = some (q1) := by rw [hc2 _ _ (by simp)]; simp [go_sem]
  have y7 : w2.cell? ⟨w1.heap.size, 7, none⟩ = some (p2) := by rw [hc2 _ _ (by simp)]; simp [go_sem]
  have y8 : w2.cell? ⟨w1.heap.size, 8, none⟩ = some (.nilFunc) := by rw [hc2 _ _ (by simp)]; simp [go_sem]
  have y9 : w2.cell? ⟨w1.heap.size, 9, none⟩ = some (q2) := by rw [hc2 _ _ (by simp)]; simp [go_sem]
  have y10 : w2.cell? ⟨w1.heap.size, 10, none⟩ = some (p3) := by rw [hc2 _ _ (by simp)]; simp [go_sem]
  have y11 : w2.cell? ⟨w1.heap.size, 11, none⟩ = some (.func (.func m3) #[] #[]) := by rw [hc2 _ _ (by simp)]; simp [go_sem]
  have y12 : w2.cell? ⟨w1.heap.size, 12, none⟩ = some (q3) := by rw [hc2 _ _ (by simp)]; simp [go_sem]
  have m0' : w.heap.size < w2.heap.size := by omega
  have hB2 : Below w.heap.size w w2 := (hB1.alloc (by omega) _).trans (hb2.mono (by simp <;> omega))
  clear hc2 hb2 l0 c0 c1 c2 c3 c4 c5
  have l0 := m0'
  clear m0'
  go_wp2_with fail
  refine wp_loop_rounds 5 ?_
  rw [rounds_succ]
  go_wp2_with (refine wpList_store_row rfl 75 (.tmp 7) (.tmp 27) rfl _ _ rfl rfl 75 _ (heap_new (by simp)) (by kernel_rfl) (by kernel_rfl) (by simp [oc_nil, o0, g0]) ?_; rw [setRow_new (by simp)])
  obtain ⟨w3, hw3⟩ : ∃ x, x = w2.alloc (.cells #[p0, .nilFunc, q0] 75) := ⟨_, rfl⟩
  rw [← hw3]
  have hz3 : w2.heap.size < w3.heap.size := by rw [hw3]; simp
  have e0 : w3.cell? ⟨w.heap.size, 0, none⟩ = some (.int .i64 k) := by rw [hw3]; simp [go_sem, d0, l0]
  have e1 : w3.cell? ⟨w.heap.size, 1, none⟩ = some (.int .i64 r) := by rw [hw3]; simp [go_sem, d1, l0]
  have e2 : w3.cell? ⟨w.heap.size, 2, none⟩ = some (.int .i64 s) := by rw [hw3]; simp [go_sem, d2, l0]
  have e3 : w3.cell? ⟨w.heap.size, 3, none⟩ = some (.int .i64 t) := by rw [hw3]; simp [go_sem, d3, l0]
  have e4 : w3.cell? ⟨w.heap.size, 4, none⟩ = some (.int .i64 a) := by rw [hw3]; simp [go_sem, d4, l0]
  have e5 : w3.cell? ⟨w.heap.size, 5, none⟩ = some (.int .i64 b) := by rw [hw3]; simp [go_sem, d5, l0]
  have m0' : w.heap.size < w3.heap.size := by omega
  have hb3 : Below w2.heap.size w2 w3 := by rw [hw3]; exact (Below.refl _ _).alloc (Nat.le_refl _) _
  have hB3 : Below w.heap.size w w3 := hB2.trans (hb3.mono (by omega))
  have hT' := hT.below hb3
  clear hw3 hb3
  clear d0 d1 d2 d3 d4 d5 l0 hT
  have d0 := e0
  have d1 := e1
  have d2 := e2
  have d3 := e3
  have d4 := e4
  have d5 := e5
  have l0 := m0'
  have hT := hT'
  clear m0' hT' e0 e1 e2 e3 e4 e5
  rw [rounds_succ]
  go_wp2_with (refine wpList_store_row rfl 75 (.tmp 7) (.tmp 27) rfl _ _ rfl rfl 75 _ (heap_new (by simp)) (by kernel_rfl) (by kernel_rfl) (by simp [oc_nil, o1, g1]) ?_; rw [setRow_new (by simp)])
  obtain ⟨w4, hw4⟩ : ∃ x, x = w3.alloc (.cells #[p1, .nilFunc, q1] 75) := ⟨_, rfl⟩
  rw [← hw4]
  have hz4 : w3.heap.size < w4.heap.size := by rw [hw4]; simp
  have e0 : w4.cell? ⟨w.heap.size, 0, none⟩ = some (.int .i64 k) := by rw [hw4]; simp [go_sem, d0, l0]
  have e1 : w4.cell? ⟨w.heap.size, 1, none⟩ = some (.int .i64 r) := by rw [hw4]; simp [go_sem, d1, l0]
  have e2 : w4.cell? ⟨w.heap.size, 2, none⟩ = some (.int .i64 s) := by rw [hw4]; simp [go_sem, d2, l0]
  have e3 : w4.cell? ⟨w.heap.size, 3, none⟩ = some (.int .i64 t) := by rw [hw4]; simp [go_sem, d3, l0]
  have e4 : w4.cell? ⟨w.heap.size, 4, none⟩ = some (.int .i64 a) := by rw [hw4]; simp [go_sem, d4, l0]
  have e5 : w4.cell? ⟨w.heap.size, 5, none⟩ = some (.int .i64 b) := by rw [hw4]; simp [go_sem, d5, l0]
  have m0' : w.heap.size < w4.heap.size := by omega
  have hb4 : Below w3.heap.size w3 w4 := by rw [hw4]; exact (Below.refl _ _).alloc (Nat.le_refl _) _
  have hB4 : Below w.heap.size w w4 := hB3.trans (hb4.mono (by omega))
  have hT' := hT.below hb4
  clear hw4 hb4
  clear d0 d1 d2 d3 d4 d5 l0 hT
  have d0 := e0
  have d1 := e1
  have d2 := e2
  have d3 := e3
  have d4 := e4
  have d5 := e5
  have l0 := m0'
  have hT := hT'
  clear m0' hT' e0 e1 e2 e3 e4 e5
  rw [rounds_succ]
  go_wp2_with (refine wpList_store_row rfl 75 (.tmp 7) (.tmp 27) rfl _ _ rfl rfl 75 _ (heap_new (by simp)) (by kernel_rfl) (by kernel_rfl) (by simp [oc_nil, o2, g2]) ?_; rw [setRow_new (by simp)])
  obtain ⟨w5, hw5⟩ : ∃ x, x = w4.alloc (.cells #[p2, .nilFunc, q2] 75) := ⟨_, rfl⟩
  rw [← hw5]
  have hz5 : w4.heap.size < w5.heap.size := by rw [hw5]; simp
  have e0 : w5.cell? ⟨w.heap.size, 0, none⟩ = some (.int .i64 k) := by rw [hw5]; simp [go_sem, d0, l0]
  have e1 : w5.cell? ⟨w.heap.size, 1, none⟩ = some (.int .i64 r) := by rw [hw5]; simp [go_sem, d1, l0]
  have e2 : w5.cell? ⟨w.heap.size, 2, none⟩ = some (.int .i64 s) := by rw [hw5]; simp [go_sem, d2, l0]
  have e3 : w5.cell? ⟨w.heap.size, 3, none⟩ = some (.int .i64 t) := by rw [hw5]; simp [go_sem, d3, l0]
  have e4 : w5.cell? ⟨w.heap.size, 4, none⟩ = some (.int .i64 a) := by rw [hw5]; simp [go_sem, d4, l0]
  have e5 : w5.cell? ⟨w.heap.size, 5, none⟩ = some (.int .i64 b) := by rw [hw5]; simp [go_sem, d5, l0]
  have m0' : w.heap.size < w5.heap.size := by omega
  have hb5 : Below w4.heap.size w4 w5 := by rw [hw5]; exact (Below.refl _ _).alloc (Nat.le_refl _) _
  have hB5 : Below w.heap.size w w5 := hB4.trans (hb5.mono (by omega))
  have hT' := hT.below hb5
  clear hw5 hb5
  clear d0 d1 d2 d3 d4 d5 l0 hT
  have d0 := e0
  have d1 := e1
  have d2 := e2
  have d3 := e3
  have d4 := e4
  have d5 := e5
  have l0 := m0'
  have hT := hT'
  clear m0' hT' e0 e1 e2 e3 e4 e5
  rw [rounds_succ]
  have hT2 := hT.below ((Below.refl _ _).alloc (Nat.le_refl _) (.cells #[p3, .func (.func m3) #[] #[], q3] 75))
  go_wp2_with (refine wpList_store_row rfl 75 (.tmp 7) (.tmp 27) rfl _ _ rfl rfl 75 _ (heap_new (by simp)) (by kernel_rfl) (by kernel_rfl) (by simp [oc_func, o3, g3]) ?_; rw [setRow_new (by simp)])
  refine (k3 _ hT2).mono ?_
  rintro e w6 ⟨rfl, hb6⟩
  have hT' := hT2.below hb6
  clear hT2
  obtain ⟨hc6, _⟩ := bcell hb6
  have hz6 := hb6.size
  simp at hz6
  have e0 : w6.cell? ⟨w.heap.size, 0, none⟩ = some (.int .i64 k) := by rw [hc6 _ _ (by simp <;> omega)]; simp [go_sem, d0, l0]
  have e1 : w6.cell? ⟨w.heap.size, 1, none⟩ = some (.int .i64 r) := by rw [hc6 _ _ (by simp <;> omega)]; simp [go_sem, d1, l0]
  have e2 : w6.cell? ⟨w.heap.size, 2, none⟩ = some (.int .i64 s) := by rw [hc6 _ _ (by simp <;> omega)]; simp [go_sem, d2, l0]
  have e3 : w6.cell? ⟨w.heap.size, 3, none⟩ = some (.int .i64 t) := by rw [hc6 _ _ (by simp <;> omega)]; simp [go_sem, d3, l0]
  have e4 : w6.cell? ⟨w.heap.size, 4, none⟩ = some (.int .i64 a) := by rw [hc6 _ _ (by simp <;> omega)]; simp [go_sem, d4, l0]
  have e5 : w6.cell? ⟨w.heap.size, 5, none⟩ = some (.int .i64 b) := by rw [hc6 _ _ (by simp <;> omega)]; simp [go_sem, d5, l0]
  have m0' : w.heap.size < w6.heap.size := by omega
  have hB6 : Below w.heap.size w w6 := (hB5.alloc (by omega) _).trans (hb6.mono (by simp <;> omega))
  clear hc6 hb6
  clear d0 d1 d2 d3 d4 d5 l0 hT
  have d0 := e0
  have d1 := e1
  have d2 := e2
  have d3 := e3
  have d4 := e4
  have d5 := e5
  have l0 := m0'
  have hT := hT'
  clear m0' hT' e0 e1 e2 e3 e4 e5
  have s1 : ¬ 9223372036854775807 < 1 + X3.length := by omega
  have s2 : ¬ 9223372036854775807 < wd.length + (1 + X3.length) := by omega
  go_wp2_with fail
  rw [cat1]
  obtain ⟨tx3, htx3⟩ : ∃ x, x = wd ++ 32 :: X3 := ⟨_, rfl⟩
  rw [← htx3]
  have lx3 : tx3.length ≤ wd.length + 21 := by rw [htx3]; simp; omega
  have hx3 : Hid (tx3 = wd ++ 32 :: X3) := htx3
  clear s1 s2 htx3
  rw [rounds_succ]
  go_wp2_with fail
  go_ret
  exact ⟨congrArg (fun x => Ending.returned (.string ⟨List.toArray x⟩)) (by rw [hx3.out]), hB6⟩
theorem tellR_any (k r s t a b : Int) (h1 : -99 ≤ r) (h2 : r ≤ 99) (w : World) (hT : Tab w) : Calls Tryz.prog 74 #[.agg #[.int .i64 k, .int .i64 r, .int .i64 s, .int .i64 t, .int .i64 a, .int .i64 b]] w fun e w' => e = .returned (.string ⟨(Lib.itoa r).toArray⟩) ∧ Below w.heap.size w w' := by
  have hT1 := hT.below ((Below.refl _ _).alloc (Nat.le_refl _) (.cells #[.int .i64 k, .int .i64 r, .int .i64 s, .int .i64 t, .int .i64 a, .int .i64 b] 43))
  go_enter Tryz.func74, Tryz.ntmps74
  go_wp2_with fail
  refine (itoa_any _ (by omega) (by omega) _ hT1).mono ?_
  rintro e w1 ⟨rfl, hb1⟩
  go_wp2_with fail
  go_ret
  exact ⟨rfl, ((Below.refl _ _).alloc (Nat.le_refl _) _).trans (hb1.mono (by simp))⟩
theorem en_tellR : ∀ args w, (callFunc 74 args).run Tryz.prog w = .ok (.enter 74 args) w := enters_of Tryz.func74 (by kernel_rfl) rfl
theorem tellS_any (k r s t a b : Int) (h1 : -99 ≤ s) (h2 : s ≤ 99) (w : World) (hT : Tab w) : Calls Tryz.prog 78 #[.agg #[.int .i64 k, .int .i64 r, .int .i64 s, .int .i64 t, .int .i64 a, .int .i64 b]] w fun e w' => e = .returned (.string ⟨(Lib.itoa s).toArray⟩) ∧ Below w.heap.size w w' := by
  have hT1 := hT.below ((Below.refl _ _).alloc (Nat.le_refl _) (.cells #[.int .i64 k, .int .i64 r, .int .i64 s, .int .i64 t, .int .i64 a, .int .i64 b] 43))
  go_enter Tryz.func78, Tryz.ntmps78
  go_wp2_with fail
  refine (itoa_any _ (by omega) (by omega) _ hT1).mono ?_
  rintro e w1 ⟨rfl, hb1⟩
  go_wp2_with fail
  go_ret
  exact ⟨rfl, ((Below.refl _ _).alloc (Nat.le_refl _) _).trans (hb1.mono (by simp))⟩
theorem en_tellS : ∀ args w, (callFunc 78 args).run Tryz.prog w = .ok (.enter 78 args) w := enters_of Tryz.func78 (by kernel_rfl) rfl
theorem tellTo_any (k r s t a b : Int) (h1 : -99 ≤ t) (h2 : t ≤ 99) (w : World) (hT : Tab w) : Calls Tryz.prog 82 #[.agg #[.int .i64 k, .int .i64 r, .int .i64 s, .int .i64 t, .int .i64 a, .int .i64 b]] w fun e w' => e = .returned (.string ⟨(Lib.itoa t).toArray⟩) ∧ Below w.heap.size w w' := by
  have hT1 := hT.below ((Below.refl _ _).alloc (Nat.le_refl _) (.cells #[.int .i64 k, .int .i64 r, .int .i64 s, .int .i64 t, .int .i64 a, .int .i64 b] 43))
  go_enter Tryz.func82, Tryz.ntmps82
  go_wp2_with fail
  refine (itoa_any _ (by omega) (by omega) _ hT1).mono ?_
  rintro e w1 ⟨rfl, hb1⟩
  go_wp2_with fail
  go_ret
  exact ⟨rfl, ((Below.refl _ _).alloc (Nat.le_refl _) _).trans (hb1.mono (by simp))⟩
theorem en_tellTo : ∀ args w, (callFunc 82 args).run Tryz.prog w = .ok (.enter 82 args) w := enters_of Tryz.func82 (by kernel_rfl) rfl
theorem tellV_any (k r s t a b : Int) (w : World) (hT : Tab w) : Calls Tryz.prog 86 #[.agg #[.int .i64 k, .int .i64 r, .int .i64 s, .int .i64 t, .int .i64 a, .int .i64 b]] w fun e w' => e = .returned (.string ⟨(txt a b).toArray⟩) ∧ Below w.heap.size w w' := by
  have hT1 := hT.below ((Below.refl _ _).alloc (Nat.le_refl _) (.cells #[.int .i64 k, .int .i64 r, .int .i64 s, .int .i64 t, .int .i64 a, .int .i64 b] 43))
  go_enter Tryz.func86, Tryz.ntmps86
  go_wp2_with fail
  refine (implText_any _ _ _ hT1).mono ?_
  rintro e w1 ⟨rfl, hb1⟩
  go_wp2_with fail
  go_ret
  exact ⟨rfl, ((Below.refl _ _).alloc (Nat.le_refl _) _).trans (hb1.mono (by simp))⟩
theorem en_tellV : ∀ args w, (callFunc 86 args).run Tryz.prog w = .ok (.enter 86 args) w := enters_of Tryz.func86 (by kernel_rfl) rfl
theorem itoa_len' (n : Int) (h1 : -99 ≤ n) (h2 : n ≤ 99) : (Lib.itoa n).length ≤ 20 := by
  have := itoa_len n h1 h2; omega
theorem txt_len' {k n : Int} (h : okB k n = true) : (txt k n).length ≤ 20 := by
  have := txt_len h; omega
theorem implOpText_1 (r s t a b : Int) (h : opB 1 r s t a b = true) (w : World) (hT : Tab w) :
    Calls Tryz.prog 26 #[.agg #[.int .i64 1, .int .i64 r, .int .i64 s, .int .i64 t, .int .i64 a, .int .i64 b]] w fun e w' => e = .returned (.string ⟨(opTxt 1 r s t a b).toArray⟩) ∧ Below w.heap.size w w' := by
  have o := opIs_of h
  rw [opTxt_ok h]
  have c := implText_1001 (wd := word 1) (k := 1) (r := r) (s := s) (t := t) (a := a) (b := b) rfl rfl rfl rfl rfl rfl rfl rfl (by decide) h (fun w => (formOf_any 1 w (by decide) (by decide)).mono fun e w' ⟨hb, x, y, z, he, _⟩ => ⟨⟨_, he.trans (by rw [row_1]; rfl), rfl⟩, hb⟩)
    (itoa_len' r (by have := o.r1; omega) (by have := o.r2; omega)) en_tellR (tellR_any _ _ _ _ _ _ (by have := o.r1; omega) (by have := o.r2; omega)) (txt_len' o.v) en_tellV (tellV_any _ _ _ _ _ _) w hT
  simpa [opTail, part, show fR 1 = true from rfl, show fS 1 = false from rfl, show fT 1 = false from rfl, show fV 1 = true from rfl] using c
theorem implOpText_2 (r s t a b : Int) (h : opB 2 r s t a b = true) (w : World) (hT : Tab w) :
    Calls Tryz.prog 26 #[.agg #[.int .i64 2, .int .i64 r, .int .i64 s, .int .i64 t, .int .i64 a, .int .i64 b]] w fun e w' => e = .returned (.string ⟨(opTxt 2 r s t a b).toArray⟩) ∧ Below w.heap.size w w' := by
  have o := opIs_of h
  rw [opTxt_ok h]
  have c := implText_1100 (wd := word 2) (k := 2) (r := r) (s := s) (t := t) (a := a) (b := b) rfl rfl rfl rfl rfl rfl rfl rfl (by decide) h (fun w => (formOf_any 2 w (by decide) (by decide)).mono fun e w' ⟨hb, x, y, z, he, _⟩ => ⟨⟨_, he.trans (by rw [row_2]; rfl), rfl⟩, hb⟩)
    (itoa_len' r (by have := o.r1; omega) (by have := o.r2; omega)) en_tellR (tellR_any _ _ _ _ _ _ (by have := o.r1; omega) (by have := o.r2; omega)) (itoa_len' s (by have := o.s1; omega) (by have := o.s2; omega)) en_tellS (tellS_any _ _ _ _ _ _ (by have := o.s1; omega) (by have := o.s2; omega)) w hT
  simpa [opTail, part, show fR 2 = true from rfl, show fS 2 = true from rfl, show fT 2 = false from rfl, show fV 2 = false from rfl] using c
theorem implOpText_3 (r s t a b : Int) (h : opB 3 r s t a b = true) (w : World) (hT : Tab w) :
    Calls Tryz.prog 26 #[.agg #[.int .i64 3, .int .i64 r, .int .i64 s, .int .i64 t, .int .i64 a, .int .i64 b]] w fun e w' => e = .returned (.string ⟨(opTxt 3 r s t a b).toArray⟩) ∧ Below w.heap.size w w' := by
  have o := opIs_of h
  rw [opTxt_ok h]
  have c := implText_1100 (wd := word 3) (k := 3) (r := r) (s := s) (t := t) (a := a) (b := b) rfl rfl rfl rfl rfl rfl rfl rfl (by decide) h (fun w => (formOf_any 3 w (by decide) (by decide)).mono fun e w' ⟨hb, x, y, z, he, _⟩ => ⟨⟨_, he.trans (by rw [row_3]; rfl), rfl⟩, hb⟩)
    (itoa_len' r (by have := o.r1; omega) (by have := o.r2; omega)) en_tellR (tellR_any _ _ _ _ _ _ (by have := o.r1; omega) (by have := o.r2; omega)) (itoa_len' s (by have := o.s1; omega) (by have := o.s2; omega)) en_tellS (tellS_any _ _ _ _ _ _ (by have := o.s1; omega) (by have := o.s2; omega)) w hT
  simpa [opTail, part, show fR 3 = true from rfl, show fS 3 = true from rfl, show fT 3 = false from rfl, show fV 3 = false from rfl] using c
theorem implOpText_4 (r s t a b : Int) (h : opB 4 r s t a b = true) (w : World) (hT : Tab w) :
    Calls Tryz.prog 26 #[.agg #[.int .i64 4, .int .i64 r, .int .i64 s, .int .i64 t, .int .i64 a, .int .i64 b]] w fun e w' => e = .returned (.string ⟨(opTxt 4 r s t a b).toArray⟩) ∧ Below w.heap.size w w' := by
  have o := opIs_of h
  rw [opTxt_ok h]
  have c := implText_1000 (wd := word 4) (k := 4) (r := r) (s := s) (t := t) (a := a) (b := b) rfl rfl rfl rfl rfl rfl rfl rfl (by decide) h (fun w => (formOf_any 4 w (by decide) (by decide)).mono fun e w' ⟨hb, x, y, z, he, _⟩ => ⟨⟨_, he.trans (by rw [row_4]; rfl), rfl⟩, hb⟩)
    (itoa_len' r (by have := o.r1; omega) (by have := o.r2; omega)) en_tellR (tellR_any _ _ _ _ _ _ (by have := o.r1; omega) (by have := o.r2; omega)) w hT
  simpa [opTail, part, show fR 4 = true from rfl, show fS 4 = false from rfl, show fT 4 = false from rfl, show fV 4 = false from rfl] using c
theorem implOpText_5 (r s t a b : Int) (h : opB 5 r s t a b = true) (w : World) (hT : Tab w) :
    Calls Tryz.prog 26 #[.agg #[.int .i64 5, .int .i64 r, .int .i64 s, .int .i64 t, .int .i64 a, .int .i64 b]] w fun e w' => e = .returned (.string ⟨(opTxt 5 r s t a b).toArray⟩) ∧ Below w.heap.size w w' := by
  have o := opIs_of h
  rw [opTxt_ok h]
  have c := implText_1010 (wd := word 5) (k := 5) (r := r) (s := s) (t := t) (a := a) (b := b) rfl rfl rfl rfl rfl rfl rfl rfl (by decide) h (fun w => (formOf_any 5 w (by decide) (by decide)).mono fun e w' ⟨hb, x, y, z, he, _⟩ => ⟨⟨_, he.trans (by rw [row_5]; rfl), rfl⟩, hb⟩)
    (itoa_len' r (by have := o.r1; omega) (by have := o.r2; omega)) en_tellR (tellR_any _ _ _ _ _ _ (by have := o.r1; omega) (by have := o.r2; omega)) (itoa_len' t (by have := o.t1; omega) (by have := o.t2; omega)) en_tellTo (tellTo_any _ _ _ _ _ _ (by have := o.t1; omega) (by have := o.t2; omega)) w hT
  simpa [opTail, part, show fR 5 = true from rfl, show fS 5 = false from rfl, show fT 5 = true from rfl, show fV 5 = false from rfl] using c
theorem implOpText_6 (r s t a b : Int) (h : opB 6 r s t a b = true) (w : World) (hT : Tab w) :
    Calls Tryz.prog 26 #[.agg #[.int .i64 6, .int .i64 r, .int .i64 s, .int .i64 t, .int .i64 a, .int .i64 b]] w fun e w' => e = .returned (.string ⟨(opTxt 6 r s t a b).toArray⟩) ∧ Below w.heap.size w w' := by
  have o := opIs_of h
  rw [opTxt_ok h]
  have c := implText_1100 (wd := word 6) (k := 6) (r := r) (s := s) (t := t) (a := a) (b := b) rfl rfl rfl rfl rfl rfl rfl rfl (by decide) h (fun w => (formOf_any 6 w (by decide) (by decide)).mono fun e w' ⟨hb, x, y, z, he, _⟩ => ⟨⟨_, he.trans (by rw [row_6]; rfl), rfl⟩, hb⟩)
    (itoa_len' r (by have := o.r1; omega) (by have := o.r2; omega)) en_tellR (tellR_any _ _ _ _ _ _ (by have := o.r1; omega) (by have := o.r2; omega)) (itoa_len' s (by have := o.s1; omega) (by have := o.s2; omega)) en_tellS (tellS_any _ _ _ _ _ _ (by have := o.s1; omega) (by have := o.s2; omega)) w hT
  simpa [opTail, part, show fR 6 = true from rfl, show fS 6 = true from rfl, show fT 6 = false from rfl, show fV 6 = false from rfl] using c
theorem implOpText_7 (r s t a b : Int) (h : opB 7 r s t a b = true) (w : World) (hT : Tab w) :
    Calls Tryz.prog 26 #[.agg #[.int .i64 7, .int .i64 r, .int .i64 s, .int .i64 t, .int .i64 a, .int .i64 b]] w fun e w' => e = .returned (.string ⟨(opTxt 7 r s t a b).toArray⟩) ∧ Below w.heap.size w w' := by
  have o := opIs_of h
  rw [opTxt_ok h]
  have c := implText_1100 (wd := word 7) (k := 7) (r := r) (s := s) (t := t) (a := a) (b := b) rfl rfl rfl rfl rfl rfl rfl rfl (by decide) h (fun w => (formOf_any 7 w (by decide) (by decide)).mono fun e w' ⟨hb, x, y, z, he, _⟩ => ⟨⟨_, he.trans (by rw [row_7]; rfl), rfl⟩, hb⟩)
    (itoa_len' r (by have := o.r1; omega) (by have := o.r2; omega)) en_tellR (tellR_any _ _ _ _ _ _ (by have := o.r1; omega) (by have := o.r2; omega)) (itoa_len' s (by have := o.s1; omega) (by have := o.s2; omega)) en_tellS (tellS_any _ _ _ _ _ _ (by have := o.s1; omega) (by have := o.s2; omega)) w hT
  simpa [opTail, part, show fR 7 = true from rfl, show fS 7 = true from rfl, show fT 7 = false from rfl, show fV 7 = false from rfl] using c
theorem implOpText_8 (r s t a b : Int) (h : opB 8 r s t a b = true) (w : World) (hT : Tab w) :
    Calls Tryz.prog 26 #[.agg #[.int .i64 8, .int .i64 r, .int .i64 s, .int .i64 t, .int .i64 a, .int .i64 b]] w fun e w' => e = .returned (.string ⟨(opTxt 8 r s t a b).toArray⟩) ∧ Below w.heap.size w w' := by
  have o := opIs_of h
  rw [opTxt_ok h]
  have c := implText_1111 (wd := word 8) (k := 8) (r := r) (s := s) (t := t) (a := a) (b := b) rfl rfl rfl rfl rfl rfl rfl rfl (by decide) h (fun w => (formOf_any 8 w (by decide) (by decide)).mono fun e w' ⟨hb, x, y, z, he, _⟩ => ⟨⟨_, he.trans (by rw [row_8]; rfl), rfl⟩, hb⟩)
    (itoa_len' r (by have := o.r1; omega) (by have := o.r2; omega)) en_tellR (tellR_any _ _ _ _ _ _ (by have := o.r1; omega) (by have := o.r2; omega)) (itoa_len' s (by have := o.s1; omega) (by have := o.s2; omega)) en_tellS (tellS_any _ _ _ _ _ _ (by have := o.s1; omega) (by have := o.s2; omega)) (itoa_len' t (by have := o.t1; omega) (by have := o.t2; omega)) en_tellTo (tellTo_any _ _ _ _ _ _ (by have := o.t1; omega) (by have := o.t2; omega)) (txt_len' o.v) en_tellV (tellV_any _ _ _ _ _ _) w hT
  simpa [opTail, part, show fR 8 = true from rfl, show fS 8 = true from rfl, show fT 8 = true from rfl, show fV 8 = true from rfl] using c
theorem implOpText_9 (r s t a b : Int) (h : opB 9 r s t a b = true) (w : World) (hT : Tab w) :
    Calls Tryz.prog 26 #[.agg #[.int .i64 9, .int .i64 r, .int .i64 s, .int .i64 t, .int .i64 a, .int .i64 b]] w fun e w' => e = .returned (.string ⟨(opTxt 9 r s t a b).toArray⟩) ∧ Below w.heap.size w w' := by
  have o := opIs_of h
  rw [opTxt_ok h]
  have c := implText_0010 (wd := word 9) (k := 9) (r := r) (s := s) (t := t) (a := a) (b := b) rfl rfl rfl rfl rfl rfl rfl rfl (by decide) h (fun w => (formOf_any 9 w (by decide) (by decide)).mono fun e w' ⟨hb, x, y, z, he, _⟩ => ⟨⟨_, he.trans (by rw [row_9]; rfl), rfl⟩, hb⟩)
    (itoa_len' t (by have := o.t1; omega) (by have := o.t2; omega)) en_tellTo (tellTo_any _ _ _ _ _ _ (by have := o.t1; omega) (by have := o.t2; omega)) w hT
  simpa [opTail, part, show fR 9 = false from rfl, show fS 9 = false from rfl, show fT 9 = true from rfl, show fV 9 = false from rfl] using c
theorem implOpText_10 (r s t a b : Int) (h : opB 10 r s t a b = true) (w : World) (hT : Tab w) :
    Calls Tryz.prog 26 #[.agg #[.int .i64 10, .int .i64 r, .int .i64 s, .int .i64 t, .int .i64 a, .int .i64 b]] w fun e w' => e = .returned (.string ⟨(opTxt 10 r s t a b).toArray⟩) ∧ Below w.heap.size w w' := by
  have o := opIs_of h
  rw [opTxt_ok h]
  have c := implText_1011 (wd := word 10) (k := 10) (r := r) (s := s) (t := t) (a := a) (b := b) rfl rfl rfl rfl rfl rfl rfl rfl (by decide) h (fun w => (formOf_any 10 w (by decide) (by decide)).mono fun e w' ⟨hb, x, y, z, he, _⟩ => ⟨⟨_, he.trans (by rw [row_10]; rfl), rfl⟩, hb⟩)
    (itoa_len' r (by have := o.r1; omega) (by have := o.r2; omega)) en_tellR (tellR_any _ _ _ _ _ _ (by have := o.r1; omega) (by have := o.r2; omega)) (itoa_len' t (by have := o.t1; omega) (by have := o.t2; omega)) en_tellTo (tellTo_any _ _ _ _ _ _ (by have := o.t1; omega) (by have := o.t2; omega)) (txt_len' o.v) en_tellV (tellV_any _ _ _ _ _ _) w hT
  simpa [opTail, part, show fR 10 = true from rfl, show fS 10 = false from rfl, show fT 10 = true from rfl, show fV 10 = true from rfl] using c
theorem implOpText_11 (r s t a b : Int) (h : opB 11 r s t a b = true) (w : World) (hT : Tab w) :
    Calls Tryz.prog 26 #[.agg #[.int .i64 11, .int .i64 r, .int .i64 s, .int .i64 t, .int .i64 a, .int .i64 b]] w fun e w' => e = .returned (.string ⟨(opTxt 11 r s t a b).toArray⟩) ∧ Below w.heap.size w w' := by
  have o := opIs_of h
  rw [opTxt_ok h]
  have c := implText_1000 (wd := word 11) (k := 11) (r := r) (s := s) (t := t) (a := a) (b := b) rfl rfl rfl rfl rfl rfl rfl rfl (by decide) h (fun w => (formOf_any 11 w (by decide) (by decide)).mono fun e w' ⟨hb, x, y, z, he, _⟩ => ⟨⟨_, he.trans (by rw [row_11]; rfl), rfl⟩, hb⟩)
    (itoa_len' r (by have := o.r1; omega) (by have := o.r2; omega)) en_tellR (tellR_any _ _ _ _ _ _ (by have := o.r1; omega) (by have := o.r2; omega)) w hT
  simpa [opTail, part, show fR 11 = true from rfl, show fS 11 = false from rfl, show fT 11 = false from rfl, show fV 11 = false from rfl] using c
theorem implOpText_12 (r s t a b : Int) (h : opB 12 r s t a b = true) (w : World) (hT : Tab w) :
    Calls Tryz.prog 26 #[.agg #[.int .i64 12, .int .i64 r, .int .i64 s, .int .i64 t, .int .i64 a, .int .i64 b]] w fun e w' => e = .returned (.string ⟨(opTxt 12 r s t a b).toArray⟩) ∧ Below w.heap.size w w' := by
  have o := opIs_of h
  rw [opTxt_ok h]
  have c := implText_1000 (wd := word 12) (k := 12) (r := r) (s := s) (t := t) (a := a) (b := b) rfl rfl rfl rfl rfl rfl rfl rfl (by decide) h (fun w => (formOf_any 12 w (by decide) (by decide)).mono fun e w' ⟨hb, x, y, z, he, _⟩ => ⟨⟨_, he.trans (by rw [row_12]; rfl), rfl⟩, hb⟩)
    (itoa_len' r (by have := o.r1; omega) (by have := o.r2; omega)) en_tellR (tellR_any _ _ _ _ _ _ (by have := o.r1; omega) (by have := o.r2; omega)) w hT
  simpa [opTail, part, show fR 12 = true from rfl, show fS 12 = false from rfl, show fT 12 = false from rfl, show fV 12 = false from rfl] using c
theorem implOpText_13 (r s t a b : Int) (h : opB 13 r s t a b = true) (w : World) (hT : Tab w) :
    Calls Tryz.prog 26 #[.agg #[.int .i64 13, .int .i64 r, .int .i64 s, .int .i64 t, .int .i64 a, .int .i64 b]] w fun e w' => e = .returned (.string ⟨(opTxt 13 r s t a b).toArray⟩) ∧ Below w.heap.size w w' := by
  have o := opIs_of h
  rw [opTxt_ok h]
  have c := implText_0001 (wd := word 13) (k := 13) (r := r) (s := s) (t := t) (a := a) (b := b) rfl rfl rfl rfl rfl rfl rfl rfl (by decide) h (fun w => (formOf_any 13 w (by decide) (by decide)).mono fun e w' ⟨hb, x, y, z, he, _⟩ => ⟨⟨_, he.trans (by rw [row_13]; rfl), rfl⟩, hb⟩)
    (txt_len' o.v) en_tellV (tellV_any _ _ _ _ _ _) w hT
  simpa [opTail, part, show fR 13 = false from rfl, show fS 13 = false from rfl, show fT 13 = false from rfl, show fV 13 = true from rfl] using c
theorem implOpText_14 (r s t a b : Int) (h : opB 14 r s t a b = true) (w : World) (hT : Tab w) :
    Calls Tryz.prog 26 #[.agg #[.int .i64 14, .int .i64 r, .int .i64 s, .int .i64 t, .int .i64 a, .int .i64 b]] w fun e w' => e = .returned (.string ⟨(opTxt 14 r s t a b).toArray⟩) ∧ Below w.heap.size w w' := by
  have o := opIs_of h
  rw [opTxt_ok h]
  have c := implText_1000 (wd := word 14) (k := 14) (r := r) (s := s) (t := t) (a := a) (b := b) rfl rfl rfl rfl rfl rfl rfl rfl (by decide) h (fun w => (formOf_any 14 w (by decide) (by decide)).mono fun e w' ⟨hb, x, y, z, he, _⟩ => ⟨⟨_, he.trans (by rw [row_14]; rfl), rfl⟩, hb⟩)
    (itoa_len' r (by have := o.r1; omega) (by have := o.r2; omega)) en_tellR (tellR_any _ _ _ _ _ _ (by have := o.r1; omega) (by have := o.r2; omega)) w hT
  simpa [opTail, part, show fR 14 = true from rfl, show fS 14 = false from rfl, show fT 14 = false from rfl, show fV 14 = false from rfl] using c
set_option maxHeartbeats 4000000 in
theorem implOpText_bad (k r s t a b : Int) (h : opB k r s t a b = false) (w : World) :
    Calls Tryz.prog 26 #[.agg #[.int .i64 k, .int .i64 r, .int .i64 s, .int .i64 t, .int .i64 a, .int .i64 b]] w fun e w' => e = .returned (.string ⟨(opTxt k r s t a b).toArray⟩) ∧ Below w.heap.size w w' := by
  rw [opTxt_bad h]
  rcases Decidable.em (k < 1 ∨ 14 < k) with ho | ho
  · go_enter Tryz.func26, Tryz.ntmps26
    go_wp2_with fail
    refine (formOf_none k _ ho).mono ?_
    rintro e w1 ⟨rfl, hb1⟩
    have hz1 := hb1.size
    simp at hz1
    have hB1 : Below w.heap.size w w1 := ((Below.refl _ _).alloc (Nat.le_refl _) _).trans (hb1.mono (by simp))
    clear hb1
    unfold L0
    go_wp2_with fail
    go_ret
    exact ⟨rfl, hB1.alloc (by omega) _⟩
  · go_enter Tryz.func26, Tryz.ntmps26
    go_wp2_with fail
    refine (formOf_any k _ (by omega) (by omega)).mono ?_
    rintro e w1 ⟨hb1, x, y, z, rfl, _⟩
    obtain ⟨v0, v1, v2, v3, v4, v5, v6, v7, v8, v9, v10, v11, v12, v13, hr, ha, _⟩ := tab_row x y z k.toNat (by omega) (by omega)
    rw [hr]
    obtain ⟨hc1, _⟩ := bcell hb1
    have hz1 := hb1.size
    simp at hz1
    have c0 : w1.cell? ⟨w.heap.size, 0, none⟩ = some (.int .i64 k) := by rw [hc1 _ _ (by simp)]; simp [go_sem]
    have c1 : w1.cell? ⟨w.heap.size, 1, none⟩ = some (.int .i64 r) := by rw [hc1 _ _ (by simp)]; simp [go_sem]
    have c2 : w1.cell? ⟨w.heap.size, 2, none⟩ = some (.int .i64 s) := by rw [hc1 _ _ (by simp)]; simp [go_sem]
    have c3 : w1.cell? ⟨w.heap.size, 3, none⟩ = some (.int .i64 t) := by rw [hc1 _ _ (by simp)]; simp [go_sem]
    have c4 : w1.cell? ⟨w.heap.size, 4, none⟩ = some (.int .i64 a) := by rw [hc1 _ _ (by simp)]; simp [go_sem]
    have c5 : w1.cell? ⟨w.heap.size, 5, none⟩ = some (.int .i64 b) := by rw [hc1 _ _ (by simp)]; simp [go_sem]
    have l0 : w.heap.size < w1.heap.size := by omega
    have hB1 : Below w.heap.size w w1 := ((Below.refl _ _).alloc (Nat.le_refl _) _).trans (hb1.mono (by simp))
    clear hc1 hb1
    go_wp2_with (refine wpList_store_row rfl 79 (.tmp 3) (.tmp 12) rfl _ _ rfl rfl 79 _ (heap_new (by simp)) (by kernel_rfl) (by kernel_rfl) ha ?_; rw [setRow_new (by simp)])
    refine (implOpOk_any _ _ _ _ _ _ _).mono ?_
    rintro e w2 ⟨rfl, hb2⟩
    rw [h]
    go_wp2_with fail
    go_ret
    exact ⟨rfl, (hB1.alloc (by omega) _).trans (hb2.mono (by simp <;> omega))⟩
/-- a step's text, of every step -/
theorem implOpText_any (k r s t a b : Int) (w : World) (hT : Tab w) :
    Calls Tryz.prog 26 #[.agg #[.int .i64 k, .int .i64 r, .int .i64 s, .int .i64 t, .int .i64 a, .int .i64 b]] w fun e w' => e = .returned (.string ⟨(opTxt k r s t a b).toArray⟩) ∧ Below w.heap.size w w' := by
  cases h : opB k r s t a b with
  | false => exact implOpText_bad k r s t a b h w
  | true =>
    have o := opIs_of h
    rcases kinds14 o.k1 o.k2 with rfl | rfl | rfl | rfl | rfl | rfl | rfl | rfl | rfl | rfl | rfl | rfl | rfl | rfl
    · exact implOpText_1 r s t a b h w hT
    · exact implOpText_2 r s t a b h w hT
    · exact implOpText_3 r s t a b h w hT
    · exact implOpText_4 r s t a b h w hT
    · exact implOpText_5 r s t a b h w hT
    · exact implOpText_6 r s t a b h w hT
    · exact implOpText_7 r s t a b h w hT
    · exact implOpText_8 r s t a b h w hT
    · exact implOpText_9 r s t a b h w hT
    · exact implOpText_10 r s t a b h w hT
    · exact implOpText_11 r s t a b h w hT
    · exact implOpText_12 r s t a b h w hT
    · exact implOpText_13 r s t a b h w hT
    · exact implOpText_14 r s t a b h w hT
end Go.Proofs.YtekmjgkjpdhedaaGreatDoor
