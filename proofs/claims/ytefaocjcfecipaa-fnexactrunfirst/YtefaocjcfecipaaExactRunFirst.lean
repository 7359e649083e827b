/-
  For every run, ok or not, and every kind, impl.RunFirst answers as the specification's RunFirst does, and leaves the run as it is. No condition.
-/
import Derived.Test.YtefaocjcfecipaaFirstI
import Derived.Test.YtefaocjcfecipaaRunSz
import Derived.Test.YtefaocjcfecipaaToRun
import Derived.Test.YtefaocjcfecipaaRunIn
import Derived.Test.YtefaocjcfecipaaFrame
namespace Go.Proofs.Ytefaocjcfecipaa
open Go.ChangeShapes Go.WideShapes Go.ChangeAt Go.RowKit Go.Joins
namespace ExactRunFirst
set_option maxRecDepth 20000 in
set_option maxHeartbeats 4000000 in
theorem walk (S : Nat) (d : RunD) (q : RunP) (kind : Int) (w : World) (hS : S ≤ w.heap.size) (n0 : d.slots.length ≤ 9223372036854775807) (n1 : d.mail.length ≤ 9223372036854775807) (n2 : d.links.length ≤ 9223372036854775807) (n3 : d.wat.length ≤ 9223372036854775807) (hM : RunMem S w d q) :
    Calls Try.prog 5 #[d.val q, .int .i64 kind] w fun e w' => e = .returned (.bool true) ∧ Below w.heap.size w w' := by
  have hne : ((sFirst d kind).1 != (sFirst d kind).1) = false := by simp
  have hnb : ((sFirst d kind).2 != (sFirst d kind).2) = false := by simp
  have hB0 : Below w.heap.size w (w.alloc (.cells (d.cells q) 39)) := (Below.refl _ _).alloc (Nat.le_refl _) _
  have hA : RunAt (w.alloc (.cells (d.cells q) 39)) w.heap.size d q := runAt_new w d q 39
  have hz0 : w.heap.size < (w.alloc (.cells (d.cells q) 39)).heap.size := by simp
  go_enter Try.func5, Try.ntmps5
  go_wp2_with fail
  generalize (w.alloc (.cells (d.cells q) 39)) = w0 at *
  refine (szRun_any d q _ n0 n1 n2 n3).mono ?_
  rintro e w1 ⟨⟨l, rfl, hl⟩, hb1⟩
  clear n0 n1 n2 n3
  have hz1 := hb1.size
  have hB1 : Below w.heap.size w w1 := hB0.trans (hb1.mono (by omega))
  replace hA : RunAt w1 w.heap.size d q := hA.below (by omega) hb1
  have hy1 : w.heap.size < w1.heap.size := by omega
  clear hb1 hB0
  rcases hl with rfl | ⟨hl0, hs⟩
  case inl =>
    go_wp2_with fail
    go_ret
    exact ⟨rfl, hB1⟩
  have hln : ¬ l < 0 := by omega
  have hs : Hid d.Short := hs
  obtain ⟨c0, c1, c2, c3, c4, c5, c6, c7, c8, c9, c10, c11, c12⟩ := id hA
  go_wp2_with fail
  clear c0 c1 c2 c3 c4 c5 c6 c7 c8 c9 c10 c11 c12
  clear hln hl0
  refine (toRun_any S d q _ (by omega) hs.out (hM.below (hB1.mono hS))).mono ?_
  rintro e w2 ⟨p2, rfl, ho2, hk2, hb2⟩
  have hz2 := hb2.size
  have hB2 : Below w.heap.size w w2 := hB1.trans (hb2.mono (by omega))
  replace hA : RunAt w2 w.heap.size d q := hA.below (by omega) hb2
  have hy2 : w.heap.size < w2.heap.size := by omega
  clear hb2
  go_wp2_with fail
  refine (specRunFirst_any w2.heap.size d p2 kind _ (Nat.le_refl _) hs.out hk2.1 hk2.2 ho2.mem).mono ?_
  rintro e w3 ⟨rfl, hb3⟩
  have hz3 := hb3.size
  have hB3 : Below w.heap.size w w3 := hB2.trans (hb3.mono (by omega))
  replace hA : RunAt w3 w.heap.size d q := hA.below (by omega) hb3
  have hy3 : w.heap.size < w3.heap.size := by omega
  clear hb3 ho2 hk2
  obtain ⟨c0, c1, c2, c3, c4, c5, c6, c7, c8, c9, c10, c11, c12⟩ := id hA
  go_wp2_with fail
  clear c0 c1 c2 c3 c4 c5 c6 c7 c8 c9 c10 c11 c12
  refine (toRun_any S d q _ (by omega) hs.out (hM.below (hB3.mono hS))).mono ?_
  rintro e w4 ⟨p4, rfl, ho4, hk4, hb4⟩
  have hz4 := hb4.size
  have hB4 : Below w.heap.size w w4 := hB3.trans (hb4.mono (by omega))
  replace hA : RunAt w4 w.heap.size d q := hA.below (by omega) hb4
  have hy4 : w.heap.size < w4.heap.size := by omega
  clear hb4
  go_wp2_with fail
  have r4 : RunAt (w4.alloc (.cells (d.cells p4) 30)) w4.heap.size d p4 := runAt_new w4 d p4 30
  have a4 : Below w4.heap.size w4 (w4.alloc (.cells (d.cells p4) 30)) := (Below.refl _ _).alloc (Nat.le_refl _) _
  have x4 : w4.heap.size < (w4.alloc (.cells (d.cells p4) 30)).heap.size := by simp
  have hBa : Below w.heap.size w (w4.alloc (.cells (d.cells p4) 30)) := hB4.trans (a4.mono (by omega))
  replace hA := hA.below (by omega) a4
  replace ho4 := ho4.below a4
  generalize he4 : w4.heap.size = b4 at *
  generalize (w4.alloc (.cells (d.cells p4) 30)) = v4 at *
  clear hB4 a4 he4
  refine (implRunFirst_any v4.heap.size d p4 kind _ (Nat.le_refl _) hs.out hk4.1 hk4.2 ho4.mem).mono ?_
  rintro e w5 ⟨rfl, hb5⟩
  replace r4 := r4.below (S := v4.heap.size) (by omega) hb5
  replace ho4 := ho4.below hb5
  have hB4 := hBa
  have hz5 := hb5.size
  have hB5 : Below w.heap.size w w5 := hB4.trans (hb5.mono (by omega))
  replace hA : RunAt w5 w.heap.size d q := hA.below (by omega) hb5
  have hy5 : w.heap.size < w5.heap.size := by omega
  have hw5 : b4 < w5.heap.size := by omega
  clear hb5 hk4 hB4 hBa
  obtain ⟨c0, c1, c2, c3, c4, c5, c6, c7, c8, c9, c10, c11, c12⟩ := id hA
  obtain ⟨u0, u1, u2, u3, u4, u5, u6, u7, u8, u9, u10, u11, u12⟩ := id r4
  go_wp2_with fail
  have hS5 : S ≤ w5.heap.size := by omega
  have hM5 : RunMem S w5 d q := hM.below (hB5.mono hS)
  go_region_with (first
    | (go_at_call 15; refine (toRun_any S d q _ ?_ ?_ ?_).mono ?_; exact hS5; exact hs.out; exact hM5.below (Below.refl _ _).drew; rintro e w6 ⟨p6, rfl, ho6, hk6, hb6⟩; have hb6' : Below w5.heap.size w5 w6 := ⟨hb6.os, hb6.tape, hb6.output, hb6.size, hb6.block⟩; have r6 := r4.below hw5 hb6'; have o6 := ho4.below hb6'; obtain ⟨t0, t1, t2, t3, t4, t5, t6, t7, t8, t9, t10, t11, t12⟩ := id r6)
    | (go_at_call 16; refine (eqRun_same w6.heap.size d p4 p6 _ ?_ ?_ ?_ ?_).mono ?_; exact Nat.le_refl _; exact hs.out; exact o6.mem; exact ho6.mem; rintro e w7 ⟨rfl, hb7⟩))
  all_goals
    have hB7 : Below w.heap.size w w7 := (hB5.trans (hb6'.mono (by omega))).trans ((show Below w6.heap.size w6 w7 from ⟨hb7.os, hb7.tape, hb7.output, hb7.size, hb7.block⟩).mono (by have := hb6'.size; omega))
    go_step
    go_wp2_with fail
    go_ret
    exact ⟨rfl, hB7⟩

set_option maxRecDepth 100000 in
theorem lifted (os : Os) (started : os.Started) (H : Type) (enc : TypeId × Value → H) :
    ReturnsInHanded {} Try.checked os 5 .any (Rows.fnExactRunFirstSpec.pre6 enc Try.prog Try.f5 Rows.fnExactRunFirstRow.domain false) (Rows.fnExactRunFirstSpec.post enc Try.prog Try.f5 false true false false) := by
  refine returnsInHanded_of_change (C := Try.checked) own started (by kernel_rfl) Try.func5
    (ChangeSpec.witness6 (enc := enc) (C := Try.checked) false ⟨#[], #[.agg #[.int .i64 0, .int .i64 0, .slice none 0 0, .int .i64 0, .slice none 0 0, .int .i64 0, .int .i64 0, .slice none 0 0, .slice none 0 0, .bool false, .int .i64 0, .int .i64 0, .int .i64 0], .int .i64 0], []⟩ 8 (by kernel_rfl) (by kernel_rfl) (by kernel_rfl) (by kernel_rfl)) ?_
  intro W base args ds gs before hval0 hW hcnd _
  have hval : ∀ (j : Nat) t v, Try.f5.params[j]? = some t → args[j]? = some v → Value.okWide Try.prog W .any base t v := hval0
  have hW' := hW
  obtain ⟨p, q, hA0, hV, rfl, hfz, hnd⟩ := hW
  have hA : DataW.TrodAll enc Try.prog W 0 (fun _ => true) true Try.f5.params.toList args.toList ds p := hA0
  rw [Try.params5] at hA hval
  obtain ⟨v0, vs0, d0, ds0, p0, q0, hargs, rfl, rfl, h0, r0⟩ := trodAll_cons hA
  obtain ⟨v1, vs1, d1, ds1, p1, q1, rfl, rfl, rfl, h1, r1⟩ := trodAll_cons r0
  obtain ⟨rfl, rfl, rfl⟩ := trodAll_nil r1
  obtain rfl : args = #[v0, v1] := by cases args; simp_all
  obtain ⟨rfl, rfl⟩ := trodVars_none hV
  have k0 := h0
  have lt0 : ∀ x ∈ p0, x.block < W.heap.size := by obtain ⟨m, hm⟩ := k0; exact DataW.trod_lt m _ _ _ hm
  obtain ⟨D0, Q0, rfl, m0, n00, n01, n02, n03⟩ := run_in (hval 0 39 v0 rfl rfl) h0
  obtain ⟨a1, rfl, rfl, rfl, wa1⟩ := open_int Try.underlying3 (hval 1 3 v1 rfl rfl) h1
  clear hA0 hval0
  refine (walk W.heap.size D0 Q0 a1 W (Nat.le_refl _) n00 n01 n02 n03 m0).mono fun e W' ⟨he, bel⟩ => ?_
  subst he
  exact ⟨_, rfl, _, _, _, [], _, [], hW', trodAll_mk1 (shut_bool Try.underlying4 _), (trodAll_cons_mk (Below.trod laidOut (by kernel_rfl) (of_decide_eq_true (by kernel_rfl)) k0 bel lt0) (trodAll_cons_mk (shut_int Try.underlying3 wa1) trodAll_mk0)), rfl, bel.frame _, fun h => by cases h⟩

theorem over : Rows.fnExactRunFirstRow.holds Try.pinned (OpenSpec.ofChange Rows.fnExactRunFirstSpec) :=
  OpenClaim.holds_of_wide 5 Try.f5 rfl rfl rfl rfl rfl rfl rfl ⟨rfl, rfl, rfl, rfl, rfl⟩ rfl rfl rfl rfl rfl (by kernel_rfl) Try.func5 (by kernel_rfl)
    (of_decide_eq_true (by kernel_rfl)) (by unfold Func.isWrapper; first | (rw [if_pos (by decide +kernel)]; kernel_rfl) | (rw [if_neg (by decide +kernel)]; exact ⟨rfl, rfl⟩))
    (fun os started H enc _ => lifted os started H enc)
end ExactRunFirst

/-- the given statement -/
theorem exactRunFirst_holds : Rows.FnExactRunFirstSaid := ExactRunFirst.over
#print axioms exactRunFirst_holds
end Go.Proofs.Ytefaocjcfecipaa
