/-
  What laws.lvVals, lvInts and lvRun answer over this translation, of what is the same.
-/
import Derived.Test.YtklgpkkghhaccaaGreatQh
import Derived.Deep.QuietTactic
import Derived.BigQuiet
import Derived.BigRegion
namespace Go.Proofs.YtklgpkkghhaccaaGreat.Eld
open Go.ChangeShapes Go.WideShapes Go.ChangeAt Go.RowKit Go.Joins
set_option maxHeartbeats 2000000 in
theorem lvInts_same (S : Nat) (L : List Int) (u v : Value) (w : World) (hl : L.length ≤ 1048576) (hu : Ints S w u L) (hv : Ints S w v L) :
    Calls Tryz.prog 23 #[u, v] w fun e w' => e = .returned (.bool true) ∧ Below w.heap.size w w' := by
  obtain ⟨ao, c, rfl, hu⟩ := hu
  obtain ⟨bo, d, rfl, hv⟩ := hv
  rcases hu with rfl | ⟨b, o, rfl, _, hc⟩
  · go_enter Tryz.func23, Tryz.ntmps23
    go_wp2_with fail
    refine wp_loop_rounds 1 ?_
    rw [rounds_succ]
    go_wp2_with fail
    go_ret
    exact ⟨rfl, Below.refl _ _⟩
  rcases hv with rfl | ⟨b', o', rfl, _, hd⟩
  · go_enter Tryz.func23, Tryz.ntmps23
    go_wp2_with fail
    refine wp_loop_rounds 1 ?_
    rw [rounds_succ]
    go_wp2_with fail
    go_ret
    exact ⟨rfl, Below.refl _ _⟩
  · go_enter Tryz.func23, Tryz.ntmps23
    go_wp2_with fail
    go_loopw [5] (fun i wr => ∃ k : Nat, k ≤ L.length ∧ i = .int .i64 k ∧ ∃ q, wr = w.drewN q) (fun i _ => L.length - (intOf i).toNat)
    case atStart => exact ⟨0, Nat.zero_le _, rfl, 0, rfl⟩
    case round =>
      obtain ⟨k, hk, rfl, q, rfl⟩ := hrel
      by_cases hlt : k < L.length
      · have c0 : (w.drewN q).cell? ⟨b, o + k, none⟩ = some (.int .i64 L[k]) := hc k hlt
        have d0 : (w.drewN q).cell? ⟨b', o' + k, none⟩ = some (.int .i64 L[k]) := hd k hlt
        obtain ⟨W, hW⟩ : ∃ W, W = w.drewN q := ⟨_, rfl⟩
        rw [← hW] at c0 d0 ⊢
        have HW : Hid (W = w.drewN q) := hW
        clear hW hc hd
        generalize L[k] = x at *
        go_wp2_with fail
        go_quiet (fail)
        go_wp2_with fail
        go_roundw
        case rel => exact ⟨k + 1, by omega, by go_num, q + nq, by rw [HW.out]; simp [World.drewN]; omega⟩
        case measure => simp [intOf]; omega
      · have e : k = L.length := by omega
        subst e
        go_wp2_with fail
        go_ret
        exact ⟨rfl, below_drewN (Below.refl _ _) _⟩
set_option maxRecDepth 20000 in
set_option maxHeartbeats 2000000 in
theorem lvVals_same (S : Nat) (L : List (Int × Int)) (u v : Value) (w : World) (hl : L.length ≤ 1048576) (hu : Vals S w u L) (hv : Vals S w v L) :
    Calls Tryz.prog 11 #[u, v] w fun e w' => e = .returned (.bool true) ∧ Below w.heap.size w w' := by
  obtain ⟨ao, c, rfl, hu⟩ := hu
  obtain ⟨bo, d, rfl, hv⟩ := hv
  rcases hu with rfl | ⟨b, o, rfl, _, hc⟩
  · go_enter Tryz.func11, Tryz.ntmps11
    go_wp2_with fail
    refine wp_loop_rounds 1 ?_
    rw [rounds_succ]
    go_wp2_with fail
    go_ret
    exact ⟨rfl, Below.refl _ _⟩
  rcases hv with rfl | ⟨b', o', rfl, _, hd⟩
  · go_enter Tryz.func11, Tryz.ntmps11
    go_wp2_with fail
    refine wp_loop_rounds 1 ?_
    rw [rounds_succ]
    go_wp2_with fail
    go_ret
    exact ⟨rfl, Below.refl _ _⟩
  · go_enter Tryz.func11, Tryz.ntmps11
    go_wp2_with fail
    go_loopw [5] (fun i wr => ∃ k : Nat, k ≤ L.length ∧ i = .int .i64 k ∧ ∃ q, wr = w.drewN q) (fun i _ => L.length - (intOf i).toNat)
    case atStart => exact ⟨0, Nat.zero_le _, rfl, 0, rfl⟩
    case round =>
      obtain ⟨k, hk, rfl, q, rfl⟩ := hrel
      by_cases hlt : k < L.length
      · obtain ⟨x0, x1⟩ := hc k hlt
        obtain ⟨y0, y1⟩ := hd k hlt
        have c0 : (w.drewN q).cell? ⟨b, o + k * 2, none⟩ = some (.int .i64 L[k].1) := x0
        have c1 : (w.drewN q).cell? ⟨b, o + k * 2 + 1, none⟩ = some (.int .i64 L[k].2) := x1
        have d0 : (w.drewN q).cell? ⟨b', o' + k * 2, none⟩ = some (.int .i64 L[k].1) := y0
        have d1 : (w.drewN q).cell? ⟨b', o' + k * 2 + 1, none⟩ = some (.int .i64 L[k].2) := y1
        obtain ⟨W, hW⟩ : ∃ W, W = w.drewN q := ⟨_, rfl⟩
        rw [← hW] at c0 c1 d0 d1 ⊢
        have HW : Hid (W = w.drewN q) := hW
        clear hW hc hd x0 x1 y0 y1
        generalize L[k].1 = x at *
        generalize L[k].2 = y at *
        go_wp2_with fail
        go_quiet (fail)
        go_wp2_with fail
        go_roundw
        case rel => exact ⟨k + 1, by omega, by go_num, q + nq, by rw [HW.out]; simp [World.drewN]; omega⟩
        case measure => simp [intOf]; omega
      · have e : k = L.length := by omega
        subst e
        go_wp2_with fail
        go_ret
        exact ⟨rfl, ⟨rfl, rfl, rfl, Nat.le_refl _, fun _ _ => rfl⟩⟩
set_option maxRecDepth 20000 in
set_option maxHeartbeats 4000000 in
theorem lvRun_same (S : Nat) (d : RunD) (p q : RunP) (w : World) (hS : S ≤ w.heap.size) (hs : d.Short) (hp : RunMem S w d p) (hq : RunMem S w d q) :
    Calls Tryz.prog 9 #[d.val p, d.val q] w fun e w' => e = .returned (.bool true) ∧ Below w.heap.size w w' := by
  replace hs : Hid d.Short := hs
  have hB0 : Below w.heap.size w ((w.alloc (.cells (d.cells p) 28)).alloc (.cells (d.cells q) 28)) := ((Below.refl _ _).alloc (Nat.le_refl _) _).alloc (by simp) _
  have bp : RunAt ((w.alloc (.cells (d.cells p) 28)).alloc (.cells (d.cells q) 28)) w.heap.size d p := (runAt_new w d p 28).below (S := w.heap.size + 1) (by omega) ((Below.refl _ _).alloc (by simp) _)
  have bq : RunAt ((w.alloc (.cells (d.cells p) 28)).alloc (.cells (d.cells q) 28)) (w.heap.size + 1) d q := by
    have h := runAt_new (w.alloc (.cells (d.cells p) 28)) d q 28
    simpa using h
  have hp0 := hp.below (hB0.mono hS)
  have hq0 := hq.below (hB0.mono hS)
  have hz0 : w.heap.size + 1 < ((w.alloc (.cells (d.cells p) 28)).alloc (.cells (d.cells q) 28)).heap.size := by simp
  have hS0 : S ≤ ((w.alloc (.cells (d.cells p) 28)).alloc (.cells (d.cells q) 28)).heap.size := by simp; omega
  go_enter Tryz.func9, Tryz.ntmps9
  go_wp2_with fail
  generalize ((w.alloc (.cells (d.cells p) 28)).alloc (.cells (d.cells q) 28)) = w0 at *
  have hA0 := bp
  have hC0 := bq
  clear hp hq bp bq
  obtain ⟨c0, c1, c2, c3, c4, c5, c6, c7, c8, c9, c10, c11, c12⟩ := hA0
  obtain ⟨e0, e1, e2, e3, e4, e5, e6, e7, e8, e9, e10, e11, e12⟩ := hC0
  go_wp2_with fail
  refine (lvVals_same S d.slots _ _ _ hs.out.s0 hp0.m0 hq0.m0).mono ?_
  rintro e w1 ⟨rfl, hb1⟩
  have hv1 := hb1.size
  have hA1 : RunAt w1 w.heap.size d p := RunAt.below (S := w0.heap.size) ⟨c0, c1, c2, c3, c4, c5, c6, c7, c8, c9, c10, c11, c12⟩ (by omega) hb1
  have hC1 : RunAt w1 (w.heap.size + 1) d q := RunAt.below (S := w0.heap.size) ⟨e0, e1, e2, e3, e4, e5, e6, e7, e8, e9, e10, e11, e12⟩ (by omega) hb1
  have hp1 := hp0.below (hb1.mono hS0)
  have hq1 := hq0.below (hb1.mono hS0)
  have hS1 : S ≤ w1.heap.size := by omega
  have hB1 : Below w.heap.size w w1 := hB0.trans (hb1.mono (by omega))
  clear hb1 c0 e0 c1 e1 c2 e2 c3 e3 c4 e4 c5 e5 c6 e6 c7 e7 c8 e8 c9 e9 c10 e10 c11 e11 c12 e12
  obtain ⟨c0, c1, c2, c3, c4, c5, c6, c7, c8, c9, c10, c11, c12⟩ := hA1
  obtain ⟨e0, e1, e2, e3, e4, e5, e6, e7, e8, e9, e10, e11, e12⟩ := hC1
  go_wp2_with fail
  refine (lvVals_same S d.mail _ _ _ hs.out.s1 hp1.m1 hq1.m1).mono ?_
  rintro e w2 ⟨rfl, hb2⟩
  have hv2 := hb2.size
  have hA2 : RunAt w2 w.heap.size d p := RunAt.below (S := w1.heap.size) ⟨c0, c1, c2, c3, c4, c5, c6, c7, c8, c9, c10, c11, c12⟩ (by omega) hb2
  have hC2 : RunAt w2 (w.heap.size + 1) d q := RunAt.below (S := w1.heap.size) ⟨e0, e1, e2, e3, e4, e5, e6, e7, e8, e9, e10, e11, e12⟩ (by omega) hb2
  have hp2 := hp1.below (hb2.mono hS1)
  have hq2 := hq1.below (hb2.mono hS1)
  have hS2 : S ≤ w2.heap.size := by omega
  have hB2 : Below w.heap.size w w2 := hB1.trans (hb2.mono (by omega))
  clear hb2 c0 e0 c1 e1 c2 e2 c3 e3 c4 e4 c5 e5 c6 e6 c7 e7 c8 e8 c9 e9 c10 e10 c11 e11 c12 e12
  obtain ⟨c0, c1, c2, c3, c4, c5, c6, c7, c8, c9, c10, c11, c12⟩ := hA2
  obtain ⟨e0, e1, e2, e3, e4, e5, e6, e7, e8, e9, e10, e11, e12⟩ := hC2
  go_wp2_with fail
  refine (lvInts_same S d.links _ _ _ hs.out.s2 hp2.m2 hq2.m2).mono ?_
  rintro e w3 ⟨rfl, hb3⟩
  have hv3 := hb3.size
  have hA3 : RunAt w3 w.heap.size d p := RunAt.below (S := w2.heap.size) ⟨c0, c1, c2, c3, c4, c5, c6, c7, c8, c9, c10, c11, c12⟩ (by omega) hb3
  have hC3 : RunAt w3 (w.heap.size + 1) d q := RunAt.below (S := w2.heap.size) ⟨e0, e1, e2, e3, e4, e5, e6, e7, e8, e9, e10, e11, e12⟩ (by omega) hb3
  have hp3 := hp2.below (hb3.mono hS2)
  have hq3 := hq2.below (hb3.mono hS2)
  have hS3 : S ≤ w3.heap.size := by omega
  have hB3 : Below w.heap.size w w3 := hB2.trans (hb3.mono (by omega))
  clear hb3 c0 e0 c1 e1 c2 e2 c3 e3 c4 e4 c5 e5 c6 e6 c7 e7 c8 e8 c9 e9 c10 e10 c11 e11 c12 e12
  obtain ⟨c0, c1, c2, c3, c4, c5, c6, c7, c8, c9, c10, c11, c12⟩ := hA3
  obtain ⟨e0, e1, e2, e3, e4, e5, e6, e7, e8, e9, e10, e11, e12⟩ := hC3
  go_wp2_with fail
  refine (lvInts_same S d.wat _ _ _ hs.out.s3 hp3.m3 hq3.m3).mono ?_
  rintro e w4 ⟨rfl, hb4⟩
  have hv4 := hb4.size
  have hA4 : RunAt w4 w.heap.size d p := RunAt.below (S := w3.heap.size) ⟨c0, c1, c2, c3, c4, c5, c6, c7, c8, c9, c10, c11, c12⟩ (by omega) hb4
  have hC4 : RunAt w4 (w.heap.size + 1) d q := RunAt.below (S := w3.heap.size) ⟨e0, e1, e2, e3, e4, e5, e6, e7, e8, e9, e10, e11, e12⟩ (by omega) hb4
  have hp4 := hp3.below (hb4.mono hS3)
  have hq4 := hq3.below (hb4.mono hS3)
  have hS4 : S ≤ w4.heap.size := by omega
  have hB4 : Below w.heap.size w w4 := hB3.trans (hb4.mono (by omega))
  clear hb4 c0 e0 c1 e1 c2 e2 c3 e3 c4 e4 c5 e5 c6 e6 c7 e7 c8 e8 c9 e9 c10 e10 c11 e11 c12 e12
  go_wp2_with fail
  go_ret
  exact ⟨by simp, hB4⟩
end Go.Proofs.YtklgpkkghhaccaaGreat.Eld
