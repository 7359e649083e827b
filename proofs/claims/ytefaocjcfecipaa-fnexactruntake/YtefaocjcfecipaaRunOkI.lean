/-
  impl.RunOk over this translation: whether a run is ok, by what it has; nothing that was there turns.
-/
import Derived.Test.YtefaocjcfecipaaSlotsOk
import Derived.Test.YtefaocjcfecipaaOthers
import Derived.Test.YtefaocjcfecipaaCountsOk
import Derived.Test.YtefaocjcfecipaaEndOk
namespace Go.Proofs.Ytefaocjcfecipaa
open Go.ChangeShapes Go.WideShapes Go.ChangeAt Go.RowKit Go.Joins
/-- a run is ok, as the program has it -/
def runB (d : RunD) : Bool := isRunB d.id && (isPlaceB d.pl && (slotsB d && (mailB d.mail && (countsB d && (idsB d.id d.links && (idsB d.id d.wat && endB d))))))
set_option maxRecDepth 20000 in
set_option maxHeartbeats 8000000 in
theorem implRunOk_any (S : Nat) (d : RunD) (q : RunP) (w : World) (hS : S ≤ w.heap.size) (hs : d.Short) (hk2 : d.links.length ≤ q.k2) (hk3 : d.wat.length ≤ q.k3) (hM : RunMem S w d q) :
    Calls Try.prog 12 #[d.val q] w fun e w' => e = .returned (.bool (runB d)) ∧ Below w.heap.size w w' := by
  have hB0 : Below w.heap.size w (w.alloc (.cells (d.cells q) 30)) := (Below.refl _ _).alloc (Nat.le_refl _) _
  have hA0 : RunAt (w.alloc (.cells (d.cells q) 30)) w.heap.size d q := runAt_new w d q 30
  have hS0 : S ≤ (w.alloc (.cells (d.cells q) 30)).heap.size := by simp; omega
  have hz0 : w.heap.size < (w.alloc (.cells (d.cells q) 30)).heap.size := by simp
  have hM0 : RunMem S (w.alloc (.cells (d.cells q) 30)) d q := hM.below (hB0.mono hS)
  replace hs : Hid d.Short := hs
  replace hk2 : Hid (d.links.length ≤ q.k2) := hk2
  replace hk3 : Hid (d.wat.length ≤ q.k3) := hk3
  clear hM
  go_enter Try.func12, Try.ntmps12
  go_wp2_with fail
  generalize (w.alloc (.cells (d.cells q) 30)) = w0 at *
  obtain ⟨c0, c1, c2, c3, c4, c5, c6, c7, c8, c9, c10, c11, c12⟩ := hA0
  go_wp2_with fail
  refine (isRun_any d.id _).mono ?_
  rintro e w1 ⟨rfl, rfl⟩
  have hA1 : RunAt w1 w.heap.size d q := ⟨c0, c1, c2, c3, c4, c5, c6, c7, c8, c9, c10, c11, c12⟩
  have hM1 := hM0
  have hS1 := hS0
  have hz1 := hz0
  have hB1 := hB0
  clear c0 c1 c2 c3 c4 c5 c6 c7 c8 c9 c10 c11 c12
  cases h1 : isRunB d.id with
  | false =>
    obtain ⟨c0, c1, c2, c3, c4, c5, c6, c7, c8, c9, c10, c11, c12⟩ := hA1
    go_wp2_with fail
    go_ret
    exact ⟨by simp [runB, h1], hB1⟩
  | true =>
    obtain ⟨c0, c1, c2, c3, c4, c5, c6, c7, c8, c9, c10, c11, c12⟩ := hA1
    go_wp2_with fail
    refine (isPlace_any d.pl _).mono ?_
    rintro e w2 ⟨rfl, rfl⟩
    have hA2 : RunAt w2 w.heap.size d q := ⟨c0, c1, c2, c3, c4, c5, c6, c7, c8, c9, c10, c11, c12⟩
    have hM2 := hM1
    have hS2 := hS1
    have hz2 := hz1
    have hB2 := hB1
    clear c0 c1 c2 c3 c4 c5 c6 c7 c8 c9 c10 c11 c12
    cases h2 : isPlaceB d.pl with
    | false =>
      obtain ⟨c0, c1, c2, c3, c4, c5, c6, c7, c8, c9, c10, c11, c12⟩ := hA2
      go_wp2_with fail
      go_ret
      exact ⟨by simp [runB, h1, h2], hB2⟩
    | true =>
      obtain ⟨c0, c1, c2, c3, c4, c5, c6, c7, c8, c9, c10, c11, c12⟩ := hA2
      go_wp2_with fail
      refine (slotsOk_any S d q _ hS2 hM2.m0).mono ?_
      rintro e w3 ⟨rfl, hb3⟩
      have hq3 := hb3.size
      have hA3 : RunAt w3 w.heap.size d q := RunAt.below (S := w2.heap.size) ⟨c0, c1, c2, c3, c4, c5, c6, c7, c8, c9, c10, c11, c12⟩ hz2 hb3
      have hM3 := hM2.below (hb3.mono hS2)
      have hS3 : S ≤ w3.heap.size := by omega
      have hz3 : w.heap.size < w3.heap.size := by omega
      have hB3 : Below w.heap.size w w3 := hB2.trans (hb3.mono (by omega))
      clear hb3
      clear c0 c1 c2 c3 c4 c5 c6 c7 c8 c9 c10 c11 c12
      cases h3 : slotsB d with
      | false =>
        obtain ⟨c0, c1, c2, c3, c4, c5, c6, c7, c8, c9, c10, c11, c12⟩ := hA3
        go_wp2_with fail
        go_ret
        exact ⟨by simp [runB, h1, h2, h3], hB3⟩
      | true =>
        obtain ⟨c0, c1, c2, c3, c4, c5, c6, c7, c8, c9, c10, c11, c12⟩ := hA3
        go_wp2_with fail
        refine (mailOk_any S d q _ hS3 hs.out.s1 hM3.m1).mono ?_
        rintro e w4 ⟨rfl, hb4⟩
        have hq4 := hb4.size
        have hA4 : RunAt w4 w.heap.size d q := RunAt.below (S := w3.heap.size) ⟨c0, c1, c2, c3, c4, c5, c6, c7, c8, c9, c10, c11, c12⟩ hz3 hb4
        have hM4 := hM3.below (hb4.mono hS3)
        have hS4 : S ≤ w4.heap.size := by omega
        have hz4 : w.heap.size < w4.heap.size := by omega
        have hB4 : Below w.heap.size w w4 := hB3.trans (hb4.mono (by omega))
        clear hb4
        clear c0 c1 c2 c3 c4 c5 c6 c7 c8 c9 c10 c11 c12
        cases h4 : mailB d.mail with
        | false =>
          obtain ⟨c0, c1, c2, c3, c4, c5, c6, c7, c8, c9, c10, c11, c12⟩ := hA4
          go_wp2_with fail
          go_ret
          exact ⟨by simp [runB, h1, h2, h3, h4], hB4⟩
        | true =>
          obtain ⟨c0, c1, c2, c3, c4, c5, c6, c7, c8, c9, c10, c11, c12⟩ := hA4
          go_wp2_with fail
          refine (countsOk_any d q _).mono ?_
          rintro e w5 ⟨rfl, hb5⟩
          have hq5 := hb5.size
          have hA5 : RunAt w5 w.heap.size d q := RunAt.below (S := w4.heap.size) ⟨c0, c1, c2, c3, c4, c5, c6, c7, c8, c9, c10, c11, c12⟩ hz4 hb5
          have hM5 := hM4.below (hb5.mono hS4)
          have hS5 : S ≤ w5.heap.size := by omega
          have hz5 : w.heap.size < w5.heap.size := by omega
          have hB5 : Below w.heap.size w w5 := hB4.trans (hb5.mono (by omega))
          clear hb5
          clear c0 c1 c2 c3 c4 c5 c6 c7 c8 c9 c10 c11 c12
          cases h5 : countsB d with
          | false =>
            obtain ⟨c0, c1, c2, c3, c4, c5, c6, c7, c8, c9, c10, c11, c12⟩ := hA5
            go_wp2_with fail
            go_ret
            exact ⟨by simp [runB, h1, h2, h3, h4, h5], hB5⟩
          | true =>
            obtain ⟨c0, c1, c2, c3, c4, c5, c6, c7, c8, c9, c10, c11, c12⟩ := hA5
            go_wp2_with fail
            refine (areOthers_any S d q d.links q.a2 q.k2 _ hS5 hs.out.s2 hk2.out hM5.m2).mono ?_
            rintro e w6 ⟨rfl, hb6⟩
            have hq6 := hb6.size
            have hA6 : RunAt w6 w.heap.size d q := RunAt.below (S := w5.heap.size) ⟨c0, c1, c2, c3, c4, c5, c6, c7, c8, c9, c10, c11, c12⟩ hz5 hb6
            have hM6 := hM5.below (hb6.mono hS5)
            have hS6 : S ≤ w6.heap.size := by omega
            have hz6 : w.heap.size < w6.heap.size := by omega
            have hB6 : Below w.heap.size w w6 := hB5.trans (hb6.mono (by omega))
            clear hb6
            clear c0 c1 c2 c3 c4 c5 c6 c7 c8 c9 c10 c11 c12
            cases h6 : idsB d.id d.links with
            | false =>
              obtain ⟨c0, c1, c2, c3, c4, c5, c6, c7, c8, c9, c10, c11, c12⟩ := hA6
              go_wp2_with fail
              go_ret
              exact ⟨by simp [runB, h1, h2, h3, h4, h5, h6], hB6⟩
            | true =>
              obtain ⟨c0, c1, c2, c3, c4, c5, c6, c7, c8, c9, c10, c11, c12⟩ := hA6
              go_wp2_with fail
              refine (areOthers_any S d q d.wat q.a3 q.k3 _ hS6 hs.out.s3 hk3.out hM6.m3).mono ?_
              rintro e w7 ⟨rfl, hb7⟩
              have hq7 := hb7.size
              have hA7 : RunAt w7 w.heap.size d q := RunAt.below (S := w6.heap.size) ⟨c0, c1, c2, c3, c4, c5, c6, c7, c8, c9, c10, c11, c12⟩ hz6 hb7
              have hM7 := hM6.below (hb7.mono hS6)
              have hS7 : S ≤ w7.heap.size := by omega
              have hz7 : w.heap.size < w7.heap.size := by omega
              have hB7 : Below w.heap.size w w7 := hB6.trans (hb7.mono (by omega))
              clear hb7
              clear c0 c1 c2 c3 c4 c5 c6 c7 c8 c9 c10 c11 c12
              cases h7 : idsB d.id d.wat with
              | false =>
                obtain ⟨c0, c1, c2, c3, c4, c5, c6, c7, c8, c9, c10, c11, c12⟩ := hA7
                go_wp2_with fail
                go_ret
                exact ⟨by simp [runB, h1, h2, h3, h4, h5, h6, h7], hB7⟩
              | true =>
                obtain ⟨c0, c1, c2, c3, c4, c5, c6, c7, c8, c9, c10, c11, c12⟩ := hA7
                go_wp2_with fail
                refine (endOk_any d q _).mono ?_
                rintro e w8 ⟨rfl, hb8⟩
                have hq8 := hb8.size
                have hA8 : RunAt w8 w.heap.size d q := RunAt.below (S := w7.heap.size) ⟨c0, c1, c2, c3, c4, c5, c6, c7, c8, c9, c10, c11, c12⟩ hz7 hb8
                have hM8 := hM7.below (hb8.mono hS7)
                have hS8 : S ≤ w8.heap.size := by omega
                have hz8 : w.heap.size < w8.heap.size := by omega
                have hB8 : Below w.heap.size w w8 := hB7.trans (hb8.mono (by omega))
                clear hb8
                clear c0 c1 c2 c3 c4 c5 c6 c7 c8 c9 c10 c11 c12
                go_wp2_with fail
                go_ret
                exact ⟨by simp [runB, h1, h2, h3, h4, h5, h6, h7], hB8⟩
end Go.Proofs.Ytefaocjcfecipaa
