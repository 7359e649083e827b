/-
  spec.CodeOk over this translation: at every row of steps it answers codeB; nothing that was there turns.
-/
import Derived.Test.YtekmjgkjpdhedaaGreatDoorCodeAt
import Derived.Test.YtekmjgkjpdhedaaGreatDoorOpSpec
namespace Go.Proofs.YtekmjgkjpdhedaaGreatDoor
open Go.ChangeShapes Go.WideShapes Go.ChangeAt Go.RowKit Go.Joins
set_option maxHeartbeats 1000000 in
theorem goes_any (k : Int) (w : World) : Calls Tryz.prog 41 #[.int .i64 k] w fun e w' => e = .returned (.bool (goesB k)) ∧ w' = w := by
  by_cases h5 : k = 5
  · subst h5; go_enter Tryz.func41, Tryz.ntmps41; go_wp2_with fail; go_ret; exact ⟨rfl, rfl⟩
  by_cases h8 : k = 8
  · subst h8; go_enter Tryz.func41, Tryz.ntmps41; go_wp2_with fail; go_ret; exact ⟨rfl, rfl⟩
  by_cases h9 : k = 9
  · subst h9; go_enter Tryz.func41, Tryz.ntmps41; go_wp2_with fail; go_ret; exact ⟨rfl, rfl⟩
  have e5 : (k == 5) = false := by simp [h5]
  have e8 : (k == 8) = false := by simp [h8]
  have e9 : (k == 9) = false := by simp [h9]
  go_enter Tryz.func41, Tryz.ntmps41
  go_wp2_with fail
  go_ret
  exact ⟨by simp [goesB, h5, h8, h9], rfl⟩
set_option maxHeartbeats 2000000 in
theorem specCodeOk_any (C : List OpV) (ao : Option Addr) (cap : Nat) (w : World) (hl : C.length ≤ 1048576) (h : CodeAt w ao C) :
    Calls Tryz.prog 18 #[.slice ao C.length cap] w fun e w' => e = .returned (.bool (codeB C)) ∧ Below w.heap.size w w' := by
  rcases h with rfl | ⟨b, o, rfl, hlt, hs⟩
  · go_enter Tryz.func18, Tryz.ntmps18
    go_wp2_with fail
    refine wp_loop_rounds 1 ?_
    rw [rounds_succ]
    go_wp2_with fail
    refine (l6In_any _ _ _ _).mono ?_
    rintro e w1 ⟨rfl, rfl⟩
    go_wp2_with fail
    go_ret
    exact ⟨rfl, Below.refl _ _⟩
  · go_enter Tryz.func18, Tryz.ntmps18
    go_wp2_with fail
    go_loopw [3] (fun i wr => ∃ k : Nat, k ≤ C.length ∧ i = .int .i64 k ∧ Below w.heap.size w wr ∧ UptoOk C k) (fun i _ => C.length - (intOf i).toNat)
    case atStart => exact ⟨0, Nat.zero_le _, rfl, Below.refl _ _, fun j _ h => by omega⟩
    case round =>
      obtain ⟨k, hk, rfl, hB, hU⟩ := hrel
      by_cases hlt' : k < C.length
      · have s := hs k hlt'
        obtain ⟨c0, c1, c2, c3, c4, c5⟩ := s.below (w' := wr) (by exact hB)
        obtain ⟨x, hx0⟩ : ∃ x, x = C[k] := ⟨_, rfl⟩
        rw [← hx0] at c0 c1 c2 c3 c4 c5
        have hx : Hid (x = C[k]) := hx0
        clear hx0 s
        have hbw : b < wr.heap.size := by have := hB.size; omega
        go_wp2_with fail
        refine (specOpOk_any _ _ _ _ _ _ _).mono ?_
        rintro e w1 ⟨rfl, hb1⟩
        obtain ⟨hc1, _⟩ := bcell hb1
        replace c0 : w1.cell? ⟨b, o + k * 6, none⟩ = some (.int .i64 x.k) := by rw [hc1 _ _ hbw]; exact c0
        replace c3 : w1.cell? ⟨b, o + k * 6 + 3, none⟩ = some (.int .i64 x.t) := by rw [hc1 _ _ hbw]; exact c3
        have hB1 : Below w.heap.size w w1 := hB.trans (hb1.mono hB.size)
        clear hc1 hb1 c1 c2 c4 c5
        cases hok : opB x.k x.r x.s x.t x.a x.b with
        | false =>
          go_wp2_with fail
          go_ret
          exact ⟨by rw [codeB_no hlt' (.inl (by rw [← hx.out]; exact hok))]; rfl, hB1⟩
        | true =>
          have oi := opIs_of hok
          go_wp2_with fail
          refine (goes_any _ _).mono ?_
          rintro e w2 ⟨rfl, rfl⟩
          have hn : ∀ t, x.t < (C.length : Int) → t = k + 1 → UptoOk C t := by
            rintro t ht rfl j hj hjk
            by_cases e : j < k
            · exact hU j hj e
            · have : j = k := by omega
              subst this
              rw [← hx.out]
              exact ⟨hok, ht⟩
          cases hg : goesB x.k with
          | false =>
            have ht0 : x.t < (C.length : Int) := by
              have : x.t = 0 := oi.tN (by
                have h1 := oi.k1
                have h2 := oi.k2
                rcases kinds14 h1 h2 with e | e | e | e | e | e | e | e | e | e | e | e | e | e <;> rw [e] at hg ⊢ <;> first | rfl | (exact absurd hg (by decide)))
              omega
            go_wp2_with fail
            go_roundw
            case rel => exact ⟨k + 1, by omega, by go_num, hB1, hn _ ht0 rfl⟩
            case measure => simp [intOf]; omega
          | true =>
            by_cases ht : x.t < (C.length : Int)
            · go_wp2_with fail
              go_roundw
              case rel => exact ⟨k + 1, by omega, by go_num, hB1, hn _ ht rfl⟩
              case measure => simp [intOf]; omega
            · go_wp2_with fail
              go_ret
              exact ⟨by rw [codeB_no hlt' (.inr (by rw [← hx.out]; omega))]; rfl, hB1⟩
      · have e : k = C.length := by omega
        subst e
        go_wp2_with fail
        refine (l6In_any _ _ _ _).mono ?_
        rintro e w1 ⟨rfl, rfl⟩
        go_wp2_with fail
        go_ret
        refine ⟨?_, hB⟩
        rw [codeB_all hU]
        have e1 : decide (1 ≤ (C.length : Int)) = decide (1 ≤ C.length) := by congr 1; simp; omega
        have e2 : decide ((C.length : Int) ≤ 16) = decide (C.length ≤ 16) := by congr 1; simp; omega
        rw [e1, e2]; rfl
end Go.Proofs.YtekmjgkjpdhedaaGreatDoor
