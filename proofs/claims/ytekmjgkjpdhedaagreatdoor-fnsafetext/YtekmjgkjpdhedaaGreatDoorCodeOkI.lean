/-
  impl.CodeOk over this translation: at every row of steps it answers codeB; nothing that was there turns.
-/
import Derived.Test.YtekmjgkjpdhedaaGreatDoorCodeAt
import Derived.Test.YtekmjgkjpdhedaaGreatDoorOpImplOk
namespace Go.Proofs.YtekmjgkjpdhedaaGreatDoor
open Go.ChangeShapes Go.WideShapes Go.ChangeAt Go.RowKit Go.Joins
set_option maxHeartbeats 2000000 in
theorem implCodeOk_any (C : List OpV) (ao : Option Addr) (cap : Nat) (w : World) (hl : C.length ≤ 1048576) (h : CodeAt w ao C) :
    Calls Tryz.prog 14 #[.slice ao C.length cap] w fun e w' => e = .returned (.bool (codeB C)) ∧ Below w.heap.size w w' := by
  by_cases hn : C.length < 1
  · have : C = [] := by cases C with | nil => rfl | cons a l => simp at hn
    subst this
    go_enter Tryz.func14, Tryz.ntmps14
    go_wp2_with fail
    go_ret
    exact ⟨rfl, Below.refl _ _⟩
  by_cases hx : 16 < C.length
  · go_enter Tryz.func14, Tryz.ntmps14
    go_wp2_with fail
    go_ret
    have e : codeB C = false := by
      have : decide (C.length ≤ 16) = false := by simp; omega
      simp [codeB, this]
    exact ⟨by rw [e]; rfl, Below.refl _ _⟩
  rcases h with rfl | ⟨b, o, rfl, hlt, hs⟩
  · exact absurd (by decide) hn
  · go_enter Tryz.func14, Tryz.ntmps14
    go_wp2_with fail
    go_loopw [15] (fun i wr => ∃ k : Nat, k ≤ C.length ∧ i = .int .i64 k ∧ Below w.heap.size w wr ∧ UptoOk C k) (fun i _ => C.length - (intOf i).toNat)
    case atStart => exact ⟨0, Nat.zero_le _, rfl, Below.refl _ _, fun j _ h => by omega⟩
    case round =>
      obtain ⟨k, hk, rfl, hB, hU⟩ := hrel
      by_cases hlt' : k < C.length
      · have s := hs k hlt'
        obtain ⟨c0, c1, c2, c3, c4, c5⟩ := s.below (w' := wr) (by exact hB)
        obtain ⟨x, hx0⟩ : ∃ x, x = C[k] := ⟨_, rfl⟩
        rw [← hx0] at c0 c1 c2 c3 c4 c5
        have hx : Hid (x = C[k]) := hx0
        clear hx0 s
        have hbw := hB.size
        go_wp2_with fail
        refine (implOpOk_any _ _ _ _ _ _ _).mono ?_
        rintro e w1 ⟨rfl, hb1⟩
        obtain ⟨hc1, _⟩ := bcell hb1
        have d3 : w1.cell? ⟨wr.heap.size, 3, none⟩ = some (.int .i64 x.t) := by rw [hc1 _ _ (by simp)]; simp [go_sem]
        have hB1 : Below w.heap.size w w1 := (hB.alloc hbw _).trans (hb1.mono (by simp; omega))
        clear hc1 hb1 c0 c1 c2 c3 c4 c5
        cases hok : opB x.k x.r x.s x.t x.a x.b with
        | false =>
          go_wp2_with fail
          go_ret
          exact ⟨by rw [codeB_no hlt' (.inl (by rw [← hx.out]; exact hok))]; rfl, hB1⟩
        | true =>
          have hn : ∀ t, x.t < (C.length : Int) → t = k + 1 → UptoOk C t := by
            rintro t ht rfl j hj hjk
            by_cases e : j < k
            · exact hU j hj e
            · have : j = k := by omega
              subst this
              rw [← hx.out]
              exact ⟨hok, ht⟩
          by_cases ht : x.t < (C.length : Int)
          · go_wp2_with fail
            go_roundw
            case rel => exact ⟨k + 1, by omega, by go_num, hB1, hn _ ht rfl⟩
            case measure => simp [intOf]; omega
          · go_wp2_with fail
            go_ret
            exact ⟨by rw [codeB_no hlt' (.inr (by rw [← hx.out]; omega))]; rfl, hB1⟩
      · have e : k = C.length := by omega
        subst e
        go_wp2_with fail
        go_ret
        refine ⟨?_, hB⟩
        rw [codeB_all hU]
        have e1 : decide (1 ≤ C.length) = true := by simp; omega
        have e2 : decide (C.length ≤ 16) = true := by simp; omega
        rw [e1, e2]; rfl
end Go.Proofs.YtekmjgkjpdhedaaGreatDoor
