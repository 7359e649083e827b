/-
  What laws.eqOp and eqOpS answer over this translation, of steps that are the same.
-/
import Derived.Test.YtcenbamakfamoaaDoorCodeAid
import Derived.Deep.RegionWith
import Derived.BigRegion
namespace Go.Proofs.YtcenbamakfamoaaDoor
open Go.ChangeShapes Go.WideShapes Go.ChangeAt Go.RowKit Go.Joins
theorem eqVal_same (a b : Int) (w : World) : Calls Tryd.prog 26 #[.agg #[.int .i64 a, .int .i64 b], .agg #[.int .i64 a, .int .i64 b]] w fun e w' => e = .returned (.bool true) ∧ Below w.heap.size w w' := by
  go_enter Tryd.func26, Tryd.ntmps26
  go_wp2_with fail
  go_ret
  exact ⟨rfl, ((Below.refl _ _).alloc (Nat.le_refl _) _).alloc (by simp) _⟩
set_option maxHeartbeats 1000000 in
theorem eqOp_same (x : OpV) (w : World) : Calls Tryd.prog 17 #[x.val, x.val] w fun e w' => e = .returned (.bool true) ∧ Below w.heap.size w w' := by
  go_enter Tryd.func17, Tryd.ntmps17
  go_wp2_with fail
  refine (eqVal_same _ _ _).mono ?_
  rintro e w1 ⟨rfl, hb1⟩
  go_wp2_with fail
  go_ret
  exact ⟨rfl, (((Below.refl _ _).alloc (Nat.le_refl _) _).alloc (by simp) _).trans (hb1.mono (by simp; omega))⟩
theorem opv_eq {x y : OpV} (h : x.val = y.val) : x = y := by
  cases x; cases y
  simp [OpV.val] at h
  simp [h]
set_option maxRecDepth 20000 in
set_option maxHeartbeats 2000000 in
theorem eqOps_same (C : List OpV) (g h : Nat) (c d : Nat) (w : World) (hl : C.length ≤ 1048576) (hg : ∀ i (hi : i < C.length), StepAt w g (i * 6) C[i]) (hh : ∀ i (hi : i < C.length), StepAt w h (i * 6) C[i]) :
    Calls Tryd.prog 9 #[.slice (some ⟨g, 0, none⟩) C.length c, .slice (some ⟨h, 0, none⟩) C.length d] w fun e w' => e = .returned (.bool true) ∧ Below w.heap.size w w' := by
  go_enter Tryd.func9, Tryd.ntmps9
  go_wp2_with fail
  go_loopw [5] (fun i wr => ∃ k : Nat, k ≤ C.length ∧ i = .int .i64 k ∧ Below w.heap.size w wr) (fun i _ => C.length - (intOf i).toNat)
  case atStart => exact ⟨0, Nat.zero_le _, rfl, Below.refl _ _⟩
  case round =>
    obtain ⟨k, hk, rfl, hB⟩ := hrel
    by_cases hlt' : k < C.length
    · have s := (hg k hlt').below (w' := wr) (by exact hB)
      have t := (hh k hlt').below (w' := wr) (by exact hB)
      obtain ⟨x, hx0⟩ : ∃ x, x = C[k] := ⟨_, rfl⟩
      rw [← hx0] at s t
      clear hx0
      obtain ⟨c0, c1, c2, c3, c4, c5⟩ := s
      obtain ⟨d0, d1, d2, d3, d4, d5⟩ := t
      go_wp2_with fail
      go_region_with (go_at_call 17; refine (eqOp_same x _).mono ?_; rintro e w1 ⟨rfl, hb1⟩)
      all_goals
        have hB1 : Below w.heap.size w w1 := hB.trans ((show Below wr.heap.size wr w1 from ⟨hb1.os, hb1.tape, hb1.output, hb1.size, hb1.block⟩).mono hB.size)
        go_step
        go_wp2_with fail
        go_roundw
        case rel => exact ⟨k + 1, by omega, by go_num, hB1⟩
        case measure => simp [intOf]; omega
    · have e : k = C.length := by omega
      subst e
      go_wp2_with fail
      go_ret
      exact ⟨rfl, hB⟩
end Go.Proofs.YtcenbamakfamoaaDoor
