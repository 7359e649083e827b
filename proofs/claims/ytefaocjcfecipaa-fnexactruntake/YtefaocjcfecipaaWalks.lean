import Derived.Test.YtefaocjcfecipaaRows
import Derived.WalkKit
import Derived.ProofKit
import Derived.OpenShut
import Derived.ShutString
import Derived.ChangeOld
import Derived.Below
import Derived.Outline
import Derived.WalkSpells
import Derived.WalkLawsBesides
import Derived.Deep.QuietTactic
import Derived.BigQuiet
import Derived.Lib.SmallJoins
namespace Go.Proofs.Ytefaocjcfecipaa
open Go.ChangeShapes Go.WideShapes Go.ChangeAt Go.RowKit Go.Joins

/-! ### small facts -/
theorem upon_method {P : Program} {o : Oper} {a : Act} {next : Act → World → Prop} {Q : Exit → Act → World → Prop} {m : Sem (FuncId × Value)} {w : World} {f : FuncId × Value → World → Result Next}
    (g : FuncId) (rv : Value) (h : Sem.run P m w = .ok (g, rv) w) (hk : Oper.upon P o a next Q (f (g, rv) w)) : Oper.upon P o a next Q ((Sem.run P m w).andThen f) := by
  rw [h]; exact hk
theorem bcell {W w1 : World} (hb : Below W.heap.size W w1) : (∀ b o, b < W.heap.size → w1.cell? ⟨b, o, none⟩ = W.cell? ⟨b, o, none⟩) ∧ (∀ b o, b < W.heap.size → w1.frozen? ⟨b, o, none⟩ = W.frozen? ⟨b, o, none⟩) :=
  ⟨fun b o h => hb.cell (p := ⟨b, o, none⟩) h, fun b o h => hb.frozen (p := ⟨b, o, none⟩) h⟩

/-- whether a value is ok -/
def okB (k n : Int) : Bool :=
  if k = 0 then n == 0 else if k = 1 then decide (-99 ≤ n) && decide (n ≤ 99) else if k = 2 then decide (0 ≤ n) && decide (n ≤ 9) else if k = 3 then decide (1 ≤ n) && decide (n ≤ 6) else false
theorem l6In_any (n lo hi : Int) (w : World) :
    Calls Try.prog 30 #[.int .i64 n, .int .i64 lo, .int .i64 hi] w fun e w' => e = .returned (.bool (decide (lo ≤ n) && decide (n ≤ hi))) ∧ w' = w := by
  by_cases h1 : lo ≤ n
  · by_cases h2 : n ≤ hi
    · go_enter Try.func30, Try.ntmps30
      go_wp2
      go_ret
      exact ⟨by simp [h1, h2], rfl⟩
    · go_enter Try.func30, Try.ntmps30
      go_wp2
      go_ret
      exact ⟨by simp; omega, rfl⟩
  · go_enter Try.func30, Try.ntmps30
    go_wp2
    go_ret
    exact ⟨by simp; omega, rfl⟩

set_option maxHeartbeats 400000 in
theorem specOk_any (k n : Int) (w : World) :
    Calls Try.prog 32 #[.agg #[.int .i64 k, .int .i64 n]] w fun e w' => e = .returned (.bool (okB k n)) ∧ Below w.heap.size w w' := by
  by_cases h0 : k = 0
  · subst h0
    go_enter Try.func32, Try.ntmps32
    go_wp2_with fail
    go_ret
    exact ⟨by simp [okB], (Below.refl _ _).alloc (Nat.le_refl _) _⟩
  · by_cases h1 : k = 1
    · subst h1
      go_enter Try.func32, Try.ntmps32
      go_wp2_with (go_at_call 30; refine (l6In_any _ _ _ _).mono ?_; rintro e w' ⟨rfl, rfl⟩)
      go_ret
      exact ⟨by simp [okB], (Below.refl _ _).alloc (Nat.le_refl _) _⟩
    · by_cases h2 : k = 2
      · subst h2
        go_enter Try.func32, Try.ntmps32
        go_wp2_with (go_at_call 30; refine (l6In_any _ _ _ _).mono ?_; rintro e w' ⟨rfl, rfl⟩)
        go_ret
        exact ⟨by simp [okB], (Below.refl _ _).alloc (Nat.le_refl _) _⟩
      · by_cases h3 : k = 3
        · subst h3
          go_enter Try.func32, Try.ntmps32
          go_wp2_with (go_at_call 30; refine (l6In_any _ _ _ _).mono ?_; rintro e w' ⟨rfl, rfl⟩)
          go_ret
          exact ⟨by simp [okB], (Below.refl _ _).alloc (Nat.le_refl _) _⟩
        · go_enter Try.func32, Try.ntmps32
          go_wp2_with fail
          go_ret
          exact ⟨by simp [okB, h0, h1, h2, h3], (Below.refl _ _).alloc (Nat.le_refl _) _⟩

theorem inNum_any (n : Int) (w : World) :
    Calls Try.prog 96 #[.int .i64 n] w fun e w' => e = .returned (.bool (decide (-99 ≤ n) && decide (n ≤ 99))) ∧ w' = w := by
  by_cases h1 : -99 ≤ n
  · by_cases h2 : n ≤ 99
    · go_enter Try.func96, Try.ntmps96
      go_wp2
      go_ret
      exact ⟨by simp [h1, h2], rfl⟩
    · go_enter Try.func96, Try.ntmps96
      go_wp2
      go_ret
      exact ⟨by simp; omega, rfl⟩
  · go_enter Try.func96, Try.ntmps96
    go_wp2
    go_ret
    exact ⟨by simp; omega, rfl⟩

theorem inName_any (n : Int) (w : World) :
    Calls Try.prog 98 #[.int .i64 n] w fun e w' => e = .returned (.bool (decide (0 ≤ n) && decide (n ≤ 9))) ∧ w' = w := by
  by_cases h1 : 0 ≤ n
  · by_cases h2 : n ≤ 9
    · go_enter Try.func98, Try.ntmps98
      go_wp2
      go_ret
      exact ⟨by simp [h1, h2], rfl⟩
    · go_enter Try.func98, Try.ntmps98
      go_wp2
      go_ret
      exact ⟨by simp; omega, rfl⟩
  · go_enter Try.func98, Try.ntmps98
    go_wp2
    go_ret
    exact ⟨by simp; omega, rfl⟩

theorem inRun_any (n : Int) (w : World) :
    Calls Try.prog 68 #[.int .i64 n] w fun e w' => e = .returned (.bool (decide (1 ≤ n) && decide (n ≤ 6))) ∧ w' = w := by
  by_cases h1 : 1 ≤ n
  · by_cases h2 : n ≤ 6
    · go_enter Try.func68, Try.ntmps68
      go_wp2
      go_ret
      exact ⟨by simp [h1, h2], rfl⟩
    · go_enter Try.func68, Try.ntmps68
      go_wp2
      go_ret
      exact ⟨by simp; omega, rfl⟩
  · go_enter Try.func68, Try.ntmps68
    go_wp2
    go_ret
    exact ⟨by simp; omega, rfl⟩

theorem okB_zero (n : Int) : okB 0 n = (n == 0) := rfl
theorem okB_one (n : Int) : okB 1 n = (decide (-99 ≤ n) && decide (n ≤ 99)) := rfl
theorem okB_two (n : Int) : okB 2 n = (decide (0 ≤ n) && decide (n ≤ 9)) := rfl
theorem okB_three (n : Int) : okB 3 n = (decide (1 ≤ n) && decide (n ≤ 6)) := rfl
theorem okB_else (k n : Int) (h0 : k ≠ 0) (h1 : k ≠ 1) (h2 : k ≠ 2) (h3 : k ≠ 3) : okB k n = false := by simp [okB, h0, h1, h2, h3]
/-- the thing behind a value -/
def thingV (k n : Int) : Value :=
  if okB k n = true then (if k = 1 then .iface 94 (.int .i64 n) else if k = 2 then .iface 95 (.int .i64 n) else if k = 3 then .iface 84 (.int .i64 n) else .nilIface) else .nilIface

set_option maxRecDepth 100000 in
set_option maxHeartbeats 400000 in
theorem thing_num (n : Int) (w : World) :
    Calls Try.prog 69 #[.agg #[.int .i64 1, .int .i64 n]] w fun e w' => e = .returned (.tuple #[thingV 1 n, .bool (okB 1 n)]) ∧ Below w.heap.size w w' := by
  by_cases h : -99 ≤ n ∧ n ≤ 99
  · obtain ⟨h1, h2⟩ := h
    have hok : Hid (okB 1 n = true) := by show okB 1 n = true; simp [okB, h1, h2]
    go_enter Try.func69, Try.ntmps69
    go_wp2_with fail
    refine upon_method 96 (.int .i64 n) (by kernel_rfl) ?_
    go_wp2_with (go_at_call 96; refine (inNum_any _ _).mono ?_; rintro e w' ⟨rfl, rfl⟩)
    go_ret2
    exact ⟨by rw [hok.out, thingV, if_pos hok.out]; rfl, (Below.refl _ _).alloc (Nat.le_refl _) _⟩
  · have hno : Hid (okB 1 n = false) := by show okB 1 n = false; simp [okB]; omega
    have hd : (decide (-99 ≤ n) && decide (n ≤ 99)) = false := by simp; omega
    go_enter Try.func69, Try.ntmps69
    go_wp2_with fail
    refine upon_method 96 (.int .i64 n) (by kernel_rfl) ?_
    go_wp2_with (go_at_call 96; refine (inNum_any _ _).mono ?_; rintro e w' ⟨rfl, rfl⟩)
    go_ret2
    exact ⟨by rw [hno.out, thingV, if_neg (by rw [hno.out]; decide)]; rfl, (Below.refl _ _).alloc (Nat.le_refl _) _⟩

set_option maxRecDepth 100000 in
set_option maxHeartbeats 400000 in
theorem thing_name (n : Int) (w : World) :
    Calls Try.prog 69 #[.agg #[.int .i64 2, .int .i64 n]] w fun e w' => e = .returned (.tuple #[thingV 2 n, .bool (okB 2 n)]) ∧ Below w.heap.size w w' := by
  by_cases h : 0 ≤ n ∧ n ≤ 9
  · obtain ⟨h1, h2⟩ := h
    have hok : Hid (okB 2 n = true) := by show okB 2 n = true; simp [okB, h1, h2]
    go_enter Try.func69, Try.ntmps69
    go_wp2_with fail
    refine upon_method 98 (.int .i64 n) (by kernel_rfl) ?_
    go_wp2_with (go_at_call 98; refine (inName_any _ _).mono ?_; rintro e w' ⟨rfl, rfl⟩)
    go_ret2
    exact ⟨by rw [hok.out, thingV, if_pos hok.out]; rfl, (Below.refl _ _).alloc (Nat.le_refl _) _⟩
  · have hno : Hid (okB 2 n = false) := by show okB 2 n = false; simp [okB]; omega
    have hd : (decide (0 ≤ n) && decide (n ≤ 9)) = false := by simp; omega
    go_enter Try.func69, Try.ntmps69
    go_wp2_with fail
    refine upon_method 98 (.int .i64 n) (by kernel_rfl) ?_
    go_wp2_with (go_at_call 98; refine (inName_any _ _).mono ?_; rintro e w' ⟨rfl, rfl⟩)
    go_ret2
    exact ⟨by rw [hno.out, thingV, if_neg (by rw [hno.out]; decide)]; rfl, (Below.refl _ _).alloc (Nat.le_refl _) _⟩

set_option maxRecDepth 100000 in
set_option maxHeartbeats 400000 in
theorem thing_run (n : Int) (w : World) :
    Calls Try.prog 69 #[.agg #[.int .i64 3, .int .i64 n]] w fun e w' => e = .returned (.tuple #[thingV 3 n, .bool (okB 3 n)]) ∧ Below w.heap.size w w' := by
  by_cases h : 1 ≤ n ∧ n ≤ 6
  · obtain ⟨h1, h2⟩ := h
    have hok : Hid (okB 3 n = true) := by show okB 3 n = true; simp [okB, h1, h2]
    go_enter Try.func69, Try.ntmps69
    go_wp2_with fail
    refine upon_method 68 (.int .i64 n) (by kernel_rfl) ?_
    go_wp2_with (go_at_call 68; refine (inRun_any _ _).mono ?_; rintro e w' ⟨rfl, rfl⟩)
    go_ret2
    exact ⟨by rw [hok.out, thingV, if_pos hok.out]; rfl, (Below.refl _ _).alloc (Nat.le_refl _) _⟩
  · have hno : Hid (okB 3 n = false) := by show okB 3 n = false; simp [okB]; omega
    have hd : (decide (1 ≤ n) && decide (n ≤ 6)) = false := by simp; omega
    go_enter Try.func69, Try.ntmps69
    go_wp2_with fail
    refine upon_method 68 (.int .i64 n) (by kernel_rfl) ?_
    go_wp2_with (go_at_call 68; refine (inRun_any _ _).mono ?_; rintro e w' ⟨rfl, rfl⟩)
    go_ret2
    exact ⟨by rw [hno.out, thingV, if_neg (by rw [hno.out]; decide)]; rfl, (Below.refl _ _).alloc (Nat.le_refl _) _⟩

set_option maxRecDepth 100000 in
set_option maxHeartbeats 400000 in
theorem thing_nil (n : Int) (w : World) :
    Calls Try.prog 69 #[.agg #[.int .i64 0, .int .i64 n]] w fun e w' => e = .returned (.tuple #[thingV 0 n, .bool (okB 0 n)]) ∧ Below w.heap.size w w' := by
  have hv : Hid (thingV 0 n = .nilIface) := by show thingV 0 n = .nilIface; simp [thingV]
  go_enter Try.func69, Try.ntmps69
  go_wp2_with fail
  go_quiet (fail)
  go_wp2_with fail
  go_ret2
  exact ⟨by rw [hv.out]; rfl, below_drewN ((Below.refl _ _).alloc (Nat.le_refl _) _) _⟩
set_option maxRecDepth 100000 in
set_option maxHeartbeats 400000 in
theorem thing_else (k n : Int) (w : World) (h0 : k ≠ 0) (h1 : k ≠ 1) (h2 : k ≠ 2) (h3 : k ≠ 3) :
    Calls Try.prog 69 #[.agg #[.int .i64 k, .int .i64 n]] w fun e w' => e = .returned (.tuple #[thingV k n, .bool (okB k n)]) ∧ Below w.heap.size w w' := by
  have hok : Hid (okB k n = false) := okB_else k n h0 h1 h2 h3
  have hv : Hid (thingV k n = .nilIface) := by show thingV k n = .nilIface; rw [thingV, if_neg (by rw [hok.out]; decide)]
  go_enter Try.func69, Try.ntmps69
  go_wp2_with fail
  go_ret2
  exact ⟨by rw [hv.out, hok.out]; rfl, (Below.refl _ _).alloc (Nat.le_refl _) _⟩
theorem thing_any (k n : Int) (w : World) :
    Calls Try.prog 69 #[.agg #[.int .i64 k, .int .i64 n]] w fun e w' => e = .returned (.tuple #[thingV k n, .bool (okB k n)]) ∧ Below w.heap.size w w' := by
  by_cases h0 : k = 0
  · subst h0; exact thing_nil n w
  by_cases h1 : k = 1
  · subst h1; exact thing_num n w
  by_cases h2 : k = 2
  · subst h2; exact thing_name n w
  by_cases h3 : k = 3
  · subst h3; exact thing_run n w
  exact thing_else k n w h0 h1 h2 h3
set_option maxHeartbeats 400000 in
theorem implOk_any (k n : Int) (w : World) :
    Calls Try.prog 36 #[.agg #[.int .i64 k, .int .i64 n]] w fun e w' => e = .returned (.bool (okB k n)) ∧ Below w.heap.size w w' := by
  go_enter Try.func36, Try.ntmps36
  go_wp2_with (go_at_call 69; refine (thing_any _ _ _).mono ?_; rintro e w1 ⟨rfl, hb⟩)
  go_ret
  exact ⟨rfl, ((Below.refl _ _).alloc (Nat.le_refl _) _).trans (hb.mono (by simp))⟩
end Go.Proofs.Ytefaocjcfecipaa
