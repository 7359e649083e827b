/-
  What impl.numberOf answers, for every value.
-/
import Derived.Test.YtekmjgkjpdhedaaGreatDoorWalks
namespace Go.Proofs.YtekmjgkjpdhedaaGreatDoor
open Go.ChangeShapes Go.WideShapes Go.ChangeAt Go.RowKit Go.Joins
/-- whether a value is a number -/
def numB (k n : Int) : Bool := (k == 1) && okB k n
theorem numB_bd {k n : Int} (h : numB k n = true) : k = 1 ∧ -99 ≤ n ∧ n ≤ 99 := by
  simp only [numB, Bool.and_eq_true, beq_iff_eq] at h
  obtain ⟨rfl, h⟩ := h
  rw [okB_one] at h
  simp at h; omega
theorem numB_mk {n : Int} (h1 : -99 ≤ n) (h2 : n ≤ 99) : numB 1 n = true := by simp [numB, okB, h1, h2]

set_option maxHeartbeats 400000 in
theorem count_any (n : Int) (w : World) :
    Calls Tryz.prog 126 #[.int .i64 n] w fun e w' => e = .returned (.int .i64 n) ∧ w' = w := by
  go_enter Tryz.func126, Tryz.ntmps126
  go_wp2
  go_ret
  exact ⟨rfl, rfl⟩
theorem assert_num (n : Int) (w : World) : (Instr.typeAssert (.iface 147 (.int .i64 n)) 142 147 true).run Tryz.prog w = .ok (.tuple #[.int .i64 n, .bool true]) w := by kernel_rfl
theorem assert_name (n : Int) (w : World) : (Instr.typeAssert (.iface 153 (.int .i64 n)) 142 147 true).run Tryz.prog w = .ok (.tuple #[.int .i64 0, .bool false]) w := by kernel_rfl
theorem assert_run (n : Int) (w : World) : (Instr.typeAssert (.iface 154 (.int .i64 n)) 142 147 true).run Tryz.prog w = .ok (.tuple #[.int .i64 0, .bool false]) w := by kernel_rfl
theorem assert_nil (w : World) : (Instr.typeAssert .nilIface 142 147 true).run Tryz.prog w = .ok (.tuple #[.int .i64 0, .bool false]) w := by kernel_rfl
set_option maxHeartbeats 400000 in
theorem number_yes (n : Int) (w : World) (h : numB 1 n = true) :
    Calls Tryz.prog 115 #[.agg #[.int .i64 1, .int .i64 n]] w fun e w' => e = .returned (.tuple #[.int .i64 n, .bool true]) ∧ Below w.heap.size w w' := by
  have hok : okB 1 n = true := by simpa [numB] using h
  have ht : thingV 1 n = .iface 147 (.int .i64 n) := by simp [thingV, hok]
  have hm := assert_num n
  clear h
  go_enter Tryz.func115, Tryz.ntmps115
  go_wp2_with fail
  refine (thing_any _ _ _).mono ?_
  rintro e w1 ⟨rfl, hb⟩
  go_wp2_with (go_at_call 126; refine (count_any _ _).mono ?_; rintro e w2 ⟨rfl, rfl⟩)
  go_ret2
  exact ⟨rfl, ((Below.refl _ _).alloc (Nat.le_refl _) _).trans (hb.mono (by simp))⟩
set_option maxHeartbeats 400000 in
theorem number_bad (k n : Int) (w : World) (h : okB k n = false) :
    Calls Tryz.prog 115 #[.agg #[.int .i64 k, .int .i64 n]] w fun e w' => e = .returned (.tuple #[.int .i64 0, .bool false]) ∧ Below w.heap.size w w' := by
  go_enter Tryz.func115, Tryz.ntmps115
  go_wp2_with fail
  refine (thing_any _ _ _).mono ?_
  rintro e w1 ⟨rfl, hb⟩
  go_wp2_with fail
  go_ret2
  exact ⟨rfl, ((Below.refl _ _).alloc (Nat.le_refl _) _).trans (hb.mono (by simp))⟩
set_option maxHeartbeats 400000 in
theorem number_other (k n : Int) (w : World) (hok : okB k n = true) (v : Value) (hv : thingV k n = v) (hm : ∀ w, (Instr.typeAssert v 142 147 true).run Tryz.prog w = .ok (.tuple #[.int .i64 0, .bool false]) w) :
    Calls Tryz.prog 115 #[.agg #[.int .i64 k, .int .i64 n]] w fun e w' => e = .returned (.tuple #[.int .i64 0, .bool false]) ∧ Below w.heap.size w w' := by
  go_enter Tryz.func115, Tryz.ntmps115
  go_wp2_with fail
  refine (thing_any _ _ _).mono ?_
  rintro e w1 ⟨rfl, hb⟩
  go_wp2_with fail
  go_ret2
  exact ⟨rfl, ((Below.refl _ _).alloc (Nat.le_refl _) _).trans (hb.mono (by simp))⟩
theorem number_no (k n : Int) (w : World) (h : numB k n = false) :
    Calls Tryz.prog 115 #[.agg #[.int .i64 k, .int .i64 n]] w fun e w' => e = .returned (.tuple #[.int .i64 0, .bool false]) ∧ Below w.heap.size w w' := by
  cases hok : okB k n with
  | false => exact number_bad k n w hok
  | true =>
    have hk := okB k n
    by_cases h1 : k = 1
    · subst h1; simp [numB, hok] at h
    by_cases h2 : k = 2
    · subst h2; exact number_other 2 n w hok _ (by simp [thingV, hok]) (assert_name n)
    by_cases h3 : k = 3
    · subst h3; exact number_other 3 n w hok _ (by simp [thingV, hok]) (assert_run n)
    · exact number_other k n w hok _ (by simp [thingV, h1, h2, h3]) assert_nil
/-- what numberOf answers, in one form -/
theorem number_any (k n : Int) (w : World) :
    Calls Tryz.prog 115 #[.agg #[.int .i64 k, .int .i64 n]] w fun e w' => e = .returned (.tuple #[.int .i64 (if numB k n = true then n else 0), .bool (numB k n)]) ∧ Below w.heap.size w w' := by
  cases h : numB k n with
  | true => obtain ⟨rfl, _⟩ := numB_bd h; simpa using number_yes n w h
  | false => simpa using number_no k n w h
end Go.Proofs.YtekmjgkjpdhedaaGreatDoor
