/-
  What the specification's l1Dec and ValRead answer at any text: something; and of a number's, or a value's, text just that.
-/
import Derived.Test.YtekmjgkjpdhedaaGreatDoorSpecRead
namespace Go.Proofs.YtekmjgkjpdhedaaGreatDoor
open Go.ChangeShapes Go.WideShapes Go.ChangeAt Go.RowKit Go.Joins
set_option maxRecDepth 100000 in
set_option maxHeartbeats 4000000 in
theorem l1Dec_empty (s : ByteArray) (w : World) (hs : s.size < 1) :
    Calls Tryz.prog 59 #[.string s] w fun e w' => e = .returned (.tuple #[.int .i64 0, .bool false]) ∧ w' = w := by
  have g0 : ¬ (1 : Int) < (s.size : Int) := by omega
  have g1 : (decide ((1 : Int) ≤ (s.size : Int)) && decide ((s.size : Int) ≤ 2)) = false := by rw [Bool.and_eq_false_iff, decide_eq_false_iff_not, decide_eq_false_iff_not]; omega
  go_enter Tryz.func59, Tryz.ntmps59
  go_wp2_with (go_at_call 42; refine (l6In_any _ _ _ _).mono ?_; rintro e w1 ⟨rfl, rfl⟩)
  go_ret2
  exact ⟨rfl, rfl⟩
set_option maxRecDepth 100000 in
set_option maxHeartbeats 4000000 in
theorem l1Dec_great (s : ByteArray) (w : World) (hs : 3 ≤ s.size) (hs2 : s.size ≤ 1048576) (h0 : ((s[0].toNat : Int) == 45) = false) :
    Calls Tryz.prog 59 #[.string s] w fun e w' => e = .returned (.tuple #[.int .i64 0, .bool false]) ∧ w' = w := by
  have g1 : (decide ((1 : Int) ≤ (s.size : Int)) && decide ((s.size : Int) ≤ 2)) = false := by rw [Bool.and_eq_false_iff, decide_eq_false_iff_not, decide_eq_false_iff_not]; omega
  have g2 : (1 : Int) < (s.size : Int) := by omega
  have g3 : (0 : Int) < (s.size : Int) := by omega
  go_enter Tryz.func59, Tryz.ntmps59
  go_wp2_with (go_at_call 42; refine (l6In_any _ _ _ _).mono ?_; rintro e w1 ⟨rfl, rfl⟩)
  go_ret2
  exact ⟨rfl, rfl⟩
set_option maxRecDepth 100000 in
set_option maxHeartbeats 4000000 in
theorem l1Dec_less (s t : ByteArray) (w : World) (hext : s.extract 1 s.size = t) (hs : 2 ≤ s.size) (hs2 : s.size ≤ 1048576) (ht1 : 3 ≤ t.size) (ht2 : t.size ≤ 1048576) (h0 : ((s[0].toNat : Int) == 45) = true) :
    Calls Tryz.prog 59 #[.string s] w fun e w' => e = .returned (.tuple #[.int .i64 0, .bool false]) ∧ w' = w := by
  have g1 : (decide ((1 : Int) ≤ (t.size : Int)) && decide ((t.size : Int) ≤ 2)) = false := by rw [Bool.and_eq_false_iff, decide_eq_false_iff_not, decide_eq_false_iff_not]; omega
  have g2 : (1 : Int) < (s.size : Int) := by omega
  have g3 : (0 : Int) < (s.size : Int) := by omega
  go_enter Tryz.func59, Tryz.ntmps59
  go_wp2_with fail
  go_wp2_with (go_at_call 42; refine (l6In_any _ _ _ _).mono ?_; rintro e w1 ⟨rfl, rfl⟩)
  go_ret2
  exact ⟨rfl, rfl⟩
/-- something is read, whatever stands there -/
theorem l1Dec_tot (r : List UInt8) (hl : r.length ≤ 1048576) : ∃ x b, ∀ w : World,
    Calls Tryz.prog 59 #[.string ⟨r.toArray⟩] w fun e w' => e = .returned (.tuple #[.int .i64 x, .bool b]) ∧ w' = w := by
  by_cases h0 : r.length < 1
  · exact ⟨0, false, fun w => l1Dec_empty _ w (by rw [ba_size]; exact h0)⟩
  by_cases h3 : r.length ≤ 3
  · exact l1Dec_some r (by omega) h3
  match r, hl, h0, h3 with
  | a :: r, hl, _, h3 =>
    simp at hl h3
    by_cases ha : a = 45
    · subst ha
      exact ⟨0, false, fun w => l1Dec_less ⟨(45 :: r).toArray⟩ ⟨r.toArray⟩ w (by rw [ba_size]; exact extract_mk_tail _ _) (by rw [ba_size, List.length_cons]; omega) (by rw [ba_size, List.length_cons]; omega) (by rw [ba_size]; omega) (by rw [ba_size]; omega) rfl⟩
    · have hx' := byte_ne (m := 45) (by omega) ha
      exact ⟨0, false, fun w => l1Dec_great ⟨(a :: r).toArray⟩ w (by rw [ba_size, List.length_cons]; omega) (by rw [ba_size, List.length_cons]; omega) (by show ((a.toNat : Int) == 45) = false; rw [beq_eq_false_iff_ne]; omega)⟩
/-- and of a number's text that number -/
theorem decS (r : List UInt8) (hl : r.length ≤ 1048576) : ∃ x b, (∀ m, -99 ≤ m → m ≤ 99 → r = Lib.itoa m → x = m) ∧ ∀ w : World,
    Calls Tryz.prog 59 #[.string ⟨r.toArray⟩] w fun e w' => e = .returned (.tuple #[.int .i64 x, .bool b]) ∧ w' = w := by
  by_cases h : ∃ m, -99 ≤ m ∧ m ≤ 99 ∧ r = Lib.itoa m
  · obtain ⟨m, h1, h2, rfl⟩ := h
    refine ⟨m, true, fun n n1 n2 e => ?_, fun w => l1Dec_yes m w h1 h2⟩
    have e1 := atoi_itoa m h1 h2
    have e2 := atoi_itoa n n1 n2
    rw [e, e2] at e1
    cases e1; rfl
  · obtain ⟨x, b, hx⟩ := l1Dec_tot r hl
    exact ⟨x, b, fun m h1 h2 e => absurd ⟨m, h1, h2, e⟩ h, hx⟩
/-- of a value's text that value -/
theorem valS (r : List UInt8) : ∃ a c b, (∀ k n, okB k n = true → r = txt k n → a = k ∧ c = n) ∧ ∀ w : World,
    Calls Tryz.prog 60 #[.string ⟨r.toArray⟩] w fun e w' => e = .returned (.tuple #[.agg #[.int .i64 a, .int .i64 c], .bool b]) ∧ Below w.heap.size w w' := by
  by_cases h : ∃ k n, okB k n = true ∧ r = txt k n
  · obtain ⟨k, n, h1, rfl⟩ := h
    exact ⟨k, n, true, fun k' n' h2 e => txt_inj h1 h2 e, fun w => specRead_yes k n w h1⟩
  · exact ⟨0, 0, false, fun k n h1 e => absurd ⟨k, n, h1, e⟩ h, fun w => specRead_no r w (fun k n h1 e => h ⟨k, n, h1, e⟩)⟩
end Go.Proofs.YtekmjgkjpdhedaaGreatDoor
