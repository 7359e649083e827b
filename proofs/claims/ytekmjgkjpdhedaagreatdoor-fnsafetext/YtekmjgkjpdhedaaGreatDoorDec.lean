/-
  What the specification's l1Dec answers, for every text.
-/
import Derived.Test.YtekmjgkjpdhedaaGreatDoorReadText
import Derived.Laws.Closers25b
namespace Go.Proofs.YtekmjgkjpdhedaaGreatDoor
open Go.ChangeShapes Go.WideShapes Go.ChangeAt Go.RowKit Go.Joins
/-- figures alone -/
def alld (l : List UInt8) : Bool := l.all fun c => decide (48 ≤ c.toNat) && decide (c.toNat ≤ 57)
/-- the number that figures spell -/
def valD (l : List UInt8) : Int := l.foldl (fun n c => 10 * n + ((c.toNat : Int) - 48)) 0
theorem alld_snoc (l : List UInt8) (c : UInt8) : alld (l ++ [c]) = (alld l && (decide (48 ≤ c.toNat) && decide (c.toNat ≤ 57))) := by simp [alld, List.all_append]
theorem valD_snoc (l : List UInt8) (c : UInt8) : valD (l ++ [c]) = 10 * valD l + ((c.toNat : Int) - 48) := by simp [valD, List.foldl_append]
theorem take_snoc (s : ByteArray) (k : Nat) (h : k < s.size) : s.data.toList.take (k + 1) = s.data.toList.take k ++ [s[k]] := by
  rw [List.take_succ_eq_append_getElem (by simpa using h)]; rfl
theorem valD_bd : ∀ (l : List UInt8), l.length ≤ 2 → alld l = true → 0 ≤ valD l ∧ valD l ≤ 99 ∧ (l.length ≤ 1 → valD l ≤ 9) ∧ (l.length = 0 → valD l = 0)
  | [], _, _ => ⟨by decide, by decide, fun _ => by decide, fun _ => rfl⟩
  | [a], _, h => by
    have h' : 48 ≤ a.toNat ∧ a.toNat ≤ 57 := by simpa [alld] using h
    have e : valD [a] = (a.toNat : Int) - 48 := by simp [valD]
    rw [e]; simp only [List.length_singleton]; omega
  | [a, b], _, h => by
    have h' : (48 ≤ a.toNat ∧ a.toNat ≤ 57) ∧ 48 ≤ b.toNat ∧ b.toNat ≤ 57 := by simpa [alld] using h
    have e : valD [a, b] = 10 * ((a.toNat : Int) - 48) + ((b.toNat : Int) - 48) := by simp [valD]
    rw [e]; simp only [List.length_cons, List.length_nil]; omega
  | _ :: _ :: _ :: _, hl, _ => by simp at hl
theorem alld_take {l : List UInt8} {k : Nat} (h : alld (l.take k) = false) : alld l = false := by
  rw [Bool.eq_false_iff] at h ⊢
  intro hl
  apply h
  simp only [alld, List.all_eq_true] at hl ⊢
  exact fun x hx => hl x (List.mem_of_mem_take hx)
/-- what comes out: the number, or none -/
def resD (sg : Int) (l : List UInt8) : Value := if alld l = true then .tuple #[.int .i64 (sg * valD l), .bool true] else .tuple #[.int .i64 0, .bool false]
theorem resD_yes {sg : Int} {l : List UInt8} (h : alld l = true) : resD sg l = .tuple #[.int .i64 (sg * valD l), .bool true] := if_pos h
theorem resD_no {sg : Int} {l : List UInt8} (h : alld l = false) : resD sg l = .tuple #[.int .i64 0, .bool false] := if_neg (by rw [h]; decide)
set_option maxRecDepth 100000 in
set_option maxHeartbeats 4000000 in
theorem l1Dec_two (s : ByteArray) (w : World) (h2 : 2 ≤ s.size) (h2' : s.size ≤ 2) (h0 : ((s[0].toNat : Int) == 45) = false) :
    Calls Tryz.prog 59 #[.string s] w fun e w' => e = .returned (resD 1 s.data.toList) ∧ w' = w := by
  have hlen : s.data.toList.length = s.size := Array.length_toList
  have g1 : (decide ((1 : Int) ≤ (s.size : Int)) && decide ((s.size : Int) ≤ 2)) = true := by rw [Bool.and_eq_true, decide_eq_true_eq, decide_eq_true_eq]; omega
  have g2 : (1 : Int) < (s.size : Int) := by omega
  have g3 : (0 : Int) < (s.size : Int) := by omega
  go_enter Tryz.func59, Tryz.ntmps59
  go_wp2_with (go_at_call 42; refine (l6In_any _ _ _ _).mono ?_; rintro e w1 ⟨rfl, rfl⟩)
  go_loop [5, 6] (fun x i => ∃ k : Nat, k ≤ s.size ∧ i = .int .i64 k ∧ x = .int .i64 (valD (s.data.toList.take k)) ∧ Hid (alld (s.data.toList.take k) = true)) (fun _ i => s.size - (intOf i).toNat)
  case atStart => exact ⟨0, Nat.zero_le _, rfl, rfl, rfl⟩
  case round =>
    obtain ⟨k, hk, rfl, rfl, hal⟩ := hrel
    have hll : (s.data.toList.take k).length ≤ k := List.length_take_le _ _
    have hbd := valD_bd (s.data.toList.take k) (by omega) hal.out
    have hv0 := hbd.1
    have hv1 := hbd.2.1
    by_cases hlt : k < s.size
    · have hv2 := hbd.2.2.1 (by omega)
      have hks : (0 : Int) ≤ (k : Int) := by omega
      have hks2 : (k : Int) < (s.size : Int) := by omega
      have HV : Hid (valD (s.data.toList.take (k + 1)) = 10 * valD (s.data.toList.take k) + ((s[k].toNat : Int) - 48)) := by show valD (s.data.toList.take (k + 1)) = _; rw [take_snoc s k hlt, valD_snoc]
      have HD : Hid (alld (s.data.toList.take (k + 1)) = (decide (48 ≤ s[k].toNat) && decide (s[k].toNat ≤ 57))) := by show alld (s.data.toList.take (k + 1)) = _; rw [take_snoc s k hlt, alld_snoc, hal.out, Bool.true_and]
      have hu := UInt8.toNat_lt s[k]
      clear hbd
      by_cases hd1 : 48 ≤ s[k].toNat
      · by_cases hd2 : s[k].toNat ≤ 57
        · have i1 : ¬ ((s[k].toNat : Int) < 48) := by omega
          have i2 : ¬ ((57 : Int) < (s[k].toNat : Int)) := by omega
          generalize hvv : valD (s.data.toList.take k) = x at *
          go_wp2_with fail
          go_round
          case rel => exact ⟨k + 1, by omega, by go_num, by rw [HV.out], by show alld _ = true; rw [HD.out]; simp; omega⟩
          case measure => simp [intOf]; omega
        · have i1 : ¬ ((s[k].toNat : Int) < 48) := by omega
          have i2 : (57 : Int) < (s[k].toNat : Int) := by omega
          have HR : Hid (resD 1 s.data.toList = .tuple #[.int .i64 0, .bool false]) := resD_no (alld_take (k := k + 1) (by rw [HD.out]; simp; omega))
          go_wp2_with fail
          go_ret2
          exact ⟨by rw [HR.out]; rfl, rfl⟩
      · have i1 : ((s[k].toNat : Int) < 48) := by omega
        have HR : Hid (resD 1 s.data.toList = .tuple #[.int .i64 0, .bool false]) := resD_no (alld_take (k := k + 1) (by rw [HD.out]; simp; omega))
        go_wp2_with fail
        go_ret2
        exact ⟨by rw [HR.out]; rfl, rfl⟩
    · have hkt : s.data.toList.take k = s.data.toList := List.take_of_length_le (by rw [hlen]; omega)
      have HR : Hid (resD 1 s.data.toList = .tuple #[.int .i64 (1 * valD (s.data.toList.take k)), .bool true]) := by show resD 1 s.data.toList = _; rw [hkt] at hal ⊢; exact resD_yes hal.out
      have hks2 : ¬ (k : Int) < (s.size : Int) := by omega
      clear hkt hbd
      generalize valD (s.data.toList.take k) = x at *
      go_wp2_with fail
      go_ret2
      exact ⟨by rw [HR.out]; simp, rfl⟩
set_option maxRecDepth 100000 in
set_option maxHeartbeats 4000000 in
theorem l1Dec_one (s : ByteArray) (w : World) (h1 : 1 ≤ s.size) (h2 : s.size ≤ 1) :
    Calls Tryz.prog 59 #[.string s] w fun e w' => e = .returned (resD 1 s.data.toList) ∧ w' = w := by
  have hlen : s.data.toList.length = s.size := Array.length_toList
  have g1 : (decide ((1 : Int) ≤ (s.size : Int)) && decide ((s.size : Int) ≤ 2)) = true := by rw [Bool.and_eq_true, decide_eq_true_eq, decide_eq_true_eq]; omega
  have g2 : ¬ (1 : Int) < (s.size : Int) := by omega
  go_enter Tryz.func59, Tryz.ntmps59
  go_wp2_with (go_at_call 42; refine (l6In_any _ _ _ _).mono ?_; rintro e w1 ⟨rfl, rfl⟩)
  go_loop [5, 6] (fun x i => ∃ k : Nat, k ≤ s.size ∧ i = .int .i64 k ∧ x = .int .i64 (valD (s.data.toList.take k)) ∧ Hid (alld (s.data.toList.take k) = true)) (fun _ i => s.size - (intOf i).toNat)
  case atStart => exact ⟨0, Nat.zero_le _, rfl, rfl, rfl⟩
  case round =>
    obtain ⟨k, hk, rfl, rfl, hal⟩ := hrel
    have hll : (s.data.toList.take k).length ≤ k := List.length_take_le _ _
    have hbd := valD_bd (s.data.toList.take k) (by omega) hal.out
    have hv0 := hbd.1
    have hv1 := hbd.2.1
    by_cases hlt : k < s.size
    · have hv2 := hbd.2.2.1 (by omega)
      have hks : (0 : Int) ≤ (k : Int) := by omega
      have hks2 : (k : Int) < (s.size : Int) := by omega
      have HV : Hid (valD (s.data.toList.take (k + 1)) = 10 * valD (s.data.toList.take k) + ((s[k].toNat : Int) - 48)) := by show valD (s.data.toList.take (k + 1)) = _; rw [take_snoc s k hlt, valD_snoc]
      have HD : Hid (alld (s.data.toList.take (k + 1)) = (decide (48 ≤ s[k].toNat) && decide (s[k].toNat ≤ 57))) := by show alld (s.data.toList.take (k + 1)) = _; rw [take_snoc s k hlt, alld_snoc, hal.out, Bool.true_and]
      have hu := UInt8.toNat_lt s[k]
      clear hbd
      by_cases hd1 : 48 ≤ s[k].toNat
      · by_cases hd2 : s[k].toNat ≤ 57
        · have i1 : ¬ ((s[k].toNat : Int) < 48) := by omega
          have i2 : ¬ ((57 : Int) < (s[k].toNat : Int)) := by omega
          generalize hvv : valD (s.data.toList.take k) = x at *
          go_wp2_with fail
          go_round
          case rel => exact ⟨k + 1, by omega, by go_num, by rw [HV.out], by show alld _ = true; rw [HD.out]; simp; omega⟩
          case measure => simp [intOf]; omega
        · have i1 : ¬ ((s[k].toNat : Int) < 48) := by omega
          have i2 : (57 : Int) < (s[k].toNat : Int) := by omega
          have HR : Hid (resD 1 s.data.toList = .tuple #[.int .i64 0, .bool false]) := resD_no (alld_take (k := k + 1) (by rw [HD.out]; simp; omega))
          go_wp2_with fail
          go_ret2
          exact ⟨by rw [HR.out]; rfl, rfl⟩
      · have i1 : ((s[k].toNat : Int) < 48) := by omega
        have HR : Hid (resD 1 s.data.toList = .tuple #[.int .i64 0, .bool false]) := resD_no (alld_take (k := k + 1) (by rw [HD.out]; simp; omega))
        go_wp2_with fail
        go_ret2
        exact ⟨by rw [HR.out]; rfl, rfl⟩
    · have hkt : s.data.toList.take k = s.data.toList := List.take_of_length_le (by rw [hlen]; omega)
      have HR : Hid (resD 1 s.data.toList = .tuple #[.int .i64 (1 * valD (s.data.toList.take k)), .bool true]) := by show resD 1 s.data.toList = _; rw [hkt] at hal ⊢; exact resD_yes hal.out
      have hks2 : ¬ (k : Int) < (s.size : Int) := by omega
      clear hkt hbd
      generalize valD (s.data.toList.take k) = x at *
      go_wp2_with fail
      go_ret2
      exact ⟨by rw [HR.out]; simp, rfl⟩
set_option maxRecDepth 100000 in
set_option maxHeartbeats 4000000 in
theorem l1Dec_minus (s t : ByteArray) (w : World) (hext : s.extract 1 s.size = t) (hs : 2 ≤ s.size) (ht1 : 1 ≤ t.size) (ht2 : t.size ≤ 2) (h0 : ((s[0].toNat : Int) == 45) = true) :
    Calls Tryz.prog 59 #[.string s] w fun e w' => e = .returned (resD (-1) t.data.toList) ∧ w' = w := by
  have hlen : t.data.toList.length = t.size := Array.length_toList
  have g1 : (decide ((1 : Int) ≤ (t.size : Int)) && decide ((t.size : Int) ≤ 2)) = true := by rw [Bool.and_eq_true, decide_eq_true_eq, decide_eq_true_eq]; omega
  have g2 : (1 : Int) < (s.size : Int) := by omega
  have g3 : (0 : Int) < (s.size : Int) := by omega
  have g4 : (1 : Int) ≤ (s.size : Int) := by omega
  go_enter Tryz.func59, Tryz.ntmps59
  go_wp2_with (go_at_call 42; refine (l6In_any _ _ _ _).mono ?_; rintro e w1 ⟨rfl, rfl⟩)
  go_loop [5, 6] (fun x i => ∃ k : Nat, k ≤ t.size ∧ i = .int .i64 k ∧ x = .int .i64 (valD (t.data.toList.take k)) ∧ Hid (alld (t.data.toList.take k) = true)) (fun _ i => t.size - (intOf i).toNat)
  case atStart => exact ⟨0, Nat.zero_le _, rfl, rfl, rfl⟩
  case round =>
    obtain ⟨k, hk, rfl, rfl, hal⟩ := hrel
    have hll : (t.data.toList.take k).length ≤ k := List.length_take_le _ _
    have hbd := valD_bd (t.data.toList.take k) (by omega) hal.out
    have hv0 := hbd.1
    have hv1 := hbd.2.1
    by_cases hlt : k < t.size
    · have hv2 := hbd.2.2.1 (by omega)
      have hks : (0 : Int) ≤ (k : Int) := by omega
      have hks2 : (k : Int) < (t.size : Int) := by omega
      have HV : Hid (valD (t.data.toList.take (k + 1)) = 10 * valD (t.data.toList.take k) + ((t[k].toNat : Int) - 48)) := by show valD (t.data.toList.take (k + 1)) = _; rw [take_snoc t k hlt, valD_snoc]
      have HD : Hid (alld (t.data.toList.take (k + 1)) = (decide (48 ≤ t[k].toNat) && decide (t[k].toNat ≤ 57))) := by show alld (t.data.toList.take (k + 1)) = _; rw [take_snoc t k hlt, alld_snoc, hal.out, Bool.true_and]
      have hu := UInt8.toNat_lt t[k]
      clear hbd
      by_cases hd1 : 48 ≤ t[k].toNat
      · by_cases hd2 : t[k].toNat ≤ 57
        · have i1 : ¬ ((t[k].toNat : Int) < 48) := by omega
          have i2 : ¬ ((57 : Int) < (t[k].toNat : Int)) := by omega
          generalize hvv : valD (t.data.toList.take k) = x at *
          go_wp2_with fail
          go_round
          case rel => exact ⟨k + 1, by omega, by go_num, by rw [HV.out], by show alld _ = true; rw [HD.out]; simp; omega⟩
          case measure => simp [intOf]; omega
        · have i1 : ¬ ((t[k].toNat : Int) < 48) := by omega
          have i2 : (57 : Int) < (t[k].toNat : Int) := by omega
          have HR : Hid (resD (-1) t.data.toList = .tuple #[.int .i64 0, .bool false]) := resD_no (alld_take (k := k + 1) (by rw [HD.out]; simp; omega))
          go_wp2_with fail
          go_ret2
          exact ⟨by rw [HR.out]; rfl, rfl⟩
      · have i1 : ((t[k].toNat : Int) < 48) := by omega
        have HR : Hid (resD (-1) t.data.toList = .tuple #[.int .i64 0, .bool false]) := resD_no (alld_take (k := k + 1) (by rw [HD.out]; simp; omega))
        go_wp2_with fail
        go_ret2
        exact ⟨by rw [HR.out]; rfl, rfl⟩
    · have hkt : t.data.toList.take k = t.data.toList := List.take_of_length_le (by rw [hlen]; omega)
      have HR : Hid (resD (-1) t.data.toList = .tuple #[.int .i64 ((-1) * valD (t.data.toList.take k)), .bool true]) := by show resD (-1) t.data.toList = _; rw [hkt] at hal ⊢; exact resD_yes hal.out
      have hks2 : ¬ (k : Int) < (t.size : Int) := by omega
      clear hkt hbd
      generalize valD (t.data.toList.take k) = x at *
      go_wp2_with fail
      go_ret2
      exact ⟨by rw [HR.out]; simp, rfl⟩
set_option maxRecDepth 100000 in
set_option maxHeartbeats 4000000 in
theorem l1Dec_long (s : ByteArray) (w : World) (hs : 3 ≤ s.size) (hs2 : s.size ≤ 3) (h0 : ((s[0].toNat : Int) == 45) = false) :
    Calls Tryz.prog 59 #[.string s] w fun e w' => e = .returned (.tuple #[.int .i64 0, .bool false]) ∧ w' = w := by
  have g1 : (decide ((1 : Int) ≤ (s.size : Int)) && decide ((s.size : Int) ≤ 2)) = false := by rw [Bool.and_eq_false_iff, decide_eq_false_iff_not, decide_eq_false_iff_not]; omega
  have g2 : (1 : Int) < (s.size : Int) := by omega
  have g3 : (0 : Int) < (s.size : Int) := by omega
  go_enter Tryz.func59, Tryz.ntmps59
  go_wp2_with (go_at_call 42; refine (l6In_any _ _ _ _).mono ?_; rintro e w1 ⟨rfl, rfl⟩)
  go_ret2
  exact ⟨rfl, rfl⟩
end Go.Proofs.YtekmjgkjpdhedaaGreatDoor
