/-
  What the specification's l1Dec answers, for every text.
  What the specification's l1Dec answers, in two forms.
  What impl.ValRead answers, for every text of at most 1048576 bytes.
-/
import Derived.Test.YtjhpaoadpcnlnaaGreatDoorZa04
import Derived.Laws.Closers25b
namespace Go.Proofs.YtjhpaoadpcnlnaaGreatDoor
open Go.ChangeShapes Go.WideShapes Go.ChangeAt Go.RowKit Go.Joins
/-- figures alone -/
def alld (l : List UInt8) : Bool := l.all fun c => decide (48 ≤ c.toNat) && decide (c.toNat ≤ 57)
/-- the number that figures spell -/
def valD (l : List UInt8) : Int := l.foldl (fun n c => 10 * n + ((c.toNat : Int) - 48)) 0
theorem alld_snoc (l : List UInt8) (c : UInt8) : alld (l ++ [c]) = (alld l && (decide (48 ≤ c.toNat) && decide (c.toNat ≤ 57))) := by simp [alld, List.all_append]
theorem valD_snoc (l : List UInt8) (c : UInt8) : valD (l ++ [c]) = 10 * valD l + ((c.toNat : Int) - 48) := by simp [valD, List.foldl_append]
theorem take_snoc (s : ByteArray) (k : Nat) (h : k < s.size) : s.data.toList.take (k + 1) = s.data.toList.take k ++ [s[k]] := by
  rw [List.take_succ_eq_append_getElem (by simpa using h)]; rfl
theorem valD_bd : ∀ (l : List UInt8), l.length ≤ 2 → alld l = true → 0 ≤ valD l ∧ valD l ≤ 99 ∧ (l.length ≤ 1 → valD l ≤ 9) ∧ (l.length = 0 → valD l = 0)
  | [], _, _ => ⟨by decide, by decide, fun _ => by decide, fun _ => rfl⟩
  | [a], _, h => by
    have h' : 48 ≤ a.toNat ∧ a.toNat ≤ 57 := by simpa [alld] using h
    have e : valD [a] = (a.toNat : Int) - 48 := by simp [valD]
    rw [e]; simp only [List.length_singleton]; omega
  | [a, b], _, h => by
    have h' : (48 ≤ a.toNat ∧ a.toNat ≤ 57) ∧ 48 ≤ b.toNat ∧ b.toNat ≤ 57 := by simpa [alld] using h
    have e : valD [a, b] = 10 * ((a.toNat : Int) - 48) + ((b.toNat : Int) - 48) := by simp [valD]
    rw [e]; simp only [List.length_cons, List.length_nil]; omega
  | _ :: _ :: _ :: _, hl, _ => by simp at hl
theorem alld_take {l : List UInt8} {k : Nat} (h : alld (l.take k) = false) : alld l = false := by
  rw [Bool.eq_false_iff] at h ⊢
  intro hl
  apply h
  simp only [alld, List.all_eq_true] at hl ⊢
  exact fun x hx => hl x (List.mem_of_mem_take hx)
/-- what comes out: the number, or none -/
def resD (sg : Int) (l : List UInt8) : Value := if alld l = true then .tuple #[.int .i64 (sg * valD l), .bool true] else .tuple #[.int .i64 0, .bool false]
theorem resD_yes {sg : Int} {l : List UInt8} (h : alld l = true) : resD sg l = .tuple #[.int .i64 (sg * valD l), .bool true] := if_pos h
theorem resD_no {sg : Int} {l : List UInt8} (h : alld l = false) : resD sg l = .tuple #[.int .i64 0, .bool false] := if_neg (by rw [h]; decide)
set_option maxRecDepth 100000 in
set_option maxHeartbeats 4000000 in
theorem l1Dec_two (s : ByteArray) (w : World) (h2 : 2 ≤ s.size) (h2' : s.size ≤ 2) (h0 : ((s[0].toNat : Int) == 45) = false) :
    Calls Tryz.prog 61 #[.string s] w fun e w' => e = .returned (resD 1 s.data.toList) ∧ w' = w := by
  have hlen : s.data.toList.length = s.size := Array.length_toList
  have g1 : (decide ((1 : Int) ≤ (s.size : Int)) && decide ((s.size : Int) ≤ 2)) = true := by rw [Bool.and_eq_true, decide_eq_true_eq, decide_eq_true_eq]; omega
  have g2 : (1 : Int) < (s.size : Int) := by omega
  have g3 : (0 : Int) < (s.size : Int) := by omega
  go_enter Tryz.func61, Tryz.ntmps61
  go_wp2_with (go_at_call 65; refine (l6In_any _ _ _ _).mono ?_; rintro e w1 ⟨rfl, rfl⟩)
  go_loop [5, 6] (fun x i => ∃ k : Nat, k ≤ s.size ∧ i = .int .i64 k ∧ x = .int .i64 (valD (s.data.toList.take k)) ∧ Hid (alld (s.data.toList.take k) = true)) (fun _ i => s.size - (intOf i).toNat)
  case atStart => exact ⟨0, Nat.zero_le _, rfl, rfl, rfl⟩
  case round =>
    obtain ⟨k, hk, rfl, rfl, hal⟩ := hrel
    have hll : (s.data.toList.take k).length ≤ k := List.length_take_le _ _
    have hbd := valD_bd (s.data.toList.take k) (by omega) hal.out
    have hv0 := hbd.1
    have hv1 := hbd.2.1
    by_cases hlt : k < s.size
    · have hv2 := hbd.2.2.1 (by omega)
      have hks : (0 : Int) ≤ (k : Int) := by omega
      have hks2 : (k : Int) < (s.size : Int) := by omega
      have HV : Hid (valD (s.data.toList.take (k + 1)) = 10 * valD (s.data.toList.take k) + ((s[k].toNat : Int) - 48)) := by show valD (s.data.toList.take (k + 1)) = _; rw [take_snoc s k hlt, valD_snoc]
      have HD : Hid (alld (s.data.toList.take (k + 1)) = (decide (48 ≤ s[k].toNat) && decide (s[k].toNat ≤ 57))) := by show alld (s.data.toList.take (k + 1)) = _; rw [take_snoc s k hlt, alld_snoc, hal.out, Bool.true_and]
      have hu := UInt8.toNat_lt s[k]
      clear hbd
      by_cases hd1 : 48 ≤ s[k].toNat
      · by_cases hd2 : s[k].toNat ≤ 57
        · have i1 : ¬ ((s[k].toNat : Int) < 48) := by omega
          have i2 : ¬ ((57 : Int) < (s[k].toNat : Int)) := by omega
          generalize hvv : valD (s.data.toList.take k) = x at *
          go_wp2_with fail
          go_round
          case rel => exact ⟨k + 1, by omega, by go_num, by rw [HV.out], by show alld _ = true; rw [HD.out]; simp; omega⟩
          case measure => simp [intOf]; omega
        · have i1 : ¬ ((s[k].toNat : Int) < 48) := by omega
          have i2 : (57 : Int) < (s[k].toNat : Int) := by omega
          have HR : Hid (resD 1 s.data.toList = .tuple #[.int .i64 0, .bool false]) := resD_no (alld_take (k := k + 1) (by rw [HD.out]; simp; omega))
          go_wp2_with fail
          go_ret2
          exact ⟨by rw [HR.out]; rfl, rfl⟩
      · have i1 : ((s[k].toNat : Int) < 48) := by omega
        have HR : Hid (resD 1 s.data.toList = .tuple #[.int .i64 0, .bool false]) := resD_no (alld_take (k := k + 1) (by rw [HD.out]; simp; omega))
        go_wp2_with fail
        go_ret2
        exact ⟨by rw [HR.out]; rfl, rfl⟩
    · have hkt : s.data.toList.take k = s.data.toList := List.take_of_length_le (by rw [hlen]; omega)
      have HR : Hid (resD 1 s.data.toList = .tuple #[.int .i64 (1 * valD (s.data.toList.take k)), .bool true]) := by show resD 1 s.data.toList = _; rw [hkt] at hal ⊢; exact resD_yes hal.out
      have hks2 : ¬ (k : Int) < (s.size : Int) := by omega
      clear hkt hbd
      generalize valD (s.data.toList.take k) = x at *
      go_wp2_with fail
      go_ret2
      exact ⟨by rw [HR.out]; simp, rfl⟩
set_option maxRecDepth 100000 in
set_option maxHeartbeats 4000000 in
theorem l1Dec_one (s : ByteArray) (w : World) (h1 : 1 ≤ s.size) (h2 : s.size ≤ 1) :
    Calls Tryz.prog 61 #[.string s] w fun e w' => e = .returned (resD 1 s.data.toList) ∧ w' = w := by
  have hlen : s.data.toList.length = s.size := Array.length_toList
  have g1 : (decide ((1 : Int) ≤ (s.size : Int)) && decide ((s.size : Int) ≤ 2)) = true := by rw [Bool.and_eq_true, decide_eq_true_eq, decide_eq_true_eq]; omega
  have g2 : ¬ (1 : Int) < (s.size : Int) := by omega
  go_enter Tryz.func61, Tryz.ntmps61
  go_wp2_with (go_at_call 65; refine (l6In_any _ _ _ _).mono ?_; rintro e w1 ⟨rfl, rfl⟩)
  go_loop [5, 6] (fun x i => ∃ k : Nat, k ≤ s.size ∧ i = .int .i64 k ∧ x = .int .i64 (valD (s.data.toList.take k)) ∧ Hid (alld (s.data.toList.take k) = true)) (fun _ i => s.size - (intOf i).toNat)
  case atStart => exact ⟨0, Nat.zero_le _, rfl, rfl, rfl⟩
  case round =>
    obtain ⟨k, hk, rfl, rfl, hal⟩ := hrel
    have hll : (s.data.toList.take k).length ≤ k := List.length_take_le _ _
    have hbd := valD_bd (s.data.toList.take k) (by omega) hal.out
    have hv0 := hbd.1
    have hv1 := hbd.2.1
    by_cases hlt : k < s.size
    · have hv2 := hbd.2.2.1 (by omega)
      have hks : (0 : Int) ≤ (k : Int) := by omega
      have hks2 : (k : Int) < (s.size : Int) := by omega
      have HV : Hid (valD (s.data.toList.take (k + 1)) = 10 * valD (s.data.toList.take k) + ((s[k].toNat : Int) - 48)) := by show valD (s.data.toList.take (k + 1)) = _; rw [take_snoc s k hlt, valD_snoc]
      have HD : Hid (alld (s.data.toList.take (k + 1)) = (decide (48 ≤ s[k].toNat) && decide (s[k].toNat ≤ 57))) := by show alld (s.data.toList.take (k + 1)) = _; rw [take_snoc s k hlt, alld_snoc, hal.out, Bool.true_and]
      have hu := UInt8.toNat_lt s[k]
      clear hbd
      by_cases hd1 : 48 ≤ s[k].toNat
      · by_cases hd2 : s[k].toNat ≤ 57
        · have i1 : ¬ ((s[k].toNat : Int) < 48) := by omega
          have i2 : ¬ ((57 : Int) < (s[k].toNat : Int)) := by omega
          generalize hvv : valD (s.data.toList.take k) = x at *
          go_wp2_with fail
          go_round
          case rel => exact ⟨k + 1, by omega, by go_num, by rw [HV.out], by show alld _ = true; rw [HD.out]; simp; omega⟩
          case measure => simp [intOf]; omega
        · have i1 : ¬ ((s[k].toNat : Int) < 48) := by omega
          have i2 : (57 : Int) < (s[k].toNat : Int) := by omega
          have HR : Hid (resD 1 s.data.toList = .tuple #[.int .i64 0, .bool false]) := resD_no (alld_take (k := k + 1) (by rw [HD.out]; simp; omega))
          go_wp2_with fail
          go_ret2
          exact ⟨by rw [HR.out]; rfl, rfl⟩
      · have i1 : ((s[k].toNat : Int) < 48) := by omega
        have HR : Hid (resD 1 s.data.toList = .tuple #[.int .i64 0, .bool false]) := resD_no (alld_take (k := k + 1) (by rw [HD.out]; simp; omega))
        go_wp2_with fail
        go_ret2
        exact ⟨by rw [HR.out]; rfl, rfl⟩
    · have hkt : s.data.toList.take k = s.data.toList := List.take_of_length_le (by rw [hlen]; omega)
      have HR : Hid (resD 1 s.data.toList = .tuple #[.int .i64 (1 * valD (s.data.toList.take k)), .bool true]) := by show resD 1 s.data.toList = _; rw [hkt] at hal ⊢; exact resD_yes hal.out
      have hks2 : ¬ (k : Int) < (s.size : Int) := by omega
      clear hkt hbd
      generalize valD (s.data.toList.take k) = x at *
      go_wp2_with fail
      go_ret2
      exact ⟨by rw [HR.out]; simp, rfl⟩
set_option maxRecDepth 100000 in
set_option maxHeartbeats 4000000 in
theorem l1Dec_minus (s t : ByteArray) (w : World) (hext : s.extract 1 s.size = t) (hs : 2 ≤ s.size) (ht1 : 1 ≤ t.size) (ht2 : t.size ≤ 2) (h0 : ((s[0].toNat : Int) == 45) = true) :
    Calls Tryz.prog 61 #[.string s] w fun e w' => e = .returned (resD (-1) t.data.toList) ∧ w' = w := by
  have hlen : t.data.toList.length = t.size := Array.length_toList
  have g1 : (decide ((1 : Int) ≤ (t.size : Int)) && decide ((t.size : Int) ≤ 2)) = true := by rw [Bool.and_eq_true, decide_eq_true_eq, decide_eq_true_eq]; omega
  have g2 : (1 : Int) < (s.size : Int) := by omega
  have g3 : (0 : Int) < (s.size : Int) := by omega
  have g4 : (1 : Int) ≤ (s.size : Int) := by omega
  go_enter Tryz.func61, Tryz.ntmps61
  go_wp2_with (go_at_call 65; refine (l6In_any _ _ _ _).mono ?_; rintro e w1 ⟨rfl, rfl⟩)
  go_loop [5, 6] (fun x i => ∃ k : Nat, k ≤ t.size ∧ i = .int .i64 k ∧ x = .int .i64 (valD (t.data.toList.take k)) ∧ Hid (alld (t.data.toList.take k) = true)) (fun _ i => t.size - (intOf i).toNat)
  case atStart => exact ⟨0, Nat.zero_le _, rfl, rfl, rfl⟩
  case round =>
    obtain ⟨k, hk, rfl, rfl, hal⟩ := hrel
    have hll : (t.data.toList.take k).length ≤ k := List.length_take_le _ _
    have hbd := valD_bd (t.data.toList.take k) (by omega) hal.out
    have hv0 := hbd.1
    have hv1 := hbd.2.1
    by_cases hlt : k < t.size
    · have hv2 := hbd.2.2.1 (by omega)
      have hks : (0 : Int) ≤ (k : Int) := by omega
      have hks2 : (k : Int) < (t.size : Int) := by omega
      have HV : Hid (valD (t.data.toList.take (k + 1)) = 10 * valD (t.data.toList.take k) + ((t[k].toNat : Int) - 48)) := by show valD (t.data.toList.take (k + 1)) = _; rw [take_snoc t k hlt, valD_snoc]
      have HD : Hid (alld (t.data.toList.take (k + 1)) = (decide (48 ≤ t[k].toNat) && decide (t[k].toNat ≤ 57))) := by show alld (t.data.toList.take (k + 1)) = _; rw [take_snoc t k hlt, alld_snoc, hal.out, Bool.true_and]
      have hu := UInt8.toNat_lt t[k]
      clear hbd
      by_cases hd1 : 48 ≤ t[k].toNat
      · by_cases hd2 : t[k].toNat ≤ 57
        · have i1 : ¬ ((t[k].toNat : Int) < 48) := by omega
          have i2 : ¬ ((57 : Int) < (t[k].toNat : Int)) := by omega
          generalize hvv : valD (t.data.toList.take k) = x at *
          go_wp2_with fail
          go_round
          case rel => exact ⟨k + 1, by omega, by go_num, by rw [HV.out], by show alld _ = true; rw [HD.out]; simp; omega⟩
          case measure => simp [intOf]; omega
        · have i1 : ¬ ((t[k].toNat : Int) < 48) := by omega
          have i2 : (57 : Int) < (t[k].toNat : Int) := by omega
          have HR : Hid (resD (-1) t.data.toList = .tuple #[.int .i64 0, .bool false]) := resD_no (alld_take (k := k + 1) (by rw [HD.out]; simp; omega))
          go_wp2_with fail
          go_ret2
          exact ⟨by rw [HR.out]; rfl, rfl⟩
      · have i1 : ((t[k].toNat : Int) < 48) := by omega
        have HR : Hid (resD (-1) t.data.toList = .tuple #[.int .i64 0, .bool false]) := resD_no (alld_take (k := k + 1) (by rw [HD.out]; simp; omega))
        go_wp2_with fail
        go_ret2
        exact ⟨by rw [HR.out]; rfl, rfl⟩
    · have hkt : t.data.toList.take k = t.data.toList := List.take_of_length_le (by rw [hlen]; omega)
      have HR : Hid (resD (-1) t.data.toList = .tuple #[.int .i64 ((-1) * valD (t.data.toList.take k)), .bool true]) := by show resD (-1) t.data.toList = _; rw [hkt] at hal ⊢; exact resD_yes hal.out
      have hks2 : ¬ (k : Int) < (t.size : Int) := by omega
      clear hkt hbd
      generalize valD (t.data.toList.take k) = x at *
      go_wp2_with fail
      go_ret2
      exact ⟨by rw [HR.out]; simp, rfl⟩
set_option maxRecDepth 100000 in
set_option maxHeartbeats 4000000 in
theorem l1Dec_long (s : ByteArray) (w : World) (hs : 3 ≤ s.size) (hs2 : s.size ≤ 3) (h0 : ((s[0].toNat : Int) == 45) = false) :
    Calls Tryz.prog 61 #[.string s] w fun e w' => e = .returned (.tuple #[.int .i64 0, .bool false]) ∧ w' = w := by
  have g1 : (decide ((1 : Int) ≤ (s.size : Int)) && decide ((s.size : Int) ≤ 2)) = false := by rw [Bool.and_eq_false_iff, decide_eq_false_iff_not, decide_eq_false_iff_not]; omega
  have g2 : (1 : Int) < (s.size : Int) := by omega
  have g3 : (0 : Int) < (s.size : Int) := by omega
  go_enter Tryz.func61, Tryz.ntmps61
  go_wp2_with (go_at_call 65; refine (l6In_any _ _ _ _).mono ?_; rintro e w1 ⟨rfl, rfl⟩)
  go_ret2
  exact ⟨rfl, rfl⟩
end Go.Proofs.YtjhpaoadpcnlnaaGreatDoor
namespace Go.Proofs.YtjhpaoadpcnlnaaGreatDoor
open Go.ChangeShapes Go.WideShapes Go.ChangeAt Go.RowKit Go.Joins
theorem alld_dec (u : Nat) (h : u < 100) : alld (Lib.decDigits u) = true := by
  by_cases h10 : u < 10
  · rw [dec_lt10 u h10]; simp only [alld, List.all_cons, List.all_nil, fig u h10]; simp; omega
  · rw [dec_lt100 u (by omega) h]; simp only [alld, List.all_cons, List.all_nil, fig (u / 10) (by omega), fig (u % 10) (by omega)]; simp; omega
theorem valD_dec (u : Nat) (h : u < 100) : valD (Lib.decDigits u) = u := by
  by_cases h10 : u < 10
  · rw [dec_lt10 u h10]; simp only [valD, List.foldl_cons, List.foldl_nil, fig u h10]; omega
  · rw [dec_lt100 u (by omega) h]; simp only [valD, List.foldl_cons, List.foldl_nil, fig (u / 10) (by omega), fig (u % 10) (by omega)]; omega
theorem dec_len1 (u : Nat) (h : u < 100) : 1 ≤ (Lib.decDigits u).length := by
  by_cases h10 : u < 10
  · rw [dec_lt10 u h10]; simp
  · rw [dec_lt100 u (by omega) h]; simp
theorem ba_size (l : List UInt8) : (ByteArray.mk l.toArray).size = l.length := by simp [ByteArray.size]
theorem byte_ne {c : UInt8} {m : Nat} (hm : m < 256) (h : c ≠ UInt8.ofNat m) : c.toNat ≠ m := by
  intro hh; apply h; apply UInt8.toNat_inj.1; rw [hh, UInt8.toNat_ofNat']; omega
/-- the numeral of a number up to two figures is read -/
theorem l1Dec_yes (n : Int) (w : World) (h1 : -99 ≤ n) (h2 : n ≤ 99) :
    Calls Tryz.prog 61 #[.string ⟨(Lib.itoa n).toArray⟩] w fun e w' => e = .returned (.tuple #[.int .i64 n, .bool true]) ∧ w' = w := by
  by_cases h : n < 0
  · rw [itoa_neg n h, itoa_pos (-n) (by omega)]
    have hu : (-n).toNat < 100 := by omega
    have hl := dec_len (-n).toNat hu
    have hl1 := dec_len1 (-n).toNat hu
    have e := l1Dec_minus ⟨(45 :: Lib.decDigits (-n).toNat).toArray⟩ ⟨(Lib.decDigits (-n).toNat).toArray⟩ w (by rw [ba_size]; exact extract_mk_tail _ _) (by rw [ba_size, List.length_cons]; omega) (by rw [ba_size]; omega) (by rw [ba_size]; omega) rfl
    rw [resD_yes (alld_dec _ hu)] at e
    have ev : (-1 : Int) * valD (Lib.decDigits (-n).toNat) = n := by rw [valD_dec _ hu]; omega
    have ev' : (-1 : Int) * valD (ByteArray.mk (Lib.decDigits (-n).toNat).toArray).data.toList = n := ev
    rw [ev'] at e
    exact e
  · rw [itoa_pos n (by omega)]
    have hu : n.toNat < 100 := by omega
    have hl := dec_len n.toNat hu
    have hl1 := dec_len1 n.toNat hu
    have ev : (1 : Int) * valD (ByteArray.mk (Lib.decDigits n.toNat).toArray).data.toList = n := by show (1 : Int) * valD (Lib.decDigits n.toNat) = n; rw [valD_dec _ hu]; omega
    by_cases hone : (Lib.decDigits n.toNat).length ≤ 1
    · have e := l1Dec_one ⟨(Lib.decDigits n.toNat).toArray⟩ w (by rw [ba_size]; omega) (by rw [ba_size]; omega)
      rw [resD_yes (alld_dec _ hu), ev] at e
      exact e
    · obtain ⟨b, r, hd, h45, _⟩ := dec_head n.toNat hu
      have hbn : b ≠ 45 := by simpa using h45
      have hx := byte_ne (m := 45) (by omega) hbn
      rw [hd] at ev hone hl ⊢
      have al : alld (b :: r) = true := by rw [← hd]; exact alld_dec _ hu
      have e := l1Dec_two ⟨(b :: r).toArray⟩ w (by rw [ba_size]; omega) (by rw [ba_size]; omega) (by show ((b.toNat : Int) == 45) = false; rw [beq_eq_false_iff_ne]; omega)
      rw [resD_yes al, ev] at e
      exact e
/-- whatever stands there, something is read -/
theorem l1Dec_some (r : List UInt8) (h1 : 1 ≤ r.length) (h3 : r.length ≤ 3) : ∃ x b, ∀ w : World,
    Calls Tryz.prog 61 #[.string ⟨r.toArray⟩] w fun e w' => e = .returned (.tuple #[.int .i64 x, .bool b]) ∧ w' = w := by
  have res : ∀ sg l, ∃ x b, resD sg l = .tuple #[.int .i64 x, .bool b] := fun sg l => by
    cases h : alld l with
    | true => exact ⟨_, _, resD_yes h⟩
    | false => exact ⟨_, _, resD_no h⟩
  match r, h1, h3 with
  | [a], _, _ =>
    obtain ⟨x, b, hx⟩ := res 1 [a]
    exact ⟨x, b, fun w => by have e := l1Dec_one ⟨#[a]⟩ w (by simp [ByteArray.size]) (by simp [ByteArray.size]); rw [show (ByteArray.mk #[a]).data.toList = [a] from rfl, hx] at e; exact e⟩
  | [a, c], _, _ =>
    by_cases ha : a = 45
    · subst ha
      obtain ⟨x, b, hx⟩ := res (-1) [c]
      exact ⟨x, b, fun w => by have e := l1Dec_minus ⟨#[45, c]⟩ ⟨#[c]⟩ w (extract_mk_tail 45 [c]) (by simp [ByteArray.size]) (by simp [ByteArray.size]) (by simp [ByteArray.size]) rfl; rw [show (ByteArray.mk #[c]).data.toList = [c] from rfl, hx] at e; exact e⟩
    · have hx' := byte_ne (m := 45) (by omega) ha
      obtain ⟨x, b, hx⟩ := res 1 [a, c]
      exact ⟨x, b, fun w => by have e := l1Dec_two ⟨#[a, c]⟩ w (by simp [ByteArray.size]) (by simp [ByteArray.size]) (by show ((a.toNat : Int) == 45) = false; rw [beq_eq_false_iff_ne]; omega); rw [show (ByteArray.mk #[a, c]).data.toList = [a, c] from rfl, hx] at e; exact e⟩
  | [a, c, d], _, _ =>
    by_cases ha : a = 45
    · subst ha
      obtain ⟨x, b, hx⟩ := res (-1) [c, d]
      exact ⟨x, b, fun w => by have e := l1Dec_minus ⟨#[45, c, d]⟩ ⟨#[c, d]⟩ w (extract_mk_tail 45 [c, d]) (by simp [ByteArray.size]) (by simp [ByteArray.size]) (by simp [ByteArray.size]) rfl; rw [show (ByteArray.mk #[c, d]).data.toList = [c, d] from rfl, hx] at e; exact e⟩
    · have hx' := byte_ne (m := 45) (by omega) ha
      exact ⟨0, false, fun w => l1Dec_long ⟨#[a, c, d]⟩ w (by simp [ByteArray.size]) (by simp [ByteArray.size]) (by show ((a.toNat : Int) == 45) = false; rw [beq_eq_false_iff_ne]; omega)⟩
end Go.Proofs.YtjhpaoadpcnlnaaGreatDoor
namespace Go.Proofs.YtjhpaoadpcnlnaaGreatDoor
open Go.ChangeShapes Go.WideShapes Go.ChangeAt Go.RowKit Go.Joins
set_option maxRecDepth 100000 in
set_option maxHeartbeats 1000000 in
theorem decRead_yes (r : List UInt8) (n : Int) (w : World) (hl : r.length ≤ 1048576) (ha : Lib.atoiAll r = .ok n) (hi : Lib.itoa n = r) (hT : Tab w) :
    Calls Tryz.prog 113 #[.string ⟨r.toArray⟩] w fun e w' => e = .returned (.tuple #[.int .i64 n, .bool true]) ∧ Below w.heap.size w w' := by
  have hbd := Lib.atoiAll_bounds ha
  have HI := (show Hid _ from hi)
  clear hi
  go_enter Tryz.func113, Tryz.ntmps113
  go_wp2_with fail
  refine (atoi_yes ⟨r.toArray⟩ (by simpa [ByteArray.size] using hl) n (by simpa using ha) _).mono ?_
  rintro e w1 ⟨rfl, hb1⟩
  go_wp2_with fail
  refine (itoa_any n hbd.1 hbd.2 _ (hT.below hb1)).mono ?_
  rw [HI.out]
  rintro e w2 ⟨rfl, hb2⟩
  go_wp2_with fail
  go_ret2
  exact ⟨rfl, hb1.trans (hb2.mono hb1.size)⟩
set_option maxRecDepth 100000 in
set_option maxHeartbeats 1000000 in
theorem decRead_other (r : List UInt8) (n : Int) (w : World) (hl : r.length ≤ 1048576) (ha : Lib.atoiAll r = .ok n) (hi : (Lib.itoa n == r) = false) (hT : Tab w) :
    Calls Tryz.prog 113 #[.string ⟨r.toArray⟩] w fun e w' => e = .returned (.tuple #[.int .i64 0, .bool false]) ∧ Below w.heap.size w w' := by
  have hbd := Lib.atoiAll_bounds ha
  go_enter Tryz.func113, Tryz.ntmps113
  go_wp2_with fail
  refine (atoi_yes ⟨r.toArray⟩ (by simpa [ByteArray.size] using hl) n (by simpa using ha) _).mono ?_
  rintro e w1 ⟨rfl, hb1⟩
  go_wp2_with fail
  refine (itoa_any n hbd.1 hbd.2 _ (hT.below hb1)).mono ?_
  rintro e w2 ⟨rfl, hb2⟩
  go_wp2_with fail
  go_ret2
  exact ⟨rfl, hb1.trans (hb2.mono hb1.size)⟩
set_option maxRecDepth 100000 in
set_option maxHeartbeats 1000000 in
theorem decRead_err (r : List UInt8) (w : World) (hl : r.length ≤ 1048576) (ha : ∀ n, Lib.atoiAll r ≠ .ok n) (hE : Errs w) :
    Calls Tryz.prog 113 #[.string ⟨r.toArray⟩] w fun e w' => e = .returned (.tuple #[.int .i64 0, .bool false]) ∧ Below w.heap.size w w' := by
  have HA := (show Hid _ from ha)
  clear ha
  go_enter Tryz.func113, Tryz.ntmps113
  go_wp2_with fail
  refine (atoi_no ⟨r.toArray⟩ (by simpa [ByteArray.size] using hl) (by simpa using HA.out) _ hE).mono ?_
  rintro e w1 ⟨v, t, M, rfl, hb1⟩
  go_wp2_with fail
  go_ret2
  exact ⟨rfl, hb1⟩
theorem decRead_no (r : List UInt8) (w : World) (hl : r.length ≤ 1048576) (h : ∀ n, Lib.atoiAll r = .ok n → Lib.itoa n ≠ r) (hT : Tab w) (hE : Errs w) :
    Calls Tryz.prog 113 #[.string ⟨r.toArray⟩] w fun e w' => e = .returned (.tuple #[.int .i64 0, .bool false]) ∧ Below w.heap.size w w' := by
  by_cases hn : ∃ n, Lib.atoiAll r = .ok n
  · obtain ⟨n, ha⟩ := hn
    exact decRead_other r n w hl ha (beq_eq_false_iff_ne.2 (h n ha)) hT
  · exact decRead_err r w hl (fun n ha => hn ⟨n, ha⟩) hE
set_option maxHeartbeats 400000 in
theorem kindOf_any (c : UInt8) (w : World) : Calls Tryz.prog 133 #[.int .u8 (c.toNat : Int)] w fun e w' => e = .returned (.int .i64 (kindL c)) ∧ w' = w := by
  rcases kindL_cases c with ⟨rfl, e⟩ | ⟨rfl, e⟩ | ⟨rfl, e⟩ | ⟨h1, h2, h3, e⟩
  · rw [e]
    go_enter Tryz.func133, Tryz.ntmps133
    go_wp2_with fail
    go_ret
    exact ⟨rfl, rfl⟩
  · rw [e]
    go_enter Tryz.func133, Tryz.ntmps133
    go_wp2_with fail
    go_ret
    exact ⟨rfl, rfl⟩
  · rw [e]
    go_enter Tryz.func133, Tryz.ntmps133
    go_wp2_with fail
    go_ret
    exact ⟨rfl, rfl⟩
  · rw [e]
    have q1 : ((c.toNat : Int) == 110) = false := by simp; intro hh; exact h1 (UInt8.toNat_inj.1 (by show c.toNat = 110; omega))
    have q2 : ((c.toNat : Int) == 97) = false := by simp; intro hh; exact h2 (UInt8.toNat_inj.1 (by show c.toNat = 97; omega))
    have q3 : ((c.toNat : Int) == 114) = false := by simp; intro hh; exact h3 (UInt8.toNat_inj.1 (by show c.toNat = 114; omega))
    go_enter Tryz.func133, Tryz.ntmps133
    go_wp2_with fail
    go_ret
    exact ⟨rfl, rfl⟩

theorem box_after {w w' : World} {a : Nat} {v0 v1 : Value} {t : TypeId} (hb : Below (w.alloc (.cells #[v0, v1] t)).heap.size (w.alloc (.cells #[v0, v1] t)) w') (ha : a = w.heap.size) :
    w'.cell? ⟨a, 0, none⟩ = some v0 ∧ w'.cell? ⟨a, 1, none⟩ = some v1 ∧ w'.frozen? ⟨a, 0, none⟩ = false ∧ w'.frozen? ⟨a, 1, none⟩ = false := by
  subst ha
  obtain ⟨hc, hf⟩ := bcell hb
  exact ⟨by rw [hc _ _ (by simp)]; simp [go_sem], by rw [hc _ _ (by simp)]; simp [go_sem], by rw [hf _ _ (by simp)]; simp [go_sem], by rw [hf _ _ (by simp)]; simp [go_sem]⟩
set_option maxHeartbeats 1000000 in
theorem implRead_none (w : World) :
    Calls Tryz.prog 117 #[.string ⟨([110, 111, 110, 101] : List UInt8).toArray⟩] w fun e w' => e = .returned (.tuple #[.agg #[.int .i64 0, .int .i64 0], .bool true]) ∧ Below w.heap.size w w' := by
  go_enter Tryz.func117, Tryz.ntmps117
  go_wp2_with fail
  exact bodyPost_ret (v := .tuple #[.agg #[.int .i64 0, .int .i64 0], .bool true]) (by simp [results, Tryz.results117, go_sem]) rfl ⟨rfl, (Below.refl _ _).alloc (Nat.le_refl _) _⟩
set_option maxHeartbeats 1000000 in
theorem implRead_empty (w : World) :
    Calls Tryz.prog 117 #[.string ⟨([] : List UInt8).toArray⟩] w fun e w' => e = .returned (.tuple #[.agg #[.int .i64 0, .int .i64 0], .bool false]) ∧ Below w.heap.size w w' := by
  go_enter Tryz.func117, Tryz.ntmps117
  go_wp2_with fail
  exact bodyPost_ret (v := .tuple #[.agg #[.int .i64 0, .int .i64 0], .bool false]) (by simp [results, Tryz.results117, go_sem]) rfl ⟨rfl, (Below.refl _ _).alloc (Nat.le_refl _) _⟩
/-- whether a letter and what was read behind it are a value -/
def readB (c : UInt8) (b : Bool) (x : Int) : Bool := !(kindL c == 0) && b && okB (kindL c) x
def readV (p : Bool) (k x : Int) : Value := if p = true then .tuple #[.agg #[.int .i64 k, .int .i64 x], .bool true] else .tuple #[.agg #[.int .i64 0, .int .i64 0], .bool false]
theorem readV_true (k x : Int) : readV true k x = .tuple #[.agg #[.int .i64 k, .int .i64 x], .bool true] := rfl
theorem readV_false (k x : Int) : readV false k x = .tuple #[.agg #[.int .i64 0, .int .i64 0], .bool false] := rfl
set_option maxRecDepth 100000 in
set_option maxHeartbeats 2000000 in
theorem implRead_key (c : UInt8) (r : List UInt8) (x : Int) (b : Bool) (w : World) (hl : r.length ≤ 1048576) (hnn : ((c :: r : List UInt8) == [110, 111, 110, 101]) = false) (hT : Tab w) (hE : Errs w)
    (C : Hid (∀ w, Tab w → Errs w → Calls Tryz.prog 113 #[.string ⟨r.toArray⟩] w fun e w' => e = .returned (.tuple #[.int .i64 x, .bool b]) ∧ Below w.heap.size w w')) :
    Calls Tryz.prog 117 #[.string ⟨(c :: r).toArray⟩] w fun e w' => e = .returned (readV (readB c b x) (kindL c) x) ∧ Below w.heap.size w w' := by
  have hT0 := hT.below ((Below.refl _ _).alloc (Nat.le_refl _) (.cells #[.int .i64 0, .int .i64 0] 24))
  have hE0 := hE.below ((Below.refl _ _).alloc (Nat.le_refl _) (.cells #[.int .i64 0, .int .i64 0] 24))
  go_enter Tryz.func117, Tryz.ntmps117
  go_wp2_with fail
  simp only [getElem_mk_cons]
  refine (kindOf_any c _).mono ?_
  rintro e w1 ⟨rfl, hw1⟩
  subst hw1
  go_wp2_with fail
  simp only [extract_mk_tail]
  refine (C.out _ hT0 hE0).mono ?_
  rintro e w2 ⟨rfl, hb2⟩
  obtain ⟨x0, x1, f0, f1⟩ := box_after hb2 rfl
  have hB2 : Below w.heap.size w w2 := ((Below.refl _ _).alloc (Nat.le_refl _) _).trans (hb2.mono (by simp))
  have hz2 := hb2.size
  simp at hz2
  have hlt : w.heap.size < w2.heap.size := by omega
  have hB2' : ∀ v v' o, Below w.heap.size w (((w2.setCell ⟨w.heap.size, 0, none⟩ v).setCell ⟨w.heap.size, 1, none⟩ v').alloc o) := fun v v' o => ((hB2.setCell (by dsimp only; omega) _).setCell (by dsimp only; omega) _).alloc (by simp; omega) _
  clear hT0 hE0 hb2
  by_cases hk : kindL c = 0
  · have hk' : (kindL c == 0) = true := by simp [hk]
    have HF : Hid (readB c b x = false) := by show readB c b x = false; simp [readB, hk]
    go_wp2_with fail
    exact bodyPost_ret (v := .tuple #[.agg #[.int .i64 0, .int .i64 0], .bool false]) (by simp [results, Tryz.results117, go_sem, x0, x1, hlt]) rfl ⟨by rw [HF.out, readV_false], hB2' _ _ _⟩
  · have hk' : (kindL c == 0) = false := by simp [hk]
    cases b with
    | false =>
      have HF : Hid (readB c false x = false) := by show readB c false x = false; simp [readB]
      go_wp2_with fail
      exact bodyPost_ret (v := .tuple #[.agg #[.int .i64 0, .int .i64 0], .bool false]) (by simp [results, Tryz.results117, go_sem, x0, x1, hlt]) rfl ⟨by rw [HF.out, readV_false], hB2' _ _ _⟩
    | true =>
      go_wp2_with fail
      refine (implOk_any _ _ _).mono ?_
      rintro e w3 ⟨rfl, hb3⟩
      obtain ⟨y0, y1, _, _⟩ := box_after hb3 rfl
      have hz3 := hb3.size
      simp at hz3
      have z0 : w3.cell? ⟨w.heap.size, 0, none⟩ = some (.int .i64 0) := by rw [hb3.cell (p := ⟨w.heap.size, 0, none⟩) (by (try simp) <;> omega), World.cell?_alloc_past _ _ _ hlt]; exact x0
      have z1 : w3.cell? ⟨w.heap.size, 1, none⟩ = some (.int .i64 0) := by rw [hb3.cell (p := ⟨w.heap.size, 1, none⟩) (by (try simp) <;> omega), World.cell?_alloc_past _ _ _ hlt]; exact x1
      have z2 : w3.frozen? ⟨w.heap.size, 0, none⟩ = false := by rw [hb3.frozen (p := ⟨w.heap.size, 0, none⟩) (by (try simp) <;> omega), ((Below.refl _ _).alloc (Nat.le_refl _) _).frozen (by dsimp only; omega)]; exact f0
      have z3 : w3.frozen? ⟨w.heap.size, 1, none⟩ = false := by rw [hb3.frozen (p := ⟨w.heap.size, 1, none⟩) (by (try simp) <;> omega), ((Below.refl _ _).alloc (Nat.le_refl _) _).frozen (by dsimp only; omega)]; exact f1
      have hB3 : Below w.heap.size w w3 := (hB2.alloc (by omega) _).trans (hb3.mono (by (try simp) <;> omega))
      clear hb3 x0 x1 f0 f1 hB2' hB2
      cases ho : okB (kindL c) x with
      | false =>
        have HF : Hid (readB c true x = false) := by show readB c true x = false; simp [readB, ho]
        go_wp2_with fail
        exact bodyPost_ret (v := .tuple #[.agg #[.int .i64 0, .int .i64 0], .bool false]) (by simp [results, Tryz.results117, go_sem, z0, z1]) rfl ⟨by rw [HF.out, readV_false], (hB3.setCell (by dsimp only; omega) _).setCell (by dsimp only; omega) _⟩
      | true =>
        have HF : Hid (readB c true x = true) := by show readB c true x = true; simp [readB, ho, hk]
        go_wp2_with fail
        exact bodyPost_ret (v := .tuple #[.agg #[.int .i64 (kindL c), .int .i64 x], .bool true]) (by simp [results, Tryz.results117, go_sem, z0, z1]) rfl ⟨by rw [HF.out, readV_true], (hB3.setCell (by dsimp only; omega) _).setCell (by dsimp only; omega) _⟩
/-- the text of an ok value is read as that value -/
theorem implRead_yes (k n : Int) (w : World) (h : okB k n = true) (hT : Tab w) (hE : Errs w) :
    Calls Tryz.prog 117 #[.string ⟨(txt k n).toArray⟩] w fun e w' => e = .returned (.tuple #[.agg #[.int .i64 k, .int .i64 n], .bool true]) ∧ Below w.heap.size w w' := by
  have hbd := okB_bd h
  by_cases hk : k = 0
  · subst hk
    have hn : n = 0 := by rw [okB_zero] at h; simpa using h
    subst hn
    rw [txt_none h]; exact implRead_none w
  · obtain ⟨c, hc, ht⟩ := txt_letter h hk
    rw [ht]
    have hl := itoa_len n hbd.1 hbd.2
    have hnn : ((c :: Lib.itoa n : List UInt8) == [110, 111, 110, 101]) = false := by
      rw [beq_eq_false_iff_ne]; intro hh; injection hh with _ hh; exact itoa_head n hbd.1 hbd.2 _ hh
    have hr := implRead_key c (Lib.itoa n) n true w (by omega) hnn hT hE (fun w hT _ => decRead_yes (Lib.itoa n) n w (by omega) (atoi_itoa n hbd.1 hbd.2) rfl hT)
    have hB : readB c true n = true := by rw [readB, hc, h]; simp [hk]
    rw [hB, readV_true, hc] at hr
    exact hr
/-- what is no text of an ok value is not read -/
theorem implRead_no (t : List UInt8) (w : World) (hl : t.length ≤ 1048576) (h : ∀ k n, okB k n = true → t ≠ txt k n) (hT : Tab w) (hE : Errs w) :
    Calls Tryz.prog 117 #[.string ⟨t.toArray⟩] w fun e w' => e = .returned (.tuple #[.agg #[.int .i64 0, .int .i64 0], .bool false]) ∧ Below w.heap.size w w' := by
  cases t with
  | nil => exact implRead_empty w
  | cons c r =>
    have hl' : r.length ≤ 1048576 := by simp at hl; omega
    have hnn : ((c :: r : List UInt8) == [110, 111, 110, 101]) = false := by
      rw [beq_eq_false_iff_ne]; intro hh; exact h 0 0 rfl (by rw [hh]; rfl)
    by_cases hd : ∃ n, Lib.atoiAll r = .ok n ∧ Lib.itoa n = r
    · obtain ⟨n, ha, hi⟩ := hd
      have hr := implRead_key c r n true w hl' hnn hT hE (fun w hT _ => decRead_yes r n w hl' ha hi hT)
      have hB : readB c true n = false := by
        rw [Bool.eq_false_iff]
        intro hh
        simp only [readB, Bool.and_true, Bool.and_eq_true, Bool.not_eq_true', beq_eq_false_iff_ne] at hh
        exact h (kindL c) n hh.2 (by rw [txt_of_letter hh.1 hh.2, hi])
      rw [hB, readV_false] at hr
      exact hr
    · have hr := implRead_key c r 0 false w hl' hnn hT hE (fun w hT hE => decRead_no r w hl' (fun n ha hi => hd ⟨n, ha, hi⟩) hT hE)
      have hB : readB c false 0 = false := by simp [readB]
      rw [hB, readV_false] at hr
      exact hr
end Go.Proofs.YtjhpaoadpcnlnaaGreatDoor
