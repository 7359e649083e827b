/-
  What the specification's ValRead answers, for every text.
-/
import Derived.Test.YtekmjgkjpdhedaaGreatDoorSpecDec
import Derived.Test.YtekmjgkjpdhedaaGreatDoorRead
import Derived.Test.YtekmjgkjpdhedaaGreatDoorSpecText
namespace Go.Proofs.YtekmjgkjpdhedaaGreatDoor
open Go.ChangeShapes Go.WideShapes Go.ChangeAt Go.RowKit Go.Joins
set_option maxHeartbeats 1000000 in
theorem specRead_none (w : World) :
    Calls Tryz.prog 60 #[.string ⟨([110, 111, 110, 101] : List UInt8).toArray⟩] w fun e w' => e = .returned (.tuple #[.agg #[.int .i64 0, .int .i64 0], .bool true]) ∧ Below w.heap.size w w' := by
  go_enter Tryz.func60, Tryz.ntmps60
  go_wp2_with fail
  exact bodyPost_ret (v := .tuple #[.agg #[.int .i64 0, .int .i64 0], .bool true]) (by simp [results, Tryz.results60, go_sem]) rfl ⟨rfl, (Below.refl _ _).alloc (Nat.le_refl _) _⟩
set_option maxHeartbeats 1000000 in
theorem specRead_size (t : List UInt8) (w : World) (hnn : (t == [110, 111, 110, 101]) = false) (hs : t.length < 2 ∨ 4 < t.length) :
    Calls Tryz.prog 60 #[.string ⟨t.toArray⟩] w fun e w' => e = .returned (.tuple #[.agg #[.int .i64 0, .int .i64 0], .bool false]) ∧ Below w.heap.size w w' := by
  have g1 : (decide ((2 : Int) ≤ (t.length : Int)) && decide ((t.length : Int) ≤ 4)) = false := by rw [Bool.and_eq_false_iff, decide_eq_false_iff_not, decide_eq_false_iff_not]; omega
  go_enter Tryz.func60, Tryz.ntmps60
  go_wp2_with (go_at_call 42; refine (l6In_any _ _ _ _).mono ?_; rintro e w1 ⟨rfl, rfl⟩)
  exact bodyPost_ret (v := .tuple #[.agg #[.int .i64 0, .int .i64 0], .bool false]) (by simp [results, Tryz.results60, go_sem]) rfl ⟨rfl, (Below.refl _ _).alloc (Nat.le_refl _) _⟩
/-- whether what was read is the value whose text this is -/
def specB (c : UInt8) (r : List UInt8) (b : Bool) (x : Int) : Bool := b && (!(kindL c == 0) && (txt (kindL c) x == c :: r))
set_option maxRecDepth 100000 in
set_option maxHeartbeats 4000000 in
theorem specRead_n (r : List UInt8) (x : Int) (b : Bool) (w : World) (hl1 : 1 ≤ r.length) (hl3 : r.length ≤ 3) (hnn : ((110 :: r : List UInt8) == [110, 111, 110, 101]) = false)
    (C : Hid (∀ w, Calls Tryz.prog 59 #[.string ⟨r.toArray⟩] w fun e w' => e = .returned (.tuple #[.int .i64 x, .bool b]) ∧ w' = w)) :
    Calls Tryz.prog 60 #[.string ⟨(110 :: r).toArray⟩] w fun e w' => e = .returned (readV (specB 110 r b x) (kindL 110) x) ∧ Below w.heap.size w w' := by
  have g1 : (decide ((2 : Int) ≤ (r.length : Int) + 1) && decide ((r.length : Int) + 1 ≤ 4)) = true := by rw [Bool.and_eq_true, decide_eq_true_eq, decide_eq_true_eq]; omega
  go_enter Tryz.func60, Tryz.ntmps60
  go_wp2_with fail
  refine (l6In_any _ _ _ _).mono ?_
  rintro e w1 ⟨rfl, hw1⟩
  subst hw1
  go_wp2_with fail
  simp only [extract_mk_tail]
  refine (C.out _).mono ?_
  rintro e w1 ⟨rfl, hw1⟩
  subst hw1
  cases b with
  | false =>
    have HF : Hid (specB 110 r false x = false) := rfl
    go_wp2_with fail
    exact bodyPost_ret (v := .tuple #[.agg #[.int .i64 0, .int .i64 0], .bool false]) (by simp [results, Tryz.results60, go_sem]) rfl ⟨by rw [HF.out, readV_false], ((Below.refl _ _).alloc (Nat.le_refl _) _).alloc (by simp) _⟩
  | true =>
    go_wp2_with fail
    refine (specText_any _ _ _).mono ?_
    rintro e w3 ⟨rfl, hb3⟩
    obtain ⟨hc3, hf3⟩ := bcell hb3
    have hz3 := hb3.size
    simp at hz3
    have z0 : w3.cell? ⟨w.heap.size, 0, none⟩ = some (.int .i64 0) := by rw [hc3 _ _ (by simp; omega)]; simp [go_sem]
    have z1 : w3.cell? ⟨w.heap.size, 1, none⟩ = some (.int .i64 0) := by rw [hc3 _ _ (by simp; omega)]; simp [go_sem]
    have z2 : w3.frozen? ⟨w.heap.size, 0, none⟩ = false := by rw [hf3 _ _ (by simp; omega)]; simp [go_sem]
    have z3 : w3.frozen? ⟨w.heap.size, 1, none⟩ = false := by rw [hf3 _ _ (by simp; omega)]; simp [go_sem]
    have z4 : w3.cell? ⟨w.heap.size + 1, 0, none⟩ = some (.int .i64 1) := by rw [hc3 _ _ (by simp)]; simp [go_sem]
    have z5 : w3.cell? ⟨w.heap.size + 1, 1, none⟩ = some (.int .i64 x) := by rw [hc3 _ _ (by simp)]; simp [go_sem]
    have hB3 : Below w.heap.size w w3 := (((Below.refl _ _).alloc (Nat.le_refl _) _).alloc (by simp) _).trans (hb3.mono (by simp; omega))
    clear hc3 hf3 hb3
    cases he : (txt 1 x == 110 :: r) with
    | false =>
      have HF : Hid (specB 110 r true x = false) := by show (true && (!(kindL 110 == 0) && (txt 1 x == 110 :: r))) = false; rw [he]; rfl
      go_wp2_with fail
      exact bodyPost_ret (v := .tuple #[.agg #[.int .i64 0, .int .i64 0], .bool false]) (by simp [results, Tryz.results60, go_sem, z0, z1]) rfl ⟨by rw [HF.out, readV_false], (hB3.setCell (by dsimp only; omega) _).setCell (by dsimp only; omega) _⟩
    | true =>
      have HF : Hid (specB 110 r true x = true) := by show (true && (!(kindL 110 == 0) && (txt 1 x == 110 :: r))) = true; rw [he]; rfl
      go_wp2_with fail
      exact bodyPost_ret (v := .tuple #[.agg #[.int .i64 1, .int .i64 x], .bool true]) (by simp [results, Tryz.results60, go_sem, z0, z1]) rfl ⟨by rw [HF.out, readV_true]; rfl, (hB3.setCell (by dsimp only; omega) _).setCell (by dsimp only; omega) _⟩
set_option maxRecDepth 100000 in
set_option maxHeartbeats 4000000 in
theorem specRead_a (r : List UInt8) (x : Int) (b : Bool) (w : World) (hl1 : 1 ≤ r.length) (hl3 : r.length ≤ 3) (hnn : ((97 :: r : List UInt8) == [110, 111, 110, 101]) = false)
    (C : Hid (∀ w, Calls Tryz.prog 59 #[.string ⟨r.toArray⟩] w fun e w' => e = .returned (.tuple #[.int .i64 x, .bool b]) ∧ w' = w)) :
    Calls Tryz.prog 60 #[.string ⟨(97 :: r).toArray⟩] w fun e w' => e = .returned (readV (specB 97 r b x) (kindL 97) x) ∧ Below w.heap.size w w' := by
  have g1 : (decide ((2 : Int) ≤ (r.length : Int) + 1) && decide ((r.length : Int) + 1 ≤ 4)) = true := by rw [Bool.and_eq_true, decide_eq_true_eq, decide_eq_true_eq]; omega
  go_enter Tryz.func60, Tryz.ntmps60
  go_wp2_with fail
  refine (l6In_any _ _ _ _).mono ?_
  rintro e w1 ⟨rfl, hw1⟩
  subst hw1
  go_wp2_with fail
  simp only [extract_mk_tail]
  refine (C.out _).mono ?_
  rintro e w1 ⟨rfl, hw1⟩
  subst hw1
  cases b with
  | false =>
    have HF : Hid (specB 97 r false x = false) := rfl
    go_wp2_with fail
    exact bodyPost_ret (v := .tuple #[.agg #[.int .i64 0, .int .i64 0], .bool false]) (by simp [results, Tryz.results60, go_sem]) rfl ⟨by rw [HF.out, readV_false], ((Below.refl _ _).alloc (Nat.le_refl _) _).alloc (by simp) _⟩
  | true =>
    go_wp2_with fail
    refine (specText_any _ _ _).mono ?_
    rintro e w3 ⟨rfl, hb3⟩
    obtain ⟨hc3, hf3⟩ := bcell hb3
    have hz3 := hb3.size
    simp at hz3
    have z0 : w3.cell? ⟨w.heap.size, 0, none⟩ = some (.int .i64 0) := by rw [hc3 _ _ (by simp; omega)]; simp [go_sem]
    have z1 : w3.cell? ⟨w.heap.size, 1, none⟩ = some (.int .i64 0) := by rw [hc3 _ _ (by simp; omega)]; simp [go_sem]
    have z2 : w3.frozen? ⟨w.heap.size, 0, none⟩ = false := by rw [hf3 _ _ (by simp; omega)]; simp [go_sem]
    have z3 : w3.frozen? ⟨w.heap.size, 1, none⟩ = false := by rw [hf3 _ _ (by simp; omega)]; simp [go_sem]
    have z4 : w3.cell? ⟨w.heap.size + 1, 0, none⟩ = some (.int .i64 2) := by rw [hc3 _ _ (by simp)]; simp [go_sem]
    have z5 : w3.cell? ⟨w.heap.size + 1, 1, none⟩ = some (.int .i64 x) := by rw [hc3 _ _ (by simp)]; simp [go_sem]
    have hB3 : Below w.heap.size w w3 := (((Below.refl _ _).alloc (Nat.le_refl _) _).alloc (by simp) _).trans (hb3.mono (by simp; omega))
    clear hc3 hf3 hb3
    cases he : (txt 2 x == 97 :: r) with
    | false =>
      have HF : Hid (specB 97 r true x = false) := by show (true && (!(kindL 97 == 0) && (txt 2 x == 97 :: r))) = false; rw [he]; rfl
      go_wp2_with fail
      exact bodyPost_ret (v := .tuple #[.agg #[.int .i64 0, .int .i64 0], .bool false]) (by simp [results, Tryz.results60, go_sem, z0, z1]) rfl ⟨by rw [HF.out, readV_false], (hB3.setCell (by dsimp only; omega) _).setCell (by dsimp only; omega) _⟩
    | true =>
      have HF : Hid (specB 97 r true x = true) := by show (true && (!(kindL 97 == 0) && (txt 2 x == 97 :: r))) = true; rw [he]; rfl
      go_wp2_with fail
      exact bodyPost_ret (v := .tuple #[.agg #[.int .i64 2, .int .i64 x], .bool true]) (by simp [results, Tryz.results60, go_sem, z0, z1]) rfl ⟨by rw [HF.out, readV_true]; rfl, (hB3.setCell (by dsimp only; omega) _).setCell (by dsimp only; omega) _⟩
set_option maxRecDepth 100000 in
set_option maxHeartbeats 4000000 in
theorem specRead_r (r : List UInt8) (x : Int) (b : Bool) (w : World) (hl1 : 1 ≤ r.length) (hl3 : r.length ≤ 3) (hnn : ((114 :: r : List UInt8) == [110, 111, 110, 101]) = false)
    (C : Hid (∀ w, Calls Tryz.prog 59 #[.string ⟨r.toArray⟩] w fun e w' => e = .returned (.tuple #[.int .i64 x, .bool b]) ∧ w' = w)) :
    Calls Tryz.prog 60 #[.string ⟨(114 :: r).toArray⟩] w fun e w' => e = .returned (readV (specB 114 r b x) (kindL 114) x) ∧ Below w.heap.size w w' := by
  have g1 : (decide ((2 : Int) ≤ (r.length : Int) + 1) && decide ((r.length : Int) + 1 ≤ 4)) = true := by rw [Bool.and_eq_true, decide_eq_true_eq, decide_eq_true_eq]; omega
  go_enter Tryz.func60, Tryz.ntmps60
  go_wp2_with fail
  refine (l6In_any _ _ _ _).mono ?_
  rintro e w1 ⟨rfl, hw1⟩
  subst hw1
  go_wp2_with fail
  simp only [extract_mk_tail]
  refine (C.out _).mono ?_
  rintro e w1 ⟨rfl, hw1⟩
  subst hw1
  cases b with
  | false =>
    have HF : Hid (specB 114 r false x = false) := rfl
    go_wp2_with fail
    exact bodyPost_ret (v := .tuple #[.agg #[.int .i64 0, .int .i64 0], .bool false]) (by simp [results, Tryz.results60, go_sem]) rfl ⟨by rw [HF.out, readV_false], ((Below.refl _ _).alloc (Nat.le_refl _) _).alloc (by simp) _⟩
  | true =>
    go_wp2_with fail
    refine (specText_any _ _ _).mono ?_
    rintro e w3 ⟨rfl, hb3⟩
    obtain ⟨hc3, hf3⟩ := bcell hb3
    have hz3 := hb3.size
    simp at hz3
    have z0 : w3.cell? ⟨w.heap.size, 0, none⟩ = some (.int .i64 0) := by rw [hc3 _ _ (by simp; omega)]; simp [go_sem]
    have z1 : w3.cell? ⟨w.heap.size, 1, none⟩ = some (.int .i64 0) := by rw [hc3 _ _ (by simp; omega)]; simp [go_sem]
    have z2 : w3.frozen? ⟨w.heap.size, 0, none⟩ = false := by rw [hf3 _ _ (by simp; omega)]; simp [go_sem]
    have z3 : w3.frozen? ⟨w.heap.size, 1, none⟩ = false := by rw [hf3 _ _ (by simp; omega)]; simp [go_sem]
    have z4 : w3.cell? ⟨w.heap.size + 1, 0, none⟩ = some (.int .i64 3) := by rw [hc3 _ _ (by simp)]; simp [go_sem]
    have z5 : w3.cell? ⟨w.heap.size + 1, 1, none⟩ = some (.int .i64 x) := by rw [hc3 _ _ (by simp)]; simp [go_sem]
    have hB3 : Below w.heap.size w w3 := (((Below.refl _ _).alloc (Nat.le_refl _) _).alloc (by simp) _).trans (hb3.mono (by simp; omega))
    clear hc3 hf3 hb3
    cases he : (txt 3 x == 114 :: r) with
    | false =>
      have HF : Hid (specB 114 r true x = false) := by show (true && (!(kindL 114 == 0) && (txt 3 x == 114 :: r))) = false; rw [he]; rfl
      go_wp2_with fail
      exact bodyPost_ret (v := .tuple #[.agg #[.int .i64 0, .int .i64 0], .bool false]) (by simp [results, Tryz.results60, go_sem, z0, z1]) rfl ⟨by rw [HF.out, readV_false], (hB3.setCell (by dsimp only; omega) _).setCell (by dsimp only; omega) _⟩
    | true =>
      have HF : Hid (specB 114 r true x = true) := by show (true && (!(kindL 114 == 0) && (txt 3 x == 114 :: r))) = true; rw [he]; rfl
      go_wp2_with fail
      exact bodyPost_ret (v := .tuple #[.agg #[.int .i64 3, .int .i64 x], .bool true]) (by simp [results, Tryz.results60, go_sem, z0, z1]) rfl ⟨by rw [HF.out, readV_true]; rfl, (hB3.setCell (by dsimp only; omega) _).setCell (by dsimp only; omega) _⟩
set_option maxRecDepth 100000 in
set_option maxHeartbeats 4000000 in
theorem specRead_o (c : UInt8) (r : List UInt8) (x : Int) (b : Bool) (w : World) (hl1 : 1 ≤ r.length) (hl3 : r.length ≤ 3) (hnn : ((c :: r : List UInt8) == [110, 111, 110, 101]) = false) (q1 : ((((ByteArray.mk (c :: r).toArray)[0]'(by simp [ByteArray.size])).toNat : Int) == 110) = false) (q2 : ((((ByteArray.mk (c :: r).toArray)[0]'(by simp [ByteArray.size])).toNat : Int) == 97) = false) (q3 : ((((ByteArray.mk (c :: r).toArray)[0]'(by simp [ByteArray.size])).toNat : Int) == 114) = false) (hk : kindL c = 0)
    (C : Hid (∀ w, Calls Tryz.prog 59 #[.string ⟨r.toArray⟩] w fun e w' => e = .returned (.tuple #[.int .i64 x, .bool b]) ∧ w' = w)) :
    Calls Tryz.prog 60 #[.string ⟨(c :: r).toArray⟩] w fun e w' => e = .returned (readV (specB c r b x) (kindL c) x) ∧ Below w.heap.size w w' := by
  have g1 : (decide ((2 : Int) ≤ (r.length : Int) + 1) && decide ((r.length : Int) + 1 ≤ 4)) = true := by rw [Bool.and_eq_true, decide_eq_true_eq, decide_eq_true_eq]; omega
  go_enter Tryz.func60, Tryz.ntmps60
  go_wp2_with fail
  refine (l6In_any _ _ _ _).mono ?_
  rintro e w1 ⟨rfl, hw1⟩
  subst hw1
  go_wp2_with fail
  simp only [extract_mk_tail]
  refine (C.out _).mono ?_
  rintro e w1 ⟨rfl, hw1⟩
  subst hw1
  have HF : Hid (specB c r b x = false) := by show specB c r b x = false; simp [specB, hk]
  cases b with
  | false =>
    go_wp2_with fail
    exact bodyPost_ret (v := .tuple #[.agg #[.int .i64 0, .int .i64 0], .bool false]) (by simp [results, Tryz.results60, go_sem]) rfl ⟨by rw [HF.out, readV_false], ((Below.refl _ _).alloc (Nat.le_refl _) _).alloc (by simp) _⟩
  | true =>
    go_wp2_with fail
    exact bodyPost_ret (v := .tuple #[.agg #[.int .i64 0, .int .i64 0], .bool false]) (by simp [results, Tryz.results60, go_sem]) rfl ⟨by rw [HF.out, readV_false], ((Below.refl _ _).alloc (Nat.le_refl _) _).alloc (by simp) _⟩
theorem specRead_key (c : UInt8) (r : List UInt8) (x : Int) (b : Bool) (w : World) (hl1 : 1 ≤ r.length) (hl3 : r.length ≤ 3) (hnn : ((c :: r : List UInt8) == [110, 111, 110, 101]) = false)
    (C : ∀ w, Calls Tryz.prog 59 #[.string ⟨r.toArray⟩] w fun e w' => e = .returned (.tuple #[.int .i64 x, .bool b]) ∧ w' = w) :
    Calls Tryz.prog 60 #[.string ⟨(c :: r).toArray⟩] w fun e w' => e = .returned (readV (specB c r b x) (kindL c) x) ∧ Below w.heap.size w w' := by
  rcases kindL_cases c with ⟨rfl, _⟩ | ⟨rfl, _⟩ | ⟨rfl, _⟩ | ⟨h1, h2, h3, e⟩
  · exact specRead_n r x b w hl1 hl3 hnn C
  · exact specRead_a r x b w hl1 hl3 hnn C
  · exact specRead_r r x b w hl1 hl3 hnn C
  · exact specRead_o c r x b w hl1 hl3 hnn (by show ((c.toNat : Int) == 110) = false; rw [beq_eq_false_iff_ne]; have := byte_ne (m := 110) (by omega) h1; omega) (by show ((c.toNat : Int) == 97) = false; rw [beq_eq_false_iff_ne]; have := byte_ne (m := 97) (by omega) h2; omega) (by show ((c.toNat : Int) == 114) = false; rw [beq_eq_false_iff_ne]; have := byte_ne (m := 114) (by omega) h3; omega) e C
theorem itoa_len1 (n : Int) (h1 : -99 ≤ n) (h2 : n ≤ 99) : 1 ≤ (Lib.itoa n).length := by
  by_cases h : n < 0
  · rw [itoa_neg n h, List.length_cons]; omega
  · rw [itoa_pos n (by omega)]; exact dec_len1 _ (by omega)
/-- the text of an ok value is read as that value -/
theorem specRead_yes (k n : Int) (w : World) (h : okB k n = true) :
    Calls Tryz.prog 60 #[.string ⟨(txt k n).toArray⟩] w fun e w' => e = .returned (.tuple #[.agg #[.int .i64 k, .int .i64 n], .bool true]) ∧ Below w.heap.size w w' := by
  have hbd := okB_bd h
  by_cases hk : k = 0
  · subst hk
    have hn : n = 0 := by rw [okB_zero] at h; simpa using h
    subst hn
    rw [txt_none h]; exact specRead_none w
  · obtain ⟨c, hc, ht⟩ := txt_letter h hk
    rw [ht]
    have hl := itoa_len n hbd.1 hbd.2
    have hl1 := itoa_len1 n hbd.1 hbd.2
    have hnn : ((c :: Lib.itoa n : List UInt8) == [110, 111, 110, 101]) = false := by
      rw [beq_eq_false_iff_ne]; intro hh; injection hh with _ hh; exact itoa_head n hbd.1 hbd.2 _ hh
    have hr := specRead_key c (Lib.itoa n) n true w hl1 hl hnn (fun w => l1Dec_yes n w hbd.1 hbd.2)
    have hB : specB c (Lib.itoa n) true n = true := by
      rw [specB, hc, ht]; simp [hk]
    rw [hB, readV_true, hc] at hr
    exact hr
/-- what is no text of an ok value is not read -/
theorem specRead_no (t : List UInt8) (w : World) (h : ∀ k n, okB k n = true → t ≠ txt k n) :
    Calls Tryz.prog 60 #[.string ⟨t.toArray⟩] w fun e w' => e = .returned (.tuple #[.agg #[.int .i64 0, .int .i64 0], .bool false]) ∧ Below w.heap.size w w' := by
  have hnn : (t == [110, 111, 110, 101]) = false := by
    rw [beq_eq_false_iff_ne]; intro hh; exact h 0 0 rfl (by rw [hh]; rfl)
  by_cases hs : t.length < 2 ∨ 4 < t.length
  · exact specRead_size t w hnn hs
  · cases t with
    | nil => simp at hs
    | cons c r =>
      simp only [List.length_cons] at hs
      obtain ⟨x, b, C⟩ := l1Dec_some r (by omega) (by omega)
      have hr := specRead_key c r x b w (by omega) (by omega) hnn C
      have hB : specB c r b x = false := by
        rw [Bool.eq_false_iff]
        intro hh
        simp only [specB, Bool.and_eq_true, Bool.not_eq_true', beq_eq_false_iff_ne, beq_iff_eq] at hh
        cases ho : okB (kindL c) x with
        | false => rw [txt_bad ho] at hh; exact absurd hh.2.2 (List.cons_ne_nil _ _).symm
        | true => exact h (kindL c) x ho hh.2.2.symm
      rw [hB, readV_false] at hr
      exact hr
end Go.Proofs.YtekmjgkjpdhedaaGreatDoor
