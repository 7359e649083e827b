/-
  What impl.ValAdd and the specification's ValAdd answer, for every two values.
-/
import Derived.Test.YtfgpmbeianbimaaWalks
namespace Go.Proofs.Ytfgpmbeianbimaa
open Go.ChangeShapes Go.WideShapes Go.ChangeAt Go.RowKit Go.Joins
/-- whether a value is a number -/
def numB (k n : Int) : Bool := (k == 1) && okB k n
/-- whether two values are added -/
def addB (k n l m : Int) : Bool := numB k n && numB l m && okB 1 (n + m)
/-- what comes out -/
def addV (k n l m : Int) : Value := .tuple #[.agg #[.int .i64 (if addB k n l m = true then 1 else 0), .int .i64 (if addB k n l m = true then n + m else 0)], .bool (addB k n l m)]
theorem numB_bd {k n : Int} (h : numB k n = true) : k = 1 ∧ -99 ≤ n ∧ n ≤ 99 := by
  simp only [numB, Bool.and_eq_true, beq_iff_eq] at h
  obtain ⟨rfl, h⟩ := h
  rw [okB_one] at h
  simp at h; omega
theorem numB_mk {n : Int} (h1 : -99 ≤ n) (h2 : n ≤ 99) : numB 1 n = true := by simp [numB, okB, h1, h2]
theorem okB_bd {k n : Int} (h : okB k n = true) : -99 ≤ n ∧ n ≤ 99 := by
  by_cases h0 : k = 0
  · subst h0; rw [okB_zero] at h; simp at h; omega
  by_cases h1 : k = 1
  · subst h1; rw [okB_one] at h; simp at h; omega
  by_cases h2 : k = 2
  · subst h2; rw [okB_two] at h; simp at h; omega
  by_cases h3 : k = 3
  · subst h3; rw [okB_three] at h; simp at h; omega
  rw [okB_else k n h0 h1 h2 h3] at h; cases h
theorem addV_yes {k n l m : Int} (h : addB k n l m = true) : addV k n l m = .tuple #[.agg #[.int .i64 1, .int .i64 (n + m)], .bool true] := by simp [addV, h]
theorem addV_no {k n l m : Int} (h : addB k n l m = false) : addV k n l m = .tuple #[.agg #[.int .i64 0, .int .i64 0], .bool false] := by simp [addV, h]

set_option maxHeartbeats 400000 in
theorem count_any (n : Int) (w : World) :
    Calls Try.prog 30 #[.int .i64 n] w fun e w' => e = .returned (.int .i64 n) ∧ w' = w := by
  go_enter Try.func30, Try.ntmps30
  go_wp2
  go_ret
  exact ⟨rfl, rfl⟩
theorem assert_num (n : Int) (w : World) : (Instr.typeAssert (.iface 56 (.int .i64 n)) 51 56 true).run Try.prog w = .ok (.tuple #[.int .i64 n, .bool true]) w := by kernel_rfl
theorem assert_name (n : Int) (w : World) : (Instr.typeAssert (.iface 58 (.int .i64 n)) 51 56 true).run Try.prog w = .ok (.tuple #[.int .i64 0, .bool false]) w := by kernel_rfl
theorem assert_run (n : Int) (w : World) : (Instr.typeAssert (.iface 59 (.int .i64 n)) 51 56 true).run Try.prog w = .ok (.tuple #[.int .i64 0, .bool false]) w := by kernel_rfl
theorem assert_nil (w : World) : (Instr.typeAssert .nilIface 51 56 true).run Try.prog w = .ok (.tuple #[.int .i64 0, .bool false]) w := by kernel_rfl
set_option maxHeartbeats 400000 in
theorem number_yes (n : Int) (w : World) (h : numB 1 n = true) :
    Calls Try.prog 26 #[.agg #[.int .i64 1, .int .i64 n]] w fun e w' => e = .returned (.tuple #[.int .i64 n, .bool true]) ∧ Below w.heap.size w w' := by
  have hok : okB 1 n = true := by simpa [numB] using h
  have ht : thingV 1 n = .iface 56 (.int .i64 n) := by simp [thingV, hok]
  have hm := assert_num n
  clear h
  go_enter Try.func26, Try.ntmps26
  go_wp2_with fail
  refine (thing_any _ _ _).mono ?_
  rintro e w1 ⟨rfl, hb⟩
  go_wp2_with (go_at_call 30; refine (count_any _ _).mono ?_; rintro e w2 ⟨rfl, rfl⟩)
  go_ret2
  exact ⟨rfl, ((Below.refl _ _).alloc (Nat.le_refl _) _).trans (hb.mono (by simp))⟩
set_option maxHeartbeats 400000 in
theorem number_bad (k n : Int) (w : World) (h : okB k n = false) :
    Calls Try.prog 26 #[.agg #[.int .i64 k, .int .i64 n]] w fun e w' => e = .returned (.tuple #[.int .i64 0, .bool false]) ∧ Below w.heap.size w w' := by
  go_enter Try.func26, Try.ntmps26
  go_wp2_with fail
  refine (thing_any _ _ _).mono ?_
  rintro e w1 ⟨rfl, hb⟩
  go_wp2_with fail
  go_ret2
  exact ⟨rfl, ((Below.refl _ _).alloc (Nat.le_refl _) _).trans (hb.mono (by simp))⟩
set_option maxHeartbeats 400000 in
theorem number_other (k n : Int) (w : World) (hok : okB k n = true) (v : Value) (hv : thingV k n = v) (hm : ∀ w, (Instr.typeAssert v 51 56 true).run Try.prog w = .ok (.tuple #[.int .i64 0, .bool false]) w) :
    Calls Try.prog 26 #[.agg #[.int .i64 k, .int .i64 n]] w fun e w' => e = .returned (.tuple #[.int .i64 0, .bool false]) ∧ Below w.heap.size w w' := by
  go_enter Try.func26, Try.ntmps26
  go_wp2_with fail
  refine (thing_any _ _ _).mono ?_
  rintro e w1 ⟨rfl, hb⟩
  go_wp2_with fail
  go_ret2
  exact ⟨rfl, ((Below.refl _ _).alloc (Nat.le_refl _) _).trans (hb.mono (by simp))⟩
theorem number_no (k n : Int) (w : World) (h : numB k n = false) :
    Calls Try.prog 26 #[.agg #[.int .i64 k, .int .i64 n]] w fun e w' => e = .returned (.tuple #[.int .i64 0, .bool false]) ∧ Below w.heap.size w w' := by
  cases hok : okB k n with
  | false => exact number_bad k n w hok
  | true =>
    have hk := okB k n
    by_cases h1 : k = 1
    · subst h1; simp [numB, hok] at h
    by_cases h2 : k = 2
    · subst h2; exact number_other 2 n w hok _ (by simp [thingV, hok]) (assert_name n)
    by_cases h3 : k = 3
    · subst h3; exact number_other 3 n w hok _ (by simp [thingV, hok]) (assert_run n)
    · exact number_other k n w hok _ (by simp [thingV, h1, h2, h3]) assert_nil
/-- what numberOf answers, in one form -/
theorem number_any (k n : Int) (w : World) :
    Calls Try.prog 26 #[.agg #[.int .i64 k, .int .i64 n]] w fun e w' => e = .returned (.tuple #[.int .i64 (if numB k n = true then n else 0), .bool (numB k n)]) ∧ Below w.heap.size w w' := by
  cases h : numB k n with
  | true => obtain ⟨rfl, _⟩ := numB_bd h; simpa using number_yes n w h
  | false => simpa using number_no k n w h
/-- a value and whether it is one, by a Bool -/
def keyV (b : Bool) (s : Int) : Value := if b = true then .tuple #[.agg #[.int .i64 1, .int .i64 s], .bool true] else .tuple #[.agg #[.int .i64 0, .int .i64 0], .bool false]
theorem keyV_true (s : Int) : keyV true s = .tuple #[.agg #[.int .i64 1, .int .i64 s], .bool true] := rfl
theorem keyV_false (s : Int) : keyV false s = .tuple #[.agg #[.int .i64 0, .int .i64 0], .bool false] := rfl
theorem keyV_add (k n l m : Int) : keyV (addB k n l m) (n + m) = addV k n l m := by
  cases h : addB k n l m with
  | true => rw [addV_yes h, keyV_true]
  | false => rw [addV_no h, keyV_false]
set_option maxHeartbeats 800000 in
theorem implAdd_key (k n l m x y : Int) (p q : Bool) (w : World) (hx1 : -99 ≤ x) (hx2 : x ≤ 99) (hy1 : -99 ≤ y) (hy2 : y ≤ 99)
    (C1 : Hid (∀ w, Calls Try.prog 26 #[.agg #[.int .i64 k, .int .i64 n]] w fun e w' => e = .returned (.tuple #[.int .i64 x, .bool p]) ∧ Below w.heap.size w w'))
    (C2 : Hid (∀ w, Calls Try.prog 26 #[.agg #[.int .i64 l, .int .i64 m]] w fun e w' => e = .returned (.tuple #[.int .i64 y, .bool q]) ∧ Below w.heap.size w w')) :
    Calls Try.prog 13 #[.agg #[.int .i64 k, .int .i64 n], .agg #[.int .i64 l, .int .i64 m]] w fun e w' => e = .returned (keyV (p && q && okB 1 (x + y)) (x + y)) ∧ Below w.heap.size w w' := by
  go_enter Try.func13, Try.ntmps13
  go_wp2_with fail
  refine (C1.out _).mono ?_
  rintro e w1 ⟨rfl, hb1⟩
  obtain ⟨hc1, hf1⟩ := bcell hb1
  have hz1 := hb1.size
  simp at hz1
  go_wp2_with fail
  refine (C2.out _).mono ?_
  rintro e w2 ⟨rfl, hb2⟩
  obtain ⟨hc2, hf2⟩ := bcell hb2
  have hz2 := hb2.size
  have r0 : w2.cell? ⟨w.heap.size + 1 + 1, 0, none⟩ = some (.int .i64 0) := by rw [hc2 _ _ (by omega), hc1 _ _ (by simp)]; simp [go_sem]
  have r1 : w2.cell? ⟨w.heap.size + 1 + 1, 1, none⟩ = some (.int .i64 0) := by rw [hc2 _ _ (by omega), hc1 _ _ (by simp)]; simp [go_sem]
  have f0 : w2.frozen? ⟨w.heap.size + 1 + 1, 0, none⟩ = false := by rw [hf2 _ _ (by omega), hf1 _ _ (by simp)]; simp [go_sem]
  have f1 : w2.frozen? ⟨w.heap.size + 1 + 1, 1, none⟩ = false := by rw [hf2 _ _ (by omega), hf1 _ _ (by simp)]; simp [go_sem]
  have hz3 : w.heap.size + 1 + 1 < w2.heap.size := by omega
  have hB : Below w.heap.size w w2 := ((((Below.refl _ _).alloc (Nat.le_refl _) _).alloc (by simp) _).alloc (by simp; omega) _).trans ((hb1.mono (by simp; omega)).trans (hb2.mono (by omega)))
  have hB2 : ∀ v v', Below w.heap.size w ((w2.setCell ⟨w.heap.size + 1 + 1, 0, none⟩ v).setCell ⟨w.heap.size + 1 + 1, 1, none⟩ v') := fun v v' => (hB.setCell (by simp; omega) _).setCell (by simp; omega) _
  clear hc1 hf1 hc2 hf2 hb1 hb2
  cases p with
  | false =>
    go_wp2_with fail
    exact bodyPost_ret (v := .tuple #[.agg #[.int .i64 0, .int .i64 0], .bool false]) (by simp [results, Try.results13, go_sem, r0, r1, hz3]) rfl ⟨rfl, (hB2 _ _).alloc (by simp; omega) _⟩
  | true =>
    cases q with
    | false =>
      go_wp2_with fail
      exact bodyPost_ret (v := .tuple #[.agg #[.int .i64 0, .int .i64 0], .bool false]) (by simp [results, Try.results13, go_sem, r0, r1, hz3]) rfl ⟨rfl, (hB2 _ _).alloc (by simp; omega) _⟩
    | true =>
      go_wp2_with fail
      refine (implOk_any _ _ _).mono ?_
      rintro e w3 ⟨rfl, hb3⟩
      obtain ⟨hc3, hf3⟩ := bcell hb3
      have hz4 := hb3.size
      simp at hz4
      have q0 : w3.cell? ⟨w.heap.size + 1 + 1, 0, none⟩ = some (.int .i64 0) := by rw [hc3 _ _ (by simp; omega)]; simp [go_sem, r0, hz3]
      have q1 : w3.cell? ⟨w.heap.size + 1 + 1, 1, none⟩ = some (.int .i64 0) := by rw [hc3 _ _ (by simp; omega)]; simp [go_sem, r1, hz3]
      have g0 : w3.frozen? ⟨w.heap.size + 1 + 1, 0, none⟩ = false := by rw [hf3 _ _ (by simp; omega)]; simp [go_sem, f0, hz3]
      have g1 : w3.frozen? ⟨w.heap.size + 1 + 1, 1, none⟩ = false := by rw [hf3 _ _ (by simp; omega)]; simp [go_sem, f1, hz3]
      have s0 : w3.cell? ⟨w2.heap.size, 0, none⟩ = some (.int .i64 1) := by rw [hc3 _ _ (by simp)]; simp [go_sem]
      have s1 : w3.cell? ⟨w2.heap.size, 1, none⟩ = some (.int .i64 (x + y)) := by rw [hc3 _ _ (by simp)]; simp [go_sem]
      have hB3 : Below w.heap.size w w3 := (hB.alloc (by omega) _).trans (hb3.mono (by simp; omega))
      clear hc3 hf3 r0 r1 f0 f1 hb3
      cases ho : okB 1 (x + y) with
      | false =>
        go_wp2_with fail
        exact bodyPost_ret (v := .tuple #[.agg #[.int .i64 0, .int .i64 0], .bool false]) (by simp [results, Try.results13, go_sem, q0, q1]) rfl ⟨by rw [ho]; rfl, (hB3.setCell (by simp; omega) _).setCell (by simp; omega) _⟩
      | true =>
        go_wp2_with fail
        exact bodyPost_ret (v := .tuple #[.agg #[.int .i64 1, .int .i64 (x + y)], .bool true]) (by simp [results, Try.results13, go_sem, q0, q1]) rfl ⟨by rw [ho]; rfl, (hB3.setCell (by simp; omega) _).setCell (by simp; omega) _⟩
theorem numOr_bd (k n : Int) : -99 ≤ (if numB k n = true then n else 0) ∧ (if numB k n = true then n else 0) ≤ 99 := by
  by_cases h : numB k n = true
  · rw [if_pos h]; have := numB_bd h; omega
  · rw [if_neg h]; omega
theorem implAdd_any (k n l m : Int) (w : World) :
    Calls Try.prog 13 #[.agg #[.int .i64 k, .int .i64 n], .agg #[.int .i64 l, .int .i64 m]] w fun e w' => e = .returned (addV k n l m) ∧ Below w.heap.size w w' := by
  have h := implAdd_key k n l m (if numB k n = true then n else 0) (if numB l m = true then m else 0) (numB k n) (numB l m) w
    (numOr_bd k n).1 (numOr_bd k n).2 (numOr_bd l m).1 (numOr_bd l m).2
    (number_any k n) (number_any l m)
  rw [← keyV_add]
  refine h.mono fun e w' ⟨he, hb⟩ => ⟨?_, hb⟩
  rw [he]
  cases h1 : numB k n with
  | false => simp [addB, h1, keyV]
  | true =>
    cases h2 : numB l m with
    | false => simp [addB, h1, h2, keyV]
    | true => simp [addB, h1, h2]

set_option maxHeartbeats 800000 in
theorem l1Add_any (k n l m : Int) (w : World) (hn1 : -99 ≤ n) (hn2 : n ≤ 99) (hm1 : -99 ≤ m) (hm2 : m ≤ 99) :
    Calls Try.prog 25 #[.agg #[.int .i64 k, .int .i64 n], .agg #[.int .i64 l, .int .i64 m]] w fun e w' => e = .returned (keyV (k == 1 && l == 1 && okB 1 (n + m)) (n + m)) ∧ Below w.heap.size w w' := by
  by_cases h1 : k = 1
  · by_cases h2 : l = 1
    · subst h1 h2
      go_enter Try.func25, Try.ntmps25
      go_wp2_with fail
      refine (specOk_any _ _ _).mono ?_
      rintro e w3 ⟨rfl, hb3⟩
      obtain ⟨hc3, hf3⟩ := bcell hb3
      have hz4 := hb3.size
      simp at hz4
      have q0 : w3.cell? ⟨w.heap.size + 1 + 1, 0, none⟩ = some (.int .i64 0) := by rw [hc3 _ _ (by simp)]; simp [go_sem]
      have q1 : w3.cell? ⟨w.heap.size + 1 + 1, 1, none⟩ = some (.int .i64 0) := by rw [hc3 _ _ (by simp)]; simp [go_sem]
      have g0 : w3.frozen? ⟨w.heap.size + 1 + 1, 0, none⟩ = false := by rw [hf3 _ _ (by simp)]; simp [go_sem]
      have g1 : w3.frozen? ⟨w.heap.size + 1 + 1, 1, none⟩ = false := by rw [hf3 _ _ (by simp)]; simp [go_sem]
      have s0 : w3.cell? ⟨w.heap.size + 1 + 1 + 1, 0, none⟩ = some (.int .i64 1) := by rw [hc3 _ _ (by simp)]; simp [go_sem]
      have s1 : w3.cell? ⟨w.heap.size + 1 + 1 + 1, 1, none⟩ = some (.int .i64 (n + m)) := by rw [hc3 _ _ (by simp)]; simp [go_sem]
      have hB3 : Below w.heap.size w w3 := (((((Below.refl _ _).alloc (Nat.le_refl _) _).alloc (by simp) _).alloc (by simp; omega) _).alloc (by simp; omega) _).trans (hb3.mono (by simp; omega))
      clear hc3 hf3 hb3
      cases ho : okB 1 (n + m) with
      | false =>
        go_wp2_with fail
        exact bodyPost_ret (v := .tuple #[.agg #[.int .i64 0, .int .i64 0], .bool false]) (by simp [results, Try.results25, go_sem, q0, q1]) rfl ⟨by rw [ho]; rfl, (hB3.setCell (by simp; omega) _).setCell (by simp; omega) _⟩
      | true =>
        go_wp2_with fail
        exact bodyPost_ret (v := .tuple #[.agg #[.int .i64 1, .int .i64 (n + m)], .bool true]) (by simp [results, Try.results25, go_sem, q0, q1]) rfl ⟨by rw [ho]; rfl, (hB3.setCell (by simp; omega) _).setCell (by simp; omega) _⟩
    · subst h1
      have h2' : (l == 1) = false := by simp [h2]
      have hfin : Hid (keyV ((1 : Int) == 1 && l == 1 && okB 1 (n + m)) (n + m) = .tuple #[.agg #[.int .i64 0, .int .i64 0], .bool false]) := by show keyV _ _ = _; rw [h2']; rfl
      go_enter Try.func25, Try.ntmps25
      go_wp2_with fail
      exact bodyPost_ret (v := .tuple #[.agg #[.int .i64 0, .int .i64 0], .bool false]) (by simp [results, Try.results25, go_sem]) rfl ⟨by rw [hfin.out], ((((Below.refl _ _).alloc (Nat.le_refl _) _).alloc (by simp) _).alloc (by simp; omega) _).alloc (by simp; omega) _⟩
  · have h1' : (k == 1) = false := by simp [h1]
    have hfin : Hid (keyV (k == 1 && l == 1 && okB 1 (n + m)) (n + m) = .tuple #[.agg #[.int .i64 0, .int .i64 0], .bool false]) := by show keyV _ _ = _; rw [h1']; rfl
    go_enter Try.func25, Try.ntmps25
    go_wp2_with fail
    exact bodyPost_ret (v := .tuple #[.agg #[.int .i64 0, .int .i64 0], .bool false]) (by simp [results, Try.results25, go_sem]) rfl ⟨by rw [hfin.out], ((((Below.refl _ _).alloc (Nat.le_refl _) _).alloc (by simp) _).alloc (by simp; omega) _).alloc (by simp; omega) _⟩
set_option maxHeartbeats 800000 in
theorem specAdd_key (k n l m : Int) (w : World) :
    Calls Try.prog 12 #[.agg #[.int .i64 k, .int .i64 n], .agg #[.int .i64 l, .int .i64 m]] w fun e w' => e = .returned (keyV (okB k n && okB l m && (k == 1 && l == 1 && okB 1 (n + m))) (n + m)) ∧ Below w.heap.size w w' := by
  cases h1 : okB k n with
  | false =>
    go_enter Try.func12, Try.ntmps12
    go_wp2_with fail
    refine (specOk_any _ _ _).mono ?_
    rintro e w3 ⟨rfl, hb3⟩
    obtain ⟨hc3, hf3⟩ := bcell hb3
    have hz4 := hb3.size
    simp at hz4
    have q0 : w3.cell? ⟨w.heap.size + 1 + 1, 0, none⟩ = some (.int .i64 0) := by rw [hc3 _ _ (by simp)]; simp [go_sem]
    have q1 : w3.cell? ⟨w.heap.size + 1 + 1, 1, none⟩ = some (.int .i64 0) := by rw [hc3 _ _ (by simp)]; simp [go_sem]
    have g0 : w3.frozen? ⟨w.heap.size + 1 + 1, 0, none⟩ = false := by rw [hf3 _ _ (by simp)]; simp [go_sem]
    have g1 : w3.frozen? ⟨w.heap.size + 1 + 1, 1, none⟩ = false := by rw [hf3 _ _ (by simp)]; simp [go_sem]
    have hB3 : Below w.heap.size w w3 := ((((Below.refl _ _).alloc (Nat.le_refl _) _).alloc (by simp) _).alloc (by simp; omega) _).trans (hb3.mono (by simp; omega))
    clear hc3 hf3 hb3
    go_wp2_with fail
    exact bodyPost_ret (v := .tuple #[.agg #[.int .i64 0, .int .i64 0], .bool false]) (by simp [results, Try.results12, go_sem, q0, q1]) rfl ⟨rfl, (hB3.setCell (by simp; omega) _).setCell (by simp; omega) _⟩
  | true =>
    have bn := okB_bd h1
    go_enter Try.func12, Try.ntmps12
    go_wp2_with fail
    refine (specOk_any _ _ _).mono ?_
    rintro e w1 ⟨rfl, hb1⟩
    obtain ⟨hc1, hf1⟩ := bcell hb1
    have hz1 := hb1.size
    simp at hz1
    have hz1' : w.heap.size + 1 < w1.heap.size := by omega
    have hz1'' : w.heap.size < w1.heap.size := by omega
    go_wp2_with fail
    refine (specOk_any _ _ _).mono ?_
    rintro e w3 ⟨rfl, hb3⟩
    obtain ⟨hc3, hf3⟩ := bcell hb3
    have hz4 := hb3.size
    have q0 : w3.cell? ⟨w.heap.size + 1 + 1, 0, none⟩ = some (.int .i64 0) := by rw [hc3 _ _ (by omega), hc1 _ _ (by simp)]; simp [go_sem]
    have q1 : w3.cell? ⟨w.heap.size + 1 + 1, 1, none⟩ = some (.int .i64 0) := by rw [hc3 _ _ (by omega), hc1 _ _ (by simp)]; simp [go_sem]
    have g0 : w3.frozen? ⟨w.heap.size + 1 + 1, 0, none⟩ = false := by rw [hf3 _ _ (by omega), hf1 _ _ (by simp)]; simp [go_sem]
    have g1 : w3.frozen? ⟨w.heap.size + 1 + 1, 1, none⟩ = false := by rw [hf3 _ _ (by omega), hf1 _ _ (by simp)]; simp [go_sem]
    have a0 : w3.cell? ⟨w.heap.size, 0, none⟩ = some (.int .i64 k) := by rw [hc3 _ _ (by omega), hc1 _ _ (by simp; omega)]; simp [go_sem]
    have a1 : w3.cell? ⟨w.heap.size, 1, none⟩ = some (.int .i64 n) := by rw [hc3 _ _ (by omega), hc1 _ _ (by simp; omega)]; simp [go_sem]
    have b0 : w3.cell? ⟨w.heap.size + 1, 0, none⟩ = some (.int .i64 l) := by rw [hc3 _ _ (by omega), hc1 _ _ (by simp)]; simp [go_sem]
    have b1 : w3.cell? ⟨w.heap.size + 1, 1, none⟩ = some (.int .i64 m) := by rw [hc3 _ _ (by omega), hc1 _ _ (by simp)]; simp [go_sem]
    have hB3 : Below w.heap.size w w3 := ((((Below.refl _ _).alloc (Nat.le_refl _) _).alloc (by simp) _).alloc (by simp; omega) _).trans ((hb1.mono (by simp; omega)).trans (hb3.mono (by omega)))
    clear hc1 hf1 hb1 hc3 hf3 hb3
    cases h2 : okB l m with
    | false =>
      go_wp2_with fail
      exact bodyPost_ret (v := .tuple #[.agg #[.int .i64 0, .int .i64 0], .bool false]) (by simp [results, Try.results12, go_sem, q0, q1]) rfl ⟨by rw [h2]; rfl, (hB3.setCell (by simp; omega) _).setCell (by simp; omega) _⟩
    | true =>
      have bm := okB_bd h2
      have hz5 : w.heap.size + 1 + 1 < w3.heap.size := by omega
      cases hs : (k == 1 && l == 1 && okB 1 (n + m)) with
      | false =>
        have HS : Hid ((k == 1 && l == 1 && okB 1 (n + m)) = false) := hs
        clear hs
        go_wp2_with fail
        refine (l1Add_any _ _ _ _ _ bn.1 bn.2 bm.1 bm.2).mono ?_
        rw [HS.out, keyV_false]
        rintro e w4 ⟨rfl, hb4⟩
        obtain ⟨hc4, hf4⟩ := bcell hb4
        have p0 : w4.cell? ⟨w.heap.size + 1 + 1, 0, none⟩ = some (.int .i64 0) := by rw [hc4 _ _ hz5]; exact q0
        have p1 : w4.cell? ⟨w.heap.size + 1 + 1, 1, none⟩ = some (.int .i64 0) := by rw [hc4 _ _ hz5]; exact q1
        have p2 : w4.frozen? ⟨w.heap.size + 1 + 1, 0, none⟩ = false := by rw [hf4 _ _ hz5]; exact g0
        have p3 : w4.frozen? ⟨w.heap.size + 1 + 1, 1, none⟩ = false := by rw [hf4 _ _ hz5]; exact g1
        have hB4 : Below w.heap.size w w4 := hB3.trans (hb4.mono (by omega))
        clear hc4 hf4 hb4 q0 q1 g0 g1 a0 a1 b0 b1
        go_wp2_with fail
        exact bodyPost_ret (v := .tuple #[.agg #[.int .i64 0, .int .i64 0], .bool false]) (by simp [results, Try.results12, go_sem, p0, p1]) rfl ⟨by rw [h2, HS.out]; rfl, (hB4.setCell (by simp; omega) _).setCell (by simp; omega) _⟩
      | true =>
        have HS : Hid ((k == 1 && l == 1 && okB 1 (n + m)) = true) := hs
        clear hs
        go_wp2_with fail
        refine (l1Add_any _ _ _ _ _ bn.1 bn.2 bm.1 bm.2).mono ?_
        rw [HS.out, keyV_true]
        rintro e w4 ⟨rfl, hb4⟩
        obtain ⟨hc4, hf4⟩ := bcell hb4
        have p0 : w4.cell? ⟨w.heap.size + 1 + 1, 0, none⟩ = some (.int .i64 0) := by rw [hc4 _ _ hz5]; exact q0
        have p1 : w4.cell? ⟨w.heap.size + 1 + 1, 1, none⟩ = some (.int .i64 0) := by rw [hc4 _ _ hz5]; exact q1
        have p2 : w4.frozen? ⟨w.heap.size + 1 + 1, 0, none⟩ = false := by rw [hf4 _ _ hz5]; exact g0
        have p3 : w4.frozen? ⟨w.heap.size + 1 + 1, 1, none⟩ = false := by rw [hf4 _ _ hz5]; exact g1
        have hB4 : Below w.heap.size w w4 := hB3.trans (hb4.mono (by omega))
        clear hc4 hf4 hb4 q0 q1 g0 g1 a0 a1 b0 b1
        go_wp2_with fail
        exact bodyPost_ret (v := .tuple #[.agg #[.int .i64 1, .int .i64 (n + m)], .bool true]) (by simp [results, Try.results12, go_sem, p0, p1]) rfl ⟨by rw [h2, HS.out]; rfl, (hB4.setCell (by simp; omega) _).setCell (by simp; omega) _⟩
theorem specAdd_any (k n l m : Int) (w : World) :
    Calls Try.prog 12 #[.agg #[.int .i64 k, .int .i64 n], .agg #[.int .i64 l, .int .i64 m]] w fun e w' => e = .returned (addV k n l m) ∧ Below w.heap.size w w' := by
  have hb : (okB k n && okB l m && (k == 1 && l == 1 && okB 1 (n + m))) = addB k n l m := by
    unfold addB numB
    cases okB k n <;> cases okB l m <;> cases (k == 1) <;> cases (l == 1) <;> simp
  rw [← keyV_add, ← hb]
  exact specAdd_key k n l m w
end Go.Proofs.Ytfgpmbeianbimaa
