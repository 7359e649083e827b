/-
  What impl.ValRead answers, for every text of at most 1048576 bytes.
-/
import Derived.Test.YtekmjgkjpdhedaaGreatDoorReadText
import Derived.Laws.Closers25b
namespace Go.Proofs.YtekmjgkjpdhedaaGreatDoor
open Go.ChangeShapes Go.WideShapes Go.ChangeAt Go.RowKit Go.Joins
set_option maxRecDepth 100000 in
set_option maxHeartbeats 1000000 in
theorem decRead_yes (r : List UInt8) (n : Int) (w : World) (hl : r.length ≤ 1048576) (ha : Lib.atoiAll r = .ok n) (hi : Lib.itoa n = r) (hT : Tab w) :
    Calls Tryz.prog 109 #[.string ⟨r.toArray⟩] w fun e w' => e = .returned (.tuple #[.int .i64 n, .bool true]) ∧ Below w.heap.size w w' := by
  have hbd := Lib.atoiAll_bounds ha
  have HI := (show Hid _ from hi)
  clear hi
  go_enter Tryz.func109, Tryz.ntmps109
  go_wp2_with fail
  refine (atoi_yes ⟨r.toArray⟩ (by simpa [ByteArray.size] using hl) n (by simpa using ha) _).mono ?_
  rintro e w1 ⟨rfl, hb1⟩
  go_wp2_with fail
  refine (itoa_any n hbd.1 hbd.2 _ (hT.below hb1)).mono ?_
  rw [HI.out]
  rintro e w2 ⟨rfl, hb2⟩
  go_wp2_with fail
  go_ret2
  exact ⟨rfl, hb1.trans (hb2.mono hb1.size)⟩
set_option maxRecDepth 100000 in
set_option maxHeartbeats 1000000 in
theorem decRead_other (r : List UInt8) (n : Int) (w : World) (hl : r.length ≤ 1048576) (ha : Lib.atoiAll r = .ok n) (hi : (Lib.itoa n == r) = false) (hT : Tab w) :
    Calls Tryz.prog 109 #[.string ⟨r.toArray⟩] w fun e w' => e = .returned (.tuple #[.int .i64 0, .bool false]) ∧ Below w.heap.size w w' := by
  have hbd := Lib.atoiAll_bounds ha
  go_enter Tryz.func109, Tryz.ntmps109
  go_wp2_with fail
  refine (atoi_yes ⟨r.toArray⟩ (by simpa [ByteArray.size] using hl) n (by simpa using ha) _).mono ?_
  rintro e w1 ⟨rfl, hb1⟩
  go_wp2_with fail
  refine (itoa_any n hbd.1 hbd.2 _ (hT.below hb1)).mono ?_
  rintro e w2 ⟨rfl, hb2⟩
  go_wp2_with fail
  go_ret2
  exact ⟨rfl, hb1.trans (hb2.mono hb1.size)⟩
set_option maxRecDepth 100000 in
set_option maxHeartbeats 1000000 in
theorem decRead_err (r : List UInt8) (w : World) (hl : r.length ≤ 1048576) (ha : ∀ n, Lib.atoiAll r ≠ .ok n) (hE : Errs w) :
    Calls Tryz.prog 109 #[.string ⟨r.toArray⟩] w fun e w' => e = .returned (.tuple #[.int .i64 0, .bool false]) ∧ Below w.heap.size w w' := by
  have HA := (show Hid _ from ha)
  clear ha
  go_enter Tryz.func109, Tryz.ntmps109
  go_wp2_with fail
  refine (atoi_no ⟨r.toArray⟩ (by simpa [ByteArray.size] using hl) (by simpa using HA.out) _ hE).mono ?_
  rintro e w1 ⟨v, t, M, rfl, hb1⟩
  go_wp2_with fail
  go_ret2
  exact ⟨rfl, hb1⟩
theorem decRead_no (r : List UInt8) (w : World) (hl : r.length ≤ 1048576) (h : ∀ n, Lib.atoiAll r = .ok n → Lib.itoa n ≠ r) (hT : Tab w) (hE : Errs w) :
    Calls Tryz.prog 109 #[.string ⟨r.toArray⟩] w fun e w' => e = .returned (.tuple #[.int .i64 0, .bool false]) ∧ Below w.heap.size w w' := by
  by_cases hn : ∃ n, Lib.atoiAll r = .ok n
  · obtain ⟨n, ha⟩ := hn
    exact decRead_other r n w hl ha (beq_eq_false_iff_ne.2 (h n ha)) hT
  · exact decRead_err r w hl (fun n ha => hn ⟨n, ha⟩) hE
set_option maxHeartbeats 400000 in
theorem kindOf_any (c : UInt8) (w : World) : Calls Tryz.prog 125 #[.int .u8 (c.toNat : Int)] w fun e w' => e = .returned (.int .i64 (kindL c)) ∧ w' = w := by
  rcases kindL_cases c with ⟨rfl, e⟩ | ⟨rfl, e⟩ | ⟨rfl, e⟩ | ⟨h1, h2, h3, e⟩
  · rw [e]
    go_enter Tryz.func125, Tryz.ntmps125
    go_wp2_with fail
    go_ret
    exact ⟨rfl, rfl⟩
  · rw [e]
    go_enter Tryz.func125, Tryz.ntmps125
    go_wp2_with fail
    go_ret
    exact ⟨rfl, rfl⟩
  · rw [e]
    go_enter Tryz.func125, Tryz.ntmps125
    go_wp2_with fail
    go_ret
    exact ⟨rfl, rfl⟩
  · rw [e]
    have q1 : ((c.toNat : Int) == 110) = false := by simp; intro hh; exact h1 (UInt8.toNat_inj.1 (by show c.toNat = 110; omega))
    have q2 : ((c.toNat : Int) == 97) = false := by simp; intro hh; exact h2 (UInt8.toNat_inj.1 (by show c.toNat = 97; omega))
    have q3 : ((c.toNat : Int) == 114) = false := by simp; intro hh; exact h3 (UInt8.toNat_inj.1 (by show c.toNat = 114; omega))
    go_enter Tryz.func125, Tryz.ntmps125
    go_wp2_with fail
    go_ret
    exact ⟨rfl, rfl⟩

theorem box_after {w w' : World} {a : Nat} {v0 v1 : Value} {t : TypeId} (hb : Below (w.alloc (.cells #[v0, v1] t)).heap.size (w.alloc (.cells #[v0, v1] t)) w') (ha : a = w.heap.size) :
    w'.cell? ⟨a, 0, none⟩ = some v0 ∧ w'.cell? ⟨a, 1, none⟩ = some v1 ∧ w'.frozen? ⟨a, 0, none⟩ = false ∧ w'.frozen? ⟨a, 1, none⟩ = false := by
  subst ha
  obtain ⟨hc, hf⟩ := bcell hb
  exact ⟨by rw [hc _ _ (by simp)]; simp [go_sem], by rw [hc _ _ (by simp)]; simp [go_sem], by rw [hf _ _ (by simp)]; simp [go_sem], by rw [hf _ _ (by simp)]; simp [go_sem]⟩
set_option maxHeartbeats 1000000 in
theorem implRead_none (w : World) :
    Calls Tryz.prog 113 #[.string ⟨([110, 111, 110, 101] : List UInt8).toArray⟩] w fun e w' => e = .returned (.tuple #[.agg #[.int .i64 0, .int .i64 0], .bool true]) ∧ Below w.heap.size w w' := by
  go_enter Tryz.func113, Tryz.ntmps113
  go_wp2_with fail
  exact bodyPost_ret (v := .tuple #[.agg #[.int .i64 0, .int .i64 0], .bool true]) (by simp [results, Tryz.results113, go_sem]) rfl ⟨rfl, (Below.refl _ _).alloc (Nat.le_refl _) _⟩
set_option maxHeartbeats 1000000 in
theorem implRead_empty (w : World) :
    Calls Tryz.prog 113 #[.string ⟨([] : List UInt8).toArray⟩] w fun e w' => e = .returned (.tuple #[.agg #[.int .i64 0, .int .i64 0], .bool false]) ∧ Below w.heap.size w w' := by
  go_enter Tryz.func113, Tryz.ntmps113
  go_wp2_with fail
  exact bodyPost_ret (v := .tuple #[.agg #[.int .i64 0, .int .i64 0], .bool false]) (by simp [results, Tryz.results113, go_sem]) rfl ⟨rfl, (Below.refl _ _).alloc (Nat.le_refl _) _⟩
/-- whether a letter and what was read behind it are a value -/
def readB (c : UInt8) (b : Bool) (x : Int) : Bool := !(kindL c == 0) && b && okB (kindL c) x
def readV (p : Bool) (k x : Int) : Value := if p = true then .tuple #[.agg #[.int .i64 k, .int .i64 x], .bool true] else .tuple #[.agg #[.int .i64 0, .int .i64 0], .bool false]
theorem readV_true (k x : Int) : readV true k x = .tuple #[.agg #[.int .i64 k, .int .i64 x], .bool true] := rfl
theorem readV_false (k x : Int) : readV false k x = .tuple #[.agg #[.int .i64 0, .int .i64 0], .bool false] := rfl
set_option maxRecDepth 100000 in
set_option maxHeartbeats 2000000 in
theorem implRead_key (c : UInt8) (r : List UInt8) (x : Int) (b : Bool) (w : World) (hl : r.length ≤ 1048576) (hnn : ((c :: r : List UInt8) == [110, 111, 110, 101]) = false) (hT : Tab w) (hE : Errs w)
    (C : Hid (∀ w, Tab w → Errs w → Calls Tryz.prog 109 #[.string ⟨r.toArray⟩] w fun e w' => e = .returned (.tuple #[.int .i64 x, .bool b]) ∧ Below w.heap.size w w')) :
    Calls Tryz.prog 113 #[.string ⟨(c :: r).toArray⟩] w fun e w' => e = .returned (readV (readB c b x) (kindL c) x) ∧ Below w.heap.size w w' := by
  have hT0 := hT.below ((Below.refl _ _).alloc (Nat.le_refl _) (.cells #[.int .i64 0, .int .i64 0] 41))
  have hE0 := hE.below ((Below.refl _ _).alloc (Nat.le_refl _) (.cells #[.int .i64 0, .int .i64 0] 41))
  go_enter Tryz.func113, Tryz.ntmps113
  go_wp2_with fail
  simp only [getElem_mk_cons]
  refine (kindOf_any c _).mono ?_
  rintro e w1 ⟨rfl, hw1⟩
  subst hw1
  go_wp2_with fail
  simp only [extract_mk_tail]
  refine (C.out _ hT0 hE0).mono ?_
  rintro e w2 ⟨rfl, hb2⟩
  obtain ⟨x0, x1, f0, f1⟩ := box_after hb2 rfl
  have hB2 : Below w.heap.size w w2 := ((Below.refl _ _).alloc (Nat.le_refl _) _).trans (hb2.mono (by simp))
  have hz2 := hb2.size
  simp at hz2
  have hlt : w.heap.size < w2.heap.size := by omega
  have hB2' : ∀ v v' o, Below w.heap.size w (((w2.setCell ⟨w.heap.size, 0, none⟩ v).setCell ⟨w.heap.size, 1, none⟩ v').alloc o) := fun v v' o => ((hB2.setCell (by dsimp only; omega) _).setCell (by dsimp only; omega) _).alloc (by simp; omega) _
  clear hT0 hE0 hb2
  by_cases hk : kindL c = 0
  · have hk' : (kindL c == 0) = true := by simp [hk]
    have HF : Hid (readB c b x = false) := by show readB c b x = false; simp [readB, hk]
    go_wp2_with fail
    exact bodyPost_ret (v := .tuple #[.agg #[.int .i64 0, .int .i64 0], .bool false]) (by simp [results, Tryz.results113, go_sem, x0, x1, hlt]) rfl ⟨by rw [HF.out, readV_false], hB2' _ _ _⟩
  · have hk' : (kindL c == 0) = false := by simp [hk]
    cases b with
    | false =>
      have HF : Hid (readB c false x = false) := by show readB c false x = false; simp [readB]
      go_wp2_with fail
      exact bodyPost_ret (v := .tuple #[.agg #[.int .i64 0, .int .i64 0], .bool false]) (by simp [results, Tryz.results113, go_sem, x0, x1, hlt]) rfl ⟨by rw [HF.out, readV_false], hB2' _ _ _⟩
    | true =>
      go_wp2_with fail
      refine (implOk_any _ _ _).mono ?_
      rintro e w3 ⟨rfl, hb3⟩
      obtain ⟨y0, y1, _, _⟩ := box_after hb3 rfl
      have hz3 := hb3.size
      simp at hz3
      have z0 : w3.cell? ⟨w.heap.size, 0, none⟩ = some (.int .i64 0) := by rw [hb3.cell (p := ⟨w.heap.size, 0, none⟩) (by (try simp) <;> omega), World.cell?_alloc_past _ _ _ hlt]; exact x0
      have z1 : w3.cell? ⟨w.heap.size, 1, none⟩ = some (.int .i64 0) := by rw [hb3.cell (p := ⟨w.heap.size, 1, none⟩) (by (try simp) <;> omega), World.cell?_alloc_past _ _ _ hlt]; exact x1
      have z2 : w3.frozen? ⟨w.heap.size, 0, none⟩ = false := by rw [hb3.frozen (p := ⟨w.heap.size, 0, none⟩) (by (try simp) <;> omega), ((Below.refl _ _).alloc (Nat.le_refl _) _).frozen (by dsimp only; omega)]; exact f0
      have z3 : w3.frozen? ⟨w.heap.size, 1, none⟩ = false := by rw [hb3.frozen (p := ⟨w.heap.size, 1, none⟩) (by (try simp) <;> omega), ((Below.refl _ _).alloc (Nat.le_refl _) _).frozen (by dsimp only; omega)]; exact f1
      have hB3 : Below w.heap.size w w3 := (hB2.alloc (by omega) _).trans (hb3.mono (by (try simp) <;> omega))
      clear hb3 x0 x1 f0 f1 hB2' hB2
      cases ho : okB (kindL c) x with
      | false =>
        have HF : Hid (readB c true x = false) := by show readB c true x = false; simp [readB, ho]
        go_wp2_with fail
        exact bodyPost_ret (v := .tuple #[.agg #[.int .i64 0, .int .i64 0], .bool false]) (by simp [results, Tryz.results113, go_sem, z0, z1]) rfl ⟨by rw [HF.out, readV_false], (hB3.setCell (by dsimp only; omega) _).setCell (by dsimp only; omega) _⟩
      | true =>
        have HF : Hid (readB c true x = true) := by show readB c true x = true; simp [readB, ho, hk]
        go_wp2_with fail
        exact bodyPost_ret (v := .tuple #[.agg #[.int .i64 (kindL c), .int .i64 x], .bool true]) (by simp [results, Tryz.results113, go_sem, z0, z1]) rfl ⟨by rw [HF.out, readV_true], (hB3.setCell (by dsimp only; omega) _).setCell (by dsimp only; omega) _⟩
/-- the text of an ok value is read as that value -/
theorem implRead_yes (k n : Int) (w : World) (h : okB k n = true) (hT : Tab w) (hE : Errs w) :
    Calls Tryz.prog 113 #[.string ⟨(txt k n).toArray⟩] w fun e w' => e = .returned (.tuple #[.agg #[.int .i64 k, .int .i64 n], .bool true]) ∧ Below w.heap.size w w' := by
  have hbd := okB_bd h
  by_cases hk : k = 0
  · subst hk
    have hn : n = 0 := by rw [okB_zero] at h; simpa using h
    subst hn
    rw [txt_none h]; exact implRead_none w
  · obtain ⟨c, hc, ht⟩ := txt_letter h hk
    rw [ht]
    have hl := itoa_len n hbd.1 hbd.2
    have hnn : ((c :: Lib.itoa n : List UInt8) == [110, 111, 110, 101]) = false := by
      rw [beq_eq_false_iff_ne]; intro hh; injection hh with _ hh; exact itoa_head n hbd.1 hbd.2 _ hh
    have hr := implRead_key c (Lib.itoa n) n true w (by omega) hnn hT hE (fun w hT _ => decRead_yes (Lib.itoa n) n w (by omega) (atoi_itoa n hbd.1 hbd.2) rfl hT)
    have hB : readB c true n = true := by rw [readB, hc, h]; simp [hk]
    rw [hB, readV_true, hc] at hr
    exact hr
/-- what is no text of an ok value is not read -/
theorem implRead_no (t : List UInt8) (w : World) (hl : t.length ≤ 1048576) (h : ∀ k n, okB k n = true → t ≠ txt k n) (hT : Tab w) (hE : Errs w) :
    Calls Tryz.prog 113 #[.string ⟨t.toArray⟩] w fun e w' => e = .returned (.tuple #[.agg #[.int .i64 0, .int .i64 0], .bool false]) ∧ Below w.heap.size w w' := by
  cases t with
  | nil => exact implRead_empty w
  | cons c r =>
    have hl' : r.length ≤ 1048576 := by simp at hl; omega
    have hnn : ((c :: r : List UInt8) == [110, 111, 110, 101]) = false := by
      rw [beq_eq_false_iff_ne]; intro hh; exact h 0 0 rfl (by rw [hh]; rfl)
    by_cases hd : ∃ n, Lib.atoiAll r = .ok n ∧ Lib.itoa n = r
    · obtain ⟨n, ha, hi⟩ := hd
      have hr := implRead_key c r n true w hl' hnn hT hE (fun w hT _ => decRead_yes r n w hl' ha hi hT)
      have hB : readB c true n = false := by
        rw [Bool.eq_false_iff]
        intro hh
        simp only [readB, Bool.and_true, Bool.and_eq_true, Bool.not_eq_true', beq_eq_false_iff_ne] at hh
        exact h (kindL c) n hh.2 (by rw [txt_of_letter hh.1 hh.2, hi])
      rw [hB, readV_false] at hr
      exact hr
    · have hr := implRead_key c r 0 false w hl' hnn hT hE (fun w hT hE => decRead_no r w hl' (fun n ha hi => hd ⟨n, ha, hi⟩) hT hE)
      have hB : readB c false 0 = false := by simp [readB]
      rw [hB, readV_false] at hr
      exact hr
end Go.Proofs.YtekmjgkjpdhedaaGreatDoor
