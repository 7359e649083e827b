/-
  What reading a step's words brings, apart from any program: how many parts are behind, and what the words at them are.
-/
import Derived.Test.YtekmjgkjpdhedaaGreatDoorOpPieces
namespace Go.Proofs.YtekmjgkjpdhedaaGreatDoor
/-- how many words were read when j parts were looked at -/
def cntP (k : Int) (j : Nat) : Nat := (if 0 < j then (fR k).toNat else 0) + (if 1 < j then (fS k).toNat else 0) + (if 2 < j then (fT k).toNat else 0) + (if 3 < j then (fV k).toNat else 0)
/-- the j-th part of a form -/
def fP (k : Int) (j : Nat) : Bool := if j = 0 then fR k else if j = 1 then fS k else if j = 2 then fT k else fV k
theorem cntP_zero (k : Int) : cntP k 0 = 0 := by simp [cntP]
theorem cntP_succ (k : Int) (j : Nat) (hj : j < 4) : cntP k (j + 1) = cntP k j + (fP k j).toNat := by
  rcases (by omega : j = 0 ∨ j = 1 ∨ j = 2 ∨ j = 3) with rfl | rfl | rfl | rfl <;> simp [cntP, fP]
theorem cntP_le (k : Int) (j : Nat) : cntP k j ≤ 4 := by
  unfold cntP
  have := Bool.toNat_le (fR k); have := Bool.toNat_le (fS k); have := Bool.toNat_le (fT k); have := Bool.toNat_le (fV k)
  have h0 : (if 0 < j then (fR k).toNat else 0) ≤ 1 := by split <;> omega
  have h1 : (if 1 < j then (fS k).toNat else 0) ≤ 1 := by split <;> omega
  have h2 : (if 2 < j then (fT k).toNat else 0) ≤ 1 := by split <;> omega
  have h3 : (if 3 < j then (fV k).toNat else 0) ≤ 1 := by split <;> omega
  omega
/-- the words of an ok step at their places -/
theorem part_at {P : List (List UInt8)} {k r s t a b : Int} (h : P = word k :: (seg (fR k) (Lib.itoa r) ++ (seg (fS k) (Lib.itoa s) ++ (seg (fT k) (Lib.itoa t) ++ seg (fV k) (txt a b))))) :
    (fR k = true → P[1 + cntP k 0]? = some (Lib.itoa r)) ∧ (fS k = true → P[1 + cntP k 1]? = some (Lib.itoa s)) ∧ (fT k = true → P[1 + cntP k 2]? = some (Lib.itoa t)) ∧ (fV k = true → P[1 + cntP k 3]? = some (txt a b)) := by
  subst h
  unfold cntP
  cases fR k <;> cases fS k <;> cases fT k <;> cases fV k <;> simp [seg]
/-- how far a step is read that may be y: the parts that were looked at are y's -/
structure UpTo (x : List UInt8) (k r s t a b : Int) (j : Nat) : Prop where
  eq : ∀ k' r' s' t' a' b', opB k' r' s' t' a' b' = true → x = opTxt k' r' s' t' a' b' → k' = k ∧ (0 < j → r' = r) ∧ (1 < j → s' = s) ∧ (2 < j → t' = t) ∧ (3 < j → a' = a ∧ b' = b)
  zr : ¬ 0 < j → r = 0
  zs : ¬ 1 < j → s = 0
  zt : ¬ 2 < j → t = 0
  zv : ¬ 3 < j → a = 0 ∧ b = 0
theorem UpTo.start {x : List UInt8} {k : Int} (h : ∀ k' r' s' t' a' b', opB k' r' s' t' a' b' = true → x = opTxt k' r' s' t' a' b' → k' = k) : UpTo x k 0 0 0 0 0 0 :=
  ⟨fun k' r' s' t' a' b' ho e => ⟨h _ _ _ _ _ _ ho e, fun h => by omega, fun h => by omega, fun h => by omega, fun h => by omega⟩, fun _ => rfl, fun _ => rfl, fun _ => rfl, fun _ => ⟨rfl, rfl⟩⟩
theorem UpTo.done {x : List UInt8} {k r s t a b : Int} (h : UpTo x k r s t a b 4) : ∀ k' r' s' t' a' b', opB k' r' s' t' a' b' = true → x = opTxt k' r' s' t' a' b' → k' = k ∧ r' = r ∧ s' = s ∧ t' = t ∧ a' = a ∧ b' = b := by
  intro k' r' s' t' a' b' ho e
  obtain ⟨h1, h2, h3, h4, h5⟩ := h.eq _ _ _ _ _ _ ho e
  exact ⟨h1, h2 (by omega), h3 (by omega), h4 (by omega), (h5 (by omega)).1, (h5 (by omega)).2⟩
/-- a part that the kind has not -/
theorem UpTo.skip {x : List UInt8} {k r s t a b : Int} {j : Nat} (h : UpTo x k r s t a b j) (hj : j < 4) (hf : fP k j = false) : UpTo x k r s t a b (j + 1) := by
  refine ⟨fun k' r' s' t' a' b' ho e => ?_, fun hh => h.zr (by omega), fun hh => h.zs (by omega), fun hh => h.zt (by omega), fun hh => h.zv (by omega)⟩
  obtain ⟨h1, h2, h3, h4, h5⟩ := h.eq _ _ _ _ _ _ ho e
  have o := opIs_of ho
  subst h1
  refine ⟨rfl, fun _ => ?_, fun h' => ?_, fun h' => ?_, fun h' => ?_⟩
  · by_cases e : 0 < j
    · exact h2 e
    · have : j = 0 := by omega
      subst this
      rw [h.zr (by omega)]; exact o.rN (by simpa [fP] using hf)
  · by_cases e : 1 < j
    · exact h3 e
    · have : j = 1 := by omega
      subst this
      rw [h.zs (by omega)]; exact o.sN (by simpa [fP] using hf)
  · by_cases e : 2 < j
    · exact h4 e
    · have : j = 2 := by omega
      subst this
      rw [h.zt (by omega)]; exact o.tN (by simpa [fP] using hf)
  · by_cases e : 3 < j
    · exact h5 e
    · have : j = 3 := by omega
      subst this
      obtain ⟨z1, z2⟩ := h.zv (by omega)
      obtain ⟨v1, v2⟩ := o.vN (by simpa [fP] using hf)
      exact ⟨by omega, by omega⟩
/-- the words of a text that is an ok step's -/
theorem words_at {x : List UInt8} {P : List (List UInt8)} (hP : pcs x = P) {k r s t a b : Int} (ho : opB k r s t a b = true) (e : x = opTxt k r s t a b) :
    (fR k = true → P[1 + cntP k 0]? = some (Lib.itoa r)) ∧ (fS k = true → P[1 + cntP k 1]? = some (Lib.itoa s)) ∧ (fT k = true → P[1 + cntP k 2]? = some (Lib.itoa t)) ∧ (fV k = true → P[1 + cntP k 3]? = some (txt a b)) :=
  part_at (by rw [← hP, e, pcs_op ho])
/-- no word is left for a part: it is no step's text -/
theorem UpTo.none {x : List UInt8} {P : List (List UInt8)} (hP : pcs x = P) {k r s t a b : Int} {j : Nat} (h : UpTo x k r s t a b j) (hj : j < 4) (hf : fP k j = true) (hl : P.length ≤ 1 + cntP k j) :
    ∀ k' r' s' t' a' b', opB k' r' s' t' a' b' = true → x ≠ opTxt k' r' s' t' a' b' := by
  intro k' r' s' t' a' b' ho e
  obtain ⟨h1, _⟩ := h.eq _ _ _ _ _ _ ho e
  subst h1
  obtain ⟨p0, p1, p2, p3⟩ := words_at hP ho e
  have hn : P[1 + cntP k' j]? = Option.none := List.getElem?_eq_none hl
  rcases (by omega : j = 0 ∨ j = 1 ∨ j = 2 ∨ j = 3) with rfl | rfl | rfl | rfl
  · rw [p0 (by simpa [fP] using hf)] at hn; cases hn
  · rw [p1 (by simpa [fP] using hf)] at hn; cases hn
  · rw [p2 (by simpa [fP] using hf)] at hn; cases hn
  · rw [p3 (by simpa [fP] using hf)] at hn; cases hn
theorem UpTo.putR {x : List UInt8} {P : List (List UInt8)} (hP : pcs x = P) {k r s t a b n : Int} (h : UpTo x k r s t a b 0) (hf : fR k = true) (hl : 1 + cntP k 0 < P.length)
    (hn : ∀ m, -99 ≤ m → m ≤ 99 → P[1 + cntP k 0] = Lib.itoa m → n = m) : UpTo x k n s t a b 1 := by
  refine ⟨fun k' r' s' t' a' b' ho e => ?_, fun h' => by omega, fun _ => h.zs (by omega), fun _ => h.zt (by omega), fun _ => h.zv (by omega)⟩
  obtain ⟨h1, h2, h3, h4, h5⟩ := h.eq _ _ _ _ _ _ ho e
  subst h1
  have o := opIs_of ho
  have p0 := (words_at hP ho e).1 hf
  rw [List.getElem?_eq_getElem hl] at p0
  have o1 := o.r1; have o2 := o.r2
  exact ⟨rfl, fun _ => (hn r' (by omega) (by omega) (Option.some.inj p0)).symm, fun h' => by omega, fun h' => by omega, fun h' => by omega⟩
theorem UpTo.putS {x : List UInt8} {P : List (List UInt8)} (hP : pcs x = P) {k r s t a b n : Int} (h : UpTo x k r s t a b 1) (hf : fS k = true) (hl : 1 + cntP k 1 < P.length)
    (hn : ∀ m, -99 ≤ m → m ≤ 99 → P[1 + cntP k 1] = Lib.itoa m → n = m) : UpTo x k r n t a b 2 := by
  refine ⟨fun k' r' s' t' a' b' ho e => ?_, fun h' => by omega, fun h' => by omega, fun _ => h.zt (by omega), fun _ => h.zv (by omega)⟩
  obtain ⟨h1, h2, h3, h4, h5⟩ := h.eq _ _ _ _ _ _ ho e
  subst h1
  have o := opIs_of ho
  have p0 := (words_at hP ho e).2.1 hf
  rw [List.getElem?_eq_getElem hl] at p0
  have o1 := o.s1; have o2 := o.s2
  exact ⟨rfl, fun _ => h2 (by omega), fun _ => (hn s' (by omega) (by omega) (Option.some.inj p0)).symm, fun h' => by omega, fun h' => by omega⟩
theorem UpTo.putT {x : List UInt8} {P : List (List UInt8)} (hP : pcs x = P) {k r s t a b n : Int} (h : UpTo x k r s t a b 2) (hf : fT k = true) (hl : 1 + cntP k 2 < P.length)
    (hn : ∀ m, -99 ≤ m → m ≤ 99 → P[1 + cntP k 2] = Lib.itoa m → n = m) : UpTo x k r s n a b 3 := by
  refine ⟨fun k' r' s' t' a' b' ho e => ?_, fun h' => by omega, fun h' => by omega, fun h' => by omega, fun _ => h.zv (by omega)⟩
  obtain ⟨h1, h2, h3, h4, h5⟩ := h.eq _ _ _ _ _ _ ho e
  subst h1
  have o := opIs_of ho
  have p0 := (words_at hP ho e).2.2.1 hf
  rw [List.getElem?_eq_getElem hl] at p0
  have o1 := o.t1; have o2 := o.t2
  exact ⟨rfl, fun _ => h2 (by omega), fun _ => h3 (by omega), fun _ => (hn t' (by omega) (by omega) (Option.some.inj p0)).symm, fun h' => by omega⟩
theorem UpTo.putV {x : List UInt8} {P : List (List UInt8)} (hP : pcs x = P) {k r s t a b m n : Int} (h : UpTo x k r s t a b 3) (hf : fV k = true) (hl : 1 + cntP k 3 < P.length)
    (hn : ∀ k' n', okB k' n' = true → P[1 + cntP k 3] = txt k' n' → m = k' ∧ n = n') : UpTo x k r s t m n 4 := by
  refine ⟨fun k' r' s' t' a' b' ho e => ?_, fun h' => by omega, fun h' => by omega, fun h' => by omega, fun h' => by omega⟩
  obtain ⟨h1, h2, h3, h4, h5⟩ := h.eq _ _ _ _ _ _ ho e
  subst h1
  have o := opIs_of ho
  have p0 := (words_at hP ho e).2.2.2 hf
  rw [List.getElem?_eq_getElem hl] at p0
  obtain ⟨q1, q2⟩ := hn a' b' o.v (Option.some.inj p0)
  exact ⟨rfl, fun _ => h2 (by omega), fun _ => h3 (by omega), fun _ => h4 (by omega), fun _ => ⟨q1.symm, q2.symm⟩⟩
end Go.Proofs.YtekmjgkjpdhedaaGreatDoor
