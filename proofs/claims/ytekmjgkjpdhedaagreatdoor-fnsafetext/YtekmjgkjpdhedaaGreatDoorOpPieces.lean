/-
  Texts cut at blanks, apart from any program: the pieces, that they join to the text, the pieces of an ok step's text; the library's split and the byte by byte cut are these. No condition.
-/
import Derived.Test.YtekmjgkjpdhedaaGreatDoorOpCut
import Derived.Lib.SplitLaws
import Derived.Lib.Replace
namespace Go.Proofs.YtekmjgkjpdhedaaGreatDoor
/-- the pieces of a text -/
def pcs : List UInt8 → List (List UInt8)
  | [] => [[]]
  | c :: l => if c = 32 then [] :: pcs l else (c :: (pcs l).headD []) :: (pcs l).tail
/-- pieces, with a blank between -/
def joinB : List (List UInt8) → List UInt8
  | [] => []
  | [a] => a
  | a :: b :: r => a ++ 32 :: joinB (b :: r)
theorem pcs_blank (l : List UInt8) : pcs (32 :: l) = [] :: pcs l := by rw [pcs, if_pos rfl]
theorem pcs_other {c : UInt8} (l : List UInt8) (h : c ≠ 32) : pcs (c :: l) = (c :: (pcs l).headD []) :: (pcs l).tail := by rw [pcs, if_neg h]
theorem pcs_some : ∀ t : List UInt8, pcs t ≠ []
  | [] => by simp [pcs]
  | c :: l => by
    by_cases h : c = 32
    · subst h; rw [pcs_blank]; simp
    · rw [pcs_other l h]; simp
theorem pcs_cons (t : List UInt8) : ∃ a r, pcs t = a :: r := by
  cases h : pcs t with
  | nil => exact absurd h (pcs_some t)
  | cons a r => exact ⟨a, r, rfl⟩
theorem join_cons (a : List UInt8) {r : List (List UInt8)} (h : r ≠ []) : joinB (a :: r) = a ++ 32 :: joinB r := by
  cases r with
  | nil => exact absurd rfl h
  | cons b r => rfl
theorem join_pcs : ∀ t : List UInt8, joinB (pcs t) = t
  | [] => rfl
  | c :: l => by
    have ih := join_pcs l
    by_cases h : c = 32
    · subst h; rw [pcs_blank, join_cons _ (pcs_some l), ih]; rfl
    · obtain ⟨a, r, e⟩ := pcs_cons l
      rw [pcs_other l h, e]
      rw [e] at ih
      cases r with
      | nil => simp [joinB] at ih ⊢; exact ih
      | cons b r => simp [joinB] at ih ⊢; exact ih
theorem pcs_nob : ∀ {a : List UInt8}, NoB a → pcs a = [a]
  | [], _ => rfl
  | c :: l, h => by
    rw [pcs_other l (h c (by simp)), pcs_nob (a := l) (fun x hx => h x (by simp [hx]))]; rfl
theorem pcs_app : ∀ {a : List UInt8} (b : List UInt8), NoB a → pcs (a ++ 32 :: b) = a :: pcs b
  | [], b, _ => pcs_blank b
  | c :: l, b, h => by
    rw [List.cons_append, pcs_other _ (h c (by simp)), pcs_app (a := l) b (fun x hx => h x (by simp [hx]))]; rfl
theorem pcs_tail {a : List UInt8} (ha : NoB a) {x : List UInt8} (f : Bool) {u : List UInt8} : pcs (a ++ (part f u ++ x)) = if f = true then a :: pcs (u ++ x) else pcs (a ++ x) := by
  cases f with
  | false => simp [part]
  | true => simp [part, pcs_app _ ha]
theorem pcs_op {k r s t a b : Int} (h : opB k r s t a b = true) : pcs (opTxt k r s t a b) = word k :: (seg (fR k) (Lib.itoa r) ++ (seg (fS k) (Lib.itoa s) ++ (seg (fT k) (Lib.itoa t) ++ seg (fV k) (txt a b)))) := by
  have o := opIs_of h
  have nw := nob_word o.k1 o.k2
  have nr := nob_itoa r (by have := o.r1; omega) (by have := o.r2; omega)
  have ns := nob_itoa s (by have := o.s1; omega) (by have := o.s2; omega)
  have nt := nob_itoa t (by have := o.t1; omega) (by have := o.t2; omega)
  have nv := nob_txt o.v
  rw [opTxt_ok h]
  unfold opTail
  have e0 : ∀ {x : List UInt8} (f : Bool) {u : List UInt8}, NoB x → NoB u → pcs (x ++ part f u) = x :: seg f u := by
    intro x f u hx hu
    cases f with
    | false => simp [part, seg, pcs_nob hx]
    | true => simp [part, seg, pcs_app _ hx, pcs_nob hu]
  have e1 : ∀ {x : List UInt8} (f g : Bool) {u v : List UInt8}, NoB x → NoB u → NoB v → pcs (x ++ (part f u ++ part g v)) = x :: (seg f u ++ seg g v) := by
    intro x f g u v hx hu hv
    rw [pcs_tail hx]
    cases f with
    | false => simp [seg]; rw [e0 g hx hv]; simp [seg]
    | true => simp [seg]; rw [e0 g hu hv]; simp [seg]
  have e2 : ∀ {x : List UInt8} (f g i : Bool) {u v y : List UInt8}, NoB x → NoB u → NoB v → NoB y → pcs (x ++ (part f u ++ (part g v ++ part i y))) = x :: (seg f u ++ (seg g v ++ seg i y)) := by
    intro x f g i u v y hx hu hv hy
    rw [pcs_tail hx]
    cases f with
    | false => simp [seg]; rw [e1 g i hx hv hy]; simp [seg]
    | true => simp [seg]; rw [e1 g i hu hv hy]; simp [seg]
  rw [pcs_tail nw]
  cases hf : fR k with
  | false => simp [seg]; rw [e2 _ _ _ nw ns nt nv]; simp [seg]
  | true => simp [seg]; rw [e2 _ _ _ nr ns nt nv]; simp [seg]
theorem pcs_len : ∀ t : List UInt8, (pcs t).length ≤ t.length + 1 ∧ ∀ x ∈ pcs t, x.length ≤ t.length
  | [] => by simp [pcs]
  | c :: l => by
    obtain ⟨h1, h2⟩ := pcs_len l
    by_cases h : c = 32
    · subst h
      rw [pcs_blank]
      refine ⟨by simp; omega, ?_⟩
      intro x hx
      rcases List.mem_cons.1 hx with rfl | hx
      · simp
      · have := h2 x hx; simp; omega
    · obtain ⟨a, r, e⟩ := pcs_cons l
      rw [pcs_other l h]
      rw [e] at h1 h2 ⊢
      refine ⟨by simp at h1 ⊢; omega, ?_⟩
      intro x hx
      rcases List.mem_cons.1 hx with rfl | hx
      · have := h2 a (by simp); simp; omega
      · have := h2 x (by simp at hx; simp [hx]); simp; omega
/-- the library's split -/
theorem splitK_pcs : ∀ t : List UInt8, Lib.splitK [32] 0 (Lib.count t [32]) t = pcs t
  | [] => by decide
  | c :: l => by
    have ih := splitK_pcs l
    by_cases h : c = 32
    · subst h
      rw [Lib.count_cons_eq, Nat.add_comm, pcs_blank, ← ih]
      have e : Lib.index (32 :: l) [32] = 0 := by simp [Lib.index]
      rw [Lib.splitK, e]; simp
    · rw [Lib.count_cons_ne _ _ _ h, pcs_other l h, ← ih]
      cases hk : Lib.count l [32] with
      | zero => simp [Lib.splitK]
      | succ k =>
        obtain ⟨i, hi⟩ := Lib.index_of_count (s := l) (old := [32]) (by omega)
        have e : Lib.index (c :: l) [32] = (i : Int) + 1 := by
          have hp : ([32] : List UInt8).isPrefixOf (c :: l) = false := by simp [List.isPrefixOf]; exact fun e => h e.symm
          rw [Lib.index, if_neg (by rw [hp]; simp), hi, if_neg (by simp <;> omega)]
        have e1 : ((i : Int) + 1 == -1) = false := by simp <;> omega
        have e2 : ((i : Int) == -1) = false := by simp <;> omega
        have e3 : ((i : Int) + 1).toNat = i + 1 := by omega
        rw [Lib.splitK, Lib.splitK, e, hi, e1, e2, e3]
        simp
/-- the cut byte by byte -/
theorem fold_pcs : ∀ (t : List UInt8) (P : List (List UInt8)) (q : List UInt8), t.foldl cutStep (P ++ [q]) = P ++ ((q ++ (pcs t).headD []) :: (pcs t).tail)
  | [], P, q => by simp [pcs]
  | c :: l, P, q => by
    by_cases h : c = 32
    · subst h
      rw [List.foldl_cons, cutStep_blank, fold_pcs l (P ++ [q]) [], pcs_blank]
      obtain ⟨a, r, e⟩ := pcs_cons l
      simp [e]
    · rw [List.foldl_cons, cutStep_other P q h, fold_pcs l P (q ++ [c]), pcs_other l h]
      simp
theorem cuts_pcs (t : List UInt8) : cuts t = pcs t := by
  have := fold_pcs t [] []
  unfold cuts
  simp at this
  rw [this]
  obtain ⟨a, r, e⟩ := pcs_cons t
  simp [e]
end Go.Proofs.YtekmjgkjpdhedaaGreatDoor
