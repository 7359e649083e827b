/-
  Texts cut at blanks, apart from any program: what the pieces of a step's text are; which kind a word is of. No condition.
-/
import Derived.Test.YtekmjgkjpdhedaaGreatDoorOpText
namespace Go.Proofs.YtekmjgkjpdhedaaGreatDoor
/-- a byte more: a blank begins a new piece, another byte comes behind the last one -/
def cutStep (out : List (List UInt8)) (c : UInt8) : List (List UInt8) := if c = 32 then out ++ [[]] else out.dropLast ++ [out.getLastD [] ++ [c]]
def cuts (t : List UInt8) : List (List UInt8) := t.foldl cutStep [[]]
theorem cutStep_blank (out : List (List UInt8)) : cutStep out 32 = out ++ [[]] := by rw [cutStep, if_pos rfl]
theorem cutStep_other (P : List (List UInt8)) (q : List UInt8) {c : UInt8} (h : c ≠ 32) : cutStep (P ++ [q]) c = P ++ [q ++ [c]] := by
  rw [cutStep, if_neg h]; simp
theorem cutStep_some (out : List (List UInt8)) (c : UInt8) : cutStep out c ≠ [] := by
  unfold cutStep; split <;> simp
theorem cut_nob : ∀ (a : List UInt8) (P : List (List UInt8)) (q : List UInt8), NoB a → a.foldl cutStep (P ++ [q]) = P ++ [q ++ a]
  | [], P, q, _ => by simp
  | c :: a, P, q, h => by
    rw [List.foldl_cons, cutStep_other P q (h c (by simp)), cut_nob a P (q ++ [c]) (fun x hx => h x (by simp [hx]))]
    simp
/-- a piece, or none -/
def seg (b : Bool) (u : List UInt8) : List (List UInt8) := if b = true then [u] else []
theorem cut_part (b : Bool) (u : List UInt8) (P : List (List UInt8)) (h : NoB u) : (part b u).foldl cutStep P = P ++ seg b u := by
  cases b with
  | false => simp [part, seg]
  | true =>
    rw [show part true u = 32 :: u from rfl, List.foldl_cons, cutStep_blank, cut_nob u P [] h]
    simp [seg]
theorem cuts_op {k r s t vk vn : Int} (h : opB k r s t vk vn = true) :
    cuts (opTxt k r s t vk vn) = [word k] ++ seg (fR k) (Lib.itoa r) ++ seg (fS k) (Lib.itoa s) ++ seg (fT k) (Lib.itoa t) ++ seg (fV k) (txt vk vn) := by
  have o := opIs_of h
  have br := o.r1; have br2 := o.r2; have bs := o.s1; have bs2 := o.s2; have bt := o.t1; have bt2 := o.t2
  rw [cuts, opTxt_ok h, opTail, List.foldl_append, List.foldl_append, List.foldl_append, List.foldl_append]
  rw [show ([[]] : List (List UInt8)) = [] ++ [[]] from rfl, cut_nob _ _ _ (nob_word o.k1 o.k2), cut_part _ _ _ (nob_itoa r (by omega) (by omega)), cut_part _ _ _ (nob_itoa s (by omega) (by omega)), cut_part _ _ _ (nob_itoa t (by omega) (by omega)), cut_part _ _ _ (nob_txt o.v)]
  simp
/-- how many pieces, and how long -/
theorem cuts_fold : ∀ (a : List UInt8) (P : List (List UInt8)) (m : Nat), P ≠ [] → (∀ x ∈ P, x.length ≤ m) →
    a.foldl cutStep P ≠ [] ∧ (a.foldl cutStep P).length ≤ P.length + a.length ∧ ∀ x ∈ a.foldl cutStep P, x.length ≤ m + a.length
  | [], P, m, h, hm => ⟨h, by simp, by simpa using hm⟩
  | c :: a, P, m, h, hm => by
    have hp : (cutStep P c).length ≤ P.length + 1 := by
      unfold cutStep; split
      · simp
      · have := List.length_pos_iff.2 h; rw [List.length_append, List.length_dropLast, List.length_singleton]; omega
    have hq : ∀ x ∈ cutStep P c, x.length ≤ m + 1 := by
      intro x hx
      unfold cutStep at hx
      split at hx
      · rcases List.mem_append.1 hx with hx | hx
        · have := hm x hx; omega
        · rw [List.mem_singleton.1 hx]; simp
      · rcases List.mem_append.1 hx with hx | hx
        · have := hm x (List.dropLast_subset _ hx); omega
        · rw [List.mem_singleton.1 hx]
          have : P.getLastD [] ∈ P := by rw [List.getLastD_eq_getLast?, List.getLast?_eq_some_getLast h]; simp
          have := hm _ this
          rw [List.length_append, List.length_singleton]; omega
    obtain ⟨h1, h2, h3⟩ := cuts_fold a (cutStep P c) (m + 1) (cutStep_some P c) hq
    rw [List.foldl_cons]
    refine ⟨h1, ?_, ?_⟩
    · rw [List.length_cons]; omega
    · intro x hx; have := h3 x hx; rw [List.length_cons]; omega
theorem cuts_some (t : List UInt8) : cuts t ≠ [] := (cuts_fold t [[]] 0 (by simp) (by simp)).1
theorem cuts_many (t : List UInt8) : (cuts t).length ≤ t.length + 1 := by have := (cuts_fold t [[]] 0 (by simp) (by simp)).2.1; simp at this; unfold cuts; omega
theorem cuts_long (t : List UInt8) : ∀ x ∈ cuts t, x.length ≤ t.length := by have := (cuts_fold t [[]] 0 (by simp) (by simp)).2.2; simpa [cuts] using this
/-- the kind of a word: the last of the words that it is, as far as i; 0, if it is none -/
def kindUpto (x : List UInt8) : Nat → Int
  | 0 => 0
  | i + 1 => if i ≠ 0 ∧ wordL.getD i [] = x then (i : Int) else kindUpto x i
theorem kindUpto_word : ∀ j : Nat, j < 15 → 1 ≤ j → kindUpto (wordL.getD j []) 15 = (j : Int) := by decide
theorem kindUpto_bd (x : List UInt8) : ∀ i, 0 ≤ kindUpto x i ∧ (kindUpto x i ≤ (i : Int) - 1 ∨ kindUpto x i = 0)
  | 0 => ⟨Int.le_refl 0, .inr rfl⟩
  | i + 1 => by
    have := kindUpto_bd x i
    unfold kindUpto
    split
    · omega
    · omega
theorem kind_word {k : Int} (h1 : 1 ≤ k) (h2 : k ≤ 14) : kindUpto (word k) 15 = k := by
  have := kindUpto_word k.toNat (by omega) (by omega); unfold word; omega
end Go.Proofs.YtekmjgkjpdhedaaGreatDoor
