/-
  What is cut off a text, or put behind it.
-/
import Derived.Test.YtekmjgkjpdhedaaGreatDoorReadText
namespace Go.Proofs.YtekmjgkjpdhedaaGreatDoor
open Go.ChangeShapes Go.WideShapes Go.ChangeAt Go.RowKit Go.Joins
theorem dec_last : ∀ u : Nat, u < 10 → UInt8.ofNat (48 + u) ≠ 32 := by decide
theorem itoa_last (n : Int) (h1 : -99 ≤ n) (h2 : n ≤ 99) (r : List UInt8) : Lib.itoa n ≠ r ++ [32] := by
  have key : ∀ (u : Nat), u < 100 → ∀ r, Lib.decDigits u ≠ r ++ [32] := by
    intro u hu r h
    by_cases h10 : u < 10
    · rw [dec_lt10 u h10] at h
      have := congrArg List.getLast? h
      simp only [List.getLast?_singleton, List.getLast?_append, Option.some_or, Option.some.injEq] at this
      exact dec_last u h10 this
    · rw [dec_lt100 u (by omega) hu] at h
      have := congrArg List.getLast? h
      simp only [List.getLast?_cons_cons, List.getLast?_singleton, List.getLast?_append, Option.some_or, Option.some.injEq] at this
      exact dec_last (u % 10) (by omega) this
  intro h
  by_cases hn : n < 0
  · rw [itoa_neg n hn, itoa_pos (-n) (by omega)] at h
    cases r with
    | nil =>
      have := congrArg List.head? h
      simp at this
    | cons a r =>
      injection h with _ h
      exact key _ (by omega) r h
  · rw [itoa_pos n (by omega)] at h
    exact key _ (by omega) r h
theorem txt_last {k n : Int} (h : okB k n = true) (t : List UInt8) : t ++ [32] ≠ txt k n := by
  have b := okB_bd h
  intro hh
  by_cases hk : k = 0
  · subst hk
    rw [txt_none h] at hh
    have := congrArg List.getLast? hh
    simp at this
  · obtain ⟨c, _, ht⟩ := txt_letter h hk
    rw [ht] at hh
    cases t with
    | nil =>
      injection hh with _ hh
      have e := itoa_len n b.1 b.2
      have : Lib.itoa n = [] := hh.symm
      by_cases hn : n < 0
      · rw [itoa_neg n hn] at this; cases this
      · rw [itoa_pos n (by omega)] at this
        obtain ⟨x, r, hd, _⟩ := dec_head n.toNat (by omega)
        rw [hd] at this; cases this
    | cons a t =>
      injection hh with _ hh
      exact itoa_last n b.1 b.2 t hh.symm
theorem txt_05 {k n : Int} (h : okB k n = true) : ([110, 48, 53] : List UInt8) ≠ txt k n := by
  have b := okB_bd h
  intro hh
  rcases okB_kinds h with rfl | rfl | rfl | rfl
  · rw [txt_none h] at hh; exact absurd hh (by decide)
  · rw [txt_num h] at hh
    injection hh with _ hh
    have e := unItoa_itoa n b.1 b.2
    rw [← hh] at e
    have : n = 5 := e.symm
    subst this
    rw [itoa_pos 5 (by omega), dec_lt10 _ (by omega)] at hh
    cases hh
  · rw [txt_name h] at hh; injection hh with hh _; exact absurd hh (by decide)
  · rw [txt_run h] at hh; injection hh with hh _; exact absurd hh (by decide)
theorem txt_len {k n : Int} (h : okB k n = true) : (txt k n).length ≤ 4 := by
  have b := okB_bd h
  by_cases hk : k = 0
  · subst hk; rw [txt_none h]; decide
  · obtain ⟨c, _, ht⟩ := txt_letter h hk
    rw [ht, List.length_cons]; have := itoa_len n b.1 b.2; omega
theorem txt_drop {k n l m : Int} (h : okB k n = true) (ht : (txt k n).dropLast = txt l m) : ¬ (l = k ∧ m = n) := by
  rintro ⟨rfl, rfl⟩
  have hl := congrArg List.length ht
  rw [List.length_dropLast] at hl
  have := txt_some h
  have : 0 < (txt l m).length := List.length_pos_iff.2 this
  omega
end Go.Proofs.YtekmjgkjpdhedaaGreatDoor
