/-
  Numerals are read back; what a text of a value is.
-/
import Derived.Test.YtekmjgkjpdhedaaGreatDoorOneText
import Derived.Lib.AtoiTie
namespace Go.Proofs.YtekmjgkjpdhedaaGreatDoor
open Go.ChangeShapes Go.WideShapes Go.ChangeAt Go.RowKit Go.Joins
theorem dig : ∀ u : Nat, u < 10 → Lib.digitVal (UInt8.ofNat (48 + u)) = some u := by decide
theorem dig45 : ∀ u : Nat, u < 10 → (UInt8.ofNat (48 + u) == 45) = false := by decide
theorem dig43 : ∀ u : Nat, u < 10 → (UInt8.ofNat (48 + u) == 43) = false := by decide
theorem decNat_small (u : Nat) (h : u < 100) : Lib.decNat (Lib.decDigits u) = some u := by
  by_cases h10 : u < 10
  · rw [dec_lt10 u h10, Lib.decNat, if_neg (by simp), Lib.decFrom, dig u h10]
    show Lib.decFrom (0 * 10 + u) [] = some u
    rw [Lib.decFrom]; congr 1; omega
  · rw [dec_lt100 u (by omega) h, Lib.decNat, if_neg (by simp), Lib.decFrom, dig (u / 10) (by omega)]
    show Lib.decFrom (0 * 10 + u / 10) [UInt8.ofNat (48 + u % 10)] = some u
    rw [Lib.decFrom, dig (u % 10) (by omega)]
    show Lib.decFrom ((0 * 10 + u / 10) * 10 + u % 10) [] = some u
    rw [Lib.decFrom]; congr 1; omega
theorem dec_head (u : Nat) (h : u < 100) : ∃ b r, Lib.decDigits u = b :: r ∧ (b == 45) = false ∧ (b == 43) = false := by
  by_cases h10 : u < 10
  · exact ⟨_, _, dec_lt10 u h10, dig45 u h10, dig43 u h10⟩
  · exact ⟨_, _, dec_lt100 u (by omega) h, dig45 _ (by omega), dig43 _ (by omega)⟩
theorem atoi_itoa (n : Int) (h1 : -99 ≤ n) (h2 : n ≤ 99) : Lib.atoiAll (Lib.itoa n) = .ok n := by
  have hl := itoa_len n h1 h2
  rw [Lib.atoiAll_short _ (by omega)]
  by_cases h : n < 0
  · rw [itoa_neg n h, itoa_pos (-n) (by omega)]
    show Lib.NumEnd.ofOption (Lib.atoi (45 :: Lib.decDigits (-n).toNat)) = _
    have e : Lib.atoi (45 :: Lib.decDigits (-n).toNat) = some n := by
      rw [Lib.atoi, if_pos (by decide), decNat_small _ (by omega)]
      show some (-((-n).toNat : Int)) = some n
      congr 1; omega
    rw [e]; rfl
  · rw [itoa_pos n (by omega)]
    obtain ⟨b, r, hd, h45, h43⟩ := dec_head n.toNat (by omega)
    have e : Lib.atoi (Lib.decDigits n.toNat) = some n := by
      have hn := decNat_small n.toNat (by omega)
      rw [hd] at hn ⊢
      rw [Lib.atoi, if_neg (by rw [h45]; decide), if_neg (by rw [h43]; decide), hn]
      show some ((n.toNat : Int)) = some n
      congr 1; omega
    rw [e]; rfl
/-- the kind by a letter -/
def kindL (c : UInt8) : Int := if c = 110 then 1 else if c = 97 then 2 else if c = 114 then 3 else 0
theorem kindL_cases (c : UInt8) : (c = 110 ∧ kindL c = 1) ∨ (c = 97 ∧ kindL c = 2) ∨ (c = 114 ∧ kindL c = 3) ∨ (c ≠ 110 ∧ c ≠ 97 ∧ c ≠ 114 ∧ kindL c = 0) := by
  by_cases h1 : c = 110
  · subst h1; exact .inl ⟨rfl, rfl⟩
  by_cases h2 : c = 97
  · subst h2; exact .inr (.inl ⟨rfl, rfl⟩)
  by_cases h3 : c = 114
  · subst h3; exact .inr (.inr (.inl ⟨rfl, rfl⟩))
  exact .inr (.inr (.inr ⟨h1, h2, h3, by simp [kindL, h1, h2, h3]⟩))
/-- what is read with a letter is the text of that value -/
theorem txt_of_letter {c : UInt8} {n : Int} (hk : kindL c ≠ 0) (h : okB (kindL c) n = true) : txt (kindL c) n = c :: Lib.itoa n := by
  rcases kindL_cases c with ⟨rfl, e⟩ | ⟨rfl, e⟩ | ⟨rfl, e⟩ | ⟨_, _, _, e⟩
  · rw [e] at h ⊢; exact txt_num h
  · rw [e] at h ⊢; exact txt_name h
  · rw [e] at h ⊢; exact txt_run h
  · exact absurd e hk
/-- the text of a value that is not nothing: a letter and a numeral -/
theorem txt_letter {k n : Int} (h : okB k n = true) (hk : k ≠ 0) : ∃ c, kindL c = k ∧ txt k n = c :: Lib.itoa n := by
  rcases okB_kinds h with rfl | rfl | rfl | rfl
  · exact absurd rfl hk
  · exact ⟨110, rfl, txt_num h⟩
  · exact ⟨97, rfl, txt_name h⟩
  · exact ⟨114, rfl, txt_run h⟩
end Go.Proofs.YtekmjgkjpdhedaaGreatDoor
