/-
  Two ok values have the same text just if they are the same.
-/
import Derived.Test.YtekmjgkjpdhedaaGreatDoorText
namespace Go.Proofs.YtekmjgkjpdhedaaGreatDoor
open Go.ChangeShapes Go.WideShapes Go.ChangeAt Go.RowKit Go.Joins
/-- a number out of its numeral, up to two figures -/
def unItoa : List UInt8 → Int
  | [a] => (a.toNat : Int) - 48
  | [a, b] => if a.toNat = 45 then -((b.toNat : Int) - 48) else 10 * ((a.toNat : Int) - 48) + ((b.toNat : Int) - 48)
  | [_, b, c] => -(10 * ((b.toNat : Int) - 48) + ((c.toNat : Int) - 48))
  | _ => 0
theorem fig (u : Nat) (h : u < 10) : (UInt8.ofNat (48 + u)).toNat = 48 + u := by
  rw [UInt8.toNat_ofNat']; omega
theorem unItoa_itoa (n : Int) (h1 : -99 ≤ n) (h2 : n ≤ 99) : unItoa (Lib.itoa n) = n := by
  by_cases h : n < 0
  · rw [itoa_neg n h, itoa_pos (-n) (by omega)]
    by_cases h10 : (-n).toNat < 10
    · rw [dec_lt10 _ h10]
      rw [unItoa, if_pos (by decide), fig _ h10]; omega
    · rw [dec_lt100 _ (by omega) (by omega)]
      show -(10 * (((UInt8.ofNat (48 + (-n).toNat / 10)).toNat : Int) - 48) + (((UInt8.ofNat (48 + (-n).toNat % 10)).toNat : Int) - 48)) = n
      rw [fig _ (by omega), fig _ (by omega)]; omega
  · rw [itoa_pos n (by omega)]
    by_cases h10 : n.toNat < 10
    · rw [dec_lt10 _ h10]
      show ((UInt8.ofNat (48 + n.toNat)).toNat : Int) - 48 = n
      rw [fig _ h10]; omega
    · rw [dec_lt100 _ (by omega) (by omega)]
      rw [unItoa, fig _ (by omega), if_neg (by omega), fig _ (by omega)]; omega
theorem itoa_inj {n m : Int} (h1 : -99 ≤ n) (h2 : n ≤ 99) (h3 : -99 ≤ m) (h4 : m ≤ 99) (h : Lib.itoa n = Lib.itoa m) : n = m := by
  rw [← unItoa_itoa n h1 h2, ← unItoa_itoa m h3 h4, h]
/-- no numeral begins with a letter -/
theorem itoa_head (n : Int) (h1 : -99 ≤ n) (h2 : n ≤ 99) (r : List UInt8) : Lib.itoa n ≠ 111 :: r := by
  intro h
  by_cases hn : n < 0
  · rw [itoa_neg n hn] at h; injection h with h _; exact absurd h (by decide)
  · rw [itoa_pos n (by omega)] at h
    by_cases h10 : n.toNat < 10
    · rw [dec_lt10 _ h10] at h
      injection h with h _
      have := congrArg UInt8.toNat h
      rw [fig _ h10] at this
      have e : (111 : UInt8).toNat = 111 := rfl
      omega
    · rw [dec_lt100 _ (by omega) (by omega)] at h
      injection h with h _
      have := congrArg UInt8.toNat h
      rw [fig _ (by omega)] at this
      have e : (111 : UInt8).toNat = 111 := rfl
      omega
theorem txt_inj {k n l m : Int} (h1 : okB k n = true) (h2 : okB l m = true) (h : txt k n = txt l m) : k = l ∧ n = m := by
  have b1 := okB_bd h1
  have b2 := okB_bd h2
  have d1 : ((110 : UInt8) = 97) = False := by decide
  have d2 : ((110 : UInt8) = 114) = False := by decide
  have d3 : ((97 : UInt8) = 110) = False := by decide
  have d4 : ((97 : UInt8) = 114) = False := by decide
  have d5 : ((114 : UInt8) = 110) = False := by decide
  have d6 : ((114 : UInt8) = 97) = False := by decide
  rcases okB_kinds h1 with rfl | rfl | rfl | rfl <;> rcases okB_kinds h2 with rfl | rfl | rfl | rfl
  · rw [okB_zero] at h1 h2; simp at h1 h2; omega
  · rw [txt_none h1, txt_num h2] at h; injection h with _ h; exact absurd h.symm (itoa_head m b2.1 b2.2 _)
  · rw [txt_none h1, txt_name h2] at h; injection h with h _; exact (d1 ▸ h : False).elim
  · rw [txt_none h1, txt_run h2] at h; injection h with h _; exact (d2 ▸ h : False).elim
  · rw [txt_num h1, txt_none h2] at h; injection h with _ h; exact absurd h (itoa_head n b1.1 b1.2 _)
  · rw [txt_num h1, txt_num h2] at h; injection h with _ h; exact ⟨rfl, itoa_inj b1.1 b1.2 b2.1 b2.2 h⟩
  · rw [txt_num h1, txt_name h2] at h; injection h with h _; exact (d1 ▸ h : False).elim
  · rw [txt_num h1, txt_run h2] at h; injection h with h _; exact (d2 ▸ h : False).elim
  · rw [txt_name h1, txt_none h2] at h; injection h with h _; exact (d3 ▸ h : False).elim
  · rw [txt_name h1, txt_num h2] at h; injection h with h _; exact (d3 ▸ h : False).elim
  · rw [txt_name h1, txt_name h2] at h; injection h with _ h; exact ⟨rfl, itoa_inj b1.1 b1.2 b2.1 b2.2 h⟩
  · rw [txt_name h1, txt_run h2] at h; injection h with h _; exact (d4 ▸ h : False).elim
  · rw [txt_run h1, txt_none h2] at h; injection h with h _; exact (d5 ▸ h : False).elim
  · rw [txt_run h1, txt_num h2] at h; injection h with h _; exact (d5 ▸ h : False).elim
  · rw [txt_run h1, txt_name h2] at h; injection h with h _; exact (d6 ▸ h : False).elim
  · rw [txt_run h1, txt_run h2] at h; injection h with _ h; exact ⟨rfl, itoa_inj b1.1 b1.2 b2.1 b2.2 h⟩
theorem txt_some {k n : Int} (h : okB k n = true) : txt k n ≠ [] := by
  rcases okB_kinds h with rfl | rfl | rfl | rfl
  · rw [txt_none h]; exact List.cons_ne_nil _ _
  · rw [txt_num h]; exact List.cons_ne_nil _ _
  · rw [txt_name h]; exact List.cons_ne_nil _ _
  · rw [txt_run h]; exact List.cons_ne_nil _ _
end Go.Proofs.YtekmjgkjpdhedaaGreatDoor
