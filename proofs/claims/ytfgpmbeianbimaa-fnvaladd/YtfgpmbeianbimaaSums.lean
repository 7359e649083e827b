/-
  Sums of values in one form, and what laws ask of them.
-/
import Derived.Test.YtfgpmbeianbimaaAdd
namespace Go.Proofs.Ytfgpmbeianbimaa
open Go.ChangeShapes Go.WideShapes Go.ChangeAt Go.RowKit Go.Joins
def sumK (k n l m : Int) : Int := if addB k n l m = true then 1 else 0
def sumN (k n l m : Int) : Int := if addB k n l m = true then n + m else 0
theorem specSum (k n l m : Int) (w : World) :
    Calls Try.prog 12 #[.agg #[.int .i64 k, .int .i64 n], .agg #[.int .i64 l, .int .i64 m]] w fun e w' => e = .returned (.tuple #[.agg #[.int .i64 (sumK k n l m), .int .i64 (sumN k n l m)], .bool (addB k n l m)]) ∧ Below w.heap.size w w' := specAdd_any k n l m w
theorem implSum (k n l m : Int) (w : World) :
    Calls Try.prog 13 #[.agg #[.int .i64 k, .int .i64 n], .agg #[.int .i64 l, .int .i64 m]] w fun e w' => e = .returned (.tuple #[.agg #[.int .i64 (sumK k n l m), .int .i64 (sumN k n l m)], .bool (addB k n l m)]) ∧ Below w.heap.size w w' := implAdd_any k n l m w
theorem addB_iff {k n l m : Int} : addB k n l m = true ↔ (k = 1 ∧ -99 ≤ n ∧ n ≤ 99) ∧ (l = 1 ∧ -99 ≤ m ∧ m ≤ 99) ∧ -99 ≤ n + m ∧ n + m ≤ 99 := by
  constructor
  · intro h
    simp only [addB, Bool.and_eq_true] at h
    obtain ⟨⟨h1, h2⟩, h3⟩ := h
    rw [okB_one] at h3
    simp at h3
    exact ⟨numB_bd h1, numB_bd h2, h3.1, h3.2⟩
  · rintro ⟨⟨rfl, h1, h2⟩, ⟨rfl, h3, h4⟩, h5, h6⟩
    simp only [addB, Bool.and_eq_true]
    refine ⟨⟨numB_mk h1 h2, numB_mk h3 h4⟩, ?_⟩
    rw [okB_one]; simp; omega
theorem addB_name (k n : Int) : addB k n 2 1 = false := by
  rw [Bool.eq_false_iff]; intro h; have := addB_iff.1 h; omega
theorem addB_none (l m : Int) : addB 0 0 l m = false := by
  rw [Bool.eq_false_iff]; intro h; have := addB_iff.1 h; omega
theorem addB_neg {k n l m : Int} (h : addB k n l m = true) : addB 1 (-n) 1 (-m) = true := by
  have := addB_iff.1 h; exact addB_iff.2 (by omega)
theorem sumK_yes {k n l m : Int} (h : addB k n l m = true) : sumK k n l m = 1 := if_pos h
theorem sumN_yes {k n l m : Int} (h : addB k n l m = true) : sumN k n l m = n + m := if_pos h
theorem sumK_no {k n l m : Int} (h : addB k n l m = false) : sumK k n l m = 0 := if_neg (by rw [h]; decide)
theorem sumN_no {k n l m : Int} (h : addB k n l m = false) : sumN k n l m = 0 := if_neg (by rw [h]; decide)
theorem addB_comm (k n l m : Int) : addB l m k n = addB k n l m := by
  rw [Bool.eq_iff_iff]
  constructor
  · intro h; have := addB_iff.1 h; exact addB_iff.2 (by omega)
  · intro h; have := addB_iff.1 h; exact addB_iff.2 (by omega)
theorem sumK_comm (k n l m : Int) : sumK l m k n = sumK k n l m := by unfold sumK; rw [addB_comm]
theorem sumN_comm (k n l m : Int) : sumN l m k n = sumN k n l m := by unfold sumN; rw [addB_comm]; by_cases h : addB k n l m = true <;> simp [h]; omega
end Go.Proofs.Ytfgpmbeianbimaa
