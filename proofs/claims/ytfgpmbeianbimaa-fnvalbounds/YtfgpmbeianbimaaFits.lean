/-
  What impl.ValFits and the specification's ValFits answer, for every value and kind.
-/
import Derived.Test.YtfgpmbeianbimaaWalks
namespace Go.Proofs.Ytfgpmbeianbimaa
open Go.ChangeShapes Go.WideShapes Go.ChangeAt Go.RowKit Go.Joins
/-- whether a value is of a kind -/
def fitsB (k n kind : Int) : Bool := okB k n && (kind == 0 || kind == k)
theorem okB_kind {k n : Int} (h : okB k n = true) : 0 ≤ k ∧ k ≤ 3 := by
  by_cases h0 : k = 0
  · omega
  by_cases h1 : k = 1
  · omega
  by_cases h2 : k = 2
  · omega
  by_cases h3 : k = 3
  · omega
  rw [okB_else k n h0 h1 h2 h3] at h; cases h
set_option maxHeartbeats 400000 in
theorem implFits_any (k n kind : Int) (w : World) :
    Calls Try.prog 17 #[.agg #[.int .i64 k, .int .i64 n], .int .i64 kind] w fun e w' => e = .returned (.bool (fitsB k n kind)) ∧ Below w.heap.size w w' := by
  cases hok : okB k n with
  | false =>
    have hfin : Hid (fitsB k n kind = false) := by show fitsB k n kind = false; simp [fitsB, hok]
    go_enter Try.func17, Try.ntmps17
    go_wp2_with (go_at_call 15; refine (implOk_any _ _ _).mono ?_; rintro e w1 ⟨rfl, hb⟩)
    go_ret
    exact ⟨by rw [hfin.out]; rfl, ((Below.refl _ _).alloc (Nat.le_refl _) _).trans (hb.mono (by simp))⟩
  | true =>
    by_cases hz : kind = 0
    · have hfin : Hid (fitsB k n kind = true) := by show fitsB k n kind = true; simp [fitsB, hok, hz]
      subst hz
      go_enter Try.func17, Try.ntmps17
      go_wp2_with (go_at_call 15; refine (implOk_any _ _ _).mono ?_; rintro e w1 ⟨rfl, hb⟩)
      go_ret
      exact ⟨by rw [hfin.out]; rfl, ((Below.refl _ _).alloc (Nat.le_refl _) _).trans (hb.mono (by simp))⟩
    · have hz' : (kind == 0) = false := by simp [hz]
      have hfin : Hid (fitsB k n kind = (kind == k)) := by show fitsB k n kind = (kind == k); simp [fitsB, hok, hz']
      go_enter Try.func17, Try.ntmps17
      go_wp2_with fail
      refine (implOk_any _ _ _).mono ?_
      rintro e w1 ⟨rfl, hb⟩
      obtain ⟨hc, hf⟩ := bcell hb
      go_wp2_with fail
      go_ret
      exact ⟨by rw [hfin.out]; rfl, ((Below.refl _ _).alloc (Nat.le_refl _) _).trans (hb.mono (by simp))⟩
set_option maxHeartbeats 400000 in
theorem l1Fits_any (k n kind : Int) (w : World) :
    Calls Try.prog 29 #[.agg #[.int .i64 k, .int .i64 n], .int .i64 kind] w fun e w' => e = .returned (.bool (kind == 0 || kind == k)) ∧ Below w.heap.size w w' := by
  by_cases hz : kind = 0
  · subst hz
    go_enter Try.func29, Try.ntmps29
    go_wp2_with fail
    go_ret
    exact ⟨rfl, (Below.refl _ _).alloc (Nat.le_refl _) _⟩
  · have hz' : (kind == 0) = false := by simp [hz]
    have hsw : Hid ((kind == 0 || kind == k) = (k == kind)) := by show (kind == 0 || kind == k) = (k == kind); rw [hz', Bool.false_or]; exact Bool.eq_iff_iff.2 (by rw [beq_iff_eq, beq_iff_eq]; exact eq_comm)
    go_enter Try.func29, Try.ntmps29
    go_wp2_with fail
    go_ret
    exact ⟨by rw [hsw.out]; rfl, (Below.refl _ _).alloc (Nat.le_refl _) _⟩
set_option maxHeartbeats 400000 in
theorem specFits_any (k n kind : Int) (w : World) :
    Calls Try.prog 18 #[.agg #[.int .i64 k, .int .i64 n], .int .i64 kind] w fun e w' => e = .returned (.bool (fitsB k n kind)) ∧ Below w.heap.size w w' := by
  cases hok : okB k n with
  | false =>
    have hfin : Hid (fitsB k n kind = false) := by show fitsB k n kind = false; simp [fitsB, hok]
    go_enter Try.func18, Try.ntmps18
    go_wp2_with (go_at_call 14; refine (specOk_any _ _ _).mono ?_; rintro e w1 ⟨rfl, hb⟩)
    go_ret
    exact ⟨by rw [hfin.out]; rfl, ((Below.refl _ _).alloc (Nat.le_refl _) _).trans (hb.mono (by simp))⟩
  | true =>
    have hk := okB_kind hok
    by_cases hin : 0 ≤ kind ∧ kind ≤ 3
    · have hd : (decide (0 ≤ kind) && decide (kind ≤ 3)) = true := by simp; omega
      have hfin : Hid (fitsB k n kind = (kind == 0 || kind == k)) := by show fitsB k n kind = _; simp [fitsB, hok]
      go_enter Try.func18, Try.ntmps18
      go_wp2_with fail
      refine (specOk_any _ _ _).mono ?_
      rintro e w1 ⟨rfl, hb⟩
      obtain ⟨hc, hf⟩ := bcell hb
      go_wp2_with fail
      refine (l6In_any _ _ _ _).mono ?_
      rintro e w2 ⟨rfl, hw2⟩
      subst hw2
      go_wp2_with fail
      refine (l1Fits_any _ _ _ _).mono ?_
      rintro e w3 ⟨rfl, hb3⟩
      go_wp2_with fail
      go_ret
      have := hb.size
      simp at this
      exact ⟨by rw [hfin.out]; rfl, (((Below.refl _ _).alloc (Nat.le_refl _) _).trans (hb.mono (by simp))).trans (hb3.mono (by omega))⟩
    · have hd : (decide (0 ≤ kind) && decide (kind ≤ 3)) = false := by simp; omega
      have hfin : Hid (fitsB k n kind = false) := by show fitsB k n kind = false; simp [fitsB, hok]; omega
      go_enter Try.func18, Try.ntmps18
      go_wp2_with fail
      refine (specOk_any _ _ _).mono ?_
      rintro e w1 ⟨rfl, hb⟩
      go_wp2_with fail
      refine (l6In_any _ _ _ _).mono ?_
      rintro e w2 ⟨rfl, hw2⟩
      subst hw2
      go_wp2_with fail
      go_ret
      exact ⟨by rw [hfin.out]; rfl, ((Below.refl _ _).alloc (Nat.le_refl _) _).trans (hb.mono (by simp))⟩
end Go.Proofs.Ytfgpmbeianbimaa
