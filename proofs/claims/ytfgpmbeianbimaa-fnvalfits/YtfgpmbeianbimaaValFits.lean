/-
  For every code and every second code, FnValFits answers true: impl.ValFits is the specification's at the drawn value and kind; of kind 0 each ok value is, of another kind just if it is its own, of kind 4 none. No condition.
-/
import Derived.Test.YtfgpmbeianbimaaFits
import Derived.Test.YtfgpmbeianbimaaDrawFits
import Derived.Test.YtfgpmbeianbimaaFrame
namespace Go.Proofs.Ytfgpmbeianbimaa
open Go.ChangeShapes Go.WideShapes Go.ChangeAt Go.RowKit Go.Joins
attribute [local go_sem ↓] Go.wp_at_zero Go.wp_at_succ
namespace ValFits
theorem fits_zero {k n : Int} (h : okB k n = true) : fitsB k n 0 = true := by simp [fitsB, h]
theorem fits_four {k n : Int} : fitsB k n 4 = false := by
  cases h : okB k n with
  | false => simp [fitsB, h]
  | true => have := okB_kind h; simp [fitsB, h]; omega
theorem fits_kind {k n kk : Int} (h : okB k n = true) (h1 : 1 ≤ kk) : fitsB k n kk = (k == kk) := by
  have hz : (kk == 0) = false := by simp; omega
  rw [fitsB, h, hz, Bool.true_and, Bool.false_or]; exact Bool.eq_iff_iff.2 (by rw [beq_iff_eq, beq_iff_eq]; exact eq_comm)
/-- what region 8 keeps -/
abbrev One (b : Nat) (W0 : World) (k n : Int) (w' : World) : Prop := w'.cell? ⟨b, 0, none⟩ = some (.int .i64 k) ∧ w'.cell? ⟨b, 1, none⟩ = some (.int .i64 n) ∧ Below W0.heap.size W0 w'
theorem one_drew {b : Nat} {w W : World} {k n : Int} (h : One b w k n W) : One b w k n W.drew := by
  obtain ⟨h0, h1, h5⟩ := h
  exact ⟨by simpa [go_sem] using h0, by simpa [go_sem] using h1, h5.drew⟩
theorem one_call {b : Nat} {w W w1 : World} {k n : Int} (hz : b < w.heap.size) (h : One b w k n W) (hb : Below W.heap.size W w1) : One b w k n w1 := by
  obtain ⟨h0, h1, h5⟩ := h
  have hc : ∀ b o, b < w.heap.size → w1.cell? ⟨b, o, none⟩ = W.cell? ⟨b, o, none⟩ := fun b o hlt => hb.cell (p := ⟨b, o, none⟩) (Nat.lt_of_lt_of_le hlt h5.size)
  exact ⟨by rw [hc _ _ hz]; exact h0, by rw [hc _ _ hz]; exact h1, h5.trans (hb.mono h5.size)⟩
set_option maxHeartbeats 2000000 in
theorem walk_in (a0 : Option Addr) (len0 cap0 : Nat) (a1 : Option Addr) (len1 cap1 : Nat) (w : World) (h0 : Code0 w a0 len0 cap0) (hl0 : len0 ≤ 1048576) (hl1 : len1 ≤ 1048576) :
    Calls Try.prog 5 #[.slice a0 len0 cap0, .slice a1 len1 cap1] w fun e w' => e = .returned (.bool true) ∧ Below w.heap.size w w' := by
  have g0 : ¬ (1048576 : Int) < (len0 : Int) := by omega
  have g1 : ¬ (1048576 : Int) < (len1 : Int) := by omega
  go_enter Try.func5, Try.ntmps5
  go_wp2_with fail
  refine (drawFits_any a0 len0 cap0 _ h0).mono ?_
  rintro e w1 ⟨k, n, kind, rfl, hkn, hb1⟩
  have hz1 := hb1.size
  go_wp2_with fail
  refine (implFits_any _ _ _ _).mono ?_
  rintro e w2 ⟨rfl, hb2⟩
  obtain ⟨hcw2, hfw2⟩ := bcell hb2
  have hzw2 := hb2.size
  try simp at hzw2
  have x0w2 : w2.cell? ⟨w1.heap.size, 0, none⟩ = some (.int .i64 k) := by rw [hcw2 _ _ (by (try simp) <;> omega)]; first | assumption | (rw [World.cell?_alloc_past _ _ _ (by omega)]; assumption) | (simp [go_sem]; done)
  have y0w2 : w2.cell? ⟨w1.heap.size, 1, none⟩ = some (.int .i64 n) := by rw [hcw2 _ _ (by (try simp) <;> omega)]; first | assumption | (rw [World.cell?_alloc_past _ _ _ (by omega)]; assumption) | (simp [go_sem]; done)
  clear hcw2 hfw2
  go_wp2_with fail
  refine (specFits_any _ _ _ _).mono ?_
  rintro e w3 ⟨rfl, hb3⟩
  obtain ⟨hcw3, hfw3⟩ := bcell hb3
  have hzw3 := hb3.size
  try simp at hzw3
  have x0w3 : w3.cell? ⟨w1.heap.size, 0, none⟩ = some (.int .i64 k) := by rw [hcw3 _ _ (by (try simp) <;> omega)]; first | assumption | (rw [World.cell?_alloc_past _ _ _ (by omega)]; assumption) | (simp [go_sem]; done)
  have y0w3 : w3.cell? ⟨w1.heap.size, 1, none⟩ = some (.int .i64 n) := by rw [hcw3 _ _ (by (try simp) <;> omega)]; first | assumption | (rw [World.cell?_alloc_past _ _ _ (by omega)]; assumption) | (simp [go_sem]; done)
  clear hcw3 hfw3
  go_wp2_with fail
  refine (specOk_any _ _ _).mono ?_
  rintro e w4 ⟨rfl, hb4⟩
  obtain ⟨hcw4, hfw4⟩ := bcell hb4
  have hzw4 := hb4.size
  try simp at hzw4
  have x0w4 : w4.cell? ⟨w1.heap.size, 0, none⟩ = some (.int .i64 k) := by rw [hcw4 _ _ (by (try simp) <;> omega)]; first | assumption | (rw [World.cell?_alloc_past _ _ _ (by omega)]; assumption) | (simp [go_sem]; done)
  have y0w4 : w4.cell? ⟨w1.heap.size, 1, none⟩ = some (.int .i64 n) := by rw [hcw4 _ _ (by (try simp) <;> omega)]; first | assumption | (rw [World.cell?_alloc_past _ _ _ (by omega)]; assumption) | (simp [go_sem]; done)
  clear hcw4 hfw4
  have hB4 : Below w.heap.size w w4 := (((hb1.alloc hz1 _).trans (hb2.mono (by (try simp) <;> omega))).trans (hb3.mono (by omega))).trans (hb4.mono (by omega))
  clear x0w2 y0w2 x0w3 y0w3
  cases hok : okB k n with
  | false =>
    go_wp2_with fail
    refine (specFits_any _ _ _ _).mono ?_
    rintro e w5 ⟨rfl, hb5⟩
    go_wp2_with fail
    go_ret
    exact ⟨by simp, hB4.trans (hb5.mono (by omega))⟩
  | true =>
    have p1 := fits_zero hok
    have p2 := fits_four (k := k) (n := n)
    have e1 : 0 ≤ (len1 : Int) % 3 := by omega
    have e2 : (len1 : Int) % 3 < 3 := by omega
    have p3 := fits_kind (kk := 1 + (len1 : Int) % 3) hok (by omega)
    have i0 : One w1.heap.size w4 k n w4 := ⟨x0w4, y0w4, Below.refl _ _⟩
    have hz0 : w1.heap.size < w4.heap.size := by omega
    clear hb1 hb2 hb3 hb4 hkn
    go_wp2_with fail
    generalize 1 + (len1 : Int) % 3 = kk at *
    generalize w1.heap.size = b at *
    go_region_held3 (fun w' => w'.cell? ⟨b, 0, none⟩ = some (.int .i64 k) ∧ w'.cell? ⟨b, 1, none⟩ = some (.int .i64 n) ∧ Below w4.heap.size w4 w')
      (first | exact one_drew (by assumption) | exact one_call hz0 (by assumption) hb6)
      (first
        | (go_at_call 17; refine (implFits_any _ _ _ _).mono ?_; rintro e w6 ⟨rfl, hb6⟩))
    go_wp2_with fail
    go_ret
    rename_i hh
    exact ⟨rfl, hB4.trans (hh.2.2.mono (by omega))⟩
set_option maxHeartbeats 400000 in
theorem walk (a0 : Option Addr) (len0 cap0 : Nat) (a1 : Option Addr) (len1 cap1 : Nat) (w : World) (h0 : Code0 w a0 len0 cap0) :
    Calls Try.prog 5 #[.slice a0 len0 cap0, .slice a1 len1 cap1] w fun e w' => e = .returned (.bool true) ∧ Below w.heap.size w w' := by
  by_cases hl0 : len0 ≤ 1048576
  · by_cases hl1 : len1 ≤ 1048576
    · exact walk_in a0 len0 cap0 a1 len1 cap1 w h0 hl0 hl1
    · have g0 : ¬ (1048576 : Int) < (len0 : Int) := by omega
      have g1 : (1048576 : Int) < (len1 : Int) := by omega
      go_enter Try.func5, Try.ntmps5
      go_wp2_with fail
      go_ret
      exact ⟨rfl, Below.refl _ _⟩
  · have g0 : (1048576 : Int) < (len0 : Int) := by omega
    go_enter Try.func5, Try.ntmps5
    go_wp2_with fail
    go_ret
    exact ⟨rfl, Below.refl _ _⟩

set_option maxRecDepth 100000 in
theorem lifted (os : Os) (started : os.Started) (H : Type) (enc : TypeId × Value → H) :
    ReturnsInHanded {} Try.checked os 5 .any (Rows.fnValFitsSpec.pre6 enc Try.prog Try.f5 Rows.fnValFitsRow.domain false) (Rows.fnValFitsSpec.post enc Try.prog Try.f5 false true false false) := by
  refine returnsInHanded_of_change (C := Try.checked) own started (by kernel_rfl) Try.func5
    (ChangeSpec.witness6 (enc := enc) (C := Try.checked) false ⟨#[], #[.slice none 0 0, .slice none 0 0], []⟩ 8 (by kernel_rfl) (by kernel_rfl) (by kernel_rfl) (by kernel_rfl)) ?_
  intro W base args ds gs before hval0 hW hcnd _
  have hval : ∀ (j : Nat) t v, Try.f5.params[j]? = some t → args[j]? = some v → Value.okWide Try.prog W .any base t v := hval0
  have hW' := hW
  obtain ⟨p, q, hA0, hV, rfl, hfz, hnd⟩ := hW
  have hA : DataW.TrodAll enc Try.prog W 0 (fun _ => true) true Try.f5.params.toList args.toList ds p := hA0
  rw [Try.params5] at hA hval
  obtain ⟨v0, vs0, d0, ds0, p0, q0, hargs, rfl, rfl, h0, r0⟩ := trodAll_cons hA
  obtain ⟨v1, vs1, d1, ds1, p1, q1, rfl, rfl, rfl, h1, r1⟩ := trodAll_cons r0
  obtain ⟨rfl, rfl, rfl⟩ := trodAll_nil r1
  obtain rfl : args = #[v0, v1] := by cases args; simp_all
  obtain ⟨rfl, rfl⟩ := trodVars_none hV
  obtain ⟨a0, len0, cap0, rfl⟩ := okWide_slice Try.underlying22 (hval 0 22 v0 rfl rfl)
  have k0 := h0
  have lt0 : ∀ x ∈ p0, x.block < W.heap.size := by obtain ⟨m, hm⟩ := k0; exact DataW.trod_lt m _ _ _ hm
  have w0 : Code0 W a0 len0 cap0 := by
    obtain ⟨fuel, hf⟩ := h0
    rcases open_ints Try.underlying22 Try.underlying5 (by kernel_rfl) hf with ⟨hcs, _⟩ | ⟨x, l, c, zs, hcs, _, hl, hm, hz, _, hcell, hwz⟩
    · simp [Value.cells] at hcs
      obtain ⟨rfl, rfl, rfl⟩ := hcs
      exact code_of_row (zs := []) (.inl ⟨rfl, rfl, rfl, rfl⟩)
    · simp [Value.cells] at hcs
      obtain ⟨rfl, rfl, rfl⟩ := hcs
      exact code_of_row (zs := zs) (.inr ⟨_, rfl, hl, hm, by simpa using hz, hcell, hwz⟩)
  obtain ⟨a1, len1, cap1, rfl⟩ := okWide_slice Try.underlying22 (hval 1 22 v1 rfl rfl)
  have k1 := h1
  have lt1 : ∀ x ∈ p1, x.block < W.heap.size := by obtain ⟨m, hm⟩ := k1; exact DataW.trod_lt m _ _ _ hm
  have w1 : Code0 W a1 len1 cap1 := by
    obtain ⟨fuel, hf⟩ := h1
    rcases open_ints Try.underlying22 Try.underlying5 (by kernel_rfl) hf with ⟨hcs, _⟩ | ⟨x, l, c, zs, hcs, _, hl, hm, hz, _, hcell, hwz⟩
    · simp [Value.cells] at hcs
      obtain ⟨rfl, rfl, rfl⟩ := hcs
      exact code_of_row (zs := []) (.inl ⟨rfl, rfl, rfl, rfl⟩)
    · simp [Value.cells] at hcs
      obtain ⟨rfl, rfl, rfl⟩ := hcs
      exact code_of_row (zs := zs) (.inr ⟨_, rfl, hl, hm, by simpa using hz, hcell, hwz⟩)
  clear hA0 hval0
  refine (walk a0 len0 cap0 a1 len1 cap1 W w0).mono fun e W' ⟨he, bel⟩ => ?_
  subst he
  exact ⟨_, rfl, _, _, _, [], _, [], hW', trodAll_mk1 (shut_bool Try.underlying4 _), (trodAll_cons_mk (Below.trod laidOut (by kernel_rfl) (of_decide_eq_true (by kernel_rfl)) k0 bel lt0) (trodAll_cons_mk (Below.trod laidOut (by kernel_rfl) (of_decide_eq_true (by kernel_rfl)) k1 bel lt1) trodAll_mk0)), rfl, bel.frame _, fun h => by cases h⟩

theorem over : Rows.fnValFitsRow.holds Try.pinned (OpenSpec.ofChange Rows.fnValFitsSpec) :=
  OpenClaim.holds_of_wide 5 Try.f5 rfl rfl rfl rfl rfl rfl rfl ⟨rfl, rfl, rfl, rfl, rfl⟩ rfl rfl rfl rfl rfl (by kernel_rfl) Try.func5 (by kernel_rfl)
    (of_decide_eq_true (by kernel_rfl)) (by unfold Func.isWrapper; first | (rw [if_pos (by decide +kernel)]; kernel_rfl) | (rw [if_neg (by decide +kernel)]; exact ⟨rfl, rfl⟩))
    (fun os started H enc _ => lifted os started H enc)
end ValFits

/-- the given statement -/
theorem valFits_holds : Rows.FnValFitsSaid := ValFits.over
#print axioms valFits_holds
end Go.Proofs.Ytfgpmbeianbimaa
