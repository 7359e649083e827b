/-
  For every code, FnValStrict answers true: impl.ValRead is the specification's at the drawn text; what is read is ok, and its text is the text that was read. The tables and errors that strconv reads are as their initialisers lay them.
-/
import Derived.Test.YtfgpmbeianbimaaDoorSpecText
import Derived.Test.YtfgpmbeianbimaaDoorRead
import Derived.Test.YtfgpmbeianbimaaDoorSpecRead
import Derived.Test.YtfgpmbeianbimaaDoorDrawRead
import Derived.Test.YtfgpmbeianbimaaDoorFrameErrs
namespace Go.Proofs.YtfgpmbeianbimaaDoor
open Go.ChangeShapes Go.WideShapes Go.ChangeAt Go.RowKit Go.Joins
attribute [local go_sem ↓] Go.wp_at_zero Go.wp_at_succ
namespace ValStrict
set_option maxHeartbeats 2000000 in
theorem walk_in (a0 : Option Addr) (len0 cap0 : Nat) (w : World) (h0 : Code0 w a0 len0 cap0) (hT : Tab w) (hE : Errs w) (hl0 : len0 ≤ 1048576) :
    Calls Tryd.prog 4 #[.slice a0 len0 cap0] w fun e w' => e = .returned (.bool true) ∧ Below w.heap.size w w' := by
  have g0 : ¬ (1048576 : Int) < (len0 : Int) := by omega
  go_enter Tryd.func4, Tryd.ntmps4
  go_wp2_with fail
  refine (drawRead_any a0 len0 cap0 _ h0).mono ?_
  rintro e w1 ⟨t, rfl, htl, hb1⟩
  have hz1 := hb1.size
  have hT1 := hT.below hb1
  have hE1 := hE.below hb1
  by_cases hc : ∃ k n, okB k n = true ∧ t = txt k n
  · obtain ⟨k, n, hok, rfl⟩ := hc
    go_wp2_with fail
    refine (specRead_yes k n _ hok).mono ?_
    rintro e w2 ⟨rfl, hb2⟩
    have hz2 := hb2.size
    have hT2 := (hT1.below hb2).below ((Below.refl _ _).alloc (Nat.le_refl _) (.cells #[.int .i64 k, .int .i64 n] 24))
    have hE2 := (hE1.below hb2).below ((Below.refl _ _).alloc (Nat.le_refl _) (.cells #[.int .i64 k, .int .i64 n] 24))
    have hB2 : Below w.heap.size w w2 := hb1.trans (hb2.mono (by omega))
    clear hb1 hb2 hT1 hE1
    go_wp2_with fail
    refine (implRead_yes k n _ hok hT2 hE2).mono ?_
    rintro e w3 ⟨rfl, hb3⟩
    obtain ⟨hcw3, hfw3⟩ := bcell hb3
    have hzw3 := hb3.size
    try simp at hzw3
    have x0w3 : w3.cell? ⟨w2.heap.size, 0, none⟩ = some (.int .i64 k) := by rw [hcw3 _ _ (by (try simp) <;> omega)]; first | assumption | (rw [World.cell?_alloc_past _ _ _ (by omega)]; assumption) | (rw [World.cell?_alloc_past _ _ _ (by (try simp) <;> omega), World.cell?_alloc_past _ _ _ (by omega)]; assumption) | (simp [go_sem]; done)
    have y0w3 : w3.cell? ⟨w2.heap.size, 1, none⟩ = some (.int .i64 n) := by rw [hcw3 _ _ (by (try simp) <;> omega)]; first | assumption | (rw [World.cell?_alloc_past _ _ _ (by omega)]; assumption) | (rw [World.cell?_alloc_past _ _ _ (by (try simp) <;> omega), World.cell?_alloc_past _ _ _ (by omega)]; assumption) | (simp [go_sem]; done)
    have l0w3 : w2.heap.size < w3.heap.size := by omega
    clear hcw3 hfw3
    have hB3 : Below w.heap.size w w3 := (hB2.alloc (by omega) _).trans (hb3.mono (by (try simp) <;> omega))
    have hT3 := (hT2.below hb3).below ((Below.refl _ _).alloc (Nat.le_refl _) (.cells #[.int .i64 k, .int .i64 n] 24))
    clear hb3 hB2 hT2 hE2
    go_wp2_with fail
    refine (implOk_any _ _ _).mono ?_
    rintro e w4 ⟨rfl, hb4⟩
    obtain ⟨hcw4, hfw4⟩ := bcell hb4
    have hzw4 := hb4.size
    try simp at hzw4
    have x0w4 : w4.cell? ⟨w3.heap.size, 0, none⟩ = some (.int .i64 k) := by rw [hcw4 _ _ (by (try simp) <;> omega)]; first | assumption | (rw [World.cell?_alloc_past _ _ _ (by omega)]; assumption) | (rw [World.cell?_alloc_past _ _ _ (by (try simp) <;> omega), World.cell?_alloc_past _ _ _ (by omega)]; assumption) | (simp [go_sem]; done)
    have y0w4 : w4.cell? ⟨w3.heap.size, 1, none⟩ = some (.int .i64 n) := by rw [hcw4 _ _ (by (try simp) <;> omega)]; first | assumption | (rw [World.cell?_alloc_past _ _ _ (by omega)]; assumption) | (rw [World.cell?_alloc_past _ _ _ (by (try simp) <;> omega), World.cell?_alloc_past _ _ _ (by omega)]; assumption) | (simp [go_sem]; done)
    have l0w4 : w3.heap.size < w4.heap.size := by omega
    clear hcw4 hfw4
    have hB4 : Below w.heap.size w w4 := (hB3.alloc (by omega) _).trans (hb4.mono (by (try simp) <;> omega))
    have hT4 := hT3.below hb4
    clear hb4 hB3 hT3
    rw [hok]
    go_wp2_with fail
    refine (implText_any _ _ _ hT4).mono ?_
    rintro e w5 ⟨rfl, hb5⟩
    go_wp2_with fail
    go_ret
    exact ⟨rfl, hB4.trans (hb5.mono (by omega))⟩
  · have hno : ∀ k n, okB k n = true → t ≠ txt k n := fun k n ho ht => hc ⟨k, n, ho, ht⟩
    have HN := (show Hid _ from hno)
    clear hc hno
    go_wp2_with fail
    refine (specRead_no t _ HN.out).mono ?_
    rintro e w2 ⟨rfl, hb2⟩
    have hz2 := hb2.size
    have hT2 := (hT1.below hb2).below ((Below.refl _ _).alloc (Nat.le_refl _) (.cells #[.int .i64 0, .int .i64 0] 24))
    have hE2 := (hE1.below hb2).below ((Below.refl _ _).alloc (Nat.le_refl _) (.cells #[.int .i64 0, .int .i64 0] 24))
    have hB2 : Below w.heap.size w w2 := hb1.trans (hb2.mono (by omega))
    clear hb1 hb2 hT1 hE1
    go_wp2_with fail
    refine (implRead_no t _ (by omega) HN.out hT2 hE2).mono ?_
    rintro e w3 ⟨rfl, hb3⟩
    obtain ⟨hcw3, hfw3⟩ := bcell hb3
    have hzw3 := hb3.size
    try simp at hzw3
    have x0w3 : w3.cell? ⟨w2.heap.size, 0, none⟩ = some (.int .i64 0) := by rw [hcw3 _ _ (by (try simp) <;> omega)]; first | assumption | (rw [World.cell?_alloc_past _ _ _ (by omega)]; assumption) | (rw [World.cell?_alloc_past _ _ _ (by (try simp) <;> omega), World.cell?_alloc_past _ _ _ (by omega)]; assumption) | (simp [go_sem]; done)
    have y0w3 : w3.cell? ⟨w2.heap.size, 1, none⟩ = some (.int .i64 0) := by rw [hcw3 _ _ (by (try simp) <;> omega)]; first | assumption | (rw [World.cell?_alloc_past _ _ _ (by omega)]; assumption) | (rw [World.cell?_alloc_past _ _ _ (by (try simp) <;> omega), World.cell?_alloc_past _ _ _ (by omega)]; assumption) | (simp [go_sem]; done)
    have l0w3 : w2.heap.size < w3.heap.size := by omega
    clear hcw3 hfw3
    have hB3 : Below w.heap.size w w3 := (hB2.alloc (by omega) _).trans (hb3.mono (by (try simp) <;> omega))
    clear hb3 hB2 hT2 hE2
    go_wp2_with fail
    go_ret
    exact ⟨rfl, hB3.alloc (by omega) _⟩
set_option maxHeartbeats 400000 in
theorem walk (a0 : Option Addr) (len0 cap0 : Nat) (w : World) (h0 : Code0 w a0 len0 cap0) (hT : Tab w) (hE : Errs w) :
    Calls Tryd.prog 4 #[.slice a0 len0 cap0] w fun e w' => e = .returned (.bool true) ∧ Below w.heap.size w w' := by
  by_cases hl0 : len0 ≤ 1048576
  · exact walk_in a0 len0 cap0 w h0 hT hE hl0
  · have g0 : (1048576 : Int) < (len0 : Int) := by omega
    go_enter Tryd.func4, Tryd.ntmps4
    go_wp2_with fail
    go_ret
    exact ⟨rfl, Below.refl _ _⟩

theorem contract (H : Type) (enc : TypeId × Value → H) (W : World) (base : Nat) (args : Array Value) (ds gs : List (DataW H)) (before : List MemPlace)
    (hval : ∀ (j : Nat) t v, Tryd.f4.params[j]? = some t → args[j]? = some v → Value.okWide Tryd.prog W .any base t v)
    (hW : DataW.Whole enc Tryd.prog Tryd.f4.params.toList Rows.fnValStrictSpec.vars false W args.toList ds gs before) (hL : laidMetH Tryd.prog Rows.fnValStrictRow.laid W) :
    Calls Tryd.prog 4 args W fun e W' => ∃ v, e = .returned v ∧ Rows.fnValStrictSpec.post enc Tryd.prog Tryd.f4 false true false false W args v W' := by
  have hT : Tab W := tab_of hL (by kernel_rfl)
  have hE : Errs W := errs_of hL (by kernel_rfl) (by kernel_rfl)
  have hW' := hW
  obtain ⟨p, q, hA0, hV, rfl, hfz, hnd⟩ := hW
  have hA : DataW.TrodAll enc Tryd.prog W 0 (fun _ => true) true Tryd.f4.params.toList args.toList ds p := hA0
  rw [Tryd.params4] at hA hval
  obtain ⟨v0, vs0, d0, ds0, p0, q0, hargs, rfl, rfl, h0, r0⟩ := trodAll_cons hA
  obtain ⟨rfl, rfl, rfl⟩ := trodAll_nil r0
  obtain rfl : args = #[v0] := by cases args; simp_all
  obtain ⟨rfl, rfl⟩ := trodVars_none hV
  obtain ⟨a0, len0, cap0, rfl⟩ := okWide_slice Tryd.underlying22 (hval 0 22 v0 rfl rfl)
  have k0 := h0
  have lt0 : ∀ x ∈ p0, x.block < W.heap.size := by obtain ⟨m, hm⟩ := k0; exact DataW.trod_lt m _ _ _ hm
  have w0 : Code0 W a0 len0 cap0 := by
    obtain ⟨fuel, hf⟩ := h0
    rcases open_ints Tryd.underlying22 Tryd.underlying5 (by kernel_rfl) hf with ⟨hcs, _⟩ | ⟨x, l, c, zs, hcs, _, hl, hm, hz, _, hcell, hwz⟩
    · simp [Value.cells] at hcs
      obtain ⟨rfl, rfl, rfl⟩ := hcs
      exact code_of_row (zs := []) (.inl ⟨rfl, rfl, rfl, rfl⟩)
    · simp [Value.cells] at hcs
      obtain ⟨rfl, rfl, rfl⟩ := hcs
      exact code_of_row (zs := zs) (.inr ⟨_, rfl, hl, hm, by simpa using hz, hcell, hwz⟩)
  clear hA0
  refine (walk a0 len0 cap0 W w0 hT hE).mono fun e W' ⟨he, bel⟩ => ?_
  subst he
  exact ⟨_, rfl, _, _, _, [], _, [], hW', trodAll_mk1 (shut_bool Tryd.underlying4 _), (trodAll_cons_mk (Below.trod laidOut (by kernel_rfl) (of_decide_eq_true (by kernel_rfl)) k0 bel lt0) trodAll_mk0), rfl, bel.frame _, fun h => by cases h⟩
theorem laid_met (os : Os) : laidMet Tryd.prog Rows.fnValStrictRow.laid ((putAll (World.settled Tryd.prog os).heap.size (World.holding Tryd.prog os ⟨errBlocks, #[], []⟩)).forCall (fun _ _ => 0) ⟨#[], #[.slice none 0 0], []⟩).memory :=
  laidMet_of_run' 10 (by kernel_rfl) (by kernel_rfl)
theorem reads (os : Os) {H : Type} (enc : TypeId × Value → H) : ∃ places, DataW.whole enc Tryd.prog ((putAll (World.settled Tryd.prog os).heap.size (World.holding Tryd.prog os ⟨errBlocks, #[], []⟩)).forCall (fun _ _ => 0) ⟨#[], #[.slice none 0 0], []⟩).memory Tryd.f4.params.toList Rows.fnValStrictSpec.vars false #[.slice none 0 0].toList 8 = some ([.nil], [], places) :=
  ⟨[], by kernel_rfl⟩
set_option maxRecDepth 100000 in
theorem lifted (os : Os) (started : os.Started) (H : Type) (enc : TypeId × Value → H) (F : Stop.Interp) :
    ReturnsInHanded {} Tryd.checked os 4 .any ((OpenSpec.ofChange Rows.fnValStrictSpec).preRow enc Tryd.prog Tryd.f4 Rows.fnValStrictRow.domain false Rows.fnValStrictRow.laid) (((OpenSpec.ofChange Rows.fnValStrictSpec).at F).post enc Tryd.prog Tryd.f4 false true false false) := by
  obtain ⟨places, hx⟩ := reads os enc
  refine returnsInHanded_of_row (C := Tryd.checked) (s := OpenSpec.ofChange Rows.fnValStrictSpec) own started (by kernel_rfl) Tryd.func4
    (witness_row_atRef (enc := enc) (C := Tryd.checked) false (putAll (World.settled Tryd.prog os).heap.size (World.holding Tryd.prog os ⟨errBlocks, #[], []⟩)) #[.slice none 0 0] rfl (by kernel_rfl) (by kernel_rfl) (by kernel_rfl)
      (OpenSpec.preRow_of_cond 8 hx (by kernel_rfl) (fun k hk => by cases hk) (by kernel_rfl) (laid_met os))) ?_
  intro W base args ds gs before hval hW _ _ _ hL _ _
  exact contract H enc W base args ds gs before hval hW hL
theorem said : Rows.FnValStrictSaid :=
  OpenClaim.holds_of_cond 4 Tryd.f4 rfl rfl rfl rfl rfl rfl rfl ⟨rfl, rfl, rfl, rfl, rfl⟩ rfl rfl rfl rfl rfl (by kernel_rfl) Tryd.func4 (by kernel_rfl)
    (of_decide_eq_true (by kernel_rfl)) (by unfold Func.isWrapper; first | (rw [if_pos (by decide +kernel)]; kernel_rfl) | (rw [if_neg (by decide +kernel)]; exact ⟨rfl, rfl⟩))
    (fun os started H enc _ F => by rw [OpenClaim.pre_eq_preRow]; exact lifted os started H enc F)
theorem plain (f : FuncId) (fn : Func) (hf : Tryd.pinned.checked.prog.funcNamed Rows.fnValStrictRow.func = some f) (hfn : Tryd.pinned.checked.prog.funcs[f]? = some fn) :
    true = Tryd.pinned.checked.prog.looks [] ∧ ∀ (j : Nat) t, fn.params[j]? = some t → Tryd.pinned.checked.prog.wantsStandIn t = false := by
  obtain rfl : f = 4 := Option.some.inj ((show Tryd.prog.funcNamed Rows.fnValStrictRow.func = some 4 by kernel_rfl).symm.trans hf) |>.symm
  obtain rfl : fn = Tryd.f4 := (Option.some.inj (Tryd.func4.symm.trans hfn)).symm
  refine ⟨by kernel_rfl, fun j t ht => ?_⟩
  rw [Tryd.params4] at ht
  obtain rfl : t = 22 := by simpa using Array.mem_of_getElem? ht
  exact (show Tryd.prog.wantsStandIn 22 = false by kernel_rfl)
theorem card : Rows.FnValStrictCardSaid :=
  Claim7.holds_tied_plain_at .later [] _ _ _ _ said (fun _ h => by cases h) (by kernel_rfl) (fun _ h => by cases h) fnValStrict_row_tie rfl ⟨rfl, rfl⟩ (by kernel_rfl) rfl plain (by kernel_rfl)
end ValStrict

/-- the given statement -/
theorem valStrict_holds : Rows.FnValStrictCardSaid := ValStrict.card
#print axioms valStrict_holds
end Go.Proofs.YtfgpmbeianbimaaDoor
