/-
  For every code, FnValCut answers true: impl.ValText is the specification's at the drawn value; its text without the last byte is read as another value, or as none; with a blank more, and with a nought ahead, as none. The tables and errors that strconv reads are as their initialisers lay them.
-/
import Derived.Test.YtfgpmbeianbimaaDoorSpecText
import Derived.Test.YtfgpmbeianbimaaDoorRead
import Derived.Test.YtfgpmbeianbimaaDoorCutText
import Derived.Test.YtfgpmbeianbimaaDoorDrawOk
import Derived.Test.YtfgpmbeianbimaaDoorFrameErrs
namespace Go.Proofs.YtfgpmbeianbimaaDoor
open Go.ChangeShapes Go.WideShapes Go.ChangeAt Go.RowKit Go.Joins
attribute [local go_sem ↓] Go.wp_at_zero Go.wp_at_succ
namespace ValCut
theorem cat_blank (t : List UInt8) : (ByteArray.mk t.toArray) ++ (ByteArray.mk #[32]) = ⟨(t ++ [32]).toArray⟩ := cat t [32]
theorem drop_last (t : List UInt8) : (ByteArray.mk t.toArray).extract 0 (t.length - 1) = ⟨t.dropLast.toArray⟩ := by
  apply ByteArray.ext
  rw [ByteArray.data_extract]
  apply Array.ext'
  simp [List.dropLast_eq_take]
/-- the text without its last byte is read as another value, or as none -/
theorem cut_some (k n : Int) (h : okB k n = true) : ∃ l m b, (b = true → ¬ (l = k ∧ m = n)) ∧ ∀ w, Tab w → Errs w →
    Calls Tryd.prog 12 #[.string ⟨(txt k n).dropLast.toArray⟩] w fun e w' => e = .returned (.tuple #[.agg #[.int .i64 l, .int .i64 m], .bool b]) ∧ Below w.heap.size w w' := by
  have hl := txt_len h
  by_cases hc : ∃ l m, okB l m = true ∧ (txt k n).dropLast = txt l m
  · obtain ⟨l, m, ho, ht⟩ := hc
    refine ⟨l, m, true, fun _ => txt_drop h ht, fun w hT hE => ?_⟩
    rw [ht]; exact implRead_yes l m w ho hT hE
  · exact ⟨0, 0, false, (fun hh => by cases hh), fun w hT hE => implRead_no _ w (by rw [List.length_dropLast]; omega) (fun l m ho ht => hc ⟨l, m, ho, ht⟩) hT hE⟩
set_option maxHeartbeats 2000000 in
theorem walk_in (a0 : Option Addr) (len0 cap0 : Nat) (w : World) (h0 : Code0 w a0 len0 cap0) (hT : Tab w) (hE : Errs w) (hl0 : len0 ≤ 1048576) :
    Calls Tryd.prog 6 #[.slice a0 len0 cap0] w fun e w' => e = .returned (.bool true) ∧ Below w.heap.size w w' := by
  have g0 : ¬ (1048576 : Int) < (len0 : Int) := by omega
  go_enter Tryd.func6, Tryd.ntmps6
  go_wp2_with fail
  refine (drawText_any a0 len0 cap0 _ h0).mono ?_
  rintro e w1 ⟨k, n, rfl, hkn, hb1⟩
  have hz1 := hb1.size
  have hT1 := (hT.below hb1).below ((Below.refl _ _).alloc (Nat.le_refl _) (.cells #[.int .i64 k, .int .i64 n] 24))
  have hE1 := (hE.below hb1).below ((Below.refl _ _).alloc (Nat.le_refl _) (.cells #[.int .i64 k, .int .i64 n] 24))
  go_wp2_with fail
  refine (implText_any _ _ _ hT1).mono ?_
  rintro e w2 ⟨rfl, hb2⟩
  obtain ⟨hcw2, hfw2⟩ := bcell hb2
  have hzw2 := hb2.size
  try simp at hzw2
  have x0w2 : w2.cell? ⟨w1.heap.size, 0, none⟩ = some (.int .i64 k) := by rw [hcw2 _ _ (by (try simp) <;> omega)]; first | assumption | (rw [World.cell?_alloc_past _ _ _ (by omega)]; assumption) | (rw [World.cell?_alloc_past _ _ _ (by (try simp) <;> omega), World.cell?_alloc_past _ _ _ (by omega)]; assumption) | (simp [go_sem]; done)
  have y0w2 : w2.cell? ⟨w1.heap.size, 1, none⟩ = some (.int .i64 n) := by rw [hcw2 _ _ (by (try simp) <;> omega)]; first | assumption | (rw [World.cell?_alloc_past _ _ _ (by omega)]; assumption) | (rw [World.cell?_alloc_past _ _ _ (by (try simp) <;> omega), World.cell?_alloc_past _ _ _ (by omega)]; assumption) | (simp [go_sem]; done)
  have l0w2 : w1.heap.size < w2.heap.size := by omega
  clear hcw2 hfw2
  have hB2 : Below w.heap.size w w2 := (hb1.alloc hz1 _).trans (hb2.mono (by (try simp) <;> omega))
  have hT2 := hT1.below hb2
  have hE2 := hE1.below hb2
  clear hb1 hb2 hT1 hE1
  go_wp2_with fail
  refine (specText_any _ _ _).mono ?_
  rintro e w3 ⟨rfl, hb3⟩
  obtain ⟨hcw3, hfw3⟩ := bcell hb3
  have hzw3 := hb3.size
  try simp at hzw3
  have x0w3 : w3.cell? ⟨w1.heap.size, 0, none⟩ = some (.int .i64 k) := by rw [hcw3 _ _ (by (try simp) <;> omega)]; first | assumption | (rw [World.cell?_alloc_past _ _ _ (by omega)]; assumption) | (rw [World.cell?_alloc_past _ _ _ (by (try simp) <;> omega), World.cell?_alloc_past _ _ _ (by omega)]; assumption) | (simp [go_sem]; done)
  have y0w3 : w3.cell? ⟨w1.heap.size, 1, none⟩ = some (.int .i64 n) := by rw [hcw3 _ _ (by (try simp) <;> omega)]; first | assumption | (rw [World.cell?_alloc_past _ _ _ (by omega)]; assumption) | (rw [World.cell?_alloc_past _ _ _ (by (try simp) <;> omega), World.cell?_alloc_past _ _ _ (by omega)]; assumption) | (simp [go_sem]; done)
  have l0w3 : w1.heap.size < w3.heap.size := by omega
  clear hcw3 hfw3
  have hB3 : Below w.heap.size w w3 := hB2.trans (hb3.mono (by omega))
  have hT3 := hT2.below hb3
  have hE3 := hE2.below hb3
  clear hb3 hB2 hT2 hE2 x0w2 y0w2
  cases hok : okB k n with
  | false =>
    have t1 := txt_bad hok
    go_wp2_with fail
    refine (specText_any _ _ _).mono ?_
    rintro e w6 ⟨rfl, hb6⟩
    go_wp2_with fail
    go_ret
    exact ⟨by simp, hB3.trans (hb6.mono (by omega))⟩
  | true =>
    have t1 : (txt k n).isEmpty = false := by rw [List.isEmpty_eq_false_iff]; exact txt_some hok
    have tl := txt_len hok
    have tp : 0 < (txt k n).length := List.length_pos_iff.2 (txt_some hok)
    have i1 : (0 : Int) ≤ ((txt k n).length : Int) - 1 := by omega
    have i2 : ((txt k n).length : Int) - 1 ≤ ((txt k n).length : Int) := by omega
    have i3 : (((txt k n).length : Int) - 1).toNat = (txt k n).length - 1 := by omega
    have i4 : ¬ 9223372036854775807 < (txt k n).length + 1 := by omega
    obtain ⟨l, m, b, hne, C⟩ := cut_some k n hok
    have HC := (show Hid _ from C)
    have HN := (show Hid _ from hne)
    clear C hne
    go_wp2_with fail
    simp only [drop_last]
    refine (HC.out _ hT3 hE3).mono ?_
    rintro e w4 ⟨rfl, hb4⟩
    obtain ⟨hcw4, hfw4⟩ := bcell hb4
    have hzw4 := hb4.size
    try simp at hzw4
    have x0w4 : w4.cell? ⟨w1.heap.size, 0, none⟩ = some (.int .i64 k) := by rw [hcw4 _ _ (by (try simp) <;> omega)]; first | assumption | (rw [World.cell?_alloc_past _ _ _ (by omega)]; assumption) | (rw [World.cell?_alloc_past _ _ _ (by (try simp) <;> omega), World.cell?_alloc_past _ _ _ (by omega)]; assumption) | (simp [go_sem]; done)
    have y0w4 : w4.cell? ⟨w1.heap.size, 1, none⟩ = some (.int .i64 n) := by rw [hcw4 _ _ (by (try simp) <;> omega)]; first | assumption | (rw [World.cell?_alloc_past _ _ _ (by omega)]; assumption) | (rw [World.cell?_alloc_past _ _ _ (by (try simp) <;> omega), World.cell?_alloc_past _ _ _ (by omega)]; assumption) | (simp [go_sem]; done)
    have l0w4 : w1.heap.size < w4.heap.size := by omega
    clear hcw4 hfw4
    have hB4 : Below w.heap.size w w4 := hB3.trans (hb4.mono (by omega))
    have hT4 := (hT3.below hb4).below ((Below.refl _ _).alloc (Nat.le_refl _) (.cells #[.int .i64 l, .int .i64 m] 24))
    have hE4 := (hE3.below hb4).below ((Below.refl _ _).alloc (Nat.le_refl _) (.cells #[.int .i64 l, .int .i64 m] 24))
    clear hb4 hB3 hT3 hE3 x0w3 y0w3
    go_wp2_with fail
    simp only [cat_blank]
    refine (implRead_no (txt k n ++ [32]) _ (by rw [List.length_append]; simp; omega) (fun l m ho => txt_last ho (txt k n)) hT4 hE4).mono ?_
    rintro e w5 ⟨rfl, hb5⟩
    obtain ⟨hcw5, hfw5⟩ := bcell hb5
    have hzw5 := hb5.size
    try simp at hzw5
    have x0w5 : w5.cell? ⟨w1.heap.size, 0, none⟩ = some (.int .i64 k) := by rw [hcw5 _ _ (by (try simp) <;> omega)]; first | assumption | (rw [World.cell?_alloc_past _ _ _ (by omega)]; assumption) | (rw [World.cell?_alloc_past _ _ _ (by (try simp) <;> omega), World.cell?_alloc_past _ _ _ (by omega)]; assumption) | (simp [go_sem]; done)
    have y0w5 : w5.cell? ⟨w1.heap.size, 1, none⟩ = some (.int .i64 n) := by rw [hcw5 _ _ (by (try simp) <;> omega)]; first | assumption | (rw [World.cell?_alloc_past _ _ _ (by omega)]; assumption) | (rw [World.cell?_alloc_past _ _ _ (by (try simp) <;> omega), World.cell?_alloc_past _ _ _ (by omega)]; assumption) | (simp [go_sem]; done)
    have x1w5 : w5.cell? ⟨w4.heap.size, 0, none⟩ = some (.int .i64 l) := by rw [hcw5 _ _ (by (try simp) <;> omega)]; first | assumption | (rw [World.cell?_alloc_past _ _ _ (by omega)]; assumption) | (rw [World.cell?_alloc_past _ _ _ (by (try simp) <;> omega), World.cell?_alloc_past _ _ _ (by omega)]; assumption) | (simp [go_sem]; done)
    have y1w5 : w5.cell? ⟨w4.heap.size, 1, none⟩ = some (.int .i64 m) := by rw [hcw5 _ _ (by (try simp) <;> omega)]; first | assumption | (rw [World.cell?_alloc_past _ _ _ (by omega)]; assumption) | (rw [World.cell?_alloc_past _ _ _ (by (try simp) <;> omega), World.cell?_alloc_past _ _ _ (by omega)]; assumption) | (simp [go_sem]; done)
    have l0w5 : w1.heap.size < w5.heap.size := by omega
    have l1w5 : w4.heap.size < w5.heap.size := by omega
    clear hcw5 hfw5
    have hB5 : Below w.heap.size w w5 := (hB4.alloc (by omega) _).trans (hb5.mono (by (try simp) <;> omega))
    have hT5 := (hT4.below hb5).below ((Below.refl _ _).alloc (Nat.le_refl _) (.cells #[.int .i64 0, .int .i64 0] 24))
    have hE5 := (hE4.below hb5).below ((Below.refl _ _).alloc (Nat.le_refl _) (.cells #[.int .i64 0, .int .i64 0] 24))
    clear hb5 hB4 hT4 hE4 x0w4 y0w4
    go_wp2_with fail
    refine (implRead_no [110, 48, 53] _ (by decide) (fun l m ho => txt_05 ho) hT5 hE5).mono ?_
    rintro e w6 ⟨rfl, hb6⟩
    obtain ⟨hcw6, hfw6⟩ := bcell hb6
    have hzw6 := hb6.size
    try simp at hzw6
    have x0w6 : w6.cell? ⟨w1.heap.size, 0, none⟩ = some (.int .i64 k) := by rw [hcw6 _ _ (by (try simp) <;> omega)]; first | assumption | (rw [World.cell?_alloc_past _ _ _ (by omega)]; assumption) | (rw [World.cell?_alloc_past _ _ _ (by (try simp) <;> omega), World.cell?_alloc_past _ _ _ (by omega)]; assumption) | (simp [go_sem]; done)
    have y0w6 : w6.cell? ⟨w1.heap.size, 1, none⟩ = some (.int .i64 n) := by rw [hcw6 _ _ (by (try simp) <;> omega)]; first | assumption | (rw [World.cell?_alloc_past _ _ _ (by omega)]; assumption) | (rw [World.cell?_alloc_past _ _ _ (by (try simp) <;> omega), World.cell?_alloc_past _ _ _ (by omega)]; assumption) | (simp [go_sem]; done)
    have x1w6 : w6.cell? ⟨w4.heap.size, 0, none⟩ = some (.int .i64 l) := by rw [hcw6 _ _ (by (try simp) <;> omega)]; first | assumption | (rw [World.cell?_alloc_past _ _ _ (by omega)]; assumption) | (rw [World.cell?_alloc_past _ _ _ (by (try simp) <;> omega), World.cell?_alloc_past _ _ _ (by omega)]; assumption) | (simp [go_sem]; done)
    have y1w6 : w6.cell? ⟨w4.heap.size, 1, none⟩ = some (.int .i64 m) := by rw [hcw6 _ _ (by (try simp) <;> omega)]; first | assumption | (rw [World.cell?_alloc_past _ _ _ (by omega)]; assumption) | (rw [World.cell?_alloc_past _ _ _ (by (try simp) <;> omega), World.cell?_alloc_past _ _ _ (by omega)]; assumption) | (simp [go_sem]; done)
    have l0w6 : w1.heap.size < w6.heap.size := by omega
    have l1w6 : w4.heap.size < w6.heap.size := by omega
    clear hcw6 hfw6
    have hB6 : Below w.heap.size w w6 := (hB5.alloc (by omega) _).trans (hb6.mono (by (try simp) <;> omega))
    clear hb6 hB5 hT5 hE5 x0w5 y0w5 x1w5 y1w5
    cases b with
    | false =>
      go_wp2_with fail
      go_ret
      exact ⟨rfl, hB6.alloc (by omega) _⟩
    | true =>
      by_cases hlk : l = k
      · have hmn : (m == n) = false := by rw [beq_eq_false_iff_ne]; exact fun hh => HN.out rfl ⟨hlk, hh⟩
        subst hlk
        go_wp2_with fail
        all_goals go_ret
        all_goals exact ⟨rfl, hB6.alloc (by omega) _⟩
      · have hlk' : (l == k) = false := by rw [beq_eq_false_iff_ne]; exact hlk
        go_wp2_with fail
        all_goals go_ret
        all_goals exact ⟨rfl, hB6.alloc (by omega) _⟩
set_option maxHeartbeats 400000 in
theorem walk (a0 : Option Addr) (len0 cap0 : Nat) (w : World) (h0 : Code0 w a0 len0 cap0) (hT : Tab w) (hE : Errs w) :
    Calls Tryd.prog 6 #[.slice a0 len0 cap0] w fun e w' => e = .returned (.bool true) ∧ Below w.heap.size w w' := by
  by_cases hl0 : len0 ≤ 1048576
  · exact walk_in a0 len0 cap0 w h0 hT hE hl0
  · have g0 : (1048576 : Int) < (len0 : Int) := by omega
    go_enter Tryd.func6, Tryd.ntmps6
    go_wp2_with fail
    go_ret
    exact ⟨rfl, Below.refl _ _⟩

theorem contract (H : Type) (enc : TypeId × Value → H) (W : World) (base : Nat) (args : Array Value) (ds gs : List (DataW H)) (before : List MemPlace)
    (hval : ∀ (j : Nat) t v, Tryd.f6.params[j]? = some t → args[j]? = some v → Value.okWide Tryd.prog W .any base t v)
    (hW : DataW.Whole enc Tryd.prog Tryd.f6.params.toList Rows.fnValCutSpec.vars false W args.toList ds gs before) (hL : laidMetH Tryd.prog Rows.fnValCutRow.laid W) :
    Calls Tryd.prog 6 args W fun e W' => ∃ v, e = .returned v ∧ Rows.fnValCutSpec.post enc Tryd.prog Tryd.f6 false true false false W args v W' := by
  have hT : Tab W := tab_of hL (by kernel_rfl)
  have hE : Errs W := errs_of hL (by kernel_rfl) (by kernel_rfl)
  have hW' := hW
  obtain ⟨p, q, hA0, hV, rfl, hfz, hnd⟩ := hW
  have hA : DataW.TrodAll enc Tryd.prog W 0 (fun _ => true) true Tryd.f6.params.toList args.toList ds p := hA0
  rw [Tryd.params6] at hA hval
  obtain ⟨v0, vs0, d0, ds0, p0, q0, hargs, rfl, rfl, h0, r0⟩ := trodAll_cons hA
  obtain ⟨rfl, rfl, rfl⟩ := trodAll_nil r0
  obtain rfl : args = #[v0] := by cases args; simp_all
  obtain ⟨rfl, rfl⟩ := trodVars_none hV
  obtain ⟨a0, len0, cap0, rfl⟩ := okWide_slice Tryd.underlying22 (hval 0 22 v0 rfl rfl)
  have k0 := h0
  have lt0 : ∀ x ∈ p0, x.block < W.heap.size := by obtain ⟨m, hm⟩ := k0; exact DataW.trod_lt m _ _ _ hm
  have w0 : Code0 W a0 len0 cap0 := by
    obtain ⟨fuel, hf⟩ := h0
    rcases open_ints Tryd.underlying22 Tryd.underlying5 (by kernel_rfl) hf with ⟨hcs, _⟩ | ⟨x, l, c, zs, hcs, _, hl, hm, hz, _, hcell, hwz⟩
    · simp [Value.cells] at hcs
      obtain ⟨rfl, rfl, rfl⟩ := hcs
      exact code_of_row (zs := []) (.inl ⟨rfl, rfl, rfl, rfl⟩)
    · simp [Value.cells] at hcs
      obtain ⟨rfl, rfl, rfl⟩ := hcs
      exact code_of_row (zs := zs) (.inr ⟨_, rfl, hl, hm, by simpa using hz, hcell, hwz⟩)
  clear hA0
  refine (walk a0 len0 cap0 W w0 hT hE).mono fun e W' ⟨he, bel⟩ => ?_
  subst he
  exact ⟨_, rfl, _, _, _, [], _, [], hW', trodAll_mk1 (shut_bool Tryd.underlying4 _), (trodAll_cons_mk (Below.trod laidOut (by kernel_rfl) (of_decide_eq_true (by kernel_rfl)) k0 bel lt0) trodAll_mk0), rfl, bel.frame _, fun h => by cases h⟩
theorem laid_met (os : Os) : laidMet Tryd.prog Rows.fnValCutRow.laid ((putAll (World.settled Tryd.prog os).heap.size (World.holding Tryd.prog os ⟨errBlocks, #[], []⟩)).forCall (fun _ _ => 0) ⟨#[], #[.slice none 0 0], []⟩).memory :=
  laidMet_of_run' 10 (by kernel_rfl) (by kernel_rfl)
theorem reads (os : Os) {H : Type} (enc : TypeId × Value → H) : ∃ places, DataW.whole enc Tryd.prog ((putAll (World.settled Tryd.prog os).heap.size (World.holding Tryd.prog os ⟨errBlocks, #[], []⟩)).forCall (fun _ _ => 0) ⟨#[], #[.slice none 0 0], []⟩).memory Tryd.f6.params.toList Rows.fnValCutSpec.vars false #[.slice none 0 0].toList 8 = some ([.nil], [], places) :=
  ⟨[], by kernel_rfl⟩
set_option maxRecDepth 100000 in
theorem lifted (os : Os) (started : os.Started) (H : Type) (enc : TypeId × Value → H) (F : Stop.Interp) :
    ReturnsInHanded {} Tryd.checked os 6 .any ((OpenSpec.ofChange Rows.fnValCutSpec).preRow enc Tryd.prog Tryd.f6 Rows.fnValCutRow.domain false Rows.fnValCutRow.laid) (((OpenSpec.ofChange Rows.fnValCutSpec).at F).post enc Tryd.prog Tryd.f6 false true false false) := by
  obtain ⟨places, hx⟩ := reads os enc
  refine returnsInHanded_of_row (C := Tryd.checked) (s := OpenSpec.ofChange Rows.fnValCutSpec) own started (by kernel_rfl) Tryd.func6
    (witness_row_atRef (enc := enc) (C := Tryd.checked) false (putAll (World.settled Tryd.prog os).heap.size (World.holding Tryd.prog os ⟨errBlocks, #[], []⟩)) #[.slice none 0 0] rfl (by kernel_rfl) (by kernel_rfl) (by kernel_rfl)
      (OpenSpec.preRow_of_cond 8 hx (by kernel_rfl) (fun k hk => by cases hk) (by kernel_rfl) (laid_met os))) ?_
  intro W base args ds gs before hval hW _ _ _ hL _ _
  exact contract H enc W base args ds gs before hval hW hL
theorem said : Rows.FnValCutSaid :=
  OpenClaim.holds_of_cond 6 Tryd.f6 rfl rfl rfl rfl rfl rfl rfl ⟨rfl, rfl, rfl, rfl, rfl⟩ rfl rfl rfl rfl rfl (by kernel_rfl) Tryd.func6 (by kernel_rfl)
    (of_decide_eq_true (by kernel_rfl)) (by unfold Func.isWrapper; first | (rw [if_pos (by decide +kernel)]; kernel_rfl) | (rw [if_neg (by decide +kernel)]; exact ⟨rfl, rfl⟩))
    (fun os started H enc _ F => by rw [OpenClaim.pre_eq_preRow]; exact lifted os started H enc F)
theorem plain (f : FuncId) (fn : Func) (hf : Tryd.pinned.checked.prog.funcNamed Rows.fnValCutRow.func = some f) (hfn : Tryd.pinned.checked.prog.funcs[f]? = some fn) :
    true = Tryd.pinned.checked.prog.looks [] ∧ ∀ (j : Nat) t, fn.params[j]? = some t → Tryd.pinned.checked.prog.wantsStandIn t = false := by
  obtain rfl : f = 6 := Option.some.inj ((show Tryd.prog.funcNamed Rows.fnValCutRow.func = some 6 by kernel_rfl).symm.trans hf) |>.symm
  obtain rfl : fn = Tryd.f6 := (Option.some.inj (Tryd.func6.symm.trans hfn)).symm
  refine ⟨by kernel_rfl, fun j t ht => ?_⟩
  rw [Tryd.params6] at ht
  obtain rfl : t = 22 := by simpa using Array.mem_of_getElem? ht
  exact (show Tryd.prog.wantsStandIn 22 = false by kernel_rfl)
theorem card : Rows.FnValCutCardSaid :=
  Claim7.holds_tied_plain_at .later [] _ _ _ _ said (fun _ h => by cases h) (by kernel_rfl) (fun _ h => by cases h) fnValCut_row_tie rfl ⟨rfl, rfl⟩ (by kernel_rfl) rfl plain (by kernel_rfl)
end ValCut

/-- the given statement -/
theorem valCut_holds : Rows.FnValCutCardSaid := ValCut.card
#print axioms valCut_holds
end Go.Proofs.YtfgpmbeianbimaaDoor
