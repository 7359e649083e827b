/-
  For every code, FnOpStrict answers true: impl.OpRead answers as the specification's OpRead at the drawn text, and what it reads is ok and has that text. The tables and errors that strconv and utf8 read are as their initialisers lay them.
-/
import Derived.Test.YtcpkfganjndlhaaGreatDoorOpReadUse
import Derived.Test.YtcpkfganjndlhaaGreatDoorOpSpecText
import Derived.Test.YtcpkfganjndlhaaGreatDoorOpImplText
import Derived.Test.YtcpkfganjndlhaaGreatDoorFrameR
import Derived.Test.YtcpkfganjndlhaaGreatDoorDrawOpRead
import Derived.Test.YtcpkfganjndlhaaGreatDoorFcFnOpStrict
namespace Go.Proofs.YtcpkfganjndlhaaGreatDoor
open Go.ChangeShapes Go.WideShapes Go.ChangeAt Go.RowKit Go.Joins
namespace OpStrictL
set_option maxHeartbeats 4000000 in
theorem walk_in (a0 : Option Addr) (len0 cap0 : Nat) (w : World) (h0 : Code0 w a0 len0 cap0) (hT : Tab w) (hE : Errs w) (hM : Max w) (hl0 : len0 ≤ 1048576) :
    Calls Tryz.prog 4 #[.slice a0 len0 cap0] w fun e w' => e = .returned (.bool true) ∧ Below w.heap.size w w' := by
  have g0 : ¬ (1048576 : Int) < (len0 : Int) := by omega
  go_enter Tryz.func4, Tryz.ntmps4
  go_wp2_with fail
  refine (drawOpRead_any a0 len0 cap0 _ h0).mono ?_
  rintro e w1 ⟨x, rfl, hx, hb1⟩
  have hz1 := hb1.size
  replace hT := hT.below hb1
  replace hE := hE.below hb1
  replace hM := hM.below hb1
  have hB1 : Below w.heap.size w w1 := hb1
  clear hb1
  obtain ⟨k, r, s, t, a, b, ok, hr⟩ := read_some x
  replace hr := (show Hid _ from hr)
  go_wp2_with fail
  refine (specRead_of hr.out _ (by omega)).mono ?_
  rintro e w2 ⟨rfl, hb2⟩
  replace hT := (hT.below hb2).below ((Below.refl _ _).alloc (Nat.le_refl _) (.cells #[.int .i64 k, .int .i64 r, .int .i64 s, .int .i64 t, .int .i64 a, .int .i64 b] 26))
  replace hE := (hE.below hb2).below ((Below.refl _ _).alloc (Nat.le_refl _) (.cells #[.int .i64 k, .int .i64 r, .int .i64 s, .int .i64 t, .int .i64 a, .int .i64 b] 26))
  replace hM := (hM.below hb2).below ((Below.refl _ _).alloc (Nat.le_refl _) (.cells #[.int .i64 k, .int .i64 r, .int .i64 s, .int .i64 t, .int .i64 a, .int .i64 b] 26))
  have hz2 := hb2.size
  have hB2 : Below w.heap.size w w2 := hB1.trans (hb2.mono (by omega))
  clear hb2
  go_wp2_with fail
  refine (implRead_of hr.out _ hT hE hM).mono ?_
  rintro e w3 ⟨rfl, hb3⟩
  replace hT := (hT.below hb3).below ((Below.refl _ _).alloc (Nat.le_refl _) (.cells #[.int .i64 k, .int .i64 r, .int .i64 s, .int .i64 t, .int .i64 a, .int .i64 b] 26))
  replace hE := (hE.below hb3).below ((Below.refl _ _).alloc (Nat.le_refl _) (.cells #[.int .i64 k, .int .i64 r, .int .i64 s, .int .i64 t, .int .i64 a, .int .i64 b] 26))
  replace hM := (hM.below hb3).below ((Below.refl _ _).alloc (Nat.le_refl _) (.cells #[.int .i64 k, .int .i64 r, .int .i64 s, .int .i64 t, .int .i64 a, .int .i64 b] 26))
  obtain ⟨hc3, hf3⟩ := bcell hb3
  have hz3 := hb3.size
  try simp at hz3
  have xp0w3 : w3.cell? ⟨w2.heap.size, 0, none⟩ = some (.int .i64 k) := by rw [hc3 _ _ (by (try simp) <;> omega)]; first | assumption | (rw [World.cell?_alloc_past _ _ _ (by omega)]; assumption) | (rw [World.cell?_alloc_past _ _ _ (by (try simp) <;> omega), World.cell?_alloc_past _ _ _ (by omega)]; assumption) | (simp [go_sem]; done)
  have xp1w3 : w3.cell? ⟨w2.heap.size, 1, none⟩ = some (.int .i64 r) := by rw [hc3 _ _ (by (try simp) <;> omega)]; first | assumption | (rw [World.cell?_alloc_past _ _ _ (by omega)]; assumption) | (rw [World.cell?_alloc_past _ _ _ (by (try simp) <;> omega), World.cell?_alloc_past _ _ _ (by omega)]; assumption) | (simp [go_sem]; done)
  have xp2w3 : w3.cell? ⟨w2.heap.size, 2, none⟩ = some (.int .i64 s) := by rw [hc3 _ _ (by (try simp) <;> omega)]; first | assumption | (rw [World.cell?_alloc_past _ _ _ (by omega)]; assumption) | (rw [World.cell?_alloc_past _ _ _ (by (try simp) <;> omega), World.cell?_alloc_past _ _ _ (by omega)]; assumption) | (simp [go_sem]; done)
  have xp3w3 : w3.cell? ⟨w2.heap.size, 3, none⟩ = some (.int .i64 t) := by rw [hc3 _ _ (by (try simp) <;> omega)]; first | assumption | (rw [World.cell?_alloc_past _ _ _ (by omega)]; assumption) | (rw [World.cell?_alloc_past _ _ _ (by (try simp) <;> omega), World.cell?_alloc_past _ _ _ (by omega)]; assumption) | (simp [go_sem]; done)
  have xp4w3 : w3.cell? ⟨w2.heap.size, 4, none⟩ = some (.int .i64 a) := by rw [hc3 _ _ (by (try simp) <;> omega)]; first | assumption | (rw [World.cell?_alloc_past _ _ _ (by omega)]; assumption) | (rw [World.cell?_alloc_past _ _ _ (by (try simp) <;> omega), World.cell?_alloc_past _ _ _ (by omega)]; assumption) | (simp [go_sem]; done)
  have xp5w3 : w3.cell? ⟨w2.heap.size, 5, none⟩ = some (.int .i64 b) := by rw [hc3 _ _ (by (try simp) <;> omega)]; first | assumption | (rw [World.cell?_alloc_past _ _ _ (by omega)]; assumption) | (rw [World.cell?_alloc_past _ _ _ (by (try simp) <;> omega), World.cell?_alloc_past _ _ _ (by omega)]; assumption) | (simp [go_sem]; done)
  have lpw3 : w2.heap.size < w3.heap.size := by omega
  clear hc3 hf3
  have hB3 : Below w.heap.size w w3 := (hB2.alloc (by omega) _).trans (hb3.mono (by (try simp) <;> omega))
  clear hb3 hE hM
  cases ok with
  | false =>
    go_wp2_with fail
    go_ret
    exact ⟨by simp, hB3.alloc (by omega) _⟩
  | true =>
    obtain ⟨ho, rfl⟩ : opB k r s t a b = true ∧ x = opTxt k r s t a b := by
      rcases hr.out with ⟨_, h1, h2⟩ | ⟨h, _⟩
      · exact ⟨h1, h2⟩
      · simp at h
    go_wp2_with fail
    refine (implOpOk_any _ _ _ _ _ _ _).mono ?_
    rintro e w4 ⟨rfl, hb4⟩
    rw [ho]
    replace hT := hT.below hb4
    obtain ⟨hc4, hf4⟩ := bcell hb4
    have hz4 := hb4.size
    try simp at hz4
    have xp0w4 : w4.cell? ⟨w2.heap.size, 0, none⟩ = some (.int .i64 k) := by rw [hc4 _ _ (by (try simp) <;> omega)]; first | assumption | (rw [World.cell?_alloc_past _ _ _ (by omega)]; assumption) | (rw [World.cell?_alloc_past _ _ _ (by (try simp) <;> omega), World.cell?_alloc_past _ _ _ (by omega)]; assumption) | (simp [go_sem]; done)
    have xp1w4 : w4.cell? ⟨w2.heap.size, 1, none⟩ = some (.int .i64 r) := by rw [hc4 _ _ (by (try simp) <;> omega)]; first | assumption | (rw [World.cell?_alloc_past _ _ _ (by omega)]; assumption) | (rw [World.cell?_alloc_past _ _ _ (by (try simp) <;> omega), World.cell?_alloc_past _ _ _ (by omega)]; assumption) | (simp [go_sem]; done)
    have xp2w4 : w4.cell? ⟨w2.heap.size, 2, none⟩ = some (.int .i64 s) := by rw [hc4 _ _ (by (try simp) <;> omega)]; first | assumption | (rw [World.cell?_alloc_past _ _ _ (by omega)]; assumption) | (rw [World.cell?_alloc_past _ _ _ (by (try simp) <;> omega), World.cell?_alloc_past _ _ _ (by omega)]; assumption) | (simp [go_sem]; done)
    have xp3w4 : w4.cell? ⟨w2.heap.size, 3, none⟩ = some (.int .i64 t) := by rw [hc4 _ _ (by (try simp) <;> omega)]; first | assumption | (rw [World.cell?_alloc_past _ _ _ (by omega)]; assumption) | (rw [World.cell?_alloc_past _ _ _ (by (try simp) <;> omega), World.cell?_alloc_past _ _ _ (by omega)]; assumption) | (simp [go_sem]; done)
    have xp4w4 : w4.cell? ⟨w2.heap.size, 4, none⟩ = some (.int .i64 a) := by rw [hc4 _ _ (by (try simp) <;> omega)]; first | assumption | (rw [World.cell?_alloc_past _ _ _ (by omega)]; assumption) | (rw [World.cell?_alloc_past _ _ _ (by (try simp) <;> omega), World.cell?_alloc_past _ _ _ (by omega)]; assumption) | (simp [go_sem]; done)
    have xp5w4 : w4.cell? ⟨w2.heap.size, 5, none⟩ = some (.int .i64 b) := by rw [hc4 _ _ (by (try simp) <;> omega)]; first | assumption | (rw [World.cell?_alloc_past _ _ _ (by omega)]; assumption) | (rw [World.cell?_alloc_past _ _ _ (by (try simp) <;> omega), World.cell?_alloc_past _ _ _ (by omega)]; assumption) | (simp [go_sem]; done)
    have lpw4 : w2.heap.size < w4.heap.size := by omega
    have xq0w4 : w4.cell? ⟨w3.heap.size, 0, none⟩ = some (.int .i64 k) := by rw [hc4 _ _ (by (try simp) <;> omega)]; first | assumption | (rw [World.cell?_alloc_past _ _ _ (by omega)]; assumption) | (rw [World.cell?_alloc_past _ _ _ (by (try simp) <;> omega), World.cell?_alloc_past _ _ _ (by omega)]; assumption) | (simp [go_sem]; done)
    have xq1w4 : w4.cell? ⟨w3.heap.size, 1, none⟩ = some (.int .i64 r) := by rw [hc4 _ _ (by (try simp) <;> omega)]; first | assumption | (rw [World.cell?_alloc_past _ _ _ (by omega)]; assumption) | (rw [World.cell?_alloc_past _ _ _ (by (try simp) <;> omega), World.cell?_alloc_past _ _ _ (by omega)]; assumption) | (simp [go_sem]; done)
    have xq2w4 : w4.cell? ⟨w3.heap.size, 2, none⟩ = some (.int .i64 s) := by rw [hc4 _ _ (by (try simp) <;> omega)]; first | assumption | (rw [World.cell?_alloc_past _ _ _ (by omega)]; assumption) | (rw [World.cell?_alloc_past _ _ _ (by (try simp) <;> omega), World.cell?_alloc_past _ _ _ (by omega)]; assumption) | (simp [go_sem]; done)
    have xq3w4 : w4.cell? ⟨w3.heap.size, 3, none⟩ = some (.int .i64 t) := by rw [hc4 _ _ (by (try simp) <;> omega)]; first | assumption | (rw [World.cell?_alloc_past _ _ _ (by omega)]; assumption) | (rw [World.cell?_alloc_past _ _ _ (by (try simp) <;> omega), World.cell?_alloc_past _ _ _ (by omega)]; assumption) | (simp [go_sem]; done)
    have xq4w4 : w4.cell? ⟨w3.heap.size, 4, none⟩ = some (.int .i64 a) := by rw [hc4 _ _ (by (try simp) <;> omega)]; first | assumption | (rw [World.cell?_alloc_past _ _ _ (by omega)]; assumption) | (rw [World.cell?_alloc_past _ _ _ (by (try simp) <;> omega), World.cell?_alloc_past _ _ _ (by omega)]; assumption) | (simp [go_sem]; done)
    have xq5w4 : w4.cell? ⟨w3.heap.size, 5, none⟩ = some (.int .i64 b) := by rw [hc4 _ _ (by (try simp) <;> omega)]; first | assumption | (rw [World.cell?_alloc_past _ _ _ (by omega)]; assumption) | (rw [World.cell?_alloc_past _ _ _ (by (try simp) <;> omega), World.cell?_alloc_past _ _ _ (by omega)]; assumption) | (simp [go_sem]; done)
    have lqw4 : w3.heap.size < w4.heap.size := by omega
    clear hc4 hf4
    clear xp0w3 xp1w3 xp2w3 xp3w3 xp4w3 xp5w3
    have hB4 : Below w.heap.size w w4 := (hB3.alloc (by omega) _).trans (hb4.mono (by (try simp) <;> omega))
    clear hb4
    go_wp2_with fail
    refine (implOpText_any _ _ _ _ _ _ _ hT).mono ?_
    rintro e w5 ⟨rfl, hb5⟩
    go_wp2_with fail
    go_ret
    exact ⟨by simp, hB4.trans (hb5.mono (by omega))⟩
set_option maxHeartbeats 400000 in
theorem walk (a0 : Option Addr) (len0 cap0 : Nat) (w : World) (h0 : Code0 w a0 len0 cap0) (hT : Tab w) (hE : Errs w) (hM : Max w) :
    Calls Tryz.prog 4 #[.slice a0 len0 cap0] w fun e w' => e = .returned (.bool true) ∧ Below w.heap.size w w' := by
  by_cases hl0 : len0 ≤ 1048576
  · exact walk_in a0 len0 cap0 w h0 hT hE hM hl0
  · have g0 : (1048576 : Int) < (len0 : Int) := by omega
    go_enter Tryz.func4, Tryz.ntmps4
    go_wp2_with fail
    go_ret
    exact ⟨rfl, Below.refl _ _⟩

set_option maxRecDepth 20000 in
theorem contract (H : Type) (enc : TypeId × Value → H) (W : World) (base : Nat) (args : Array Value) (ds gs : List (DataW H)) (before : List MemPlace)
    (hval : ∀ (j : Nat) t v, Tryz.f4.params[j]? = some t → args[j]? = some v → Value.okWide Tryz.prog W .any base t v)
    (hW : DataW.Whole enc Tryz.prog Tryz.f4.params.toList Rows.fnOpStrictSpec.vars false W args.toList ds gs before) (hL : laidMetH Tryz.prog Rows.fnOpStrictRow.laid W) (hO : W.ShapedOpen Tryz.prog) :
    Calls Tryz.prog 4 args W fun e W' => ∃ v, e = .returned v ∧ Rows.fnOpStrictSpec.post enc Tryz.prog Tryz.f4 false true false false W args v W' := by
  have hT : Tab W := tab_of hL (by kernel_rfl)
  have hE : Errs W := errs_of hL (by kernel_rfl) (by kernel_rfl)
  have hM : Max W := laysSplit.s1_3 W hO
  have hW' := hW
  obtain ⟨p, q, hA0, hV, rfl, hfz, hnd⟩ := hW
  have hA : DataW.TrodAll enc Tryz.prog W 0 (fun _ => true) true Tryz.f4.params.toList args.toList ds p := hA0
  rw [Tryz.params4] at hA hval
  obtain ⟨v0, vs0, d0, ds0, p0, q0, hargs, rfl, rfl, h0, r0⟩ := trodAll_cons hA
  obtain ⟨rfl, rfl, rfl⟩ := trodAll_nil r0
  obtain rfl : args = #[v0] := by cases args; simp_all
  obtain ⟨rfl, rfl⟩ := trodVars_none hV
  obtain ⟨a0, len0, cap0, rfl⟩ := okWide_slice Tryz.underlying22 (hval 0 22 v0 rfl rfl)
  have k0 := h0
  have lt0 : ∀ x ∈ p0, x.block < W.heap.size := by obtain ⟨m, hm⟩ := k0; exact DataW.trod_lt m _ _ _ hm
  have w0 : Code0 W a0 len0 cap0 := by
    obtain ⟨fuel, hf⟩ := h0
    rcases open_ints Tryz.underlying22 Tryz.underlying5 (by kernel_rfl) hf with ⟨hcs, _⟩ | ⟨x, l, c, zs, hcs, _, hl, hm, hz, _, hcell, hwz⟩
    · simp [Value.cells] at hcs
      obtain ⟨rfl, rfl, rfl⟩ := hcs
      exact code_of_row (zs := []) (.inl ⟨rfl, rfl, rfl, rfl⟩)
    · simp [Value.cells] at hcs
      obtain ⟨rfl, rfl, rfl⟩ := hcs
      exact code_of_row (zs := zs) (.inr ⟨_, rfl, hl, hm, by simpa using hz, hcell, hwz⟩)
  clear hA0
  refine (walk a0 len0 cap0 W w0 hT hE hM).mono fun e W' ⟨he, bel⟩ => ?_
  subst he
  exact ⟨_, rfl, _, _, _, [], _, [], hW', trodAll_mk1 (shut_bool Tryz.underlying4 _), (trodAll_cons_mk (Below.trod laidOut (by kernel_rfl) (of_decide_eq_true (by kernel_rfl)) k0 bel lt0) trodAll_mk0), rfl, bel.frame _, fun h => by cases h⟩
theorem laid_met (os : Os) : laidMet Tryz.prog Rows.fnOpStrictRow.laid ((putMore (World.settled Tryz.prog os).heap.size (World.holding Tryz.prog os ⟨errBlocks, #[], []⟩)).forCall (fun _ _ => 0) ⟨#[], #[.slice none 0 0], []⟩).memory :=
  laidMet_of_run' 10 (by kernel_rfl) (by kernel_rfl)
theorem reads (os : Os) {H : Type} (enc : TypeId × Value → H) : ∃ places, DataW.whole enc Tryz.prog ((putMore (World.settled Tryz.prog os).heap.size (World.holding Tryz.prog os ⟨errBlocks, #[], []⟩)).forCall (fun _ _ => 0) ⟨#[], #[.slice none 0 0], []⟩).memory Tryz.f4.params.toList Rows.fnOpStrictSpec.vars false #[.slice none 0 0].toList 8 = some ([.nil], [], places) :=
  ⟨[], by kernel_rfl⟩
set_option maxRecDepth 100000 in
theorem lifted (os : Os) (started : os.Started) (H : Type) (enc : TypeId × Value → H) (F : Stop.Interp) :
    ReturnsInHanded {} Tryz.checked os 4 .any ((OpenSpec.ofChange Rows.fnOpStrictSpec).preRow enc Tryz.prog Tryz.f4 Rows.fnOpStrictRow.domain false Rows.fnOpStrictRow.laid) (((OpenSpec.ofChange Rows.fnOpStrictSpec).at F).post enc Tryz.prog Tryz.f4 false true false false) := by
  obtain ⟨places, hx⟩ := reads os enc
  refine returnsInHanded_of_row (C := Tryz.checked) (s := OpenSpec.ofChange Rows.fnOpStrictSpec) own started (by kernel_rfl) Tryz.func4
    (witness_row_atRef (enc := enc) (C := Tryz.checked) false (putMore (World.settled Tryz.prog os).heap.size (World.holding Tryz.prog os ⟨errBlocks, #[], []⟩)) #[.slice none 0 0] rfl (by kernel_rfl) (by kernel_rfl) (by kernel_rfl)
      (OpenSpec.preRow_of_cond 8 hx (by kernel_rfl) (fun k hk => by cases hk) (by kernel_rfl) (laid_met os))) ?_
  intro W base args ds gs before hval hW _ _ _ hL hO _
  exact contract H enc W base args ds gs before hval hW hL hO
set_option maxRecDepth 100000 in
theorem said : Rows.FnOpStrictSaid :=
  OpenClaim.holds_of_cond 4 Tryz.f4 rfl rfl rfl rfl rfl rfl rfl ⟨rfl, rfl, rfl, rfl, rfl⟩ rfl rfl rfl rfl rfl (by kernel_rfl) Tryz.func4 FcFnOpStrict.closed
    (of_decide_eq_true (by kernel_rfl)) (by unfold Func.isWrapper; first | (rw [if_pos (by decide +kernel)]; kernel_rfl) | (rw [if_neg (by decide +kernel)]; exact ⟨rfl, rfl⟩))
    (fun os started H enc _ F => by rw [OpenClaim.pre_eq_preRow]; exact lifted os started H enc F)
theorem plain (f : FuncId) (fn : Func) (hf : Tryz.pinned.checked.prog.funcNamed Rows.fnOpStrictRow.func = some f) (hfn : Tryz.pinned.checked.prog.funcs[f]? = some fn) :
    true = Tryz.pinned.checked.prog.looks [] ∧ ∀ (j : Nat) t, fn.params[j]? = some t → Tryz.pinned.checked.prog.wantsStandIn t = false := by
  obtain rfl : f = 4 := Option.some.inj ((show Tryz.prog.funcNamed Rows.fnOpStrictRow.func = some 4 by kernel_rfl).symm.trans hf) |>.symm
  obtain rfl : fn = Tryz.f4 := (Option.some.inj (Tryz.func4.symm.trans hfn)).symm
  refine ⟨by kernel_rfl, fun j t ht => ?_⟩
  rw [Tryz.params4] at ht
  obtain rfl : t = 22 := by simpa using Array.mem_of_getElem? ht
  exact (show Tryz.prog.wantsStandIn 22 = false by kernel_rfl)
theorem card : Rows.FnOpStrictCardSaid :=
  Claim7.holds_tied_plain_at .later [] _ _ _ _ said (fun _ h => by cases h) (by kernel_rfl) (fun _ h => by cases h) fnOpStrict_row_tie rfl ⟨rfl, rfl⟩ (by kernel_rfl) rfl plain (by kernel_rfl)
end OpStrictL

/-- the given statement -/
theorem opStrictL_holds : Rows.FnOpStrictCardSaid := OpStrictL.card
#print axioms opStrictL_holds
end Go.Proofs.YtcpkfganjndlhaaGreatDoor
