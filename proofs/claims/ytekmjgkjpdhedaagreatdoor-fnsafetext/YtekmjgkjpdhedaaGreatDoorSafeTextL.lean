/-
  For every code, FnSafeText answers true: impl.CodeSafe is the specification's at the drawn steps, and of ok steps what is read of their text is as safe, and as full. The tables, errors and the type of errors that the library reads are as their initialisers lay them.
-/
import Derived.Test.YtekmjgkjpdhedaaGreatDoorZc01
import Derived.Test.YtekmjgkjpdhedaaGreatDoorZd06
import Derived.Test.YtekmjgkjpdhedaaGreatDoorZc05
import Derived.Test.YtekmjgkjpdhedaaGreatDoorZc03
import Derived.Test.YtekmjgkjpdhedaaGreatDoorZc02
import Derived.Test.YtekmjgkjpdhedaaGreatDoorFcFnSafeText
namespace Go.Proofs.YtekmjgkjpdhedaaGreatDoor
open Go.ChangeShapes Go.WideShapes Go.ChangeAt Go.RowKit Go.Joins
namespace SafeTextL
set_option maxRecDepth 20000 in
set_option maxHeartbeats 4000000 in
theorem walk_in (a0 : Option Addr) (len0 cap0 : Nat) (w : World) (h0 : Code0 w a0 len0 cap0) (hT : Tab w) (hE : Errs w) (hM : Max w) (hG : EType w) (hl0 : len0 ≤ 1048576) :
    Calls Tryz.prog 5 #[.slice a0 len0 cap0] w fun e w' => e = .returned (.bool true) ∧ Below w.heap.size w w' := by
  have g0 : ¬ (1048576 : Int) < (len0 : Int) := by omega
  go_enter Tryz.func5, Tryz.ntmps5
  go_wp2_with fail
  refine (drawSafe_any a0 len0 cap0 _ h0).mono ?_
  rintro e w1 ⟨C, v, rfl, hC, hO, hb1⟩
  obtain ⟨ao, cp, rfl, hAt, _⟩ := hO.code
  have hCl : Hid (C.length ≤ 1048576) := by show _ ≤ _; omega
  clear hC hO
  have hz1 := hb1.size
  replace hT := hT.below hb1
  replace hE := hE.below hb1
  replace hM := hM.below hb1
  replace hG := hG.below hb1
  have hB1 : Below w.heap.size w w1 := hb1
  clear hb1
  go_wp2_with fail
  refine (implCodeSafe_any C ao cp _ hCl.out hAt).mono ?_
  rintro e w2 ⟨b, rfl, hS, hb2⟩
  replace hS := (show Hid _ from hS)
  have hz2 := hb2.size
  replace hT := hT.below hb2
  replace hE := hE.below hb2
  replace hM := hM.below hb2
  replace hG := hG.below hb2
  replace hAt := hAt.below hb2
  have hB2 : Below w.heap.size w w2 := hB1.trans (hb2.mono (by omega))
  clear hb2 hB1
  go_wp2_with fail
  refine (specCodeSafe_any C ao cp _ hCl.out hAt).mono ?_
  rintro e w3 ⟨b', rfl, hS', hb3⟩
  obtain rfl := safeOf_one hS.out hS'
  clear hS'
  have hz3 := hb3.size
  replace hT := hT.below hb3
  replace hE := hE.below hb3
  replace hM := hM.below hb3
  replace hG := hG.below hb3
  replace hAt := hAt.below hb3
  have hB3 : Below w.heap.size w w3 := hB2.trans (hb3.mono (by omega))
  clear hb3 hB2
  go_wp2_with fail
  refine (specCodeOk_any C ao cp _ hCl.out hAt).mono ?_
  rintro e w4 ⟨rfl, hb4⟩
  have hz4 := hb4.size
  replace hT := hT.below hb4
  replace hE := hE.below hb4
  replace hM := hM.below hb4
  replace hG := hG.below hb4
  replace hAt := hAt.below hb4
  have hB4 : Below w.heap.size w w4 := hB3.trans (hb4.mono (by omega))
  clear hb4 hB3
  cases hcb : codeB C with
  | false =>
    go_wp2_with fail
    refine (specCodeSafe_any C ao cp _ hCl.out hAt).mono ?_
    rintro e w5 ⟨b', rfl, hS', hb5⟩
    obtain rfl := safeOf_one hS.out hS'
    go_wp2_with fail
    go_ret
    exact ⟨by simp, hB4.trans (hb5.mono (by omega))⟩
  | true =>
    have t1 : codeTxt C = linesOf C := by unfold codeTxt; rw [if_pos hcb]
    have hrd : Hid (∀ D ok, ReadCode (linesOf C) D ok → ok = true ∧ D = C) := fun D ok h => h.of_code hcb rfl
    have hct : Hid (∀ W, CodeAt W ao C → Tab W → Calls Tryz.prog 8 #[.slice ao C.length cp] W fun e w' => e = .returned (.string ⟨(linesOf C).toArray⟩) ∧ Below W.heap.size W w') := fun W h k => by
      have q := implCodeText_any C ao cp W hCl.out h k
      rw [t1] at q
      exact q
    clear hcb t1
    generalize linesOf C = x at *
    go_wp2_with fail
    refine (hct.out _ hAt hT).mono ?_
    rintro e w5 ⟨rfl, hb5⟩
    have hz5 := hb5.size
    replace hT := hT.below hb5
    replace hE := hE.below hb5
    replace hM := hM.below hb5
    replace hG := hG.below hb5
    replace hAt := hAt.below hb5
    have hB5 : Below w.heap.size w w5 := hB4.trans (hb5.mono (by omega))
    clear hb5 hB4
    go_wp2_with fail
    refine (implCodeRead_any x _ hT hE hM hG).mono ?_
    rintro e w6 ⟨D, v1, ok, rfl, hr, hO6, hb6⟩
    obtain ⟨e1, e2⟩ := hrd.out D ok hr
    subst e1 e2
    obtain ⟨bo, bp, rfl, hBt, _⟩ := hO6.code
    have hz6 := hb6.size
    replace hAt := hAt.below hb6
    have hB6 : Below w.heap.size w w6 := hB5.trans (hb6.mono (by omega))
    clear hb6 hB5 hT hE hM hG hr hrd hct hO6
    go_wp2_with fail
    refine (implCodeSafe_any D bo bp _ hCl.out hBt).mono ?_
    rintro e w7 ⟨b', rfl, hS', hb7⟩
    obtain rfl := safeOf_one hS.out hS'
    clear hS'
    have hz7 := hb7.size
    replace hAt := hAt.below hb7
    replace hBt := hBt.below hb7
    have hB7 : Below w.heap.size w w7 := hB6.trans (hb7.mono (by omega))
    clear hb7 hB6
    have hbb : (b == b) = true := by simp
    go_wp2_with fail
    refine (implCodeFull_any D bo bp _ hCl.out hBt).mono ?_
    rintro e w8 ⟨u, L, rfl, hF1, hL1, hb8⟩
    replace hF1 := (show Hid _ from hF1)
    have hz8 := hb8.size
    replace hAt := hAt.below hb8
    have hB8 : Below w.heap.size w w8 := hB7.trans (hb8.mono (by omega))
    clear hb8 hB7 hBt
    go_wp2_with fail
    refine (implCodeFull_any D ao cp _ hCl.out hAt).mono ?_
    rintro e w9 ⟨u', L', rfl, hF2, hL2, hb9⟩
    obtain rfl := fullOf_one hF1.out hF2
    have hLl : Hid (L.length ≤ 1048576) := by
      show _ ≤ _
      rcases hF2 with ⟨_, h⟩ | ⟨_, rfl⟩
      · have := h.1.1.1; have := hCl.out; omega
      · simp
    clear hF2
    have hz9 := hb9.size
    have hL1' := hL1.below hb9
    have hB9 : Below w.heap.size w w9 := hB8.trans (hb9.mono (by omega))
    clear hb9 hB8 hAt hL1
    go_wp2_with fail
    refine (lvInts_same w9.heap.size L u u' _ hLl.out hL1'.ints hL2.ints).mono ?_
    rintro e w10 ⟨rfl, hb10⟩
    go_wp2_with fail
    go_ret
    exact ⟨by simp, hB9.trans (hb10.mono (by omega))⟩
set_option maxHeartbeats 400000 in
theorem walk (a0 : Option Addr) (len0 cap0 : Nat) (w : World) (h0 : Code0 w a0 len0 cap0) (hT : Tab w) (hE : Errs w) (hM : Max w) (hG : EType w) :
    Calls Tryz.prog 5 #[.slice a0 len0 cap0] w fun e w' => e = .returned (.bool true) ∧ Below w.heap.size w w' := by
  by_cases hl0 : len0 ≤ 1048576
  · exact walk_in a0 len0 cap0 w h0 hT hE hM hG hl0
  · have g0 : (1048576 : Int) < (len0 : Int) := by omega
    go_enter Tryz.func5, Tryz.ntmps5
    go_wp2_with fail
    go_ret
    exact ⟨rfl, Below.refl _ _⟩

set_option maxRecDepth 20000 in
theorem contract (H : Type) (enc : TypeId × Value → H) (W : World) (base : Nat) (args : Array Value) (ds gs : List (DataW H)) (before : List MemPlace)
    (hval : ∀ (j : Nat) t v, Tryz.f5.params[j]? = some t → args[j]? = some v → Value.okWide Tryz.prog W .any base t v)
    (hW : DataW.Whole enc Tryz.prog Tryz.f5.params.toList Rows.fnSafeTextSpec.vars false W args.toList ds gs before) (hL : laidMetH Tryz.prog Rows.fnSafeTextRow.laid W) (hO : W.ShapedOpen Tryz.prog) :
    Calls Tryz.prog 5 args W fun e W' => ∃ v, e = .returned v ∧ Rows.fnSafeTextSpec.post enc Tryz.prog Tryz.f5 false true false false W args v W' := by
  have hT : Tab W := tab_of hL (by kernel_rfl)
  have hE : Errs W := errs_of hL (by kernel_rfl) (by kernel_rfl)
  have hM : Max W := laysSplit.s1_3 W hO
  have hG : EType W := etype_of hL (by kernel_rfl)
  have hW' := hW
  obtain ⟨p, q, hA0, hV, rfl, hfz, hnd⟩ := hW
  have hA : DataW.TrodAll enc Tryz.prog W 0 (fun _ => true) true Tryz.f5.params.toList args.toList ds p := hA0
  rw [Tryz.params5] at hA hval
  obtain ⟨v0, vs0, d0, ds0, p0, q0, hargs, rfl, rfl, h0, r0⟩ := trodAll_cons hA
  obtain ⟨rfl, rfl, rfl⟩ := trodAll_nil r0
  obtain rfl : args = #[v0] := by cases args; simp_all
  obtain ⟨rfl, rfl⟩ := trodVars_none hV
  obtain ⟨a0, len0, cap0, rfl⟩ := okWide_slice Tryz.underlying22 (hval 0 22 v0 rfl rfl)
  have k0 := h0
  have lt0 : ∀ x ∈ p0, x.block < W.heap.size := by obtain ⟨m, hm⟩ := k0; exact DataW.trod_lt m _ _ _ hm
  have w0 : Code0 W a0 len0 cap0 := by
    obtain ⟨fuel, hf⟩ := h0
    rcases open_ints Tryz.underlying22 Tryz.underlying5 (by kernel_rfl) hf with ⟨hcs, _⟩ | ⟨x, l, c, zs, hcs, _, hl, hm, hz, _, hcell, hwz⟩
    · simp [Value.cells] at hcs
      obtain ⟨rfl, rfl, rfl⟩ := hcs
      exact code_of_row (zs := []) (.inl ⟨rfl, rfl, rfl, rfl⟩)
    · simp [Value.cells] at hcs
      obtain ⟨rfl, rfl, rfl⟩ := hcs
      exact code_of_row (zs := zs) (.inr ⟨_, rfl, hl, hm, by simpa using hz, hcell, hwz⟩)
  clear hA0
  refine (walk a0 len0 cap0 W w0 hT hE hM hG).mono fun e W' ⟨he, bel⟩ => ?_
  subst he
  exact ⟨_, rfl, _, _, _, [], _, [], hW', trodAll_mk1 (shut_bool Tryz.underlying4 _), (trodAll_cons_mk (Below.trod laidOut (by kernel_rfl) (of_decide_eq_true (by kernel_rfl)) k0 bel lt0) trodAll_mk0), rfl, bel.frame _, fun h => by cases h⟩
theorem laid_met (os : Os) : laidMetH Tryz.prog Rows.fnSafeTextRow.laid ((putType (World.settled Tryz.prog os).heap.size (World.holding Tryz.prog os ⟨errBlocks, #[], []⟩)).forCall (fun _ _ => 0) ⟨#[], #[.slice none 0 0], []⟩).memory :=
  laidMetH_of_parts (laidMet_of_run' 10 (by kernel_rfl) (by kernel_rfl)) (by kernel_rfl)
theorem reads (os : Os) {H : Type} (enc : TypeId × Value → H) : ∃ places, DataW.whole enc Tryz.prog ((putType (World.settled Tryz.prog os).heap.size (World.holding Tryz.prog os ⟨errBlocks, #[], []⟩)).forCall (fun _ _ => 0) ⟨#[], #[.slice none 0 0], []⟩).memory Tryz.f5.params.toList Rows.fnSafeTextSpec.vars false #[.slice none 0 0].toList 8 = some ([.nil], [], places) :=
  ⟨[], by kernel_rfl⟩
set_option maxRecDepth 100000 in
theorem lifted (os : Os) (started : os.Started) (H : Type) (enc : TypeId × Value → H) (F : Stop.Interp) :
    ReturnsInHanded {} Tryz.checked os 5 .any ((OpenSpec.ofChange Rows.fnSafeTextSpec).preRow enc Tryz.prog Tryz.f5 Rows.fnSafeTextRow.domain false Rows.fnSafeTextRow.laid) (((OpenSpec.ofChange Rows.fnSafeTextSpec).at F).post enc Tryz.prog Tryz.f5 false true false false) := by
  obtain ⟨places, hx⟩ := reads os enc
  refine returnsInHanded_of_row (C := Tryz.checked) (s := OpenSpec.ofChange Rows.fnSafeTextSpec) own started (by kernel_rfl) Tryz.func5
    (witness_row_atRef (enc := enc) (C := Tryz.checked) false (putType (World.settled Tryz.prog os).heap.size (World.holding Tryz.prog os ⟨errBlocks, #[], []⟩)) #[.slice none 0 0] rfl (by kernel_rfl) (by kernel_rfl) (by kernel_rfl)
      (OpenSpec.preRow_of_cond 8 hx (by kernel_rfl) (fun k hk => by cases hk) (by kernel_rfl) (laid_met os))) ?_
  intro W base args ds gs before hval hW _ _ _ hL hO _
  exact contract H enc W base args ds gs before hval hW hL hO
set_option maxRecDepth 100000 in
theorem said : Rows.FnSafeTextSaid :=
  OpenClaim.holds_of_cond 5 Tryz.f5 rfl rfl rfl rfl rfl rfl rfl ⟨rfl, rfl, rfl, rfl, rfl⟩ rfl rfl rfl rfl rfl (by kernel_rfl) Tryz.func5 FcFnSafeText.closed
    (of_decide_eq_true (by kernel_rfl)) (by unfold Func.isWrapper; first | (rw [if_pos (by decide +kernel)]; kernel_rfl) | (rw [if_neg (by decide +kernel)]; exact ⟨rfl, rfl⟩))
    (fun os started H enc _ F => by rw [OpenClaim.pre_eq_preRow]; exact lifted os started H enc F)
theorem plain (f : FuncId) (fn : Func) (hf : Tryz.pinned.checked.prog.funcNamed Rows.fnSafeTextRow.func = some f) (hfn : Tryz.pinned.checked.prog.funcs[f]? = some fn) :
    true = Tryz.pinned.checked.prog.looks [] ∧ ∀ (j : Nat) t, fn.params[j]? = some t → Tryz.pinned.checked.prog.wantsStandIn t = false := by
  obtain rfl : f = 5 := Option.some.inj ((show Tryz.prog.funcNamed Rows.fnSafeTextRow.func = some 5 by kernel_rfl).symm.trans hf) |>.symm
  obtain rfl : fn = Tryz.f5 := (Option.some.inj (Tryz.func5.symm.trans hfn)).symm
  refine ⟨by kernel_rfl, fun j t ht => ?_⟩
  rw [Tryz.params5] at ht
  obtain rfl : t = 22 := by simpa using Array.mem_of_getElem? ht
  exact (show Tryz.prog.wantsStandIn 22 = false by kernel_rfl)
theorem card : Rows.FnSafeTextCardSaid :=
  Claim7.holds_tied_plain_at .later [] _ _ _ _ said (fun _ h => by cases h) (by kernel_rfl) (fun _ h => by cases h) fnSafeText_row_tie rfl ⟨rfl, rfl⟩ (by kernel_rfl) rfl plain (by kernel_rfl)
end SafeTextL

/-- the given statement -/
theorem safeTextL_holds : Rows.FnSafeTextCardSaid := SafeTextL.card
#print axioms safeTextL_holds
end Go.Proofs.YtekmjgkjpdhedaaGreatDoor
