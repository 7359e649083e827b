/-
  For every code, FnCodeStrict answers true: impl.CodeRead answers as the specification's CodeRead at the drawn text, and what it reads is ok and has that text. The tables, errors and the type of errors that the library reads are as their initialisers lay them.
-/
import Derived.Test.YtekmjgkjpdhedaaGreatDoorZc01
import Derived.Test.YtekmjgkjpdhedaaGreatDoorZc06
import Derived.Test.YtekmjgkjpdhedaaGreatDoorSpecCodeRead
import Derived.Test.YtekmjgkjpdhedaaGreatDoorZc02
import Derived.Test.YtekmjgkjpdhedaaGreatDoorFcFnCodeStrict
namespace Go.Proofs.YtekmjgkjpdhedaaGreatDoor
open Go.ChangeShapes Go.WideShapes Go.ChangeAt Go.RowKit Go.Joins
namespace CodeStrictL
set_option maxRecDepth 20000 in
set_option maxHeartbeats 4000000 in
theorem walk_in (a0 : Option Addr) (len0 cap0 : Nat) (w : World) (h0 : Code0 w a0 len0 cap0) (hT : Tab w) (hE : Errs w) (hM : Max w) (hG : EType w) (hl0 : len0 ≤ 1048576) :
    Calls Tryz.prog 4 #[.slice a0 len0 cap0] w fun e w' => e = .returned (.bool true) ∧ Below w.heap.size w w' := by
  have g0 : ¬ (1048576 : Int) < (len0 : Int) := by omega
  go_enter Tryz.func4, Tryz.ntmps4
  go_wp2_with fail
  refine (drawCodeRead_any a0 len0 cap0 _ h0).mono ?_
  rintro e w1 ⟨x, rfl, hx, hb1⟩
  have hz1 := hb1.size
  replace hT := hT.below hb1
  replace hE := hE.below hb1
  replace hM := hM.below hb1
  replace hG := hG.below hb1
  have hB1 : Below w.heap.size w w1 := hb1
  clear hb1
  go_wp2_with fail
  refine (specCodeRead_any x _ (by omega)).mono ?_
  rintro e w2 ⟨C, v0, ok, rfl, hr, hO1, hb2⟩
  replace hr : Hid (ReadCode x C ok) := hr
  have hCl : Hid (C.length ≤ 1048576) := by
    show _ ≤ _
    rcases hr.out with ⟨_, hc, _⟩ | ⟨_, rfl, _⟩
    · have := (codeB_well hc).2.1; omega
    · simp
  have hz2 := hb2.size
  replace hT := hT.below hb2
  replace hE := hE.below hb2
  replace hM := hM.below hb2
  replace hG := hG.below hb2
  have hB2 : Below w.heap.size w w2 := hB1.trans (hb2.mono (by omega))
  clear hb2 hB1
  go_wp2_with fail
  refine (implCodeRead_any x _ hT hE hM hG).mono ?_
  rintro e w3 ⟨D, v1, ok', rfl, hr2, hO3, hb3⟩
  obtain ⟨e1, e2⟩ := hr.out.one hr2
  subst e1 e2
  clear hr2
  have hz3 := hb3.size
  replace hT := hT.below hb3
  replace hE := hE.below hb3
  replace hM := hM.below hb3
  replace hG := hG.below hb3
  have hO1b := (show Hid _ from OwnsO.below hO1 hb3)
  have hO3b := (show Hid _ from hO3)
  have hB3 : Below w.heap.size w w3 := hB2.trans (hb3.mono (by omega))
  clear hb3 hB2 hO1 hO3
  cases ok' with
  | false =>
    go_wp2_with fail
    refine (lvOps_own D hCl.out hO3b.out hO1b.out).mono ?_
    rintro e w4 ⟨rfl, hb4⟩
    have hz4 := hb4.size
    have hO1c := (show Hid _ from OwnsO.below hO1b.out hb4)
    have hO3c := (show Hid _ from OwnsO.below hO3b.out hb4)
    go_wp2_with fail
    refine (lvOps_own D hCl.out hO3c.out hO1c.out).mono ?_
    rintro e w5 ⟨rfl, hb5⟩
    go_wp2_with fail
    go_ret
    exact ⟨by simp, (hB3.trans (hb4.mono (by omega))).trans (hb5.mono (by omega))⟩
  | true =>
    obtain ⟨hcb, hxe⟩ : codeB D = true ∧ x = codeTxt D := by
      rcases hr.out with ⟨_, h1, h2⟩ | ⟨h, _⟩
      · exact ⟨h1, by unfold codeTxt; rw [if_pos h1]; exact h2⟩
      · simp at h
    replace hxe := (show Hid _ from hxe)
    go_wp2_with fail
    refine (lvOps_own D hCl.out hO3b.out hO1b.out).mono ?_
    rintro e w4 ⟨rfl, hb4⟩
    have hz4 := hb4.size
    replace hT := hT.below hb4
    have hB4 : Below w.heap.size w w4 := hB3.trans (hb4.mono (by omega))
    obtain ⟨ao, cp, rfl, hAt, _⟩ := (OwnsO.below hO3b.out hb4).code
    clear hb4 hB3 hO1b hO3b hE hM hG
    go_wp2_with fail
    refine (implCodeOk_any D ao cp _ hCl.out hAt).mono ?_
    rintro e w5 ⟨rfl, hb5⟩
    rw [hcb]
    have hz5 := hb5.size
    replace hT := hT.below hb5
    replace hAt := hAt.below hb5
    have hB5 : Below w.heap.size w w5 := hB4.trans (hb5.mono (by omega))
    clear hb5 hB4
    go_wp2_with fail
    refine (implCodeText_any D ao cp _ hCl.out hAt hT).mono ?_
    rintro e w6 ⟨rfl, hb6⟩
    rw [hxe.out]
    go_wp2_with fail
    go_ret
    exact ⟨by simp, hB5.trans (hb6.mono (by omega))⟩
set_option maxHeartbeats 400000 in
theorem walk (a0 : Option Addr) (len0 cap0 : Nat) (w : World) (h0 : Code0 w a0 len0 cap0) (hT : Tab w) (hE : Errs w) (hM : Max w) (hG : EType w) :
    Calls Tryz.prog 4 #[.slice a0 len0 cap0] w fun e w' => e = .returned (.bool true) ∧ Below w.heap.size w w' := by
  by_cases hl0 : len0 ≤ 1048576
  · exact walk_in a0 len0 cap0 w h0 hT hE hM hG hl0
  · have g0 : (1048576 : Int) < (len0 : Int) := by omega
    go_enter Tryz.func4, Tryz.ntmps4
    go_wp2_with fail
    go_ret
    exact ⟨rfl, Below.refl _ _⟩

set_option maxRecDepth 20000 in
theorem contract (H : Type) (enc : TypeId × Value → H) (W : World) (base : Nat) (args : Array Value) (ds gs : List (DataW H)) (before : List MemPlace)
    (hval : ∀ (j : Nat) t v, Tryz.f4.params[j]? = some t → args[j]? = some v → Value.okWide Tryz.prog W .any base t v)
    (hW : DataW.Whole enc Tryz.prog Tryz.f4.params.toList Rows.fnCodeStrictSpec.vars false W args.toList ds gs before) (hL : laidMetH Tryz.prog Rows.fnCodeStrictRow.laid W) (hO : W.ShapedOpen Tryz.prog) :
    Calls Tryz.prog 4 args W fun e W' => ∃ v, e = .returned v ∧ Rows.fnCodeStrictSpec.post enc Tryz.prog Tryz.f4 false true false false W args v W' := by
  have hT : Tab W := tab_of hL (by kernel_rfl)
  have hE : Errs W := errs_of hL (by kernel_rfl) (by kernel_rfl)
  have hM : Max W := laysSplit.s1_3 W hO
  have hG : EType W := etype_of hL (by kernel_rfl)
  have hW' := hW
  obtain ⟨p, q, hA0, hV, rfl, hfz, hnd⟩ := hW
  have hA : DataW.TrodAll enc Tryz.prog W 0 (fun _ => true) true Tryz.f4.params.toList args.toList ds p := hA0
  rw [Tryz.params4] at hA hval
  obtain ⟨v0, vs0, d0, ds0, p0, q0, hargs, rfl, rfl, h0, r0⟩ := trodAll_cons hA
  obtain ⟨rfl, rfl, rfl⟩ := trodAll_nil r0
  obtain rfl : args = #[v0] := by cases args; simp_all
  obtain ⟨rfl, rfl⟩ := trodVars_none hV
  obtain ⟨a0, len0, cap0, rfl⟩ := okWide_slice Tryz.underlying22 (hval 0 22 v0 rfl rfl)
  have k0 := h0
  have lt0 : ∀ x ∈ p0, x.block < W.heap.size := by obtain ⟨m, hm⟩ := k0; exact DataW.trod_lt m _ _ _ hm
  have w0 : Code0 W a0 len0 cap0 := by
    obtain ⟨fuel, hf⟩ := h0
    rcases open_ints Tryz.underlying22 Tryz.underlying5 (by kernel_rfl) hf with ⟨hcs, _⟩ | ⟨x, l, c, zs, hcs, _, hl, hm, hz, _, hcell, hwz⟩
    · simp [Value.cells] at hcs
      obtain ⟨rfl, rfl, rfl⟩ := hcs
      exact code_of_row (zs := []) (.inl ⟨rfl, rfl, rfl, rfl⟩)
    · simp [Value.cells] at hcs
      obtain ⟨rfl, rfl, rfl⟩ := hcs
      exact code_of_row (zs := zs) (.inr ⟨_, rfl, hl, hm, by simpa using hz, hcell, hwz⟩)
  clear hA0
  refine (walk a0 len0 cap0 W w0 hT hE hM hG).mono fun e W' ⟨he, bel⟩ => ?_
  subst he
  exact ⟨_, rfl, _, _, _, [], _, [], hW', trodAll_mk1 (shut_bool Tryz.underlying4 _), (trodAll_cons_mk (Below.trod laidOut (by kernel_rfl) (of_decide_eq_true (by kernel_rfl)) k0 bel lt0) trodAll_mk0), rfl, bel.frame _, fun h => by cases h⟩
theorem laid_met (os : Os) : laidMetH Tryz.prog Rows.fnCodeStrictRow.laid ((putType (World.settled Tryz.prog os).heap.size (World.holding Tryz.prog os ⟨errBlocks, #[], []⟩)).forCall (fun _ _ => 0) ⟨#[], #[.slice none 0 0], []⟩).memory :=
  laidMetH_of_parts (laidMet_of_run' 10 (by kernel_rfl) (by kernel_rfl)) (by kernel_rfl)
theorem reads (os : Os) {H : Type} (enc : TypeId × Value → H) : ∃ places, DataW.whole enc Tryz.prog ((putType (World.settled Tryz.prog os).heap.size (World.holding Tryz.prog os ⟨errBlocks, #[], []⟩)).forCall (fun _ _ => 0) ⟨#[], #[.slice none 0 0], []⟩).memory Tryz.f4.params.toList Rows.fnCodeStrictSpec.vars false #[.slice none 0 0].toList 8 = some ([.nil], [], places) :=
  ⟨[], by kernel_rfl⟩
set_option maxRecDepth 100000 in
theorem lifted (os : Os) (started : os.Started) (H : Type) (enc : TypeId × Value → H) (F : Stop.Interp) :
    ReturnsInHanded {} Tryz.checked os 4 .any ((OpenSpec.ofChange Rows.fnCodeStrictSpec).preRow enc Tryz.prog Tryz.f4 Rows.fnCodeStrictRow.domain false Rows.fnCodeStrictRow.laid) (((OpenSpec.ofChange Rows.fnCodeStrictSpec).at F).post enc Tryz.prog Tryz.f4 false true false false) := by
  obtain ⟨places, hx⟩ := reads os enc
  refine returnsInHanded_of_row (C := Tryz.checked) (s := OpenSpec.ofChange Rows.fnCodeStrictSpec) own started (by kernel_rfl) Tryz.func4
    (witness_row_atRef (enc := enc) (C := Tryz.checked) false (putType (World.settled Tryz.prog os).heap.size (World.holding Tryz.prog os ⟨errBlocks, #[], []⟩)) #[.slice none 0 0] rfl (by kernel_rfl) (by kernel_rfl) (by kernel_rfl)
      (OpenSpec.preRow_of_cond 8 hx (by kernel_rfl) (fun k hk => by cases hk) (by kernel_rfl) (laid_met os))) ?_
  intro W base args ds gs before hval hW _ _ _ hL hO _
  exact contract H enc W base args ds gs before hval hW hL hO
set_option maxRecDepth 100000 in
theorem said : Rows.FnCodeStrictSaid :=
  OpenClaim.holds_of_cond 4 Tryz.f4 rfl rfl rfl rfl rfl rfl rfl ⟨rfl, rfl, rfl, rfl, rfl⟩ rfl rfl rfl rfl rfl (by kernel_rfl) Tryz.func4 FcFnCodeStrict.closed
    (of_decide_eq_true (by kernel_rfl)) (by unfold Func.isWrapper; first | (rw [if_pos (by decide +kernel)]; kernel_rfl) | (rw [if_neg (by decide +kernel)]; exact ⟨rfl, rfl⟩))
    (fun os started H enc _ F => by rw [OpenClaim.pre_eq_preRow]; exact lifted os started H enc F)
theorem plain (f : FuncId) (fn : Func) (hf : Tryz.pinned.checked.prog.funcNamed Rows.fnCodeStrictRow.func = some f) (hfn : Tryz.pinned.checked.prog.funcs[f]? = some fn) :
    true = Tryz.pinned.checked.prog.looks [] ∧ ∀ (j : Nat) t, fn.params[j]? = some t → Tryz.pinned.checked.prog.wantsStandIn t = false := by
  obtain rfl : f = 4 := Option.some.inj ((show Tryz.prog.funcNamed Rows.fnCodeStrictRow.func = some 4 by kernel_rfl).symm.trans hf) |>.symm
  obtain rfl : fn = Tryz.f4 := (Option.some.inj (Tryz.func4.symm.trans hfn)).symm
  refine ⟨by kernel_rfl, fun j t ht => ?_⟩
  rw [Tryz.params4] at ht
  obtain rfl : t = 22 := by simpa using Array.mem_of_getElem? ht
  exact (show Tryz.prog.wantsStandIn 22 = false by kernel_rfl)
theorem card : Rows.FnCodeStrictCardSaid :=
  Claim7.holds_tied_plain_at .later [] _ _ _ _ said (fun _ h => by cases h) (by kernel_rfl) (fun _ h => by cases h) fnCodeStrict_row_tie rfl ⟨rfl, rfl⟩ (by kernel_rfl) rfl plain (by kernel_rfl)
end CodeStrictL

/-- the given statement -/
theorem codeStrictL_holds : Rows.FnCodeStrictCardSaid := CodeStrictL.card
#print axioms codeStrictL_holds
end Go.Proofs.YtekmjgkjpdhedaaGreatDoor
