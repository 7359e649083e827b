/-
  For every text, impl.CodeRead answers as the specification's CodeRead does; its answer owns its memory. The tables, errors and the type of errors that the library reads are as their initialisers lay them.
-/
import Derived.Test.YtekmjgkjpdhedaaGreatDoorZb01
import Derived.Test.YtekmjgkjpdhedaaGreatDoorCodeHeld
import Derived.Test.YtekmjgkjpdhedaaGreatDoorSpecCodeRead
import Derived.Test.YtekmjgkjpdhedaaGreatDoorZb02
import Derived.Test.YtekmjgkjpdhedaaGreatDoorFcFnExactCodeRead
namespace Go.Proofs.YtekmjgkjpdhedaaGreatDoor
open Go.ChangeShapes Go.WideShapes Go.ChangeAt Go.RowKit Go.Joins
namespace ExactCodeRead
/-- marking a row of one's own, and looking at the marks -/
theorem mark_held (C : List OpV) (hl : C.length ≤ 1048576) {w : World} {B : Nat} {v : Value} (h : OwnsO w B v C) :
    ∃ n : Int, 0 < n ∧ ∃ M : World → Prop, (∀ w w', M w → Below w.heap.size w w' → M w') ∧
      (Calls Tryz.prog 22 #[v, .int .i64 1] w fun e w' => e = .returned (.int .i64 n) ∧ M w' ∧ ((w' = w) ∨ ∃ g, B ≤ g ∧ v.ownBlock = some g ∧ But g w w')) ∧
      (∀ W, M W → Calls Tryz.prog 23 #[v, .int .i64 1] W fun e w' => e = .returned (.int .i64 n) ∧ w' = W) := by
  by_cases hc : 1 ≤ C.length
  · obtain ⟨g, c, rfl, hB, hg⟩ := h.blk hc
    refine ⟨1 + 6 * (C.length : Int), by omega, fun W => g < W.heap.size ∧ ∀ j : Nat, j < C.length * 6 → W.cell? ⟨g, j, none⟩ = some (.int .i64 (1 + (j : Int))), ?_, ?_, ?_⟩
    · intro w w' ⟨h1, h2⟩ hb
      exact ⟨Nat.lt_of_lt_of_le h1 hb.size, fun j hj => (hb.cell (p := ⟨g, j, none⟩) h1).trans (h2 j hj)⟩
    · refine (MO.markOps_row C.length g c w hl (fun j hj => ?_) (fun j => (h.stepAt 0 (by omega)).2 j)).mono ?_
      · have s := (h.stepAt (j / 6) (by omega)).1
        have e : j / 6 * 6 + j % 6 = j := by omega
        rcases (by omega : j % 6 = 0 ∨ j % 6 = 1 ∨ j % 6 = 2 ∨ j % 6 = 3 ∨ j % 6 = 4 ∨ j % 6 = 5) with q | q | q | q | q | q <;> rw [← e, q]
        · exact ⟨_, s.c0⟩
        · exact ⟨_, s.c1⟩
        · exact ⟨_, s.c2⟩
        · exact ⟨_, s.c3⟩
        · exact ⟨_, s.c4⟩
        · exact ⟨_, s.c5⟩
      · rintro e w' ⟨rfl, hd, hb⟩
        exact ⟨rfl, ⟨Nat.lt_of_lt_of_le hg hb.size, hd⟩, .inr ⟨g, hB, rfl, hb⟩⟩
    · intro W ⟨_, h2⟩
      exact MO.heldOps_row C.length g c W hl h2
  · obtain rfl : C = [] := by cases C with | nil => rfl | cons a l => exact absurd (by simp) hc
    obtain ⟨ao, c, rfl, _⟩ := h.code
    refine ⟨1, by decide, fun _ => True, fun _ _ _ _ => trivial, ?_, fun W _ => MO.heldOps_nil ao c W⟩
    exact (MO.markOps_nil ao c w).mono fun e w' h => ⟨h.1, trivial, .inl h.2⟩
set_option maxHeartbeats 4000000 in
theorem walk_in (x : List UInt8) (w : World) (hl : x.length ≤ 1048576) (hT : Tab w) (hE : Errs w) (hM : Max w) (hG : EType w) :
    Calls Tryz.prog 6 #[.string ⟨x.toArray⟩] w fun e w' => e = .returned (.bool true) ∧ Below w.heap.size w w' := by
  have g0 : ¬ (1048576 : Int) < (x.length : Int) := by omega
  go_enter Tryz.func6, Tryz.ntmps6
  go_wp2_with fail
  refine (specCodeRead_any x _ hl).mono ?_
  rintro e w1 ⟨C, v0, ok, rfl, hr, hO1, hb1⟩
  replace hr : Hid (ReadCode x C ok) := hr
  have hCl : Hid (C.length ≤ 1048576) := by
    show _ ≤ _
    rcases hr.out with ⟨_, hc, _⟩ | ⟨_, rfl, _⟩
    · have := (codeB_well hc).2.1; omega
    · simp
  have hz1 := hb1.size
  replace hT := hT.below hb1
  replace hE := hE.below hb1
  replace hM := hM.below hb1
  replace hG := hG.below hb1
  have hB1 : Below w.heap.size w w1 := hb1
  clear hb1
  have hT1 := hT
  have hE1 := hE
  have hM1 := hM
  have hG1 := hG
  go_wp2_with fail
  refine (implCodeRead_any x _ hT hE hM hG).mono ?_
  rintro e w2 ⟨D, v1, ok', rfl, hr2, hO2, hb2⟩
  obtain ⟨e1, e2⟩ := hr.out.one hr2
  subst e1 e2
  clear hr2
  have hz2 := hb2.size
  replace hT := hT.below hb2
  replace hE := hE.below hb2
  replace hM := hM.below hb2
  replace hG := hG.below hb2
  have hO1b := OwnsO.below hO1 hb2
  have hne : Hid (∀ g, w1.heap.size ≤ g → v0.ownBlock ≠ some g) := fun g hg e => by have := (World.ownsRow.lt hO1 g e).2; omega
  have hB12 : Below w1.heap.size w1 w2 := hb2
  have hB2 : Below w.heap.size w w2 := hB1.trans (hb2.mono (by omega))
  clear hb2 hO1 hT hE hM hG
  go_wp2_with fail
  refine (MO.eqOps_own D hCl.out hO2 hO1b).mono ?_
  rintro e w3 ⟨rfl, hb3⟩
  have hz3 := hb3.size
  have hO3 := OwnsO.below hO2 hb3
  have hO3b := OwnsO.below hO1b hb3
  have hB13 : Below w1.heap.size w1 w3 := hB12.trans (hb3.mono (by omega))
  clear hb3 hO2 hO1b hB2 hB12
  obtain ⟨n, hn0, MK, hMK, CM, CH⟩ := mark_held D hCl.out hO3
  replace hMK := (show Hid _ from hMK)
  replace CH := (show Hid _ from CH)
  have hn1 : ¬ n < 0 := by omega
  go_wp2_with fail
  refine CM.mono ?_
  rintro e w4 ⟨rfl, hm4, h4⟩
  have hb4 : Below w1.heap.size w3 w4 := by
    rcases h4 with rfl | ⟨g, hg, _, hb⟩
    · exact Below.refl _ _
    · exact hb.below hg (by omega)
  have hO4 : OwnsO w4 w.heap.size v0 D := by
    rcases h4 with rfl | ⟨g, hg, _, hb⟩
    · exact hO3b
    · exact OwnsO.aside hO3b hb (hne.out g hg)
  clear h4 hO3b CM
  have hB14 : Below w1.heap.size w1 w4 := hB13.trans hb4
  have hz4 := hB14.size
  go_wp2_with fail
  refine (CH.out _ hm4).mono ?_
  rintro e w5 ⟨rfl, rfl⟩
  go_wp2_with fail
  refine (implCodeRead_any x _ (hT1.below hB14) (hE1.below hB14) (hM1.below hB14) (hG1.below hB14)).mono ?_
  rintro e w6 ⟨E, v2, ok2, rfl, hr3, hO6, hb6⟩
  obtain ⟨e1, e2⟩ := hr.out.one hr3
  subst e1 e2
  clear hr3
  have hz6 := hb6.size
  have hm6 := hMK.out _ _ hm4 hb6
  have hO6b := OwnsO.below hO4 hb6
  have hB16 : Below w1.heap.size w1 w6 := hB14.trans (hb6.mono (by omega))
  clear hb6 hO4
  go_wp2_with fail
  refine (MO.eqOps_own E hCl.out hO6 hO6b).mono ?_
  rintro e w7 ⟨rfl, hb7⟩
  have hm7 := hMK.out _ _ hm6 hb7
  have hB17 : Below w1.heap.size w1 w7 := hB16.trans (hb7.mono (by omega))
  clear hb7
  go_wp2_with fail
  refine (CH.out _ hm7).mono ?_
  rintro e w8 ⟨rfl, rfl⟩
  go_wp2_with fail
  go_ret
  exact ⟨by simp, hB1.trans (hB17.mono (by omega))⟩
set_option maxHeartbeats 400000 in
theorem walk (s : ByteArray) (w : World) (hT : Tab w) (hE : Errs w) (hM : Max w) (hG : EType w) :
    Calls Tryz.prog 6 #[.string s] w fun e w' => e = .returned (.bool true) ∧ Below w.heap.size w w' := by
  obtain ⟨x, rfl⟩ : ∃ x : List UInt8, s = ⟨x.toArray⟩ := ⟨s.data.toList, by apply ByteArray.ext; simp⟩
  by_cases hl : x.length ≤ 1048576
  · exact walk_in x w hl hT hE hM hG
  · have g0 : (1048576 : Int) < (x.length : Int) := by omega
    go_enter Tryz.func6, Tryz.ntmps6
    go_wp2_with fail
    go_ret
    exact ⟨rfl, Below.refl _ _⟩

set_option maxRecDepth 20000 in
theorem contract (H : Type) (enc : TypeId × Value → H) (W : World) (base : Nat) (args : Array Value) (ds gs : List (DataW H)) (before : List MemPlace)
    (hval : ∀ (j : Nat) t v, Tryz.f6.params[j]? = some t → args[j]? = some v → Value.okWide Tryz.prog W .any base t v)
    (hW : DataW.Whole enc Tryz.prog Tryz.f6.params.toList Rows.fnExactCodeReadSpec.vars false W args.toList ds gs before) (hL : laidMetH Tryz.prog Rows.fnExactCodeReadRow.laid W) (hO : W.ShapedOpen Tryz.prog) :
    Calls Tryz.prog 6 args W fun e W' => ∃ v, e = .returned v ∧ Rows.fnExactCodeReadSpec.post enc Tryz.prog Tryz.f6 false true false false W args v W' := by
  have hT : Tab W := tab_of hL (by kernel_rfl)
  have hE : Errs W := errs_of hL (by kernel_rfl) (by kernel_rfl)
  have hM : Max W := laysSplit.s1_3 W hO
  have hG : EType W := etype_of hL (by kernel_rfl)
  have hW' := hW
  obtain ⟨p, q, hA0, hV, rfl, hfz, hnd⟩ := hW
  have hA : DataW.TrodAll enc Tryz.prog W 0 (fun _ => true) true Tryz.f6.params.toList args.toList ds p := hA0
  rw [Tryz.params6] at hA hval
  obtain ⟨v0, vs0, d0, ds0, p0, q0, hargs, rfl, rfl, h0, r0⟩ := trodAll_cons hA
  obtain ⟨rfl, rfl, rfl⟩ := trodAll_nil r0
  obtain rfl : args = #[v0] := by cases args; simp_all
  obtain ⟨rfl, rfl⟩ := trodVars_none hV
  obtain ⟨s0, rfl, rfl, rfl, ws0⟩ := Go.ChangeMaps.open_string Tryz.underlying9 (hval 0 9 v0 rfl rfl) h0
  clear hA0
  simp only [List.append_nil] at hW'
  refine (walk s0 W hT hE hM hG).mono fun e W' ⟨he, bel⟩ => ?_
  subst he
  exact ⟨_, rfl, _, _, _, [], _, [], hW', trodAll_mk1 (shut_bool Tryz.underlying4 _), (trodAll_cons_mk (Go.ChangeMaps.shut_string Tryz.underlying9 ws0) trodAll_mk0), rfl, bel.frame _, fun h => by cases h⟩
theorem laid_met (os : Os) : laidMetH Tryz.prog Rows.fnExactCodeReadRow.laid ((putType (World.settled Tryz.prog os).heap.size (World.holding Tryz.prog os ⟨errBlocks, #[], []⟩)).forCall (fun _ _ => 0) ⟨#[], #[.string ⟨#[]⟩], []⟩).memory :=
  laidMetH_of_parts (laidMet_of_run' 10 (by kernel_rfl) (by kernel_rfl)) (by kernel_rfl)
theorem reads (os : Os) {H : Type} (enc : TypeId × Value → H) : ∃ places, DataW.whole enc Tryz.prog ((putType (World.settled Tryz.prog os).heap.size (World.holding Tryz.prog os ⟨errBlocks, #[], []⟩)).forCall (fun _ _ => 0) ⟨#[], #[.string ⟨#[]⟩], []⟩).memory Tryz.f6.params.toList Rows.fnExactCodeReadSpec.vars false #[.string ⟨#[]⟩].toList 8 = some ([.lit (.string [])], [], places) :=
  ⟨[], by kernel_rfl⟩
set_option maxRecDepth 100000 in
theorem lifted (os : Os) (started : os.Started) (H : Type) (enc : TypeId × Value → H) (F : Stop.Interp) :
    ReturnsInHanded {} Tryz.checked os 6 .any ((OpenSpec.ofChange Rows.fnExactCodeReadSpec).preRow enc Tryz.prog Tryz.f6 Rows.fnExactCodeReadRow.domain false Rows.fnExactCodeReadRow.laid) (((OpenSpec.ofChange Rows.fnExactCodeReadSpec).at F).post enc Tryz.prog Tryz.f6 false true false false) := by
  obtain ⟨places, hx⟩ := reads os enc
  refine returnsInHanded_of_row (C := Tryz.checked) (s := OpenSpec.ofChange Rows.fnExactCodeReadSpec) own started (by kernel_rfl) Tryz.func6
    (witness_row_atRef (enc := enc) (C := Tryz.checked) false (putType (World.settled Tryz.prog os).heap.size (World.holding Tryz.prog os ⟨errBlocks, #[], []⟩)) #[.string ⟨#[]⟩] rfl (by kernel_rfl) (by kernel_rfl) (by kernel_rfl)
      (OpenSpec.preRow_of_cond 8 hx (by kernel_rfl) (fun k hk => by cases hk) (by kernel_rfl) (laid_met os))) ?_
  intro W base args ds gs before hval hW _ _ _ hL hO _
  exact contract H enc W base args ds gs before hval hW hL hO
set_option maxRecDepth 100000 in
theorem said : Rows.FnExactCodeReadSaid :=
  OpenClaim.holds_of_cond 6 Tryz.f6 rfl rfl rfl rfl rfl rfl rfl ⟨rfl, rfl, rfl, rfl, rfl⟩ rfl rfl rfl rfl rfl (by kernel_rfl) Tryz.func6 FcFnExactCodeRead.closed
    (of_decide_eq_true (by kernel_rfl)) (by unfold Func.isWrapper; first | (rw [if_pos (by decide +kernel)]; kernel_rfl) | (rw [if_neg (by decide +kernel)]; exact ⟨rfl, rfl⟩))
    (fun os started H enc _ F => by rw [OpenClaim.pre_eq_preRow]; exact lifted os started H enc F)
theorem plain (f : FuncId) (fn : Func) (hf : Tryz.pinned.checked.prog.funcNamed Rows.fnExactCodeReadRow.func = some f) (hfn : Tryz.pinned.checked.prog.funcs[f]? = some fn) :
    true = Tryz.pinned.checked.prog.looks [] ∧ ∀ (j : Nat) t, fn.params[j]? = some t → Tryz.pinned.checked.prog.wantsStandIn t = false := by
  obtain rfl : f = 6 := Option.some.inj ((show Tryz.prog.funcNamed Rows.fnExactCodeReadRow.func = some 6 by kernel_rfl).symm.trans hf) |>.symm
  obtain rfl : fn = Tryz.f6 := (Option.some.inj (Tryz.func6.symm.trans hfn)).symm
  refine ⟨by kernel_rfl, fun j t ht => ?_⟩
  rw [Tryz.params6] at ht
  obtain rfl : t = 9 := by simpa using Array.mem_of_getElem? ht
  exact (show Tryz.prog.wantsStandIn 9 = false by kernel_rfl)
theorem card : Rows.FnExactCodeReadCardSaid :=
  Claim7.holds_tied_plain_at .later [] _ _ _ _ said (fun _ h => by cases h) (by kernel_rfl) (fun _ h => by cases h) fnExactCodeRead_row_tie rfl ⟨rfl, rfl⟩ (by kernel_rfl) rfl plain (by kernel_rfl)
end ExactCodeRead

/-- the given statement -/
theorem exactCodeRead_holds : Rows.FnExactCodeReadCardSaid := ExactCodeRead.card
#print axioms exactCodeRead_holds
end Go.Proofs.YtekmjgkjpdhedaaGreatDoor
