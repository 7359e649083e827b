/-
  For every row of steps, ok or not, impl.CodeReach answers as the specification's CodeReach does, in a row of its own that a second call leaves as it is, and leaves the steps as they are. No condition but that the tables and errors of strconv are as their initialisers lay them.
-/
import Derived.Test.YtphgpimkkfgedaaGreatDoorCodeReachS
import Derived.Test.YtphgpimkkfgedaaGreatDoorCodeReachI
import Derived.Test.YtphgpimkkfgedaaGreatDoorCodeExact
import Derived.Test.YtphgpimkkfgedaaGreatDoorCodeMark
import Derived.Test.YtphgpimkkfgedaaGreatDoorIntsEq
import Derived.Test.YtphgpimkkfgedaaGreatDoorOpsFrame
import Derived.Test.YtphgpimkkfgedaaGreatDoorFrameN
namespace Go.Proofs.YtphgpimkkfgedaaGreatDoor
open Go.ChangeShapes Go.WideShapes Go.ChangeAt Go.RowKit Go.Joins
namespace ExactCodeReach
set_option maxHeartbeats 4000000 in
theorem walk (C : List OpV) (ao : Option Addr) (cap : Nat) (w : World) (hn : C.length ≤ 9223372036854775807) (h : CodeAt w ao C) :
    Calls Tryz.prog 5 #[.slice ao C.length cap] w fun e w' => e = .returned (.bool true) ∧ Below w.heap.size w w' := by
  by_cases hl : C.length ≤ 1048576
  case neg =>
    go_enter Tryz.func5, Tryz.ntmps5
    go_wp2_with fail
    refine (szOps_any ao C.length cap _ hn).mono ?_
    rintro e w0 ⟨rfl, rfl⟩
    rw [if_neg hl]
    go_wp2_with fail
    go_ret
    exact ⟨rfl, Below.refl _ _⟩
  have hB0 := Below.refl w.heap.size w
  go_enter Tryz.func5, Tryz.ntmps5
  go_wp2_with fail
  refine (szOps_any ao C.length cap _ hn).mono ?_
  rintro e w0 ⟨rfl, hw0⟩
  rw [hw0, if_pos hl]
  clear hw0
  go_wp2_with fail
  refine (toOps_any C ao cap _ hl (h.below hB0)).mono ?_
  rintro e w1 ⟨g1, rfl, oc1, hb1⟩
  have hz1 := hb1.size
  have hB1 : Below w.heap.size w w1 := hb1
  clear hb1
  go_wp2_with fail
  refine (specCodeReach_any C (some ⟨g1, 0, none⟩) C.length _ hl oc1.codeAt).mono ?_
  rintro e w2 ⟨v2, L, rfl, hR, ho2, hb2⟩
  have hLb : L.length ≤ 1048576 := by have := reachOf_len hR; omega
  have hz2 := hb2.size
  have hB2 : Below w.heap.size w w2 := hB1.trans (hb2.mono (by omega))
  have hI := Owns.ints ho2
  clear hb2 ho2 oc1
  go_wp2_with fail
  refine (toOps_any C ao cap _ hl (h.below hB2)).mono ?_
  rintro e w3 ⟨g3, rfl, oc, hb3⟩
  have hz3 := hb3.size
  have hB3 : Below w.heap.size w w3 := hB2.trans (hb3.mono (by omega))
  have hg3 : g3 < w3.heap.size := oc.lt
  replace hI : Ints w2.heap.size w3 v2 L := hI.below (hb3.mono (by omega))
  clear hb3
  go_wp2_with fail
  refine (implCodeReach_any C (some ⟨g3, 0, none⟩) C.length _ hl oc.codeAt).mono ?_
  rintro e w4 ⟨v4, L4, rfl, hR4, hO, hb4⟩
  obtain rfl := reachOf_one hR hR4
  have hz4 := hb4.size
  have hB4 : Below w.heap.size w w4 := hB3.trans (hb4.mono (by omega))
  replace hI : Ints w2.heap.size w4 v2 L := hI.below (hb4.mono (by omega))
  replace oc : OwnCode w4 w2.heap.size g3 C := oc.below hb4
  clear hb4
  go_wp2_with fail
  refine (eqInts_same w4.heap.size L v4 v2 _ hLb (Owns.ints hO) (hI.mono (by omega))).mono ?_
  rintro e w5 ⟨rfl, hb5⟩
  have hz5 := hb5.size
  have hB5 : Below w.heap.size w w5 := hB4.trans (hb5.mono (by omega))
  replace hI : Ints w2.heap.size w5 v2 L := hI.below (hb5.mono (by omega))
  replace hO : Owns w5 w3.heap.size v4 L := Owns.below hO hb5
  replace oc : OwnCode w5 w2.heap.size g3 C := oc.below hb5
  clear hb5
  go_wp2_with fail
  refine (toOps_any C ao cap _ hl (h.below hB5)).mono ?_
  rintro e w6 ⟨g6, rfl, oc6, hb6⟩
  have hz6 := hb6.size
  have hB6 : Below w.heap.size w w6 := hB5.trans (hb6.mono (by omega))
  replace hI : Ints w2.heap.size w6 v2 L := hI.below (hb6.mono (by omega))
  replace hO : Owns w6 w3.heap.size v4 L := Owns.below hO hb6
  replace oc : OwnCode w6 w2.heap.size g3 C := oc.below hb6
  clear hb6
  go_wp2_with fail
  refine (eqOps_same C g3 g6 _ _ _ hl oc.steps oc6.steps).mono ?_
  rintro e w7 ⟨rfl, hb7⟩
  have hz7 := hb7.size
  have hB7 : Below w.heap.size w w7 := hB6.trans (hb7.mono (by omega))
  replace hI : Ints w2.heap.size w7 v2 L := hI.below (hb7.mono (by omega))
  replace hO : Owns w7 w3.heap.size v4 L := Owns.below hO hb7
  replace oc : OwnCode w7 w2.heap.size g3 C := oc.below hb7
  clear hb7
  go_wp2_with fail
  refine (markOps_any C w2.heap.size g3 _ _ hl oc).mono ?_
  rintro e w8 ⟨⟨m8, rfl, hm8⟩, bt8⟩
  have hb8 : Below w2.heap.size w7 w8 := bt8.below oc.ge (by omega)
  have hz8 := bt8.size
  have hB8 : Below w.heap.size w w8 := hB7.trans (hb8.mono (by omega))
  replace hI : Ints w2.heap.size w8 v2 L := hI.below hb8
  replace hO : Owns w8 w3.heap.size v4 L := Owns.keep hO bt8.grown (by intro k e; cases e; exact hg3)
  clear hb8 bt8 oc oc6
  go_wp2_with fail
  refine (eqInts_same w8.heap.size L v4 v2 _ hLb (Owns.ints hO) (hI.mono (by omega))).mono ?_
  rintro e w9 ⟨rfl, hb9⟩
  have hz9 := hb9.size
  have hB9 : Below w.heap.size w w9 := hB8.trans (hb9.mono (by omega))
  replace hI : Ints w2.heap.size w9 v2 L := hI.below (hb9.mono (by omega))
  replace hO : Owns w9 w3.heap.size v4 L := Owns.below hO hb9
  clear hb9
  go_wp2_with fail
  refine (markInts_any w3.heap.size L v4 _ hLb hO).mono ?_
  rintro e w10 ⟨rfl, hO10, gr10⟩
  have hz10 := gr10.size
  have hb10 : Below w3.heap.size w9 w10 := (Below.refl _ _).grown gr10 (by omega) (fun k e => (World.ownsRow.lt hO k e).1)
  have hB10 : Below w.heap.size w w10 := hB9.trans (hb10.mono (by omega))
  replace hI : Ints w2.heap.size w10 v2 L := hI.below (hb10.mono (by omega))
  replace hO : Owns w10 w3.heap.size v4 (ups L.length) := hO10
  clear hb10 gr10 hO10
  go_wp2_with fail
  refine (heldInts_any w10.heap.size L.length v4 _ hLb (Owns.ints hO)).mono ?_
  rintro e w11 ⟨rfl, hw11⟩
  subst hw11
  go_wp2_with fail
  refine (toOps_any C ao cap _ hl (h.below hB10)).mono ?_
  rintro e w12 ⟨g12, rfl, oc12, hb12⟩
  have hz12 := hb12.size
  have hB12 : Below w.heap.size w w12 := hB10.trans (hb12.mono (by omega))
  replace hI : Ints w2.heap.size w12 v2 L := hI.below (hb12.mono (by omega))
  replace hO : Owns w12 w3.heap.size v4 (ups L.length) := Owns.below hO hb12
  clear hb12
  go_wp2_with fail
  refine (implCodeReach_any C (some ⟨g12, 0, none⟩) C.length _ hl oc12.codeAt).mono ?_
  rintro e w13 ⟨v13, L13, rfl, hR13, hO13, hb13⟩
  obtain rfl := reachOf_one hR hR13
  have hz13 := hb13.size
  have hB13 : Below w.heap.size w w13 := hB12.trans (hb13.mono (by omega))
  replace hI : Ints w2.heap.size w13 v2 L := hI.below (hb13.mono (by omega))
  replace hO : Owns w13 w3.heap.size v4 (ups L.length) := Owns.below hO hb13
  clear hb13
  go_wp2_with fail
  refine (eqInts_same w13.heap.size L v13 v2 _ hLb (Owns.ints hO13) (hI.mono (by omega))).mono ?_
  rintro e w14 ⟨rfl, hb14⟩
  have hz14 := hb14.size
  have hB14 : Below w.heap.size w w14 := hB13.trans (hb14.mono (by omega))
  replace hI : Ints w2.heap.size w14 v2 L := hI.below (hb14.mono (by omega))
  replace hO : Owns w14 w3.heap.size v4 (ups L.length) := Owns.below hO hb14
  clear hb14
  go_wp2_with fail
  refine (heldInts_any w14.heap.size L.length v4 _ hLb (Owns.ints hO)).mono ?_
  rintro e w15 ⟨rfl, hw15⟩
  subst hw15
  go_wp2_with fail
  go_ret
  exact ⟨rfl, hB14⟩

set_option maxRecDepth 20000 in
theorem contract (H : Type) (enc : TypeId × Value → H) (W : World) (base : Nat) (args : Array Value) (ds gs : List (DataW H)) (before : List MemPlace)
    (hval : ∀ (j : Nat) t v, Tryz.f5.params[j]? = some t → args[j]? = some v → Value.okWide Tryz.prog W .any base t v)
    (hW : DataW.Whole enc Tryz.prog Tryz.f5.params.toList Rows.fnExactCodeReachSpec.vars false W args.toList ds gs before) (_hL : laidMetH Tryz.prog Rows.fnExactCodeReachRow.laid W) :
    Calls Tryz.prog 5 args W fun e W' => ∃ v, e = .returned v ∧ Rows.fnExactCodeReachSpec.post enc Tryz.prog Tryz.f5 false true false false W args v W' := by
  have hW' := hW
  obtain ⟨p, q, hA0, hV, rfl, hfz, hnd⟩ := hW
  have hA : DataW.TrodAll enc Tryz.prog W 0 (fun _ => true) true Tryz.f5.params.toList args.toList ds p := hA0
  rw [Tryz.params5] at hA hval
  obtain ⟨v0, vs0, d0, ds0, p0, q0, hargs, rfl, rfl, h0, r0⟩ := trodAll_cons hA
  obtain ⟨rfl, rfl, rfl⟩ := trodAll_nil r0
  obtain rfl : args = #[v0] := by cases args; simp_all
  obtain ⟨rfl, rfl⟩ := trodVars_none hV
  obtain ⟨a0, len0, cap0, rfl⟩ := okWide_slice Tryz.underlying22 (hval 0 22 v0 rfl rfl)
  have k0 := h0
  have lt0 : ∀ x ∈ p0, x.block < W.heap.size := by obtain ⟨m, hm⟩ := k0; exact DataW.trod_lt m _ _ _ hm
  obtain ⟨C0, rfl, hC0, hn0⟩ := code_in h0
  clear hA0
  refine (walk C0 a0 cap0 W hn0 hC0).mono fun e W' ⟨he, bel⟩ => ?_
  subst he
  exact ⟨_, rfl, _, _, _, [], _, [], hW', trodAll_mk1 (shut_bool Tryz.underlying4 _), (trodAll_cons_mk (Below.trod laidOut (by kernel_rfl) (of_decide_eq_true (by kernel_rfl)) k0 bel lt0) trodAll_mk0), rfl, bel.frame _, fun h => by cases h⟩
theorem laid_met (os : Os) : laidMet Tryz.prog Rows.fnExactCodeReachRow.laid ((putAll (World.settled Tryz.prog os).heap.size (World.holding Tryz.prog os ⟨errBlocks, #[], []⟩)).forCall (fun _ _ => 0) ⟨#[], #[.slice none 0 0], []⟩).memory :=
  laidMet_of_run' 10 (by kernel_rfl) (by kernel_rfl)
theorem reads (os : Os) {H : Type} (enc : TypeId × Value → H) : ∃ places, DataW.whole enc Tryz.prog ((putAll (World.settled Tryz.prog os).heap.size (World.holding Tryz.prog os ⟨errBlocks, #[], []⟩)).forCall (fun _ _ => 0) ⟨#[], #[.slice none 0 0], []⟩).memory Tryz.f5.params.toList Rows.fnExactCodeReachSpec.vars false #[.slice none 0 0].toList 8 = some ([.nil], [], places) :=
  ⟨[], by kernel_rfl⟩
set_option maxRecDepth 100000 in
theorem lifted (os : Os) (started : os.Started) (H : Type) (enc : TypeId × Value → H) (F : Stop.Interp) :
    ReturnsInHanded {} Tryz.checked os 5 .any ((OpenSpec.ofChange Rows.fnExactCodeReachSpec).preRow enc Tryz.prog Tryz.f5 Rows.fnExactCodeReachRow.domain false Rows.fnExactCodeReachRow.laid) (((OpenSpec.ofChange Rows.fnExactCodeReachSpec).at F).post enc Tryz.prog Tryz.f5 false true false false) := by
  obtain ⟨places, hx⟩ := reads os enc
  refine returnsInHanded_of_row (C := Tryz.checked) (s := OpenSpec.ofChange Rows.fnExactCodeReachSpec) own started (by kernel_rfl) Tryz.func5
    (witness_row_atRef (enc := enc) (C := Tryz.checked) false (putAll (World.settled Tryz.prog os).heap.size (World.holding Tryz.prog os ⟨errBlocks, #[], []⟩)) #[.slice none 0 0] rfl (by kernel_rfl) (by kernel_rfl) (by kernel_rfl)
      (OpenSpec.preRow_of_cond 8 hx (by kernel_rfl) (fun k hk => by cases hk) (by kernel_rfl) (laid_met os))) ?_
  intro W base args ds gs before hval hW _ _ _ hL _ _
  exact contract H enc W base args ds gs before hval hW hL
theorem said : Rows.FnExactCodeReachSaid :=
  OpenClaim.holds_of_cond 5 Tryz.f5 rfl rfl rfl rfl rfl rfl rfl ⟨rfl, rfl, rfl, rfl, rfl⟩ rfl rfl rfl rfl rfl (by kernel_rfl) Tryz.func5 (by kernel_rfl)
    (of_decide_eq_true (by kernel_rfl)) (by unfold Func.isWrapper; first | (rw [if_pos (by decide +kernel)]; kernel_rfl) | (rw [if_neg (by decide +kernel)]; exact ⟨rfl, rfl⟩))
    (fun os started H enc _ F => by rw [OpenClaim.pre_eq_preRow]; exact lifted os started H enc F)
theorem plain (f : FuncId) (fn : Func) (hf : Tryz.pinned.checked.prog.funcNamed Rows.fnExactCodeReachRow.func = some f) (hfn : Tryz.pinned.checked.prog.funcs[f]? = some fn) :
    true = Tryz.pinned.checked.prog.looks [] ∧ ∀ (j : Nat) t, fn.params[j]? = some t → Tryz.pinned.checked.prog.wantsStandIn t = false := by
  obtain rfl : f = 5 := Option.some.inj ((show Tryz.prog.funcNamed Rows.fnExactCodeReachRow.func = some 5 by kernel_rfl).symm.trans hf) |>.symm
  obtain rfl : fn = Tryz.f5 := (Option.some.inj (Tryz.func5.symm.trans hfn)).symm
  refine ⟨by kernel_rfl, fun j t ht => ?_⟩
  rw [Tryz.params5] at ht
  obtain rfl : t = 22 := by simpa using Array.mem_of_getElem? ht
  exact (show Tryz.prog.wantsStandIn 22 = false by kernel_rfl)
theorem card : Rows.FnExactCodeReachCardSaid :=
  Claim7.holds_tied_plain_at .later [] _ _ _ _ said (fun _ h => by cases h) (by kernel_rfl) (fun _ h => by cases h) fnExactCodeReach_row_tie rfl ⟨rfl, rfl⟩ (by kernel_rfl) rfl plain (by kernel_rfl)
end ExactCodeReach

/-- the given statement -/
theorem exactCodeReach_holds : Rows.FnExactCodeReachCardSaid := ExactCodeReach.card
#print axioms exactCodeReach_holds
end Go.Proofs.YtphgpimkkfgedaaGreatDoor
