/-
  For every code of at most 2^20 bytes: by the steps that are drawn, impl.CodeReach answers as the specification does, and the places that can be come to are just those at which impl.CodeFull tells slots; the first of them is 0. Longer codes are let by. No condition but that the tables and errors of strconv are as their initialisers lay them.
-/
import Derived.Test.YtjhpaoadpcnlnaaGreatDoorZa19
import Derived.Test.YtjhpaoadpcnlnaaGreatDoorZa23
import Derived.Test.YtjhpaoadpcnlnaaGreatDoorZa25
import Derived.Test.YtjhpaoadpcnlnaaGreatDoorZa26
import Derived.Test.YtjhpaoadpcnlnaaGreatDoorFcFnFullReach
namespace Go.Proofs.YtjhpaoadpcnlnaaGreatDoor
open Go.ChangeShapes Go.WideShapes Go.ChangeAt Go.RowKit Go.Joins
namespace FullReach
set_option maxRecDepth 20000 in
set_option maxHeartbeats 4000000 in
theorem walk (a : Option Addr) (len cap : Nat) (w : World) (h : Code0 w a len cap) :
    Calls Tryz.prog 9 #[.slice a len cap] w fun e w' => e = .returned (.bool true) ∧ Below w.heap.size w w' := by
  by_cases hlen : len ≤ 1048576
  · have g0 : ¬ (1048576 : Int) < (len : Int) := by omega
    go_enter Tryz.func9, Tryz.ntmps9
    go_wp2_with fail
    refine (drawReach_any a len cap _ h).mono ?_
    rintro e w1 ⟨C, v, rfl, hC17, hO1, hB1⟩
    have hz1 := hB1.size
    obtain ⟨ao, cp, rfl, hC1, _⟩ := hO1.code
    have hl : C.length ≤ 1048576 := by omega
    clear hO1
    go_wp2_with fail
    refine (implCodeReach_any C ao cp _ hl hC1).mono ?_
    rintro e w2 ⟨v2, L, rfl, hR2, hO2, hb2⟩
    have hz2 := hb2.size
    have hB2 : Below w.heap.size w w2 := hB1.trans (hb2.mono (by omega))
    have hC2 := hC1.below hb2
    have hLl : L.length ≤ 1048576 := by have := reachOf_len hR2; omega
    have hI2 := Owns.ints hO2
    clear hO2 hb2 hB1 hC1
    go_wp2_with fail
    refine (specCodeReach_any C ao cp _ hl hC2).mono ?_
    rintro e w3 ⟨v3, L3, rfl, hR3, hO3, hb3⟩
    obtain rfl := reachOf_one hR2 hR3
    have hz3 := hb3.size
    have hB3 : Below w.heap.size w w3 := hB2.trans (hb3.mono (by omega))
    have hC3 := hC2.below hb3
    have hI3 := hI2.below hb3
    clear hb3 hB2 hC2 hI2 hR3
    go_wp2_with fail
    refine (lvInts_same w3.heap.size L _ _ _ hLl (hI3.mono (by omega)) (Owns.ints hO3)).mono ?_
    rintro e w4 ⟨rfl, hb4⟩
    have hz4 := hb4.size
    have hB4 : Below w.heap.size w w4 := hB3.trans (hb4.mono (by omega))
    have hC4 := hC3.below hb4
    have hI4 := hI3.below (hb4.mono (by omega))
    clear hb4 hB3 hC3 hI3 hO3
    obtain ⟨ao2, cp2, rfl, hI4'⟩ := id hI4
    by_cases hL0 : L.length = 0
    · have hL1 : ((L.length : Int) == 0) = true := by simp [hL0]
      replace hL0 : Hid (L.length = 0) := hL0
      go_wp2_with fail
      refine (specCodeReach_any C ao cp _ hl hC4).mono ?_
      rintro e w5 ⟨v5, L5, rfl, hR5, hO5, hb5⟩
      obtain rfl := reachOf_one hR2 hR5
      have hz5 := hb5.size
      have hB5 : Below w.heap.size w w5 := hB4.trans (hb5.mono (by omega))
      have hI5 := hI4.below (hb5.mono (by omega))
      go_wp2_with fail
      refine (lvInts_same w5.heap.size L _ _ _ hLl (hI5.mono (by omega)) (Owns.ints hO5)).mono ?_
      rintro e w6 ⟨rfl, hb6⟩
      go_wp2_with fail
      go_ret
      exact ⟨rfl, hB5.trans (hb6.mono (by omega))⟩
    · have hL1 : ((L.length : Int) == 0) = false := by simp [hL0]
      obtain ⟨hcb, R, hR, hLR⟩ := reach_code hR2 hL0
      replace hcb : Hid (codeB C = true) := hcb
      replace hLR : Hid (L = toI (sortR C.length R)) := hLR
      replace hL0 : Hid (L.length ≠ 0) := hL0
      go_wp2_with fail
      refine (implCodeFull_any C ao cp _ hl hC4).mono ?_
      rintro e w5 ⟨v5, V, rfl, hF5, hO5, hb5⟩
      have hz5 := hb5.size
      have hB5 : Below w.heap.size w w5 := hB4.trans (hb5.mono (by omega))
      have hI5 := hI4.below (hb5.mono (by omega))
      have hV := full_code hF5 hcb.out
      have hVl : Hid (V.length = C.length) := full_len hV
      have hhas : Hid (∀ i : Nat, i < C.length → hasI L (i : Int) = decide (0 ≤ atV V i)) := fun i hi => by rw [hLR.out]; exact reach_has hcb.out hV hR i hi
      have hfst : Hid (∀ h : 0 < L.length, L[0] = 0) := by
        show ∀ h : 0 < L.length, L[0] = 0
        have := hLR.out
        subst this
        exact fun h => reach_first hcb.out hR h
      obtain ⟨ao5, cp5, rfl, hV5⟩ := Owns.ints hO5
      clear hb5 hC4 hI4 hI4' hF5 hV hR hO5 hR2
      go_wp2_with fail
      have hC0 : 0 < C.length := (codeB_well hcb.out).1.1
      rcases hV5 with hV0 | ⟨b5, o5, rfl, hb5, hc5⟩
      · have := hVl.out; rw [hV0] at this; simp at this; omega
      replace hc5 : Hid (∀ i (h : i < V.length), w5.cell? ⟨b5, o5 + i, none⟩ = some (.int .i64 V[i])) := hc5
      go_loopw [6] (fun i wr => ∃ k : Nat, k ≤ C.length ∧ i = .int .i64 k ∧ Below w5.heap.size w5 wr) (fun i _ => C.length - (intOf i).toNat)
      case atStart => exact ⟨0, Nat.zero_le _, rfl, Below.refl _ _⟩
      case round =>
        obtain ⟨k, hk, rfl, hBr⟩ := hrel
        have hzr := hBr.size
        have hIr := hI5.below (hBr.mono (by omega))
        by_cases hlt : k < C.length
        · have hkV : k < V.length := by have := hVl.out; omega
          have g1 : (k : Int) < (C.length : Int) := by omega
          have g2 : (k : Int) < (V.length : Int) := by omega
          have c0 : wr.cell? ⟨b5, o5 + k, none⟩ = some (.int .i64 (atV V k)) := by rw [atV_at hkV]; exact (hBr.cell (p := ⟨b5, o5 + k, none⟩) hb5).trans (hc5.out k hkV)
          have hh := hhas.out k hlt
          generalize atV V k = x at *
          have hIr := hIr.mono (show _ ≤ w5.heap.size by omega)
          by_cases hx : 0 ≤ x
          · skip
            have hh' : hasI L (k : Int) = true := by rw [hh]; simp [hx]
            replace hh' : Hid (hasI L (k : Int) = true) := hh'
            clear hh
            go_wp2_with fail
            go_region_with (go_at_call 38; refine (lvAmong_any w5.heap.size L _ _ _ hLl (by first | exact hIr | exact hIr.drew | exact hIr.drew.drew)).mono ?_; rintro e w6 ⟨rfl, rfl⟩; rw [hh'.out])
            all_goals
              go_step
              go_wp2_with fail
              go_roundw
              case rel => exact ⟨k + 1, by omega, by go_num, hBr.drew⟩
              case measure => simp [intOf]; omega
          · skip
            have hh' : hasI L (k : Int) = false := by rw [hh]; simp [hx]
            replace hh' : Hid (hasI L (k : Int) = false) := hh'
            clear hh
            go_wp2_with fail
            go_region_with (go_at_call 38; refine (lvAmong_any w5.heap.size L _ _ _ hLl (by first | exact hIr | exact hIr.drew | exact hIr.drew.drew)).mono ?_; rintro e w6 ⟨rfl, rfl⟩; rw [hh'.out])
            all_goals
              go_step
              go_wp2_with fail
              go_roundw
              case rel => exact ⟨k + 1, by omega, by go_num, hBr.drew⟩
              case measure => simp [intOf]; omega
        · have e : k = C.length := by omega
          subst e
          rcases hI5.below (hBr.mono (by omega)) with ⟨ao6, cp6, hv6, hc6⟩
          rcases hc6 with hc6 | ⟨b6, o6, hao6, hb6, hc6⟩
          · exact absurd (by rw [hc6]; rfl) hL0.out
          injection hv6 with hv61 _ _
          subst hv61
          subst hao6
          have hLp : 0 < L.length := by have := hL0.out; omega
          have g3 : (0 : Int) < (L.length : Int) := by omega
          have c1 : wr.cell? ⟨b6, o6, none⟩ = some (.int .i64 0) := by have := hc6 0 hLp; rw [hfst.out hLp] at this; exact this
          clear hc6
          go_wp2_with fail
          go_ret
          exact ⟨rfl, hB5.trans (hBr.mono (by omega))⟩
  · have g0 : (1048576 : Int) < (len : Int) := by omega
    go_enter Tryz.func9, Tryz.ntmps9
    go_wp2_with fail
    go_ret
    exact ⟨rfl, Below.refl _ _⟩

set_option maxRecDepth 20000 in
theorem contract (H : Type) (enc : TypeId × Value → H) (W : World) (base : Nat) (args : Array Value) (ds gs : List (DataW H)) (before : List MemPlace)
    (hval : ∀ (j : Nat) t v, Tryz.f9.params[j]? = some t → args[j]? = some v → Value.okWide Tryz.prog W .any base t v)
    (hW : DataW.Whole enc Tryz.prog Tryz.f9.params.toList Rows.fnFullReachSpec.vars false W args.toList ds gs before) (_hL : laidMetH Tryz.prog Rows.fnFullReachRow.laid W) :
    Calls Tryz.prog 9 args W fun e W' => ∃ v, e = .returned v ∧ Rows.fnFullReachSpec.post enc Tryz.prog Tryz.f9 false true false false W args v W' := by
  have hW' := hW
  obtain ⟨p, q, hA0, hV, rfl, hfz, hnd⟩ := hW
  have hA : DataW.TrodAll enc Tryz.prog W 0 (fun _ => true) true Tryz.f9.params.toList args.toList ds p := hA0
  rw [Tryz.params9] at hA hval
  obtain ⟨v0, vs0, d0, ds0, p0, q0, hargs, rfl, rfl, h0, r0⟩ := trodAll_cons hA
  obtain ⟨rfl, rfl, rfl⟩ := trodAll_nil r0
  obtain rfl : args = #[v0] := by cases args; simp_all
  obtain ⟨rfl, rfl⟩ := trodVars_none hV
  obtain ⟨a0, len0, cap0, rfl⟩ := okWide_slice Tryz.underlying22 (hval 0 22 v0 rfl rfl)
  have k0 := h0
  have lt0 : ∀ x ∈ p0, x.block < W.heap.size := by obtain ⟨m, hm⟩ := k0; exact DataW.trod_lt m _ _ _ hm
  have w0 : Code0 W a0 len0 cap0 := by
    obtain ⟨fuel, hf⟩ := h0
    rcases open_ints Tryz.underlying22 Tryz.underlying5 (by kernel_rfl) hf with ⟨hcs, _⟩ | ⟨x, l, c, zs, hcs, _, hl, hm, hz, _, hcell, hwz⟩
    · simp [Value.cells] at hcs
      obtain ⟨rfl, rfl, rfl⟩ := hcs
      exact code_of_row (zs := []) (.inl ⟨rfl, rfl, rfl, rfl⟩)
    · simp [Value.cells] at hcs
      obtain ⟨rfl, rfl, rfl⟩ := hcs
      exact code_of_row (zs := zs) (.inr ⟨_, rfl, hl, hm, by simpa using hz, hcell, hwz⟩)
  clear hA0
  refine (walk a0 len0 cap0 W w0).mono fun e W' ⟨he, bel⟩ => ?_
  subst he
  exact ⟨_, rfl, _, _, _, [], _, [], hW', trodAll_mk1 (shut_bool Tryz.underlying4 _), (trodAll_cons_mk (Below.trod laidOut (by kernel_rfl) (of_decide_eq_true (by kernel_rfl)) k0 bel lt0) trodAll_mk0), rfl, bel.frame _, fun h => by cases h⟩
theorem laid_met (os : Os) : laidMet Tryz.prog Rows.fnFullReachRow.laid ((putAll (World.settled Tryz.prog os).heap.size (World.holding Tryz.prog os ⟨errBlocks, #[], []⟩)).forCall (fun _ _ => 0) ⟨#[], #[.slice none 0 0], []⟩).memory :=
  laidMet_of_run' 10 (by kernel_rfl) (by kernel_rfl)
theorem reads (os : Os) {H : Type} (enc : TypeId × Value → H) : ∃ places, DataW.whole enc Tryz.prog ((putAll (World.settled Tryz.prog os).heap.size (World.holding Tryz.prog os ⟨errBlocks, #[], []⟩)).forCall (fun _ _ => 0) ⟨#[], #[.slice none 0 0], []⟩).memory Tryz.f9.params.toList Rows.fnFullReachSpec.vars false #[.slice none 0 0].toList 8 = some ([.nil], [], places) :=
  ⟨[], by kernel_rfl⟩
set_option maxRecDepth 100000 in
theorem lifted (os : Os) (started : os.Started) (H : Type) (enc : TypeId × Value → H) (F : Stop.Interp) :
    ReturnsInHanded {} Tryz.checked os 9 .any ((OpenSpec.ofChange Rows.fnFullReachSpec).preRow enc Tryz.prog Tryz.f9 Rows.fnFullReachRow.domain false Rows.fnFullReachRow.laid) (((OpenSpec.ofChange Rows.fnFullReachSpec).at F).post enc Tryz.prog Tryz.f9 false true false false) := by
  obtain ⟨places, hx⟩ := reads os enc
  refine returnsInHanded_of_row (C := Tryz.checked) (s := OpenSpec.ofChange Rows.fnFullReachSpec) own started (by kernel_rfl) Tryz.func9
    (witness_row_atRef (enc := enc) (C := Tryz.checked) false (putAll (World.settled Tryz.prog os).heap.size (World.holding Tryz.prog os ⟨errBlocks, #[], []⟩)) #[.slice none 0 0] rfl (by kernel_rfl) (by kernel_rfl) (by kernel_rfl)
      (OpenSpec.preRow_of_cond 8 hx (by kernel_rfl) (fun k hk => by cases hk) (by kernel_rfl) (laid_met os))) ?_
  intro W base args ds gs before hval hW _ _ _ hL _ _
  exact contract H enc W base args ds gs before hval hW hL
set_option maxRecDepth 100000 in
theorem said : Rows.FnFullReachSaid :=
  OpenClaim.holds_of_cond 9 Tryz.f9 rfl rfl rfl rfl rfl rfl rfl ⟨rfl, rfl, rfl, rfl, rfl⟩ rfl rfl rfl rfl rfl (by kernel_rfl) Tryz.func9 FcFnFullReach.closed
    (of_decide_eq_true (by kernel_rfl)) (by unfold Func.isWrapper; first | (rw [if_pos (by decide +kernel)]; kernel_rfl) | (rw [if_neg (by decide +kernel)]; exact ⟨rfl, rfl⟩))
    (fun os started H enc _ F => by rw [OpenClaim.pre_eq_preRow]; exact lifted os started H enc F)
theorem plain (f : FuncId) (fn : Func) (hf : Tryz.pinned.checked.prog.funcNamed Rows.fnFullReachRow.func = some f) (hfn : Tryz.pinned.checked.prog.funcs[f]? = some fn) :
    true = Tryz.pinned.checked.prog.looks [] ∧ ∀ (j : Nat) t, fn.params[j]? = some t → Tryz.pinned.checked.prog.wantsStandIn t = false := by
  obtain rfl : f = 9 := Option.some.inj ((show Tryz.prog.funcNamed Rows.fnFullReachRow.func = some 9 by kernel_rfl).symm.trans hf) |>.symm
  obtain rfl : fn = Tryz.f9 := (Option.some.inj (Tryz.func9.symm.trans hfn)).symm
  refine ⟨by kernel_rfl, fun j t ht => ?_⟩
  rw [Tryz.params9] at ht
  obtain rfl : t = 22 := by simpa using Array.mem_of_getElem? ht
  exact (show Tryz.prog.wantsStandIn 22 = false by kernel_rfl)
theorem card : Rows.FnFullReachCardSaid :=
  Claim7.holds_tied_plain_at .later [] _ _ _ _ said (fun _ h => by cases h) (by kernel_rfl) (fun _ h => by cases h) fnFullReach_row_tie rfl ⟨rfl, rfl⟩ (by kernel_rfl) rfl plain (by kernel_rfl)
end FullReach

/-- the given statement -/
theorem fullReach_holds : Rows.FnFullReachCardSaid := FullReach.card
#print axioms fullReach_holds
end Go.Proofs.YtjhpaoadpcnlnaaGreatDoor
