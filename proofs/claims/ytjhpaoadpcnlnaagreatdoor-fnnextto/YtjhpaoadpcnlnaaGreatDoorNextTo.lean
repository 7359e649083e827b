/-
  For every two codes of at most 2^20 bytes: of the steps and the place that are drawn, impl.CodeNext answers as the specification does, and, where the steps are ok, from any place of them one comes to places that there are, each told once, at most two. Longer codes are let by. No condition but that the tables and errors of strconv are as their initialisers lay them.
-/
import Derived.Test.YtjhpaoadpcnlnaaGreatDoorZa19
import Derived.Test.YtjhpaoadpcnlnaaGreatDoorZa23
import Derived.Test.YtjhpaoadpcnlnaaGreatDoorZa24
import Derived.Test.YtjhpaoadpcnlnaaGreatDoorZa25
import Derived.Test.YtjhpaoadpcnlnaaGreatDoorZa26
import Derived.Test.YtjhpaoadpcnlnaaGreatDoorFcFnNextTo
namespace Go.Proofs.YtjhpaoadpcnlnaaGreatDoor
open Go.ChangeShapes Go.WideShapes Go.ChangeAt Go.RowKit Go.Joins
namespace NextTo
set_option maxRecDepth 20000 in
set_option maxHeartbeats 8000000 in
theorem walk (a : Option Addr) (len cap : Nat) (a2 : Option Addr) (len2 cap2 : Nat) (w : World) (h : Code0 w a len cap) (_h2 : Code0 w a2 len2 cap2) :
    Calls Tryz.prog 16 #[.slice a len cap, .slice a2 len2 cap2] w fun e w' => e = .returned (.bool true) ∧ Below w.heap.size w w' := by
  by_cases hlen : len ≤ 1048576
  case neg =>
    have g0 : (1048576 : Int) < (len : Int) := by omega
    go_enter Tryz.func16, Tryz.ntmps16
    go_wp2_with fail
    go_ret
    exact ⟨rfl, Below.refl _ _⟩
  by_cases hlen2 : len2 ≤ 1048576
  · have g0 : ¬ (1048576 : Int) < (len : Int) := by omega
    have g9 : ¬ (1048576 : Int) < (len2 : Int) := by omega
    go_enter Tryz.func16, Tryz.ntmps16
    go_wp2_with fail
    refine (drawNext_any a len cap _ h).mono ?_
    rintro e w1 ⟨C, v, i, rfl, hC17, hi, hO1, hB1⟩
    have hz1 := hB1.size
    obtain ⟨ao, cp, rfl, hC1, _⟩ := hO1.code
    have hl : C.length ≤ 1048576 := by omega
    clear hO1
    go_wp2_with fail
    refine (implCodeNext_any C ao cp i _ hl hC1).mono ?_
    rintro e w2 ⟨v2, rfl, hO2, hb2⟩
    have hz2 := hb2.size
    have hB2 : Below w.heap.size w w2 := hB1.trans (hb2.mono (by omega))
    have hC2 := hC1.below hb2
    have hLl := nkI_len C i
    have hLl' : (nextI C i).length ≤ 1048576 := by omega
    have hI2 := Owns.ints hO2
    clear hO2 hb2 hB1 hC1
    go_wp2_with fail
    refine (specCodeNext_any C ao cp i _ hl (by omega) (by omega) hC2).mono ?_
    rintro e w3 ⟨v3, rfl, hO3, hb3⟩
    have hz3 := hb3.size
    have hB3 : Below w.heap.size w w3 := hB2.trans (hb3.mono (by omega))
    have hC3 := hC2.below hb3
    have hI3 := hI2.below hb3
    clear hb3 hB2 hC2 hI2
    go_wp2_with fail
    refine (lvInts_same w3.heap.size (nextI C i) _ _ _ hLl' (hI3.mono (by omega)) (Owns.ints hO3)).mono ?_
    rintro e w4 ⟨rfl, hb4⟩
    have hz4 := hb4.size
    have hB4 : Below w.heap.size w w4 := hB3.trans (hb4.mono (by omega))
    have hC4 := hC3.below hb4
    have hI4 := hI3.below (hb4.mono (by omega))
    clear hb4 hB3 hC3 hI3 hO3
    go_wp2_with fail
    refine (specCodeOk_any C ao cp _ hl hC4).mono ?_
    rintro e w5 ⟨rfl, hb5⟩
    have hz5 := hb5.size
    have hB5 : Below w.heap.size w w5 := hB4.trans (hb5.mono (by omega))
    have hC5 := hC4.below hb5
    have hI5 := hI4.below (hb5.mono (by omega))
    clear hb5 hB4 hC4 hI4
    cases hcb : codeB C with
    | false =>
      go_wp2_with fail
      refine (specCodeNext_any C ao cp i _ hl (by omega) (by omega) hC5).mono ?_
      rintro e w6 ⟨v6, rfl, hO6, hb6⟩
      have hz6 := hb6.size
      have hI6 := hI5.below (hb6.mono (by omega))
      go_wp2_with fail
      refine (lvInts_same w6.heap.size (nextI C i) _ _ _ hLl' (hI6.mono (by omega)) (Owns.ints hO6)).mono ?_
      rintro e w7 ⟨rfl, hb7⟩
      go_wp2_with fail
      go_ret
      exact ⟨rfl, hB5.trans ((hb6.mono (by omega)).trans (hb7.mono (by omega)))⟩
    | true =>
    have hC0 : 0 < C.length := (codeB_well hcb).1.1
    have hnz : ((C.length : Int) == 0) = false := by rw [beq_eq_false_iff_ne]; omega
    have hmo : (len2 : Int) % (C.length : Int) = ((len2 % C.length : Nat) : Int) := by simp
    have hmt : (len2 : Int).tmod (C.length : Int) = ((len2 % C.length : Nat) : Int) := by rw [Int.tmod_eq_emod_of_nonneg (by omega)]; exact hmo
    have hml : len2 % C.length < C.length := Nat.mod_lt _ hC0
    have hbd : Hid (∀ x ∈ nextI C ((len2 % C.length : Nat) : Int), 0 ≤ x ∧ x < (C.length : Int)) := nkI_bd hcb hml
    replace hcb : Hid (codeB C = true) := hcb
    generalize len2 % C.length = m at *
    go_wp2_with fail
    refine (implCodeNext_any C ao cp (m : Int) _ hl hC5).mono ?_
    rintro e w6 ⟨v6, rfl, hO6, hb6⟩
    have hz6 := hb6.size
    have hB6 : Below w.heap.size w w6 := hB5.trans (hb6.mono (by omega))
    have hL2 : (nextI C (m : Int)).length ≤ 2 := nkI_len C m
    have hnd : Hid (nextI C (m : Int)).Nodup := nkI_nodup C m
    obtain ⟨ao6, cp6, rfl, hI6⟩ := Owns.ints hO6
    have hcap : (nextI C (m : Int)).length ≤ cp6 := by
      rcases hO6.2 with ⟨e1, e2⟩ | ⟨g, c, cur, hv, _, _, h1, _⟩
      · rw [e2]; exact Nat.zero_le _
      · injection hv with _ _ h3; rw [h3]; exact h1
    clear hO6 hb6 hC5 hI5 hLl hLl' hmo hmt hml hB5
    generalize nextI C (m : Int) = L at *
    rcases hI6 with rfl | ⟨b, o, rfl, hbl, hc⟩
    · go_wp2_with fail
      refine wp_loop_rounds 1 ?_
      rw [rounds_succ]
      go_wp2_with fail
      go_ret
      exact ⟨rfl, hB6⟩
    replace hc : Hid (∀ i (h : i < L.length), w6.cell? ⟨b, o + i, none⟩ = some (.int .i64 L[i])) := hc
    go_wp2_with fail
    go_loopw [9] (fun i wr => ∃ k : Nat, k ≤ L.length ∧ i = .int .i64 k ∧ Below w6.heap.size w6 wr) (fun i _ => L.length - (intOf i).toNat)
    case atStart => exact ⟨0, Nat.zero_le _, rfl, Below.refl _ _⟩
    case round =>
      obtain ⟨k, hk, rfl, hBr⟩ := hrel
      have hzr := hBr.size
      by_cases hlt : k < L.length
      · have g1 : (k : Int) < (L.length : Int) := by omega
        have g2 : (k : Int) ≤ (cp6 : Int) := by omega
        have c0 : wr.cell? ⟨b, o + k, none⟩ = some (.int .i64 L[k]) := (hBr.cell (p := ⟨b, o + k, none⟩) hbl).trans (hc.out k hlt)
        have hI : Ints w6.heap.size wr (.slice (some ⟨b, o, none⟩) k cp6) (L.take k) := Ints.take hbl (fun i hi => (hBr.cell (p := ⟨b, o + i, none⟩) hbl).trans (hc.out i hi)) k (by omega)
        have hno := hasI_take hnd.out k hlt
        obtain ⟨b1, b2⟩ := hbd.out L[k] (List.getElem_mem hlt)
        have b1' : ¬ L[k] < 0 := by omega
        have b2' : ¬ (C.length : Int) ≤ L[k] := by omega
        have htl : (L.take k).length ≤ 1048576 := by rw [List.length_take]; omega
        generalize L[k] = x at *
        go_wp2_with fail
        have b3 : decide (x < 0) = false := by simp; omega
        have b4 : decide ((C.length : Int) ≤ x) = false := by simp; omega
        go_quiet ((go_at_call 38; exact Calls.quiet_of_same (lvAmong_any w6.heap.size (L.take k) _ _ _ htl (hI.drewN _))))
        go_wp2_with fail
        go_roundw
        case rel => exact ⟨k + 1, by omega, by go_num, hBr.trans ⟨rfl, rfl, rfl, Nat.le_refl _, fun _ _ => rfl⟩⟩
        case measure => simp [intOf]; omega
      · have e : k = L.length := by omega
        subst e
        have g3 : (L.length : Int) ≤ 2 := by omega
        go_wp2_with fail
        go_ret
        exact ⟨rfl, hB6.trans (hBr.mono (by omega))⟩
  · have g0 : ¬ (1048576 : Int) < (len : Int) := by omega
    have g9 : (1048576 : Int) < (len2 : Int) := by omega
    go_enter Tryz.func16, Tryz.ntmps16
    go_wp2_with fail
    go_ret
    exact ⟨rfl, Below.refl _ _⟩

set_option maxRecDepth 20000 in
theorem contract (H : Type) (enc : TypeId × Value → H) (W : World) (base : Nat) (args : Array Value) (ds gs : List (DataW H)) (before : List MemPlace)
    (hval : ∀ (j : Nat) t v, Tryz.f16.params[j]? = some t → args[j]? = some v → Value.okWide Tryz.prog W .any base t v)
    (hW : DataW.Whole enc Tryz.prog Tryz.f16.params.toList Rows.fnNextToSpec.vars false W args.toList ds gs before) (_hL : laidMetH Tryz.prog Rows.fnNextToRow.laid W) :
    Calls Tryz.prog 16 args W fun e W' => ∃ v, e = .returned v ∧ Rows.fnNextToSpec.post enc Tryz.prog Tryz.f16 false true false false W args v W' := by
  have hW' := hW
  obtain ⟨p, q, hA0, hV, rfl, hfz, hnd⟩ := hW
  have hA : DataW.TrodAll enc Tryz.prog W 0 (fun _ => true) true Tryz.f16.params.toList args.toList ds p := hA0
  rw [Tryz.params16] at hA hval
  obtain ⟨v0, vs0, d0, ds0, p0, q0, hargs, rfl, rfl, h0, r0⟩ := trodAll_cons hA
  obtain ⟨v1, vs1, d1, ds1, p1, q1, rfl, rfl, rfl, h1, r1⟩ := trodAll_cons r0
  obtain ⟨rfl, rfl, rfl⟩ := trodAll_nil r1
  obtain rfl : args = #[v0, v1] := by cases args; simp_all
  obtain ⟨rfl, rfl⟩ := trodVars_none hV
  obtain ⟨a0, len0, cap0, rfl⟩ := okWide_slice Tryz.underlying22 (hval 0 22 v0 rfl rfl)
  have k0 := h0
  have lt0 : ∀ x ∈ p0, x.block < W.heap.size := by obtain ⟨m, hm⟩ := k0; exact DataW.trod_lt m _ _ _ hm
  have w0 : Code0 W a0 len0 cap0 := by
    obtain ⟨fuel, hf⟩ := h0
    rcases open_ints Tryz.underlying22 Tryz.underlying5 (by kernel_rfl) hf with ⟨hcs, _⟩ | ⟨x, l, c, zs, hcs, _, hl, hm, hz, _, hcell, hwz⟩
    · simp [Value.cells] at hcs
      obtain ⟨rfl, rfl, rfl⟩ := hcs
      exact code_of_row (zs := []) (.inl ⟨rfl, rfl, rfl, rfl⟩)
    · simp [Value.cells] at hcs
      obtain ⟨rfl, rfl, rfl⟩ := hcs
      exact code_of_row (zs := zs) (.inr ⟨_, rfl, hl, hm, by simpa using hz, hcell, hwz⟩)
  obtain ⟨a1, len1, cap1, rfl⟩ := okWide_slice Tryz.underlying22 (hval 1 22 v1 rfl rfl)
  have k1 := h1
  have lt1 : ∀ x ∈ p1, x.block < W.heap.size := by obtain ⟨m, hm⟩ := k1; exact DataW.trod_lt m _ _ _ hm
  have w1 : Code0 W a1 len1 cap1 := by
    obtain ⟨fuel, hf⟩ := h1
    rcases open_ints Tryz.underlying22 Tryz.underlying5 (by kernel_rfl) hf with ⟨hcs, _⟩ | ⟨x, l, c, zs, hcs, _, hl, hm, hz, _, hcell, hwz⟩
    · simp [Value.cells] at hcs
      obtain ⟨rfl, rfl, rfl⟩ := hcs
      exact code_of_row (zs := []) (.inl ⟨rfl, rfl, rfl, rfl⟩)
    · simp [Value.cells] at hcs
      obtain ⟨rfl, rfl, rfl⟩ := hcs
      exact code_of_row (zs := zs) (.inr ⟨_, rfl, hl, hm, by simpa using hz, hcell, hwz⟩)
  clear hA0
  refine (walk a0 len0 cap0 a1 len1 cap1 W w0 w1).mono fun e W' ⟨he, bel⟩ => ?_
  subst he
  exact ⟨_, rfl, _, _, _, [], _, [], hW', trodAll_mk1 (shut_bool Tryz.underlying4 _), (trodAll_cons_mk (Below.trod laidOut (by kernel_rfl) (of_decide_eq_true (by kernel_rfl)) k0 bel lt0) (trodAll_cons_mk (Below.trod laidOut (by kernel_rfl) (of_decide_eq_true (by kernel_rfl)) k1 bel lt1) trodAll_mk0)), rfl, bel.frame _, fun h => by cases h⟩
theorem laid_met (os : Os) : laidMet Tryz.prog Rows.fnNextToRow.laid ((putAll (World.settled Tryz.prog os).heap.size (World.holding Tryz.prog os ⟨errBlocks, #[], []⟩)).forCall (fun _ _ => 0) ⟨#[], #[.slice none 0 0, .slice none 0 0], []⟩).memory :=
  laidMet_of_run' 10 (by kernel_rfl) (by kernel_rfl)
theorem reads (os : Os) {H : Type} (enc : TypeId × Value → H) : ∃ places, DataW.whole enc Tryz.prog ((putAll (World.settled Tryz.prog os).heap.size (World.holding Tryz.prog os ⟨errBlocks, #[], []⟩)).forCall (fun _ _ => 0) ⟨#[], #[.slice none 0 0, .slice none 0 0], []⟩).memory Tryz.f16.params.toList Rows.fnNextToSpec.vars false #[.slice none 0 0, .slice none 0 0].toList 8 = some ([.nil, .nil], [], places) :=
  ⟨[], by kernel_rfl⟩
set_option maxRecDepth 100000 in
theorem lifted (os : Os) (started : os.Started) (H : Type) (enc : TypeId × Value → H) (F : Stop.Interp) :
    ReturnsInHanded {} Tryz.checked os 16 .any ((OpenSpec.ofChange Rows.fnNextToSpec).preRow enc Tryz.prog Tryz.f16 Rows.fnNextToRow.domain false Rows.fnNextToRow.laid) (((OpenSpec.ofChange Rows.fnNextToSpec).at F).post enc Tryz.prog Tryz.f16 false true false false) := by
  obtain ⟨places, hx⟩ := reads os enc
  refine returnsInHanded_of_row (C := Tryz.checked) (s := OpenSpec.ofChange Rows.fnNextToSpec) own started (by kernel_rfl) Tryz.func16
    (witness_row_atRef (enc := enc) (C := Tryz.checked) false (putAll (World.settled Tryz.prog os).heap.size (World.holding Tryz.prog os ⟨errBlocks, #[], []⟩)) #[.slice none 0 0, .slice none 0 0] rfl (by kernel_rfl) (by kernel_rfl) (by kernel_rfl)
      (OpenSpec.preRow_of_cond 8 hx (by kernel_rfl) (fun k hk => by cases hk) (by kernel_rfl) (laid_met os))) ?_
  intro W base args ds gs before hval hW _ _ _ hL _ _
  exact contract H enc W base args ds gs before hval hW hL
set_option maxRecDepth 100000 in
theorem said : Rows.FnNextToSaid :=
  OpenClaim.holds_of_cond 16 Tryz.f16 rfl rfl rfl rfl rfl rfl rfl ⟨rfl, rfl, rfl, rfl, rfl⟩ rfl rfl rfl rfl rfl (by kernel_rfl) Tryz.func16 FcFnNextTo.closed
    (of_decide_eq_true (by kernel_rfl)) (by unfold Func.isWrapper; first | (rw [if_pos (by decide +kernel)]; kernel_rfl) | (rw [if_neg (by decide +kernel)]; exact ⟨rfl, rfl⟩))
    (fun os started H enc _ F => by rw [OpenClaim.pre_eq_preRow]; exact lifted os started H enc F)
theorem plain (f : FuncId) (fn : Func) (hf : Tryz.pinned.checked.prog.funcNamed Rows.fnNextToRow.func = some f) (hfn : Tryz.pinned.checked.prog.funcs[f]? = some fn) :
    true = Tryz.pinned.checked.prog.looks [] ∧ ∀ (j : Nat) t, fn.params[j]? = some t → Tryz.pinned.checked.prog.wantsStandIn t = false := by
  obtain rfl : f = 16 := Option.some.inj ((show Tryz.prog.funcNamed Rows.fnNextToRow.func = some 16 by kernel_rfl).symm.trans hf) |>.symm
  obtain rfl : fn = Tryz.f16 := (Option.some.inj (Tryz.func16.symm.trans hfn)).symm
  refine ⟨by kernel_rfl, fun j t ht => ?_⟩
  rw [Tryz.params16] at ht
  obtain rfl : t = 22 := by simpa using Array.mem_of_getElem? ht
  exact (show Tryz.prog.wantsStandIn 22 = false by kernel_rfl)
theorem card : Rows.FnNextToCardSaid :=
  Claim7.holds_tied_plain_at .later [] _ _ _ _ said (fun _ h => by cases h) (by kernel_rfl) (fun _ h => by cases h) fnNextTo_row_tie rfl ⟨rfl, rfl⟩ (by kernel_rfl) rfl plain (by kernel_rfl)
end NextTo

/-- the given statement -/
theorem nextTo_holds : Rows.FnNextToCardSaid := NextTo.card
#print axioms nextTo_holds
end Go.Proofs.YtjhpaoadpcnlnaaGreatDoor
