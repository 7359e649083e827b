/-
  For every code of at most 2^20 bytes: by the steps that are drawn, impl.CodeFull answers as the specification does, and, where it tells slots, of each step, within their bounds, at most the first one is full at the beginning, and where a run is begun. Longer codes are let by. No condition but that the tables and errors of strconv are as their initialisers lay them.
-/
import Derived.Test.YtjhpaoadpcnlnaaGreatDoorZa19
import Derived.Test.YtjhpaoadpcnlnaaGreatDoorZa23
import Derived.Test.YtjhpaoadpcnlnaaGreatDoorZa25
import Derived.Test.YtjhpaoadpcnlnaaGreatDoorZa26
import Derived.Test.YtjhpaoadpcnlnaaGreatDoorFcFnFullFirst
namespace Go.Proofs.YtjhpaoadpcnlnaaGreatDoor
open Go.ChangeShapes Go.WideShapes Go.ChangeAt Go.RowKit Go.Joins
namespace FullFirst
theorem le_one {x : Int} (hx : Bd x) (h : Le x 1) : x = 0 ∨ x = 1 := by
  have key : ∀ i : Fin 17, Le ((i.val : Int) - 1) 1 → (i.val : Int) - 1 = 0 ∨ (i.val : Int) - 1 = 1 := by decide +kernel
  obtain ⟨i, rfl⟩ := bd_fin hx
  exact key i h
theorem begin_le {C : List OpV} {V : List Int} (hV : IsFull C V) {k : Nat} (hk : k < C.length) (h5 : C[k].k = 5) (h0 : 0 ≤ atV V k) : Le (atV V C[k].t.toNat) 1 :=
  hV.1.2.2 k hk h0 (C[k].t.toNat, 1) (by unfold waysL toW; rw [if_neg (by omega), if_pos h5]; simp)
set_option maxRecDepth 20000 in
set_option maxHeartbeats 8000000 in
theorem walk (a : Option Addr) (len cap : Nat) (w : World) (h : Code0 w a len cap) :
    Calls Tryz.prog 7 #[.slice a len cap] w fun e w' => e = .returned (.bool true) ∧ Below w.heap.size w w' := by
  by_cases hlen : len ≤ 1048576
  · have g0 : ¬ (1048576 : Int) < (len : Int) := by omega
    go_enter Tryz.func7, Tryz.ntmps7
    go_wp2_with fail
    refine (drawFull_any a len cap _ h).mono ?_
    rintro e w1 ⟨C, v, rfl, hC17, hO1, hB1⟩
    have hz1 := hB1.size
    obtain ⟨ao, cp, rfl, hC1, _⟩ := hO1.code
    have hl : C.length ≤ 1048576 := by omega
    clear hO1
    go_wp2_with fail
    refine (implCodeFull_any C ao cp _ hl hC1).mono ?_
    rintro e w2 ⟨v2, L, rfl, hR2, hO2, hb2⟩
    have hz2 := hb2.size
    have hB2 : Below w.heap.size w w2 := hB1.trans (hb2.mono (by omega))
    have hC2 := hC1.below hb2
    have hLl : L.length ≤ 1048576 := by have := fullOf_len hR2; omega
    have hI2 := Owns.ints hO2
    clear hO2 hb2 hB1 hC1
    go_wp2_with fail
    refine (specCodeFull_any C ao cp _ hl hC2).mono ?_
    rintro e w3 ⟨v3, L3, rfl, hR3, hO3, hb3⟩
    obtain rfl := fullOf_one hR2 hR3
    have hz3 := hb3.size
    have hB3 : Below w.heap.size w w3 := hB2.trans (hb3.mono (by omega))
    have hC3 := hC2.below hb3
    have hI3 := hI2.below hb3
    clear hb3 hB2 hC2 hI2 hR3
    go_wp2_with fail
    refine (lvInts_same w3.heap.size L _ _ _ hLl (hI3.mono (by omega)) (Owns.ints hO3)).mono ?_
    rintro e w4 ⟨rfl, hb4⟩
    have hz4 := hb4.size
    have hB4 : Below w.heap.size w w4 := hB3.trans (hb4.mono (by omega))
    have hC4 := hC3.below hb4
    have hI4 := hI3.below (hb4.mono (by omega))
    clear hb4 hB3 hC3 hI3 hO3
    obtain ⟨ao2, cp2, rfl, hI4'⟩ := id hI4
    by_cases hL0 : L.length = 0
    · have hL1 : ((L.length : Int) == 0) = true := by simp [hL0]
      replace hL0 : Hid (L.length = 0) := hL0
      go_wp2_with fail
      refine (specCodeFull_any C ao cp _ hl hC4).mono ?_
      rintro e w5 ⟨v5, L5, rfl, hR5, hO5, hb5⟩
      obtain rfl := fullOf_one hR2 hR5
      have hz5 := hb5.size
      have hB5 : Below w.heap.size w w5 := hB4.trans (hb5.mono (by omega))
      have hI5 := hI4.below (hb5.mono (by omega))
      go_wp2_with fail
      refine (lvInts_same w5.heap.size L _ _ _ hLl (hI5.mono (by omega)) (Owns.ints hO5)).mono ?_
      rintro e w6 ⟨rfl, hb6⟩
      go_wp2_with fail
      go_ret
      exact ⟨rfl, hB5.trans (hb6.mono (by omega))⟩
    · have hL1 : ((L.length : Int) == 0) = false := by simp [hL0]
      obtain ⟨hcb, hV⟩ := full_code' hR2 hL0
      have hVl : Hid (L.length = C.length) := full_len hV
      have hC0 : 0 < C.length := (codeB_well hcb).1.1
      have hVb : Hid (∀ i, -1 ≤ atV L i ∧ atV L i ≤ 15) := fun i => hV.1.1.2 i
      have hV0 : Hid (atV L 0 = 0 ∨ atV L 0 = 1) := le_one (hV.1.1.2 0) hV.1.2.1
      have hbeg : Hid (∀ k (h : k < C.length), C[k].k = 5 → 0 ≤ atV L k → atV L C[k].t.toNat = 0 ∨ atV L C[k].t.toNat = 1) := fun k h h5 h0 => le_one (hV.1.1.2 _) (begin_le hV h h5 h0)
      have hto : Hid (∀ k (h : k < C.length), 0 ≤ C[k].t ∧ C[k].t < (C.length : Int)) := fun k h => ⟨((codeB_well hcb).1.2 k h).1, ((codeB_well hcb).1.2 k h).2.1⟩
      rcases hI4' with hLz | ⟨b5, o5, rfl, hb5', hc5⟩
      · rw [hLz] at hL0; exact absurd rfl hL0
      replace hc5 : Hid (∀ i (h : i < L.length), w4.cell? ⟨b5, o5 + i, none⟩ = some (.int .i64 L[i])) := hc5
      rcases hC4 with hCz | ⟨b, o, rfl, hbl, hs⟩
      · rw [hCz] at hC0; simp at hC0
      replace hs : Hid (∀ i (h : i < C.length), StepAt w4 b (o + i * 6) C[i]) := hs
      have hb5w : b5 < w4.heap.size := by omega
      clear hV hcb hR2 hI4
      go_wp2_with fail
      go_loopw [5] (fun i wr => ∃ k : Nat, k ≤ C.length ∧ i = .int .i64 k ∧ Below w4.heap.size w4 wr) (fun i _ => C.length - (intOf i).toNat)
      case atStart => exact ⟨0, Nat.zero_le _, rfl, Below.refl _ _⟩
      case round =>
        obtain ⟨k, hk, rfl, hBr⟩ := hrel
        have hzr := hBr.size
        have hcell : Hid (∀ i, i < C.length → wr.cell? ⟨b5, o5 + i, none⟩ = some (.int .i64 (atV L i))) := fun i hi => by
          have hiL : i < L.length := by have := hVl.out; omega
          rw [atV_at hiL]; exact (hBr.cell (p := ⟨b5, o5 + i, none⟩) hb5w).trans (hc5.out i hiL)
        by_cases hlt : k < C.length
        · have g1 : (k : Int) < (C.length : Int) := by omega
          have g2 : (k : Int) < (L.length : Int) := by have := hVl.out; omega
          have c0 := hcell.out k hlt
          have st : StepAt wr b (o + k * 6) C[k] := by
            obtain ⟨t0, t1, t2, t3, t4, t5⟩ := hs.out k hlt
            exact ⟨(hBr.cell (p := ⟨b, o + k * 6, none⟩) hbl).trans t0, (hBr.cell (p := ⟨b, o + k * 6 + 1, none⟩) hbl).trans t1, (hBr.cell (p := ⟨b, o + k * 6 + 2, none⟩) hbl).trans t2, (hBr.cell (p := ⟨b, o + k * 6 + 3, none⟩) hbl).trans t3, (hBr.cell (p := ⟨b, o + k * 6 + 4, none⟩) hbl).trans t4, (hBr.cell (p := ⟨b, o + k * 6 + 5, none⟩) hbl).trans t5⟩
          have hbd := hVb.out k
          have hbg := hbeg.out k hlt
          have htt := hto.out k hlt
          obtain ⟨tn, htn⟩ : ∃ tn : Nat, C[k].t = (tn : Int) := ⟨C[k].t.toNat, by omega⟩
          rw [htn] at hbg htt
          rw [Int.toNat_natCast] at hbg
          have htl : tn < C.length := by omega
          have c1 := hcell.out tn htl
          have g3 : (tn : Int) < (L.length : Int) := by have := hVl.out; omega
          generalize atV L k = x at *
          generalize atV L tn = y at *
          generalize C[k] = op at *
          obtain ⟨s0, s1, s2, s3, s4, s5⟩ := st
          rw [htn] at s3
          have e1 : decide (x < -1) = false := by simp; omega
          have e2 : decide (15 < x) = false := by simp; omega
          have e1' : ¬ x < -1 := by omega
          have e2' : ¬ 15 < x := by omega
          clear htn hbd htt
          by_cases hx : 0 ≤ x
          · have e3 : decide (0 ≤ x) = true := by simp [hx]
            by_cases h5 : op.k = 5
            · have n5 : (op.k == 5) = true := by simp [h5]
              have hy : Hid (y = 0 ∨ y = 1) := hbg h5 hx
              clear hbg h5
              rcases hy.out with rfl | rfl
              · skip
                go_wp2_with fail
                refine (lvIn_yes _ 1 _ (by decide) (by decide) (by decide) (by decide) (by decide)).mono ?_
                rintro e w6 ⟨rfl, rfl⟩
                go_wp2_with fail
                go_roundw
                case rel => exact ⟨k + 1, by omega, by go_num, hBr⟩
                case measure => simp [intOf]; omega
              · skip
                go_wp2_with fail
                refine (lvIn_yes _ 1 _ (by decide) (by decide) (by decide) (by decide) (by decide)).mono ?_
                rintro e w6 ⟨rfl, rfl⟩
                go_wp2_with fail
                go_roundw
                case rel => exact ⟨k + 1, by omega, by go_num, hBr⟩
                case measure => simp [intOf]; omega
            · have n5 : (op.k == 5) = false := by simp [h5]
              clear hbg h5
              go_wp2_with fail
              go_roundw
              case rel => exact ⟨k + 1, by omega, by go_num, hBr⟩
              case measure => simp [intOf]; omega
          · have e3 : decide (0 ≤ x) = false := by simp; omega
            clear hbg
            go_wp2_with fail
            go_roundw
            case rel => exact ⟨k + 1, by omega, by go_num, hBr⟩
            case measure => simp [intOf]; omega
        · have e : k = C.length := by omega
          subst e
          have c0 := hcell.out 0 hC0
          have g3 : ((L.length : Int) == (C.length : Int)) = true := by have := hVl.out; simp; omega
          have g4 : (0 : Int) < (L.length : Int) := by have := hVl.out; omega
          simp only [Nat.add_zero] at c0
          rcases hV0.out with e0 | e0
          · rw [e0] at c0
            go_wp2_with fail
            go_ret
            exact ⟨rfl, hB4.trans (hBr.mono (by omega))⟩
          · rw [e0] at c0
            go_wp2_with fail
            go_ret
            exact ⟨rfl, hB4.trans (hBr.mono (by omega))⟩
  · have g0 : (1048576 : Int) < (len : Int) := by omega
    go_enter Tryz.func7, Tryz.ntmps7
    go_wp2_with fail
    go_ret
    exact ⟨rfl, Below.refl _ _⟩

set_option maxRecDepth 20000 in
theorem contract (H : Type) (enc : TypeId × Value → H) (W : World) (base : Nat) (args : Array Value) (ds gs : List (DataW H)) (before : List MemPlace)
    (hval : ∀ (j : Nat) t v, Tryz.f7.params[j]? = some t → args[j]? = some v → Value.okWide Tryz.prog W .any base t v)
    (hW : DataW.Whole enc Tryz.prog Tryz.f7.params.toList Rows.fnFullFirstSpec.vars false W args.toList ds gs before) (_hL : laidMetH Tryz.prog Rows.fnFullFirstRow.laid W) :
    Calls Tryz.prog 7 args W fun e W' => ∃ v, e = .returned v ∧ Rows.fnFullFirstSpec.post enc Tryz.prog Tryz.f7 false true false false W args v W' := by
  have hW' := hW
  obtain ⟨p, q, hA0, hV, rfl, hfz, hnd⟩ := hW
  have hA : DataW.TrodAll enc Tryz.prog W 0 (fun _ => true) true Tryz.f7.params.toList args.toList ds p := hA0
  rw [Tryz.params7] at hA hval
  obtain ⟨v0, vs0, d0, ds0, p0, q0, hargs, rfl, rfl, h0, r0⟩ := trodAll_cons hA
  obtain ⟨rfl, rfl, rfl⟩ := trodAll_nil r0
  obtain rfl : args = #[v0] := by cases args; simp_all
  obtain ⟨rfl, rfl⟩ := trodVars_none hV
  obtain ⟨a0, len0, cap0, rfl⟩ := okWide_slice Tryz.underlying22 (hval 0 22 v0 rfl rfl)
  have k0 := h0
  have lt0 : ∀ x ∈ p0, x.block < W.heap.size := by obtain ⟨m, hm⟩ := k0; exact DataW.trod_lt m _ _ _ hm
  have w0 : Code0 W a0 len0 cap0 := by
    obtain ⟨fuel, hf⟩ := h0
    rcases open_ints Tryz.underlying22 Tryz.underlying5 (by kernel_rfl) hf with ⟨hcs, _⟩ | ⟨x, l, c, zs, hcs, _, hl, hm, hz, _, hcell, hwz⟩
    · simp [Value.cells] at hcs
      obtain ⟨rfl, rfl, rfl⟩ := hcs
      exact code_of_row (zs := []) (.inl ⟨rfl, rfl, rfl, rfl⟩)
    · simp [Value.cells] at hcs
      obtain ⟨rfl, rfl, rfl⟩ := hcs
      exact code_of_row (zs := zs) (.inr ⟨_, rfl, hl, hm, by simpa using hz, hcell, hwz⟩)
  clear hA0
  refine (walk a0 len0 cap0 W w0).mono fun e W' ⟨he, bel⟩ => ?_
  subst he
  exact ⟨_, rfl, _, _, _, [], _, [], hW', trodAll_mk1 (shut_bool Tryz.underlying4 _), (trodAll_cons_mk (Below.trod laidOut (by kernel_rfl) (of_decide_eq_true (by kernel_rfl)) k0 bel lt0) trodAll_mk0), rfl, bel.frame _, fun h => by cases h⟩
theorem laid_met (os : Os) : laidMet Tryz.prog Rows.fnFullFirstRow.laid ((putAll (World.settled Tryz.prog os).heap.size (World.holding Tryz.prog os ⟨errBlocks, #[], []⟩)).forCall (fun _ _ => 0) ⟨#[], #[.slice none 0 0], []⟩).memory :=
  laidMet_of_run' 10 (by kernel_rfl) (by kernel_rfl)
theorem reads (os : Os) {H : Type} (enc : TypeId × Value → H) : ∃ places, DataW.whole enc Tryz.prog ((putAll (World.settled Tryz.prog os).heap.size (World.holding Tryz.prog os ⟨errBlocks, #[], []⟩)).forCall (fun _ _ => 0) ⟨#[], #[.slice none 0 0], []⟩).memory Tryz.f7.params.toList Rows.fnFullFirstSpec.vars false #[.slice none 0 0].toList 8 = some ([.nil], [], places) :=
  ⟨[], by kernel_rfl⟩
set_option maxRecDepth 100000 in
theorem lifted (os : Os) (started : os.Started) (H : Type) (enc : TypeId × Value → H) (F : Stop.Interp) :
    ReturnsInHanded {} Tryz.checked os 7 .any ((OpenSpec.ofChange Rows.fnFullFirstSpec).preRow enc Tryz.prog Tryz.f7 Rows.fnFullFirstRow.domain false Rows.fnFullFirstRow.laid) (((OpenSpec.ofChange Rows.fnFullFirstSpec).at F).post enc Tryz.prog Tryz.f7 false true false false) := by
  obtain ⟨places, hx⟩ := reads os enc
  refine returnsInHanded_of_row (C := Tryz.checked) (s := OpenSpec.ofChange Rows.fnFullFirstSpec) own started (by kernel_rfl) Tryz.func7
    (witness_row_atRef (enc := enc) (C := Tryz.checked) false (putAll (World.settled Tryz.prog os).heap.size (World.holding Tryz.prog os ⟨errBlocks, #[], []⟩)) #[.slice none 0 0] rfl (by kernel_rfl) (by kernel_rfl) (by kernel_rfl)
      (OpenSpec.preRow_of_cond 8 hx (by kernel_rfl) (fun k hk => by cases hk) (by kernel_rfl) (laid_met os))) ?_
  intro W base args ds gs before hval hW _ _ _ hL _ _
  exact contract H enc W base args ds gs before hval hW hL
set_option maxRecDepth 100000 in
theorem said : Rows.FnFullFirstSaid :=
  OpenClaim.holds_of_cond 7 Tryz.f7 rfl rfl rfl rfl rfl rfl rfl ⟨rfl, rfl, rfl, rfl, rfl⟩ rfl rfl rfl rfl rfl (by kernel_rfl) Tryz.func7 FcFnFullFirst.closed
    (of_decide_eq_true (by kernel_rfl)) (by unfold Func.isWrapper; first | (rw [if_pos (by decide +kernel)]; kernel_rfl) | (rw [if_neg (by decide +kernel)]; exact ⟨rfl, rfl⟩))
    (fun os started H enc _ F => by rw [OpenClaim.pre_eq_preRow]; exact lifted os started H enc F)
theorem plain (f : FuncId) (fn : Func) (hf : Tryz.pinned.checked.prog.funcNamed Rows.fnFullFirstRow.func = some f) (hfn : Tryz.pinned.checked.prog.funcs[f]? = some fn) :
    true = Tryz.pinned.checked.prog.looks [] ∧ ∀ (j : Nat) t, fn.params[j]? = some t → Tryz.pinned.checked.prog.wantsStandIn t = false := by
  obtain rfl : f = 7 := Option.some.inj ((show Tryz.prog.funcNamed Rows.fnFullFirstRow.func = some 7 by kernel_rfl).symm.trans hf) |>.symm
  obtain rfl : fn = Tryz.f7 := (Option.some.inj (Tryz.func7.symm.trans hfn)).symm
  refine ⟨by kernel_rfl, fun j t ht => ?_⟩
  rw [Tryz.params7] at ht
  obtain rfl : t = 22 := by simpa using Array.mem_of_getElem? ht
  exact (show Tryz.prog.wantsStandIn 22 = false by kernel_rfl)
theorem card : Rows.FnFullFirstCardSaid :=
  Claim7.holds_tied_plain_at .later [] _ _ _ _ said (fun _ h => by cases h) (by kernel_rfl) (fun _ h => by cases h) fnFullFirst_row_tie rfl ⟨rfl, rfl⟩ (by kernel_rfl) rfl plain (by kernel_rfl)
end FullFirst

/-- the given statement -/
theorem fullFirst_holds : Rows.FnFullFirstCardSaid := FullFirst.card
#print axioms fullFirst_holds
end Go.Proofs.YtjhpaoadpcnlnaaGreatDoor
