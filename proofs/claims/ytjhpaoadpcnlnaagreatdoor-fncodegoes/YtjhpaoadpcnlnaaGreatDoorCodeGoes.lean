/-
  For every two codes of at most 2^20 bytes: of the steps that are drawn, impl.CodeOk answers as the specification does, and, where they are ok, each is ok and goes where there is one, they are at most 16, and with one that goes beyond the last they are not ok; none at all are not ok. Longer codes are let by. No condition but that the tables and errors of strconv are as their initialisers lay them.
-/
import Derived.Test.YtjhpaoadpcnlnaaGreatDoorZa19
import Derived.Test.YtjhpaoadpcnlnaaGreatDoorZa23
import Derived.Test.YtjhpaoadpcnlnaaGreatDoorZa22
import Derived.Test.YtjhpaoadpcnlnaaGreatDoorZa28
import Derived.Test.YtjhpaoadpcnlnaaGreatDoorZa26
import Derived.Test.YtjhpaoadpcnlnaaGreatDoorFcFnCodeGoes
namespace Go.Proofs.YtjhpaoadpcnlnaaGreatDoor
open Go.ChangeShapes Go.WideShapes Go.ChangeAt Go.RowKit Go.Joins
namespace CodeGoes
theorem go_far {C : List OpV} {m : Nat} (hm : m < C.length) : codeB (C.set m ⟨9, 0, 0, (C.length : Int), 0, 0⟩) = false := by
  refine codeB_no (k := m) (by rw [List.length_set]; exact hm) (.inr ?_)
  rw [List.getElem_set_self, List.length_set]; exact Int.le_refl _
theorem implCodeOk_len (C : List OpV) (ao : Option Addr) (n cap : Nat) (w : World) (hn : C.length = n) (hl : C.length ≤ 1048576) (h : CodeAt w ao C) :
    Calls Tryz.prog 26 #[.slice ao n cap] w fun e w' => e = .returned (.bool (codeB C)) ∧ Below w.heap.size w w' := by
  subst hn; exact implCodeOk_any C ao cap w hl h
set_option maxRecDepth 20000 in
set_option maxHeartbeats 8000000 in
theorem walk (a : Option Addr) (len cap : Nat) (a2 : Option Addr) (len2 cap2 : Nat) (w : World) (h : Code0 w a len cap) (_h2 : Code0 w a2 len2 cap2) :
    Calls Tryz.prog 6 #[.slice a len cap, .slice a2 len2 cap2] w fun e w' => e = .returned (.bool true) ∧ Below w.heap.size w w' := by
  by_cases hlen : len ≤ 1048576
  case neg =>
    have g0 : (1048576 : Int) < (len : Int) := by omega
    go_enter Tryz.func6, Tryz.ntmps6
    go_wp2_with fail
    go_ret
    exact ⟨rfl, Below.refl _ _⟩
  by_cases hlen2 : len2 ≤ 1048576
  · have g0 : ¬ (1048576 : Int) < (len : Int) := by omega
    have g9 : ¬ (1048576 : Int) < (len2 : Int) := by omega
    obtain ⟨inf, i1, i2, i3, i4⟩ := infoO
    go_enter Tryz.func6, Tryz.ntmps6
    go_wp2_with fail
    refine (drawOk_any a len cap _ h).mono ?_
    rintro e w1 ⟨C, v, rfl, hC17, hO1, hB1⟩
    have hz1 := hB1.size
    obtain ⟨ao, cp, rfl, hC1, _⟩ := hO1.code
    have hl : C.length ≤ 1048576 := by omega
    go_wp2_with fail
    refine (implCodeOk_any C ao cp _ hl hC1).mono ?_
    rintro e w2 ⟨rfl, hb2⟩
    have hz2 := hb2.size
    have hB2 : Below w.heap.size w w2 := hB1.trans (hb2.mono (by omega))
    have hC2 := hC1.below hb2
    have hO2 := OwnsO.below hO1 hb2
    clear hb2 hB1 hC1 hO1
    go_wp2_with fail
    refine (specCodeOk_any C ao cp _ hl hC2).mono ?_
    rintro e w3 ⟨rfl, hb3⟩
    have hz3 := hb3.size
    have hB3 : Below w.heap.size w w3 := hB2.trans (hb3.mono (by omega))
    have hC3 := hC2.below hb3
    have hO3 := OwnsO.below hO2 hb3
    clear hb3 hB2 hC2 hO2
    cases hcb : codeB C with
    | false =>
      go_wp2_with fail
      refine (specCodeOk_any C ao cp _ hl hC3).mono ?_
      rintro e w4 ⟨rfl, hb4⟩
      rw [hcb]
      go_wp2_with fail
      go_ret
      exact ⟨rfl, hB3.trans (hb4.mono (by omega))⟩
    | true =>
      have hC0 : 0 < C.length := (codeB_well hcb).1.1
      have hC16 : C.length ≤ 16 := (codeB_well hcb).2.1
      have hok : Hid (∀ k (h : k < C.length), opB C[k].k C[k].r C[k].s C[k].t C[k].a C[k].b = true) := (codeB_well hcb).2.2
      have hto : Hid (∀ k (h : k < C.length), C[k].t < (C.length : Int)) := fun k h => ((codeB_well hcb).1.2 k h).2.1
      obtain ⟨g, cp', hv, hg1, hg2⟩ := hO3.blk hC0
      injection hv with hv1 _ hv3
      subst hv1
      subst hv3
      have hs3 : Hid (∀ i (h : i < C.length), StepAt w3 g (i * 6) C[i]) := fun i h => (hO3.stepAt i h).1
      have hO3' : Hid (OwnsO w3 w.heap.size (.slice (some ⟨g, 0, none⟩) C.length cp) C) := hO3
      clear hC3 hcb hO3
      go_wp2_with fail
      go_loopw [7] (fun i wr => ∃ k : Nat, k ≤ C.length ∧ i = .int .i64 k ∧ Below w3.heap.size w3 wr) (fun i _ => C.length - (intOf i).toNat)
      case atStart => exact ⟨0, Nat.zero_le _, rfl, Below.refl _ _⟩
      case round =>
        obtain ⟨k, hk, rfl, hBr⟩ := hrel
        have hzr := hBr.size
        by_cases hlt : k < C.length
        · have g1 : (k : Int) < (C.length : Int) := by omega
          have st : StepAt wr g (k * 6) C[k] := by
            obtain ⟨t0, t1, t2, t3, t4, t5⟩ := hs3.out k hlt
            exact ⟨(hBr.cell (p := ⟨g, k * 6, none⟩) hg2).trans t0, (hBr.cell (p := ⟨g, k * 6 + 1, none⟩) hg2).trans t1, (hBr.cell (p := ⟨g, k * 6 + 2, none⟩) hg2).trans t2, (hBr.cell (p := ⟨g, k * 6 + 3, none⟩) hg2).trans t3, (hBr.cell (p := ⟨g, k * 6 + 4, none⟩) hg2).trans t4, (hBr.cell (p := ⟨g, k * 6 + 5, none⟩) hg2).trans t5⟩
          have hop := hok.out k hlt
          have htk := hto.out k hlt
          have htk' : ¬ (C.length : Int) ≤ C[k].t := by omega
          generalize C[k] = op at *
          obtain ⟨s0, s1, s2, s3, s4, s5⟩ := st
          go_wp2_with fail
          refine (implOpOk_any op.k op.r op.s op.t op.a op.b _).mono ?_
          rintro e w5 ⟨rfl, hb5⟩
          rw [hop]
          have hgr : g < wr.heap.size := by omega
          have t3 : w5.cell? ⟨g, k * 6 + 3, none⟩ = some (.int .i64 op.t) := (hb5.cell (p := ⟨g, k * 6 + 3, none⟩) hgr).trans s3
          have hB5 : Below w3.heap.size w3 w5 := hBr.trans (hb5.mono (by omega))
          clear s0 s1 s2 s3 s4 s5 hb5
          go_wp2_with fail
          go_roundw
          case rel => exact ⟨k + 1, by omega, by go_num, hB5⟩
          case measure => simp [intOf]; omega
        · have e : k = C.length := by omega
          subst e
          have hO4 := OwnsO.below hO3'.out hBr
          have hB4 : Below w.heap.size w wr := hB3.trans (hBr.mono (by omega))
          have hnz : ((C.length : Int) == 0) = false := by rw [beq_eq_false_iff_ne]; omega
          have hmo : (len2 : Int) % (C.length : Int) = ((len2 % C.length : Nat) : Int) := by simp
          have hmt : (len2 : Int).tmod (C.length : Int) = ((len2 % C.length : Nat) : Int) := by rw [Int.tmod_eq_emod_of_nonneg (by omega)]; exact hmo
          have hml : len2 % C.length < C.length := Nat.mod_lt _ hC0
          have hmi : ((len2 % C.length : Nat) : Int) < (C.length : Int) := by omega
          generalize len2 % C.length = m at *
          clear hok hto hs3 hO3'
          have hrd6 := OwnsO.read (World.ownsRow.alloc hO4 (.cells #[] 26))
          go_wp2_with (refine wpList_append_own _ rfl (.tmp 55) (.tmp 56) 34 rfl (wr.heap.size) 26 inf (.agg #[.int .i64 0, .int .i64 0, .int .i64 0, .int .i64 0, .int .i64 0, .int .i64 0]) 6 48 Tryz.underlying34 i1 i2 i3 i4 rfl (by decide) _ 0 [] rfl (ownsO_empty' (wr) (wr.heap.size) rfl) ⟨g, 0, none⟩ C.length cp (cellsO C) rfl (cellsO_len C) hrd6 (cellsO_one C) (by unfold maxLen; omega) (by omega) (by simp <;> omega) ?_; intro x0 w6 ho60 hg60 _; show Hid _)
          have ho6 : OwnsO w6 (wr.heap.size) x0 C := by simpa [OwnsO] using ho60
          obtain ⟨g6, cap6, rfl, hg61, hg62⟩ := ho6.blk hC0
          have hz60 := hg60.size
          simp at hz60
          delta Hid
          go_wp2_with fail
          refine .inl (wpList_nil ?_)
          go_step
          have hB6 : Below w.heap.size w w6 := (hB4.alloc (by omega) _).grown hg60 (by simp; omega) (by intro k e; cases e; show w.heap.size ≤ wr.heap.size; omega)
          obtain ⟨⟨s0, s1, s2, s3, s4, s5⟩, fz⟩ := ho6.stepAt m hml
          have f0 := fz (m * 6)
          have f1 := fz (m * 6 + 1)
          have f2 := fz (m * 6 + 2)
          have f3 := fz (m * 6 + 3)
          have f4 := fz (m * 6 + 4)
          have f5 := fz (m * 6 + 5)
          have hX : Hid (OwnsO ((((((w6.setCell ⟨g6, m * 6, none⟩ (.int .i64 9)).setCell ⟨g6, m * 6 + 1, none⟩ (.int .i64 0)).setCell ⟨g6, m * 6 + 2, none⟩ (.int .i64 0)).setCell ⟨g6, m * 6 + 3, none⟩ (.int .i64 (C.length : Int))).setCell ⟨g6, m * 6 + 4, none⟩ (.int .i64 0)).setCell ⟨g6, m * 6 + 5, none⟩ (.int .i64 0)) wr.heap.size (.slice (some ⟨g6, 0, none⟩) C.length cap6) (C.set m ⟨9, 0, 0, (C.length : Int), 0, 0⟩)) := ho6.put m hml ⟨9, 0, 0, (C.length : Int), 0, 0⟩
          have hbt := but6 w6 g6 (m * 6) (.int .i64 9) (.int .i64 0) (.int .i64 0) (.int .i64 (C.length : Int)) (.int .i64 0) (.int .i64 0)
          have hB7 := hB6.trans (hbt.below (B := w.heap.size) (by omega) (by omega))
          have hfar : Hid (codeB (C.set m ⟨9, 0, 0, (C.length : Int), 0, 0⟩) = false) := go_far hml
          have hz7 := hbt.size
          generalize C[m] = om at *
          clear fz hbt ho6 hg60 ho60 hrd6 hO4
          iterate 39 go_step
          generalize ((((((w6.setCell ⟨g6, m * 6, none⟩ (.int .i64 9)).setCell ⟨g6, m * 6 + 1, none⟩ (.int .i64 0)).setCell ⟨g6, m * 6 + 2, none⟩ (.int .i64 0)).setCell ⟨g6, m * 6 + 3, none⟩ (.int .i64 (C.length : Int))).setCell ⟨g6, m * 6 + 4, none⟩ (.int .i64 0)).setCell ⟨g6, m * 6 + 5, none⟩ (.int .i64 0)) = w7 at *
          clear s0 s1 s2 s3 s4 s5 f0 f1 f2 f3 f4 f5
          go_wp2_with fail
          refine (implCodeOk_len _ _ C.length cap6 _ (by rw [List.length_set]) (by rw [List.length_set]; exact hl) (OwnsO.at_ hX.out)).mono ?_
          rintro e w8 ⟨rfl, hb8⟩
          rw [hfar.out]
          have hz8 := hb8.size
          have hB8 : Below w.heap.size w w8 := hB7.trans (hb8.mono (by omega))
          clear hX hb8
          go_wp2_with fail
          refine (implCodeOk_len [] none 0 0 _ rfl (by simp) (.inl rfl)).mono ?_
          rintro e w9 ⟨rfl, hb9⟩
          rw [show codeB [] = false by decide]
          have g4 : (C.length : Int) ≤ 16 := by omega
          go_wp2_with fail
          go_ret
          exact ⟨rfl, hB8.trans (hb9.mono (by omega))⟩
  · have g0 : ¬ (1048576 : Int) < (len : Int) := by omega
    have g9 : (1048576 : Int) < (len2 : Int) := by omega
    go_enter Tryz.func6, Tryz.ntmps6
    go_wp2_with fail
    go_ret
    exact ⟨rfl, Below.refl _ _⟩

set_option maxRecDepth 20000 in
theorem contract (H : Type) (enc : TypeId × Value → H) (W : World) (base : Nat) (args : Array Value) (ds gs : List (DataW H)) (before : List MemPlace)
    (hval : ∀ (j : Nat) t v, Tryz.f6.params[j]? = some t → args[j]? = some v → Value.okWide Tryz.prog W .any base t v)
    (hW : DataW.Whole enc Tryz.prog Tryz.f6.params.toList Rows.fnCodeGoesSpec.vars false W args.toList ds gs before) (_hL : laidMetH Tryz.prog Rows.fnCodeGoesRow.laid W) :
    Calls Tryz.prog 6 args W fun e W' => ∃ v, e = .returned v ∧ Rows.fnCodeGoesSpec.post enc Tryz.prog Tryz.f6 false true false false W args v W' := by
  have hW' := hW
  obtain ⟨p, q, hA0, hV, rfl, hfz, hnd⟩ := hW
  have hA : DataW.TrodAll enc Tryz.prog W 0 (fun _ => true) true Tryz.f6.params.toList args.toList ds p := hA0
  rw [Tryz.params6] at hA hval
  obtain ⟨v0, vs0, d0, ds0, p0, q0, hargs, rfl, rfl, h0, r0⟩ := trodAll_cons hA
  obtain ⟨v1, vs1, d1, ds1, p1, q1, rfl, rfl, rfl, h1, r1⟩ := trodAll_cons r0
  obtain ⟨rfl, rfl, rfl⟩ := trodAll_nil r1
  obtain rfl : args = #[v0, v1] := by cases args; simp_all
  obtain ⟨rfl, rfl⟩ := trodVars_none hV
  obtain ⟨a0, len0, cap0, rfl⟩ := okWide_slice Tryz.underlying22 (hval 0 22 v0 rfl rfl)
  have k0 := h0
  have lt0 : ∀ x ∈ p0, x.block < W.heap.size := by obtain ⟨m, hm⟩ := k0; exact DataW.trod_lt m _ _ _ hm
  have w0 : Code0 W a0 len0 cap0 := by
    obtain ⟨fuel, hf⟩ := h0
    rcases open_ints Tryz.underlying22 Tryz.underlying5 (by kernel_rfl) hf with ⟨hcs, _⟩ | ⟨x, l, c, zs, hcs, _, hl, hm, hz, _, hcell, hwz⟩
    · simp [Value.cells] at hcs
      obtain ⟨rfl, rfl, rfl⟩ := hcs
      exact code_of_row (zs := []) (.inl ⟨rfl, rfl, rfl, rfl⟩)
    · simp [Value.cells] at hcs
      obtain ⟨rfl, rfl, rfl⟩ := hcs
      exact code_of_row (zs := zs) (.inr ⟨_, rfl, hl, hm, by simpa using hz, hcell, hwz⟩)
  obtain ⟨a1, len1, cap1, rfl⟩ := okWide_slice Tryz.underlying22 (hval 1 22 v1 rfl rfl)
  have k1 := h1
  have lt1 : ∀ x ∈ p1, x.block < W.heap.size := by obtain ⟨m, hm⟩ := k1; exact DataW.trod_lt m _ _ _ hm
  have w1 : Code0 W a1 len1 cap1 := by
    obtain ⟨fuel, hf⟩ := h1
    rcases open_ints Tryz.underlying22 Tryz.underlying5 (by kernel_rfl) hf with ⟨hcs, _⟩ | ⟨x, l, c, zs, hcs, _, hl, hm, hz, _, hcell, hwz⟩
    · simp [Value.cells] at hcs
      obtain ⟨rfl, rfl, rfl⟩ := hcs
      exact code_of_row (zs := []) (.inl ⟨rfl, rfl, rfl, rfl⟩)
    · simp [Value.cells] at hcs
      obtain ⟨rfl, rfl, rfl⟩ := hcs
      exact code_of_row (zs := zs) (.inr ⟨_, rfl, hl, hm, by simpa using hz, hcell, hwz⟩)
  clear hA0
  refine (walk a0 len0 cap0 a1 len1 cap1 W w0 w1).mono fun e W' ⟨he, bel⟩ => ?_
  subst he
  exact ⟨_, rfl, _, _, _, [], _, [], hW', trodAll_mk1 (shut_bool Tryz.underlying4 _), (trodAll_cons_mk (Below.trod laidOut (by kernel_rfl) (of_decide_eq_true (by kernel_rfl)) k0 bel lt0) (trodAll_cons_mk (Below.trod laidOut (by kernel_rfl) (of_decide_eq_true (by kernel_rfl)) k1 bel lt1) trodAll_mk0)), rfl, bel.frame _, fun h => by cases h⟩
theorem laid_met (os : Os) : laidMet Tryz.prog Rows.fnCodeGoesRow.laid ((putAll (World.settled Tryz.prog os).heap.size (World.holding Tryz.prog os ⟨errBlocks, #[], []⟩)).forCall (fun _ _ => 0) ⟨#[], #[.slice none 0 0, .slice none 0 0], []⟩).memory :=
  laidMet_of_run' 10 (by kernel_rfl) (by kernel_rfl)
theorem reads (os : Os) {H : Type} (enc : TypeId × Value → H) : ∃ places, DataW.whole enc Tryz.prog ((putAll (World.settled Tryz.prog os).heap.size (World.holding Tryz.prog os ⟨errBlocks, #[], []⟩)).forCall (fun _ _ => 0) ⟨#[], #[.slice none 0 0, .slice none 0 0], []⟩).memory Tryz.f6.params.toList Rows.fnCodeGoesSpec.vars false #[.slice none 0 0, .slice none 0 0].toList 8 = some ([.nil, .nil], [], places) :=
  ⟨[], by kernel_rfl⟩
set_option maxRecDepth 100000 in
theorem lifted (os : Os) (started : os.Started) (H : Type) (enc : TypeId × Value → H) (F : Stop.Interp) :
    ReturnsInHanded {} Tryz.checked os 6 .any ((OpenSpec.ofChange Rows.fnCodeGoesSpec).preRow enc Tryz.prog Tryz.f6 Rows.fnCodeGoesRow.domain false Rows.fnCodeGoesRow.laid) (((OpenSpec.ofChange Rows.fnCodeGoesSpec).at F).post enc Tryz.prog Tryz.f6 false true false false) := by
  obtain ⟨places, hx⟩ := reads os enc
  refine returnsInHanded_of_row (C := Tryz.checked) (s := OpenSpec.ofChange Rows.fnCodeGoesSpec) own started (by kernel_rfl) Tryz.func6
    (witness_row_atRef (enc := enc) (C := Tryz.checked) false (putAll (World.settled Tryz.prog os).heap.size (World.holding Tryz.prog os ⟨errBlocks, #[], []⟩)) #[.slice none 0 0, .slice none 0 0] rfl (by kernel_rfl) (by kernel_rfl) (by kernel_rfl)
      (OpenSpec.preRow_of_cond 8 hx (by kernel_rfl) (fun k hk => by cases hk) (by kernel_rfl) (laid_met os))) ?_
  intro W base args ds gs before hval hW _ _ _ hL _ _
  exact contract H enc W base args ds gs before hval hW hL
set_option maxRecDepth 100000 in
theorem said : Rows.FnCodeGoesSaid :=
  OpenClaim.holds_of_cond 6 Tryz.f6 rfl rfl rfl rfl rfl rfl rfl ⟨rfl, rfl, rfl, rfl, rfl⟩ rfl rfl rfl rfl rfl (by kernel_rfl) Tryz.func6 FcFnCodeGoes.closed
    (of_decide_eq_true (by kernel_rfl)) (by unfold Func.isWrapper; first | (rw [if_pos (by decide +kernel)]; kernel_rfl) | (rw [if_neg (by decide +kernel)]; exact ⟨rfl, rfl⟩))
    (fun os started H enc _ F => by rw [OpenClaim.pre_eq_preRow]; exact lifted os started H enc F)
theorem plain (f : FuncId) (fn : Func) (hf : Tryz.pinned.checked.prog.funcNamed Rows.fnCodeGoesRow.func = some f) (hfn : Tryz.pinned.checked.prog.funcs[f]? = some fn) :
    true = Tryz.pinned.checked.prog.looks [] ∧ ∀ (j : Nat) t, fn.params[j]? = some t → Tryz.pinned.checked.prog.wantsStandIn t = false := by
  obtain rfl : f = 6 := Option.some.inj ((show Tryz.prog.funcNamed Rows.fnCodeGoesRow.func = some 6 by kernel_rfl).symm.trans hf) |>.symm
  obtain rfl : fn = Tryz.f6 := (Option.some.inj (Tryz.func6.symm.trans hfn)).symm
  refine ⟨by kernel_rfl, fun j t ht => ?_⟩
  rw [Tryz.params6] at ht
  obtain rfl : t = 22 := by simpa using Array.mem_of_getElem? ht
  exact (show Tryz.prog.wantsStandIn 22 = false by kernel_rfl)
theorem card : Rows.FnCodeGoesCardSaid :=
  Claim7.holds_tied_plain_at .later [] _ _ _ _ said (fun _ h => by cases h) (by kernel_rfl) (fun _ h => by cases h) fnCodeGoes_row_tie rfl ⟨rfl, rfl⟩ (by kernel_rfl) rfl plain (by kernel_rfl)
end CodeGoes

/-- the given statement -/
theorem codeGoes_holds : Rows.FnCodeGoesCardSaid := CodeGoes.card
#print axioms codeGoes_holds
end Go.Proofs.YtjhpaoadpcnlnaaGreatDoor
