/-
  For every two codes of at most 2^20 bytes: of the steps that are drawn, impl.CodeSafe answers as the specification does, and, where they are safe, they are not if the first step reads a slot that is not full at the beginning, and are so if it reads the one that is. Longer codes are let by. No condition but that the tables and errors of strconv are as their initialisers lay them.
-/
import Derived.Test.YtjhpaoadpcnlnaaGreatDoorZa19
import Derived.Test.YtjhpaoadpcnlnaaGreatDoorZa27
import Derived.Test.YtjhpaoadpcnlnaaGreatDoorZa28
import Derived.Test.YtjhpaoadpcnlnaaGreatDoorZa26
import Derived.Test.YtjhpaoadpcnlnaaGreatDoorFcFnSafeEmpty
namespace Go.Proofs.YtjhpaoadpcnlnaaGreatDoor
open Go.ChangeShapes Go.WideShapes Go.ChangeAt Go.RowKit Go.Joins
namespace SafeEmpty
theorem implCodeSafe_len (C : List OpV) (ao : Option Addr) (n cap : Nat) (w : World) (hn : C.length = n) (hl : C.length ≤ 1048576) (h : CodeAt w ao C) :
    Calls Tryz.prog 43 #[.slice ao n cap] w fun e w' => ∃ b, e = .returned (.bool b) ∧ SafeOf C b ∧ Below w.heap.size w w' := by
  subst hn; exact implCodeSafe_any C ao cap w hl h
set_option maxRecDepth 20000 in
set_option maxHeartbeats 8000000 in
theorem walk (a : Option Addr) (len cap : Nat) (a2 : Option Addr) (len2 cap2 : Nat) (w : World) (h : Code0 w a len cap) (_h2 : Code0 w a2 len2 cap2) :
    Calls Tryz.prog 15 #[.slice a len cap, .slice a2 len2 cap2] w fun e w' => e = .returned (.bool true) ∧ Below w.heap.size w w' := by
  by_cases hlen : len ≤ 1048576
  case neg =>
    have g0 : (1048576 : Int) < (len : Int) := by omega
    go_enter Tryz.func15, Tryz.ntmps15
    go_wp2_with fail
    go_ret
    exact ⟨rfl, Below.refl _ _⟩
  by_cases hlen2 : len2 ≤ 1048576
  · have g0 : ¬ (1048576 : Int) < (len : Int) := by omega
    have g9 : ¬ (1048576 : Int) < (len2 : Int) := by omega
    obtain ⟨inf, i1, i2, i3, i4⟩ := infoO
    go_enter Tryz.func15, Tryz.ntmps15
    go_wp2_with fail
    refine (drawSafe_any a len cap _ h).mono ?_
    rintro e w1 ⟨C, v, rfl, hC17, hO1, hB1⟩
    have hz1 := hB1.size
    obtain ⟨ao, cp, rfl, hC1, hg⟩ := hO1.code
    have hl : C.length ≤ 1048576 := by omega
    go_wp2_with fail
    refine (implCodeSafe_any C ao cp _ hl hC1).mono ?_
    rintro e w2 ⟨sb, rfl, hS2, hb2⟩
    have hz2 := hb2.size
    have hB2 : Below w.heap.size w w2 := hB1.trans (hb2.mono (by omega))
    have hC2 := hC1.below hb2
    have hO2 := OwnsO.below hO1 hb2
    clear hb2 hB1 hC1 hO1
    go_wp2_with fail
    refine (specCodeSafe_any C ao cp _ hl hC2).mono ?_
    rintro e w3 ⟨sb3, rfl, hS3, hb3⟩
    obtain rfl := safeOf_one hS2 hS3
    have hz3 := hb3.size
    have hB3 : Below w.heap.size w w3 := hB2.trans (hb3.mono (by omega))
    have hC3 := hC2.below hb3
    have hO3 := OwnsO.below hO2 hb3
    clear hb3 hB2 hC2 hO2 hS3
    cases sb with
    | false =>
      go_wp2_with fail
      refine (specCodeSafe_any C ao cp _ hl hC3).mono ?_
      rintro e w4 ⟨sb4, rfl, hS4, hb4⟩
      obtain rfl := safeOf_one hS2 hS4
      clear hS2 hS4
      go_wp2_with fail
      go_ret
      exact ⟨rfl, hB3.trans (hb4.mono (by omega))⟩
    | true =>
      have hcb := safeOf_ok hS2
      have hC0 : 0 < C.length := (codeB_well hcb).1.1
      have hC0' : (0 : Int) < (C.length : Int) := by omega
      replace hcb : Hid (codeB C = true) := hcb
      obtain ⟨g, cp', hv, hg1, hg2⟩ := hO3.blk hC0
      injection hv with hv1 _ hv3
      subst hv1
      subst hv3
      clear hS2 hg hC3
      have hmo : (len2 : Int) % 3 = ((len2 % 3 : Nat) : Int) := by simp
      have hmt : (len2 : Int).tmod 3 = ((len2 % 3 : Nat) : Int) := by rw [Int.tmod_eq_emod_of_nonneg (by omega)]; exact hmo
      have hml : len2 % 3 < 3 := Nat.mod_lt _ (by decide)
      generalize len2 % 3 = m at *
      have hrd4 := OwnsO.read (World.ownsRow.alloc hO3 (.cells #[] 26))
      go_wp2_with (refine wpList_append_own _ rfl (.tmp 33) (.tmp 34) 34 rfl (w3.heap.size) 26 inf (.agg #[.int .i64 0, .int .i64 0, .int .i64 0, .int .i64 0, .int .i64 0, .int .i64 0]) 6 48 Tryz.underlying34 i1 i2 i3 i4 rfl (by decide) _ 0 [] rfl (ownsO_empty' (w3) (w3.heap.size) rfl) ⟨g, 0, none⟩ C.length cp (cellsO C) rfl (cellsO_len C) hrd4 (cellsO_one C) (by unfold maxLen; omega) (by omega) (by simp <;> omega) ?_; intro x0 w4 ho40 hg40 _; show Hid _)
      have ho4 : OwnsO w4 (w3.heap.size) x0 C := by simpa [OwnsO] using ho40
      obtain ⟨g4, cap4, rfl, hg41, hg42⟩ := ho4.blk hC0
      have hz40 := hg40.size
      simp at hz40
      delta Hid
      go_wp2_with fail
      refine .inl (wpList_nil ?_)
      go_step
      have hB4 : Below w.heap.size w w4 := (hB3.alloc (by omega) _).grown hg40 (by simp; omega) (by intro k e; cases e; show w.heap.size ≤ w3.heap.size; omega)
      have hO4 : OwnsO w4 w.heap.size (.slice (some ⟨g, 0, none⟩) C.length cp) C := OwnsO.keep (World.ownsRow.alloc hO3 (.cells #[] 26)) hg40 (fun k e => by cases e; intro e2; have : g = w3.heap.size := Option.some.inj e2; omega)
      clear hg40 ho40 hrd4 hO3
      obtain ⟨⟨s0, s1, s2, s3, s4, s5⟩, fz⟩ := ho4.stepAt 0 hC0
      simp only [Nat.zero_mul, Nat.zero_add] at s0 s1 s2 s3 s4 s5
      have f0 := fz 0
      have f1 := fz 1
      have f2 := fz 2
      have f3 := fz 3
      have f4 := fz 4
      have f5 := fz 5
      have hX4 := ho4.put 0 hC0 ⟨14, (1 + (m : Int)), 0, 0, 0, 0⟩
      have hbt4 := but6 w4 g4 0 (.int .i64 14) (.int .i64 (1 + (m : Int))) (.int .i64 0) (.int .i64 0) (.int .i64 0) (.int .i64 0)
      simp only [Nat.zero_mul, Nat.zero_add] at hX4 hbt4
      have hbz4 := hbt4.size
      replace hO4 := OwnsO.aside hO4 hbt4 (by intro e2; have : g = g4 := Option.some.inj e2; omega)
      replace hB4 := hB4.trans (hbt4.below (B := w.heap.size) (by omega) (by omega))
      clear fz ho4 hbt4
      replace hX4 : Hid (OwnsO (((((((w4.setCell ⟨g4, 0, none⟩ (.int .i64 14)).setCell ⟨g4, 1, none⟩ (.int .i64 (1 + (m : Int)))).setCell ⟨g4, 2, none⟩ (.int .i64 0)).setCell ⟨g4, 3, none⟩ (.int .i64 0)).setCell ⟨g4, 4, none⟩ (.int .i64 0)).setCell ⟨g4, 5, none⟩ (.int .i64 0))) w3.heap.size (.slice (some ⟨g4, 0, none⟩) C.length cap4) (C.set 0 ⟨14, (1 + (m : Int)), 0, 0, 0, 0⟩)) := hX4
      iterate 30 go_step
      generalize (((((((w4.setCell ⟨g4, 0, none⟩ (.int .i64 14)).setCell ⟨g4, 1, none⟩ (.int .i64 (1 + (m : Int)))).setCell ⟨g4, 2, none⟩ (.int .i64 0)).setCell ⟨g4, 3, none⟩ (.int .i64 0)).setCell ⟨g4, 4, none⟩ (.int .i64 0)).setCell ⟨g4, 5, none⟩ (.int .i64 0))) = w5 at *
      clear s0 s1 s2 s3 s4 s5 f0 f1 f2 f3 f4 f5
      have hrd5 := OwnsO.read (World.ownsRow.alloc hO4 (.cells #[] 26))
      go_wp2_with (refine wpList_append_own _ rfl (.tmp 43) (.tmp 44) 34 rfl (w5.heap.size) 26 inf (.agg #[.int .i64 0, .int .i64 0, .int .i64 0, .int .i64 0, .int .i64 0, .int .i64 0]) 6 48 Tryz.underlying34 i1 i2 i3 i4 rfl (by decide) _ 0 [] rfl (ownsO_empty' (w5) (w5.heap.size) rfl) ⟨g, 0, none⟩ C.length cp (cellsO C) rfl (cellsO_len C) hrd5 (cellsO_one C) (by unfold maxLen; omega) (by omega) (by simp <;> omega) ?_; intro x0 w6 ho50 hg50 _; show Hid _)
      have ho5 : OwnsO w6 (w5.heap.size) x0 C := by simpa [OwnsO] using ho50
      obtain ⟨g5, cap5, rfl, hg51, hg52⟩ := ho5.blk hC0
      have hz50 := hg50.size
      simp at hz50
      delta Hid
      go_wp2_with fail
      refine .inl (wpList_nil ?_)
      go_step
      have hB6 : Below w.heap.size w w6 := (hB4.alloc (by omega) _).grown hg50 (by simp; omega) (by intro k e; cases e; show w.heap.size ≤ w5.heap.size; omega)
      have hX6 := OwnsO.keep (World.ownsRow.alloc hX4.out (.cells #[] 26)) hg50 (fun k e => by cases e; intro e2; have : g4 = w5.heap.size := Option.some.inj e2; omega)
      clear hg50 ho50 hrd5 hO4 hX4
      obtain ⟨⟨s0, s1, s2, s3, s4, s5⟩, fz⟩ := ho5.stepAt 0 hC0
      simp only [Nat.zero_mul, Nat.zero_add] at s0 s1 s2 s3 s4 s5
      have f0 := fz 0
      have f1 := fz 1
      have f2 := fz 2
      have f3 := fz 3
      have f4 := fz 4
      have f5 := fz 5
      have hX5 := ho5.put 0 hC0 ⟨14, 0, 0, 0, 0, 0⟩
      have hbt5 := but6 w6 g5 0 (.int .i64 14) (.int .i64 0) (.int .i64 0) (.int .i64 0) (.int .i64 0) (.int .i64 0)
      simp only [Nat.zero_mul, Nat.zero_add] at hX5 hbt5
      have hbz5 := hbt5.size
      replace hX6 := OwnsO.aside hX6 hbt5 (by intro e2; have : g4 = g5 := Option.some.inj e2; omega)
      replace hB6 := hB6.trans (hbt5.below (B := w.heap.size) (by omega) (by omega))
      clear fz ho5 hbt5
      replace hX5 : Hid (OwnsO (((((((w6.setCell ⟨g5, 0, none⟩ (.int .i64 14)).setCell ⟨g5, 1, none⟩ (.int .i64 0)).setCell ⟨g5, 2, none⟩ (.int .i64 0)).setCell ⟨g5, 3, none⟩ (.int .i64 0)).setCell ⟨g5, 4, none⟩ (.int .i64 0)).setCell ⟨g5, 5, none⟩ (.int .i64 0))) w5.heap.size (.slice (some ⟨g5, 0, none⟩) C.length cap5) (C.set 0 ⟨14, 0, 0, 0, 0, 0⟩)) := hX5
      replace hX6 : Hid (OwnsO (((((((w6.setCell ⟨g5, 0, none⟩ (.int .i64 14)).setCell ⟨g5, 1, none⟩ (.int .i64 0)).setCell ⟨g5, 2, none⟩ (.int .i64 0)).setCell ⟨g5, 3, none⟩ (.int .i64 0)).setCell ⟨g5, 4, none⟩ (.int .i64 0)).setCell ⟨g5, 5, none⟩ (.int .i64 0))) w3.heap.size (.slice (some ⟨g4, 0, none⟩) C.length cap4) (C.set 0 ⟨14, (1 + (m : Int)), 0, 0, 0, 0⟩)) := hX6
      iterate 18 go_step
      generalize (((((((w6.setCell ⟨g5, 0, none⟩ (.int .i64 14)).setCell ⟨g5, 1, none⟩ (.int .i64 0)).setCell ⟨g5, 2, none⟩ (.int .i64 0)).setCell ⟨g5, 3, none⟩ (.int .i64 0)).setCell ⟨g5, 4, none⟩ (.int .i64 0)).setCell ⟨g5, 5, none⟩ (.int .i64 0))) = w7 at *
      clear s0 s1 s2 s3 s4 s5 f0 f1 f2 f3 f4 f5
      go_wp2_with fail
      refine (implCodeSafe_len _ _ C.length cap4 _ (by rw [List.length_set]) (by rw [List.length_set]; exact hl) (OwnsO.at_ hX6.out)).mono ?_
      rintro e w8 ⟨b8, rfl, hS8, hb8⟩
      have e8 := safeOf_one hS8 (safe_first_end hcb.out (1 + (m : Int)) (by omega) (by omega))
      rw [decide_eq_false (by omega)] at e8
      subst e8
      have hz8 := hb8.size
      have hX8 := OwnsO.at_ (OwnsO.below hX5.out hb8)
      have hB8 : Below w.heap.size w w8 := hB6.trans (hb8.mono (by omega))
      clear hS8 hX5 hX6 hb8 hB6
      go_wp2_with fail
      refine (implCodeSafe_len _ _ C.length cap5 _ (by rw [List.length_set]) (by rw [List.length_set]; exact hl) hX8).mono ?_
      rintro e w9 ⟨b9, rfl, hS9, hb9⟩
      have e9 := safeOf_one hS9 (safe_first_end hcb.out 0 (by omega) (by omega))
      rw [decide_eq_true rfl] at e9
      subst e9
      clear hS9 hX8
      go_wp2_with fail
      go_ret
      exact ⟨rfl, hB8.trans (hb9.mono (by omega))⟩
  · have g0 : ¬ (1048576 : Int) < (len : Int) := by omega
    have g9 : (1048576 : Int) < (len2 : Int) := by omega
    go_enter Tryz.func15, Tryz.ntmps15
    go_wp2_with fail
    go_ret
    exact ⟨rfl, Below.refl _ _⟩

set_option maxRecDepth 20000 in
theorem contract (H : Type) (enc : TypeId × Value → H) (W : World) (base : Nat) (args : Array Value) (ds gs : List (DataW H)) (before : List MemPlace)
    (hval : ∀ (j : Nat) t v, Tryz.f15.params[j]? = some t → args[j]? = some v → Value.okWide Tryz.prog W .any base t v)
    (hW : DataW.Whole enc Tryz.prog Tryz.f15.params.toList Rows.fnSafeEmptySpec.vars false W args.toList ds gs before) (_hL : laidMetH Tryz.prog Rows.fnSafeEmptyRow.laid W) :
    Calls Tryz.prog 15 args W fun e W' => ∃ v, e = .returned v ∧ Rows.fnSafeEmptySpec.post enc Tryz.prog Tryz.f15 false true false false W args v W' := by
  have hW' := hW
  obtain ⟨p, q, hA0, hV, rfl, hfz, hnd⟩ := hW
  have hA : DataW.TrodAll enc Tryz.prog W 0 (fun _ => true) true Tryz.f15.params.toList args.toList ds p := hA0
  rw [Tryz.params15] at hA hval
  obtain ⟨v0, vs0, d0, ds0, p0, q0, hargs, rfl, rfl, h0, r0⟩ := trodAll_cons hA
  obtain ⟨v1, vs1, d1, ds1, p1, q1, rfl, rfl, rfl, h1, r1⟩ := trodAll_cons r0
  obtain ⟨rfl, rfl, rfl⟩ := trodAll_nil r1
  obtain rfl : args = #[v0, v1] := by cases args; simp_all
  obtain ⟨rfl, rfl⟩ := trodVars_none hV
  obtain ⟨a0, len0, cap0, rfl⟩ := okWide_slice Tryz.underlying22 (hval 0 22 v0 rfl rfl)
  have k0 := h0
  have lt0 : ∀ x ∈ p0, x.block < W.heap.size := by obtain ⟨m, hm⟩ := k0; exact DataW.trod_lt m _ _ _ hm
  have w0 : Code0 W a0 len0 cap0 := by
    obtain ⟨fuel, hf⟩ := h0
    rcases open_ints Tryz.underlying22 Tryz.underlying5 (by kernel_rfl) hf with ⟨hcs, _⟩ | ⟨x, l, c, zs, hcs, _, hl, hm, hz, _, hcell, hwz⟩
    · simp [Value.cells] at hcs
      obtain ⟨rfl, rfl, rfl⟩ := hcs
      exact code_of_row (zs := []) (.inl ⟨rfl, rfl, rfl, rfl⟩)
    · simp [Value.cells] at hcs
      obtain ⟨rfl, rfl, rfl⟩ := hcs
      exact code_of_row (zs := zs) (.inr ⟨_, rfl, hl, hm, by simpa using hz, hcell, hwz⟩)
  obtain ⟨a1, len1, cap1, rfl⟩ := okWide_slice Tryz.underlying22 (hval 1 22 v1 rfl rfl)
  have k1 := h1
  have lt1 : ∀ x ∈ p1, x.block < W.heap.size := by obtain ⟨m, hm⟩ := k1; exact DataW.trod_lt m _ _ _ hm
  have w1 : Code0 W a1 len1 cap1 := by
    obtain ⟨fuel, hf⟩ := h1
    rcases open_ints Tryz.underlying22 Tryz.underlying5 (by kernel_rfl) hf with ⟨hcs, _⟩ | ⟨x, l, c, zs, hcs, _, hl, hm, hz, _, hcell, hwz⟩
    · simp [Value.cells] at hcs
      obtain ⟨rfl, rfl, rfl⟩ := hcs
      exact code_of_row (zs := []) (.inl ⟨rfl, rfl, rfl, rfl⟩)
    · simp [Value.cells] at hcs
      obtain ⟨rfl, rfl, rfl⟩ := hcs
      exact code_of_row (zs := zs) (.inr ⟨_, rfl, hl, hm, by simpa using hz, hcell, hwz⟩)
  clear hA0
  refine (walk a0 len0 cap0 a1 len1 cap1 W w0 w1).mono fun e W' ⟨he, bel⟩ => ?_
  subst he
  exact ⟨_, rfl, _, _, _, [], _, [], hW', trodAll_mk1 (shut_bool Tryz.underlying4 _), (trodAll_cons_mk (Below.trod laidOut (by kernel_rfl) (of_decide_eq_true (by kernel_rfl)) k0 bel lt0) (trodAll_cons_mk (Below.trod laidOut (by kernel_rfl) (of_decide_eq_true (by kernel_rfl)) k1 bel lt1) trodAll_mk0)), rfl, bel.frame _, fun h => by cases h⟩
theorem laid_met (os : Os) : laidMet Tryz.prog Rows.fnSafeEmptyRow.laid ((putAll (World.settled Tryz.prog os).heap.size (World.holding Tryz.prog os ⟨errBlocks, #[], []⟩)).forCall (fun _ _ => 0) ⟨#[], #[.slice none 0 0, .slice none 0 0], []⟩).memory :=
  laidMet_of_run' 10 (by kernel_rfl) (by kernel_rfl)
theorem reads (os : Os) {H : Type} (enc : TypeId × Value → H) : ∃ places, DataW.whole enc Tryz.prog ((putAll (World.settled Tryz.prog os).heap.size (World.holding Tryz.prog os ⟨errBlocks, #[], []⟩)).forCall (fun _ _ => 0) ⟨#[], #[.slice none 0 0, .slice none 0 0], []⟩).memory Tryz.f15.params.toList Rows.fnSafeEmptySpec.vars false #[.slice none 0 0, .slice none 0 0].toList 8 = some ([.nil, .nil], [], places) :=
  ⟨[], by kernel_rfl⟩
set_option maxRecDepth 100000 in
theorem lifted (os : Os) (started : os.Started) (H : Type) (enc : TypeId × Value → H) (F : Stop.Interp) :
    ReturnsInHanded {} Tryz.checked os 15 .any ((OpenSpec.ofChange Rows.fnSafeEmptySpec).preRow enc Tryz.prog Tryz.f15 Rows.fnSafeEmptyRow.domain false Rows.fnSafeEmptyRow.laid) (((OpenSpec.ofChange Rows.fnSafeEmptySpec).at F).post enc Tryz.prog Tryz.f15 false true false false) := by
  obtain ⟨places, hx⟩ := reads os enc
  refine returnsInHanded_of_row (C := Tryz.checked) (s := OpenSpec.ofChange Rows.fnSafeEmptySpec) own started (by kernel_rfl) Tryz.func15
    (witness_row_atRef (enc := enc) (C := Tryz.checked) false (putAll (World.settled Tryz.prog os).heap.size (World.holding Tryz.prog os ⟨errBlocks, #[], []⟩)) #[.slice none 0 0, .slice none 0 0] rfl (by kernel_rfl) (by kernel_rfl) (by kernel_rfl)
      (OpenSpec.preRow_of_cond 8 hx (by kernel_rfl) (fun k hk => by cases hk) (by kernel_rfl) (laid_met os))) ?_
  intro W base args ds gs before hval hW _ _ _ hL _ _
  exact contract H enc W base args ds gs before hval hW hL
set_option maxRecDepth 100000 in
theorem said : Rows.FnSafeEmptySaid :=
  OpenClaim.holds_of_cond 15 Tryz.f15 rfl rfl rfl rfl rfl rfl rfl ⟨rfl, rfl, rfl, rfl, rfl⟩ rfl rfl rfl rfl rfl (by kernel_rfl) Tryz.func15 FcFnSafeEmpty.closed
    (of_decide_eq_true (by kernel_rfl)) (by unfold Func.isWrapper; first | (rw [if_pos (by decide +kernel)]; kernel_rfl) | (rw [if_neg (by decide +kernel)]; exact ⟨rfl, rfl⟩))
    (fun os started H enc _ F => by rw [OpenClaim.pre_eq_preRow]; exact lifted os started H enc F)
theorem plain (f : FuncId) (fn : Func) (hf : Tryz.pinned.checked.prog.funcNamed Rows.fnSafeEmptyRow.func = some f) (hfn : Tryz.pinned.checked.prog.funcs[f]? = some fn) :
    true = Tryz.pinned.checked.prog.looks [] ∧ ∀ (j : Nat) t, fn.params[j]? = some t → Tryz.pinned.checked.prog.wantsStandIn t = false := by
  obtain rfl : f = 15 := Option.some.inj ((show Tryz.prog.funcNamed Rows.fnSafeEmptyRow.func = some 15 by kernel_rfl).symm.trans hf) |>.symm
  obtain rfl : fn = Tryz.f15 := (Option.some.inj (Tryz.func15.symm.trans hfn)).symm
  refine ⟨by kernel_rfl, fun j t ht => ?_⟩
  rw [Tryz.params15] at ht
  obtain rfl : t = 22 := by simpa using Array.mem_of_getElem? ht
  exact (show Tryz.prog.wantsStandIn 22 = false by kernel_rfl)
theorem card : Rows.FnSafeEmptyCardSaid :=
  Claim7.holds_tied_plain_at .later [] _ _ _ _ said (fun _ h => by cases h) (by kernel_rfl) (fun _ h => by cases h) fnSafeEmpty_row_tie rfl ⟨rfl, rfl⟩ (by kernel_rfl) rfl plain (by kernel_rfl)
end SafeEmpty

/-- the given statement -/
theorem safeEmpty_holds : Rows.FnSafeEmptyCardSaid := SafeEmpty.card
#print axioms safeEmpty_holds
end Go.Proofs.YtjhpaoadpcnlnaaGreatDoor
