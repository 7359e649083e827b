/-
  For every two codes of at most 2^20 bytes: of the steps that are drawn, impl.CodeReach answers as the specification does, and, where it tells places, they are of the steps, and with a first step that goes to itself, or ends, just the first place is told. Longer codes are let by. No condition but that the tables and errors of strconv are as their initialisers lay them.
-/
import Derived.Test.YtjhpaoadpcnlnaaGreatDoorZa19
import Derived.Test.YtjhpaoadpcnlnaaGreatDoorZa23
import Derived.Test.YtjhpaoadpcnlnaaGreatDoorZa25
import Derived.Test.YtjhpaoadpcnlnaaGreatDoorZa28
import Derived.Test.YtjhpaoadpcnlnaaGreatDoorZa26
import Derived.Test.YtjhpaoadpcnlnaaGreatDoorFcFnReachAll
namespace Go.Proofs.YtjhpaoadpcnlnaaGreatDoor
open Go.ChangeShapes Go.WideShapes Go.ChangeAt Go.RowKit Go.Joins
namespace ReachAll
theorem implCodeReach_len (C : List OpV) (ao : Option Addr) (n cap : Nat) (w : World) (hn : C.length = n) (hl : C.length ≤ 1048576) (h : CodeAt w ao C) (L : List Int) (hL : ReachOf C L) :
    Calls Tryz.prog 36 #[.slice ao n cap] w fun e w' => ∃ v, e = .returned v ∧ Owns w' w.heap.size v L ∧ Below w.heap.size w w' := by
  subst hn
  refine (implCodeReach_any C ao cap w hl h).mono ?_
  rintro e w' ⟨v, M, he, hM, ho, hb⟩
  obtain rfl := reachOf_one hL hM
  exact ⟨v, he, ho, hb⟩
set_option maxRecDepth 20000 in
set_option maxHeartbeats 8000000 in
theorem walk (a : Option Addr) (len cap : Nat) (a2 : Option Addr) (len2 cap2 : Nat) (w : World) (h : Code0 w a len cap) (_h2 : Code0 w a2 len2 cap2) :
    Calls Tryz.prog 14 #[.slice a len cap, .slice a2 len2 cap2] w fun e w' => e = .returned (.bool true) ∧ Below w.heap.size w w' := by
  by_cases hlen : len ≤ 1048576
  case neg =>
    have g0 : (1048576 : Int) < (len : Int) := by omega
    go_enter Tryz.func14, Tryz.ntmps14
    go_wp2_with fail
    go_ret
    exact ⟨rfl, Below.refl _ _⟩
  by_cases hlen2 : len2 ≤ 1048576
  · have g0 : ¬ (1048576 : Int) < (len : Int) := by omega
    have g9 : ¬ (1048576 : Int) < (len2 : Int) := by omega
    obtain ⟨inf, i1, i2, i3, i4⟩ := infoO
    go_enter Tryz.func14, Tryz.ntmps14
    go_wp2_with fail
    refine (drawReach_any a len cap _ h).mono ?_
    rintro e w1 ⟨C, v, rfl, hC17, hO1, hB1⟩
    have hz1 := hB1.size
    obtain ⟨ao, cp, rfl, hC1, _⟩ := hO1.code
    have hl : C.length ≤ 1048576 := by omega
    have hO1' := hO1
    clear hO1
    go_wp2_with fail
    refine (implCodeReach_any C ao cp _ hl hC1).mono ?_
    rintro e w2 ⟨v2, L, rfl, hR2, hO2, hb2⟩
    have hz2 := hb2.size
    have hB2 : Below w.heap.size w w2 := hB1.trans (hb2.mono (by omega))
    have hC2 := hC1.below hb2
    have hLl : L.length ≤ 1048576 := by have := reachOf_len hR2; omega
    have hI2 := Owns.ints hO2
    have hQ2 := OwnsO.below hO1' hb2
    clear hO2 hb2 hB1 hC1 hO1'
    go_wp2_with fail
    refine (specCodeReach_any C ao cp _ hl hC2).mono ?_
    rintro e w3 ⟨v3, L3, rfl, hR3, hO3, hb3⟩
    obtain rfl := reachOf_one hR2 hR3
    have hz3 := hb3.size
    have hB3 : Below w.heap.size w w3 := hB2.trans (hb3.mono (by omega))
    have hC3 := hC2.below hb3
    have hI3 := hI2.below hb3
    have hQ3 := OwnsO.below hQ2 hb3
    clear hb3 hB2 hC2 hI2 hR3 hQ2
    go_wp2_with fail
    refine (lvInts_same w3.heap.size L _ _ _ hLl (hI3.mono (by omega)) (Owns.ints hO3)).mono ?_
    rintro e w4 ⟨rfl, hb4⟩
    have hz4 := hb4.size
    have hB4 : Below w.heap.size w w4 := hB3.trans (hb4.mono (by omega))
    have hC4 := hC3.below hb4
    have hI4 := hI3.below (hb4.mono (by omega))
    have hQ4 := OwnsO.below hQ3 hb4
    clear hb4 hB3 hC3 hI3 hO3 hQ3
    obtain ⟨ao2, cp2, rfl, hI4'⟩ := id hI4
    by_cases hL0 : L.length = 0
    · have hL1 : ((L.length : Int) == 0) = true := by simp [hL0]
      replace hL0 : Hid (L.length = 0) := hL0
      go_wp2_with fail
      refine (specCodeReach_any C ao cp _ hl hC4).mono ?_
      rintro e w5 ⟨v5, L5, rfl, hR5, hO5, hb5⟩
      obtain rfl := reachOf_one hR2 hR5
      have hz5 := hb5.size
      have hB5 : Below w.heap.size w w5 := hB4.trans (hb5.mono (by omega))
      have hI5 := hI4.below (hb5.mono (by omega))
      go_wp2_with fail
      refine (lvInts_same w5.heap.size L _ _ _ hLl (hI5.mono (by omega)) (Owns.ints hO5)).mono ?_
      rintro e w6 ⟨rfl, hb6⟩
      go_wp2_with fail
      go_ret
      exact ⟨rfl, hB5.trans (hb6.mono (by omega))⟩
    · have hL1 : ((L.length : Int) == 0) = false := by simp [hL0]
      clear hI4'
      obtain ⟨hcb, R, hR, hLR⟩ := reach_code hR2 hL0
      have hC0 : 0 < C.length := (codeB_well hcb).1.1
      have hC0' : (0 : Int) < (C.length : Int) := by omega
      replace hcb : Hid (codeB C = true) := hcb
      have hlast : Hid (∀ x ∈ L, 0 ≤ x ∧ x < (C.length : Int)) := fun x hx => reach_last hR2 x hx
      have hLC : L.length ≤ C.length := reachOf_len hR2
      obtain ⟨g, cp', hv, hg1, hg2⟩ := hQ4.blk hC0
      injection hv with hv1 _ hv3
      subst hv1
      subst hv3
      have hmo : (len2 : Int) % 4 = ((len2 % 4 : Nat) : Int) := by simp
      have hmt : (len2 : Int).tmod 4 = ((len2 % 4 : Nat) : Int) := by rw [Int.tmod_eq_emod_of_nonneg (by omega)]; exact hmo
      have hml : len2 % 4 < 4 := Nat.mod_lt _ (by decide)
      generalize len2 % 4 = m at *
      clear hC4 hLR hR hR2
      have hrd5 := OwnsO.read (World.ownsRow.alloc hQ4 (.cells #[] 26))
      go_wp2_with (refine wpList_append_own _ rfl (.tmp 35) (.tmp 36) 34 rfl (w4.heap.size) 26 inf (.agg #[.int .i64 0, .int .i64 0, .int .i64 0, .int .i64 0, .int .i64 0, .int .i64 0]) 6 48 Tryz.underlying34 i1 i2 i3 i4 rfl (by decide) _ 0 [] rfl (ownsO_empty' (w4) (w4.heap.size) rfl) ⟨g, 0, none⟩ C.length cp (cellsO C) rfl (cellsO_len C) hrd5 (cellsO_one C) (by unfold maxLen; omega) (by omega) (by simp <;> omega) ?_; intro x0 w5 ho50 hg50 _; show Hid _)
      have ho5 : OwnsO w5 (w4.heap.size) x0 C := by simpa [OwnsO] using ho50
      obtain ⟨g5, cap5, rfl, hg51, hg52⟩ := ho5.blk hC0
      have hz50 := hg50.size
      simp at hz50
      delta Hid
      go_wp2_with fail
      refine .inl (wpList_nil ?_)
      go_step
      have hB5 : Below w.heap.size w w5 := (hB4.alloc (by omega) _).grown hg50 (by simp; omega) (by intro k e; cases e; show w.heap.size ≤ w4.heap.size; omega)
      have hI5 := (hI4.below (((Below.refl w4.heap.size w4).alloc (Nat.le_refl _) _).grown hg50 (by simp) (by intro k e; cases e; exact Nat.le_refl _) |>.mono (by omega)))
      have hO5 : OwnsO w5 w.heap.size (.slice (some ⟨g, 0, none⟩) C.length cp) C := OwnsO.keep (World.ownsRow.alloc hQ4 (.cells #[] 26)) hg50 (fun k e => by cases e; intro e2; have : g = w4.heap.size := Option.some.inj e2; omega)
      clear hg50 ho50 hrd5 hQ4 hI4
      obtain ⟨⟨s0, s1, s2, s3, s4, s5⟩, fz⟩ := ho5.stepAt 0 hC0
      simp only [Nat.zero_mul, Nat.zero_add] at s0 s1 s2 s3 s4 s5
      have f0 := fz 0
      have f1 := fz 1
      have f2 := fz 2
      have f3 := fz 3
      have f4 := fz 4
      have f5 := fz 5
      have hX5 := ho5.put 0 hC0 ⟨9, 0, 0, 0, 0, 0⟩
      have hbt5 := but6 w5 g5 0 (.int .i64 9) (.int .i64 0) (.int .i64 0) (.int .i64 0) (.int .i64 0) (.int .i64 0)
      simp only [Nat.zero_mul, Nat.zero_add] at hX5 hbt5
      have hbz5 := hbt5.size
      replace hO5 := OwnsO.aside hO5 hbt5 (by intro e2; have : g = g5 := Option.some.inj e2; omega)
      replace hB5 := hB5.trans (hbt5.below (B := w.heap.size) (by omega) (by omega))
      replace hI5 := hI5.below (hbt5.below (B := w2.heap.size) (by omega) (by omega))
      clear fz ho5 hbt5
      replace hX5 : Hid (OwnsO (((((((w5.setCell ⟨g5, 0, none⟩ (.int .i64 9)).setCell ⟨g5, 1, none⟩ (.int .i64 0)).setCell ⟨g5, 2, none⟩ (.int .i64 0)).setCell ⟨g5, 3, none⟩ (.int .i64 0)).setCell ⟨g5, 4, none⟩ (.int .i64 0)).setCell ⟨g5, 5, none⟩ (.int .i64 0))) w4.heap.size (.slice (some ⟨g5, 0, none⟩) C.length cap5) (C.set 0 ⟨9, 0, 0, 0, 0, 0⟩)) := hX5
      iterate 18 go_step
      generalize (((((((w5.setCell ⟨g5, 0, none⟩ (.int .i64 9)).setCell ⟨g5, 1, none⟩ (.int .i64 0)).setCell ⟨g5, 2, none⟩ (.int .i64 0)).setCell ⟨g5, 3, none⟩ (.int .i64 0)).setCell ⟨g5, 4, none⟩ (.int .i64 0)).setCell ⟨g5, 5, none⟩ (.int .i64 0))) = w6 at *
      clear s0 s1 s2 s3 s4 s5 f0 f1 f2 f3 f4 f5
      have hrd6 := OwnsO.read (World.ownsRow.alloc hO5 (.cells #[] 26))
      go_wp2_with (refine wpList_append_own _ rfl (.tmp 41) (.tmp 42) 34 rfl (w6.heap.size) 26 inf (.agg #[.int .i64 0, .int .i64 0, .int .i64 0, .int .i64 0, .int .i64 0, .int .i64 0]) 6 48 Tryz.underlying34 i1 i2 i3 i4 rfl (by decide) _ 0 [] rfl (ownsO_empty' (w6) (w6.heap.size) rfl) ⟨g, 0, none⟩ C.length cp (cellsO C) rfl (cellsO_len C) hrd6 (cellsO_one C) (by unfold maxLen; omega) (by omega) (by simp <;> omega) ?_; intro x0 w7 ho60 hg60 _; show Hid _)
      have ho6 : OwnsO w7 (w6.heap.size) x0 C := by simpa [OwnsO] using ho60
      obtain ⟨g6, cap6, rfl, hg61, hg62⟩ := ho6.blk hC0
      have hz60 := hg60.size
      simp at hz60
      delta Hid
      go_wp2_with fail
      refine .inl (wpList_nil ?_)
      go_step
      have hB7 : Below w.heap.size w w7 := (hB5.alloc (by omega) _).grown hg60 (by simp; omega) (by intro k e; cases e; show w.heap.size ≤ w6.heap.size; omega)
      have hI7 := (hI5.below (((Below.refl w6.heap.size w6).alloc (Nat.le_refl _) _).grown hg60 (by simp) (by intro k e; cases e; exact Nat.le_refl _) |>.mono (by omega)))
      have hX7 := OwnsO.keep (World.ownsRow.alloc hX5.out (.cells #[] 26)) hg60 (fun k e => by cases e; intro e2; have : g5 = w6.heap.size := Option.some.inj e2; omega)
      clear hg60 ho60 hrd6 hO5 hX5 hI5
      obtain ⟨⟨s0, s1, s2, s3, s4, s5⟩, fz⟩ := ho6.stepAt 0 hC0
      simp only [Nat.zero_mul, Nat.zero_add] at s0 s1 s2 s3 s4 s5
      have f0 := fz 0
      have f1 := fz 1
      have f2 := fz 2
      have f3 := fz 3
      have f4 := fz 4
      have f5 := fz 5
      have hX6 := ho6.put 0 hC0 ⟨14, (m : Int), 0, 0, 0, 0⟩
      have hbt6 := but6 w7 g6 0 (.int .i64 14) (.int .i64 (m : Int)) (.int .i64 0) (.int .i64 0) (.int .i64 0) (.int .i64 0)
      simp only [Nat.zero_mul, Nat.zero_add] at hX6 hbt6
      have hbz6 := hbt6.size
      replace hX7 := OwnsO.aside hX7 hbt6 (by intro e2; have : g5 = g6 := Option.some.inj e2; omega)
      replace hB7 := hB7.trans (hbt6.below (B := w.heap.size) (by omega) (by omega))
      replace hI7 := hI7.below (hbt6.below (B := w2.heap.size) (by omega) (by omega))
      clear fz ho6 hbt6
      replace hX6 : Hid (OwnsO (((((((w7.setCell ⟨g6, 0, none⟩ (.int .i64 14)).setCell ⟨g6, 1, none⟩ (.int .i64 (m : Int))).setCell ⟨g6, 2, none⟩ (.int .i64 0)).setCell ⟨g6, 3, none⟩ (.int .i64 0)).setCell ⟨g6, 4, none⟩ (.int .i64 0)).setCell ⟨g6, 5, none⟩ (.int .i64 0))) w6.heap.size (.slice (some ⟨g6, 0, none⟩) C.length cap6) (C.set 0 ⟨14, (m : Int), 0, 0, 0, 0⟩)) := hX6
      replace hX7 : Hid (OwnsO (((((((w7.setCell ⟨g6, 0, none⟩ (.int .i64 14)).setCell ⟨g6, 1, none⟩ (.int .i64 (m : Int))).setCell ⟨g6, 2, none⟩ (.int .i64 0)).setCell ⟨g6, 3, none⟩ (.int .i64 0)).setCell ⟨g6, 4, none⟩ (.int .i64 0)).setCell ⟨g6, 5, none⟩ (.int .i64 0))) w4.heap.size (.slice (some ⟨g5, 0, none⟩) C.length cap5) (C.set 0 ⟨9, 0, 0, 0, 0, 0⟩)) := hX7
      iterate 27 go_step
      generalize (((((((w7.setCell ⟨g6, 0, none⟩ (.int .i64 14)).setCell ⟨g6, 1, none⟩ (.int .i64 (m : Int))).setCell ⟨g6, 2, none⟩ (.int .i64 0)).setCell ⟨g6, 3, none⟩ (.int .i64 0)).setCell ⟨g6, 4, none⟩ (.int .i64 0)).setCell ⟨g6, 5, none⟩ (.int .i64 0))) = w8 at *
      clear s0 s1 s2 s3 s4 s5 f0 f1 f2 f3 f4 f5
      obtain ⟨aoL, cpL, hvL, hcL⟩ := hI7
      injection hvL with hvL1 _ hvL3
      subst hvL1
      subst hvL3
      rcases hcL with hcL | ⟨bL, oL, rfl, hbL, hcL⟩
      · exact absurd (by rw [hcL]; rfl) hL0
      obtain ⟨nl, hnl⟩ : ∃ nl, L.length = nl + 1 := ⟨L.length - 1, by omega⟩
      have hnl' : nl < L.length := by omega
      have cL := hcL nl hnl'
      have hbd := hlast.out L[nl] (List.getElem_mem hnl')
      generalize L[nl] = xl at *
      have q1 : (L.length : Int) ≤ (C.length : Int) := by omega
      have q2 : xl < (C.length : Int) := hbd.2
      have hLn : Hid (L.length = nl + 1) := hnl
      rw [hnl] at *
      clear hcL hnl hnl' hbd
      have q3 : ((nl : Int) + 1) ≤ (C.length : Int) := by omega
      have q4 : (nl : Int) < (nl : Int) + 1 := by omega
      go_wp2_with fail
      refine (implCodeReach_len _ _ C.length cap5 _ (by rw [List.length_set]) (by rw [List.length_set]; exact hl) (OwnsO.at_ hX7.out) [0] (reach_set_go hcb.out)).mono ?_
      rintro e w9 ⟨v9, rfl, ho9, hb9⟩
      have hz9 := hb9.size
      have hB9 : Below w.heap.size w w9 := hB7.trans (hb9.mono (by omega))
      have hI9 := (Owns.ints ho9).below ((Below.refl w9.heap.size w9).alloc (Nat.le_refl _) (.cells #[.int .i64 0] 3))
      have hX9 := OwnsO.below hX6.out hb9
      clear ho9 hb9 hX6 hX7
      go_wp2_with fail
      refine (lvInts_same (w9.heap.size + 1) [0] _ _ _ (by simp) (hI9.mono (by omega)) (ints_lit1' _ _ _ rfl)).mono ?_
      rintro e w10 ⟨rfl, hb10⟩
      have hz10 := hb10.size
      simp at hz10
      have hX10 := OwnsO.below (OwnsO.below hX9 ((Below.refl w9.heap.size w9).alloc (Nat.le_refl _) (.cells #[.int .i64 0] 3))) hb10
      have hB10 : Below w.heap.size w w10 := (hB9.alloc (by omega) _).trans (hb10.mono (by simp; omega))
      clear hI9 hb10 hX9 hB9
      go_wp2_with fail
      refine (implCodeReach_len _ _ C.length cap6 _ (by rw [List.length_set]) (by rw [List.length_set]; exact hl) (OwnsO.at_ hX10) [0] (reach_set_end hcb.out (m : Int) (by omega) (by omega))).mono ?_
      rintro e w11 ⟨v11, rfl, ho11, hb11⟩
      have hz11 := hb11.size
      have hB11 : Below w.heap.size w w11 := hB10.trans (hb11.mono (by omega))
      have hI11 := (Owns.ints ho11).below ((Below.refl w11.heap.size w11).alloc (Nat.le_refl _) (.cells #[.int .i64 0] 3))
      clear ho11 hb11 hX10
      go_wp2_with fail
      refine (lvInts_same (w11.heap.size + 1) [0] _ _ _ (by simp) (hI11.mono (by omega)) (ints_lit1' _ _ _ rfl)).mono ?_
      rintro e w12 ⟨rfl, hb12⟩
      go_wp2_with fail
      go_ret
      exact ⟨rfl, (hB11.alloc (by omega) _).trans (hb12.mono (by simp; omega))⟩
  · have g0 : ¬ (1048576 : Int) < (len : Int) := by omega
    have g9 : (1048576 : Int) < (len2 : Int) := by omega
    go_enter Tryz.func14, Tryz.ntmps14
    go_wp2_with fail
    go_ret
    exact ⟨rfl, Below.refl _ _⟩

set_option maxRecDepth 20000 in
theorem contract (H : Type) (enc : TypeId × Value → H) (W : World) (base : Nat) (args : Array Value) (ds gs : List (DataW H)) (before : List MemPlace)
    (hval : ∀ (j : Nat) t v, Tryz.f14.params[j]? = some t → args[j]? = some v → Value.okWide Tryz.prog W .any base t v)
    (hW : DataW.Whole enc Tryz.prog Tryz.f14.params.toList Rows.fnReachAllSpec.vars false W args.toList ds gs before) (_hL : laidMetH Tryz.prog Rows.fnReachAllRow.laid W) :
    Calls Tryz.prog 14 args W fun e W' => ∃ v, e = .returned v ∧ Rows.fnReachAllSpec.post enc Tryz.prog Tryz.f14 false true false false W args v W' := by
  have hW' := hW
  obtain ⟨p, q, hA0, hV, rfl, hfz, hnd⟩ := hW
  have hA : DataW.TrodAll enc Tryz.prog W 0 (fun _ => true) true Tryz.f14.params.toList args.toList ds p := hA0
  rw [Tryz.params14] at hA hval
  obtain ⟨v0, vs0, d0, ds0, p0, q0, hargs, rfl, rfl, h0, r0⟩ := trodAll_cons hA
  obtain ⟨v1, vs1, d1, ds1, p1, q1, rfl, rfl, rfl, h1, r1⟩ := trodAll_cons r0
  obtain ⟨rfl, rfl, rfl⟩ := trodAll_nil r1
  obtain rfl : args = #[v0, v1] := by cases args; simp_all
  obtain ⟨rfl, rfl⟩ := trodVars_none hV
  obtain ⟨a0, len0, cap0, rfl⟩ := okWide_slice Tryz.underlying22 (hval 0 22 v0 rfl rfl)
  have k0 := h0
  have lt0 : ∀ x ∈ p0, x.block < W.heap.size := by obtain ⟨m, hm⟩ := k0; exact DataW.trod_lt m _ _ _ hm
  have w0 : Code0 W a0 len0 cap0 := by
    obtain ⟨fuel, hf⟩ := h0
    rcases open_ints Tryz.underlying22 Tryz.underlying5 (by kernel_rfl) hf with ⟨hcs, _⟩ | ⟨x, l, c, zs, hcs, _, hl, hm, hz, _, hcell, hwz⟩
    · simp [Value.cells] at hcs
      obtain ⟨rfl, rfl, rfl⟩ := hcs
      exact code_of_row (zs := []) (.inl ⟨rfl, rfl, rfl, rfl⟩)
    · simp [Value.cells] at hcs
      obtain ⟨rfl, rfl, rfl⟩ := hcs
      exact code_of_row (zs := zs) (.inr ⟨_, rfl, hl, hm, by simpa using hz, hcell, hwz⟩)
  obtain ⟨a1, len1, cap1, rfl⟩ := okWide_slice Tryz.underlying22 (hval 1 22 v1 rfl rfl)
  have k1 := h1
  have lt1 : ∀ x ∈ p1, x.block < W.heap.size := by obtain ⟨m, hm⟩ := k1; exact DataW.trod_lt m _ _ _ hm
  have w1 : Code0 W a1 len1 cap1 := by
    obtain ⟨fuel, hf⟩ := h1
    rcases open_ints Tryz.underlying22 Tryz.underlying5 (by kernel_rfl) hf with ⟨hcs, _⟩ | ⟨x, l, c, zs, hcs, _, hl, hm, hz, _, hcell, hwz⟩
    · simp [Value.cells] at hcs
      obtain ⟨rfl, rfl, rfl⟩ := hcs
      exact code_of_row (zs := []) (.inl ⟨rfl, rfl, rfl, rfl⟩)
    · simp [Value.cells] at hcs
      obtain ⟨rfl, rfl, rfl⟩ := hcs
      exact code_of_row (zs := zs) (.inr ⟨_, rfl, hl, hm, by simpa using hz, hcell, hwz⟩)
  clear hA0
  refine (walk a0 len0 cap0 a1 len1 cap1 W w0 w1).mono fun e W' ⟨he, bel⟩ => ?_
  subst he
  exact ⟨_, rfl, _, _, _, [], _, [], hW', trodAll_mk1 (shut_bool Tryz.underlying4 _), (trodAll_cons_mk (Below.trod laidOut (by kernel_rfl) (of_decide_eq_true (by kernel_rfl)) k0 bel lt0) (trodAll_cons_mk (Below.trod laidOut (by kernel_rfl) (of_decide_eq_true (by kernel_rfl)) k1 bel lt1) trodAll_mk0)), rfl, bel.frame _, fun h => by cases h⟩
theorem laid_met (os : Os) : laidMet Tryz.prog Rows.fnReachAllRow.laid ((putAll (World.settled Tryz.prog os).heap.size (World.holding Tryz.prog os ⟨errBlocks, #[], []⟩)).forCall (fun _ _ => 0) ⟨#[], #[.slice none 0 0, .slice none 0 0], []⟩).memory :=
  laidMet_of_run' 10 (by kernel_rfl) (by kernel_rfl)
theorem reads (os : Os) {H : Type} (enc : TypeId × Value → H) : ∃ places, DataW.whole enc Tryz.prog ((putAll (World.settled Tryz.prog os).heap.size (World.holding Tryz.prog os ⟨errBlocks, #[], []⟩)).forCall (fun _ _ => 0) ⟨#[], #[.slice none 0 0, .slice none 0 0], []⟩).memory Tryz.f14.params.toList Rows.fnReachAllSpec.vars false #[.slice none 0 0, .slice none 0 0].toList 8 = some ([.nil, .nil], [], places) :=
  ⟨[], by kernel_rfl⟩
set_option maxRecDepth 100000 in
theorem lifted (os : Os) (started : os.Started) (H : Type) (enc : TypeId × Value → H) (F : Stop.Interp) :
    ReturnsInHanded {} Tryz.checked os 14 .any ((OpenSpec.ofChange Rows.fnReachAllSpec).preRow enc Tryz.prog Tryz.f14 Rows.fnReachAllRow.domain false Rows.fnReachAllRow.laid) (((OpenSpec.ofChange Rows.fnReachAllSpec).at F).post enc Tryz.prog Tryz.f14 false true false false) := by
  obtain ⟨places, hx⟩ := reads os enc
  refine returnsInHanded_of_row (C := Tryz.checked) (s := OpenSpec.ofChange Rows.fnReachAllSpec) own started (by kernel_rfl) Tryz.func14
    (witness_row_atRef (enc := enc) (C := Tryz.checked) false (putAll (World.settled Tryz.prog os).heap.size (World.holding Tryz.prog os ⟨errBlocks, #[], []⟩)) #[.slice none 0 0, .slice none 0 0] rfl (by kernel_rfl) (by kernel_rfl) (by kernel_rfl)
      (OpenSpec.preRow_of_cond 8 hx (by kernel_rfl) (fun k hk => by cases hk) (by kernel_rfl) (laid_met os))) ?_
  intro W base args ds gs before hval hW _ _ _ hL _ _
  exact contract H enc W base args ds gs before hval hW hL
set_option maxRecDepth 100000 in
theorem said : Rows.FnReachAllSaid :=
  OpenClaim.holds_of_cond 14 Tryz.f14 rfl rfl rfl rfl rfl rfl rfl ⟨rfl, rfl, rfl, rfl, rfl⟩ rfl rfl rfl rfl rfl (by kernel_rfl) Tryz.func14 FcFnReachAll.closed
    (of_decide_eq_true (by kernel_rfl)) (by unfold Func.isWrapper; first | (rw [if_pos (by decide +kernel)]; kernel_rfl) | (rw [if_neg (by decide +kernel)]; exact ⟨rfl, rfl⟩))
    (fun os started H enc _ F => by rw [OpenClaim.pre_eq_preRow]; exact lifted os started H enc F)
theorem plain (f : FuncId) (fn : Func) (hf : Tryz.pinned.checked.prog.funcNamed Rows.fnReachAllRow.func = some f) (hfn : Tryz.pinned.checked.prog.funcs[f]? = some fn) :
    true = Tryz.pinned.checked.prog.looks [] ∧ ∀ (j : Nat) t, fn.params[j]? = some t → Tryz.pinned.checked.prog.wantsStandIn t = false := by
  obtain rfl : f = 14 := Option.some.inj ((show Tryz.prog.funcNamed Rows.fnReachAllRow.func = some 14 by kernel_rfl).symm.trans hf) |>.symm
  obtain rfl : fn = Tryz.f14 := (Option.some.inj (Tryz.func14.symm.trans hfn)).symm
  refine ⟨by kernel_rfl, fun j t ht => ?_⟩
  rw [Tryz.params14] at ht
  obtain rfl : t = 22 := by simpa using Array.mem_of_getElem? ht
  exact (show Tryz.prog.wantsStandIn 22 = false by kernel_rfl)
theorem card : Rows.FnReachAllCardSaid :=
  Claim7.holds_tied_plain_at .later [] _ _ _ _ said (fun _ h => by cases h) (by kernel_rfl) (fun _ h => by cases h) fnReachAll_row_tie rfl ⟨rfl, rfl⟩ (by kernel_rfl) rfl plain (by kernel_rfl)
end ReachAll

/-- the given statement -/
theorem reachAll_holds : Rows.FnReachAllCardSaid := ReachAll.card
#print axioms reachAll_holds
end Go.Proofs.YtjhpaoadpcnlnaaGreatDoor
