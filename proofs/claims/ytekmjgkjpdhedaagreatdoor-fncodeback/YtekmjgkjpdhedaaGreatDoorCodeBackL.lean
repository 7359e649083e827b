/-
  For every code, FnCodeBack answers true: impl.CodeText is the specification's at the drawn steps, and ok steps are read back from their text, a line of each. The tables, errors and the type of errors that the library reads are as their initialisers lay them.
-/
import Derived.Test.YtekmjgkjpdhedaaGreatDoorZc01
import Derived.Test.YtekmjgkjpdhedaaGreatDoorZc06
import Derived.Test.YtekmjgkjpdhedaaGreatDoorZc02
import Derived.Test.YtekmjgkjpdhedaaGreatDoorFcFnCodeBack
namespace Go.Proofs.YtekmjgkjpdhedaaGreatDoor
open Go.ChangeShapes Go.WideShapes Go.ChangeAt Go.RowKit Go.Joins
namespace CodeBackL
theorem cnt_no {a : List UInt8} (h : NoL a) : a.count 10 = 0 := List.count_eq_zero.2 (fun m => h 10 m rfl)
theorem cnt_lines : ∀ (C : List OpV), (∀ i (hi : i < C.length), C[i].ok = true) → (linesOf C).count 10 = C.length
  | [], _ => rfl
  | o :: C, h => by
    have ih := cnt_lines C (fun i hi => h (i + 1) (by simp; omega))
    have h0 : o.ok = true := h 0 (by simp)
    have e : linesOf (o :: C) = (o.txt ++ [10]) ++ linesOf C := by simp [linesOf]
    have h1 : NoL o.txt := nol_op h0
    rw [e, List.count_append, List.count_append, ih, cnt_no h1]
    simp; omega
set_option maxRecDepth 20000 in
set_option maxHeartbeats 4000000 in
theorem walk_in (a0 : Option Addr) (len0 cap0 : Nat) (w : World) (h0 : Code0 w a0 len0 cap0) (hT : Tab w) (hE : Errs w) (hM : Max w) (hG : EType w) (hl0 : len0 ≤ 1048576) :
    Calls Tryz.prog 3 #[.slice a0 len0 cap0] w fun e w' => e = .returned (.bool true) ∧ Below w.heap.size w w' := by
  have g0 : ¬ (1048576 : Int) < (len0 : Int) := by omega
  go_enter Tryz.func3, Tryz.ntmps3
  go_wp2_with fail
  refine (drawText_any a0 len0 cap0 _ h0).mono ?_
  rintro e w1 ⟨C, v, rfl, hC, hO, hb1⟩
  obtain ⟨ao, cp, rfl, hAt, _⟩ := hO.code
  have hCl : Hid (C.length ≤ 1048576) := by show _ ≤ _; omega
  clear hC
  have hz1 := hb1.size
  replace hT := hT.below hb1
  replace hE := hE.below hb1
  replace hM := hM.below hb1
  replace hG := hG.below hb1
  have hB1 : Below w.heap.size w w1 := hb1
  clear hb1
  go_wp2_with fail
  refine (implCodeText_any C ao cp _ hCl.out hAt hT).mono ?_
  rintro e w2 ⟨rfl, hb2⟩
  have hz2 := hb2.size
  replace hT := hT.below hb2
  replace hE := hE.below hb2
  replace hM := hM.below hb2
  replace hG := hG.below hb2
  replace hAt := hAt.below hb2
  replace hO := OwnsO.below hO hb2
  have hB2 : Below w.heap.size w w2 := hB1.trans (hb2.mono (by omega))
  clear hb2 hB1
  go_wp2_with fail
  refine (specCodeText_any C ao cp _ hCl.out hAt).mono ?_
  rintro e w3 ⟨rfl, hb3⟩
  have hz3 := hb3.size
  replace hT := hT.below hb3
  replace hE := hE.below hb3
  replace hM := hM.below hb3
  replace hG := hG.below hb3
  replace hAt := hAt.below hb3
  replace hO := OwnsO.below hO hb3
  have hB3 : Below w.heap.size w w3 := hB2.trans (hb3.mono (by omega))
  clear hb3 hB2
  cases hcb : codeB C with
  | false =>
    have t1 : codeTxt C = [] := by unfold codeTxt; rw [if_neg (by rw [hcb]; decide)]
    have htx : Hid (∀ W, CodeAt W ao C → Calls Tryz.prog 9 #[.slice ao C.length cp] W fun e w' => e = .returned (.string ⟨#[]⟩) ∧ Below W.heap.size W w') := fun W h => by
      have k := specCodeText_any C ao cp W hCl.out h
      rw [t1] at k
      exact k
    rw [t1]
    go_wp2_with fail
    refine (htx.out _ hAt).mono ?_
    rintro e w6 ⟨rfl, hb6⟩
    go_wp2_with fail
    go_ret
    exact ⟨by simp, hB3.trans (hb6.mono (by omega))⟩
  | true =>
    have t1 : codeTxt C = linesOf C := by unfold codeTxt; rw [if_pos hcb]
    rw [t1]
    have hlen := lines_code_len hcb
    have hcnt : Hid ((linesOf C).count 10 = C.length) := cnt_lines C (codeB_well hcb).2.2
    have hne : (linesOf C).isEmpty = false := by
      rw [List.isEmpty_eq_false_iff]
      intro h
      have k := hcnt.out
      have k2 := (codeB_well hcb).1.1
      rw [h] at k; simp at k; omega
    have hrd : Hid (∀ D ok, ReadCode (linesOf C) D ok → ok = true ∧ D = C) := fun D ok h => h.of_code hcb rfl
    have hO' : Hid (OwnsO w3 w.heap.size (.slice ao C.length cp) C) := hO
    clear hcb t1 hO hAt
    generalize linesOf C = x at *
    go_wp2_with fail
    refine (implCodeRead_any x _ hT hE hM hG).mono ?_
    rintro e w4 ⟨D, v1, ok, rfl, hr, hO4, hb4⟩
    obtain ⟨e1, e2⟩ := hrd.out D ok hr
    subst e1 e2
    have hz4 := hb4.size
    have hO3 := (show Hid _ from OwnsO.below hO'.out hb4)
    have hO4' := (show Hid _ from hO4)
    have hB4 : Below w.heap.size w w4 := hB3.trans (hb4.mono (by omega))
    clear hb4 hB3 hT hE hM hG hr hrd hO' hO4
    obtain ⟨s, hs⟩ : ∃ s : ByteArray, s = ⟨x.toArray⟩ := ⟨_, rfl⟩
    rw [← hs]
    have hsl : s.data.toList = x := by rw [hs]
    have hsz : s.size ≤ 368 := by rw [hs]; simpa [ByteArray.size] using hlen
    have hsx : Hid (s.size = x.length) := by show _ = _; rw [hs]; simp [ByteArray.size]
    rw [← hsl] at hcnt
    clear hs hsl hne hlen
    go_wp2_with fail
    go_loopw [7, 8] (fun n i wr => ∃ k : Nat, k ≤ s.size ∧ i = .int .i64 k ∧ n = .int .i64 ((s.data.toList.take k).count 10 : Nat) ∧ wr = w4) (fun _ i _ => s.size - (intOf i).toNat)
    case atStart => exact ⟨0, Nat.zero_le _, rfl, rfl, rfl⟩
    case round =>
      obtain ⟨k, hk, rfl, rfl, rfl⟩ := hrel
      by_cases hlt : k < s.size
      · have hks : (k : Int) < (s.size : Int) := by omega
        have hu := UInt8.toNat_lt s[k]
        have hst : Hid ((s.data.toList.take (k + 1)).count 10 = (s.data.toList.take k).count 10 + [s[k]].count 10) := by
          show _ = _
          rw [take_snocB s k hlt, List.count_append]
        have hcb : (s.data.toList.take k).count 10 ≤ 400 := by
          have h1 := List.count_le_length (a := (10 : UInt8)) (l := s.data.toList.take k)
          have h2 := List.length_take_le k s.data.toList
          omega
        generalize (s.data.toList.take k).count 10 = m at *
        by_cases he : s[k] = 10
        · have he' : ((s[k].toNat : Int) == 10) = true := by rw [he]; rfl
          have hst2 : Hid ((s.data.toList.take (k + 1)).count 10 = m + 1) := by show _ = _; rw [hst.out, he]; rfl
          clear he hst
          go_wp2_with fail
          go_roundw
          case rel => exact ⟨k + 1, by omega, by go_num, by rw [hst2.out]; go_num, by trivial⟩
          case measure => simp [intOf]; omega
        · have he' : ((s[k].toNat : Int) == 10) = false := by
            rw [beq_eq_false_iff_ne]
            intro h
            exact he (UInt8.toNat_inj.1 (by simp; omega))
          have hst2 : Hid ((s.data.toList.take (k + 1)).count 10 = m) := by show _ = _; rw [hst.out, List.count_eq_zero.2 (by simp; exact fun e => he e.symm)]; rfl
          clear he hst
          go_wp2_with fail
          go_roundw
          case rel => exact ⟨k + 1, by omega, by go_num, by rw [hst2.out], by trivial⟩
          case measure => simp [intOf]; omega
      · have e : k = s.size := by omega
        subst e
        have ht : s.data.toList.take s.size = s.data.toList := List.take_of_length_le (by simp)
        rw [ht, hcnt.out]
        go_wp2_with fail
        refine (lvOps_own D hCl.out hO4'.out hO3.out).mono ?_
        rintro e w5 ⟨rfl, hb5⟩
        go_wp2_with fail
        go_ret
        exact ⟨by simp, hB4.trans (hb5.mono (by omega))⟩
set_option maxHeartbeats 400000 in
theorem walk (a0 : Option Addr) (len0 cap0 : Nat) (w : World) (h0 : Code0 w a0 len0 cap0) (hT : Tab w) (hE : Errs w) (hM : Max w) (hG : EType w) :
    Calls Tryz.prog 3 #[.slice a0 len0 cap0] w fun e w' => e = .returned (.bool true) ∧ Below w.heap.size w w' := by
  by_cases hl0 : len0 ≤ 1048576
  · exact walk_in a0 len0 cap0 w h0 hT hE hM hG hl0
  · have g0 : (1048576 : Int) < (len0 : Int) := by omega
    go_enter Tryz.func3, Tryz.ntmps3
    go_wp2_with fail
    go_ret
    exact ⟨rfl, Below.refl _ _⟩

set_option maxRecDepth 20000 in
theorem contract (H : Type) (enc : TypeId × Value → H) (W : World) (base : Nat) (args : Array Value) (ds gs : List (DataW H)) (before : List MemPlace)
    (hval : ∀ (j : Nat) t v, Tryz.f3.params[j]? = some t → args[j]? = some v → Value.okWide Tryz.prog W .any base t v)
    (hW : DataW.Whole enc Tryz.prog Tryz.f3.params.toList Rows.fnCodeBackSpec.vars false W args.toList ds gs before) (hL : laidMetH Tryz.prog Rows.fnCodeBackRow.laid W) (hO : W.ShapedOpen Tryz.prog) :
    Calls Tryz.prog 3 args W fun e W' => ∃ v, e = .returned v ∧ Rows.fnCodeBackSpec.post enc Tryz.prog Tryz.f3 false true false false W args v W' := by
  have hT : Tab W := tab_of hL (by kernel_rfl)
  have hE : Errs W := errs_of hL (by kernel_rfl) (by kernel_rfl)
  have hM : Max W := laysSplit.s1_3 W hO
  have hG : EType W := etype_of hL (by kernel_rfl)
  have hW' := hW
  obtain ⟨p, q, hA0, hV, rfl, hfz, hnd⟩ := hW
  have hA : DataW.TrodAll enc Tryz.prog W 0 (fun _ => true) true Tryz.f3.params.toList args.toList ds p := hA0
  rw [Tryz.params3] at hA hval
  obtain ⟨v0, vs0, d0, ds0, p0, q0, hargs, rfl, rfl, h0, r0⟩ := trodAll_cons hA
  obtain ⟨rfl, rfl, rfl⟩ := trodAll_nil r0
  obtain rfl : args = #[v0] := by cases args; simp_all
  obtain ⟨rfl, rfl⟩ := trodVars_none hV
  obtain ⟨a0, len0, cap0, rfl⟩ := okWide_slice Tryz.underlying22 (hval 0 22 v0 rfl rfl)
  have k0 := h0
  have lt0 : ∀ x ∈ p0, x.block < W.heap.size := by obtain ⟨m, hm⟩ := k0; exact DataW.trod_lt m _ _ _ hm
  have w0 : Code0 W a0 len0 cap0 := by
    obtain ⟨fuel, hf⟩ := h0
    rcases open_ints Tryz.underlying22 Tryz.underlying5 (by kernel_rfl) hf with ⟨hcs, _⟩ | ⟨x, l, c, zs, hcs, _, hl, hm, hz, _, hcell, hwz⟩
    · simp [Value.cells] at hcs
      obtain ⟨rfl, rfl, rfl⟩ := hcs
      exact code_of_row (zs := []) (.inl ⟨rfl, rfl, rfl, rfl⟩)
    · simp [Value.cells] at hcs
      obtain ⟨rfl, rfl, rfl⟩ := hcs
      exact code_of_row (zs := zs) (.inr ⟨_, rfl, hl, hm, by simpa using hz, hcell, hwz⟩)
  clear hA0
  refine (walk a0 len0 cap0 W w0 hT hE hM hG).mono fun e W' ⟨he, bel⟩ => ?_
  subst he
  exact ⟨_, rfl, _, _, _, [], _, [], hW', trodAll_mk1 (shut_bool Tryz.underlying4 _), (trodAll_cons_mk (Below.trod laidOut (by kernel_rfl) (of_decide_eq_true (by kernel_rfl)) k0 bel lt0) trodAll_mk0), rfl, bel.frame _, fun h => by cases h⟩
theorem laid_met (os : Os) : laidMetH Tryz.prog Rows.fnCodeBackRow.laid ((putType (World.settled Tryz.prog os).heap.size (World.holding Tryz.prog os ⟨errBlocks, #[], []⟩)).forCall (fun _ _ => 0) ⟨#[], #[.slice none 0 0], []⟩).memory :=
  laidMetH_of_parts (laidMet_of_run' 10 (by kernel_rfl) (by kernel_rfl)) (by kernel_rfl)
theorem reads (os : Os) {H : Type} (enc : TypeId × Value → H) : ∃ places, DataW.whole enc Tryz.prog ((putType (World.settled Tryz.prog os).heap.size (World.holding Tryz.prog os ⟨errBlocks, #[], []⟩)).forCall (fun _ _ => 0) ⟨#[], #[.slice none 0 0], []⟩).memory Tryz.f3.params.toList Rows.fnCodeBackSpec.vars false #[.slice none 0 0].toList 8 = some ([.nil], [], places) :=
  ⟨[], by kernel_rfl⟩
set_option maxRecDepth 100000 in
theorem lifted (os : Os) (started : os.Started) (H : Type) (enc : TypeId × Value → H) (F : Stop.Interp) :
    ReturnsInHanded {} Tryz.checked os 3 .any ((OpenSpec.ofChange Rows.fnCodeBackSpec).preRow enc Tryz.prog Tryz.f3 Rows.fnCodeBackRow.domain false Rows.fnCodeBackRow.laid) (((OpenSpec.ofChange Rows.fnCodeBackSpec).at F).post enc Tryz.prog Tryz.f3 false true false false) := by
  obtain ⟨places, hx⟩ := reads os enc
  refine returnsInHanded_of_row (C := Tryz.checked) (s := OpenSpec.ofChange Rows.fnCodeBackSpec) own started (by kernel_rfl) Tryz.func3
    (witness_row_atRef (enc := enc) (C := Tryz.checked) false (putType (World.settled Tryz.prog os).heap.size (World.holding Tryz.prog os ⟨errBlocks, #[], []⟩)) #[.slice none 0 0] rfl (by kernel_rfl) (by kernel_rfl) (by kernel_rfl)
      (OpenSpec.preRow_of_cond 8 hx (by kernel_rfl) (fun k hk => by cases hk) (by kernel_rfl) (laid_met os))) ?_
  intro W base args ds gs before hval hW _ _ _ hL hO _
  exact contract H enc W base args ds gs before hval hW hL hO
set_option maxRecDepth 100000 in
theorem said : Rows.FnCodeBackSaid :=
  OpenClaim.holds_of_cond 3 Tryz.f3 rfl rfl rfl rfl rfl rfl rfl ⟨rfl, rfl, rfl, rfl, rfl⟩ rfl rfl rfl rfl rfl (by kernel_rfl) Tryz.func3 FcFnCodeBack.closed
    (of_decide_eq_true (by kernel_rfl)) (by unfold Func.isWrapper; first | (rw [if_pos (by decide +kernel)]; kernel_rfl) | (rw [if_neg (by decide +kernel)]; exact ⟨rfl, rfl⟩))
    (fun os started H enc _ F => by rw [OpenClaim.pre_eq_preRow]; exact lifted os started H enc F)
theorem plain (f : FuncId) (fn : Func) (hf : Tryz.pinned.checked.prog.funcNamed Rows.fnCodeBackRow.func = some f) (hfn : Tryz.pinned.checked.prog.funcs[f]? = some fn) :
    true = Tryz.pinned.checked.prog.looks [] ∧ ∀ (j : Nat) t, fn.params[j]? = some t → Tryz.pinned.checked.prog.wantsStandIn t = false := by
  obtain rfl : f = 3 := Option.some.inj ((show Tryz.prog.funcNamed Rows.fnCodeBackRow.func = some 3 by kernel_rfl).symm.trans hf) |>.symm
  obtain rfl : fn = Tryz.f3 := (Option.some.inj (Tryz.func3.symm.trans hfn)).symm
  refine ⟨by kernel_rfl, fun j t ht => ?_⟩
  rw [Tryz.params3] at ht
  obtain rfl : t = 22 := by simpa using Array.mem_of_getElem? ht
  exact (show Tryz.prog.wantsStandIn 22 = false by kernel_rfl)
theorem card : Rows.FnCodeBackCardSaid :=
  Claim7.holds_tied_plain_at .later [] _ _ _ _ said (fun _ h => by cases h) (by kernel_rfl) (fun _ h => by cases h) fnCodeBack_row_tie rfl ⟨rfl, rfl⟩ (by kernel_rfl) rfl plain (by kernel_rfl)
end CodeBackL

/-- the given statement -/
theorem codeBackL_holds : Rows.FnCodeBackCardSaid := CodeBackL.card
#print axioms codeBackL_holds
end Go.Proofs.YtekmjgkjpdhedaaGreatDoor
