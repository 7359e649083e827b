/-
  For every code of at most 2^20 bytes: of the steps that are drawn, impl.CodeSafe answers as the specification does, and, where they are ok, it says true just if each step that is come to reads full slots alone and goes on where there is a step. Longer codes are let by. No condition but that the tables and errors of strconv are as their initialisers lay them.
-/
import Derived.Test.YtjhpaoadpcnlnaaGreatDoorZa19
import Derived.Test.YtjhpaoadpcnlnaaGreatDoorZa27
import Derived.Test.YtjhpaoadpcnlnaaGreatDoorZa23
import Derived.Test.YtjhpaoadpcnlnaaGreatDoorZa25
import Derived.Test.YtjhpaoadpcnlnaaGreatDoorZa26
import Derived.Test.YtjhpaoadpcnlnaaGreatDoorFcFnSafe
namespace Go.Proofs.YtjhpaoadpcnlnaaGreatDoor
open Go.ChangeShapes Go.WideShapes Go.ChangeAt Go.RowKit Go.Joins
namespace Safe
/-- whether a place is safe -/
def safeQ (C : List OpV) (V : List Int) (j : Nat) : Bool :=
  !decide (0 ≤ atV V j) || ((usesL (C.getD j opZ).k (C.getD j opZ).r (C.getD j opZ).s).all (hasB (atV V j)) && (decide (j + 1 < C.length) || endsB (C.getD j opZ).k))
def canB (C : List OpV) (V : List Int) (k : Nat) : Bool := (List.range k).all (safeQ C V)
theorem canB_succ (C : List OpV) (V : List Int) (k : Nat) : canB C V (k + 1) = (canB C V k && safeQ C V k) := by
  unfold canB; rw [List.range_succ, List.all_append]; simp
theorem safeQ_iff {C : List OpV} {V : List Int} {j : Nat} (hj : j < C.length) : safeQ C V j = true ↔ safeP C V j := by
  have e : C.getD j opZ = C[j] := by simp [List.getD_eq_getElem?_getD, List.getElem?_eq_getElem hj]
  unfold safeQ safeP
  rw [e]
  simp only [Bool.or_eq_true, Bool.not_eq_true', decide_eq_false_iff_not, Bool.and_eq_true, List.all_eq_true, decide_eq_true_eq]
  constructor
  · rintro (h | ⟨h1, h2⟩) _ h0
    · exact absurd h0 h
    · exact ⟨h1, h2.symm⟩
  · intro h
    by_cases h0 : 0 ≤ atV V j
    · obtain ⟨h1, h2⟩ := h hj h0
      exact .inr ⟨h1, h2.symm⟩
    · exact .inl h0
theorem safe_can {C : List OpV} {V : List Int} {b : Bool} (h : SafeOf C b) (hC : codeB C = true) (hV : IsFull C V) : b = canB C V C.length := by
  rcases h with ⟨_, U, hU, hb⟩ | ⟨h, _⟩
  · obtain rfl := full_one hV hU
    rw [Bool.eq_iff_iff, hb]
    unfold canB
    rw [List.all_eq_true]
    exact ⟨fun h j hj => (safeQ_iff (List.mem_range.1 hj)).2 (h j (List.mem_range.1 hj)), fun h j hj => (safeQ_iff hj).1 (h j (List.mem_range.2 hj))⟩
  · rw [hC] at h; cases h
set_option maxRecDepth 20000 in
set_option maxHeartbeats 8000000 in
theorem walk (a : Option Addr) (len cap : Nat) (w : World) (h : Code0 w a len cap) :
    Calls Tryz.prog 12 #[.slice a len cap] w fun e w' => e = .returned (.bool true) ∧ Below w.heap.size w w' := by
  by_cases hlen : len ≤ 1048576
  · have g0 : ¬ (1048576 : Int) < (len : Int) := by omega
    go_enter Tryz.func12, Tryz.ntmps12
    go_wp2_with fail
    refine (drawSafe_any a len cap _ h).mono ?_
    rintro e w1 ⟨C, v, rfl, hC17, hO1, hB1⟩
    have hz1 := hB1.size
    obtain ⟨ao, cp, rfl, hC1, _⟩ := hO1.code
    have hl : C.length ≤ 1048576 := by omega
    go_wp2_with fail
    refine (implCodeSafe_any C ao cp _ hl hC1).mono ?_
    rintro e w2 ⟨sb, rfl, hS2, hb2⟩
    have hz2 := hb2.size
    have hB2 : Below w.heap.size w w2 := hB1.trans (hb2.mono (by omega))
    have hC2 := hC1.below hb2
    clear hb2 hB1 hC1 hO1
    go_wp2_with fail
    refine (specCodeSafe_any C ao cp _ hl hC2).mono ?_
    rintro e w3 ⟨sb3, rfl, hS3, hb3⟩
    obtain rfl := safeOf_one hS2 hS3
    have hz3 := hb3.size
    have hB3 : Below w.heap.size w w3 := hB2.trans (hb3.mono (by omega))
    have hC3 := hC2.below hb3
    clear hb3 hB2 hC2 hS3
    have hbn : (sb != sb) = false := by simp
    go_wp2_with fail
    refine (specCodeOk_any C ao cp _ hl hC3).mono ?_
    rintro e w4 ⟨rfl, hb4⟩
    have hz4 := hb4.size
    have hB4 : Below w.heap.size w w4 := hB3.trans (hb4.mono (by omega))
    have hC4 := hC3.below hb4
    clear hb4 hB3 hC3
    cases hcb : codeB C with
    | false =>
      go_wp2_with fail
      refine (specCodeSafe_any C ao cp _ hl hC4).mono ?_
      rintro e w5 ⟨sb5, rfl, hS5, hb5⟩
      obtain rfl := safeOf_one hS2 hS5
      have hbb : (sb == sb) = true := by simp
      clear hS2 hS5
      go_wp2_with fail
      go_ret
      exact ⟨rfl, hB4.trans (hb5.mono (by omega))⟩
    | true =>
      have hcb' := hcb
      replace hcb : Hid (codeB C = true) := hcb
      go_wp2_with fail
      refine (implCodeFull_any C ao cp _ hl hC4).mono ?_
      rintro e w5 ⟨v5, V, rfl, hF5, hO5, hb5⟩
      have hz5 := hb5.size
      have hB5 : Below w.heap.size w w5 := hB4.trans (hb5.mono (by omega))
      have hC5 := hC4.below hb5
      have hV := full_code hF5 hcb.out
      have hVl : Hid (V.length = C.length) := full_len hV
      have hVb : Hid (∀ i, -1 ≤ atV V i ∧ atV V i ≤ 15) := fun i => hV.1.1.2 i
      have hsb : Hid (sb = canB C V C.length) := safe_can hS2 hcb.out hV
      have hC0 : 0 < C.length := (codeB_well hcb.out).1.1
      have hok : Hid (∀ k (h : k < C.length), opB C[k].k C[k].r C[k].s C[k].t C[k].a C[k].b = true) := (codeB_well hcb.out).2.2
      obtain ⟨ao5, cp5, rfl, hV5⟩ := Owns.ints hO5
      rcases hV5 with hV0 | ⟨b5, o5, rfl, hb5', hc5⟩
      · have := hVl.out; rw [hV0] at this; simp at this; omega
      replace hc5 : Hid (∀ i (h : i < V.length), w5.cell? ⟨b5, o5 + i, none⟩ = some (.int .i64 V[i])) := hc5
      rcases hC5 with hCz | ⟨b, o, rfl, hbl, hs⟩
      · rw [hCz] at hC0; simp at hC0
      replace hs : Hid (∀ i (h : i < C.length), StepAt w5 b (o + i * 6) C[i]) := hs
      clear hb5 hC4 hF5 hV hO5 hS2 hcb'
      go_wp2_with fail
      go_loopw [5, 7] (fun can i wr => ∃ k : Nat, k ≤ C.length ∧ i = .int .i64 k ∧ can = .bool (canB C V k) ∧ Below w5.heap.size w5 wr) (fun _ i _ => C.length - (intOf i).toNat)
      case atStart => exact ⟨0, Nat.zero_le _, rfl, rfl, Below.refl _ _⟩
      case round =>
        obtain ⟨k, hk, rfl, rfl, hBr⟩ := hrel
        have hzr := hBr.size
        by_cases hlt : k < C.length
        · have hkV : k < V.length := by have := hVl.out; omega
          have g1 : (k : Int) < (C.length : Int) := by omega
          have g2 : (k : Int) < (V.length : Int) := by omega
          have c0 : wr.cell? ⟨b5, o5 + k, none⟩ = some (.int .i64 (atV V k)) := by rw [atV_at hkV]; exact (hBr.cell (p := ⟨b5, o5 + k, none⟩) hb5').trans (hc5.out k hkV)
          have st : StepAt wr b (o + k * 6) C[k] := by
            obtain ⟨t0, t1, t2, t3, t4, t5⟩ := hs.out k hlt
            exact ⟨(hBr.cell (p := ⟨b, o + k * 6, none⟩) hbl).trans t0, (hBr.cell (p := ⟨b, o + k * 6 + 1, none⟩) hbl).trans t1, (hBr.cell (p := ⟨b, o + k * 6 + 2, none⟩) hbl).trans t2, (hBr.cell (p := ⟨b, o + k * 6 + 3, none⟩) hbl).trans t3, (hBr.cell (p := ⟨b, o + k * 6 + 4, none⟩) hbl).trans t4, (hBr.cell (p := ⟨b, o + k * 6 + 5, none⟩) hbl).trans t5⟩
          have hop := hok.out k hlt
          have hsu := canB_succ C V k
          have hge : C.getD k opZ = C[k] := by simp [List.getD_eq_getElem?_getD, List.getElem?_eq_getElem hlt]
          have hbd := hVb.out k
          have oi := opIs_of hop
          have hub := uses_bd (k := C[k].k) (r := C[k].r) (s := C[k].s) ⟨oi.r1, oi.r2⟩ ⟨oi.s1, oi.s2⟩
          have hul := uses_len C[k].k C[k].r C[k].s
          unfold safeQ at hsu
          rw [hge] at hsu
          generalize atV V k = x at *
          generalize C[k] = op at *
          replace hsu : Hid (canB C V (k + 1) = (canB C V k && (!decide (0 ≤ x) || ((usesL op.k op.r op.s).all (hasB x) && (decide (k + 1 < C.length) || endsB op.k))))) := hsu
          generalize canB C V k = cb at *
          obtain ⟨s0, s1, s2, s3, s4, s5⟩ := st
          clear hge oi
          by_cases hx : x < 0
          · have hx' : ¬ 0 ≤ x := by omega
            go_wp2_with fail
            go_roundw
            case rel => exact ⟨k + 1, by omega, by go_num, by rw [hsu.out]; simp [hx'], hBr⟩
            case measure => simp [intOf]; omega
          · have hx' : 0 ≤ x := by omega
            go_wp2_with fail
            refine (implUses_any op.k op.r op.s op.t op.a op.b _).mono ?_
            rintro e w6 ⟨v6, rfl, ho6, hb6⟩
            have hz6 := hb6.size
            rw [usesOf_ok hop] at ho6
            have hB6 : Below w5.heap.size w5 w6 := hBr.trans (hb6.mono (by omega))
            have d0 : w6.cell? ⟨b5, o5 + k, none⟩ = some (.int .i64 x) := (hb6.cell (p := ⟨b5, o5 + k, none⟩) (by show b5 < wr.heap.size; omega)).trans c0
            have t0 : w6.cell? ⟨b, o + k * 6, none⟩ = some (.int .i64 op.k) := (hb6.cell (p := ⟨b, o + k * 6, none⟩) (by show b < wr.heap.size; omega)).trans s0
            obtain ⟨ao6, cp6, rfl, hI6⟩ := Owns.ints ho6
            generalize hMe : usesL op.k op.r op.s = M at *
            clear hMe ho6 hb6 s0 s1 s2 s3 s4 s5 c0 hop
            replace hI6 : Hid (M = [] ∨ ∃ b o, ao6 = some ⟨b, o, none⟩ ∧ b < w6.heap.size ∧ ∀ i (h : i < M.length), w6.cell? ⟨b, o + i, none⟩ = some (.int .i64 M[i])) := hI6
            go_wp2_with fail
            go_loopw [5, 9] (fun can i wy => ∃ j : Nat, j ≤ M.length ∧ i = .int .i64 j ∧ can = .bool (cb && (M.take j).all (hasB x)) ∧ Below w6.heap.size w6 wy) (fun _ i _ => M.length - (intOf i).toNat)
            case atStart => exact ⟨0, Nat.zero_le _, rfl, by simp, Below.refl _ _⟩
            case round =>
              obtain ⟨j, hj, rfl, rfl, hBy⟩ := hrel
              have hzy := hBy.size
              have d1 : wr.cell? ⟨b5, o5 + k, none⟩ = some (.int .i64 x) := (hBy.cell (p := ⟨b5, o5 + k, none⟩) (by show b5 < w6.heap.size; omega)).trans d0
              have t1 : wr.cell? ⟨b, o + k * 6, none⟩ = some (.int .i64 op.k) := (hBy.cell (p := ⟨b, o + k * 6, none⟩) (by show b < w6.heap.size; omega)).trans t0
              by_cases hjlt : j < M.length
              · rcases hI6.out with hM0 | ⟨b6, o6, rfl, hb6', hc6⟩
                · rw [hM0] at hjlt; simp at hjlt
                have e1 : wr.cell? ⟨b6, o6 + j, none⟩ = some (.int .i64 M[j]) := (hBy.cell (p := ⟨b6, o6 + j, none⟩) hb6').trans (hc6 j hjlt)
                have hu := hub M[j] (List.getElem_mem hjlt)
                have hji : (j : Int) < (M.length : Int) := by omega
                have htk : Hid ((M.take (j + 1)).all (hasB x) = ((M.take j).all (hasB x) && hasB x M[j])) := by show _ = _; rw [List.take_add_one, List.getElem?_eq_getElem hjlt, List.all_append]; simp
                generalize M[j] = u at *
                generalize (M.take j).all (hasB x) = ta at *
                clear hc6 d0 t0
                cases hcc : (cb && ta) with
                | false =>
                  go_wp2_with fail
                  go_quiet (fail)
                  go_wp2_with fail
                  go_roundw
                  case rel => exact ⟨j + 1, by omega, by go_num, by rw [htk.out, ← Bool.and_assoc, hcc]; rfl, hBy.trans ⟨rfl, rfl, rfl, Nat.le_refl _, fun _ _ => rfl⟩⟩
                  case measure => simp [intOf]; omega
                | true =>
                  go_wp2_with fail
                  go_quiet ((go_at_call 33; exact Calls.quiet_of_same (lvBit_any x u _ hx' hbd.2 hu.1 hu.2)))
                  go_wp2_with fail
                  go_roundw
                  case rel => exact ⟨j + 1, by omega, by go_num, by rw [htk.out, ← Bool.and_assoc, hcc]; rfl, hBy.trans ⟨rfl, rfl, rfl, Nat.le_refl _, fun _ _ => rfl⟩⟩
                  case measure => simp [intOf]; omega
              · have e : j = M.length := by omega
                subst e
                have hBy2 : Below w5.heap.size w5 wr := hB6.trans (hBy.mono (by omega))
                rw [List.take_length]
                have hsu2 : Hid (canB C V (k + 1) = ((cb && M.all (hasB x)) && (decide (k + 1 < C.length) || endsB op.k))) := by show _ = _; rw [hsu.out]; simp [hx', Bool.and_assoc]
                generalize (cb && M.all (hasB x)) = cm at *
                clear hsu d1 d0 t0
                cases hcm : cm with
                | false =>
                  go_wp2_with fail
                  go_roundw
                  case rel => exact ⟨k + 1, by omega, by go_num, by rw [hsu2.out]; simp [hcm], hBy2⟩
                  case measure => simp [intOf]; omega
                | true =>
                  by_cases hlast : k + 1 < C.length
                  · have g3 : (k : Int) + 1 < (C.length : Int) := by omega
                    go_wp2_with fail
                    go_roundw
                    case rel => exact ⟨k + 1, by omega, by go_num, by rw [hsu2.out]; simp [hcm, hlast], hBy2⟩
                    case measure => simp [intOf]; omega
                  · have g3 : ¬ (k : Int) + 1 < (C.length : Int) := by omega
                    by_cases h9 : op.k = 9
                    · have n9 : (op.k == 9) = true := by simp [h9]
                      have hE : Hid (endsB op.k = true) := by show endsB op.k = true; simp [endsB, h9]
                      clear h9
                      go_wp2_with fail
                      go_roundw
                      case rel => exact ⟨k + 1, by omega, by go_num, by rw [hsu2.out]; simp [hcm, hE.out], hBy2⟩
                      case measure => simp [intOf]; omega
                    · have n9 : (op.k == 9) = false := by simp [h9]
                      by_cases h14 : op.k = 14
                      · have n14 : (op.k == 14) = true := by simp [h14]
                        have hE : Hid (endsB op.k = true) := by show endsB op.k = true; simp [endsB, h14]
                        clear h9 h14
                        go_wp2_with fail
                        go_roundw
                        case rel => exact ⟨k + 1, by omega, by go_num, by rw [hsu2.out]; simp [hcm, hE.out], hBy2⟩
                        case measure => simp [intOf]; omega
                      · have n14 : (op.k == 14) = false := by simp [h14]
                        have hE : Hid (endsB op.k = false) := by show endsB op.k = false; simp [endsB, h9, h14]
                        clear h9 h14
                        go_wp2_with fail
                        go_roundw
                        case rel => exact ⟨k + 1, by omega, by go_num, by rw [hsu2.out]; simp [hcm, hE.out, hlast], hBy2⟩
                        case measure => simp [intOf]; omega
        · have e : k = C.length := by omega
          subst e
          have hbb : (sb == canB C V C.length) = true := by rw [← hsb.out]; simp
          go_wp2_with fail
          go_ret
          exact ⟨rfl, hB5.trans (hBr.mono (by omega))⟩
  · have g0 : (1048576 : Int) < (len : Int) := by omega
    go_enter Tryz.func12, Tryz.ntmps12
    go_wp2_with fail
    go_ret
    exact ⟨rfl, Below.refl _ _⟩

set_option maxRecDepth 20000 in
theorem contract (H : Type) (enc : TypeId × Value → H) (W : World) (base : Nat) (args : Array Value) (ds gs : List (DataW H)) (before : List MemPlace)
    (hval : ∀ (j : Nat) t v, Tryz.f12.params[j]? = some t → args[j]? = some v → Value.okWide Tryz.prog W .any base t v)
    (hW : DataW.Whole enc Tryz.prog Tryz.f12.params.toList Rows.fnSafeSpec.vars false W args.toList ds gs before) (_hL : laidMetH Tryz.prog Rows.fnSafeRow.laid W) :
    Calls Tryz.prog 12 args W fun e W' => ∃ v, e = .returned v ∧ Rows.fnSafeSpec.post enc Tryz.prog Tryz.f12 false true false false W args v W' := by
  have hW' := hW
  obtain ⟨p, q, hA0, hV, rfl, hfz, hnd⟩ := hW
  have hA : DataW.TrodAll enc Tryz.prog W 0 (fun _ => true) true Tryz.f12.params.toList args.toList ds p := hA0
  rw [Tryz.params12] at hA hval
  obtain ⟨v0, vs0, d0, ds0, p0, q0, hargs, rfl, rfl, h0, r0⟩ := trodAll_cons hA
  obtain ⟨rfl, rfl, rfl⟩ := trodAll_nil r0
  obtain rfl : args = #[v0] := by cases args; simp_all
  obtain ⟨rfl, rfl⟩ := trodVars_none hV
  obtain ⟨a0, len0, cap0, rfl⟩ := okWide_slice Tryz.underlying22 (hval 0 22 v0 rfl rfl)
  have k0 := h0
  have lt0 : ∀ x ∈ p0, x.block < W.heap.size := by obtain ⟨m, hm⟩ := k0; exact DataW.trod_lt m _ _ _ hm
  have w0 : Code0 W a0 len0 cap0 := by
    obtain ⟨fuel, hf⟩ := h0
    rcases open_ints Tryz.underlying22 Tryz.underlying5 (by kernel_rfl) hf with ⟨hcs, _⟩ | ⟨x, l, c, zs, hcs, _, hl, hm, hz, _, hcell, hwz⟩
    · simp [Value.cells] at hcs
      obtain ⟨rfl, rfl, rfl⟩ := hcs
      exact code_of_row (zs := []) (.inl ⟨rfl, rfl, rfl, rfl⟩)
    · simp [Value.cells] at hcs
      obtain ⟨rfl, rfl, rfl⟩ := hcs
      exact code_of_row (zs := zs) (.inr ⟨_, rfl, hl, hm, by simpa using hz, hcell, hwz⟩)
  clear hA0
  refine (walk a0 len0 cap0 W w0).mono fun e W' ⟨he, bel⟩ => ?_
  subst he
  exact ⟨_, rfl, _, _, _, [], _, [], hW', trodAll_mk1 (shut_bool Tryz.underlying4 _), (trodAll_cons_mk (Below.trod laidOut (by kernel_rfl) (of_decide_eq_true (by kernel_rfl)) k0 bel lt0) trodAll_mk0), rfl, bel.frame _, fun h => by cases h⟩
theorem laid_met (os : Os) : laidMet Tryz.prog Rows.fnSafeRow.laid ((putAll (World.settled Tryz.prog os).heap.size (World.holding Tryz.prog os ⟨errBlocks, #[], []⟩)).forCall (fun _ _ => 0) ⟨#[], #[.slice none 0 0], []⟩).memory :=
  laidMet_of_run' 10 (by kernel_rfl) (by kernel_rfl)
theorem reads (os : Os) {H : Type} (enc : TypeId × Value → H) : ∃ places, DataW.whole enc Tryz.prog ((putAll (World.settled Tryz.prog os).heap.size (World.holding Tryz.prog os ⟨errBlocks, #[], []⟩)).forCall (fun _ _ => 0) ⟨#[], #[.slice none 0 0], []⟩).memory Tryz.f12.params.toList Rows.fnSafeSpec.vars false #[.slice none 0 0].toList 8 = some ([.nil], [], places) :=
  ⟨[], by kernel_rfl⟩
set_option maxRecDepth 100000 in
theorem lifted (os : Os) (started : os.Started) (H : Type) (enc : TypeId × Value → H) (F : Stop.Interp) :
    ReturnsInHanded {} Tryz.checked os 12 .any ((OpenSpec.ofChange Rows.fnSafeSpec).preRow enc Tryz.prog Tryz.f12 Rows.fnSafeRow.domain false Rows.fnSafeRow.laid) (((OpenSpec.ofChange Rows.fnSafeSpec).at F).post enc Tryz.prog Tryz.f12 false true false false) := by
  obtain ⟨places, hx⟩ := reads os enc
  refine returnsInHanded_of_row (C := Tryz.checked) (s := OpenSpec.ofChange Rows.fnSafeSpec) own started (by kernel_rfl) Tryz.func12
    (witness_row_atRef (enc := enc) (C := Tryz.checked) false (putAll (World.settled Tryz.prog os).heap.size (World.holding Tryz.prog os ⟨errBlocks, #[], []⟩)) #[.slice none 0 0] rfl (by kernel_rfl) (by kernel_rfl) (by kernel_rfl)
      (OpenSpec.preRow_of_cond 8 hx (by kernel_rfl) (fun k hk => by cases hk) (by kernel_rfl) (laid_met os))) ?_
  intro W base args ds gs before hval hW _ _ _ hL _ _
  exact contract H enc W base args ds gs before hval hW hL
set_option maxRecDepth 100000 in
theorem said : Rows.FnSafeSaid :=
  OpenClaim.holds_of_cond 12 Tryz.f12 rfl rfl rfl rfl rfl rfl rfl ⟨rfl, rfl, rfl, rfl, rfl⟩ rfl rfl rfl rfl rfl (by kernel_rfl) Tryz.func12 FcFnSafe.closed
    (of_decide_eq_true (by kernel_rfl)) (by unfold Func.isWrapper; first | (rw [if_pos (by decide +kernel)]; kernel_rfl) | (rw [if_neg (by decide +kernel)]; exact ⟨rfl, rfl⟩))
    (fun os started H enc _ F => by rw [OpenClaim.pre_eq_preRow]; exact lifted os started H enc F)
theorem plain (f : FuncId) (fn : Func) (hf : Tryz.pinned.checked.prog.funcNamed Rows.fnSafeRow.func = some f) (hfn : Tryz.pinned.checked.prog.funcs[f]? = some fn) :
    true = Tryz.pinned.checked.prog.looks [] ∧ ∀ (j : Nat) t, fn.params[j]? = some t → Tryz.pinned.checked.prog.wantsStandIn t = false := by
  obtain rfl : f = 12 := Option.some.inj ((show Tryz.prog.funcNamed Rows.fnSafeRow.func = some 12 by kernel_rfl).symm.trans hf) |>.symm
  obtain rfl : fn = Tryz.f12 := (Option.some.inj (Tryz.func12.symm.trans hfn)).symm
  refine ⟨by kernel_rfl, fun j t ht => ?_⟩
  rw [Tryz.params12] at ht
  obtain rfl : t = 22 := by simpa using Array.mem_of_getElem? ht
  exact (show Tryz.prog.wantsStandIn 22 = false by kernel_rfl)
theorem card : Rows.FnSafeCardSaid :=
  Claim7.holds_tied_plain_at .later [] _ _ _ _ said (fun _ h => by cases h) (by kernel_rfl) (fun _ h => by cases h) fnSafe_row_tie rfl ⟨rfl, rfl⟩ (by kernel_rfl) rfl plain (by kernel_rfl)
end Safe

/-- the given statement -/
theorem safe_holds : Rows.FnSafeCardSaid := Safe.card
#print axioms safe_holds
end Go.Proofs.YtjhpaoadpcnlnaaGreatDoor
