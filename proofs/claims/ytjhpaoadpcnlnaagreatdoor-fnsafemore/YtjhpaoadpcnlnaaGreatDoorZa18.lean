/-
  spec.CodeSafe over this translation: whether steps are safe; nothing that was there turns.
-/
import Derived.Test.YtjhpaoadpcnlnaaGreatDoorZa17
import Derived.Deep.RegionWith
import Derived.BigRegion
namespace Go.Proofs.YtjhpaoadpcnlnaaGreatDoor
open Go.ChangeShapes Go.WideShapes Go.ChangeAt Go.RowKit Go.Joins
set_option maxRecDepth 20000 in
set_option maxHeartbeats 8000000 in
theorem specCodeSafe_any (C : List OpV) (ao : Option Addr) (cap : Nat) (w : World) (hl : C.length ≤ 1048576) (h : CodeAt w ao C) :
    Calls Tryz.prog 44 #[.slice ao C.length cap] w fun e w' => ∃ b, e = .returned (.bool b) ∧ SafeOf C b ∧ Below w.heap.size w w' := by
  go_enter Tryz.func44, Tryz.ntmps44
  go_wp2_with fail
  refine (specCodeOk_any C ao cap _ hl h).mono ?_
  rintro e w1 ⟨rfl, hb1⟩
  have hz1 := hb1.size
  cases hC : codeB C with
  | false =>
    go_wp2_with fail
    go_ret
    exact ⟨false, rfl, .inr ⟨hC, rfl⟩, hb1⟩
  | true =>
  obtain ⟨hw, hl16, hok⟩ := codeB_well hC
  have hcode := h.below hb1
  go_wp2_with fail
  refine (l3Full_any C ao cap _ hC hcode).mono ?_
  rintro e w2 ⟨V, rfl, hF, hBits, hb2⟩
  have hz2 := hb2.size
  have hVl : V.length = C.length := hF.1.1.1
  generalize hFe : w1.heap.size = F at *
  go_wp2_with fail
  go_loopw [4] (fun i wr => ∃ k : Nat, k ≤ C.length ∧ i = .int .i64 k ∧ Below w2.heap.size w2 wr ∧ ∀ j, j < k → safeP C V j) (fun i _ => C.length - (intOf i).toNat)
  case atStart => exact ⟨0, Nat.zero_le _, rfl, Below.refl _ _, fun j hj => by omega⟩
  case round =>
    obtain ⟨k, hk, rfl, hB, hU⟩ := hrel
    have hzr := hB.size
    by_cases hlt : k < C.length
    · have hBr : Bits wr F V := hBits.keep (hB.block F hBits.lt)
      have c0 := hBr.cell (i := k) (by omega)
      have hki : (k : Int) < (C.length : Int) := by omega
      have hbd := hF.1.1.2 k
      have hbd1 := hbd.1
      have hbd2 := hbd.2
      have hcr : CodeAt wr ao C := hcode.below (by rw [hFe]; exact hb2.trans (hB.mono (by omega)))
      rcases hcr with rfl | ⟨b, o, rfl, hbl, hs⟩
      · exact absurd hlt (by simp)
      have st := hs k hlt
      have oi := opIs_of (hok k hlt)
      have hub := uses_bd (k := C[k].k) (r := C[k].r) (s := C[k].s) ⟨oi.r1, oi.r2⟩ ⟨oi.s1, oi.s2⟩
      have hul := uses_len C[k].k C[k].r C[k].s
      have hk1 := oi.k1
      have hk2 := oi.k2
      have hP : Hid (safeP C V k ↔ ((0 ≤ atV V k) → (∀ u ∈ usesL C[k].k C[k].r C[k].s, hasB (atV V k) u = true) ∧ (endsB C[k].k = true ∨ k + 1 < C.length))) := by
        show _ ↔ _
        unfold safeP
        exact ⟨fun hh h0 => hh hlt h0, fun hh _ h0 => hh h0⟩
      have hnn : ∀ y, y = atV V k → 0 ≤ y ∨ y = -1 := fun y e => by subst e; omega
      have hnn := hnn _ rfl
      have hU' : Hid (∀ j, j < k → safeP C V j) := hU
      have hnext : Hid (safeP C V k → ∀ j, j < k + 1 → safeP C V j) := fun hh j hj => by
        by_cases e : j < k
        · exact hU'.out j e
        · have : j = k := by omega
          subst this; exact hh
      have hno : Hid (¬ safeP C V k → SafeOf C false) := fun hh => safe_no hC hF hlt hh
      generalize atV V k = x at *
      generalize C[k] = op at *
      obtain ⟨s0, s1, s2, s3, s4, s5⟩ := st
      clear hs hU oi
      rcases hnn with h0 | h0
      · go_wp2_with fail
        refine (l2Uses_any op.k op.r op.s op.t op.a op.b _ hk1 hk2).mono ?_
        rintro e w3 ⟨b5, rfl, hb5, hb5', hc5, hb3⟩
        have hz3 := hb3.size
        have hB3 : Below w2.heap.size w2 w3 := hB.trans (hb3.mono hzr)
        have d0 : w3.cell? ⟨F, k, none⟩ = some (.int .i64 x) := (hb3.cell (p := ⟨F, k, none⟩) hBr.lt).trans c0
        have t0 : w3.cell? ⟨b, o + k * 6, none⟩ = some (.int .i64 op.k) := (hb3.cell (p := ⟨b, o + k * 6, none⟩) hbl).trans s0
        have hFlt := hBr.lt
        generalize hMe : usesL op.k op.r op.s = M at *
        clear hMe hb3 s0 s1 s2 s3 s4 s5 c0
        go_wp2_with fail
        go_loopw [6] (fun i wy => ∃ j : Nat, j ≤ M.length ∧ i = .int .i64 j ∧ Below w3.heap.size w3 wy ∧ ∀ q (hq : q < M.length), q < j → hasB x M[q] = true) (fun i _ => M.length - (intOf i).toNat)
        case atStart => exact ⟨0, Nat.zero_le _, rfl, Below.refl _ _, fun q _ h => by omega⟩
        case round =>
          obtain ⟨j, hj, rfl, hBy, hq⟩ := hrel
          have hzy := hBy.size
          by_cases hjlt : j < M.length
          · have e0 : wr.cell? ⟨F, k, none⟩ = some (.int .i64 x) := (hBy.cell (p := ⟨F, k, none⟩) (by show F < w3.heap.size; omega)).trans d0
            have e1 : wr.cell? ⟨b5, j, none⟩ = some (.int .i64 M[j]) := by
              rw [hBy.cell (p := ⟨b5, j, none⟩) hb5', hc5 j hjlt]
              simp [List.getD_eq_getElem?_getD, List.getElem?_eq_getElem hjlt]
            have hu := hub M[j] (List.getElem_mem hjlt)
            have hji : (j : Int) < (M.length : Int) := by omega
            have hq' : Hid (∀ b, hasB x M[j] = b → (b = true → ∀ q (hq : q < M.length), q < j + 1 → hasB x M[q] = true) ∧ (b = false → ¬ safeP C V k)) := by
              intro b hb
              refine ⟨fun e q hq1 hq2 => ?_, fun e hh => ?_⟩
              · by_cases e2 : q < j
                · exact hq q hq1 e2
                · have : q = j := by omega
                  subst this; rw [hb]; exact e
              · have := (hP.out.1 hh h0).1 M[j] (List.getElem_mem hjlt)
                rw [hb, e] at this; cases this
            generalize M[j] = u at *
            clear hq d0
            go_wp2_with fail
            cases hh : hasB x u with
            | true =>
              have hn := (hq'.out true hh).1 rfl
              have hn' : Hid (∀ q (hq : q < M.length), q < j + 1 → hasB x M[q] = true) := hn
              clear hn
              go_region_with (go_at_call 74; refine (l3Has_any x u _ h0 hbd2 hu.1 hu.2).mono ?_; rintro e w4 ⟨rfl, hb4⟩)
              all_goals
                have hB4 : Below w3.heap.size w3 w4 := hBy.trans ((show Below wr.heap.size wr w4 from ⟨hb4.os, hb4.tape, hb4.output, hb4.size, hb4.block⟩).mono hzy)
                go_step
                go_wp2_with fail
                go_roundw
                case rel => exact ⟨j + 1, by omega, by go_num, hB4, hn'.out⟩
                case measure => simp [intOf]; omega
            | false =>
              have hn := (hq'.out false hh).2 rfl
              have hn' : Hid (SafeOf C false) := hno.out hn
              clear hn
              go_region_with (go_at_call 74; refine (l3Has_any x u _ h0 hbd2 hu.1 hu.2).mono ?_; rintro e w4 ⟨rfl, hb4⟩)
              all_goals
                have hB4 : Below w3.heap.size w3 w4 := hBy.trans ((show Below wr.heap.size wr w4 from ⟨hb4.os, hb4.tape, hb4.output, hb4.size, hb4.block⟩).mono hzy)
                go_step
                go_wp2_with fail
                go_ret
                exact ⟨false, rfl, hn'.out, hb1.trans ((hb2.mono (by omega)).trans ((hB3.mono (by omega)).trans (hB4.mono (by omega))))⟩
          · have e : j = M.length := by omega
            subst e
            have u0 : wr.cell? ⟨b, o + k * 6, none⟩ = some (.int .i64 op.k) := (hBy.cell (p := ⟨b, o + k * 6, none⟩) (by show b < w3.heap.size; omega)).trans t0
            have hall : Hid (∀ u ∈ M, hasB x u = true) := fun u hu => by
              obtain ⟨q, hq1, rfl⟩ := List.getElem_of_mem hu
              exact hq q hq1 hq1
            have hBy2 : Below w2.heap.size w2 wr := hB3.trans (hBy.mono (by omega))
            clear hq d0 t0
            by_cases hlast : k + 1 = C.length
            · have hl1 : ((k : Int) + 1 == (C.length : Int)) = true := by simp; omega
              by_cases h9 : op.k = 9
              · have b9 : (op.k != 9) = false := by simp [h9]
                have hn : Hid (∀ j, j < k + 1 → safeP C V j) := hnext.out (hP.out.2 fun _ => ⟨hall.out, .inl (by simp [endsB, h9])⟩)
                clear h9 hlast
                go_wp2_with fail
                go_roundw
                case rel => exact ⟨k + 1, by omega, by go_num, hBy2, hn.out⟩
                case measure => simp [intOf]; omega
              · have b9 : (op.k != 9) = true := by simp [h9]
                by_cases h14 : op.k = 14
                · have b14 : (op.k != 14) = false := by simp [h14]
                  have hn : Hid (∀ j, j < k + 1 → safeP C V j) := hnext.out (hP.out.2 fun _ => ⟨hall.out, .inl (by simp [endsB, h14])⟩)
                  clear h9 h14 hlast
                  go_wp2_with fail
                  go_roundw
                  case rel => exact ⟨k + 1, by omega, by go_num, hBy2, hn.out⟩
                  case measure => simp [intOf]; omega
                · have b14 : (op.k != 14) = true := by simp [h14]
                  have hn : Hid (SafeOf C false) := hno.out (fun hh => by
                    rcases (hP.out.1 hh h0).2 with e | e
                    · simp [endsB, h9, h14] at e
                    · omega)
                  clear h9 h14 hlast
                  go_wp2_with fail
                  go_ret
                  exact ⟨false, rfl, hn.out, hb1.trans ((hb2.mono (by omega)).trans (hBy2.mono (by omega)))⟩
            · have hl1 : ((k : Int) + 1 == (C.length : Int)) = false := by simp; omega
              have hn : Hid (∀ j, j < k + 1 → safeP C V j) := hnext.out (hP.out.2 fun _ => ⟨hall.out, .inr (by omega)⟩)
              clear hlast
              go_wp2_with fail
              go_roundw
              case rel => exact ⟨k + 1, by omega, by go_num, hBy2, hn.out⟩
              case measure => simp [intOf]; omega
      · have hx0 : x < 0 := by omega
        have hn : Hid (∀ j, j < k + 1 → safeP C V j) := hnext.out (hP.out.2 fun hh => by omega)
        clear h0
        go_wp2_with fail
        go_roundw
        case rel => exact ⟨k + 1, by omega, by go_num, hB, hn.out⟩
        case measure => simp [intOf]; omega
    · have e : k = C.length := by omega
      subst e
      have hU' : Hid (∀ j, j < C.length → safeP C V j) := hU
      clear hU
      go_wp2_with fail
      go_ret
      exact ⟨true, rfl, safe_yes hC hF hU'.out, hb1.trans ((hb2.mono (by omega)).trans (hB.mono (by omega)))⟩
end Go.Proofs.YtjhpaoadpcnlnaaGreatDoor
