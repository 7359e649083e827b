/-
  For every code of at most 2^20 bytes: by the steps that are drawn, impl.CodeFull answers as the specification does, and, where it tells slots, a slot that is full ahead of the next step, or of the step to which one goes, is full ahead of this one, or filled by it on the way to the next. Longer codes are let by. No condition but that the tables and errors of strconv are as their initialisers lay them.
-/
import Derived.Test.YtjhpaoadpcnlnaaGreatDoorZa19
import Derived.Test.YtjhpaoadpcnlnaaGreatDoorZa23
import Derived.Test.YtjhpaoadpcnlnaaGreatDoorZa25
namespace Go.Proofs.YtjhpaoadpcnlnaaGreatDoor
open Go.ChangeShapes Go.WideShapes Go.ChangeAt Go.RowKit Go.Joins
namespace FullStep
theorem le_has {x y : Int} (hx : Bd x) (hy : Bd y) (h0 : 0 ≤ y) (h : Le x y) (s : Nat) (hs : s < 4) (hh : hasB (max x 0) (s : Int) = true) : hasB y (s : Int) = true := by
  have key : ∀ i j : Fin 17, ∀ s : Fin 4, 0 ≤ (j.val : Int) - 1 → Le ((i.val : Int) - 1) ((j.val : Int) - 1) → hasB (max ((i.val : Int) - 1) 0) (s.val : Int) = true → hasB ((j.val : Int) - 1) (s.val : Int) = true := by decide +kernel
  obtain ⟨i, rfl⟩ := bd_fin hx
  obtain ⟨j, rfl⟩ := bd_fin hy
  exact key i j ⟨s, hs⟩ h0 h hh
theorem or_has {x r : Int} (hx : Bd x) (h0 : 0 ≤ x) (hr0 : 0 ≤ r) (hr3 : r ≤ 3) (s : Nat) (hs : s < 4) (hh : hasB (orB x (bitOf r)) (s : Int) = true) : hasB x (s : Int) = true ∨ r = (s : Int) := by
  have key : ∀ i : Fin 17, ∀ r s : Fin 4, 0 ≤ (i.val : Int) - 1 → hasB (orB ((i.val : Int) - 1) (bitOf (r.val : Int))) (s.val : Int) = true → hasB ((i.val : Int) - 1) (s.val : Int) = true ∨ (r.val : Int) = (s.val : Int) := by decide +kernel
  obtain ⟨i, rfl⟩ := bd_fin hx
  obtain ⟨rn, rfl⟩ := int_fin4 ⟨hr0, hr3⟩
  exact key i rn ⟨s, hs⟩ h0 hh
theorem step_next {C : List OpV} {V : List Int} (hC : codeB C = true) (hV : IsFull C V) {k : Nat} (hk : k < C.length) (h0 : 0 ≤ atV V k) (h9 : C[k].k ≠ 9) (h14 : C[k].k ≠ 14) (hn : k + 1 < C.length) (s : Nat) (hs : s < 4) (hh : hasB (max (atV V (k + 1)) 0) (s : Int) = true) :
    hasB (atV V k) (s : Int) = true ∨ (fillsB C[k].k = true ∧ C[k].r = (s : Int)) := by
  have hle : Le (atV V (k + 1)) (onB C[k] (atV V k)) := hV.1.2.2 k hk h0 (k + 1, onB C[k] (atV V k)) (by unfold waysL nextW; rw [if_pos (by simp [h9, h14, hn])]; simp)
  have hob := on_bd C[k] (hV.1.1.2 k) h0
  have h1 := le_has (hV.1.1.2 (k + 1)) (show Bd (onB C[k] (atV V k)) from ⟨by omega, hob.2⟩) hob.1 hle s hs hh
  unfold onB at h1
  split at h1
  · rename_i hf
    have hw := (codeB_well hC).1.2 k hk
    rcases or_has (hV.1.1.2 k) h0 hw.2.2.1 hw.2.2.2 s hs h1 with h | h
    · exact .inl h
    · exact .inr ⟨hf, h⟩
  · exact .inl h1
theorem step_to {C : List OpV} {V : List Int} (hV : IsFull C V) {k : Nat} (hk : k < C.length) (h0 : 0 ≤ atV V k) (h : C[k].k = 9 ∨ C[k].k = 10 ∨ C[k].k = 8) (s : Nat) (hs : s < 4) (hh : hasB (max (atV V C[k].t.toNat) 0) (s : Int) = true) : hasB (atV V k) (s : Int) = true :=
  le_has (hV.1.1.2 _) (hV.1.1.2 k) h0 (hV.1.2.2 k hk h0 (C[k].t.toNat, atV V k) (by unfold waysL toW; rw [if_pos (by omega)]; simp)) s hs hh
set_option maxRecDepth 20000 in
set_option maxHeartbeats 16000000 in
theorem walk (a : Option Addr) (len cap : Nat) (w : World) (h : Code0 w a len cap) :
    Calls Tryz.prog 8 #[.slice a len cap] w fun e w' => e = .returned (.bool true) ∧ Below w.heap.size w w' := by
  by_cases hlen : len ≤ 1048576
  · have g0 : ¬ (1048576 : Int) < (len : Int) := by omega
    go_enter Tryz.func8, Tryz.ntmps8
    go_wp2_with fail
    refine (drawFull_any a len cap _ h).mono ?_
    rintro e w1 ⟨C, v, rfl, hC17, hO1, hB1⟩
    have hz1 := hB1.size
    obtain ⟨ao, cp, rfl, hC1, _⟩ := hO1.code
    have hl : C.length ≤ 1048576 := by omega
    clear hO1
    go_wp2_with fail
    refine (implCodeFull_any C ao cp _ hl hC1).mono ?_
    rintro e w2 ⟨v2, L, rfl, hR2, hO2, hb2⟩
    have hz2 := hb2.size
    have hB2 : Below w.heap.size w w2 := hB1.trans (hb2.mono (by omega))
    have hC2 := hC1.below hb2
    have hLl : L.length ≤ 1048576 := by have := fullOf_len hR2; omega
    have hI2 := Owns.ints hO2
    clear hO2 hb2 hB1 hC1
    go_wp2_with fail
    refine (specCodeFull_any C ao cp _ hl hC2).mono ?_
    rintro e w3 ⟨v3, L3, rfl, hR3, hO3, hb3⟩
    obtain rfl := fullOf_one hR2 hR3
    have hz3 := hb3.size
    have hB3 : Below w.heap.size w w3 := hB2.trans (hb3.mono (by omega))
    have hC3 := hC2.below hb3
    have hI3 := hI2.below hb3
    clear hb3 hB2 hC2 hI2 hR3
    go_wp2_with fail
    refine (lvInts_same w3.heap.size L _ _ _ hLl (hI3.mono (by omega)) (Owns.ints hO3)).mono ?_
    rintro e w4 ⟨rfl, hb4⟩
    have hz4 := hb4.size
    have hB4 : Below w.heap.size w w4 := hB3.trans (hb4.mono (by omega))
    have hC4 := hC3.below hb4
    have hI4 := hI3.below (hb4.mono (by omega))
    clear hb4 hB3 hC3 hI3 hO3
    obtain ⟨ao2, cp2, rfl, hI4'⟩ := id hI4
    by_cases hL0 : L.length = 0
    · have hL1 : ((L.length : Int) == 0) = true := by simp [hL0]
      replace hL0 : Hid (L.length = 0) := hL0
      go_wp2_with fail
      refine (specCodeFull_any C ao cp _ hl hC4).mono ?_
      rintro e w5 ⟨v5, L5, rfl, hR5, hO5, hb5⟩
      obtain rfl := fullOf_one hR2 hR5
      have hz5 := hb5.size
      have hB5 : Below w.heap.size w w5 := hB4.trans (hb5.mono (by omega))
      have hI5 := hI4.below (hb5.mono (by omega))
      go_wp2_with fail
      refine (lvInts_same w5.heap.size L _ _ _ hLl (hI5.mono (by omega)) (Owns.ints hO5)).mono ?_
      rintro e w6 ⟨rfl, hb6⟩
      go_wp2_with fail
      go_ret
      exact ⟨rfl, hB5.trans (hb6.mono (by omega))⟩
    · have hL1 : ((L.length : Int) == 0) = false := by simp [hL0]
      obtain ⟨hcb, hV⟩ := full_code' hR2 hL0
      have hVl : Hid (L.length = C.length) := full_len hV
      have hC0 : 0 < C.length := (codeB_well hcb).1.1
      have hVb : Hid (∀ i, -1 ≤ atV L i ∧ atV L i ≤ 15) := fun i => hV.1.1.2 i
      have hnx : Hid (∀ k (h : k < C.length), 0 ≤ atV L k → C[k].k ≠ 9 → C[k].k ≠ 14 → k + 1 < C.length → ∀ s : Nat, s < 4 → hasB (max (atV L (k + 1)) 0) (s : Int) = true → hasB (atV L k) (s : Int) = true ∨ (fillsB C[k].k = true ∧ C[k].r = (s : Int))) := fun k h h0 h9 h14 hn s hs hy => step_next hcb hV h h0 h9 h14 hn s hs hy
      have hgo : Hid (∀ k (h : k < C.length), 0 ≤ atV L k → C[k].k = 9 ∨ C[k].k = 10 ∨ C[k].k = 8 → ∀ s : Nat, s < 4 → hasB (max (atV L C[k].t.toNat) 0) (s : Int) = true → hasB (atV L k) (s : Int) = true) := fun k h h0 hk s hs hy => step_to hV h h0 hk s hs hy
      have hto : Hid (∀ k (h : k < C.length), 0 ≤ C[k].t ∧ C[k].t < (C.length : Int)) := fun k h => ⟨((codeB_well hcb).1.2 k h).1, ((codeB_well hcb).1.2 k h).2.1⟩
      have hkk : Hid (∀ k (h : k < C.length), 1 ≤ C[k].k ∧ C[k].k ≤ 14) := fun k h => ⟨(opIs_of ((codeB_well hcb).2.2 k h)).k1, (opIs_of ((codeB_well hcb).2.2 k h)).k2⟩
      rcases hI4' with hLz | ⟨b5, o5, rfl, hb5', hc5⟩
      · rw [hLz] at hL0; exact absurd rfl hL0
      replace hc5 : Hid (∀ i (h : i < L.length), w4.cell? ⟨b5, o5 + i, none⟩ = some (.int .i64 L[i])) := hc5
      rcases hC4 with hCz | ⟨b, o, rfl, hbl, hs⟩
      · rw [hCz] at hC0; simp at hC0
      replace hs : Hid (∀ i (h : i < C.length), StepAt w4 b (o + i * 6) C[i]) := hs
      have hb5w : b5 < w4.heap.size := by omega
      clear hV hcb hR2 hI4
      go_wp2_with fail
      go_loopw [5] (fun i wr => ∃ k : Nat, k ≤ C.length ∧ i = .int .i64 k ∧ Below w4.heap.size w4 wr) (fun i _ => C.length - (intOf i).toNat)
      case atStart => exact ⟨0, Nat.zero_le _, rfl, Below.refl _ _⟩
      case round =>
        obtain ⟨k, hk, rfl, hBr⟩ := hrel
        have hzr := hBr.size
        by_cases hlt : k < C.length
        · have g1 : (k : Int) < (C.length : Int) := by omega
          have g2 : (k : Int) < (L.length : Int) := by have := hVl.out; omega
          have hcell : Hid (∀ i, i < C.length → ∀ W : World, Below w4.heap.size w4 W → W.cell? ⟨b5, o5 + i, none⟩ = some (.int .i64 (atV L i))) := fun i hi W hW => by
            have hiL : i < L.length := by have := hVl.out; omega
            rw [atV_at hiL]; exact (hW.cell (p := ⟨b5, o5 + i, none⟩) hb5w).trans (hc5.out i hiL)
          have c0 := hcell.out k hlt _ hBr
          have st : StepAt wr b (o + k * 6) C[k] := by
            obtain ⟨t0, t1, t2, t3, t4, t5⟩ := hs.out k hlt
            exact ⟨(hBr.cell (p := ⟨b, o + k * 6, none⟩) hbl).trans t0, (hBr.cell (p := ⟨b, o + k * 6 + 1, none⟩) hbl).trans t1, (hBr.cell (p := ⟨b, o + k * 6 + 2, none⟩) hbl).trans t2, (hBr.cell (p := ⟨b, o + k * 6 + 3, none⟩) hbl).trans t3, (hBr.cell (p := ⟨b, o + k * 6 + 4, none⟩) hbl).trans t4, (hBr.cell (p := ⟨b, o + k * 6 + 5, none⟩) hbl).trans t5⟩
          by_cases hx : atV L k < 0
          · generalize atV L k = x at *
            go_wp2_with fail
            go_roundw
            case rel => exact ⟨k + 1, by omega, by go_num, hBr⟩
            case measure => simp [intOf]; omega
          have hx0 : 0 ≤ atV L k := by omega
          have hx1 : atV L k ≤ 15 := (hVb.out k).2
          have hAA : Hid (C[k].k ≠ 9 → C[k].k ≠ 14 → k + 1 < C.length → ∀ s : Nat, s < 4 → hasB (max (atV L (k + 1)) 0) (s : Int) = true → hasB (atV L k) (s : Int) = true ∨ (fillsB C[k].k = true ∧ C[k].r = (s : Int))) := hnx.out k hlt hx0
          have hBB : Hid (C[k].k = 9 ∨ C[k].k = 10 ∨ C[k].k = 8 → ∀ s : Nat, s < 4 → hasB (max (atV L C[k].t.toNat) 0) (s : Int) = true → hasB (atV L k) (s : Int) = true) := hgo.out k hlt hx0
          have htt := hto.out k hlt
          obtain ⟨hk1, hk2⟩ := hkk.out k hlt
          obtain ⟨tn, htn⟩ : ∃ tn : Nat, C[k].t = (tn : Int) := ⟨C[k].t.toNat, by omega⟩
          rw [htn, Int.toNat_natCast] at hBB
          rw [htn] at htt
          have htl : tn < C.length := by omega
          have g3 : (tn : Int) < (L.length : Int) := by have := hVl.out; omega
          have hy0 : 0 ≤ max (atV L (k + 1)) 0 := by omega
          have hy1 : max (atV L (k + 1)) 0 ≤ 15 := by have := (hVb.out (k + 1)).2; omega
          have hz0 : 0 ≤ max (atV L tn) 0 := by omega
          have hz1 : max (atV L tn) 0 ≤ 15 := by have := (hVb.out tn).2; omega
          have hBa : ∀ c, Below w4.heap.size w4 (wr.alloc (.cells c 26)) := fun c => hBr.alloc hzr _
          have d0 : ∀ c, (wr.alloc (.cells c 26)).cell? ⟨b5, o5 + k, none⟩ = some (.int .i64 (atV L k)) := fun c => hcell.out k hlt _ (hBa c)
          have d1 : ∀ c, k + 1 < C.length → (wr.alloc (.cells c 26)).cell? ⟨b5, o5 + (k + 1), none⟩ = some (.int .i64 (atV L (k + 1))) := fun c h => hcell.out (k + 1) h _ (hBa c)
          have d2 : ∀ c, (wr.alloc (.cells c 26)).cell? ⟨b5, o5 + tn, none⟩ = some (.int .i64 (atV L tn)) := fun c => hcell.out tn htl _ (hBa c)
          generalize atV L k = x at *
          generalize atV L (k + 1) = y at *
          generalize atV L tn = z at *
          generalize C[k] = op at *
          obtain ⟨s0, s1, s2, s3, s4, s5⟩ := st
          rw [htn] at s3
          replace d0 : Hid (∀ c, (wr.alloc (.cells c 26)).cell? ⟨b5, o5 + k, none⟩ = some (.int .i64 x)) := d0
          replace d1 : Hid (∀ c, k + 1 < C.length → (wr.alloc (.cells c 26)).cell? ⟨b5, o5 + (k + 1), none⟩ = some (.int .i64 y)) := d1
          replace d2 : Hid (∀ c, (wr.alloc (.cells c 26)).cell? ⟨b5, o5 + tn, none⟩ = some (.int .i64 z)) := d2
          replace hBa : Hid (∀ c, Below w4.heap.size w4 (wr.alloc (.cells c 26))) := hBa
          clear htn hcell hnx hgo
          have hx' : ¬ x < 0 := by omega
          go_wp2_with fail
          have e0 := d0.out #[.int .i64 op.k, .int .i64 op.r, .int .i64 op.s, .int .i64 (tn : Int), .int .i64 op.a, .int .i64 op.b]
          have e1 := d1.out #[.int .i64 op.k, .int .i64 op.r, .int .i64 op.s, .int .i64 (tn : Int), .int .i64 op.a, .int .i64 op.b]
          have e2 := d2.out #[.int .i64 op.k, .int .i64 op.r, .int .i64 op.s, .int .i64 (tn : Int), .int .i64 op.a, .int .i64 op.b]
          have hBw := hBa.out #[.int .i64 op.k, .int .i64 op.r, .int .i64 op.s, .int .i64 (tn : Int), .int .i64 op.a, .int .i64 op.b]
          have q0 : (wr.alloc (.cells #[.int .i64 op.k, .int .i64 op.r, .int .i64 op.s, .int .i64 (tn : Int), .int .i64 op.a, .int .i64 op.b] 26)).cell? ⟨wr.heap.size, 0, none⟩ = some (.int .i64 op.k) := by simp [go_sem]
          have q1 : (wr.alloc (.cells #[.int .i64 op.k, .int .i64 op.r, .int .i64 op.s, .int .i64 (tn : Int), .int .i64 op.a, .int .i64 op.b] 26)).cell? ⟨wr.heap.size, 1, none⟩ = some (.int .i64 op.r) := by simp [go_sem]
          have q3 : (wr.alloc (.cells #[.int .i64 op.k, .int .i64 op.r, .int .i64 op.s, .int .i64 (tn : Int), .int .i64 op.a, .int .i64 op.b] 26)).cell? ⟨wr.heap.size, 3, none⟩ = some (.int .i64 (tn : Int)) := by simp [go_sem]
          generalize (wr.alloc (.cells #[.int .i64 op.k, .int .i64 op.r, .int .i64 op.s, .int .i64 (tn : Int), .int .i64 op.a, .int .i64 op.b] 26)) = w6 at *
          generalize wr.heap.size = B6 at *
          replace e1 : Hid (k + 1 < C.length → w6.cell? ⟨b5, o5 + (k + 1), none⟩ = some (.int .i64 y)) := e1
          clear d0 d1 d2 hBa s0 s1 s2 s3 s4 s5 c0
          go_loop [7] (fun i => ∃ j : Nat, j ≤ 4 ∧ i = .int .i64 j) (fun i => 4 - (intOf i).toNat)
          case atStart => exact ⟨0, by omega, rfl⟩
          case round =>
            obtain ⟨j, hj, rfl⟩ := hrel
            by_cases hj4 : j < 4
            · have g4 : (j : Int) ≤ 3 := by omega
              have hB : Hid (op.k = 9 ∨ op.k = 10 ∨ op.k = 8 → hasB (max z 0) (j : Int) = true → hasB x (j : Int) = true) := fun h1 h2 => hBB.out h1 j (by omega) h2
              by_cases h9 : op.k = 9
              · skip
                have n9 : (op.k == 9) = true := by simp [h9]
                have n9' : (op.k != 9) = false := by simp [h9]
                have hBz : Hid (hasB (max z 0) (j : Int) = true → hasB x (j : Int) = true) := fun h => hB.out (.inl h9) h
                clear h9
                cases hx : hasB x (j : Int) with
                | true =>
                  go_wp2_with fail
                  refine (lvBit_any x (j : Int) _ hx0 hx1 (by omega) (by omega)).mono ?_
                  rintro e w7 ⟨rfl, rfl⟩
                  rw [hx]
                  cases hz : hasB (max z 0) (j : Int) with
                  | true =>
                    go_wp2_with fail
                    refine (lvBit_any (max z 0) (j : Int) _ hz0 hz1 (by omega) (by omega)).mono ?_
                    rintro e w7 ⟨rfl, rfl⟩
                    rw [hz]
                    go_wp2_with fail
                    go_round
                    case rel => exact ⟨j + 1, by omega, by go_num⟩
                    case measure => simp [intOf]; omega
                  | false =>
                    go_wp2_with fail
                    refine (lvBit_any (max z 0) (j : Int) _ hz0 hz1 (by omega) (by omega)).mono ?_
                    rintro e w7 ⟨rfl, rfl⟩
                    rw [hz]
                    go_wp2_with fail
                    go_round
                    case rel => exact ⟨j + 1, by omega, by go_num⟩
                    case measure => simp [intOf]; omega
                | false =>
                  go_wp2_with fail
                  refine (lvBit_any x (j : Int) _ hx0 hx1 (by omega) (by omega)).mono ?_
                  rintro e w7 ⟨rfl, rfl⟩
                  rw [hx]
                  cases hz : hasB (max z 0) (j : Int) with
                  | true =>
                    exact absurd (hBz.out hz) (by rw [hx]; simp)
                  | false =>
                    go_wp2_with fail
                    refine (lvBit_any (max z 0) (j : Int) _ hz0 hz1 (by omega) (by omega)).mono ?_
                    rintro e w7 ⟨rfl, rfl⟩
                    rw [hz]
                    go_wp2_with fail
                    go_round
                    case rel => exact ⟨j + 1, by omega, by go_num⟩
                    case measure => simp [intOf]; omega
              have n9 : (op.k == 9) = false := by simp [h9]
              have n9' : (op.k != 9) = true := by simp [h9]
              by_cases h14 : op.k = 14
              · skip
                have n14' : (op.k != 14) = false := by simp [h14]
                have m10 : (op.k == 10) = false := by simp [h14]
                have m8 : (op.k == 8) = false := by simp [h14]
                clear h9 h14
                cases hx : hasB x (j : Int) with
                | true =>
                  go_wp2_with fail
                  refine (lvBit_any x (j : Int) _ hx0 hx1 (by omega) (by omega)).mono ?_
                  rintro e w7 ⟨rfl, rfl⟩
                  rw [hx]
                  go_wp2_with fail
                  go_round
                  case rel => exact ⟨j + 1, by omega, by go_num⟩
                  case measure => simp [intOf]; omega
                | false =>
                  go_wp2_with fail
                  refine (lvBit_any x (j : Int) _ hx0 hx1 (by omega) (by omega)).mono ?_
                  rintro e w7 ⟨rfl, rfl⟩
                  rw [hx]
                  go_wp2_with fail
                  go_round
                  case rel => exact ⟨j + 1, by omega, by go_num⟩
                  case measure => simp [intOf]; omega
              have n14' : (op.k != 14) = true := by simp [h14]
              by_cases hlast : k + 1 < C.length
              · skip
                have g5 : (k : Int) + 1 < (C.length : Int) := by omega
                have e1 := e1.out hlast
                have g6 : (k : Int) + 1 < (L.length : Int) := by have := hVl.out; omega
                have hA : Hid (hasB (max y 0) (j : Int) = true → hasB x (j : Int) = true ∨ (fillsB op.k = true ∧ op.r = (j : Int))) := fun h => hAA.out h9 h14 hlast j (by omega) h
                clear h9 h14
                cases hy : hasB (max y 0) (j : Int) with
                | true =>
                  cases hx : hasB x (j : Int) with
                  | true =>
                    by_cases h10 : op.k = 10
                    · have n10 : (op.k == 10) = true := by simp [h10]
                      have hBz : Hid (hasB (max z 0) (j : Int) = true → hasB x (j : Int) = true) := fun h => hB.out (.inr (.inl h10)) h
                      clear h10
                      go_wp2_with fail
                      refine (lvBit_any x (j : Int) _ hx0 hx1 (by omega) (by omega)).mono ?_
                      rintro e w7 ⟨rfl, rfl⟩
                      rw [hx]
                      go_wp2_with fail
                      refine (lvBit_any (max y 0) (j : Int) _ hy0 hy1 (by omega) (by omega)).mono ?_
                      rintro e w7 ⟨rfl, rfl⟩
                      rw [hy]
                      cases hz : hasB (max z 0) (j : Int) with
                      | true =>
                        go_wp2_with fail
                        refine (lvBit_any (max z 0) (j : Int) _ hz0 hz1 (by omega) (by omega)).mono ?_
                        rintro e w7 ⟨rfl, rfl⟩
                        rw [hz]
                        go_wp2_with fail
                        go_round
                        case rel => exact ⟨j + 1, by omega, by go_num⟩
                        case measure => simp [intOf]; omega
                      | false =>
                        go_wp2_with fail
                        refine (lvBit_any (max z 0) (j : Int) _ hz0 hz1 (by omega) (by omega)).mono ?_
                        rintro e w7 ⟨rfl, rfl⟩
                        rw [hz]
                        go_wp2_with fail
                        go_round
                        case rel => exact ⟨j + 1, by omega, by go_num⟩
                        case measure => simp [intOf]; omega
                    have n10 : (op.k == 10) = false := by simp [h10]
                    by_cases h8 : op.k = 8
                    · have n8 : (op.k == 8) = true := by simp [h8]
                      have hBz : Hid (hasB (max z 0) (j : Int) = true → hasB x (j : Int) = true) := fun h => hB.out (.inr (.inr h8)) h
                      clear h8 h10
                      go_wp2_with fail
                      refine (lvBit_any x (j : Int) _ hx0 hx1 (by omega) (by omega)).mono ?_
                      rintro e w7 ⟨rfl, rfl⟩
                      rw [hx]
                      go_wp2_with fail
                      refine (lvBit_any (max y 0) (j : Int) _ hy0 hy1 (by omega) (by omega)).mono ?_
                      rintro e w7 ⟨rfl, rfl⟩
                      rw [hy]
                      cases hz : hasB (max z 0) (j : Int) with
                      | true =>
                        go_wp2_with fail
                        refine (lvBit_any (max z 0) (j : Int) _ hz0 hz1 (by omega) (by omega)).mono ?_
                        rintro e w7 ⟨rfl, rfl⟩
                        rw [hz]
                        go_wp2_with fail
                        go_round
                        case rel => exact ⟨j + 1, by omega, by go_num⟩
                        case measure => simp [intOf]; omega
                      | false =>
                        go_wp2_with fail
                        refine (lvBit_any (max z 0) (j : Int) _ hz0 hz1 (by omega) (by omega)).mono ?_
                        rintro e w7 ⟨rfl, rfl⟩
                        rw [hz]
                        go_wp2_with fail
                        go_round
                        case rel => exact ⟨j + 1, by omega, by go_num⟩
                        case measure => simp [intOf]; omega
                    have n8 : (op.k == 8) = false := by simp [h8]
                    clear h8 h10
                    go_wp2_with fail
                    refine (lvBit_any x (j : Int) _ hx0 hx1 (by omega) (by omega)).mono ?_
                    rintro e w7 ⟨rfl, rfl⟩
                    rw [hx]
                    go_wp2_with fail
                    refine (lvBit_any (max y 0) (j : Int) _ hy0 hy1 (by omega) (by omega)).mono ?_
                    rintro e w7 ⟨rfl, rfl⟩
                    rw [hy]
                    go_wp2_with fail
                    go_round
                    case rel => exact ⟨j + 1, by omega, by go_num⟩
                    case measure => simp [intOf]; omega
                  | false =>
                    obtain ⟨hf, hr⟩ := (hA.out hy).resolve_left (by rw [hx]; simp)
                    have hr' : (op.r == (j : Int)) = true := by simp [hr]
                    have hff : Hid (fillsB op.k = true) := hf
                    clear hr hf
                    by_cases h10 : op.k = 10
                    · have n10 : (op.k == 10) = true := by simp [h10]
                      have hBz : Hid (hasB (max z 0) (j : Int) = true → hasB x (j : Int) = true) := fun h => hB.out (.inr (.inl h10)) h
                      clear h10
                      go_wp2_with fail
                      refine (lvBit_any x (j : Int) _ hx0 hx1 (by omega) (by omega)).mono ?_
                      rintro e w7 ⟨rfl, rfl⟩
                      rw [hx]
                      go_wp2_with fail
                      refine (lvBit_any (max y 0) (j : Int) _ hy0 hy1 (by omega) (by omega)).mono ?_
                      rintro e w7 ⟨rfl, rfl⟩
                      rw [hy]
                      go_wp2_with fail
                      refine (lvFills_any op.k _ hk1 hk2).mono ?_
                      rintro e w7 ⟨rfl, rfl⟩
                      rw [hff.out]
                      cases hz : hasB (max z 0) (j : Int) with
                      | true =>
                        exact absurd (hBz.out hz) (by rw [hx]; simp)
                      | false =>
                        go_wp2_with fail
                        refine (lvBit_any (max z 0) (j : Int) _ hz0 hz1 (by omega) (by omega)).mono ?_
                        rintro e w7 ⟨rfl, rfl⟩
                        rw [hz]
                        go_wp2_with fail
                        go_round
                        case rel => exact ⟨j + 1, by omega, by go_num⟩
                        case measure => simp [intOf]; omega
                    have n10 : (op.k == 10) = false := by simp [h10]
                    by_cases h8 : op.k = 8
                    · have n8 : (op.k == 8) = true := by simp [h8]
                      have hBz : Hid (hasB (max z 0) (j : Int) = true → hasB x (j : Int) = true) := fun h => hB.out (.inr (.inr h8)) h
                      clear h8 h10
                      go_wp2_with fail
                      refine (lvBit_any x (j : Int) _ hx0 hx1 (by omega) (by omega)).mono ?_
                      rintro e w7 ⟨rfl, rfl⟩
                      rw [hx]
                      go_wp2_with fail
                      refine (lvBit_any (max y 0) (j : Int) _ hy0 hy1 (by omega) (by omega)).mono ?_
                      rintro e w7 ⟨rfl, rfl⟩
                      rw [hy]
                      go_wp2_with fail
                      refine (lvFills_any op.k _ hk1 hk2).mono ?_
                      rintro e w7 ⟨rfl, rfl⟩
                      rw [hff.out]
                      cases hz : hasB (max z 0) (j : Int) with
                      | true =>
                        exact absurd (hBz.out hz) (by rw [hx]; simp)
                      | false =>
                        go_wp2_with fail
                        refine (lvBit_any (max z 0) (j : Int) _ hz0 hz1 (by omega) (by omega)).mono ?_
                        rintro e w7 ⟨rfl, rfl⟩
                        rw [hz]
                        go_wp2_with fail
                        go_round
                        case rel => exact ⟨j + 1, by omega, by go_num⟩
                        case measure => simp [intOf]; omega
                    have n8 : (op.k == 8) = false := by simp [h8]
                    clear h8 h10
                    go_wp2_with fail
                    refine (lvBit_any x (j : Int) _ hx0 hx1 (by omega) (by omega)).mono ?_
                    rintro e w7 ⟨rfl, rfl⟩
                    rw [hx]
                    go_wp2_with fail
                    refine (lvBit_any (max y 0) (j : Int) _ hy0 hy1 (by omega) (by omega)).mono ?_
                    rintro e w7 ⟨rfl, rfl⟩
                    rw [hy]
                    go_wp2_with fail
                    refine (lvFills_any op.k _ hk1 hk2).mono ?_
                    rintro e w7 ⟨rfl, rfl⟩
                    rw [hff.out]
                    go_wp2_with fail
                    go_round
                    case rel => exact ⟨j + 1, by omega, by go_num⟩
                    case measure => simp [intOf]; omega
                | false =>
                  cases hx : hasB x (j : Int) with
                  | true =>
                    by_cases h10 : op.k = 10
                    · have n10 : (op.k == 10) = true := by simp [h10]
                      have hBz : Hid (hasB (max z 0) (j : Int) = true → hasB x (j : Int) = true) := fun h => hB.out (.inr (.inl h10)) h
                      clear h10
                      go_wp2_with fail
                      refine (lvBit_any x (j : Int) _ hx0 hx1 (by omega) (by omega)).mono ?_
                      rintro e w7 ⟨rfl, rfl⟩
                      rw [hx]
                      go_wp2_with fail
                      refine (lvBit_any (max y 0) (j : Int) _ hy0 hy1 (by omega) (by omega)).mono ?_
                      rintro e w7 ⟨rfl, rfl⟩
                      rw [hy]
                      cases hz : hasB (max z 0) (j : Int) with
                      | true =>
                        go_wp2_with fail
                        refine (lvBit_any (max z 0) (j : Int) _ hz0 hz1 (by omega) (by omega)).mono ?_
                        rintro e w7 ⟨rfl, rfl⟩
                        rw [hz]
                        go_wp2_with fail
                        go_round
                        case rel => exact ⟨j + 1, by omega, by go_num⟩
                        case measure => simp [intOf]; omega
                      | false =>
                        go_wp2_with fail
                        refine (lvBit_any (max z 0) (j : Int) _ hz0 hz1 (by omega) (by omega)).mono ?_
                        rintro e w7 ⟨rfl, rfl⟩
                        rw [hz]
                        go_wp2_with fail
                        go_round
                        case rel => exact ⟨j + 1, by omega, by go_num⟩
                        case measure => simp [intOf]; omega
                    have n10 : (op.k == 10) = false := by simp [h10]
                    by_cases h8 : op.k = 8
                    · have n8 : (op.k == 8) = true := by simp [h8]
                      have hBz : Hid (hasB (max z 0) (j : Int) = true → hasB x (j : Int) = true) := fun h => hB.out (.inr (.inr h8)) h
                      clear h8 h10
                      go_wp2_with fail
                      refine (lvBit_any x (j : Int) _ hx0 hx1 (by omega) (by omega)).mono ?_
                      rintro e w7 ⟨rfl, rfl⟩
                      rw [hx]
                      go_wp2_with fail
                      refine (lvBit_any (max y 0) (j : Int) _ hy0 hy1 (by omega) (by omega)).mono ?_
                      rintro e w7 ⟨rfl, rfl⟩
                      rw [hy]
                      cases hz : hasB (max z 0) (j : Int) with
                      | true =>
                        go_wp2_with fail
                        refine (lvBit_any (max z 0) (j : Int) _ hz0 hz1 (by omega) (by omega)).mono ?_
                        rintro e w7 ⟨rfl, rfl⟩
                        rw [hz]
                        go_wp2_with fail
                        go_round
                        case rel => exact ⟨j + 1, by omega, by go_num⟩
                        case measure => simp [intOf]; omega
                      | false =>
                        go_wp2_with fail
                        refine (lvBit_any (max z 0) (j : Int) _ hz0 hz1 (by omega) (by omega)).mono ?_
                        rintro e w7 ⟨rfl, rfl⟩
                        rw [hz]
                        go_wp2_with fail
                        go_round
                        case rel => exact ⟨j + 1, by omega, by go_num⟩
                        case measure => simp [intOf]; omega
                    have n8 : (op.k == 8) = false := by simp [h8]
                    clear h8 h10
                    go_wp2_with fail
                    refine (lvBit_any x (j : Int) _ hx0 hx1 (by omega) (by omega)).mono ?_
                    rintro e w7 ⟨rfl, rfl⟩
                    rw [hx]
                    go_wp2_with fail
                    refine (lvBit_any (max y 0) (j : Int) _ hy0 hy1 (by omega) (by omega)).mono ?_
                    rintro e w7 ⟨rfl, rfl⟩
                    rw [hy]
                    go_wp2_with fail
                    go_round
                    case rel => exact ⟨j + 1, by omega, by go_num⟩
                    case measure => simp [intOf]; omega
                  | false =>
                    by_cases h10 : op.k = 10
                    · have n10 : (op.k == 10) = true := by simp [h10]
                      have hBz : Hid (hasB (max z 0) (j : Int) = true → hasB x (j : Int) = true) := fun h => hB.out (.inr (.inl h10)) h
                      clear h10
                      go_wp2_with fail
                      refine (lvBit_any x (j : Int) _ hx0 hx1 (by omega) (by omega)).mono ?_
                      rintro e w7 ⟨rfl, rfl⟩
                      rw [hx]
                      go_wp2_with fail
                      refine (lvBit_any (max y 0) (j : Int) _ hy0 hy1 (by omega) (by omega)).mono ?_
                      rintro e w7 ⟨rfl, rfl⟩
                      rw [hy]
                      cases hz : hasB (max z 0) (j : Int) with
                      | true =>
                        exact absurd (hBz.out hz) (by rw [hx]; simp)
                      | false =>
                        go_wp2_with fail
                        refine (lvBit_any (max z 0) (j : Int) _ hz0 hz1 (by omega) (by omega)).mono ?_
                        rintro e w7 ⟨rfl, rfl⟩
                        rw [hz]
                        go_wp2_with fail
                        go_round
                        case rel => exact ⟨j + 1, by omega, by go_num⟩
                        case measure => simp [intOf]; omega
                    have n10 : (op.k == 10) = false := by simp [h10]
                    by_cases h8 : op.k = 8
                    · have n8 : (op.k == 8) = true := by simp [h8]
                      have hBz : Hid (hasB (max z 0) (j : Int) = true → hasB x (j : Int) = true) := fun h => hB.out (.inr (.inr h8)) h
                      clear h8 h10
                      go_wp2_with fail
                      refine (lvBit_any x (j : Int) _ hx0 hx1 (by omega) (by omega)).mono ?_
                      rintro e w7 ⟨rfl, rfl⟩
                      rw [hx]
                      go_wp2_with fail
                      refine (lvBit_any (max y 0) (j : Int) _ hy0 hy1 (by omega) (by omega)).mono ?_
                      rintro e w7 ⟨rfl, rfl⟩
                      rw [hy]
                      cases hz : hasB (max z 0) (j : Int) with
                      | true =>
                        exact absurd (hBz.out hz) (by rw [hx]; simp)
                      | false =>
                        go_wp2_with fail
                        refine (lvBit_any (max z 0) (j : Int) _ hz0 hz1 (by omega) (by omega)).mono ?_
                        rintro e w7 ⟨rfl, rfl⟩
                        rw [hz]
                        go_wp2_with fail
                        go_round
                        case rel => exact ⟨j + 1, by omega, by go_num⟩
                        case measure => simp [intOf]; omega
                    have n8 : (op.k == 8) = false := by simp [h8]
                    clear h8 h10
                    go_wp2_with fail
                    refine (lvBit_any x (j : Int) _ hx0 hx1 (by omega) (by omega)).mono ?_
                    rintro e w7 ⟨rfl, rfl⟩
                    rw [hx]
                    go_wp2_with fail
                    refine (lvBit_any (max y 0) (j : Int) _ hy0 hy1 (by omega) (by omega)).mono ?_
                    rintro e w7 ⟨rfl, rfl⟩
                    rw [hy]
                    go_wp2_with fail
                    go_round
                    case rel => exact ⟨j + 1, by omega, by go_num⟩
                    case measure => simp [intOf]; omega
              · skip
                have g5 : ¬ (k : Int) + 1 < (C.length : Int) := by omega
                cases hx : hasB x (j : Int) with
                | true =>
                  by_cases h10 : op.k = 10
                  · have n10 : (op.k == 10) = true := by simp [h10]
                    have hBz : Hid (hasB (max z 0) (j : Int) = true → hasB x (j : Int) = true) := fun h => hB.out (.inr (.inl h10)) h
                    clear h10
                    go_wp2_with fail
                    refine (lvBit_any x (j : Int) _ hx0 hx1 (by omega) (by omega)).mono ?_
                    rintro e w7 ⟨rfl, rfl⟩
                    rw [hx]
                    cases hz : hasB (max z 0) (j : Int) with
                    | true =>
                      go_wp2_with fail
                      refine (lvBit_any (max z 0) (j : Int) _ hz0 hz1 (by omega) (by omega)).mono ?_
                      rintro e w7 ⟨rfl, rfl⟩
                      rw [hz]
                      go_wp2_with fail
                      go_round
                      case rel => exact ⟨j + 1, by omega, by go_num⟩
                      case measure => simp [intOf]; omega
                    | false =>
                      go_wp2_with fail
                      refine (lvBit_any (max z 0) (j : Int) _ hz0 hz1 (by omega) (by omega)).mono ?_
                      rintro e w7 ⟨rfl, rfl⟩
                      rw [hz]
                      go_wp2_with fail
                      go_round
                      case rel => exact ⟨j + 1, by omega, by go_num⟩
                      case measure => simp [intOf]; omega
                  have n10 : (op.k == 10) = false := by simp [h10]
                  by_cases h8 : op.k = 8
                  · have n8 : (op.k == 8) = true := by simp [h8]
                    have hBz : Hid (hasB (max z 0) (j : Int) = true → hasB x (j : Int) = true) := fun h => hB.out (.inr (.inr h8)) h
                    clear h8 h10
                    go_wp2_with fail
                    refine (lvBit_any x (j : Int) _ hx0 hx1 (by omega) (by omega)).mono ?_
                    rintro e w7 ⟨rfl, rfl⟩
                    rw [hx]
                    cases hz : hasB (max z 0) (j : Int) with
                    | true =>
                      go_wp2_with fail
                      refine (lvBit_any (max z 0) (j : Int) _ hz0 hz1 (by omega) (by omega)).mono ?_
                      rintro e w7 ⟨rfl, rfl⟩
                      rw [hz]
                      go_wp2_with fail
                      go_round
                      case rel => exact ⟨j + 1, by omega, by go_num⟩
                      case measure => simp [intOf]; omega
                    | false =>
                      go_wp2_with fail
                      refine (lvBit_any (max z 0) (j : Int) _ hz0 hz1 (by omega) (by omega)).mono ?_
                      rintro e w7 ⟨rfl, rfl⟩
                      rw [hz]
                      go_wp2_with fail
                      go_round
                      case rel => exact ⟨j + 1, by omega, by go_num⟩
                      case measure => simp [intOf]; omega
                  have n8 : (op.k == 8) = false := by simp [h8]
                  clear h8 h10
                  go_wp2_with fail
                  refine (lvBit_any x (j : Int) _ hx0 hx1 (by omega) (by omega)).mono ?_
                  rintro e w7 ⟨rfl, rfl⟩
                  rw [hx]
                  go_wp2_with fail
                  go_round
                  case rel => exact ⟨j + 1, by omega, by go_num⟩
                  case measure => simp [intOf]; omega
                | false =>
                  by_cases h10 : op.k = 10
                  · have n10 : (op.k == 10) = true := by simp [h10]
                    have hBz : Hid (hasB (max z 0) (j : Int) = true → hasB x (j : Int) = true) := fun h => hB.out (.inr (.inl h10)) h
                    clear h10
                    go_wp2_with fail
                    refine (lvBit_any x (j : Int) _ hx0 hx1 (by omega) (by omega)).mono ?_
                    rintro e w7 ⟨rfl, rfl⟩
                    rw [hx]
                    cases hz : hasB (max z 0) (j : Int) with
                    | true =>
                      exact absurd (hBz.out hz) (by rw [hx]; simp)
                    | false =>
                      go_wp2_with fail
                      refine (lvBit_any (max z 0) (j : Int) _ hz0 hz1 (by omega) (by omega)).mono ?_
                      rintro e w7 ⟨rfl, rfl⟩
                      rw [hz]
                      go_wp2_with fail
                      go_round
                      case rel => exact ⟨j + 1, by omega, by go_num⟩
                      case measure => simp [intOf]; omega
                  have n10 : (op.k == 10) = false := by simp [h10]
                  by_cases h8 : op.k = 8
                  · have n8 : (op.k == 8) = true := by simp [h8]
                    have hBz : Hid (hasB (max z 0) (j : Int) = true → hasB x (j : Int) = true) := fun h => hB.out (.inr (.inr h8)) h
                    clear h8 h10
                    go_wp2_with fail
                    refine (lvBit_any x (j : Int) _ hx0 hx1 (by omega) (by omega)).mono ?_
                    rintro e w7 ⟨rfl, rfl⟩
                    rw [hx]
                    cases hz : hasB (max z 0) (j : Int) with
                    | true =>
                      exact absurd (hBz.out hz) (by rw [hx]; simp)
                    | false =>
                      go_wp2_with fail
                      refine (lvBit_any (max z 0) (j : Int) _ hz0 hz1 (by omega) (by omega)).mono ?_
                      rintro e w7 ⟨rfl, rfl⟩
                      rw [hz]
                      go_wp2_with fail
                      go_round
                      case rel => exact ⟨j + 1, by omega, by go_num⟩
                      case measure => simp [intOf]; omega
                  have n8 : (op.k == 8) = false := by simp [h8]
                  clear h8 h10
                  go_wp2_with fail
                  refine (lvBit_any x (j : Int) _ hx0 hx1 (by omega) (by omega)).mono ?_
                  rintro e w7 ⟨rfl, rfl⟩
                  rw [hx]
                  go_wp2_with fail
                  go_round
                  case rel => exact ⟨j + 1, by omega, by go_num⟩
                  case measure => simp [intOf]; omega
            · have e : j = 4 := by omega
              subst e
              go_wp2_with fail
              go_roundw
              case rel => exact ⟨k + 1, by omega, by go_num, hBw⟩
              case measure => simp [intOf]; omega
        · have e : k = C.length := by omega
          subst e
          go_wp2_with fail
          go_ret
          exact ⟨rfl, hB4.trans (hBr.mono (by omega))⟩
  · have g0 : (1048576 : Int) < (len : Int) := by omega
    go_enter Tryz.func8, Tryz.ntmps8
    go_wp2_with fail
    go_ret
    exact ⟨rfl, Below.refl _ _⟩
end FullStep
end Go.Proofs.YtjhpaoadpcnlnaaGreatDoor
