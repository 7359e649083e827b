/-
  For every code of at most 2^20 bytes: of the steps and the place that are drawn, impl.CodeNext answers as the specification does, and, where the steps are ok and the place is one of them, it answers at most two places, by the kind of the step. Longer codes are let by. No condition but that the tables and errors of strconv are as their initialisers lay them.
-/
import Derived.Test.YtjhpaoadpcnlnaaGreatDoorZa19
import Derived.Test.YtjhpaoadpcnlnaaGreatDoorZa23
import Derived.Test.YtjhpaoadpcnlnaaGreatDoorZa24
import Derived.Test.YtjhpaoadpcnlnaaGreatDoorZa25
import Derived.Test.YtjhpaoadpcnlnaaGreatDoorZa26
import Derived.Test.YtjhpaoadpcnlnaaGreatDoorFcFnNext
namespace Go.Proofs.YtjhpaoadpcnlnaaGreatDoor
open Go.ChangeShapes Go.WideShapes Go.ChangeAt Go.RowKit Go.Joins
namespace Next
set_option maxRecDepth 20000 in
set_option maxHeartbeats 8000000 in
theorem walk (a : Option Addr) (len cap : Nat) (w : World) (h : Code0 w a len cap) :
    Calls Tryz.prog 11 #[.slice a len cap] w fun e w' => e = .returned (.bool true) ∧ Below w.heap.size w w' := by
  by_cases hlen : len ≤ 1048576
  · have g0 : ¬ (1048576 : Int) < (len : Int) := by omega
    go_enter Tryz.func11, Tryz.ntmps11
    go_wp2_with fail
    refine (drawNext_any a len cap _ h).mono ?_
    rintro e w1 ⟨C, v, i, rfl, hC17, hi, hO1, hB1⟩
    have hz1 := hB1.size
    obtain ⟨ao, cp, rfl, hC1, _⟩ := hO1.code
    have hl : C.length ≤ 1048576 := by omega
    clear hO1
    go_wp2_with fail
    refine (implCodeNext_any C ao cp i _ hl hC1).mono ?_
    rintro e w2 ⟨v2, rfl, hO2, hb2⟩
    have hz2 := hb2.size
    have hB2 : Below w.heap.size w w2 := hB1.trans (hb2.mono (by omega))
    have hC2 := hC1.below hb2
    have hLl := nkI_len C i
    have hLl' : (nextI C i).length ≤ 1048576 := by omega
    have hI2 := Owns.ints hO2
    clear hO2 hb2 hB1 hC1
    go_wp2_with fail
    refine (specCodeNext_any C ao cp i _ hl (by omega) (by omega) hC2).mono ?_
    rintro e w3 ⟨v3, rfl, hO3, hb3⟩
    have hz3 := hb3.size
    have hB3 : Below w.heap.size w w3 := hB2.trans (hb3.mono (by omega))
    have hC3 := hC2.below hb3
    have hI3 := hI2.below hb3
    clear hb3 hB2 hC2 hI2
    go_wp2_with fail
    refine (lvInts_same w3.heap.size (nextI C i) _ _ _ hLl' (hI3.mono (by omega)) (Owns.ints hO3)).mono ?_
    rintro e w4 ⟨rfl, hb4⟩
    have hz4 := hb4.size
    have hB4 : Below w.heap.size w w4 := hB3.trans (hb4.mono (by omega))
    have hC4 := hC3.below hb4
    have hI4 := hI3.below (hb4.mono (by omega))
    clear hb4 hB3 hC3 hI3 hO3
    go_wp2_with fail
    refine (specCodeOk_any C ao cp _ hl hC4).mono ?_
    rintro e w5 ⟨rfl, hb5⟩
    have hz5 := hb5.size
    have hB5 : Below w.heap.size w w5 := hB4.trans (hb5.mono (by omega))
    have hC5 := hC4.below hb5
    have hI5 := hI4.below (hb5.mono (by omega))
    clear hb5 hB4 hC4 hI4
    cases hcb : codeB C with
    | false =>
      go_wp2_with fail
      refine (specCodeNext_any C ao cp i _ hl (by omega) (by omega) hC5).mono ?_
      rintro e w6 ⟨v6, rfl, hO6, hb6⟩
      have hz6 := hb6.size
      have hI6 := hI5.below (hb6.mono (by omega))
      go_wp2_with fail
      refine (lvInts_same w6.heap.size (nextI C i) _ _ _ hLl' (hI6.mono (by omega)) (Owns.ints hO6)).mono ?_
      rintro e w7 ⟨rfl, hb7⟩
      go_wp2_with fail
      go_ret
      exact ⟨rfl, hB5.trans ((hb6.mono (by omega)).trans (hb7.mono (by omega)))⟩
    | true =>
    by_cases hi0 : i < 0
    · skip
      go_wp2_with fail
      refine (specCodeNext_any C ao cp i _ hl (by omega) (by omega) hC5).mono ?_
      rintro e w6 ⟨v6, rfl, hO6, hb6⟩
      have hz6 := hb6.size
      have hI6 := hI5.below (hb6.mono (by omega))
      go_wp2_with fail
      refine (lvInts_same w6.heap.size (nextI C i) _ _ _ hLl' (hI6.mono (by omega)) (Owns.ints hO6)).mono ?_
      rintro e w7 ⟨rfl, hb7⟩
      go_wp2_with fail
      go_ret
      exact ⟨rfl, hB5.trans ((hb6.mono (by omega)).trans (hb7.mono (by omega)))⟩
    by_cases hi1 : (C.length : Int) ≤ i
    · skip
      go_wp2_with fail
      refine (specCodeNext_any C ao cp i _ hl (by omega) (by omega) hC5).mono ?_
      rintro e w6 ⟨v6, rfl, hO6, hb6⟩
      have hz6 := hb6.size
      have hI6 := hI5.below (hb6.mono (by omega))
      go_wp2_with fail
      refine (lvInts_same w6.heap.size (nextI C i) _ _ _ hLl' (hI6.mono (by omega)) (Owns.ints hO6)).mono ?_
      rintro e w7 ⟨rfl, hb7⟩
      go_wp2_with fail
      go_ret
      exact ⟨rfl, hB5.trans ((hb6.mono (by omega)).trans (hb7.mono (by omega)))⟩
    obtain ⟨k, rfl⟩ : ∃ k : Nat, i = (k : Int) := ⟨i.toNat, by omega⟩
    have hk : k < C.length := by omega
    rcases hC5 with hC0 | ⟨b, o, rfl, hbl, hs⟩
    · rw [hC0] at hk; simp at hk
    have st := hs k hk
    have oi := opIs_of ((codeB_well hcb).2.2 k hk)
    have hwl := (codeB_well hcb).1.2 k hk
    have hNx : Hid (nextI C (k : Int) = toI (nextL C[k] k C.length)) := nextI_yes hcb hk
    replace hcb : Hid (codeB C = true) := hcb
    clear hs
    generalize C[k] = op at *
    obtain ⟨s0, s1, s2, s3, s4, s5⟩ := st
    have g1 : (k : Int) < (C.length : Int) := by omega
    have htt : ((op.t.toNat : Nat) : Int) = op.t := by omega
    obtain ⟨hw1, hw2, _, _⟩ := hwl
    have hzz : w2.heap.size ≤ w5.heap.size := by omega
    have hgen : Hid (∀ (W : World) (L : List Int), Below w5.heap.size w5 W → Ints w2.heap.size w5 v2 L → Ints (w5.heap.size + 1 + 1) W v2 L) := fun W L hb hh => (hh.below (hb.mono (by omega))).mono (by omega)
    by_cases e14 : op.k = 14
    · have hL : nextI C (k : Int) = [] := by rw [hNx.out, nk_end e14]; rfl
      rw [hL] at hI5
      obtain ⟨ao2, cp2, rfl, _⟩ := hI5
      rw [e14] at s0
      clear hL e14
      go_wp2_with fail
      go_ret
      exact ⟨rfl, hB5.alloc (by omega) _⟩
    have n14 : (op.k == 14) = false := by simp [e14]
    by_cases e9 : op.k = 9
    · have hL : nextI C (k : Int) = [op.t] := by rw [hNx.out, nk_go e9]; simp [toI, htt]
      rw [hL] at hI5
      have y9 : (op.k == 9) = true := by simp [e9]
      clear hL htt e9
      go_wp2_with fail
      refine (lvInts_same (w5.heap.size + 1 + 1) [op.t] _ _ _ (by simp) (hgen.out _ _ (((Below.refl _ _).alloc (Nat.le_refl _) _).alloc (by simp) _) hI5) (ints_lit1' _ _ _ (by simp))).mono ?_
      rintro e w7 ⟨rfl, hb7⟩
      go_wp2_with fail
      go_ret
      exact ⟨rfl, hB5.trans (((((Below.refl w5.heap.size w5).alloc (Nat.le_refl _) _).alloc (by simp) _).trans (hb7.mono (by simp; omega))).mono (by omega))⟩
    have n9 : (op.k == 9) = false := by simp [e9]
    by_cases e5 : op.k = 5 ∨ op.k = 8 ∨ op.k = 10
    · obtain ⟨q1, q2, q3⟩ := nk_to (i := k) (n := C.length) e5
      by_cases hlast : k + 1 < C.length
      · have g2 : ((k : Int) + 1 == (C.length : Int)) = false := by simp; omega
        by_cases hto : op.t.toNat = k + 1
        · have g3 : (op.t == (k : Int) + 1) = true := by simp; omega
          have hL : nextI C (k : Int) = [op.t] := by rw [hNx.out, q2 hlast hto]; simp [toI, htt]
          rw [hL] at hI5
          clear hL htt q1 q2 q3 hto
          rcases e5 with e5 | e5 | e5
          · have y5 : (op.k == 5) = true := by simp [e5]
            have y8 : (op.k == 8) = false := by simp [e5]
            have y10 : (op.k == 10) = false := by simp [e5]
            clear e5
            go_wp2_with fail
            refine (lvInts_same (w5.heap.size + 1 + 1) [op.t] _ _ _ (by simp) (hgen.out _ _ (((Below.refl _ _).alloc (Nat.le_refl _) _).alloc (by simp) _) hI5) (ints_lit1' _ _ _ (by simp))).mono ?_
            rintro e w7 ⟨rfl, hb7⟩
            go_wp2_with fail
            go_ret
            exact ⟨rfl, hB5.trans (((((Below.refl w5.heap.size w5).alloc (Nat.le_refl _) _).alloc (by simp) _).trans (hb7.mono (by simp; omega))).mono (by omega))⟩
          · have y5 : (op.k == 5) = false := by simp [e5]
            have y8 : (op.k == 8) = true := by simp [e5]
            have y10 : (op.k == 10) = false := by simp [e5]
            clear e5
            go_wp2_with fail
            refine (lvInts_same (w5.heap.size + 1 + 1) [op.t] _ _ _ (by simp) (hgen.out _ _ (((Below.refl _ _).alloc (Nat.le_refl _) _).alloc (by simp) _) hI5) (ints_lit1' _ _ _ (by simp))).mono ?_
            rintro e w7 ⟨rfl, hb7⟩
            go_wp2_with fail
            go_ret
            exact ⟨rfl, hB5.trans (((((Below.refl w5.heap.size w5).alloc (Nat.le_refl _) _).alloc (by simp) _).trans (hb7.mono (by simp; omega))).mono (by omega))⟩
          · have y5 : (op.k == 5) = false := by simp [e5]
            have y8 : (op.k == 8) = false := by simp [e5]
            have y10 : (op.k == 10) = true := by simp [e5]
            clear e5
            go_wp2_with fail
            refine (lvInts_same (w5.heap.size + 1 + 1) [op.t] _ _ _ (by simp) (hgen.out _ _ (((Below.refl _ _).alloc (Nat.le_refl _) _).alloc (by simp) _) hI5) (ints_lit1' _ _ _ (by simp))).mono ?_
            rintro e w7 ⟨rfl, hb7⟩
            go_wp2_with fail
            go_ret
            exact ⟨rfl, hB5.trans (((((Below.refl w5.heap.size w5).alloc (Nat.le_refl _) _).alloc (by simp) _).trans (hb7.mono (by simp; omega))).mono (by omega))⟩
        · have g3 : (op.t == (k : Int) + 1) = false := by simp; omega
          have hL : nextI C (k : Int) = [(k : Int) + 1, op.t] := by rw [hNx.out, q1 hlast hto]; simp [toI, htt]
          rw [hL] at hI5
          clear hL htt q1 q2 q3 hto
          rcases e5 with e5 | e5 | e5
          · have y5 : (op.k == 5) = true := by simp [e5]
            have y8 : (op.k == 8) = false := by simp [e5]
            have y10 : (op.k == 10) = false := by simp [e5]
            clear e5
            go_wp2_with fail
            refine (lvInts_same (w5.heap.size + 1 + 1) [((k : Int) + 1), op.t] _ _ _ (by simp) (hgen.out _ _ (((Below.refl _ _).alloc (Nat.le_refl _) _).alloc (by simp) _) hI5) (ints_lit2' _ _ _ _ (by simp))).mono ?_
            rintro e w7 ⟨rfl, hb7⟩
            go_wp2_with fail
            go_ret
            exact ⟨rfl, hB5.trans (((((Below.refl w5.heap.size w5).alloc (Nat.le_refl _) _).alloc (by simp) _).trans (hb7.mono (by simp; omega))).mono (by omega))⟩
          · have y5 : (op.k == 5) = false := by simp [e5]
            have y8 : (op.k == 8) = true := by simp [e5]
            have y10 : (op.k == 10) = false := by simp [e5]
            clear e5
            go_wp2_with fail
            refine (lvInts_same (w5.heap.size + 1 + 1) [((k : Int) + 1), op.t] _ _ _ (by simp) (hgen.out _ _ (((Below.refl _ _).alloc (Nat.le_refl _) _).alloc (by simp) _) hI5) (ints_lit2' _ _ _ _ (by simp))).mono ?_
            rintro e w7 ⟨rfl, hb7⟩
            go_wp2_with fail
            go_ret
            exact ⟨rfl, hB5.trans (((((Below.refl w5.heap.size w5).alloc (Nat.le_refl _) _).alloc (by simp) _).trans (hb7.mono (by simp; omega))).mono (by omega))⟩
          · have y5 : (op.k == 5) = false := by simp [e5]
            have y8 : (op.k == 8) = false := by simp [e5]
            have y10 : (op.k == 10) = true := by simp [e5]
            clear e5
            go_wp2_with fail
            refine (lvInts_same (w5.heap.size + 1 + 1) [((k : Int) + 1), op.t] _ _ _ (by simp) (hgen.out _ _ (((Below.refl _ _).alloc (Nat.le_refl _) _).alloc (by simp) _) hI5) (ints_lit2' _ _ _ _ (by simp))).mono ?_
            rintro e w7 ⟨rfl, hb7⟩
            go_wp2_with fail
            go_ret
            exact ⟨rfl, hB5.trans (((((Below.refl w5.heap.size w5).alloc (Nat.le_refl _) _).alloc (by simp) _).trans (hb7.mono (by simp; omega))).mono (by omega))⟩
      · have g2 : ((k : Int) + 1 == (C.length : Int)) = true := by simp; omega
        have hL : nextI C (k : Int) = [op.t] := by rw [hNx.out, q3 hlast]; simp [toI, htt]
        rw [hL] at hI5
        clear hL htt q1 q2 q3
        rcases e5 with e5 | e5 | e5
        · have y5 : (op.k == 5) = true := by simp [e5]
          have y8 : (op.k == 8) = false := by simp [e5]
          have y10 : (op.k == 10) = false := by simp [e5]
          clear e5
          go_wp2_with fail
          refine (lvInts_same (w5.heap.size + 1 + 1) [op.t] _ _ _ (by simp) (hgen.out _ _ (((Below.refl _ _).alloc (Nat.le_refl _) _).alloc (by simp) _) hI5) (ints_lit1' _ _ _ (by simp))).mono ?_
          rintro e w7 ⟨rfl, hb7⟩
          go_wp2_with fail
          go_ret
          exact ⟨rfl, hB5.trans (((((Below.refl w5.heap.size w5).alloc (Nat.le_refl _) _).alloc (by simp) _).trans (hb7.mono (by simp; omega))).mono (by omega))⟩
        · have y5 : (op.k == 5) = false := by simp [e5]
          have y8 : (op.k == 8) = true := by simp [e5]
          have y10 : (op.k == 10) = false := by simp [e5]
          clear e5
          go_wp2_with fail
          refine (lvInts_same (w5.heap.size + 1 + 1) [op.t] _ _ _ (by simp) (hgen.out _ _ (((Below.refl _ _).alloc (Nat.le_refl _) _).alloc (by simp) _) hI5) (ints_lit1' _ _ _ (by simp))).mono ?_
          rintro e w7 ⟨rfl, hb7⟩
          go_wp2_with fail
          go_ret
          exact ⟨rfl, hB5.trans (((((Below.refl w5.heap.size w5).alloc (Nat.le_refl _) _).alloc (by simp) _).trans (hb7.mono (by simp; omega))).mono (by omega))⟩
        · have y5 : (op.k == 5) = false := by simp [e5]
          have y8 : (op.k == 8) = false := by simp [e5]
          have y10 : (op.k == 10) = true := by simp [e5]
          clear e5
          go_wp2_with fail
          refine (lvInts_same (w5.heap.size + 1 + 1) [op.t] _ _ _ (by simp) (hgen.out _ _ (((Below.refl _ _).alloc (Nat.le_refl _) _).alloc (by simp) _) hI5) (ints_lit1' _ _ _ (by simp))).mono ?_
          rintro e w7 ⟨rfl, hb7⟩
          go_wp2_with fail
          go_ret
          exact ⟨rfl, hB5.trans (((((Below.refl w5.heap.size w5).alloc (Nat.le_refl _) _).alloc (by simp) _).trans (hb7.mono (by simp; omega))).mono (by omega))⟩
    have n5 : (op.k == 5) = false := by simp; omega
    have n8 : (op.k == 8) = false := by simp; omega
    have n10 : (op.k == 10) = false := by simp; omega
    obtain ⟨q1, q2⟩ := nk_other (o := op) (i := k) (n := C.length) ⟨e14, e9, by omega, by omega, by omega⟩
    by_cases hlast : k + 1 < C.length
    · have g2 : ((k : Int) + 1 == (C.length : Int)) = false := by simp; omega
      have hL : nextI C (k : Int) = [(k : Int) + 1] := by rw [hNx.out, q1 hlast]; simp [toI]
      rw [hL] at hI5
      clear hL htt q1 q2 e14 e9 e5
      go_wp2_with fail
      refine (lvInts_same (w5.heap.size + 1 + 1) [((k : Int) + 1)] _ _ _ (by simp) (hgen.out _ _ (((Below.refl _ _).alloc (Nat.le_refl _) _).alloc (by simp) _) hI5) (ints_lit1' _ _ _ (by simp))).mono ?_
      rintro e w7 ⟨rfl, hb7⟩
      go_wp2_with fail
      go_ret
      exact ⟨rfl, hB5.trans (((((Below.refl w5.heap.size w5).alloc (Nat.le_refl _) _).alloc (by simp) _).trans (hb7.mono (by simp; omega))).mono (by omega))⟩
    · have g2 : ((k : Int) + 1 == (C.length : Int)) = true := by simp; omega
      have hL : nextI C (k : Int) = [] := by rw [hNx.out, q2 hlast]; rfl
      rw [hL] at hI5
      obtain ⟨ao2, cp2, rfl, _⟩ := hI5
      clear hL htt q1 q2 e14 e9 e5
      go_wp2_with fail
      go_ret
      exact ⟨rfl, hB5.alloc (by omega) _⟩
  · have g0 : (1048576 : Int) < (len : Int) := by omega
    go_enter Tryz.func11, Tryz.ntmps11
    go_wp2_with fail
    go_ret
    exact ⟨rfl, Below.refl _ _⟩

set_option maxRecDepth 20000 in
theorem contract (H : Type) (enc : TypeId × Value → H) (W : World) (base : Nat) (args : Array Value) (ds gs : List (DataW H)) (before : List MemPlace)
    (hval : ∀ (j : Nat) t v, Tryz.f11.params[j]? = some t → args[j]? = some v → Value.okWide Tryz.prog W .any base t v)
    (hW : DataW.Whole enc Tryz.prog Tryz.f11.params.toList Rows.fnNextSpec.vars false W args.toList ds gs before) (_hL : laidMetH Tryz.prog Rows.fnNextRow.laid W) :
    Calls Tryz.prog 11 args W fun e W' => ∃ v, e = .returned v ∧ Rows.fnNextSpec.post enc Tryz.prog Tryz.f11 false true false false W args v W' := by
  have hW' := hW
  obtain ⟨p, q, hA0, hV, rfl, hfz, hnd⟩ := hW
  have hA : DataW.TrodAll enc Tryz.prog W 0 (fun _ => true) true Tryz.f11.params.toList args.toList ds p := hA0
  rw [Tryz.params11] at hA hval
  obtain ⟨v0, vs0, d0, ds0, p0, q0, hargs, rfl, rfl, h0, r0⟩ := trodAll_cons hA
  obtain ⟨rfl, rfl, rfl⟩ := trodAll_nil r0
  obtain rfl : args = #[v0] := by cases args; simp_all
  obtain ⟨rfl, rfl⟩ := trodVars_none hV
  obtain ⟨a0, len0, cap0, rfl⟩ := okWide_slice Tryz.underlying22 (hval 0 22 v0 rfl rfl)
  have k0 := h0
  have lt0 : ∀ x ∈ p0, x.block < W.heap.size := by obtain ⟨m, hm⟩ := k0; exact DataW.trod_lt m _ _ _ hm
  have w0 : Code0 W a0 len0 cap0 := by
    obtain ⟨fuel, hf⟩ := h0
    rcases open_ints Tryz.underlying22 Tryz.underlying5 (by kernel_rfl) hf with ⟨hcs, _⟩ | ⟨x, l, c, zs, hcs, _, hl, hm, hz, _, hcell, hwz⟩
    · simp [Value.cells] at hcs
      obtain ⟨rfl, rfl, rfl⟩ := hcs
      exact code_of_row (zs := []) (.inl ⟨rfl, rfl, rfl, rfl⟩)
    · simp [Value.cells] at hcs
      obtain ⟨rfl, rfl, rfl⟩ := hcs
      exact code_of_row (zs := zs) (.inr ⟨_, rfl, hl, hm, by simpa using hz, hcell, hwz⟩)
  clear hA0
  refine (walk a0 len0 cap0 W w0).mono fun e W' ⟨he, bel⟩ => ?_
  subst he
  exact ⟨_, rfl, _, _, _, [], _, [], hW', trodAll_mk1 (shut_bool Tryz.underlying4 _), (trodAll_cons_mk (Below.trod laidOut (by kernel_rfl) (of_decide_eq_true (by kernel_rfl)) k0 bel lt0) trodAll_mk0), rfl, bel.frame _, fun h => by cases h⟩
theorem laid_met (os : Os) : laidMet Tryz.prog Rows.fnNextRow.laid ((putAll (World.settled Tryz.prog os).heap.size (World.holding Tryz.prog os ⟨errBlocks, #[], []⟩)).forCall (fun _ _ => 0) ⟨#[], #[.slice none 0 0], []⟩).memory :=
  laidMet_of_run' 10 (by kernel_rfl) (by kernel_rfl)
theorem reads (os : Os) {H : Type} (enc : TypeId × Value → H) : ∃ places, DataW.whole enc Tryz.prog ((putAll (World.settled Tryz.prog os).heap.size (World.holding Tryz.prog os ⟨errBlocks, #[], []⟩)).forCall (fun _ _ => 0) ⟨#[], #[.slice none 0 0], []⟩).memory Tryz.f11.params.toList Rows.fnNextSpec.vars false #[.slice none 0 0].toList 8 = some ([.nil], [], places) :=
  ⟨[], by kernel_rfl⟩
set_option maxRecDepth 100000 in
theorem lifted (os : Os) (started : os.Started) (H : Type) (enc : TypeId × Value → H) (F : Stop.Interp) :
    ReturnsInHanded {} Tryz.checked os 11 .any ((OpenSpec.ofChange Rows.fnNextSpec).preRow enc Tryz.prog Tryz.f11 Rows.fnNextRow.domain false Rows.fnNextRow.laid) (((OpenSpec.ofChange Rows.fnNextSpec).at F).post enc Tryz.prog Tryz.f11 false true false false) := by
  obtain ⟨places, hx⟩ := reads os enc
  refine returnsInHanded_of_row (C := Tryz.checked) (s := OpenSpec.ofChange Rows.fnNextSpec) own started (by kernel_rfl) Tryz.func11
    (witness_row_atRef (enc := enc) (C := Tryz.checked) false (putAll (World.settled Tryz.prog os).heap.size (World.holding Tryz.prog os ⟨errBlocks, #[], []⟩)) #[.slice none 0 0] rfl (by kernel_rfl) (by kernel_rfl) (by kernel_rfl)
      (OpenSpec.preRow_of_cond 8 hx (by kernel_rfl) (fun k hk => by cases hk) (by kernel_rfl) (laid_met os))) ?_
  intro W base args ds gs before hval hW _ _ _ hL _ _
  exact contract H enc W base args ds gs before hval hW hL
set_option maxRecDepth 100000 in
theorem said : Rows.FnNextSaid :=
  OpenClaim.holds_of_cond 11 Tryz.f11 rfl rfl rfl rfl rfl rfl rfl ⟨rfl, rfl, rfl, rfl, rfl⟩ rfl rfl rfl rfl rfl (by kernel_rfl) Tryz.func11 FcFnNext.closed
    (of_decide_eq_true (by kernel_rfl)) (by unfold Func.isWrapper; first | (rw [if_pos (by decide +kernel)]; kernel_rfl) | (rw [if_neg (by decide +kernel)]; exact ⟨rfl, rfl⟩))
    (fun os started H enc _ F => by rw [OpenClaim.pre_eq_preRow]; exact lifted os started H enc F)
theorem plain (f : FuncId) (fn : Func) (hf : Tryz.pinned.checked.prog.funcNamed Rows.fnNextRow.func = some f) (hfn : Tryz.pinned.checked.prog.funcs[f]? = some fn) :
    true = Tryz.pinned.checked.prog.looks [] ∧ ∀ (j : Nat) t, fn.params[j]? = some t → Tryz.pinned.checked.prog.wantsStandIn t = false := by
  obtain rfl : f = 11 := Option.some.inj ((show Tryz.prog.funcNamed Rows.fnNextRow.func = some 11 by kernel_rfl).symm.trans hf) |>.symm
  obtain rfl : fn = Tryz.f11 := (Option.some.inj (Tryz.func11.symm.trans hfn)).symm
  refine ⟨by kernel_rfl, fun j t ht => ?_⟩
  rw [Tryz.params11] at ht
  obtain rfl : t = 22 := by simpa using Array.mem_of_getElem? ht
  exact (show Tryz.prog.wantsStandIn 22 = false by kernel_rfl)
theorem card : Rows.FnNextCardSaid :=
  Claim7.holds_tied_plain_at .later [] _ _ _ _ said (fun _ h => by cases h) (by kernel_rfl) (fun _ h => by cases h) fnNext_row_tie rfl ⟨rfl, rfl⟩ (by kernel_rfl) rfl plain (by kernel_rfl)
end Next

/-- the given statement -/
theorem next_holds : Rows.FnNextCardSaid := Next.card
#print axioms next_holds
end Go.Proofs.YtjhpaoadpcnlnaaGreatDoor
