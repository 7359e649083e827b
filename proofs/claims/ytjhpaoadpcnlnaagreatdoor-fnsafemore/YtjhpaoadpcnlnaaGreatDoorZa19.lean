/-
  Drawn steps that are safe, over this translation: some ok steps in a row of their own; nothing that was there turns but the reader.
  Drawn steps, seldom spoilt, over this translation: some steps in a row of their own; nothing that was there turns but the reader.
  What the drawing functions of steps answer over this translation: some steps in a row of their own; nothing that was there turns.
-/
import Derived.Test.YtjhpaoadpcnlnaaGreatDoorZa13
import Derived.Test.YtjhpaoadpcnlnaaGreatDoorZa14
import Derived.Test.YtjhpaoadpcnlnaaGreatDoorZa18
import Derived.Deep.LoopGhost
import Derived.Test.YtjhpaoadpcnlnaaGreatDoorZa11
namespace Go.Proofs.YtjhpaoadpcnlnaaGreatDoor
open Go.ChangeShapes Go.WideShapes Go.ChangeAt Go.RowKit Go.Joins
attribute [local go_sem ↓] Go.wp_at_zero Go.wp_at_succ
theorem safeOf_ok {C : List OpV} (h : SafeOf C true) : codeB C = true := by
  rcases h with ⟨h, _⟩ | ⟨_, h⟩
  · exact h
  · cases h
theorem specCodeSafe_len (C : List OpV) (ao : Option Addr) (n cap : Nat) (w : World) (hn : C.length = n) (hl : C.length ≤ 1048576) (h : CodeAt w ao C) :
    Calls Tryz.prog 44 #[.slice ao n cap] w fun e w' => ∃ b, e = .returned (.bool b) ∧ SafeOf C b ∧ Below w.heap.size w w' := by
  subst hn; exact specCodeSafe_any C ao cap w hl h
set_option maxRecDepth 20000 in
set_option maxHeartbeats 8000000 in
theorem safe_any (R : Nat) (p : Int) (w : World) (h : Rd R p w) (hp : p ≤ 500000) :
    Calls Tryz.prog 103 #[.pointer (some ⟨R, 0, none⟩)] w fun e w' => ∃ (C : List OpV) (v : Value) (p' : Int), e = .returned v ∧ codeB C = true ∧ OwnsO w' w.heap.size v C ∧ But R w w' ∧ (p ≤ p' ∧ p' ≤ p + 1100) ∧ Rd R p' w' := by
  have hlt' := h.lt
  have hp0 := h.p0
  obtain ⟨inf, i1, i2, i3, i4⟩ := infoO
  go_enter Tryz.func103, Tryz.ntmps103
  go_wp2_with fail
  go_loopw [3] (fun i wr => ∃ (k : Nat) (q : Int), k ≤ 3 ∧ i = .int .i64 k ∧ But R w wr ∧ (p ≤ q ∧ q ≤ p + 300 * (k : Int)) ∧ Rd R q wr) (fun i _ => 3 - (intOf i).toNat)
  case atStart => exact ⟨0, p, by omega, rfl, But.refl _ _, ⟨by omega, by omega⟩, h⟩
  case round =>
    obtain ⟨k, q, hk, rfl, hB, hq, hR⟩ := hrel
    have hzr := hB.size
    by_cases hlt : k < 3
    · have g1 : (k : Int) < 3 := by omega
      go_wp2_with fail
      refine (random_any R q _ hR (by omega)).mono ?_
      rintro e w1 ⟨C, v, q1, rfl, hC1, hO1, hb1, hq1, hR1⟩
      have hz1 := hb1.size
      have hB1 : But R w w1 := hB.trans hb1
      obtain ⟨ao, cap, rfl, hC, _⟩ := hO1.code
      clear hb1 hB hR
      go_wp2_with fail
      refine (specCodeSafe_any C ao cap _ (by omega) hC).mono ?_
      rintro e w2 ⟨b, rfl, hS, hb2⟩
      have hB2 : But R w w2 := hB1.trans (But.of_below hb2)
      have hR2 := hR1.below hb2
      have hO2 := OwnsO.below hO1 hb2
      cases b with
      | true =>
        have hcb : Hid (codeB C = true) := safeOf_ok hS
        clear hS hO1 hR1 hB1
        go_wp2_with fail
        go_ret
        exact ⟨C, _, q1, rfl, hcb.out, OwnsO.mono hO2 hzr, hB2, ⟨by omega, by omega⟩, hR2⟩
      | false =>
        clear hS hO1 hR1 hB1 hO2
        go_wp2_with fail
        go_roundw
        case rel => exact ⟨k + 1, q1, by omega, by go_num, hB2, ⟨by omega, by omega⟩, hR2⟩
        case measure => simp [intOf]; omega
    · have e : k = 3 := by omega
      subst e
      go_wp2_with fail
      refine (texts_any _).mono ?_
      rintro e w1 ⟨rfl, rfl⟩
      go_wp2_with fail
      have hR1 : Rd R q (wr.alloc (.cells textsA 9)) := hR.below ((Below.refl _ _).alloc (Nat.le_refl _) _)
      have hRl := hR.lt
      refine (of_any R wr.heap.size 5 q textsL _ hR1 (by omega) (by omega) (by omega) (by simp) (by omega) (fun i hi => by
        have e := heap_new (w := wr) (o := .cells textsA 9) (n := wr.heap.size) rfl
        rw [cell_of_row _ _ i _ _ _ e, textsA_at i hi])).mono ?_
      rintro e w2 ⟨i, hi, rfl, hb2, hR2⟩
      have hz2 := hb2.size
      simp at hz2
      have hB2 : But R w w2 := (hB.alloc _).trans hb2
      obtain ⟨D, hD, hDt, hD1, hD2⟩ := texts_code i hi
      have hDl := texts_len i hi
      clear hb2 hR1 hR hB
      generalize textsL.getD i [] = tx at *
      replace hDt : Hid (tx = linesOf D) := hDt
      go_wp2_with fail
      refine (specCodeRead_any tx _ (by omega)).mono ?_
      rintro e w3 ⟨C, v, ok, rfl, hRC, hO3, hb3⟩
      obtain ⟨rfl, rfl⟩ := hRC.of_code hD hDt.out
      have hz3 := hb3.size
      have hB3 : But R w w3 := hB2.trans (But.of_below hb3)
      have hR3 := hR2.below hb3
      have hO3' : OwnsO w3 w.heap.size v C := OwnsO.mono hO3 (by omega)
      replace hD : Hid (codeB C = true) := hD
      clear hO3 hb3 hR2 hB2 hRC hDt hDl
      go_wp2_with fail
      go_loopw [5, 7] (fun v i wr => ∃ (k : Nat) (C : List OpV) (q2 : Int), k ≤ 4 ∧ i = .int .i64 k ∧ Hid (codeB C = true) ∧ OwnsO wr w.heap.size v C ∧ But R w wr ∧ (p ≤ q2 ∧ q2 ≤ p + 902 + 30 * (k : Int)) ∧ Rd R q2 wr) (fun _ i _ => 4 - (intOf i).toNat)
      case atStart => exact ⟨0, C, q + 1, by omega, rfl, hD, hO3', hB3, ⟨by omega, by omega⟩, hR3⟩
      clear hD hO3' hB3 hR3 hz3 hz2 hzr
      clear C hD1 hD2
      obtain ⟨k, C, q2, hk, rfl, hD, hO, hB, hq2, hR⟩ := hrel
      have hzr := hB.size
      have hC1 : 1 ≤ C.length := (codeB_well hD.out).1.1
      have hC2 : C.length ≤ 16 := (codeB_well hD.out).2.1
      by_cases hlt : k < 4
      · have g1 : (k : Int) < 4 := by omega
        obtain ⟨g, cap, rfl, hg1, hg2⟩ := hO.blk hC1
        have hrd := OwnsO.read (World.ownsRow.alloc hO (.cells #[] 26))
        go_wp2_with (refine wpList_append_own _ rfl (.tmp 29) (.tmp 30) 34 rfl wr.heap.size 26 inf (.agg #[.int .i64 0, .int .i64 0, .int .i64 0, .int .i64 0, .int .i64 0, .int .i64 0]) 6 48 Tryz.underlying34 i1 i2 i3 i4 rfl (by decide) _ 0 [] rfl (ownsO_empty wr wr.heap.size (Nat.le_refl _)) ⟨g, 0, none⟩ C.length cap (cellsO C) rfl (cellsO_len C) hrd (cellsO_one C) (by unfold maxLen; omega) (by omega) (by simp <;> omega) ?_; intro x0 w4 ho0 hg0 _; have ho1 : OwnsO w4 wr.heap.size x0 C := (by simpa [OwnsO] using ho0); obtain ⟨g2, cap2, rfl, hg3, hg4⟩ := ho1.blk hC1)
        have hB4 : But R w w4 := (hB.alloc _).grownNew hg0 (fun k e => by cases e; omega)
        have hR4 : Rd R q2 w4 := (hR.below ((Below.refl _ _).alloc (Nat.le_refl _) _)).grown hg0 (fun k e => by cases e; show R < wr.heap.size; omega)
        have hO4 : OwnsO w4 w.heap.size (.slice (some ⟨g, 0, none⟩) C.length cap) C := OwnsO.keep (World.ownsRow.alloc hO (.cells #[] 26)) hg0 (fun k e => by cases e; intro e2; have : g = wr.heap.size := Option.some.inj e2; omega)
        clear ho0 hg0 hrd hO hB hR
        have hC3 : (1 : Int) ≤ (C.length : Int) := by omega
        refine (pick_any R q2 (C.length : Int) _ hR4 (by omega) (by omega) (by omega)).mono ?_
        rintro e w5 ⟨x, rfl, hx, hb5, hR5⟩
        obtain ⟨y, rfl⟩ : ∃ y : Nat, x = (y : Int) := ⟨x.toNat, by omega⟩
        have hy : y < C.length := by omega
        have hy' : (y : Int) < (C.length : Int) := by omega
        have hz5 := hb5.size
        have hB5 : But R w w5 := hB4.trans hb5
        have hO5 := OwnsO.but hO4 hb5 hlt'
        have ho5 := OwnsO.but ho1 hb5 (by omega)
        clear hb5 hB4 hR4 hO4 ho1
        go_wp2_with fail
        refine (op_any R (q2 + 1) (C.length : Int) _ hR5 (by omega) (by omega) (by omega)).mono ?_
        rintro e w6 ⟨k', r, s, t, a, b, q3, rfl, hb6, hq3, hR6⟩
        have hz6 := hb6.size
        have hB6 : But R w w6 := hB5.trans hb6
        have hO6 := OwnsO.but hO5 hb6 hlt'
        have ho6 := OwnsO.but ho5 hb6 (by omega)
        obtain ⟨⟨s0, s1, s2, s3, s4, s5⟩, fz⟩ := ho6.stepAt y hy
        have f0 := fz (y * 6)
        have f1 := fz (y * 6 + 1)
        have f2 := fz (y * 6 + 2)
        have f3 := fz (y * 6 + 3)
        have f4 := fz (y * 6 + 4)
        have f5 := fz (y * 6 + 5)
        have hX := ho6.put y hy ⟨k', r, s, t, a, b⟩
        have hbt := but6 w6 g2 (y * 6) (.int .i64 k') (.int .i64 r) (.int .i64 s) (.int .i64 t) (.int .i64 a) (.int .i64 b)
        have hB7 := hB6.grownNew hbt.grows (fun k e => by cases e; omega)
        have hR7 := hR6.grown hbt.grows (fun k e => by cases e; omega)
        have hO7 := OwnsO.aside hO6 hbt (by intro e2; have : g = g2 := Option.some.inj e2; omega)
        replace hX : Hid (OwnsO ((((((w6.setCell ⟨g2, y * 6, none⟩ (.int .i64 k')).setCell ⟨g2, y * 6 + 1, none⟩ (.int .i64 r)).setCell ⟨g2, y * 6 + 2, none⟩ (.int .i64 s)).setCell ⟨g2, y * 6 + 3, none⟩ (.int .i64 t)).setCell ⟨g2, y * 6 + 4, none⟩ (.int .i64 a)).setCell ⟨g2, y * 6 + 5, none⟩ (.int .i64 b)) wr.heap.size (.slice (some ⟨g2, 0, none⟩) C.length cap2) (C.set y ⟨k', r, s, t, a, b⟩)) := hX
        clear fz hb6 hB5 hR5 hO5 ho5 hB6 hR6 hO6 ho6 hbt
        generalize C[y] = oy at *
        go_wp2_with fail
        have hXl : (C.set y ⟨k', r, s, t, a, b⟩).length = C.length := List.length_set
        obtain ⟨ao, cp, hv, hcode, _⟩ := OwnsO.code hX.out
        rw [hXl] at hv
        injection hv with hv1 hv2 hv3
        subst hv1
        clear hv2 hv3
        refine (specCodeSafe_len (C.set y ⟨k', r, s, t, a, b⟩) _ C.length cap2 _ hXl (by omega) hcode).mono ?_
        rintro e w7 ⟨sb, rfl, hS, hb7⟩
        have hB8 := hB7.trans (But.of_below hb7)
        have hR8 := hR7.below hb7
        have hO8 := OwnsO.below hO7 hb7
        have hX8 := OwnsO.below hX.out hb7
        clear hcode hXl hX hB7 hR7 hO7 hb7 s0 s1 s2 s3 s4 s5 f0 f1 f2 f3 f4 f5
        cases sb with
        | false =>
          clear hX8 hS
          go_wp2_with fail
          go_roundw
          case rel => exact ⟨k + 1, C, q3, by omega, by go_num, hD, hO8, hB8, ⟨by omega, by omega⟩, hR8⟩
          case measure => simp [intOf]; omega
        | true =>
          have hcb : Hid (codeB (C.set y ⟨k', r, s, t, a, b⟩) = true) := safeOf_ok hS
          replace hX8 : Hid (OwnsO w7 wr.heap.size (.slice (some ⟨g2, 0, none⟩) C.length cap2) (C.set y ⟨k', r, s, t, a, b⟩)) := hX8
          clear hS
          go_wp2_with fail
          refine (pick_any R q3 2 _ hR8 (by omega) (by omega) (by omega)).mono ?_
          rintro e w8 ⟨x, rfl, hx2, hb8, hR9⟩
          have hB9 : But R w w8 := hB8.trans hb8
          have hO9 := OwnsO.but hO8 hb8 hlt'
          have hX9 : Hid (OwnsO w8 w.heap.size (.slice (some ⟨g2, 0, none⟩) C.length cap2) (C.set y ⟨k', r, s, t, a, b⟩)) := OwnsO.but (OwnsO.mono hX8.out (show w.heap.size ≤ wr.heap.size from hzr)) hb8 hlt'
          clear hO8 hX8 hB8 hR8 hb8
          by_cases hx0 : x = 0
          · subst hx0
            go_wp2_with fail
            go_roundw
            case rel => exact ⟨k + 1, _, q3 + 1, by omega, by go_num, hcb, by have h9 := hX9.out; unfold OwnsO at h9 ⊢; rw [List.length_set] at h9 ⊢; exact h9, hB9, ⟨by omega, by omega⟩, hR9⟩
            case measure => simp [intOf]; omega
          · have hx0' : (x == 0) = false := by simp [hx0]
            clear hX9
            go_wp2_with fail
            go_roundw
            case rel => exact ⟨k + 1, C, q3 + 1, by omega, by go_num, hD, hO9, hB9, ⟨by omega, by omega⟩, hR9⟩
            case measure => simp [intOf]; omega
      · have e : k = 4 := by omega
        subst e
        go_wp2_with fail
        go_ret
        exact ⟨C, _, q2, rfl, hD.out, hO, hB, ⟨by omega, by omega⟩, hR⟩
end Go.Proofs.YtjhpaoadpcnlnaaGreatDoor
namespace Go.Proofs.YtjhpaoadpcnlnaaGreatDoor
open Go.ChangeShapes Go.WideShapes Go.ChangeAt Go.RowKit Go.Joins
attribute [local go_sem ↓] Go.wp_at_zero Go.wp_at_succ
set_option maxRecDepth 20000 in
set_option maxHeartbeats 8000000 in
theorem code_any (R : Nat) (p : Int) (w : World) (h : Rd R p w) (hp : p ≤ 400000) :
    Calls Tryz.prog 63 #[.pointer (some ⟨R, 0, none⟩)] w fun e w' => ∃ (C : List OpV) (v : Value) (p' : Int), e = .returned v ∧ C.length ≤ 17 ∧ OwnsO w' w.heap.size v C ∧ But R w w' ∧ (p ≤ p' ∧ p' ≤ p + 1500) ∧ Rd R p' w' := by
  have hlt' := h.lt
  have hp0 := h.p0
  obtain ⟨inf, i1, i2, i3, i4⟩ := infoO
  go_enter Tryz.func63, Tryz.ntmps63
  go_wp2_with fail
  refine (safe_any R p _ h (by omega)).mono ?_
  rintro e w1 ⟨C, v, q, rfl, hD, hO, hB, hq, hR⟩
  have hz1 := hB.size
  have hC1 : 1 ≤ C.length := (codeB_well hD).1.1
  have hC2 : C.length ≤ 16 := (codeB_well hD).2.1
  obtain ⟨g, cap, rfl, hg1, hg2⟩ := hO.blk hC1
  obtain ⟨hr1, hr2⟩ := hO.room
  clear hD
  go_wp2_with fail
  refine (pick_any R q 12 _ hR (by omega) (by omega) (by omega)).mono ?_
  rintro e w2 ⟨x, rfl, hx, hb2, hR2⟩
  have hz2 := hb2.size
  have hB2 : But R w w2 := hB.trans hb2
  have hO2 := OwnsO.but hO hb2 hlt'
  clear hO hB hR hb2
  have hC3 : (1 : Int) ≤ (C.length : Int) := by omega
  by_cases x0 : x = 0
  · subst x0
    go_wp2_with fail
    refine (random_any R (q + 1) _ hR2 (by omega)).mono ?_
    rintro e w3 ⟨D, u, q3, rfl, hD1, hO3, hb3, hq3, hR3⟩
    go_wp2_with fail
    go_ret
    exact ⟨D, _, q3, rfl, by omega, OwnsO.mono hO3 (by omega), hB2.trans hb3, ⟨by omega, by omega⟩, hR3⟩
  have x0' : (x == 0) = false := by simp [x0]
  by_cases x1 : x = 1
  · subst x1
    clear x0'
    go_wp2_with fail
    refine (pick_any R (q + 1) (C.length : Int) _ hR2 (by omega) (by omega) (by omega)).mono ?_
    rintro e w5 ⟨x, rfl, hx, hb5, hR5⟩
    obtain ⟨y, rfl⟩ : ∃ y : Nat, x = (y : Int) := ⟨x.toNat, by omega⟩
    have hy : y < C.length := by omega
    have hy' : (y : Int) < (C.length : Int) := by omega
    have hz5 := hb5.size
    have hB5 : But R w w5 := hB2.trans hb5
    have hO5 := OwnsO.but hO2 hb5 hlt'
    clear hb5 hB2 hR2 hO2
    go_wp2_with fail
    refine (anyOp_any R (q + 1 + 1) _ hR5 (by omega)).mono ?_
    rintro e w6 ⟨k', r, s, t, a, b, q3, rfl, hb6, hq3, hR6⟩
    have hz6 := hb6.size
    have hB6 : But R w w6 := hB5.trans hb6
    have ho6 := OwnsO.but hO5 hb6 hlt'
    obtain ⟨⟨s0, s1, s2, s3, s4, s5⟩, fz⟩ := ho6.stepAt y hy
    have f0 := fz (y * 6)
    have f1 := fz (y * 6 + 1)
    have f2 := fz (y * 6 + 2)
    have f3 := fz (y * 6 + 3)
    have f4 := fz (y * 6 + 4)
    have f5 := fz (y * 6 + 5)
    have hX := ho6.put y hy ⟨k', r, s, t, a, b⟩
    have hbt := but6 w6 g (y * 6) (.int .i64 k') (.int .i64 r) (.int .i64 s) (.int .i64 t) (.int .i64 a) (.int .i64 b)
    have hB7 := hB6.grownNew hbt.grows (fun k e => by cases e; omega)
    have hR7 := hR6.grown hbt.grows (fun k e => by cases e; omega)
    replace hX : Hid (OwnsO ((((((w6.setCell ⟨g, y * 6, none⟩ (.int .i64 k')).setCell ⟨g, y * 6 + 1, none⟩ (.int .i64 r)).setCell ⟨g, y * 6 + 2, none⟩ (.int .i64 s)).setCell ⟨g, y * 6 + 3, none⟩ (.int .i64 t)).setCell ⟨g, y * 6 + 4, none⟩ (.int .i64 a)).setCell ⟨g, y * 6 + 5, none⟩ (.int .i64 b)) w.heap.size (.slice (some ⟨g, 0, none⟩) C.length cap) (C.set y ⟨k', r, s, t, a, b⟩)) := hX
    clear fz hb6 hB5 hR5 hO5 hB6 hR6 ho6 hbt
    generalize C[y] = oy at *
    go_wp2_with fail
    go_ret
    exact ⟨_, _, q3, rfl, by rw [List.length_set]; omega, hX.out, hB7, ⟨by omega, by omega⟩, hR7⟩
  have x1' : (x == 1) = false := by simp [x1]
  by_cases x2 : x = 2
  · subst x2
    clear x0' x1'
    go_wp2_with fail
    refine (pick_any R (q + 1) ((C.length : Int) + 1) _ hR2 (by omega) (by omega) (by omega)).mono ?_
    rintro e w5 ⟨x, rfl, hx, hb5, hR5⟩
    obtain ⟨y, rfl⟩ : ∃ y : Nat, x = (y : Int) := ⟨x.toNat, by omega⟩
    have hy : y ≤ C.length := by omega
    have hy' : (y : Int) ≤ (cap : Int) := by omega
    have hB5 : But R w w5 := hB2.trans hb5
    have hO5 := OwnsO.but hO2 hb5 hlt'
    have hT : Hid (OwnsO w5 w.heap.size (.slice (some ⟨g, 0, none⟩) y cap) (C.take y)) := hO5.cut y hy
    clear hb5 hB2 hR2 hO2 hO5
    go_wp2_with fail
    go_ret
    exact ⟨_, _, q + 1 + 1, rfl, by rw [List.length_take]; omega, hT.out, hB5, ⟨by omega, by omega⟩, hR5⟩
  have x2' : (x == 2) = false := by simp [x2]
  by_cases x3 : x = 3
  · subst x3
    clear x0' x1' x2'
    go_wp2_with fail
    go_loopg [3] (17 - C.length) (fun gk v wx => ∃ (D : List OpV) (q2 : Int), Hid (gk = 17 - D.length) ∧ (1 ≤ D.length ∧ D.length ≤ 17) ∧ OwnsO wx w.heap.size v D ∧ But R w wx ∧ (p ≤ q2 ∧ q2 ≤ p + 1101 + (D.length : Int)) ∧ Rd R q2 wx)
    case atStart => exact ⟨C, q + 1, rfl, ⟨hC1, by omega⟩, hO2, hB2, ⟨by omega, by omega⟩, hR2⟩
    case round =>
      clear hO2 hB2 hR2
      obtain ⟨D, q2, hgk, ⟨hD1, hD2⟩, hO, hB, hq2, hR⟩ := hrel
      have hzr := hB.size
      obtain ⟨g', cap', rfl, hg3, hg4⟩ := hO.blk hD1
      go_wp2_with fail
      refine (pick_any R q2 2 _ hR (by omega) (by omega) (by omega)).mono ?_
      rintro e w3 ⟨x, rfl, hx2, hb3, hR3⟩
      have hz3 := hb3.size
      have hB3 : But R w w3 := hB.trans hb3
      have hO3 := OwnsO.but hO hb3 hlt'
      clear hO hB hR hb3
      by_cases hlt : (D.length : Int) < 16 + x
      · go_wp2_with (refine wpList_append_own _ rfl (.tmp 39) (.tmp 41) 34 rfl w.heap.size 26 inf (.agg #[.int .i64 0, .int .i64 0, .int .i64 0, .int .i64 0, .int .i64 0, .int .i64 0]) 6 48 Tryz.underlying34 i1 i2 i3 i4 rfl (by decide) _ _ _ rfl (World.ownsRow.alloc hO3 _) ⟨w3.heap.size, 0, none⟩ 1 1 (OpV.cells ⟨14, 0, 0, 0, 0, 0⟩) rfl rfl (by intro q u hq; rcases (by have := (List.getElem?_eq_some_iff.1 hq).1; simp [OpV.cells] at this; omega : q = 0 ∨ q = 1 ∨ q = 2 ∨ q = 3 ∨ q = 4 ∨ q = 5) with rfl | rfl | rfl | rfl | rfl | rfl <;> (simp [OpV.cells] at hq; subst hq; simp [Addr.add, go_sem])) (by simp [OpV.cells, Value.oneCell']) (by unfold maxLen; omega) (by omega) (by simp <;> omega) ?_; intro x0 w4 ho0 hg0 _)
        have hB4 : But R w w4 := (hB3.alloc _).grownNew hg0 (fun k e => by cases e; exact hg3)
        have hR4 : Rd R (q2 + 1) w4 := (hR3.below ((Below.refl _ _).alloc (Nat.le_refl _) _)).grown hg0 (fun k e => by cases e; show R < g'; omega)
        go_roundg (17 - (D ++ [(⟨14, 0, 0, 0, 0, 0⟩ : OpV)]).length)
        case measure => have := hgk.out; rw [List.length_append, List.length_singleton]; omega
        case rel => exact ⟨D ++ [(⟨14, 0, 0, 0, 0, 0⟩ : OpV)], q2 + 1, (show _ = _ from rfl), ⟨by rw [List.length_append, List.length_singleton]; omega, by rw [List.length_append, List.length_singleton]; omega⟩, (by unfold OwnsO; rw [cellsO_snoc]; simpa using ho0), hB4, ⟨by omega, by rw [List.length_append, List.length_singleton]; omega⟩, hR4⟩
      · go_wp2_with fail
        go_ret
        exact ⟨D, _, q2 + 1, rfl, by omega, hO3, hB3, ⟨by omega, by omega⟩, hR3⟩
  have x3' : (x == 3) = false := by simp [x3]
  go_wp2_with fail
  go_ret
  exact ⟨C, _, q + 1, rfl, by omega, hO2, hB2, ⟨by omega, by omega⟩, hR2⟩
end Go.Proofs.YtjhpaoadpcnlnaaGreatDoor
namespace Go.Proofs.YtjhpaoadpcnlnaaGreatDoor
open Go.ChangeShapes Go.WideShapes Go.ChangeAt Go.RowKit Go.Joins
attribute [local go_sem ↓] Go.wp_at_zero Go.wp_at_succ
theorem But.new {R : Nat} {w w' : World} (h : But R w w') {B : Nat} (hB : B ≤ R) (hz : B ≤ w.heap.size) : Below B w w' := h.below hB hz
set_option maxRecDepth 20000 in
set_option maxHeartbeats 4000000 in
theorem drawFull_any (a : Option Addr) (len cap : Nat) (w : World) (h : Code0 w a len cap) :
    Calls Tryz.prog 28 #[.slice a len cap] w fun e w' => ∃ (C : List OpV) (v : Value), e = .returned v ∧ C.length ≤ 17 ∧ OwnsO w' w.heap.size v C ∧ Below w.heap.size w w' := by
  go_enter Tryz.func28, Tryz.ntmps28
  go_wp2_with fail
  refine (open_any a len cap _ h).mono ?_
  rintro e w1 ⟨rfl, hb1, hR1⟩
  have hz1 := hb1.size
  go_wp2_with fail
  refine (code_any w.heap.size 0 _ hR1 (by omega)).mono ?_
  rintro e w2 ⟨C, v, p', rfl, hC, hO, hb2, hp, hR2⟩
  go_wp2_with fail
  go_ret
  exact ⟨C, _, rfl, hC, OwnsO.mono hO hz1, hb1.trans (hb2.new (Nat.le_refl _) hz1)⟩
set_option maxRecDepth 20000 in
set_option maxHeartbeats 4000000 in
theorem drawSafe_any (a : Option Addr) (len cap : Nat) (w : World) (h : Code0 w a len cap) :
    Calls Tryz.prog 42 #[.slice a len cap] w fun e w' => ∃ (C : List OpV) (v : Value), e = .returned v ∧ C.length ≤ 17 ∧ OwnsO w' w.heap.size v C ∧ Below w.heap.size w w' := by
  go_enter Tryz.func42, Tryz.ntmps42
  go_wp2_with fail
  refine (open_any a len cap _ h).mono ?_
  rintro e w1 ⟨rfl, hb1, hR1⟩
  have hz1 := hb1.size
  go_wp2_with fail
  refine (pick_any w.heap.size 0 3 _ hR1 (by omega) (by omega) (by omega)).mono ?_
  rintro e w2 ⟨x, rfl, hx, hb2, hR2⟩
  have hz2 := hb2.size
  by_cases x0 : x = 0
  · subst x0
    go_wp2_with fail
    refine (random_any w.heap.size (0 + 1) _ hR2 (by omega)).mono ?_
    rintro e w3 ⟨C, v, p', rfl, hC, hO, hb3, hp, hR3⟩
    go_wp2_with fail
    go_ret
    exact ⟨C, _, rfl, by omega, OwnsO.mono hO (by omega), hb1.trans ((hb2.trans hb3).new (Nat.le_refl _) hz1)⟩
  · have x0' : (x == 0) = false := by simp [x0]
    go_wp2_with fail
    refine (code_any w.heap.size (0 + 1) _ hR2 (by omega)).mono ?_
    rintro e w3 ⟨C, v, p', rfl, hC, hO, hb3, hp, hR3⟩
    go_wp2_with fail
    go_ret
    exact ⟨C, _, rfl, hC, OwnsO.mono hO (by omega), hb1.trans ((hb2.trans hb3).new (Nat.le_refl _) hz1)⟩
theorem drawReach_any (a : Option Addr) (len cap : Nat) (w : World) (h : Code0 w a len cap) :
    Calls Tryz.prog 35 #[.slice a len cap] w fun e w' => ∃ (C : List OpV) (v : Value), e = .returned v ∧ C.length ≤ 17 ∧ OwnsO w' w.heap.size v C ∧ Below w.heap.size w w' := by
  go_enter Tryz.func35, Tryz.ntmps35
  go_wp2_with fail
  refine (drawSafe_any a len cap _ h).mono ?_
  rintro e w1 ⟨C, v, rfl, hC, hO, hb1⟩
  go_wp2_with fail
  go_ret
  exact ⟨C, _, rfl, hC, hO, hb1⟩
set_option maxRecDepth 20000 in
set_option maxHeartbeats 4000000 in
theorem drawNext_any (a : Option Addr) (len cap : Nat) (w : World) (h : Code0 w a len cap) :
    Calls Tryz.prog 40 #[.slice a len cap] w fun e w' => ∃ (C : List OpV) (v : Value) (i : Int), e = .returned (.tuple #[v, .int .i64 i]) ∧ C.length ≤ 17 ∧ (-3 ≤ i ∧ i ≤ 17) ∧ OwnsO w' w.heap.size v C ∧ Below w.heap.size w w' := by
  go_enter Tryz.func40, Tryz.ntmps40
  go_wp2_with fail
  refine (open_any a len cap _ h).mono ?_
  rintro e w1 ⟨rfl, hb1, hR1⟩
  have hz1 := hb1.size
  go_wp2_with fail
  refine (code_any w.heap.size 0 _ hR1 (by omega)).mono ?_
  rintro e w2 ⟨C, v, p', rfl, hC, hO, hb2, hp, hR2⟩
  have hz2 := hb2.size
  obtain ⟨ao, cp, rfl, _, _⟩ := hO.code
  have hO' := OwnsO.mono hO hz1
  go_wp2_with fail
  refine (pick_any w.heap.size p' ((C.length : Int) + 1) _ hR2 (by omega) (by omega) (by omega)).mono ?_
  rintro e w3 ⟨x, rfl, hx, hb3, hR3⟩
  have hz3 := hb3.size
  have hlt' := hR1.lt
  have hO3 := OwnsO.but hO hb3 hlt'
  go_wp2_with fail
  refine (pick_any w.heap.size (p' + 1) 24 _ hR3 (by omega) (by omega) (by omega)).mono ?_
  rintro e w4 ⟨y, rfl, hy, hb4, hR4⟩
  have hz4 := hb4.size
  have hO4 := OwnsO.mono (OwnsO.but hO3 hb4 hlt') hz1
  have hB4 : Below w.heap.size w w4 := hb1.trans (((hb2.trans hb3).trans hb4).new (Nat.le_refl _) hz1)
  clear hO3 hO hO' hb2 hb3 hb4
  have hyq : y.tdiv 23 = 0 ∨ y.tdiv 23 = 1 := by rw [Int.tdiv_eq_ediv_of_nonneg (by omega)]; omega
  rcases hyq with e0 | e0
  · have e1 : y / 23 = 0 := by rw [Int.tdiv_eq_ediv_of_nonneg (by omega)] at e0; exact e0
    go_wp2_with fail
    go_ret2
    exact ⟨C, _, _, rfl, hC, ⟨by omega, by omega⟩, hO4, hB4⟩
  · have e1 : y / 23 = 1 := by rw [Int.tdiv_eq_ediv_of_nonneg (by omega)] at e0; exact e0
    go_wp2_with fail
    go_ret2
    exact ⟨C, _, _, rfl, hC, ⟨by omega, by omega⟩, hO4, hB4⟩
set_option maxRecDepth 20000 in
set_option maxHeartbeats 4000000 in
theorem drawOk_any (a : Option Addr) (len cap : Nat) (w : World) (h : Code0 w a len cap) :
    Calls Tryz.prog 25 #[.slice a len cap] w fun e w' => ∃ (C : List OpV) (v : Value), e = .returned v ∧ C.length ≤ 17 ∧ OwnsO w' w.heap.size v C ∧ Below w.heap.size w w' := by
  go_enter Tryz.func25, Tryz.ntmps25
  go_wp2_with fail
  refine (open_any a len cap _ h).mono ?_
  rintro e w1 ⟨rfl, hb1, hR1⟩
  have hz1 := hb1.size
  have hlt' := hR1.lt
  go_wp2_with fail
  refine (code_any w.heap.size 0 _ hR1 (by omega)).mono ?_
  rintro e w2 ⟨C, v, p', rfl, hC, hO, hb2, hp, hR2⟩
  have hz2 := hb2.size
  have hB2 : Below w.heap.size w w2 := hb1.trans (hb2.new (Nat.le_refl _) hz1)
  clear hb2 hb1
  by_cases hC0 : C.length = 0
  · have : C = [] := List.eq_nil_of_length_eq_zero hC0
    subst this
    obtain ⟨ao, cp, rfl, _, _⟩ := hO.code
    clear hC0
    go_wp2_with fail
    go_ret
    exact ⟨[], _, rfl, by simp, OwnsO.mono hO hz1, hB2⟩
  · obtain ⟨g, cp, rfl, hg1, hg2⟩ := hO.blk (by omega)
    have hC1 : (0 : Int) < (C.length : Int) := by omega
    clear hC0
    go_wp2_with fail
    refine (pick_any w.heap.size p' 4 _ hR2 (by omega) (by omega) (by omega)).mono ?_
    rintro e w3 ⟨x, rfl, hx, hb3, hR3⟩
    have hz3 := hb3.size
    have hO3 := OwnsO.but hO hb3 hlt'
    have hB3 : Below w.heap.size w w3 := hB2.trans (hb3.new (Nat.le_refl _) (by omega))
    clear hO hB2 hb3 hR2
    by_cases x0 : x = 0
    · subst x0
      go_wp2_with fail
      refine (pick_any w.heap.size (p' + 1) (C.length : Int) _ hR3 (by omega) (by omega) (by omega)).mono ?_
      rintro e w5 ⟨x, rfl, hx, hb5, hR5⟩
      obtain ⟨y, rfl⟩ : ∃ y : Nat, x = (y : Int) := ⟨x.toNat, by omega⟩
      have hy : y < C.length := by omega
      have hy' : (y : Int) < (C.length : Int) := by omega
      have hz5 := hb5.size
      have hB5 : Below w.heap.size w w5 := hB3.trans (hb5.new (Nat.le_refl _) (by omega))
      have hO5 := OwnsO.but hO3 hb5 hlt'
      clear hb5 hB3 hR3 hO3
      go_wp2_with fail
      refine (anyOp_any w.heap.size (p' + 1 + 1) _ hR5 (by omega)).mono ?_
      rintro e w6 ⟨k', r, s, t, a, b, q3, rfl, hb6, hq3, hR6⟩
      have hz6 := hb6.size
      have hB6 : Below w.heap.size w w6 := hB5.trans (hb6.new (Nat.le_refl _) (by omega))
      have ho6 := OwnsO.but hO5 hb6 hlt'
      obtain ⟨⟨s0, s1, s2, s3, s4, s5⟩, fz⟩ := ho6.stepAt y hy
      have f0 := fz (y * 6)
      have f1 := fz (y * 6 + 1)
      have f2 := fz (y * 6 + 2)
      have f3 := fz (y * 6 + 3)
      have f4 := fz (y * 6 + 4)
      have f5 := fz (y * 6 + 5)
      have hX := ho6.put y hy ⟨k', r, s, t, a, b⟩
      have hbt := but6 w6 g (y * 6) (.int .i64 k') (.int .i64 r) (.int .i64 s) (.int .i64 t) (.int .i64 a) (.int .i64 b)
      have hB7 := hB6.trans (hbt.below (B := w.heap.size) (by omega) (by omega))
      replace hX : Hid (OwnsO ((((((w6.setCell ⟨g, y * 6, none⟩ (.int .i64 k')).setCell ⟨g, y * 6 + 1, none⟩ (.int .i64 r)).setCell ⟨g, y * 6 + 2, none⟩ (.int .i64 s)).setCell ⟨g, y * 6 + 3, none⟩ (.int .i64 t)).setCell ⟨g, y * 6 + 4, none⟩ (.int .i64 a)).setCell ⟨g, y * 6 + 5, none⟩ (.int .i64 b)) w1.heap.size (.slice (some ⟨g, 0, none⟩) C.length cp) (C.set y ⟨k', r, s, t, a, b⟩)) := hX
      clear fz hb6 hB5 hR5 hO5 hB6 hR6 ho6 hbt
      generalize C[y] = oy at *
      go_wp2_with fail
      go_ret
      exact ⟨_, _, rfl, by rw [List.length_set]; omega, OwnsO.mono hX.out hz1, hB7⟩
    · have x0' : (x == 0) = false := by simp [x0]
      go_wp2_with fail
      go_ret
      exact ⟨C, _, rfl, hC, OwnsO.mono hO3 hz1, hB3⟩
end Go.Proofs.YtjhpaoadpcnlnaaGreatDoor
