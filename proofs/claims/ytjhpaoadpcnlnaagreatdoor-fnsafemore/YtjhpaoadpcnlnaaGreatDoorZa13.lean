/-
  A drawn step, seldom spoilt, over this translation: some step.
  Drawn steps, over this translation: whatever the code, some steps in a row of their own; nothing that was there turns but the reader.
  spec.l71Texts and the reader's 'of', over this translation: one of the texts.
-/
import Derived.Test.YtjhpaoadpcnlnaaGreatDoorZa12
import Derived.Test.YtjhpaoadpcnlnaaGreatDoorZa02
import Derived.Test.YtjhpaoadpcnlnaaGreatDoorZa04
import Derived.Test.YtjhpaoadpcnlnaaGreatDoorZa11
namespace Go.Proofs.YtjhpaoadpcnlnaaGreatDoor
open Go.ChangeShapes Go.WideShapes Go.ChangeAt Go.RowKit Go.Joins
attribute [local go_sem ↓] Go.wp_at_zero Go.wp_at_succ
set_option maxHeartbeats 4000000 in
theorem anyOp_any (R : Nat) (p : Int) (w : World) (h : Rd R p w) (hp : p ≤ 700000) :
    Calls Tryz.prog 47 #[.pointer (some ⟨R, 0, none⟩)] w fun e w' => ∃ k r s t a b p', e = .returned (.agg #[.int .i64 k, .int .i64 r, .int .i64 s, .int .i64 t, .int .i64 a, .int .i64 b]) ∧ But R w w' ∧ (p ≤ p' ∧ p' ≤ p + 40) ∧ Rd R p' w' := by
  have hlt := h.lt
  have hp0 := h.p0
  go_enter Tryz.func47, Tryz.ntmps47
  go_wp2_with fail
  refine (op_any R p 16 _ (h.below ((Below.refl _ _).alloc (Nat.le_refl _) _)) (by omega) (by omega) (by omega)).mono ?_
  rintro e w1 ⟨k, r, s, t, a, b, p1, rfl, hb1, hp1, hR1⟩
  obtain ⟨hc1, hf1⟩ := butcell hb1
  have hz1 := hb1.size
  simp at hz1
  have hO : OI R w.heap.size w1.heap.size w k r s t a b p1 (w1.alloc (.cells #[.int .i64 k, .int .i64 r, .int .i64 s, .int .i64 t, .int .i64 a, .int .i64 b] 26)) :=
    ⟨by simp [go_sem], by simp [go_sem], by simp [go_sem], by simp [go_sem], by simp [go_sem], by simp [go_sem], by simp [go_sem], by simp [go_sem], by simp [go_sem], by simp [go_sem], by simp [go_sem], by simp [go_sem],
     by rw [World.cell?_alloc_past _ _ _ (by omega), hc1 _ _ (by simp) (by omega)]; simp [go_sem], by rw [World.cell?_alloc_past _ _ _ (by omega), hc1 _ _ (by simp) (by omega)]; simp [go_sem], by rw [World.cell?_alloc_past _ _ _ (by omega), hc1 _ _ (by simp) (by omega)]; simp [go_sem], by rw [World.cell?_alloc_past _ _ _ (by omega), hc1 _ _ (by simp) (by omega)]; simp [go_sem], by rw [World.cell?_alloc_past _ _ _ (by omega), hc1 _ _ (by simp) (by omega)]; simp [go_sem], by rw [World.cell?_alloc_past _ _ _ (by omega), hc1 _ _ (by simp) (by omega)]; simp [go_sem],
     by rw [((Below.refl w1.heap.size w1).alloc (Nat.le_refl _) _).frozen (p := ⟨w.heap.size, 0, none⟩) (by dsimp only; omega), hf1 _ _ (by simp) (by omega)]; simp [go_sem], by rw [((Below.refl w1.heap.size w1).alloc (Nat.le_refl _) _).frozen (p := ⟨w.heap.size, 1, none⟩) (by dsimp only; omega), hf1 _ _ (by simp) (by omega)]; simp [go_sem], by rw [((Below.refl w1.heap.size w1).alloc (Nat.le_refl _) _).frozen (p := ⟨w.heap.size, 2, none⟩) (by dsimp only; omega), hf1 _ _ (by simp) (by omega)]; simp [go_sem], by rw [((Below.refl w1.heap.size w1).alloc (Nat.le_refl _) _).frozen (p := ⟨w.heap.size, 3, none⟩) (by dsimp only; omega), hf1 _ _ (by simp) (by omega)]; simp [go_sem], by rw [((Below.refl w1.heap.size w1).alloc (Nat.le_refl _) _).frozen (p := ⟨w.heap.size, 4, none⟩) (by dsimp only; omega), hf1 _ _ (by simp) (by omega)]; simp [go_sem], by rw [((Below.refl w1.heap.size w1).alloc (Nat.le_refl _) _).frozen (p := ⟨w.heap.size, 5, none⟩) (by dsimp only; omega), hf1 _ _ (by simp) (by omega)]; simp [go_sem],
     hlt, by omega, by simp, Nat.le_refl _, (((But.refl _ _).alloc _).trans hb1).alloc _, hR1.below ((Below.refl _ _).alloc (Nat.le_refl _) _)⟩
  clear hc1 hf1 hb1 hR1
  go_wp2_with fail
  generalize (w1.alloc (.cells #[.int .i64 k, .int .i64 r, .int .i64 s, .int .i64 t, .int .i64 a, .int .i64 b] 26)) = W1 at *
  generalize w1.heap.size = c at *
  have ldc := hO.dc
  have hne3 : c ≠ w.heap.size := by omega
  have hne5 : w.heap.size ≠ c := by omega
  refine (pick_any R p1 20 _ hO.rd (by omega) (by omega) (by omega)).mono ?_
  rintro e w2 ⟨x, rfl, hx, hb2, hR2⟩
  have hO2 := hO.go hb2 hR2
  clear hb2 hR2 hO
  by_cases x0 : x = 0
  · subst x0
    go_wp2_with fail
    refine (pick_any R (p1 + 1) 17 _ hO2.rd (by omega) (by omega) (by omega)).mono ?_
    rintro e w3 ⟨y, rfl, hy, hb3, hR3⟩
    have hO3 := hO2.go hb3 hR3
    clear hb3 hR3 hO2
    have c0 := hO3.c0; have f0 := hO3.f0; have g0 := hO3.g0; have e0 := hO3.e0
    have c1 := hO3.c1; have f1 := hO3.f1; have g1 := hO3.g1; have e1 := hO3.e1
    have c2 := hO3.c2; have f2 := hO3.f2; have g2 := hO3.g2; have e2 := hO3.e2
    have c3 := hO3.c3; have f3 := hO3.f3; have g3 := hO3.g3; have e3 := hO3.e3
    have c4 := hO3.c4; have f4 := hO3.f4; have g4 := hO3.g4; have e4 := hO3.e4
    have c5 := hO3.c5; have f5 := hO3.f5; have g5 := hO3.g5; have e5 := hO3.e5
    have hF := hO3.set0 y
    go_wp2_with fail
    exact bodyPost_ret (v := .agg #[.int .i64 y, .int .i64 r, .int .i64 s, .int .i64 t, .int .i64 a, .int .i64 b]) (by simp [results, Tryz.results47, go_sem, g0, g1, g2, g3, g4, g5]) rfl
      ⟨y, r, s, t, a, b, (p1 + 1 + 1), rfl, ((((((hF.but.setNew (by dsimp only; omega) _).setNew (by dsimp only; omega) _).setNew (by dsimp only; omega) _).setNew (by dsimp only; omega) _).setNew (by dsimp only; omega) _).setNew (by dsimp only; omega) _), by omega, hF.rd.but (C := w.heap.size) (But.setCell (R := w.heap.size) (But.setCell (R := w.heap.size) (But.setCell (R := w.heap.size) (But.setCell (R := w.heap.size) (But.setCell (R := w.heap.size) (But.setCell (R := w.heap.size) (But.refl _ _) (p := ⟨w.heap.size, 0, none⟩) rfl _) (p := ⟨w.heap.size, 1, none⟩) rfl _) (p := ⟨w.heap.size, 2, none⟩) rfl _) (p := ⟨w.heap.size, 3, none⟩) rfl _) (p := ⟨w.heap.size, 4, none⟩) rfl _) (p := ⟨w.heap.size, 5, none⟩) rfl _) (by omega)⟩
  · have x0' : (x == 0) = false := by simp [x0]
    by_cases x1 : x = 1
    · subst x1
      go_wp2_with fail
      refine (pick_any R (p1 + 1) 6 _ hO2.rd (by omega) (by omega) (by omega)).mono ?_
      rintro e w3 ⟨y, rfl, hy, hb3, hR3⟩
      have hO3 := hO2.go hb3 hR3
      clear hb3 hR3 hO2
      have c0 := hO3.c0; have f0 := hO3.f0; have g0 := hO3.g0; have e0 := hO3.e0
      have c1 := hO3.c1; have f1 := hO3.f1; have g1 := hO3.g1; have e1 := hO3.e1
      have c2 := hO3.c2; have f2 := hO3.f2; have g2 := hO3.g2; have e2 := hO3.e2
      have c3 := hO3.c3; have f3 := hO3.f3; have g3 := hO3.g3; have e3 := hO3.e3
      have c4 := hO3.c4; have f4 := hO3.f4; have g4 := hO3.g4; have e4 := hO3.e4
      have c5 := hO3.c5; have f5 := hO3.f5; have g5 := hO3.g5; have e5 := hO3.e5
      have hF := hO3.set1 (y - 1)
      go_wp2_with fail
      exact bodyPost_ret (v := .agg #[.int .i64 k, .int .i64 (y - 1), .int .i64 s, .int .i64 t, .int .i64 a, .int .i64 b]) (by simp [results, Tryz.results47, go_sem, g0, g1, g2, g3, g4, g5]) rfl
        ⟨k, (y - 1), s, t, a, b, (p1 + 1 + 1), rfl, ((((((hF.but.setNew (by dsimp only; omega) _).setNew (by dsimp only; omega) _).setNew (by dsimp only; omega) _).setNew (by dsimp only; omega) _).setNew (by dsimp only; omega) _).setNew (by dsimp only; omega) _), by omega, hF.rd.but (C := w.heap.size) (But.setCell (R := w.heap.size) (But.setCell (R := w.heap.size) (But.setCell (R := w.heap.size) (But.setCell (R := w.heap.size) (But.setCell (R := w.heap.size) (But.setCell (R := w.heap.size) (But.refl _ _) (p := ⟨w.heap.size, 0, none⟩) rfl _) (p := ⟨w.heap.size, 1, none⟩) rfl _) (p := ⟨w.heap.size, 2, none⟩) rfl _) (p := ⟨w.heap.size, 3, none⟩) rfl _) (p := ⟨w.heap.size, 4, none⟩) rfl _) (p := ⟨w.heap.size, 5, none⟩) rfl _) (by omega)⟩
    · have x1' : (x == 1) = false := by simp [x1]
      by_cases x2 : x = 2
      · subst x2
        go_wp2_with fail
        refine (val_any R (p1 + 1) _ hO2.rd (by omega)).mono ?_
        rintro e w3 ⟨y, z, p3, rfl, hy, hb3, hp3, hR3⟩
        have hO3 := hO2.go hb3 hR3
        clear hb3 hR3 hO2
        have c0 := hO3.c0; have f0 := hO3.f0; have g0 := hO3.g0; have e0 := hO3.e0
        have c1 := hO3.c1; have f1 := hO3.f1; have g1 := hO3.g1; have e1 := hO3.e1
        have c2 := hO3.c2; have f2 := hO3.f2; have g2 := hO3.g2; have e2 := hO3.e2
        have c3 := hO3.c3; have f3 := hO3.f3; have g3 := hO3.g3; have e3 := hO3.e3
        have c4 := hO3.c4; have f4 := hO3.f4; have g4 := hO3.g4; have e4 := hO3.e4
        have c5 := hO3.c5; have f5 := hO3.f5; have g5 := hO3.g5; have e5 := hO3.e5
        have hF := (hO3.set4 y).set5 z
        go_wp2_with fail
        exact bodyPost_ret (v := .agg #[.int .i64 k, .int .i64 r, .int .i64 s, .int .i64 t, .int .i64 y, .int .i64 z]) (by simp [results, Tryz.results47, go_sem, g0, g1, g2, g3, g4, g5]) rfl
          ⟨k, r, s, t, y, z, p3, rfl, ((((((hF.but.setNew (by dsimp only; omega) _).setNew (by dsimp only; omega) _).setNew (by dsimp only; omega) _).setNew (by dsimp only; omega) _).setNew (by dsimp only; omega) _).setNew (by dsimp only; omega) _), by omega, hF.rd.but (C := w.heap.size) (But.setCell (R := w.heap.size) (But.setCell (R := w.heap.size) (But.setCell (R := w.heap.size) (But.setCell (R := w.heap.size) (But.setCell (R := w.heap.size) (But.setCell (R := w.heap.size) (But.refl _ _) (p := ⟨w.heap.size, 0, none⟩) rfl _) (p := ⟨w.heap.size, 1, none⟩) rfl _) (p := ⟨w.heap.size, 2, none⟩) rfl _) (p := ⟨w.heap.size, 3, none⟩) rfl _) (p := ⟨w.heap.size, 4, none⟩) rfl _) (p := ⟨w.heap.size, 5, none⟩) rfl _) (by omega)⟩
      · have x2' : (x == 2) = false := by simp [x2]
        have hF := hO2
        have c0 := hO2.c0; have f0 := hO2.f0; have g0 := hO2.g0; have e0 := hO2.e0
        have c1 := hO2.c1; have f1 := hO2.f1; have g1 := hO2.g1; have e1 := hO2.e1
        have c2 := hO2.c2; have f2 := hO2.f2; have g2 := hO2.g2; have e2 := hO2.e2
        have c3 := hO2.c3; have f3 := hO2.f3; have g3 := hO2.g3; have e3 := hO2.e3
        have c4 := hO2.c4; have f4 := hO2.f4; have g4 := hO2.g4; have e4 := hO2.e4
        have c5 := hO2.c5; have f5 := hO2.f5; have g5 := hO2.g5; have e5 := hO2.e5
        go_wp2_with fail
        exact bodyPost_ret (v := .agg #[.int .i64 k, .int .i64 r, .int .i64 s, .int .i64 t, .int .i64 a, .int .i64 b]) (by simp [results, Tryz.results47, go_sem, g0, g1, g2, g3, g4, g5]) rfl
          ⟨k, r, s, t, a, b, (p1 + 1), rfl, ((((((hF.but.setNew (by dsimp only; omega) _).setNew (by dsimp only; omega) _).setNew (by dsimp only; omega) _).setNew (by dsimp only; omega) _).setNew (by dsimp only; omega) _).setNew (by dsimp only; omega) _), by omega, hF.rd.but (C := w.heap.size) (But.setCell (R := w.heap.size) (But.setCell (R := w.heap.size) (But.setCell (R := w.heap.size) (But.setCell (R := w.heap.size) (But.setCell (R := w.heap.size) (But.setCell (R := w.heap.size) (But.refl _ _) (p := ⟨w.heap.size, 0, none⟩) rfl _) (p := ⟨w.heap.size, 1, none⟩) rfl _) (p := ⟨w.heap.size, 2, none⟩) rfl _) (p := ⟨w.heap.size, 3, none⟩) rfl _) (p := ⟨w.heap.size, 4, none⟩) rfl _) (p := ⟨w.heap.size, 5, none⟩) rfl _) (by omega)⟩
end Go.Proofs.YtjhpaoadpcnlnaaGreatDoor
namespace Go.Proofs.YtjhpaoadpcnlnaaGreatDoor
open Go.ChangeShapes Go.WideShapes Go.ChangeAt Go.RowKit Go.Joins
attribute [local go_sem ↓] Go.wp_at_zero Go.wp_at_succ
theorem But.grownNew {R : Nat} {a b c : World} {row : Option Nat} (h : But R a b) (hg : b.grownBy c row) (hr : ∀ k, row = some k → a.heap.size ≤ k) : But R a c :=
  ⟨hg.os.trans h.os, hg.tape.trans h.tape, hg.output.trans h.output, Nat.le_trans h.size hg.size, fun k hk hR => (hg.block k (Nat.lt_of_lt_of_le hk h.size) (fun e => by have := hr k e.symm; omega)).trans (h.block k hk hR)⟩
theorem Rd.grown {R : Nat} {p : Int} {w w' : World} {row : Option Nat} (h : Rd R p w) (hg : w.grownBy w' row) (hr : ∀ k, row = some k → R < k) : Rd R p w' := by
  cases row with
  | none => exact h.below ⟨hg.os, hg.tape, hg.output, hg.size, fun k hk => hg.block k hk (by simp)⟩
  | some C => exact h.but (C := C) ⟨hg.os, hg.tape, hg.output, hg.size, fun k hk hn => hg.block k hk (fun e => hn (Option.some.inj e))⟩ (hr C rfl)
theorem OwnsO.from {w : World} {B : Nat} {v : Value} {C : List OpV} (h : OwnsO w B v C) : ∀ k, v.ownBlock = some k → B ≤ k := fun k e => (World.ownsRow.lt h k e).1
set_option maxRecDepth 20000 in
set_option maxHeartbeats 8000000 in
theorem random_any (R : Nat) (p : Int) (w : World) (h : Rd R p w) (hp : p ≤ 600000) :
    Calls Tryz.prog 71 #[.pointer (some ⟨R, 0, none⟩)] w fun e w' => ∃ (C : List OpV) (v : Value) (p' : Int), e = .returned v ∧ (3 ≤ C.length ∧ C.length ≤ 10) ∧ OwnsO w' w.heap.size v C ∧ But R w w' ∧ (p ≤ p' ∧ p' ≤ p + 300) ∧ Rd R p' w' := by
  have hlt' := h.lt
  have hp0 := h.p0
  obtain ⟨inf, i1, i2, i3, i4⟩ := infoO
  go_enter Tryz.func71, Tryz.ntmps71
  go_wp2_with fail
  refine (pick_any R p 8 _ h (by omega) (by omega) (by omega)).mono ?_
  rintro e w1 ⟨x, rfl, hx, hb1, hR1⟩
  have hz1 := hb1.size
  obtain ⟨y, rfl⟩ : ∃ y : Nat, x = (y : Int) := ⟨x.toNat, by omega⟩
  have hO0 : OwnsO (w1.alloc (.cells #[] 26)) w.heap.size (.slice (some ⟨w1.heap.size, 0, none⟩) 0 0) [] := ownsO_empty _ _ hz1
  go_wp2_with fail
  obtain ⟨m, hm⟩ : ∃ m : Nat, m = y + 2 := ⟨_, rfl⟩
  rw [show 3 + (y : Int) = (m : Int) + 1 by omega]
  go_loopw [4, 5] (fun v i wr => ∃ (k : Nat) (C : List OpV) (q : Int), k ≤ m + 1 ∧ i = .int .i64 k ∧ Hid (C.length = k) ∧ OwnsO wr w.heap.size v C ∧ But R w wr ∧ (p ≤ q ∧ q ≤ p + 1 + 20 * (k : Int)) ∧ Rd R q wr) (fun _ i _ => m + 1 - (intOf i).toNat)
  case atStart => exact ⟨0, [], p + 1, Nat.zero_le _, rfl, rfl, hO0, hb1.alloc _, ⟨by omega, by omega⟩, hR1.below ((Below.refl _ _).alloc (Nat.le_refl _) _)⟩
  case round =>
    clear hO0
    have hm7 : 2 ≤ m ∧ m ≤ 9 := by omega
    clear hm hx
    obtain ⟨k, C, q, hk, rfl, hCk, hO, hB, hq, hR⟩ := hrel
    have hzr := hB.size
    have hCb : C.length ≤ 1048576 := by have := hCk.out; omega
    by_cases hlt : k < m + 1
    · have g1 : (k : Int) < (m : Int) + 1 := by omega
      go_wp2_with fail
      refine (op_any R q ((m : Int) + 1) _ hR (by omega) (by omega) (by omega)).mono ?_
      rintro e w2 ⟨k', r, s, t, a, b, q2, rfl, hb2, hq2, hR2⟩
      have hz2 := hb2.size
      have hO2 := OwnsO.but hO hb2 hlt'
      have hB2 : But R w w2 := hB.trans hb2
      have hfr := OwnsO.from hO
      clear hO hB hb2 hR
      go_wp2_with (refine wpList_append_own _ rfl (.tmp 16) (.tmp 20) 34 rfl w.heap.size 26 inf (.agg #[.int .i64 0, .int .i64 0, .int .i64 0, .int .i64 0, .int .i64 0, .int .i64 0]) 6 48 Tryz.underlying34 i1 i2 i3 i4 rfl (by decide) _ _ _ rfl (World.ownsRow.alloc hO2 _) ⟨w2.heap.size, 0, none⟩ 1 1 (OpV.cells ⟨k', r, s, t, a, b⟩) rfl rfl (by intro q u hq; rcases (by have := (List.getElem?_eq_some_iff.1 hq).1; simp [OpV.cells] at this; omega : q = 0 ∨ q = 1 ∨ q = 2 ∨ q = 3 ∨ q = 4 ∨ q = 5) with rfl | rfl | rfl | rfl | rfl | rfl <;> (simp [OpV.cells] at hq; subst hq; simp [Addr.add, go_sem])) (by simp [OpV.cells, Value.oneCell']) (by unfold maxLen; omega) (by omega) (by simp <;> omega) ?_; intro x0 w4 ho0 hg0 _)
      have hB4 : But R w w4 := (hB2.alloc _).grownNew hg0 hfr
      have hR4 : Rd R q2 w4 := (hR2.below ((Below.refl _ _).alloc (Nat.le_refl _) _)).grown hg0 (fun k hk => by have := hfr k hk; omega)
      go_roundw
      case rel => exact ⟨k + 1, C ++ [⟨k', r, s, t, a, b⟩], q2, by omega, by go_num, (by show _ = _; rw [List.length_append, hCk.out]; rfl), (by unfold OwnsO; rw [cellsO_snoc]; simpa using ho0), hB4, ⟨by omega, by omega⟩, hR4⟩
      case measure => simp [intOf]; omega
    · have e : k = m + 1 := by omega
      subst e
      have g1 : ¬ ((m : Int) + 1) < (m : Int) + 1 := by omega
      have hCm : C.length = m + 1 := hCk.out
      rcases hO.2 with ⟨_, h0⟩ | ⟨g, cap, cur, rfl, hg, hh, _⟩
      · have := hCk.out; omega
      have hgl := (World.ownsRow.lt hO g rfl).2
      clear hh
      go_wp2_with fail
      refine (pick_any R q ((m : Int) + 1) _ hR (by omega) (by omega) (by omega)).mono ?_
      rintro e w2 ⟨z, rfl, hz, hb2, hR2⟩
      have hz2 := hb2.size
      have hO2 := OwnsO.but hO hb2 hlt'
      have hB2 : But R w w2 := hB.trans hb2
      clear hO hB hb2 hR
      go_wp2_with fail
      refine (pick_any R (q + 1) 3 _ (hR2.below ((Below.refl _ _).alloc (Nat.le_refl _) _)) (by omega) (by omega) (by omega)).mono ?_
      rintro e w3 ⟨z2, rfl, hzz, hb3, hR3⟩
      have hz3 := hb3.size
      simp at hz3
      have hO3 := OwnsO.but (World.ownsRow.alloc hO2 _) hb3 hlt'
      have hB3 : But R w w3 := (hB2.alloc _).trans hb3
      obtain ⟨hc3, hf3⟩ := butcell hb3
      have c0 : w3.cell? ⟨w2.heap.size, 0, none⟩ = some (.int .i64 9) := by rw [hc3 _ _ (by simp) (by omega)]; simp [go_sem]
      have c1 : w3.cell? ⟨w2.heap.size, 1, none⟩ = some (.int .i64 0) := by rw [hc3 _ _ (by simp) (by omega)]; simp [go_sem]
      have c2 : w3.cell? ⟨w2.heap.size, 2, none⟩ = some (.int .i64 0) := by rw [hc3 _ _ (by simp) (by omega)]; simp [go_sem]
      have c3 : w3.cell? ⟨w2.heap.size, 3, none⟩ = some (.int .i64 z) := by rw [hc3 _ _ (by simp) (by omega)]; simp [go_sem]
      have c4 : w3.cell? ⟨w2.heap.size, 4, none⟩ = some (.int .i64 0) := by rw [hc3 _ _ (by simp) (by omega)]; simp [go_sem]
      have c5 : w3.cell? ⟨w2.heap.size, 5, none⟩ = some (.int .i64 0) := by rw [hc3 _ _ (by simp) (by omega)]; simp [go_sem]
      have f0 : w3.frozen? ⟨w2.heap.size, 0, none⟩ = false := by rw [hf3 _ _ (by simp) (by omega)]; simp [go_sem]
      have f1 : w3.frozen? ⟨w2.heap.size, 1, none⟩ = false := by rw [hf3 _ _ (by simp) (by omega)]; simp [go_sem]
      have f2 : w3.frozen? ⟨w2.heap.size, 2, none⟩ = false := by rw [hf3 _ _ (by simp) (by omega)]; simp [go_sem]
      have f3 : w3.frozen? ⟨w2.heap.size, 3, none⟩ = false := by rw [hf3 _ _ (by simp) (by omega)]; simp [go_sem]
      have f4 : w3.frozen? ⟨w2.heap.size, 4, none⟩ = false := by rw [hf3 _ _ (by simp) (by omega)]; simp [go_sem]
      have f5 : w3.frozen? ⟨w2.heap.size, 5, none⟩ = false := by rw [hf3 _ _ (by simp) (by omega)]; simp [go_sem]
      clear hc3 hf3 hb3 hO2 hB2 hR2
      obtain ⟨q0, q1, q2', q3, q4, q5⟩ := cellsO_at C m (by omega)
      have kk := World.ownsRow.cellAt (w := w3) (base := w.heap.size) (e := 26) (size := 6) (g := g) (cap := cap) hO3
      have d0 : w3.cell? ⟨g, m * 6, none⟩ = some (.int .i64 C[m].k) := by rw [kk (m * 6) (by omega), q0]
      have d1 : w3.cell? ⟨g, m * 6 + 1, none⟩ = some (.int .i64 C[m].r) := by rw [kk (m * 6 + 1) (by omega), q1]
      have d2 : w3.cell? ⟨g, m * 6 + 2, none⟩ = some (.int .i64 C[m].s) := by rw [kk (m * 6 + 2) (by omega), q2']
      have d3 : w3.cell? ⟨g, m * 6 + 3, none⟩ = some (.int .i64 C[m].t) := by rw [kk (m * 6 + 3) (by omega), q3]
      have d4 : w3.cell? ⟨g, m * 6 + 4, none⟩ = some (.int .i64 C[m].a) := by rw [kk (m * 6 + 4) (by omega), q4]
      have d5 : w3.cell? ⟨g, m * 6 + 5, none⟩ = some (.int .i64 C[m].b) := by rw [kk (m * 6 + 5) (by omega), q5]
      have gf := World.ownsRow.frozenAt (w := w3) (base := w.heap.size) (e := 26) (size := 6) (g := g) (cap := cap) hO3
      have e0 := gf (m * 6)
      have e1 := gf (m * 6 + 1)
      have e2 := gf (m * 6 + 2)
      have e3 := gf (m * 6 + 3)
      have e4 := gf (m * 6 + 4)
      have e5 := gf (m * 6 + 5)
      have hne : g ≠ w2.heap.size := by omega
      have hne' : w2.heap.size ≠ g := by omega
      have hi : (m : Int) < (C.length : Int) := by omega
      generalize C[m] = om at *
      clear kk gf q0 q1 q2' q3 q4 q5 hCm
      by_cases hz0 : z2 = 0
      · subst hz0
        go_wp2_with fail
        have hA := but6 w3 w2.heap.size 0 (.int .i64 14) (.int .i64 0) (.int .i64 0) (.int .i64 0) (.int .i64 0) (.int .i64 0)
        have hO4 := OwnsO.aside hO3 hA (by simp only [Value.ownBlock]; exact fun e => hne (Option.some.inj e))
        have hP := hO4.put m (by have := hCk.out; omega) (⟨14, 0, 0, 0, 0, 0⟩ : OpV)
        go_ret
        refine ⟨C.set m (⟨14, 0, 0, 0, 0, 0⟩ : OpV), _, q + 1 + 1, rfl, ⟨by rw [List.length_set, hCk.out]; omega, by rw [List.length_set, hCk.out]; omega⟩, ?_, ?_, ⟨by omega, by omega⟩, ?_⟩
        · rw [hCk.out] at hP; exact hP
        · exact (hB3.grownNew hA.grows (fun k e => by cases e; omega)).grownNew (but6 _ g (m * 6) _ _ _ _ _ _).grows (fun k e => by cases e; exact hg)
        · exact (hR3.grown hA.grows (fun k e => by cases e; omega)).grown (but6 _ g (m * 6) _ _ _ _ _ _).grows (fun k e => by cases e; omega)
      · have hz0' : (z2 == 0) = false := by simp [hz0]
        go_wp2_with fail
        have hA := But.refl w2.heap.size w3
        have hO4 := OwnsO.aside hO3 hA (by simp only [Value.ownBlock]; exact fun e => hne (Option.some.inj e))
        have hP := hO4.put m (by have := hCk.out; omega) (⟨9, 0, 0, z, 0, 0⟩ : OpV)
        go_ret
        refine ⟨C.set m (⟨9, 0, 0, z, 0, 0⟩ : OpV), _, q + 1 + 1, rfl, ⟨by rw [List.length_set, hCk.out]; omega, by rw [List.length_set, hCk.out]; omega⟩, ?_, ?_, ⟨by omega, by omega⟩, ?_⟩
        · rw [hCk.out] at hP; exact hP
        · exact (hB3.grownNew hA.grows (fun k e => by cases e; omega)).grownNew (but6 _ g (m * 6) _ _ _ _ _ _).grows (fun k e => by cases e; exact hg)
        · exact (hR3.grown hA.grows (fun k e => by cases e; omega)).grown (but6 _ g (m * 6) _ _ _ _ _ _).grows (fun k e => by cases e; omega)
end Go.Proofs.YtjhpaoadpcnlnaaGreatDoor
namespace Go.Proofs.YtjhpaoadpcnlnaaGreatDoor
open Go.ChangeShapes Go.WideShapes Go.ChangeAt Go.RowKit Go.Joins
attribute [local go_sem ↓] Go.wp_at_zero Go.wp_at_succ
/-- the texts, in memory -/
def textsA : Array Value := #[.string ⟨text0.toArray⟩, .string ⟨text1.toArray⟩, .string ⟨text2.toArray⟩, .string ⟨text3.toArray⟩, .string ⟨text4.toArray⟩]
set_option maxRecDepth 20000 in
set_option maxHeartbeats 1000000 in
theorem texts_any (w : World) : Calls Tryz.prog 124 #[] w fun e w' => e = .returned (.slice (some ⟨w.heap.size, 0, none⟩) 5 5) ∧ w' = w.alloc (.cells textsA 9) := by
  go_enter Tryz.func124, Tryz.ntmps124
  go_wp2_with fail
  go_ret
  exact ⟨rfl, rfl⟩
theorem textsA_at (n : Nat) (h : n < 5) : textsA[n]? = some (.string ⟨(textsL.getD n []).toArray⟩) := by
  rcases (by omega : n = 0 ∨ n = 1 ∨ n = 2 ∨ n = 3 ∨ n = 4) with rfl | rfl | rfl | rfl | rfl <;> rfl
set_option maxRecDepth 20000 in
set_option maxHeartbeats 1000000 in
theorem of_any (R b n : Nat) (p : Int) (L : List (List UInt8)) (w : World) (h : Rd R p w) (hp : p ≤ 900000) (hn1 : 1 ≤ n) (hn2 : n ≤ 100) (hb : b < w.heap.size) (hbR : b ≠ R) (hc : ∀ i, i < n → w.cell? ⟨b, i, none⟩ = some (.string ⟨(L.getD i []).toArray⟩)) :
    Calls Tryz.prog 59 #[.pointer (some ⟨R, 0, none⟩), .slice (some ⟨b, 0, none⟩) n n] w fun e w' => ∃ i : Nat, i < n ∧ e = .returned (.string ⟨(L.getD i []).toArray⟩) ∧ But R w w' ∧ Rd R (p + 1) w' := by
  replace hc : Hid (∀ i, i < n → w.cell? ⟨b, i, none⟩ = some (.string ⟨(L.getD i []).toArray⟩)) := hc
  go_enter Tryz.func59, Tryz.ntmps59
  go_wp2_with fail
  refine (pick_any R p (n : Int) _ h (by omega) (by omega) (by omega)).mono ?_
  rintro e w1 ⟨x, rfl, hx, hb1, hR1⟩
  obtain ⟨i, rfl⟩ : ∃ i : Nat, x = (i : Int) := ⟨x.toNat, by omega⟩
  have hi : i < n := by omega
  have hi' : (i : Int) < (n : Int) := by omega
  have c0 : w1.cell? ⟨b, i, none⟩ = some (.string ⟨(L.getD i []).toArray⟩) := (hb1.cell (p := ⟨b, i, none⟩) hb hbR).trans (hc.out i hi)
  go_wp2_with fail
  go_ret
  exact ⟨i, hi, rfl, hb1, hR1⟩
end Go.Proofs.YtjhpaoadpcnlnaaGreatDoor
