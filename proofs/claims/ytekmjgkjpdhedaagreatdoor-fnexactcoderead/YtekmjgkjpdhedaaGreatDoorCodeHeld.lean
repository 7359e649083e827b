/-
  What laws.eqOpS, markOpS and heldOpS answer over this translation, of steps in a row of one's own.
-/
import Derived.Test.YtekmjgkjpdhedaaGreatDoorOwnOps
import Derived.Test.YtekmjgkjpdhedaaGreatDoorBut
import Derived.Deep.RegionWith
import Derived.BigRegion
namespace Go.Proofs.YtekmjgkjpdhedaaGreatDoor
open Go.ChangeShapes Go.WideShapes Go.ChangeAt Go.RowKit Go.Joins
namespace MO
abbrev put6 (w : World) (g o : Nat) (x : OpV) : World :=
  (((((w.setCell ⟨g, o, none⟩ (.int .i64 x.k)).setCell ⟨g, o + 1, none⟩ (.int .i64 x.r)).setCell ⟨g, o + 2, none⟩ (.int .i64 x.s)).setCell ⟨g, o + 3, none⟩ (.int .i64 x.t)).setCell ⟨g, o + 4, none⟩ (.int .i64 x.a)).setCell ⟨g, o + 5, none⟩ (.int .i64 x.b)
theorem put6_eq (w : World) (g o : Nat) (x : OpV) : put6 w g o x = w.setCells g o x.cells := rfl
theorem put6_out (w : World) (g o : Nat) (x : OpV) (b j : Nat) (h : b = g → j < o ∨ o + 6 ≤ j) : (put6 w g o x).cell? ⟨b, j, none⟩ = w.cell? ⟨b, j, none⟩ := by
  rw [put6_eq]; exact World.cell?_setCells_out g _ o w ⟨b, j, none⟩ (fun hb _ => h hb)
theorem put6_frozen (w : World) (g o : Nat) (x : OpV) (p : Addr) : (put6 w g o x).frozen? p = w.frozen? p := by
  rw [put6_eq]; exact World.frozen?_setCells g _ o w p
theorem put6_at (w : World) (g o : Nat) (x : OpV) (h : ∀ j, j < 6 → ∃ v, w.cell? ⟨g, o + j, none⟩ = some v) : StepAt (put6 w g o x) g o x := by
  have k := World.cell?_setCells_in g x.cells o w (fun j hj => by obtain ⟨v, hv⟩ := h j hj; rw [hv]; rfl)
  rw [put6_eq]
  exact ⟨k 0 (by simp [OpV.cells]), k 1 (by simp [OpV.cells]), k 2 (by simp [OpV.cells]), k 3 (by simp [OpV.cells]), k 4 (by simp [OpV.cells]), k 5 (by simp [OpV.cells])⟩
theorem but_put6 {w w' : World} {g : Nat} (h : But g w w') (o : Nat) (x : OpV) : But g w (put6 w' g o x) :=
  (((((h.setCell rfl _).setCell rfl _).setCell rfl _).setCell rfl _).setCell rfl _).setCell rfl _
theorem eqVal_same (a b : Int) (w : World) : Calls Tryz.prog 70 #[.agg #[.int .i64 a, .int .i64 b], .agg #[.int .i64 a, .int .i64 b]] w fun e w' => e = .returned (.bool true) ∧ Below w.heap.size w w' := by
  go_enter Tryz.func70, Tryz.ntmps70
  go_wp2_with fail
  go_ret
  exact ⟨rfl, ((Below.refl _ _).alloc (Nat.le_refl _) _).alloc (by simp) _⟩
set_option maxHeartbeats 1000000 in
theorem eqOp_same (x : OpV) (w : World) : Calls Tryz.prog 44 #[x.val, x.val] w fun e w' => e = .returned (.bool true) ∧ Below w.heap.size w w' := by
  go_enter Tryz.func44, Tryz.ntmps44
  go_wp2_with fail
  refine (eqVal_same _ _ _).mono ?_
  rintro e w1 ⟨rfl, hb1⟩
  go_wp2_with fail
  go_ret
  exact ⟨rfl, (((Below.refl _ _).alloc (Nat.le_refl _) _).alloc (by simp) _).trans (hb1.mono (by simp; omega))⟩
set_option maxRecDepth 20000 in
set_option maxHeartbeats 2000000 in
theorem eqOps_same (C : List OpV) (g h : Nat) (c d : Nat) (w : World) (hl : C.length ≤ 1048576) (hg : ∀ i (hi : i < C.length), StepAt w g (i * 6) C[i]) (hh : ∀ i (hi : i < C.length), StepAt w h (i * 6) C[i]) :
    Calls Tryz.prog 21 #[.slice (some ⟨g, 0, none⟩) C.length c, .slice (some ⟨h, 0, none⟩) C.length d] w fun e w' => e = .returned (.bool true) ∧ Below w.heap.size w w' := by
  go_enter Tryz.func21, Tryz.ntmps21
  go_wp2_with fail
  go_loopw [5] (fun i wr => ∃ k : Nat, k ≤ C.length ∧ i = .int .i64 k ∧ Below w.heap.size w wr) (fun i _ => C.length - (intOf i).toNat)
  case atStart => exact ⟨0, Nat.zero_le _, rfl, Below.refl _ _⟩
  case round =>
    obtain ⟨k, hk, rfl, hB⟩ := hrel
    by_cases hlt' : k < C.length
    · have s := (hg k hlt').below (w' := wr) (by exact hB)
      have t := (hh k hlt').below (w' := wr) (by exact hB)
      obtain ⟨x, hx0⟩ : ∃ x, x = C[k] := ⟨_, rfl⟩
      rw [← hx0] at s t
      clear hx0
      obtain ⟨c0, c1, c2, c3, c4, c5⟩ := s
      obtain ⟨d0, d1, d2, d3, d4, d5⟩ := t
      go_wp2_with fail
      go_region_with (go_at_call 44; refine (eqOp_same x _).mono ?_; rintro e w1 ⟨rfl, hb1⟩)
      all_goals
        have hB1 : Below w.heap.size w w1 := hB.trans ((show Below wr.heap.size wr w1 from ⟨hb1.os, hb1.tape, hb1.output, hb1.size, hb1.block⟩).mono hB.size)
        go_step
        go_wp2_with fail
        go_roundw
        case rel => exact ⟨k + 1, by omega, by go_num, hB1⟩
        case measure => simp [intOf]; omega
    · have e : k = C.length := by omega
      subst e
      go_wp2_with fail
      go_ret
      exact ⟨rfl, hB⟩
set_option maxRecDepth 20000 in
set_option maxHeartbeats 2000000 in
theorem eqOps_nil (ao bo : Option Addr) (c d : Nat) (w : World) :
    Calls Tryz.prog 21 #[.slice ao 0 c, .slice bo 0 d] w fun e w' => e = .returned (.bool true) ∧ Below w.heap.size w w' := by
  go_enter Tryz.func21, Tryz.ntmps21
  go_wp2_with fail
  go_loopw [5] (fun i wr => i = .int .i64 0 ∧ wr = w) (fun _ _ => 0)
  case atStart => exact ⟨rfl, rfl⟩
  case round =>
    obtain ⟨rfl, rfl⟩ := hrel
    go_wp2_with fail
    go_ret
    exact ⟨rfl, Below.refl _ _⟩
/-- rows of one's own that hold the same steps are the same -/
theorem eqOps_own (C : List OpV) (hl : C.length ≤ 1048576) {w : World} {A B : Nat} {u v : Value} (hu : OwnsO w A u C) (hv : OwnsO w B v C) :
    Calls Tryz.prog 21 #[u, v] w fun e w' => e = .returned (.bool true) ∧ Below w.heap.size w w' := by
  by_cases h : 1 ≤ C.length
  · obtain ⟨g, c, rfl, _, _⟩ := hu.blk h
    obtain ⟨g', c', rfl, _, _⟩ := hv.blk h
    exact eqOps_same C g g' c c' w hl (fun i hi => (hu.stepAt i hi).1) (fun i hi => (hv.stepAt i hi).1)
  · obtain rfl : C = [] := by cases C with | nil => rfl | cons a l => exact absurd (by simp) h
    obtain ⟨ao, c, rfl, _⟩ := hu.code
    obtain ⟨bo, d, rfl, _⟩ := hv.code
    exact eqOps_nil ao bo c d w
set_option maxRecDepth 20000 in
set_option maxHeartbeats 4000000 in
theorem markOps_row (n g cap : Nat) (w : World) (hl : n ≤ 1048576) (hsome : ∀ j, j < n * 6 → ∃ v : Int, w.cell? ⟨g, j, none⟩ = some (.int .i64 v)) (hfree : ∀ j, w.frozen? ⟨g, j, none⟩ = false) :
    Calls Tryz.prog 22 #[.slice (some ⟨g, 0, none⟩) n cap, .int .i64 1] w fun e w' => e = .returned (.int .i64 (1 + 6 * (n : Int))) ∧ (∀ j : Nat, j < n * 6 → w'.cell? ⟨g, j, none⟩ = some (.int .i64 (1 + (j : Int)))) ∧ But g w w' := by
  go_enter Tryz.func22, Tryz.ntmps22
  go_wp2_with fail
  go_loopw [1, 5] (fun m i wr => ∃ k : Nat, k ≤ n ∧ i = .int .i64 k ∧ m = .int .i64 (1 + 6 * (k : Int)) ∧ But g w wr ∧ (∀ j, j < n * 6 → ∃ v : Int, wr.cell? ⟨g, j, none⟩ = some (.int .i64 v)) ∧ (∀ j : Nat, j < k * 6 → wr.cell? ⟨g, j, none⟩ = some (.int .i64 (1 + (j : Int)))) ∧ (∀ j, wr.frozen? ⟨g, j, none⟩ = false))
    (fun _ i _ => n - (intOf i).toNat)
  case atStart => exact ⟨0, Nat.zero_le _, rfl, rfl, But.refl _ _, hsome, fun j hj => by omega, hfree⟩
  case round =>
    clear hsome hfree
    obtain ⟨k, hk, rfl, rfl, hB, hsome, hdone, hfree⟩ := hrel
    by_cases hlt' : k < n
    · obtain ⟨v0, d0⟩ := hsome (k * 6) (by omega)
      obtain ⟨v1, d1⟩ := hsome (k * 6 + 1) (by omega)
      obtain ⟨v2, d2⟩ := hsome (k * 6 + 2) (by omega)
      obtain ⟨v3, d3⟩ := hsome (k * 6 + 3) (by omega)
      obtain ⟨v4, d4⟩ := hsome (k * 6 + 4) (by omega)
      obtain ⟨v5, d5⟩ := hsome (k * 6 + 5) (by omega)
      have f0 := hfree (k * 6)
      have f1 := hfree (k * 6 + 1)
      have f2 := hfree (k * 6 + 2)
      have f3 := hfree (k * 6 + 3)
      have f4 := hfree (k * 6 + 4)
      have f5 := hfree (k * 6 + 5)
      have HS : Hid (∀ j, j < n * 6 → ∃ v : Int, wr.cell? ⟨g, j, none⟩ = some (.int .i64 v)) := hsome
      have HD : Hid (∀ j : Nat, j < k * 6 → wr.cell? ⟨g, j, none⟩ = some (.int .i64 (1 + (j : Int)))) := hdone
      have HR : Hid (∀ j, wr.frozen? ⟨g, j, none⟩ = false) := hfree
      clear hsome hdone hfree
      go_wp2_with fail
      go_roundw
      case rel =>
        obtain ⟨x, hx⟩ : ∃ x : OpV, x = ⟨1 + 6 * (k : Int), 1 + 6 * (k : Int) + 1, 1 + 6 * (k : Int) + 2, 1 + 6 * (k : Int) + 3, 1 + 6 * (k : Int) + 4, 1 + 6 * (k : Int) + 5⟩ := ⟨_, rfl⟩
        have hnew := put6_at wr g (k * 6) x (fun j hj => by obtain ⟨v, hv⟩ := HS.out (k * 6 + j) (by omega); exact ⟨_, hv⟩)
        have hw := but_put6 hB (k * 6) x
        have hout := put6_out wr g (k * 6) x
        have hfr := put6_frozen wr g (k * 6) x
        subst hx
        have hall : ∀ j : Nat, k * 6 ≤ j → j < k * 6 + 6 → (put6 wr g (k * 6) ⟨1 + 6 * (k : Int), 1 + 6 * (k : Int) + 1, 1 + 6 * (k : Int) + 2, 1 + 6 * (k : Int) + 3, 1 + 6 * (k : Int) + 4, 1 + 6 * (k : Int) + 5⟩).cell? ⟨g, j, none⟩ = some (.int .i64 (1 + (j : Int))) := fun j h1 h2 => by
          rcases (by omega : j = k * 6 ∨ j = k * 6 + 1 ∨ j = k * 6 + 2 ∨ j = k * 6 + 3 ∨ j = k * 6 + 4 ∨ j = k * 6 + 5) with rfl | rfl | rfl | rfl | rfl | rfl
          · rw [hnew.c0]; congr 2; push_cast; omega
          · rw [hnew.c1]; congr 2; push_cast; omega
          · rw [hnew.c2]; congr 2; push_cast; omega
          · rw [hnew.c3]; congr 2; push_cast; omega
          · rw [hnew.c4]; congr 2; push_cast; omega
          · rw [hnew.c5]; congr 2; push_cast; omega
        refine ⟨k + 1, by omega, by go_num, ?_, ?_, fun j hj => ?_, fun j hj => ?_, fun j => ?_⟩
        · first | rfl | (congr 1; done) | (congr 1; omega)
        · exact hw
        · by_cases hin : k * 6 ≤ j ∧ j < k * 6 + 6
          · exact ⟨_, hall j hin.1 hin.2⟩
          · obtain ⟨v, hv⟩ := HS.out j hj
            exact ⟨v, (hout _ _ (fun _ => by omega)).trans hv⟩
        · by_cases hin : k * 6 ≤ j
          · exact hall j hin (by omega)
          · exact (hout _ _ (fun _ => by omega)).trans (HD.out j (by omega))
        · exact (hfr _).trans (HR.out j)
      case measure => simp [intOf]; omega
    · have e : k = n := by omega
      subst e
      have HD : Hid (∀ j : Nat, j < k * 6 → wr.cell? ⟨g, j, none⟩ = some (.int .i64 (1 + (j : Int)))) := hdone
      clear hsome hdone hfree
      go_wp2_with fail
      go_ret
      exact ⟨rfl, HD.out, hB⟩
set_option maxRecDepth 20000 in
set_option maxHeartbeats 4000000 in
theorem heldOps_row (n g cap : Nat) (w : World) (hl : n ≤ 1048576) (hdone : ∀ j : Nat, j < n * 6 → w.cell? ⟨g, j, none⟩ = some (.int .i64 (1 + (j : Int)))) :
    Calls Tryz.prog 23 #[.slice (some ⟨g, 0, none⟩) n cap, .int .i64 1] w fun e w' => e = .returned (.int .i64 (1 + 6 * (n : Int))) ∧ w' = w := by
  have HD : Hid (∀ j : Nat, j < n * 6 → w.cell? ⟨g, j, none⟩ = some (.int .i64 (1 + (j : Int)))) := hdone
  clear hdone
  go_enter Tryz.func23, Tryz.ntmps23
  go_wp2_with fail
  go_loopw [1, 5] (fun m i wr => ∃ k : Nat, k ≤ n ∧ i = .int .i64 k ∧ m = .int .i64 (1 + 6 * (k : Int)) ∧ wr = w)
    (fun _ i _ => n - (intOf i).toNat)
  case atStart => exact ⟨0, Nat.zero_le _, rfl, rfl, rfl⟩
  case round =>
    obtain ⟨k, hk, rfl, rfl, rfl⟩ := hrel
    by_cases hlt' : k < n
    · have d0 : wr.cell? ⟨g, k * 6, none⟩ = some (.int .i64 (1 + 6 * (k : Int))) := by rw [HD.out (k * 6) (by omega)]; congr 2; push_cast; omega
      have d1 : wr.cell? ⟨g, k * 6 + 1, none⟩ = some (.int .i64 (1 + 6 * (k : Int) + 1)) := by rw [HD.out (k * 6 + 1) (by omega)]; congr 2; push_cast; omega
      have d2 : wr.cell? ⟨g, k * 6 + 2, none⟩ = some (.int .i64 (1 + 6 * (k : Int) + 2)) := by rw [HD.out (k * 6 + 2) (by omega)]; congr 2; push_cast; omega
      have d3 : wr.cell? ⟨g, k * 6 + 3, none⟩ = some (.int .i64 (1 + 6 * (k : Int) + 3)) := by rw [HD.out (k * 6 + 3) (by omega)]; congr 2; push_cast; omega
      have d4 : wr.cell? ⟨g, k * 6 + 4, none⟩ = some (.int .i64 (1 + 6 * (k : Int) + 4)) := by rw [HD.out (k * 6 + 4) (by omega)]; congr 2; push_cast; omega
      have d5 : wr.cell? ⟨g, k * 6 + 5, none⟩ = some (.int .i64 (1 + 6 * (k : Int) + 5)) := by rw [HD.out (k * 6 + 5) (by omega)]; congr 2; push_cast; omega
      go_wp2_with fail
      go_roundw
      case rel => exact ⟨k + 1, by omega, by go_num, by first | rfl | (congr 1; omega), trivial⟩
      case measure => simp [intOf]; omega
    · have e : k = n := by omega
      subst e
      go_wp2_with fail
      go_ret
      exact ⟨rfl, rfl⟩
set_option maxHeartbeats 2000000 in
theorem markOps_nil (ao : Option Addr) (c : Nat) (w : World) :
    Calls Tryz.prog 22 #[.slice ao 0 c, .int .i64 1] w fun e w' => e = .returned (.int .i64 1) ∧ w' = w := by
  go_enter Tryz.func22, Tryz.ntmps22
  go_wp2_with fail
  go_loopw [1, 5] (fun m i wr => i = .int .i64 0 ∧ m = .int .i64 1 ∧ wr = w) (fun _ _ _ => 0)
  case atStart => exact ⟨rfl, rfl, rfl⟩
  case round =>
    obtain ⟨rfl, rfl, rfl⟩ := hrel
    go_wp2_with fail
    go_ret
    exact ⟨rfl, rfl⟩
set_option maxHeartbeats 2000000 in
theorem heldOps_nil (ao : Option Addr) (c : Nat) (w : World) :
    Calls Tryz.prog 23 #[.slice ao 0 c, .int .i64 1] w fun e w' => e = .returned (.int .i64 1) ∧ w' = w := by
  go_enter Tryz.func23, Tryz.ntmps23
  go_wp2_with fail
  go_loopw [1, 5] (fun m i wr => i = .int .i64 0 ∧ m = .int .i64 1 ∧ wr = w) (fun _ _ _ => 0)
  case atStart => exact ⟨rfl, rfl, rfl⟩
  case round =>
    obtain ⟨rfl, rfl, rfl⟩ := hrel
    go_wp2_with fail
    go_ret
    exact ⟨rfl, rfl⟩
end MO
end Go.Proofs.YtekmjgkjpdhedaaGreatDoor
