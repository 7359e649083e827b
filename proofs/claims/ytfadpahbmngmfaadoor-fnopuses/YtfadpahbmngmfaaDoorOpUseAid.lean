/-
  Rows of numbers over this translation: how impl's and the specification's look; what laws.eqIntS, markIntS and heldIntS answer on short ones.
-/
import Derived.Test.YtfadpahbmngmfaaDoorOpImplUses
import Derived.Laws.OwnMore
namespace Go.Proofs.YtfadpahbmngmfaaDoor
open Go.ChangeShapes Go.WideShapes Go.ChangeAt Go.RowKit Go.Joins
/-- impl's row, of at least one -/
theorem OwnRow.some {w : World} {L : List Int} {e : Ending} {w' : World} (h : OwnRow w L e w') (hL : 0 < L.length) :
    ∃ g cap, e = .returned (.slice (.some ⟨g, 0, none⟩) L.length cap) ∧ w.heap.size ≤ g ∧ g < w'.heap.size ∧ (∀ i, i < L.length → w'.cell? ⟨g, i, none⟩ = .some (.int .i64 (L.getD i 0))) ∧ (∀ i, w'.frozen? ⟨g, i, none⟩ = false) ∧ Below w.heap.size w w' := by
  obtain ⟨v, rfl, ho, hb⟩ := h
  obtain ⟨h1, h2⟩ := ho
  have ho := And.intro h1 h2
  rcases h2 with ⟨_, hn⟩ | ⟨g, cap, cur, rfl, hg, hh, _⟩
  · omega
  · have ho : w'.ownsRow w.heap.size 3 1 (.slice (.some ⟨g, 0, none⟩) L.length cap) L.length (L.map (Value.int .i64)) := ho
    refine ⟨g, cap, rfl, hg, ?_, fun i hi => ?_, fun i => ho.frozenAt i, hb⟩
    · rcases Decidable.em (g < w'.heap.size) with h | h
      · exact h
      · rw [Array.getElem?_eq_none (by omega)] at hh; cases hh
    · rw [ho.cellAt i (by omega), List.getElem?_map, List.getElem?_eq_getElem hi]
      simp [List.getD_eq_getElem?_getD, List.getElem?_eq_getElem hi]
/-- impl's row, empty -/
theorem OwnRow.none {w : World} {e : Ending} {w' : World} (h : OwnRow w [] e w') : ∃ ao cap, e = .returned (.slice ao 0 cap) ∧ Below w.heap.size w w' := by
  obtain ⟨v, rfl, ⟨_, h2⟩, hb⟩ := h
  rcases h2 with ⟨rfl, _⟩ | ⟨g, cap, cur, rfl, _⟩
  · exact ⟨_, _, rfl, hb⟩
  · exact ⟨_, _, rfl, hb⟩
set_option maxHeartbeats 2000000 in
theorem eqIntS_0 (ao bo : Option Addr) (c d : Nat) (w : World)   :
    Calls Tryd.prog 20 #[.slice ao 0 c, .slice bo 0 d] w fun e w' => e = .returned (.bool true) ∧ Below w.heap.size w w' := by
  go_enter Tryd.func20, Tryd.ntmps20
  go_wp2_with fail
  refine wp_loop_rounds 4 ?_
  rw [rounds_succ]
  go_wp2_with fail
  go_ret
  exact ⟨rfl, Below.refl _ _⟩
set_option maxHeartbeats 2000000 in
theorem heldIntS_0 (ao : Option Addr) (c : Nat) (w : World)  :
    Calls Tryd.prog 22 #[.slice ao 0 c, .int .i64 1] w fun e w' => e = .returned (.int .i64 1) ∧ w' = w := by
  go_enter Tryd.func22, Tryd.ntmps22
  go_wp2_with fail
  refine wp_loop_rounds 4 ?_
  rw [rounds_succ]
  go_wp2_with fail
  go_ret
  exact ⟨rfl, rfl⟩
set_option maxHeartbeats 2000000 in
theorem markIntS_0 (ao : Option Addr) (c : Nat) (w : World)   :
    Calls Tryd.prog 21 #[.slice ao 0 c, .int .i64 1] w fun e w' => e = .returned (.int .i64 1) ∧ w' = w := by
  go_enter Tryd.func21, Tryd.ntmps21
  go_wp2_with fail
  refine wp_loop_rounds 4 ?_
  rw [rounds_succ]
  go_wp2_with fail
  go_ret
  exact ⟨rfl, rfl⟩
set_option maxHeartbeats 2000000 in
theorem eqIntS_1 (g b : Nat) (c d : Nat) (u0 : Int) (w : World) (x0 : w.cell? ⟨g, 0, none⟩ = some (.int .i64 u0)) (y0 : w.cell? ⟨b, 0, none⟩ = some (.int .i64 u0)) :
    Calls Tryd.prog 20 #[.slice (some ⟨g, 0, none⟩) 1 c, .slice (some ⟨b, 0, none⟩) 1 d] w fun e w' => e = .returned (.bool true) ∧ Below w.heap.size w w' := by
  go_enter Tryd.func20, Tryd.ntmps20
  go_wp2_with fail
  refine wp_loop_rounds 4 ?_
  rw [rounds_succ]
  go_wp2_with fail
  go_region
  go_wp2_with fail
  rw [rounds_succ]
  go_wp2_with fail
  go_ret
  exact ⟨rfl, (Below.refl _ _).drew⟩
set_option maxHeartbeats 2000000 in
theorem heldIntS_1 (g : Nat) (c : Nat) (w : World) (x0 : w.cell? ⟨g, 0, none⟩ = some (.int .i64 1)) :
    Calls Tryd.prog 22 #[.slice (some ⟨g, 0, none⟩) 1 c, .int .i64 1] w fun e w' => e = .returned (.int .i64 2) ∧ w' = w := by
  go_enter Tryd.func22, Tryd.ntmps22
  go_wp2_with fail
  refine wp_loop_rounds 4 ?_
  rw [rounds_succ]
  go_wp2_with fail
  rw [rounds_succ]
  go_wp2_with fail
  go_ret
  exact ⟨rfl, rfl⟩
set_option maxHeartbeats 2000000 in
theorem markIntS_1 (g : Nat) (c : Nat) (u0 : Int) (w : World) (x0 : w.cell? ⟨g, 0, none⟩ = some (.int .i64 u0)) (f0 : w.frozen? ⟨g, 0, none⟩ = false) :
    Calls Tryd.prog 21 #[.slice (some ⟨g, 0, none⟩) 1 c, .int .i64 1] w fun e w' => e = .returned (.int .i64 2) ∧ w' = (w.setCell ⟨g, 0, none⟩ (.int .i64 1)) := by
  go_enter Tryd.func21, Tryd.ntmps21
  go_wp2_with fail
  refine wp_loop_rounds 4 ?_
  rw [rounds_succ]
  go_wp2_with fail
  rw [rounds_succ]
  go_wp2_with fail
  go_ret
  exact ⟨rfl, rfl⟩
set_option maxHeartbeats 2000000 in
theorem eqIntS_2 (g b : Nat) (c d : Nat) (u0 u1 : Int) (w : World) (x0 : w.cell? ⟨g, 0, none⟩ = some (.int .i64 u0)) (x1 : w.cell? ⟨g, 1, none⟩ = some (.int .i64 u1)) (y0 : w.cell? ⟨b, 0, none⟩ = some (.int .i64 u0)) (y1 : w.cell? ⟨b, 1, none⟩ = some (.int .i64 u1)) :
    Calls Tryd.prog 20 #[.slice (some ⟨g, 0, none⟩) 2 c, .slice (some ⟨b, 0, none⟩) 2 d] w fun e w' => e = .returned (.bool true) ∧ Below w.heap.size w w' := by
  go_enter Tryd.func20, Tryd.ntmps20
  go_wp2_with fail
  refine wp_loop_rounds 4 ?_
  rw [rounds_succ]
  go_wp2_with fail
  go_region
  go_wp2_with fail
  rw [rounds_succ]
  go_wp2_with fail
  go_region
  go_wp2_with fail
  rw [rounds_succ]
  go_wp2_with fail
  go_ret
  exact ⟨rfl, (Below.refl _ _).drew.drew⟩
set_option maxHeartbeats 2000000 in
theorem heldIntS_2 (g : Nat) (c : Nat) (w : World) (x0 : w.cell? ⟨g, 0, none⟩ = some (.int .i64 1)) (x1 : w.cell? ⟨g, 1, none⟩ = some (.int .i64 2)) :
    Calls Tryd.prog 22 #[.slice (some ⟨g, 0, none⟩) 2 c, .int .i64 1] w fun e w' => e = .returned (.int .i64 3) ∧ w' = w := by
  go_enter Tryd.func22, Tryd.ntmps22
  go_wp2_with fail
  refine wp_loop_rounds 4 ?_
  rw [rounds_succ]
  go_wp2_with fail
  rw [rounds_succ]
  go_wp2_with fail
  rw [rounds_succ]
  go_wp2_with fail
  go_ret
  exact ⟨rfl, rfl⟩
set_option maxHeartbeats 2000000 in
theorem markIntS_2 (g : Nat) (c : Nat) (u0 u1 : Int) (w : World) (x0 : w.cell? ⟨g, 0, none⟩ = some (.int .i64 u0)) (x1 : w.cell? ⟨g, 1, none⟩ = some (.int .i64 u1)) (f0 : w.frozen? ⟨g, 0, none⟩ = false) (f1 : w.frozen? ⟨g, 1, none⟩ = false) :
    Calls Tryd.prog 21 #[.slice (some ⟨g, 0, none⟩) 2 c, .int .i64 1] w fun e w' => e = .returned (.int .i64 3) ∧ w' = ((w.setCell ⟨g, 0, none⟩ (.int .i64 1)).setCell ⟨g, 1, none⟩ (.int .i64 2)) := by
  go_enter Tryd.func21, Tryd.ntmps21
  go_wp2_with fail
  refine wp_loop_rounds 4 ?_
  rw [rounds_succ]
  go_wp2_with fail
  rw [rounds_succ]
  go_wp2_with fail
  rw [rounds_succ]
  go_wp2_with fail
  go_ret
  exact ⟨rfl, rfl⟩
end Go.Proofs.YtfadpahbmngmfaaDoor
