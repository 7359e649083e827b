/-
  How large a run handed in may be, over this translation: szRun of the laws.
-/
import Derived.Test.YtefaocjcfecipaaRunSize
namespace Go.Proofs.Ytefaocjcfecipaa
open Go.ChangeShapes Go.WideShapes Go.ChangeAt Go.RowKit Go.Joins
theorem szI_no {n : Nat} {left : Int} (h : ¬ (n : Int) ≤ left) : szI n left = -1 := if_neg h
theorem szI_yes {n : Nat} {left : Int} (h : (n : Int) ≤ left) : szI n left = left - n := if_pos h
set_option maxRecDepth 20000 in
set_option maxHeartbeats 4000000 in
theorem szRun_any (d : RunD) (q : RunP) (w : World) (n0 : d.slots.length ≤ 9223372036854775807) (n1 : d.mail.length ≤ 9223372036854775807) (n2 : d.links.length ≤ 9223372036854775807) (n3 : d.wat.length ≤ 9223372036854775807) :
    Calls Try.prog 13 #[d.val q, .int .i64 1048576] w fun e w' => (∃ r : Int, e = .returned (.int .i64 r) ∧ (r = -1 ∨ (0 ≤ r ∧ d.Short))) ∧ Below w.heap.size w w' := by
  have hB0 : Below w.heap.size w (w.alloc (.cells (d.cells q) 39)) := (Below.refl _ _).alloc (Nat.le_refl _) _
  have hA0 : RunAt (w.alloc (.cells (d.cells q) 39)) w.heap.size d q := runAt_new w d q 39
  go_enter Try.func13, Try.ntmps13
  go_wp2_with fail
  generalize (w.alloc (.cells (d.cells q) 39)) = w0 at *
  obtain ⟨c0, c1, c2, c3, c4, c5, c6, c7, c8, c9, c10, c11, c12⟩ := hA0
  clear c0 c1 c2 c3 c5 c6 c9 c10 c11 c12
  have N0 : Hid (d.slots.length ≤ 9223372036854775807) := n0
  have N1 : Hid (d.mail.length ≤ 9223372036854775807) := n1
  have N2 : Hid (d.links.length ≤ 9223372036854775807) := n2
  have N3 : Hid (d.wat.length ≤ 9223372036854775807) := n3
  clear n0 n1 n2 n3
  obtain ⟨l0, H0, g0, b0⟩ : ∃ l0 : Int, Hid (l0 = 1048576) ∧ ¬ l0 < 0 ∧ l0 ≤ 1048576 := ⟨1048576, rfl, by omega, by omega⟩
  refine (szVals_any q.a0 d.slots.length q.k0 1048576 _ (by omega) (by omega) N0.out).mono ?_
  rintro e w1 ⟨rfl, hw1⟩
  rw [hw1]
  clear hw1 w1
  by_cases h : (d.slots.length : Int) ≤ 1048576
  case neg =>
    rw [szI_no h]
    clear h
    go_wp2_with fail
    go_ret
    exact ⟨⟨-1, rfl, .inl rfl⟩, hB0⟩
  rw [szI_yes h]
  obtain ⟨l1, H1, g1, b1⟩ : ∃ l : Int, Hid (l = 1048576 - (d.slots.length : Int)) ∧ ¬ l < 0 ∧ l ≤ 1048576 := ⟨_, rfl, by omega, by omega⟩
  rw [← H1.out]
  have E0 : Hid ((d.slots.length : Int) ≤ 1048576) := h
  clear h
  go_wp2_with fail
  refine (szVals_any q.a1 d.mail.length q.k1 l1 _ (by omega) (by omega) N1.out).mono ?_
  rintro e w1 ⟨rfl, hw1⟩
  rw [hw1]
  clear hw1 w1
  by_cases h : (d.mail.length : Int) ≤ l1
  case neg =>
    rw [szI_no h]
    clear h
    go_wp2_with fail
    go_ret
    exact ⟨⟨-1, rfl, .inl rfl⟩, hB0⟩
  rw [szI_yes h]
  obtain ⟨l2, H2, g2, b2⟩ : ∃ l : Int, Hid (l = l1 - (d.mail.length : Int)) ∧ ¬ l < 0 ∧ l ≤ 1048576 := ⟨_, rfl, by omega, by omega⟩
  rw [← H2.out]
  have E1 : Hid ((d.mail.length : Int) ≤ l1) := h
  clear h
  go_wp2_with fail
  refine (szInts_any q.a2 d.links.length q.k2 l2 _ (by omega) (by omega) N2.out).mono ?_
  rintro e w1 ⟨rfl, hw1⟩
  rw [hw1]
  clear hw1 w1
  by_cases h : (d.links.length : Int) ≤ l2
  case neg =>
    rw [szI_no h]
    clear h
    go_wp2_with fail
    go_ret
    exact ⟨⟨-1, rfl, .inl rfl⟩, hB0⟩
  rw [szI_yes h]
  obtain ⟨l3, H3, g3, b3⟩ : ∃ l : Int, Hid (l = l2 - (d.links.length : Int)) ∧ ¬ l < 0 ∧ l ≤ 1048576 := ⟨_, rfl, by omega, by omega⟩
  rw [← H3.out]
  have E2 : Hid ((d.links.length : Int) ≤ l2) := h
  clear h
  go_wp2_with fail
  refine (szInts_any q.a3 d.wat.length q.k3 l3 _ (by omega) (by omega) N3.out).mono ?_
  rintro e w1 ⟨rfl, hw1⟩
  rw [hw1]
  clear hw1 w1
  by_cases h : (d.wat.length : Int) ≤ l3
  case neg =>
    rw [szI_no h]
    clear h
    go_wp2_with fail
    go_ret
    exact ⟨⟨-1, rfl, .inl rfl⟩, hB0⟩
  rw [szI_yes h]
  obtain ⟨l4, H4, g4, b4⟩ : ∃ l : Int, Hid (l = l3 - (d.wat.length : Int)) ∧ ¬ l < 0 ∧ l ≤ 1048576 := ⟨_, rfl, by omega, by omega⟩
  rw [← H4.out]
  have E3 : Hid ((d.wat.length : Int) ≤ l3) := h
  clear h
  go_wp2_with fail
  go_ret
  have h0 := E0.out
  have h1 := E1.out
  have h2 := E2.out
  have h3 := E3.out
  exact ⟨⟨l4, rfl, .inr ⟨by omega, ⟨by omega, by omega, by omega, by omega⟩⟩⟩, hB0⟩
end Go.Proofs.Ytefaocjcfecipaa
