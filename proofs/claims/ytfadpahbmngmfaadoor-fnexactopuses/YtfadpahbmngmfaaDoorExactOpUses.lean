/-
  For every step, ok or not, impl.OpUses answers as the specification's OpUses does, in a row of its own that a second call leaves as it is. No condition but that the tables and errors of strconv are as their initialisers lay them.
-/
import Derived.Test.YtfadpahbmngmfaaDoorOpUseAid
import Derived.Test.YtfadpahbmngmfaaDoorOpFrame
namespace Go.Proofs.YtfadpahbmngmfaaDoor
open Go.ChangeShapes Go.WideShapes Go.ChangeAt Go.RowKit Go.Joins
namespace ExactOpUses
set_option maxHeartbeats 4000000 in
theorem walk_0 (k r s t a b : Int) (hL : usesOf k r s t a b = []) (w : World) :
    Calls Tryd.prog 9 #[.agg #[.int .i64 k, .int .i64 r, .int .i64 s, .int .i64 t, .int .i64 a, .int .i64 b]] w fun e w' => e = .returned (.bool true) ∧ Below w.heap.size w w' := by
  go_enter Tryd.func9, Tryd.ntmps9
  go_wp2_with fail
  refine (toOp_any _ _ _ _ _ _ _).mono ?_
  rintro e w1 ⟨rfl, hb1⟩
  obtain ⟨hc1, hf1⟩ := bcell hb1
  have hz1 := hb1.size
  try simp at hz1
  have x0 : w1.cell? ⟨w.heap.size, 0, none⟩ = some (.int .i64 k) := by rw [hc1 _ _ (by (try simp) <;> omega)]; simp [go_sem]
  have x1 : w1.cell? ⟨w.heap.size, 1, none⟩ = some (.int .i64 r) := by rw [hc1 _ _ (by (try simp) <;> omega)]; simp [go_sem]
  have x2 : w1.cell? ⟨w.heap.size, 2, none⟩ = some (.int .i64 s) := by rw [hc1 _ _ (by (try simp) <;> omega)]; simp [go_sem]
  have x3 : w1.cell? ⟨w.heap.size, 3, none⟩ = some (.int .i64 t) := by rw [hc1 _ _ (by (try simp) <;> omega)]; simp [go_sem]
  have x4 : w1.cell? ⟨w.heap.size, 4, none⟩ = some (.int .i64 a) := by rw [hc1 _ _ (by (try simp) <;> omega)]; simp [go_sem]
  have x5 : w1.cell? ⟨w.heap.size, 5, none⟩ = some (.int .i64 b) := by rw [hc1 _ _ (by (try simp) <;> omega)]; simp [go_sem]
  have hB1 : Below w.heap.size w w1 := ((Below.refl _ _).alloc (Nat.le_refl _) _).trans (hb1.mono (by (try simp) <;> omega))
  clear hc1 hf1 hb1
  go_wp2_with fail
  refine (specUses_any _ _ _ _ _ _ _).mono ?_
  intro e w2 hN
  rw [hL] at hN
  obtain ⟨bb, rfl, hbb1, hbb2, hbc, hb2⟩ := hN
  obtain ⟨hc2, hf2⟩ := bcell hb2
  have hz2 := hb2.size
  try simp at hz2
  replace x0 : w2.cell? ⟨w.heap.size, 0, none⟩ = some (.int .i64 k) := by rw [hc2 _ _ (by (try simp) <;> omega)]; exact x0
  replace x1 : w2.cell? ⟨w.heap.size, 1, none⟩ = some (.int .i64 r) := by rw [hc2 _ _ (by (try simp) <;> omega)]; exact x1
  replace x2 : w2.cell? ⟨w.heap.size, 2, none⟩ = some (.int .i64 s) := by rw [hc2 _ _ (by (try simp) <;> omega)]; exact x2
  replace x3 : w2.cell? ⟨w.heap.size, 3, none⟩ = some (.int .i64 t) := by rw [hc2 _ _ (by (try simp) <;> omega)]; exact x3
  replace x4 : w2.cell? ⟨w.heap.size, 4, none⟩ = some (.int .i64 a) := by rw [hc2 _ _ (by (try simp) <;> omega)]; exact x4
  replace x5 : w2.cell? ⟨w.heap.size, 5, none⟩ = some (.int .i64 b) := by rw [hc2 _ _ (by (try simp) <;> omega)]; exact x5
  have hB2 : Below w.heap.size w w2 := hB1.trans (hb2.mono (by (try simp) <;> omega))
  clear hc2 hf2 hb2 hbc
  go_wp2_with fail
  refine (toOp_any _ _ _ _ _ _ _).mono ?_
  rintro e w3 ⟨rfl, hb3⟩
  obtain ⟨hc3, hf3⟩ := bcell hb3
  have hz3 := hb3.size
  try simp at hz3
  replace x0 : w3.cell? ⟨w.heap.size, 0, none⟩ = some (.int .i64 k) := by rw [hc3 _ _ (by (try simp) <;> omega)]; exact x0
  replace x1 : w3.cell? ⟨w.heap.size, 1, none⟩ = some (.int .i64 r) := by rw [hc3 _ _ (by (try simp) <;> omega)]; exact x1
  replace x2 : w3.cell? ⟨w.heap.size, 2, none⟩ = some (.int .i64 s) := by rw [hc3 _ _ (by (try simp) <;> omega)]; exact x2
  replace x3 : w3.cell? ⟨w.heap.size, 3, none⟩ = some (.int .i64 t) := by rw [hc3 _ _ (by (try simp) <;> omega)]; exact x3
  replace x4 : w3.cell? ⟨w.heap.size, 4, none⟩ = some (.int .i64 a) := by rw [hc3 _ _ (by (try simp) <;> omega)]; exact x4
  replace x5 : w3.cell? ⟨w.heap.size, 5, none⟩ = some (.int .i64 b) := by rw [hc3 _ _ (by (try simp) <;> omega)]; exact x5
  have hB3 : Below w.heap.size w w3 := hB2.trans (hb3.mono (by (try simp) <;> omega))
  clear hc3 hf3 hb3
  go_wp2_with fail
  refine (implUses_any _ _ _ _ _ _ _).mono ?_
  intro e w4 hO
  rw [hL] at hO
  obtain ⟨ao, cap, rfl, hb4⟩ := hO.none
  obtain ⟨hc4, hf4⟩ := bcell hb4
  have hz4 := hb4.size
  try simp at hz4
  replace x0 : w4.cell? ⟨w.heap.size, 0, none⟩ = some (.int .i64 k) := by rw [hc4 _ _ (by (try simp) <;> omega)]; exact x0
  replace x1 : w4.cell? ⟨w.heap.size, 1, none⟩ = some (.int .i64 r) := by rw [hc4 _ _ (by (try simp) <;> omega)]; exact x1
  replace x2 : w4.cell? ⟨w.heap.size, 2, none⟩ = some (.int .i64 s) := by rw [hc4 _ _ (by (try simp) <;> omega)]; exact x2
  replace x3 : w4.cell? ⟨w.heap.size, 3, none⟩ = some (.int .i64 t) := by rw [hc4 _ _ (by (try simp) <;> omega)]; exact x3
  replace x4 : w4.cell? ⟨w.heap.size, 4, none⟩ = some (.int .i64 a) := by rw [hc4 _ _ (by (try simp) <;> omega)]; exact x4
  replace x5 : w4.cell? ⟨w.heap.size, 5, none⟩ = some (.int .i64 b) := by rw [hc4 _ _ (by (try simp) <;> omega)]; exact x5
  have hB4 : Below w.heap.size w w4 := hB3.trans (hb4.mono (by (try simp) <;> omega))
  clear hc4 hf4 hb4
  go_wp2_with fail
  refine (eqIntS_0 _ _ _ _ _  ).mono ?_
  rintro e w5 ⟨rfl, hb5⟩
  obtain ⟨hc5, hf5⟩ := bcell hb5
  have hz5 := hb5.size
  try simp at hz5
  replace x0 : w5.cell? ⟨w.heap.size, 0, none⟩ = some (.int .i64 k) := by rw [hc5 _ _ (by (try simp) <;> omega)]; exact x0
  replace x1 : w5.cell? ⟨w.heap.size, 1, none⟩ = some (.int .i64 r) := by rw [hc5 _ _ (by (try simp) <;> omega)]; exact x1
  replace x2 : w5.cell? ⟨w.heap.size, 2, none⟩ = some (.int .i64 s) := by rw [hc5 _ _ (by (try simp) <;> omega)]; exact x2
  replace x3 : w5.cell? ⟨w.heap.size, 3, none⟩ = some (.int .i64 t) := by rw [hc5 _ _ (by (try simp) <;> omega)]; exact x3
  replace x4 : w5.cell? ⟨w.heap.size, 4, none⟩ = some (.int .i64 a) := by rw [hc5 _ _ (by (try simp) <;> omega)]; exact x4
  replace x5 : w5.cell? ⟨w.heap.size, 5, none⟩ = some (.int .i64 b) := by rw [hc5 _ _ (by (try simp) <;> omega)]; exact x5
  have hB5 : Below w.heap.size w w5 := hB4.trans (hb5.mono (by (try simp) <;> omega))
  clear hc5 hf5 hb5
  go_wp2_with fail
  refine (markIntS_0 _ _ _  ).mono ?_
  rintro e w6 ⟨rfl, hw6⟩
  subst hw6
  go_wp2_with fail
  refine (heldIntS_0 _ _ _ ).mono ?_
  rintro e w7 ⟨rfl, hw7⟩
  subst hw7
  go_wp2_with fail
  refine (toOp_any _ _ _ _ _ _ _).mono ?_
  rintro e w8 ⟨rfl, hb8⟩
  obtain ⟨hc8, hf8⟩ := bcell hb8
  have hz8 := hb8.size
  try simp at hz8
  have hB8 : Below w.heap.size w w8 := hB5.trans (hb8.mono (by (try simp) <;> omega))
  clear hc8 hf8 hb8
  go_wp2_with fail
  refine (implUses_any _ _ _ _ _ _ _).mono ?_
  intro e w9 hO'
  rw [hL] at hO'
  obtain ⟨ao', cap', rfl, hb9⟩ := hO'.none
  obtain ⟨hc9, hf9⟩ := bcell hb9
  have hz9 := hb9.size
  try simp at hz9
  have hB9 : Below w.heap.size w w9 := hB8.trans (hb9.mono (by (try simp) <;> omega))
  clear hc9 hf9 hb9
  go_wp2_with fail
  refine (eqIntS_0 _ _ _ _ _  ).mono ?_
  rintro e w10 ⟨rfl, hb10⟩
  obtain ⟨hc10, hf10⟩ := bcell hb10
  have hz10 := hb10.size
  try simp at hz10
  have hB10 : Below w.heap.size w w10 := hB9.trans (hb10.mono (by (try simp) <;> omega))
  clear hc10 hf10 hb10
  go_wp2_with fail
  refine (heldIntS_0 _ _ _ ).mono ?_
  rintro e w11 ⟨rfl, hw11⟩
  subst hw11
  go_wp2_with fail
  go_ret
  exact ⟨rfl, hB10⟩
set_option maxHeartbeats 4000000 in
theorem walk_1 (k r s t a b : Int) (u0 : Int) (hL : usesOf k r s t a b = [u0]) (w : World) :
    Calls Tryd.prog 9 #[.agg #[.int .i64 k, .int .i64 r, .int .i64 s, .int .i64 t, .int .i64 a, .int .i64 b]] w fun e w' => e = .returned (.bool true) ∧ Below w.heap.size w w' := by
  go_enter Tryd.func9, Tryd.ntmps9
  go_wp2_with fail
  refine (toOp_any _ _ _ _ _ _ _).mono ?_
  rintro e w1 ⟨rfl, hb1⟩
  obtain ⟨hc1, hf1⟩ := bcell hb1
  have hz1 := hb1.size
  try simp at hz1
  have x0 : w1.cell? ⟨w.heap.size, 0, none⟩ = some (.int .i64 k) := by rw [hc1 _ _ (by (try simp) <;> omega)]; simp [go_sem]
  have x1 : w1.cell? ⟨w.heap.size, 1, none⟩ = some (.int .i64 r) := by rw [hc1 _ _ (by (try simp) <;> omega)]; simp [go_sem]
  have x2 : w1.cell? ⟨w.heap.size, 2, none⟩ = some (.int .i64 s) := by rw [hc1 _ _ (by (try simp) <;> omega)]; simp [go_sem]
  have x3 : w1.cell? ⟨w.heap.size, 3, none⟩ = some (.int .i64 t) := by rw [hc1 _ _ (by (try simp) <;> omega)]; simp [go_sem]
  have x4 : w1.cell? ⟨w.heap.size, 4, none⟩ = some (.int .i64 a) := by rw [hc1 _ _ (by (try simp) <;> omega)]; simp [go_sem]
  have x5 : w1.cell? ⟨w.heap.size, 5, none⟩ = some (.int .i64 b) := by rw [hc1 _ _ (by (try simp) <;> omega)]; simp [go_sem]
  have hB1 : Below w.heap.size w w1 := ((Below.refl _ _).alloc (Nat.le_refl _) _).trans (hb1.mono (by (try simp) <;> omega))
  clear hc1 hf1 hb1
  go_wp2_with fail
  refine (specUses_any _ _ _ _ _ _ _).mono ?_
  intro e w2 hN
  rw [hL] at hN
  obtain ⟨bb, rfl, hbb1, hbb2, hbc, hb2⟩ := hN
  obtain ⟨hc2, hf2⟩ := bcell hb2
  have hz2 := hb2.size
  try simp at hz2
  replace x0 : w2.cell? ⟨w.heap.size, 0, none⟩ = some (.int .i64 k) := by rw [hc2 _ _ (by (try simp) <;> omega)]; exact x0
  replace x1 : w2.cell? ⟨w.heap.size, 1, none⟩ = some (.int .i64 r) := by rw [hc2 _ _ (by (try simp) <;> omega)]; exact x1
  replace x2 : w2.cell? ⟨w.heap.size, 2, none⟩ = some (.int .i64 s) := by rw [hc2 _ _ (by (try simp) <;> omega)]; exact x2
  replace x3 : w2.cell? ⟨w.heap.size, 3, none⟩ = some (.int .i64 t) := by rw [hc2 _ _ (by (try simp) <;> omega)]; exact x3
  replace x4 : w2.cell? ⟨w.heap.size, 4, none⟩ = some (.int .i64 a) := by rw [hc2 _ _ (by (try simp) <;> omega)]; exact x4
  replace x5 : w2.cell? ⟨w.heap.size, 5, none⟩ = some (.int .i64 b) := by rw [hc2 _ _ (by (try simp) <;> omega)]; exact x5
  have hB2 : Below w.heap.size w w2 := hB1.trans (hb2.mono (by (try simp) <;> omega))
  have y0 : w2.cell? ⟨bb, 0, none⟩ = some (.int .i64 u0) := hbc 0 (by simp)
  clear hc2 hf2 hb2 hbc
  go_wp2_with fail
  refine (toOp_any _ _ _ _ _ _ _).mono ?_
  rintro e w3 ⟨rfl, hb3⟩
  obtain ⟨hc3, hf3⟩ := bcell hb3
  have hz3 := hb3.size
  try simp at hz3
  replace x0 : w3.cell? ⟨w.heap.size, 0, none⟩ = some (.int .i64 k) := by rw [hc3 _ _ (by (try simp) <;> omega)]; exact x0
  replace x1 : w3.cell? ⟨w.heap.size, 1, none⟩ = some (.int .i64 r) := by rw [hc3 _ _ (by (try simp) <;> omega)]; exact x1
  replace x2 : w3.cell? ⟨w.heap.size, 2, none⟩ = some (.int .i64 s) := by rw [hc3 _ _ (by (try simp) <;> omega)]; exact x2
  replace x3 : w3.cell? ⟨w.heap.size, 3, none⟩ = some (.int .i64 t) := by rw [hc3 _ _ (by (try simp) <;> omega)]; exact x3
  replace x4 : w3.cell? ⟨w.heap.size, 4, none⟩ = some (.int .i64 a) := by rw [hc3 _ _ (by (try simp) <;> omega)]; exact x4
  replace x5 : w3.cell? ⟨w.heap.size, 5, none⟩ = some (.int .i64 b) := by rw [hc3 _ _ (by (try simp) <;> omega)]; exact x5
  have hB3 : Below w.heap.size w w3 := hB2.trans (hb3.mono (by (try simp) <;> omega))
  replace y0 : w3.cell? ⟨bb, 0, none⟩ = some (.int .i64 u0) := by rw [hc3 _ _ (by omega)]; exact y0
  clear hc3 hf3 hb3
  go_wp2_with fail
  refine (implUses_any _ _ _ _ _ _ _).mono ?_
  intro e w4 hO
  rw [hL] at hO
  obtain ⟨g, cap, rfl, hg1, hg2, hgc, hgf, hb4⟩ := hO.some (by simp)
  obtain ⟨hc4, hf4⟩ := bcell hb4
  have hz4 := hb4.size
  try simp at hz4
  replace x0 : w4.cell? ⟨w.heap.size, 0, none⟩ = some (.int .i64 k) := by rw [hc4 _ _ (by (try simp) <;> omega)]; exact x0
  replace x1 : w4.cell? ⟨w.heap.size, 1, none⟩ = some (.int .i64 r) := by rw [hc4 _ _ (by (try simp) <;> omega)]; exact x1
  replace x2 : w4.cell? ⟨w.heap.size, 2, none⟩ = some (.int .i64 s) := by rw [hc4 _ _ (by (try simp) <;> omega)]; exact x2
  replace x3 : w4.cell? ⟨w.heap.size, 3, none⟩ = some (.int .i64 t) := by rw [hc4 _ _ (by (try simp) <;> omega)]; exact x3
  replace x4 : w4.cell? ⟨w.heap.size, 4, none⟩ = some (.int .i64 a) := by rw [hc4 _ _ (by (try simp) <;> omega)]; exact x4
  replace x5 : w4.cell? ⟨w.heap.size, 5, none⟩ = some (.int .i64 b) := by rw [hc4 _ _ (by (try simp) <;> omega)]; exact x5
  have hB4 : Below w.heap.size w w4 := hB3.trans (hb4.mono (by (try simp) <;> omega))
  replace y0 : w4.cell? ⟨bb, 0, none⟩ = some (.int .i64 u0) := by rw [hc4 _ _ (by omega)]; exact y0
  have z0 : w4.cell? ⟨g, 0, none⟩ = some (.int .i64 u0) := hgc 0 (by simp)
  have f0 : w4.frozen? ⟨g, 0, none⟩ = false := hgf 0
  clear hgc hgf
  clear hc4 hf4 hb4
  go_wp2_with fail
  refine (eqIntS_1 g bb _ _ _ _ z0 y0).mono ?_
  rintro e w5 ⟨rfl, hb5⟩
  obtain ⟨hc5, hf5⟩ := bcell hb5
  have hz5 := hb5.size
  try simp at hz5
  replace x0 : w5.cell? ⟨w.heap.size, 0, none⟩ = some (.int .i64 k) := by rw [hc5 _ _ (by (try simp) <;> omega)]; exact x0
  replace x1 : w5.cell? ⟨w.heap.size, 1, none⟩ = some (.int .i64 r) := by rw [hc5 _ _ (by (try simp) <;> omega)]; exact x1
  replace x2 : w5.cell? ⟨w.heap.size, 2, none⟩ = some (.int .i64 s) := by rw [hc5 _ _ (by (try simp) <;> omega)]; exact x2
  replace x3 : w5.cell? ⟨w.heap.size, 3, none⟩ = some (.int .i64 t) := by rw [hc5 _ _ (by (try simp) <;> omega)]; exact x3
  replace x4 : w5.cell? ⟨w.heap.size, 4, none⟩ = some (.int .i64 a) := by rw [hc5 _ _ (by (try simp) <;> omega)]; exact x4
  replace x5 : w5.cell? ⟨w.heap.size, 5, none⟩ = some (.int .i64 b) := by rw [hc5 _ _ (by (try simp) <;> omega)]; exact x5
  have hB5 : Below w.heap.size w w5 := hB4.trans (hb5.mono (by (try simp) <;> omega))
  replace y0 : w5.cell? ⟨bb, 0, none⟩ = some (.int .i64 u0) := by rw [hc5 _ _ (by omega)]; exact y0
  replace z0 : w5.cell? ⟨g, 0, none⟩ = some (.int .i64 u0) := by rw [hc5 _ _ (by omega)]; exact z0
  replace f0 : w5.frozen? ⟨g, 0, none⟩ = false := by rw [hf5 _ _ (by omega)]; exact f0
  clear hc5 hf5 hb5
  go_wp2_with fail
  refine (markIntS_1 g _ _ _ z0 f0).mono ?_
  rintro e w6 ⟨rfl, hw6⟩
  have hz6 : w6.heap.size = w5.heap.size := by rw [hw6]; simp [World.setCell]
  have hB6 : Below w.heap.size w w6 := by rw [hw6]; exact (hB5.setCell (p := ⟨g, 0, none⟩) (by dsimp only; omega) _)
  replace x0 : w6.cell? ⟨w.heap.size, 0, none⟩ = some (.int .i64 k) := by rw [hw6]; simp [go_sem, x0]
  replace x1 : w6.cell? ⟨w.heap.size, 1, none⟩ = some (.int .i64 r) := by rw [hw6]; simp [go_sem, x1]
  replace x2 : w6.cell? ⟨w.heap.size, 2, none⟩ = some (.int .i64 s) := by rw [hw6]; simp [go_sem, x2]
  replace x3 : w6.cell? ⟨w.heap.size, 3, none⟩ = some (.int .i64 t) := by rw [hw6]; simp [go_sem, x3]
  replace x4 : w6.cell? ⟨w.heap.size, 4, none⟩ = some (.int .i64 a) := by rw [hw6]; simp [go_sem, x4]
  replace x5 : w6.cell? ⟨w.heap.size, 5, none⟩ = some (.int .i64 b) := by rw [hw6]; simp [go_sem, x5]
  replace y0 : w6.cell? ⟨bb, 0, none⟩ = some (.int .i64 u0) := by rw [hw6]; simp [go_sem, y0]
  replace z0 : w6.cell? ⟨g, 0, none⟩ = some (.int .i64 1) := by rw [hw6]; simp [go_sem, z0]
  clear hw6 f0
  go_wp2_with fail
  refine (heldIntS_1 g _ _ z0).mono ?_
  rintro e w7 ⟨rfl, hw7⟩
  subst hw7
  go_wp2_with fail
  refine (toOp_any _ _ _ _ _ _ _).mono ?_
  rintro e w8 ⟨rfl, hb8⟩
  obtain ⟨hc8, hf8⟩ := bcell hb8
  have hz8 := hb8.size
  try simp at hz8
  have hB8 : Below w.heap.size w w8 := hB6.trans (hb8.mono (by (try simp) <;> omega))
  replace y0 : w8.cell? ⟨bb, 0, none⟩ = some (.int .i64 u0) := by rw [hc8 _ _ (by omega)]; exact y0
  replace z0 : w8.cell? ⟨g, 0, none⟩ = some (.int .i64 1) := by rw [hc8 _ _ (by omega)]; exact z0
  clear hc8 hf8 hb8
  go_wp2_with fail
  refine (implUses_any _ _ _ _ _ _ _).mono ?_
  intro e w9 hO'
  rw [hL] at hO'
  obtain ⟨g', cap', rfl, hg1', hg2', hgc', hgf', hb9⟩ := hO'.some (by simp)
  obtain ⟨hc9, hf9⟩ := bcell hb9
  have hz9 := hb9.size
  try simp at hz9
  have hB9 : Below w.heap.size w w9 := hB8.trans (hb9.mono (by (try simp) <;> omega))
  replace y0 : w9.cell? ⟨bb, 0, none⟩ = some (.int .i64 u0) := by rw [hc9 _ _ (by omega)]; exact y0
  replace z0 : w9.cell? ⟨g, 0, none⟩ = some (.int .i64 1) := by rw [hc9 _ _ (by omega)]; exact z0
  have v0 : w9.cell? ⟨g', 0, none⟩ = some (.int .i64 u0) := hgc' 0 (by simp)
  clear hc9 hf9 hb9
  go_wp2_with fail
  refine (eqIntS_1 g' bb _ _ _ _ v0 y0).mono ?_
  rintro e w10 ⟨rfl, hb10⟩
  obtain ⟨hc10, hf10⟩ := bcell hb10
  have hz10 := hb10.size
  try simp at hz10
  have hB10 : Below w.heap.size w w10 := hB9.trans (hb10.mono (by (try simp) <;> omega))
  replace z0 : w10.cell? ⟨g, 0, none⟩ = some (.int .i64 1) := by rw [hc10 _ _ (by omega)]; exact z0
  clear hc10 hf10 hb10
  go_wp2_with fail
  refine (heldIntS_1 g _ _ z0).mono ?_
  rintro e w11 ⟨rfl, hw11⟩
  subst hw11
  go_wp2_with fail
  go_ret
  exact ⟨rfl, hB10⟩
set_option maxHeartbeats 4000000 in
theorem walk_2 (k r s t a b : Int) (u0 u1 : Int) (hL : usesOf k r s t a b = [u0, u1]) (w : World) :
    Calls Tryd.prog 9 #[.agg #[.int .i64 k, .int .i64 r, .int .i64 s, .int .i64 t, .int .i64 a, .int .i64 b]] w fun e w' => e = .returned (.bool true) ∧ Below w.heap.size w w' := by
  go_enter Tryd.func9, Tryd.ntmps9
  go_wp2_with fail
  refine (toOp_any _ _ _ _ _ _ _).mono ?_
  rintro e w1 ⟨rfl, hb1⟩
  obtain ⟨hc1, hf1⟩ := bcell hb1
  have hz1 := hb1.size
  try simp at hz1
  have x0 : w1.cell? ⟨w.heap.size, 0, none⟩ = some (.int .i64 k) := by rw [hc1 _ _ (by (try simp) <;> omega)]; simp [go_sem]
  have x1 : w1.cell? ⟨w.heap.size, 1, none⟩ = some (.int .i64 r) := by rw [hc1 _ _ (by (try simp) <;> omega)]; simp [go_sem]
  have x2 : w1.cell? ⟨w.heap.size, 2, none⟩ = some (.int .i64 s) := by rw [hc1 _ _ (by (try simp) <;> omega)]; simp [go_sem]
  have x3 : w1.cell? ⟨w.heap.size, 3, none⟩ = some (.int .i64 t) := by rw [hc1 _ _ (by (try simp) <;> omega)]; simp [go_sem]
  have x4 : w1.cell? ⟨w.heap.size, 4, none⟩ = some (.int .i64 a) := by rw [hc1 _ _ (by (try simp) <;> omega)]; simp [go_sem]
  have x5 : w1.cell? ⟨w.heap.size, 5, none⟩ = some (.int .i64 b) := by rw [hc1 _ _ (by (try simp) <;> omega)]; simp [go_sem]
  have hB1 : Below w.heap.size w w1 := ((Below.refl _ _).alloc (Nat.le_refl _) _).trans (hb1.mono (by (try simp) <;> omega))
  clear hc1 hf1 hb1
  go_wp2_with fail
  refine (specUses_any _ _ _ _ _ _ _).mono ?_
  intro e w2 hN
  rw [hL] at hN
  obtain ⟨bb, rfl, hbb1, hbb2, hbc, hb2⟩ := hN
  obtain ⟨hc2, hf2⟩ := bcell hb2
  have hz2 := hb2.size
  try simp at hz2
  replace x0 : w2.cell? ⟨w.heap.size, 0, none⟩ = some (.int .i64 k) := by rw [hc2 _ _ (by (try simp) <;> omega)]; exact x0
  replace x1 : w2.cell? ⟨w.heap.size, 1, none⟩ = some (.int .i64 r) := by rw [hc2 _ _ (by (try simp) <;> omega)]; exact x1
  replace x2 : w2.cell? ⟨w.heap.size, 2, none⟩ = some (.int .i64 s) := by rw [hc2 _ _ (by (try simp) <;> omega)]; exact x2
  replace x3 : w2.cell? ⟨w.heap.size, 3, none⟩ = some (.int .i64 t) := by rw [hc2 _ _ (by (try simp) <;> omega)]; exact x3
  replace x4 : w2.cell? ⟨w.heap.size, 4, none⟩ = some (.int .i64 a) := by rw [hc2 _ _ (by (try simp) <;> omega)]; exact x4
  replace x5 : w2.cell? ⟨w.heap.size, 5, none⟩ = some (.int .i64 b) := by rw [hc2 _ _ (by (try simp) <;> omega)]; exact x5
  have hB2 : Below w.heap.size w w2 := hB1.trans (hb2.mono (by (try simp) <;> omega))
  have y0 : w2.cell? ⟨bb, 0, none⟩ = some (.int .i64 u0) := hbc 0 (by simp)
  have y1 : w2.cell? ⟨bb, 1, none⟩ = some (.int .i64 u1) := hbc 1 (by simp)
  clear hc2 hf2 hb2 hbc
  go_wp2_with fail
  refine (toOp_any _ _ _ _ _ _ _).mono ?_
  rintro e w3 ⟨rfl, hb3⟩
  obtain ⟨hc3, hf3⟩ := bcell hb3
  have hz3 := hb3.size
  try simp at hz3
  replace x0 : w3.cell? ⟨w.heap.size, 0, none⟩ = some (.int .i64 k) := by rw [hc3 _ _ (by (try simp) <;> omega)]; exact x0
  replace x1 : w3.cell? ⟨w.heap.size, 1, none⟩ = some (.int .i64 r) := by rw [hc3 _ _ (by (try simp) <;> omega)]; exact x1
  replace x2 : w3.cell? ⟨w.heap.size, 2, none⟩ = some (.int .i64 s) := by rw [hc3 _ _ (by (try simp) <;> omega)]; exact x2
  replace x3 : w3.cell? ⟨w.heap.size, 3, none⟩ = some (.int .i64 t) := by rw [hc3 _ _ (by (try simp) <;> omega)]; exact x3
  replace x4 : w3.cell? ⟨w.heap.size, 4, none⟩ = some (.int .i64 a) := by rw [hc3 _ _ (by (try simp) <;> omega)]; exact x4
  replace x5 : w3.cell? ⟨w.heap.size, 5, none⟩ = some (.int .i64 b) := by rw [hc3 _ _ (by (try simp) <;> omega)]; exact x5
  have hB3 : Below w.heap.size w w3 := hB2.trans (hb3.mono (by (try simp) <;> omega))
  replace y0 : w3.cell? ⟨bb, 0, none⟩ = some (.int .i64 u0) := by rw [hc3 _ _ (by omega)]; exact y0
  replace y1 : w3.cell? ⟨bb, 1, none⟩ = some (.int .i64 u1) := by rw [hc3 _ _ (by omega)]; exact y1
  clear hc3 hf3 hb3
  go_wp2_with fail
  refine (implUses_any _ _ _ _ _ _ _).mono ?_
  intro e w4 hO
  rw [hL] at hO
  obtain ⟨g, cap, rfl, hg1, hg2, hgc, hgf, hb4⟩ := hO.some (by simp)
  obtain ⟨hc4, hf4⟩ := bcell hb4
  have hz4 := hb4.size
  try simp at hz4
  replace x0 : w4.cell? ⟨w.heap.size, 0, none⟩ = some (.int .i64 k) := by rw [hc4 _ _ (by (try simp) <;> omega)]; exact x0
  replace x1 : w4.cell? ⟨w.heap.size, 1, none⟩ = some (.int .i64 r) := by rw [hc4 _ _ (by (try simp) <;> omega)]; exact x1
  replace x2 : w4.cell? ⟨w.heap.size, 2, none⟩ = some (.int .i64 s) := by rw [hc4 _ _ (by (try simp) <;> omega)]; exact x2
  replace x3 : w4.cell? ⟨w.heap.size, 3, none⟩ = some (.int .i64 t) := by rw [hc4 _ _ (by (try simp) <;> omega)]; exact x3
  replace x4 : w4.cell? ⟨w.heap.size, 4, none⟩ = some (.int .i64 a) := by rw [hc4 _ _ (by (try simp) <;> omega)]; exact x4
  replace x5 : w4.cell? ⟨w.heap.size, 5, none⟩ = some (.int .i64 b) := by rw [hc4 _ _ (by (try simp) <;> omega)]; exact x5
  have hB4 : Below w.heap.size w w4 := hB3.trans (hb4.mono (by (try simp) <;> omega))
  replace y0 : w4.cell? ⟨bb, 0, none⟩ = some (.int .i64 u0) := by rw [hc4 _ _ (by omega)]; exact y0
  have z0 : w4.cell? ⟨g, 0, none⟩ = some (.int .i64 u0) := hgc 0 (by simp)
  have f0 : w4.frozen? ⟨g, 0, none⟩ = false := hgf 0
  replace y1 : w4.cell? ⟨bb, 1, none⟩ = some (.int .i64 u1) := by rw [hc4 _ _ (by omega)]; exact y1
  have z1 : w4.cell? ⟨g, 1, none⟩ = some (.int .i64 u1) := hgc 1 (by simp)
  have f1 : w4.frozen? ⟨g, 1, none⟩ = false := hgf 1
  clear hgc hgf
  clear hc4 hf4 hb4
  go_wp2_with fail
  refine (eqIntS_2 g bb _ _ _ _ _ z0 z1 y0 y1).mono ?_
  rintro e w5 ⟨rfl, hb5⟩
  obtain ⟨hc5, hf5⟩ := bcell hb5
  have hz5 := hb5.size
  try simp at hz5
  replace x0 : w5.cell? ⟨w.heap.size, 0, none⟩ = some (.int .i64 k) := by rw [hc5 _ _ (by (try simp) <;> omega)]; exact x0
  replace x1 : w5.cell? ⟨w.heap.size, 1, none⟩ = some (.int .i64 r) := by rw [hc5 _ _ (by (try simp) <;> omega)]; exact x1
  replace x2 : w5.cell? ⟨w.heap.size, 2, none⟩ = some (.int .i64 s) := by rw [hc5 _ _ (by (try simp) <;> omega)]; exact x2
  replace x3 : w5.cell? ⟨w.heap.size, 3, none⟩ = some (.int .i64 t) := by rw [hc5 _ _ (by (try simp) <;> omega)]; exact x3
  replace x4 : w5.cell? ⟨w.heap.size, 4, none⟩ = some (.int .i64 a) := by rw [hc5 _ _ (by (try simp) <;> omega)]; exact x4
  replace x5 : w5.cell? ⟨w.heap.size, 5, none⟩ = some (.int .i64 b) := by rw [hc5 _ _ (by (try simp) <;> omega)]; exact x5
  have hB5 : Below w.heap.size w w5 := hB4.trans (hb5.mono (by (try simp) <;> omega))
  replace y0 : w5.cell? ⟨bb, 0, none⟩ = some (.int .i64 u0) := by rw [hc5 _ _ (by omega)]; exact y0
  replace z0 : w5.cell? ⟨g, 0, none⟩ = some (.int .i64 u0) := by rw [hc5 _ _ (by omega)]; exact z0
  replace f0 : w5.frozen? ⟨g, 0, none⟩ = false := by rw [hf5 _ _ (by omega)]; exact f0
  replace y1 : w5.cell? ⟨bb, 1, none⟩ = some (.int .i64 u1) := by rw [hc5 _ _ (by omega)]; exact y1
  replace z1 : w5.cell? ⟨g, 1, none⟩ = some (.int .i64 u1) := by rw [hc5 _ _ (by omega)]; exact z1
  replace f1 : w5.frozen? ⟨g, 1, none⟩ = false := by rw [hf5 _ _ (by omega)]; exact f1
  clear hc5 hf5 hb5
  go_wp2_with fail
  refine (markIntS_2 g _ _ _ _ z0 z1 f0 f1).mono ?_
  rintro e w6 ⟨rfl, hw6⟩
  have hz6 : w6.heap.size = w5.heap.size := by rw [hw6]; simp [World.setCell]
  have hB6 : Below w.heap.size w w6 := by rw [hw6]; exact ((hB5.setCell (p := ⟨g, 0, none⟩) (by dsimp only; omega) _).setCell (p := ⟨g, 1, none⟩) (by dsimp only; omega) _)
  replace x0 : w6.cell? ⟨w.heap.size, 0, none⟩ = some (.int .i64 k) := by rw [hw6]; simp [go_sem, x0]
  replace x1 : w6.cell? ⟨w.heap.size, 1, none⟩ = some (.int .i64 r) := by rw [hw6]; simp [go_sem, x1]
  replace x2 : w6.cell? ⟨w.heap.size, 2, none⟩ = some (.int .i64 s) := by rw [hw6]; simp [go_sem, x2]
  replace x3 : w6.cell? ⟨w.heap.size, 3, none⟩ = some (.int .i64 t) := by rw [hw6]; simp [go_sem, x3]
  replace x4 : w6.cell? ⟨w.heap.size, 4, none⟩ = some (.int .i64 a) := by rw [hw6]; simp [go_sem, x4]
  replace x5 : w6.cell? ⟨w.heap.size, 5, none⟩ = some (.int .i64 b) := by rw [hw6]; simp [go_sem, x5]
  replace y0 : w6.cell? ⟨bb, 0, none⟩ = some (.int .i64 u0) := by rw [hw6]; simp [go_sem, y0]
  replace z0 : w6.cell? ⟨g, 0, none⟩ = some (.int .i64 1) := by rw [hw6]; simp [go_sem, z0]
  replace y1 : w6.cell? ⟨bb, 1, none⟩ = some (.int .i64 u1) := by rw [hw6]; simp [go_sem, y1]
  replace z1 : w6.cell? ⟨g, 1, none⟩ = some (.int .i64 2) := by rw [hw6]; simp [go_sem, z1]
  clear hw6 f0 f1
  go_wp2_with fail
  refine (heldIntS_2 g _ _ z0 z1).mono ?_
  rintro e w7 ⟨rfl, hw7⟩
  subst hw7
  go_wp2_with fail
  refine (toOp_any _ _ _ _ _ _ _).mono ?_
  rintro e w8 ⟨rfl, hb8⟩
  obtain ⟨hc8, hf8⟩ := bcell hb8
  have hz8 := hb8.size
  try simp at hz8
  have hB8 : Below w.heap.size w w8 := hB6.trans (hb8.mono (by (try simp) <;> omega))
  replace y0 : w8.cell? ⟨bb, 0, none⟩ = some (.int .i64 u0) := by rw [hc8 _ _ (by omega)]; exact y0
  replace z0 : w8.cell? ⟨g, 0, none⟩ = some (.int .i64 1) := by rw [hc8 _ _ (by omega)]; exact z0
  replace y1 : w8.cell? ⟨bb, 1, none⟩ = some (.int .i64 u1) := by rw [hc8 _ _ (by omega)]; exact y1
  replace z1 : w8.cell? ⟨g, 1, none⟩ = some (.int .i64 2) := by rw [hc8 _ _ (by omega)]; exact z1
  clear hc8 hf8 hb8
  go_wp2_with fail
  refine (implUses_any _ _ _ _ _ _ _).mono ?_
  intro e w9 hO'
  rw [hL] at hO'
  obtain ⟨g', cap', rfl, hg1', hg2', hgc', hgf', hb9⟩ := hO'.some (by simp)
  obtain ⟨hc9, hf9⟩ := bcell hb9
  have hz9 := hb9.size
  try simp at hz9
  have hB9 : Below w.heap.size w w9 := hB8.trans (hb9.mono (by (try simp) <;> omega))
  replace y0 : w9.cell? ⟨bb, 0, none⟩ = some (.int .i64 u0) := by rw [hc9 _ _ (by omega)]; exact y0
  replace z0 : w9.cell? ⟨g, 0, none⟩ = some (.int .i64 1) := by rw [hc9 _ _ (by omega)]; exact z0
  have v0 : w9.cell? ⟨g', 0, none⟩ = some (.int .i64 u0) := hgc' 0 (by simp)
  replace y1 : w9.cell? ⟨bb, 1, none⟩ = some (.int .i64 u1) := by rw [hc9 _ _ (by omega)]; exact y1
  replace z1 : w9.cell? ⟨g, 1, none⟩ = some (.int .i64 2) := by rw [hc9 _ _ (by omega)]; exact z1
  have v1 : w9.cell? ⟨g', 1, none⟩ = some (.int .i64 u1) := hgc' 1 (by simp)
  clear hc9 hf9 hb9
  go_wp2_with fail
  refine (eqIntS_2 g' bb _ _ _ _ _ v0 v1 y0 y1).mono ?_
  rintro e w10 ⟨rfl, hb10⟩
  obtain ⟨hc10, hf10⟩ := bcell hb10
  have hz10 := hb10.size
  try simp at hz10
  have hB10 : Below w.heap.size w w10 := hB9.trans (hb10.mono (by (try simp) <;> omega))
  replace z0 : w10.cell? ⟨g, 0, none⟩ = some (.int .i64 1) := by rw [hc10 _ _ (by omega)]; exact z0
  replace z1 : w10.cell? ⟨g, 1, none⟩ = some (.int .i64 2) := by rw [hc10 _ _ (by omega)]; exact z1
  clear hc10 hf10 hb10
  go_wp2_with fail
  refine (heldIntS_2 g _ _ z0 z1).mono ?_
  rintro e w11 ⟨rfl, hw11⟩
  subst hw11
  go_wp2_with fail
  go_ret
  exact ⟨rfl, hB10⟩
theorem walk (k r s t a b : Int) (w : World) :
    Calls Tryd.prog 9 #[.agg #[.int .i64 k, .int .i64 r, .int .i64 s, .int .i64 t, .int .i64 a, .int .i64 b]] w fun e w' => e = .returned (.bool true) ∧ Below w.heap.size w w' := by
  have h : usesOf k r s t a b = [] ∨ (∃ u, usesOf k r s t a b = [u]) ∨ ∃ u v, usesOf k r s t a b = [u, v] := by
    unfold usesOf usesL
    split
    · split
      · exact .inr (.inl ⟨_, rfl⟩)
      · split
        · exact .inr (.inr ⟨_, _, rfl⟩)
        · split
          · exact .inr (.inl ⟨_, rfl⟩)
          · exact .inl rfl
    · exact .inl rfl
  rcases h with h | ⟨u, h⟩ | ⟨u, v, h⟩
  · exact walk_0 k r s t a b h w
  · exact walk_1 k r s t a b u h w
  · exact walk_2 k r s t a b u v h w

set_option maxRecDepth 20000 in
theorem contract (H : Type) (enc : TypeId × Value → H) (W : World) (base : Nat) (args : Array Value) (ds gs : List (DataW H)) (before : List MemPlace)
    (hval : ∀ (j : Nat) t v, Tryd.f9.params[j]? = some t → args[j]? = some v → Value.okWide Tryd.prog W .any base t v)
    (hW : DataW.Whole enc Tryd.prog Tryd.f9.params.toList Rows.fnExactOpUsesSpec.vars false W args.toList ds gs before) (_hL : laidMetH Tryd.prog Rows.fnExactOpUsesRow.laid W) :
    Calls Tryd.prog 9 args W fun e W' => ∃ v, e = .returned v ∧ Rows.fnExactOpUsesSpec.post enc Tryd.prog Tryd.f9 false true false false W args v W' := by
  have hW' := hW
  obtain ⟨p, q, hA0, hV, rfl, hfz, hnd⟩ := hW
  have hA : DataW.TrodAll enc Tryd.prog W 0 (fun _ => true) true Tryd.f9.params.toList args.toList ds p := hA0
  rw [Tryd.params9] at hA hval
  obtain ⟨v0, vs0, d0, ds0, p0, q0, hargs, rfl, rfl, h0, r0⟩ := trodAll_cons hA
  obtain ⟨rfl, rfl, rfl⟩ := trodAll_nil r0
  obtain rfl : args = #[v0] := by cases args; simp_all
  obtain ⟨rfl, rfl⟩ := trodVars_none hV
  obtain ⟨k0, r0, s0, t0, a0, b0, rfl, rfl, rfl, wk0, wr0, ws0, wt0, wa0, wb0⟩ := open_op (hval 0 36 v0 rfl rfl) h0
  clear hA0
  simp only [List.append_nil] at hW'
  refine (walk k0 r0 s0 t0 a0 b0 W).mono fun e W' ⟨he, bel⟩ => ?_
  subst he
  exact ⟨_, rfl, _, _, _, [], _, [], hW', trodAll_mk1 (shut_bool Tryd.underlying4 _), (trodAll_cons_mk (shut_op enc k0 r0 s0 t0 a0 b0 wk0 wr0 ws0 wt0 wa0 wb0 _ _ _) trodAll_mk0), rfl, bel.frame _, fun h => by cases h⟩
theorem laid_met (os : Os) : laidMet Tryd.prog Rows.fnExactOpUsesRow.laid ((putAll (World.settled Tryd.prog os).heap.size (World.holding Tryd.prog os ⟨errBlocks, #[], []⟩)).forCall (fun _ _ => 0) ⟨#[], #[.agg #[.int .i64 0, .int .i64 0, .int .i64 0, .int .i64 0, .int .i64 0, .int .i64 0]], []⟩).memory :=
  laidMet_of_run' 10 (by kernel_rfl) (by kernel_rfl)
theorem reads (os : Os) {H : Type} (enc : TypeId × Value → H) : ∃ places, DataW.whole enc Tryd.prog ((putAll (World.settled Tryd.prog os).heap.size (World.holding Tryd.prog os ⟨errBlocks, #[], []⟩)).forCall (fun _ _ => 0) ⟨#[], #[.agg #[.int .i64 0, .int .i64 0, .int .i64 0, .int .i64 0, .int .i64 0, .int .i64 0]], []⟩).memory Tryd.f9.params.toList Rows.fnExactOpUsesSpec.vars false #[.agg #[.int .i64 0, .int .i64 0, .int .i64 0, .int .i64 0, .int .i64 0, .int .i64 0]].toList 8 = some ([.agg [.lit (.int .i64 0), .lit (.int .i64 0), .lit (.int .i64 0), .lit (.int .i64 0), .agg [.lit (.int .i64 0), .lit (.int .i64 0)]]], [], places) :=
  ⟨[], by kernel_rfl⟩
set_option maxRecDepth 100000 in
theorem lifted (os : Os) (started : os.Started) (H : Type) (enc : TypeId × Value → H) (F : Stop.Interp) :
    ReturnsInHanded {} Tryd.checked os 9 .any ((OpenSpec.ofChange Rows.fnExactOpUsesSpec).preRow enc Tryd.prog Tryd.f9 Rows.fnExactOpUsesRow.domain false Rows.fnExactOpUsesRow.laid) (((OpenSpec.ofChange Rows.fnExactOpUsesSpec).at F).post enc Tryd.prog Tryd.f9 false true false false) := by
  obtain ⟨places, hx⟩ := reads os enc
  refine returnsInHanded_of_row (C := Tryd.checked) (s := OpenSpec.ofChange Rows.fnExactOpUsesSpec) own started (by kernel_rfl) Tryd.func9
    (witness_row_atRef (enc := enc) (C := Tryd.checked) false (putAll (World.settled Tryd.prog os).heap.size (World.holding Tryd.prog os ⟨errBlocks, #[], []⟩)) #[.agg #[.int .i64 0, .int .i64 0, .int .i64 0, .int .i64 0, .int .i64 0, .int .i64 0]] rfl (by kernel_rfl) (by kernel_rfl) (by kernel_rfl)
      (OpenSpec.preRow_of_cond 8 hx (by kernel_rfl) (fun k hk => by cases hk) (by kernel_rfl) (laid_met os))) ?_
  intro W base args ds gs before hval hW _ _ _ hL _ _
  exact contract H enc W base args ds gs before hval hW hL
theorem said : Rows.FnExactOpUsesSaid :=
  OpenClaim.holds_of_cond 9 Tryd.f9 rfl rfl rfl rfl rfl rfl rfl ⟨rfl, rfl, rfl, rfl, rfl⟩ rfl rfl rfl rfl rfl (by kernel_rfl) Tryd.func9 (by kernel_rfl)
    (of_decide_eq_true (by kernel_rfl)) (by unfold Func.isWrapper; first | (rw [if_pos (by decide +kernel)]; kernel_rfl) | (rw [if_neg (by decide +kernel)]; exact ⟨rfl, rfl⟩))
    (fun os started H enc _ F => by rw [OpenClaim.pre_eq_preRow]; exact lifted os started H enc F)
theorem plain (f : FuncId) (fn : Func) (hf : Tryd.pinned.checked.prog.funcNamed Rows.fnExactOpUsesRow.func = some f) (hfn : Tryd.pinned.checked.prog.funcs[f]? = some fn) :
    true = Tryd.pinned.checked.prog.looks [] ∧ ∀ (j : Nat) t, fn.params[j]? = some t → Tryd.pinned.checked.prog.wantsStandIn t = false := by
  obtain rfl : f = 9 := Option.some.inj ((show Tryd.prog.funcNamed Rows.fnExactOpUsesRow.func = some 9 by kernel_rfl).symm.trans hf) |>.symm
  obtain rfl : fn = Tryd.f9 := (Option.some.inj (Tryd.func9.symm.trans hfn)).symm
  refine ⟨by kernel_rfl, fun j t ht => ?_⟩
  rw [Tryd.params9] at ht
  obtain rfl : t = 36 := by simpa using Array.mem_of_getElem? ht
  exact (show Tryd.prog.wantsStandIn 36 = false by kernel_rfl)
theorem card : Rows.FnExactOpUsesCardSaid :=
  Claim7.holds_tied_plain_at .later [] _ _ _ _ said (fun _ h => by cases h) (by kernel_rfl) (fun _ h => by cases h) fnExactOpUses_row_tie rfl ⟨rfl, rfl⟩ (by kernel_rfl) rfl plain (by kernel_rfl)
end ExactOpUses

/-- the given statement -/
theorem exactOpUses_holds : Rows.FnExactOpUsesCardSaid := ExactOpUses.card
#print axioms exactOpUses_holds
end Go.Proofs.YtfadpahbmngmfaaDoor
