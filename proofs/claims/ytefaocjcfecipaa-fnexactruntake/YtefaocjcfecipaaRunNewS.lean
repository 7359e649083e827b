/-
  What spec.RunNew answers over this translation, at every number, place and value.
-/
import Derived.Test.YtefaocjcfecipaaRunNewA
namespace Go.Proofs.Ytefaocjcfecipaa
open Go.ChangeShapes Go.WideShapes Go.ChangeAt Go.RowKit Go.Joins
theorem lit_at {base : Nat} {e : TypeId} {size : Nat} (w : World) (cs : Array Value) (n g : Nat) (hg : g = w.heap.size) (hb : base ≤ w.heap.size) (hm : n ≤ maxLen) (hs : cs.size = n * size) : (w.alloc (.cells cs e)).ownsRow base e size (.slice (some ⟨g, 0, none⟩) n n) n cs.toList := by
  subst hg; exact World.ownsRow_lit w cs n hb hm hs
set_option maxRecDepth 20000 in
set_option maxHeartbeats 4000000 in
theorem l11New_any (i a k n : Int) (w : World) :
    Calls Try.prog 33 #[.int .i64 i, .int .i64 a, .agg #[.int .i64 k, .int .i64 n]] w fun e w' => ∃ p, e = .returned ((newR i a k n).val p) ∧ OwnRun w' w.heap.size (newR i a k n) p ∧ Below w.heap.size w w' := by
  go_enter Try.func33, Try.ntmps33
  go_wp2_with fail
  refine bodyPost_ret (v := (newR i a k n).val ⟨some ⟨w.heap.size + 1 + 1, 0, none⟩, 4, some ⟨w.heap.size + 1 + 1 + 1, 0, none⟩, 0, some ⟨w.heap.size + 1 + 1 + 1 + 1, 0, none⟩, 0, some ⟨w.heap.size + 1 + 1 + 1 + 1 + 1, 0, none⟩, 0⟩) (by simp [results, Try.results33, go_sem, newR]) rfl ⟨_, rfl, ⟨?_, ?_, ?_, ?_, ?_, ?_, ?_, ?_, ?_, ?_⟩, ?_⟩
  · exact World.ownsRow.alloc (World.ownsRow.alloc (World.ownsRow.alloc (lit_at _ #[.int .i64 k, .int .i64 n, .int .i64 0, .int .i64 0, .int .i64 0, .int .i64 0, .int .i64 0, .int .i64 0] 4 _ (by simp) (by simp; omega) (by unfold maxLen; omega) rfl) _) _) _
  · exact World.ownsRow.alloc (World.ownsRow.alloc (lit_at _ #[] 0 _ (by simp) (by simp; omega) (by unfold maxLen; omega) rfl) _) _
  · exact World.ownsRow.alloc (lit_at _ #[] 0 _ (by simp) (by simp; omega) (by unfold maxLen; omega) rfl) _
  · exact lit_at _ #[] 0 _ (by simp) (by simp; omega) (by unfold maxLen; omega) rfl
  · exact fun q e1 e2 => by simp [Value.ownBlock] at e1 e2; omega
  · exact fun q e1 e2 => by simp [Value.ownBlock] at e1 e2; omega
  · exact fun q e1 e2 => by simp [Value.ownBlock] at e1 e2; omega
  · exact fun q e1 e2 => by simp [Value.ownBlock] at e1 e2; omega
  · exact fun q e1 e2 => by simp [Value.ownBlock] at e1 e2; omega
  · exact fun q e1 e2 => by simp [Value.ownBlock] at e1 e2; omega
  · exact ((((((Below.refl _ _).alloc (Nat.le_refl _) _).alloc (by simp) _).alloc (by simp; omega) _).alloc (by simp; omega) _).alloc (by simp; omega) _).alloc (by simp; omega) _
theorem OwnRun.keep {w w' : World} {B r : Nat} {d : RunD} {p : RunP} (h : OwnRun w B d p) (hg : w.grownBy w' (some r)) (hr : r < B) : OwnRun w' B d p := by
  have k : ∀ v : Value, Hid (∀ k, v.ownBlock = some k → B ≤ k) → v.ownBlock = none ∨ v.ownBlock ≠ some r := fun v hv => by
    cases e : v.ownBlock with
    | none => exact .inl rfl
    | some k => exact .inr fun e' => by have := hv.out k e; cases e'; omega
  exact ⟨World.ownsRow.kept h.o0 hg (k _ (fun q e => (World.ownsRow.lt h.o0 q e).1)), World.ownsRow.kept h.o1 hg (k _ (fun q e => (World.ownsRow.lt h.o1 q e).1)), World.ownsRow.kept h.o2 hg (k _ (fun q e => (World.ownsRow.lt h.o2 q e).1)), World.ownsRow.kept h.o3 hg (k _ (fun q e => (World.ownsRow.lt h.o3 q e).1)), h.x01, h.x02, h.x03, h.x12, h.x13, h.x23⟩
theorem mem_runZ (w : World) (S : Nat) : RunMem S w runZ runPZ := ⟨⟨_, _, rfl, .inl rfl⟩, ⟨_, _, rfl, .inl rfl⟩, ⟨_, _, rfl, .inl rfl⟩, ⟨_, _, rfl, .inl rfl⟩⟩
set_option maxRecDepth 20000 in
set_option maxHeartbeats 4000000 in
theorem specNew_any (i a k n : Int) (w : World) :
    Calls Try.prog 9 #[.int .i64 i, .int .i64 a, .agg #[.int .i64 k, .int .i64 n]] w fun e w' => ∃ p, e = .returned (.tuple #[(newD i a k n).val p, .bool (newB i a k n)]) ∧ OwnRun w' w.heap.size (newD i a k n) p ∧ Below w.heap.size w w' := by
  have fin : ∀ (h : newB i a k n = false) (w' : World), Below w.heap.size w w' → ∃ p, Ending.returned (.tuple #[runZ.val runPZ, .bool false]) = .returned (.tuple #[(newD i a k n).val p, .bool (newB i a k n)]) ∧ OwnRun w' w.heap.size (newD i a k n) p ∧ Below w.heap.size w w' :=
    fun h w' hb => ⟨runPZ, by rw [newD_no h, h], by rw [newD_no h]; exact own_runZ _ _, hb⟩
  cases h1 : isRunB i
  case false =>
    go_enter Try.func9, Try.ntmps9
    go_wp2_with (go_at_call 30; refine (l6In_any _ _ _ _).mono ?_; rintro e w' ⟨rfl, rfl⟩; rw [show (decide (1 ≤ i) && decide (i ≤ 6)) = isRunB i from rfl, h1])
    exact bodyPost_ret (v := .tuple #[runZ.val runPZ, .bool false]) (by simp [results, Try.results9, go_sem, runZ, runPZ]) rfl (fin (by simp [newB, h1]) _ (((Below.refl _ _).alloc (Nat.le_refl _) _).alloc (by simp) _))
  case true =>
  cases h2 : isPlaceB a
  case false =>
    go_enter Try.func9, Try.ntmps9
    go_wp2_with (first | (go_at_call 30; refine (l6In_any _ _ _ _).mono ?_; rintro e w' ⟨rfl, rfl⟩; rw [show (decide (1 ≤ i) && decide (i ≤ 6)) = isRunB i from rfl, h1]) | (go_at_call 31; refine (l2To_any _ _).mono ?_; rintro e w' ⟨rfl, rfl⟩; rw [h2]))
    exact bodyPost_ret (v := .tuple #[runZ.val runPZ, .bool false]) (by simp [results, Try.results9, go_sem, runZ, runPZ]) rfl (fin (by simp [newB, h2]) _ (((Below.refl _ _).alloc (Nat.le_refl _) _).alloc (by simp) _))
  case true =>
  cases h3 : okB k n
  case false =>
    go_enter Try.func9, Try.ntmps9
    go_wp2_with (first | (go_at_call 30; refine (l6In_any _ _ _ _).mono ?_; rintro e w' ⟨rfl, rfl⟩; rw [show (decide (1 ≤ i) && decide (i ≤ 6)) = isRunB i from rfl, h1]) | (go_at_call 31; refine (l2To_any _ _).mono ?_; rintro e w' ⟨rfl, rfl⟩; rw [h2]))
    refine (specOk_any _ _ _).mono ?_
    rintro e w1 ⟨rfl, hb1⟩
    rw [h3]
    obtain ⟨hc1, hf1⟩ := bcell hb1
    have hz1 : w.heap.size + 1 < w1.heap.size := by have := hb1.size; simp at this; omega
    have hB1 : Below w.heap.size w w1 := (((Below.refl _ _).alloc (Nat.le_refl _) _).alloc (by simp) _).trans (hb1.mono (by simp; omega))
    have z0 : w1.cell? ⟨w.heap.size + 1, 0, none⟩ = some (.int .i64 0) := by rw [hc1 _ _ (by simp)]; simp [go_sem]
    have z1 : w1.cell? ⟨w.heap.size + 1, 1, none⟩ = some (.int .i64 0) := by rw [hc1 _ _ (by simp)]; simp [go_sem]
    have z2 : w1.cell? ⟨w.heap.size + 1, 2, none⟩ = some (.slice none 0 0) := by rw [hc1 _ _ (by simp)]; simp [go_sem]
    have z3 : w1.cell? ⟨w.heap.size + 1, 3, none⟩ = some (.int .i64 0) := by rw [hc1 _ _ (by simp)]; simp [go_sem]
    have z4 : w1.cell? ⟨w.heap.size + 1, 4, none⟩ = some (.slice none 0 0) := by rw [hc1 _ _ (by simp)]; simp [go_sem]
    have z5 : w1.cell? ⟨w.heap.size + 1, 5, none⟩ = some (.int .i64 0) := by rw [hc1 _ _ (by simp)]; simp [go_sem]
    have z6 : w1.cell? ⟨w.heap.size + 1, 6, none⟩ = some (.int .i64 0) := by rw [hc1 _ _ (by simp)]; simp [go_sem]
    have z7 : w1.cell? ⟨w.heap.size + 1, 7, none⟩ = some (.slice none 0 0) := by rw [hc1 _ _ (by simp)]; simp [go_sem]
    have z8 : w1.cell? ⟨w.heap.size + 1, 8, none⟩ = some (.slice none 0 0) := by rw [hc1 _ _ (by simp)]; simp [go_sem]
    have z9 : w1.cell? ⟨w.heap.size + 1, 9, none⟩ = some (.bool false) := by rw [hc1 _ _ (by simp)]; simp [go_sem]
    have z10 : w1.cell? ⟨w.heap.size + 1, 10, none⟩ = some (.int .i64 0) := by rw [hc1 _ _ (by simp)]; simp [go_sem]
    have z11 : w1.cell? ⟨w.heap.size + 1, 11, none⟩ = some (.int .i64 0) := by rw [hc1 _ _ (by simp)]; simp [go_sem]
    have z12 : w1.cell? ⟨w.heap.size + 1, 12, none⟩ = some (.int .i64 0) := by rw [hc1 _ _ (by simp)]; simp [go_sem]
    have f0 : w1.frozen? ⟨w.heap.size + 1, 0, none⟩ = false := by rw [hf1 _ _ (by simp)]; simp [go_sem]
    have f1 : w1.frozen? ⟨w.heap.size + 1, 1, none⟩ = false := by rw [hf1 _ _ (by simp)]; simp [go_sem]
    have f2 : w1.frozen? ⟨w.heap.size + 1, 2, none⟩ = false := by rw [hf1 _ _ (by simp)]; simp [go_sem]
    have f3 : w1.frozen? ⟨w.heap.size + 1, 3, none⟩ = false := by rw [hf1 _ _ (by simp)]; simp [go_sem]
    have f4 : w1.frozen? ⟨w.heap.size + 1, 4, none⟩ = false := by rw [hf1 _ _ (by simp)]; simp [go_sem]
    have f5 : w1.frozen? ⟨w.heap.size + 1, 5, none⟩ = false := by rw [hf1 _ _ (by simp)]; simp [go_sem]
    have f6 : w1.frozen? ⟨w.heap.size + 1, 6, none⟩ = false := by rw [hf1 _ _ (by simp)]; simp [go_sem]
    have f7 : w1.frozen? ⟨w.heap.size + 1, 7, none⟩ = false := by rw [hf1 _ _ (by simp)]; simp [go_sem]
    have f8 : w1.frozen? ⟨w.heap.size + 1, 8, none⟩ = false := by rw [hf1 _ _ (by simp)]; simp [go_sem]
    have f9 : w1.frozen? ⟨w.heap.size + 1, 9, none⟩ = false := by rw [hf1 _ _ (by simp)]; simp [go_sem]
    have f10 : w1.frozen? ⟨w.heap.size + 1, 10, none⟩ = false := by rw [hf1 _ _ (by simp)]; simp [go_sem]
    have f11 : w1.frozen? ⟨w.heap.size + 1, 11, none⟩ = false := by rw [hf1 _ _ (by simp)]; simp [go_sem]
    have f12 : w1.frozen? ⟨w.heap.size + 1, 12, none⟩ = false := by rw [hf1 _ _ (by simp)]; simp [go_sem]
    have y0 : w1.cell? ⟨w.heap.size, 0, none⟩ = some (.int .i64 k) := by rw [hc1 _ _ (by simp; omega)]; simp [go_sem]
    have y1 : w1.cell? ⟨w.heap.size, 1, none⟩ = some (.int .i64 n) := by rw [hc1 _ _ (by simp; omega)]; simp [go_sem]
    clear hb1 hc1 hf1
    go_wp2_with fail
    exact bodyPost_ret (v := .tuple #[runZ.val runPZ, .bool false]) (by simp [results, Try.results9, go_sem, runZ, runPZ, z0, z1, z2, z3, z4, z5, z6, z7, z8, z9, z10, z11, z12]) rfl (fin (by simp [newB, h3]) _ (((((((((((((hB1.setCell (by exact Nat.le_succ _) _).setCell (by exact Nat.le_succ _) _).setCell (by exact Nat.le_succ _) _).setCell (by exact Nat.le_succ _) _).setCell (by exact Nat.le_succ _) _).setCell (by exact Nat.le_succ _) _).setCell (by exact Nat.le_succ _) _).setCell (by exact Nat.le_succ _) _).setCell (by exact Nat.le_succ _) _).setCell (by exact Nat.le_succ _) _).setCell (by exact Nat.le_succ _) _).setCell (by exact Nat.le_succ _) _).setCell (by exact Nat.le_succ _) _))
  case true =>
    have hb : newB i a k n = true := by simp [newB, h1, h2, h3]
    rw [newD_yes hb, hb]
    clear fin
    go_enter Try.func9, Try.ntmps9
    go_wp2_with (first | (go_at_call 30; refine (l6In_any _ _ _ _).mono ?_; rintro e w' ⟨rfl, rfl⟩; rw [show (decide (1 ≤ i) && decide (i ≤ 6)) = isRunB i from rfl, h1]) | (go_at_call 31; refine (l2To_any _ _).mono ?_; rintro e w' ⟨rfl, rfl⟩; rw [h2]))
    refine (specOk_any _ _ _).mono ?_
    rintro e w1 ⟨rfl, hb1⟩
    rw [h3]
    obtain ⟨hc1, hf1⟩ := bcell hb1
    have hz1 : w.heap.size + 1 < w1.heap.size := by have := hb1.size; simp at this; omega
    have hB1 : Below w.heap.size w w1 := (((Below.refl _ _).alloc (Nat.le_refl _) _).alloc (by simp) _).trans (hb1.mono (by simp; omega))
    have z0 : w1.cell? ⟨w.heap.size + 1, 0, none⟩ = some (.int .i64 0) := by rw [hc1 _ _ (by simp)]; simp [go_sem]
    have z1 : w1.cell? ⟨w.heap.size + 1, 1, none⟩ = some (.int .i64 0) := by rw [hc1 _ _ (by simp)]; simp [go_sem]
    have z2 : w1.cell? ⟨w.heap.size + 1, 2, none⟩ = some (.slice none 0 0) := by rw [hc1 _ _ (by simp)]; simp [go_sem]
    have z3 : w1.cell? ⟨w.heap.size + 1, 3, none⟩ = some (.int .i64 0) := by rw [hc1 _ _ (by simp)]; simp [go_sem]
    have z4 : w1.cell? ⟨w.heap.size + 1, 4, none⟩ = some (.slice none 0 0) := by rw [hc1 _ _ (by simp)]; simp [go_sem]
    have z5 : w1.cell? ⟨w.heap.size + 1, 5, none⟩ = some (.int .i64 0) := by rw [hc1 _ _ (by simp)]; simp [go_sem]
    have z6 : w1.cell? ⟨w.heap.size + 1, 6, none⟩ = some (.int .i64 0) := by rw [hc1 _ _ (by simp)]; simp [go_sem]
    have z7 : w1.cell? ⟨w.heap.size + 1, 7, none⟩ = some (.slice none 0 0) := by rw [hc1 _ _ (by simp)]; simp [go_sem]
    have z8 : w1.cell? ⟨w.heap.size + 1, 8, none⟩ = some (.slice none 0 0) := by rw [hc1 _ _ (by simp)]; simp [go_sem]
    have z9 : w1.cell? ⟨w.heap.size + 1, 9, none⟩ = some (.bool false) := by rw [hc1 _ _ (by simp)]; simp [go_sem]
    have z10 : w1.cell? ⟨w.heap.size + 1, 10, none⟩ = some (.int .i64 0) := by rw [hc1 _ _ (by simp)]; simp [go_sem]
    have z11 : w1.cell? ⟨w.heap.size + 1, 11, none⟩ = some (.int .i64 0) := by rw [hc1 _ _ (by simp)]; simp [go_sem]
    have z12 : w1.cell? ⟨w.heap.size + 1, 12, none⟩ = some (.int .i64 0) := by rw [hc1 _ _ (by simp)]; simp [go_sem]
    have f0 : w1.frozen? ⟨w.heap.size + 1, 0, none⟩ = false := by rw [hf1 _ _ (by simp)]; simp [go_sem]
    have f1 : w1.frozen? ⟨w.heap.size + 1, 1, none⟩ = false := by rw [hf1 _ _ (by simp)]; simp [go_sem]
    have f2 : w1.frozen? ⟨w.heap.size + 1, 2, none⟩ = false := by rw [hf1 _ _ (by simp)]; simp [go_sem]
    have f3 : w1.frozen? ⟨w.heap.size + 1, 3, none⟩ = false := by rw [hf1 _ _ (by simp)]; simp [go_sem]
    have f4 : w1.frozen? ⟨w.heap.size + 1, 4, none⟩ = false := by rw [hf1 _ _ (by simp)]; simp [go_sem]
    have f5 : w1.frozen? ⟨w.heap.size + 1, 5, none⟩ = false := by rw [hf1 _ _ (by simp)]; simp [go_sem]
    have f6 : w1.frozen? ⟨w.heap.size + 1, 6, none⟩ = false := by rw [hf1 _ _ (by simp)]; simp [go_sem]
    have f7 : w1.frozen? ⟨w.heap.size + 1, 7, none⟩ = false := by rw [hf1 _ _ (by simp)]; simp [go_sem]
    have f8 : w1.frozen? ⟨w.heap.size + 1, 8, none⟩ = false := by rw [hf1 _ _ (by simp)]; simp [go_sem]
    have f9 : w1.frozen? ⟨w.heap.size + 1, 9, none⟩ = false := by rw [hf1 _ _ (by simp)]; simp [go_sem]
    have f10 : w1.frozen? ⟨w.heap.size + 1, 10, none⟩ = false := by rw [hf1 _ _ (by simp)]; simp [go_sem]
    have f11 : w1.frozen? ⟨w.heap.size + 1, 11, none⟩ = false := by rw [hf1 _ _ (by simp)]; simp [go_sem]
    have f12 : w1.frozen? ⟨w.heap.size + 1, 12, none⟩ = false := by rw [hf1 _ _ (by simp)]; simp [go_sem]
    have y0 : w1.cell? ⟨w.heap.size, 0, none⟩ = some (.int .i64 k) := by rw [hc1 _ _ (by simp; omega)]; simp [go_sem]
    have y1 : w1.cell? ⟨w.heap.size, 1, none⟩ = some (.int .i64 n) := by rw [hc1 _ _ (by simp; omega)]; simp [go_sem]
    clear hb1 hc1 hf1
    go_wp2_with fail
    refine (l11New_any i a k n _).mono ?_
    rintro e w2 ⟨⟨a0, k0, a1, k1, a2, k2, a3, k3⟩, rfl, hm, hb2⟩
    obtain ⟨hc2, hf2⟩ := bcell hb2
    have hz2 := hb2.size
    have hB2 : Below w.heap.size w w2 := hB1.trans (hb2.mono (by omega))
    replace z0 := (hc2 _ _ (by omega)).trans z0
    replace z1 := (hc2 _ _ (by omega)).trans z1
    replace z2 := (hc2 _ _ (by omega)).trans z2
    replace z3 := (hc2 _ _ (by omega)).trans z3
    replace z4 := (hc2 _ _ (by omega)).trans z4
    replace z5 := (hc2 _ _ (by omega)).trans z5
    replace z6 := (hc2 _ _ (by omega)).trans z6
    replace z7 := (hc2 _ _ (by omega)).trans z7
    replace z8 := (hc2 _ _ (by omega)).trans z8
    replace z9 := (hc2 _ _ (by omega)).trans z9
    replace z10 := (hc2 _ _ (by omega)).trans z10
    replace z11 := (hc2 _ _ (by omega)).trans z11
    replace z12 := (hc2 _ _ (by omega)).trans z12
    replace f0 := (hf2 _ _ (by omega)).trans f0
    replace f1 := (hf2 _ _ (by omega)).trans f1
    replace f2 := (hf2 _ _ (by omega)).trans f2
    replace f3 := (hf2 _ _ (by omega)).trans f3
    replace f4 := (hf2 _ _ (by omega)).trans f4
    replace f5 := (hf2 _ _ (by omega)).trans f5
    replace f6 := (hf2 _ _ (by omega)).trans f6
    replace f7 := (hf2 _ _ (by omega)).trans f7
    replace f8 := (hf2 _ _ (by omega)).trans f8
    replace f9 := (hf2 _ _ (by omega)).trans f9
    replace f10 := (hf2 _ _ (by omega)).trans f10
    replace f11 := (hf2 _ _ (by omega)).trans f11
    replace f12 := (hf2 _ _ (by omega)).trans f12
    clear hb2 hc2 hf2 hB1 y0 y1
    have hM : Hid (OwnRun w2 w1.heap.size (newR i a k n) ⟨a0, k0, a1, k1, a2, k2, a3, k3⟩) := hm
    clear hm
    go_wp2_with fail
    refine bodyPost_ret (v := .tuple #[(newR i a k n).val ⟨a0, k0, a1, k1, a2, k2, a3, k3⟩, .bool true]) (by simp [results, Try.results9, go_sem, newR, z0, z1, z2, z3, z4, z5, z6, z7, z8, z9, z10, z11, z12]) rfl ⟨_, rfl, ?_, (((((((((((((hB2.setCell (by exact Nat.le_succ _) _).setCell (by exact Nat.le_succ _) _).setCell (by exact Nat.le_succ _) _).setCell (by exact Nat.le_succ _) _).setCell (by exact Nat.le_succ _) _).setCell (by exact Nat.le_succ _) _).setCell (by exact Nat.le_succ _) _).setCell (by exact Nat.le_succ _) _).setCell (by exact Nat.le_succ _) _).setCell (by exact Nat.le_succ _) _).setCell (by exact Nat.le_succ _) _).setCell (by exact Nat.le_succ _) _).setCell (by exact Nat.le_succ _) _)⟩
    exact ((hM.out).keep (But.grown ((((((((((((((But.refl (w.heap.size + 1) _).setCell (by exact rfl) _).setCell (by exact rfl) _).setCell (by exact rfl) _).setCell (by exact rfl) _).setCell (by exact rfl) _).setCell (by exact rfl) _).setCell (by exact rfl) _).setCell (by exact rfl) _).setCell (by exact rfl) _).setCell (by exact rfl) _).setCell (by exact rfl) _).setCell (by exact rfl) _).setCell (by exact rfl) _)) hz1).mono (by omega)
end Go.Proofs.Ytefaocjcfecipaa
