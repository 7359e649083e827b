/-
  What impl.RunNew and spec.RunNew answer over this translation, at every number, place and value.
-/
import Derived.Test.YtefaocjcfecipaaRunMark
import Derived.Test.YtefaocjcfecipaaBut
namespace Go.Proofs.Ytefaocjcfecipaa
open Go.ChangeShapes Go.WideShapes Go.ChangeAt Go.RowKit Go.Joins
theorem But.grown {R : Nat} {a b : World} (h : But R a b) : a.grownBy b (some R) := ⟨h.os, h.tape, h.output, h.size, fun k hk hn => h.block k hk (fun e => hn (by rw [e]))⟩
theorem made_val (n j : Nat) (h : j < n) : (madeCells (Value.cells (.agg #[.int .i64 0, .int .i64 0])) n).toList[j]? = some (.int .i64 0) := by
  have h6 : j % 2 < 2 := Nat.mod_lt _ (by decide)
  have key : ∀ r, r < 2 → (#[.int .i64 0, .int .i64 0] : Array Value)[r]! = .int .i64 0
    | 0, _ => rfl
    | 1, _ => rfl
  simp only [madeCells, Value.cells, Array.toList_map, Array.toList_range, List.getElem?_map, List.getElem?_range h, Option.map_some]
  exact congrArg some (key _ h6)
theorem cellsV_zero : ∀ n, cellsV (List.replicate n (0, 0)) = List.replicate (n * 2) (.int .i64 0)
  | 0 => rfl
  | n + 1 => by
    have e : (n + 1) * 2 = n * 2 + 1 + 1 := by omega
    rw [e, List.replicate_succ, cellsV, cellsV_zero n, List.replicate_succ, List.replicate_succ]
theorem made_vals (n : Nat) : (madeCells (Value.cells (.agg #[.int .i64 0, .int .i64 0])) (n * 2)).toList = cellsV (List.replicate n (0, 0)) := by
  rw [cellsV_zero]
  apply List.ext_getElem?
  intro j
  by_cases h : j < n * 2
  · rw [made_val _ _ h, List.getElem?_replicate, if_pos h]
  · rw [List.getElem?_replicate, if_neg h, List.getElem?_eq_none]
    simp only [madeCells, Array.toList_map, Array.toList_range, List.length_map, List.length_range]; omega
def isRunB (n : Int) : Bool := decide (1 ≤ n) && decide (n ≤ 6)
def isPlaceB (n : Int) : Bool := decide (0 ≤ n) && decide (n ≤ 15)
theorem isRun_any (n : Int) (w : World) : Calls Try.prog 34 #[.int .i64 n] w fun e w' => e = .returned (.bool (isRunB n)) ∧ w' = w := by
  go_enter Try.func34, Try.ntmps34
  go_wp2_with (go_at_call 68; refine (inRun_any _ _).mono ?_; rintro e w' ⟨rfl, rfl⟩)
  go_ret
  exact ⟨rfl, rfl⟩
theorem isPlace_any (n : Int) (w : World) : Calls Try.prog 35 #[.int .i64 n] w fun e w' => e = .returned (.bool (isPlaceB n)) ∧ w' = w := by
  by_cases h1 : 0 ≤ n
  · by_cases h2 : n < 16
    · go_enter Try.func35, Try.ntmps35
      go_wp2
      go_ret
      exact ⟨by have : n ≤ 15 := by omega
                simp [isPlaceB, h1, this], rfl⟩
    · go_enter Try.func35, Try.ntmps35
      go_wp2
      go_ret
      exact ⟨by simp [isPlaceB]; omega, rfl⟩
  · go_enter Try.func35, Try.ntmps35
    go_wp2
    go_ret
    exact ⟨by simp [isPlaceB]; omega, rfl⟩
theorem l2To_any (n : Int) (w : World) : Calls Try.prog 31 #[.int .i64 n] w fun e w' => e = .returned (.bool (isPlaceB n)) ∧ w' = w := by
  go_enter Try.func31, Try.ntmps31
  go_wp2_with (go_at_call 30; refine (l6In_any _ _ _ _).mono ?_; rintro e w' ⟨rfl, rfl⟩)
  go_ret
  exact ⟨rfl, rfl⟩
/-- whether a run can be new -/
def newB (i a k n : Int) : Bool := isRunB i && (isPlaceB a && okB k n)
/-- a new run -/
def newR (i a k n : Int) : RunD := ⟨i, a, [(k, n), (0, 0), (0, 0), (0, 0)], 1, [], 1, 0, [], [], false, 0, 0, 0⟩
def newD (i a k n : Int) : RunD := if newB i a k n = true then newR i a k n else runZ
theorem newD_yes {i a k n : Int} (h : newB i a k n = true) : newD i a k n = newR i a k n := if_pos h
theorem newD_no {i a k n : Int} (h : newB i a k n = false) : newD i a k n = runZ := if_neg (by rw [h]; decide)
theorem own_runZ (w : World) (B : Nat) : OwnRun w B runZ runPZ := by
  have ap : ∀ v : Value, Apart (.slice none 0 0) v := fun v k e => by cases e
  exact ⟨World.ownsRow_nil _ _ _ _, World.ownsRow_nil _ _ _ _, World.ownsRow_nil _ _ _ _, World.ownsRow_nil _ _ _ _, ap _, ap _, ap _, ap _, ap _, ap _⟩
set_option maxRecDepth 20000 in
set_option maxHeartbeats 4000000 in
theorem implNew_any (i a k n : Int) (w : World) :
    Calls Try.prog 10 #[.int .i64 i, .int .i64 a, .agg #[.int .i64 k, .int .i64 n]] w fun e w' => ∃ p, e = .returned (.tuple #[(newD i a k n).val p, .bool (newB i a k n)]) ∧ OwnRun w' w.heap.size (newD i a k n) p ∧ Below w.heap.size w w' := by
  have fin : ∀ (h : newB i a k n = false) (w' : World), Below w.heap.size w w' → ∃ p, Ending.returned (.tuple #[runZ.val runPZ, .bool false]) = .returned (.tuple #[(newD i a k n).val p, .bool (newB i a k n)]) ∧ OwnRun w' w.heap.size (newD i a k n) p ∧ Below w.heap.size w w' :=
    fun h w' hb => ⟨runPZ, by rw [newD_no h, h], by rw [newD_no h]; exact own_runZ _ _, hb⟩
  cases h1 : isRunB i
  case false =>
    go_enter Try.func10, Try.ntmps10
    go_wp2_with (go_at_call 34; refine (isRun_any _ _).mono ?_; rintro e w' ⟨rfl, rfl⟩; rw [h1])
    exact bodyPost_ret (v := .tuple #[runZ.val runPZ, .bool false]) (by simp [results, Try.results10, go_sem, runZ, runPZ]) rfl (fin (by simp [newB, h1]) _ (((Below.refl _ _).alloc (Nat.le_refl _) _).alloc (by simp) _))
  case true =>
  cases h2 : isPlaceB a
  case false =>
    go_enter Try.func10, Try.ntmps10
    go_wp2_with (first | (go_at_call 34; refine (isRun_any _ _).mono ?_; rintro e w' ⟨rfl, rfl⟩; rw [h1]) | (go_at_call 35; refine (isPlace_any _ _).mono ?_; rintro e w' ⟨rfl, rfl⟩; rw [h2]))
    exact bodyPost_ret (v := .tuple #[runZ.val runPZ, .bool false]) (by simp [results, Try.results10, go_sem, runZ, runPZ]) rfl (fin (by simp [newB, h2]) _ (((Below.refl _ _).alloc (Nat.le_refl _) _).alloc (by simp) _))
  case true =>
  cases h3 : okB k n
  case false =>
    go_enter Try.func10, Try.ntmps10
    go_wp2_with (first | (go_at_call 34; refine (isRun_any _ _).mono ?_; rintro e w' ⟨rfl, rfl⟩; rw [h1]) | (go_at_call 35; refine (isPlace_any _ _).mono ?_; rintro e w' ⟨rfl, rfl⟩; rw [h2]))
    refine (implOk_any _ _ _).mono ?_
    rintro e w1 ⟨rfl, hb1⟩
    rw [h3]
    obtain ⟨hc1, hf1⟩ := bcell hb1
    have hz1 : w.heap.size + 1 < w1.heap.size := by have := hb1.size; simp at this; omega
    have hB1 : Below w.heap.size w w1 := (((Below.refl _ _).alloc (Nat.le_refl _) _).alloc (by simp) _).trans (hb1.mono (by simp; omega))
    have z0 : w1.cell? ⟨w.heap.size + 1, 0, none⟩ = some (.int .i64 0) := by rw [hc1 _ _ (by simp)]; simp [go_sem]
    have z1 : w1.cell? ⟨w.heap.size + 1, 1, none⟩ = some (.int .i64 0) := by rw [hc1 _ _ (by simp)]; simp [go_sem]
    have z2 : w1.cell? ⟨w.heap.size + 1, 2, none⟩ = some (.slice none 0 0) := by rw [hc1 _ _ (by simp)]; simp [go_sem]
    have z3 : w1.cell? ⟨w.heap.size + 1, 3, none⟩ = some (.int .i64 0) := by rw [hc1 _ _ (by simp)]; simp [go_sem]
    have z4 : w1.cell? ⟨w.heap.size + 1, 4, none⟩ = some (.slice none 0 0) := by rw [hc1 _ _ (by simp)]; simp [go_sem]
    have z5 : w1.cell? ⟨w.heap.size + 1, 5, none⟩ = some (.int .i64 0) := by rw [hc1 _ _ (by simp)]; simp [go_sem]
    have z6 : w1.cell? ⟨w.heap.size + 1, 6, none⟩ = some (.int .i64 0) := by rw [hc1 _ _ (by simp)]; simp [go_sem]
    have z7 : w1.cell? ⟨w.heap.size + 1, 7, none⟩ = some (.slice none 0 0) := by rw [hc1 _ _ (by simp)]; simp [go_sem]
    have z8 : w1.cell? ⟨w.heap.size + 1, 8, none⟩ = some (.slice none 0 0) := by rw [hc1 _ _ (by simp)]; simp [go_sem]
    have z9 : w1.cell? ⟨w.heap.size + 1, 9, none⟩ = some (.bool false) := by rw [hc1 _ _ (by simp)]; simp [go_sem]
    have z10 : w1.cell? ⟨w.heap.size + 1, 10, none⟩ = some (.int .i64 0) := by rw [hc1 _ _ (by simp)]; simp [go_sem]
    have z11 : w1.cell? ⟨w.heap.size + 1, 11, none⟩ = some (.int .i64 0) := by rw [hc1 _ _ (by simp)]; simp [go_sem]
    have z12 : w1.cell? ⟨w.heap.size + 1, 12, none⟩ = some (.int .i64 0) := by rw [hc1 _ _ (by simp)]; simp [go_sem]
    have f0 : w1.frozen? ⟨w.heap.size + 1, 0, none⟩ = false := by rw [hf1 _ _ (by simp)]; simp [go_sem]
    have f1 : w1.frozen? ⟨w.heap.size + 1, 1, none⟩ = false := by rw [hf1 _ _ (by simp)]; simp [go_sem]
    have f2 : w1.frozen? ⟨w.heap.size + 1, 2, none⟩ = false := by rw [hf1 _ _ (by simp)]; simp [go_sem]
    have f3 : w1.frozen? ⟨w.heap.size + 1, 3, none⟩ = false := by rw [hf1 _ _ (by simp)]; simp [go_sem]
    have f4 : w1.frozen? ⟨w.heap.size + 1, 4, none⟩ = false := by rw [hf1 _ _ (by simp)]; simp [go_sem]
    have f5 : w1.frozen? ⟨w.heap.size + 1, 5, none⟩ = false := by rw [hf1 _ _ (by simp)]; simp [go_sem]
    have f6 : w1.frozen? ⟨w.heap.size + 1, 6, none⟩ = false := by rw [hf1 _ _ (by simp)]; simp [go_sem]
    have f7 : w1.frozen? ⟨w.heap.size + 1, 7, none⟩ = false := by rw [hf1 _ _ (by simp)]; simp [go_sem]
    have f8 : w1.frozen? ⟨w.heap.size + 1, 8, none⟩ = false := by rw [hf1 _ _ (by simp)]; simp [go_sem]
    have f9 : w1.frozen? ⟨w.heap.size + 1, 9, none⟩ = false := by rw [hf1 _ _ (by simp)]; simp [go_sem]
    have f10 : w1.frozen? ⟨w.heap.size + 1, 10, none⟩ = false := by rw [hf1 _ _ (by simp)]; simp [go_sem]
    have f11 : w1.frozen? ⟨w.heap.size + 1, 11, none⟩ = false := by rw [hf1 _ _ (by simp)]; simp [go_sem]
    have f12 : w1.frozen? ⟨w.heap.size + 1, 12, none⟩ = false := by rw [hf1 _ _ (by simp)]; simp [go_sem]
    have y0 : w1.cell? ⟨w.heap.size, 0, none⟩ = some (.int .i64 k) := by rw [hc1 _ _ (by simp; omega)]; simp [go_sem]
    have y1 : w1.cell? ⟨w.heap.size, 1, none⟩ = some (.int .i64 n) := by rw [hc1 _ _ (by simp; omega)]; simp [go_sem]
    clear hb1 hc1 hf1
    go_wp2_with fail
    exact bodyPost_ret (v := .tuple #[runZ.val runPZ, .bool false]) (by simp [results, Try.results10, go_sem, runZ, runPZ, z0, z1, z2, z3, z4, z5, z6, z7, z8, z9, z10, z11, z12]) rfl (fin (by simp [newB, h3]) _ (((((((((((((hB1.setCell (by exact Nat.le_succ _) _).setCell (by exact Nat.le_succ _) _).setCell (by exact Nat.le_succ _) _).setCell (by exact Nat.le_succ _) _).setCell (by exact Nat.le_succ _) _).setCell (by exact Nat.le_succ _) _).setCell (by exact Nat.le_succ _) _).setCell (by exact Nat.le_succ _) _).setCell (by exact Nat.le_succ _) _).setCell (by exact Nat.le_succ _) _).setCell (by exact Nat.le_succ _) _).setCell (by exact Nat.le_succ _) _).setCell (by exact Nat.le_succ _) _))
  case true =>
    have hb : newB i a k n = true := by simp [newB, h1, h2, h3]
    rw [newD_yes hb, hb]
    clear fin
    go_enter Try.func10, Try.ntmps10
    go_wp2_with (first | (go_at_call 34; refine (isRun_any _ _).mono ?_; rintro e w' ⟨rfl, rfl⟩; rw [h1]) | (go_at_call 35; refine (isPlace_any _ _).mono ?_; rintro e w' ⟨rfl, rfl⟩; rw [h2]))
    refine (implOk_any _ _ _).mono ?_
    rintro e w1 ⟨rfl, hb1⟩
    rw [h3]
    obtain ⟨hc1, hf1⟩ := bcell hb1
    have hz1 : w.heap.size + 1 < w1.heap.size := by have := hb1.size; simp at this; omega
    have hB1 : Below w.heap.size w w1 := (((Below.refl _ _).alloc (Nat.le_refl _) _).alloc (by simp) _).trans (hb1.mono (by simp; omega))
    have z0 : w1.cell? ⟨w.heap.size + 1, 0, none⟩ = some (.int .i64 0) := by rw [hc1 _ _ (by simp)]; simp [go_sem]
    have z1 : w1.cell? ⟨w.heap.size + 1, 1, none⟩ = some (.int .i64 0) := by rw [hc1 _ _ (by simp)]; simp [go_sem]
    have z2 : w1.cell? ⟨w.heap.size + 1, 2, none⟩ = some (.slice none 0 0) := by rw [hc1 _ _ (by simp)]; simp [go_sem]
    have z3 : w1.cell? ⟨w.heap.size + 1, 3, none⟩ = some (.int .i64 0) := by rw [hc1 _ _ (by simp)]; simp [go_sem]
    have z4 : w1.cell? ⟨w.heap.size + 1, 4, none⟩ = some (.slice none 0 0) := by rw [hc1 _ _ (by simp)]; simp [go_sem]
    have z5 : w1.cell? ⟨w.heap.size + 1, 5, none⟩ = some (.int .i64 0) := by rw [hc1 _ _ (by simp)]; simp [go_sem]
    have z6 : w1.cell? ⟨w.heap.size + 1, 6, none⟩ = some (.int .i64 0) := by rw [hc1 _ _ (by simp)]; simp [go_sem]
    have z7 : w1.cell? ⟨w.heap.size + 1, 7, none⟩ = some (.slice none 0 0) := by rw [hc1 _ _ (by simp)]; simp [go_sem]
    have z8 : w1.cell? ⟨w.heap.size + 1, 8, none⟩ = some (.slice none 0 0) := by rw [hc1 _ _ (by simp)]; simp [go_sem]
    have z9 : w1.cell? ⟨w.heap.size + 1, 9, none⟩ = some (.bool false) := by rw [hc1 _ _ (by simp)]; simp [go_sem]
    have z10 : w1.cell? ⟨w.heap.size + 1, 10, none⟩ = some (.int .i64 0) := by rw [hc1 _ _ (by simp)]; simp [go_sem]
    have z11 : w1.cell? ⟨w.heap.size + 1, 11, none⟩ = some (.int .i64 0) := by rw [hc1 _ _ (by simp)]; simp [go_sem]
    have z12 : w1.cell? ⟨w.heap.size + 1, 12, none⟩ = some (.int .i64 0) := by rw [hc1 _ _ (by simp)]; simp [go_sem]
    have f0 : w1.frozen? ⟨w.heap.size + 1, 0, none⟩ = false := by rw [hf1 _ _ (by simp)]; simp [go_sem]
    have f1 : w1.frozen? ⟨w.heap.size + 1, 1, none⟩ = false := by rw [hf1 _ _ (by simp)]; simp [go_sem]
    have f2 : w1.frozen? ⟨w.heap.size + 1, 2, none⟩ = false := by rw [hf1 _ _ (by simp)]; simp [go_sem]
    have f3 : w1.frozen? ⟨w.heap.size + 1, 3, none⟩ = false := by rw [hf1 _ _ (by simp)]; simp [go_sem]
    have f4 : w1.frozen? ⟨w.heap.size + 1, 4, none⟩ = false := by rw [hf1 _ _ (by simp)]; simp [go_sem]
    have f5 : w1.frozen? ⟨w.heap.size + 1, 5, none⟩ = false := by rw [hf1 _ _ (by simp)]; simp [go_sem]
    have f6 : w1.frozen? ⟨w.heap.size + 1, 6, none⟩ = false := by rw [hf1 _ _ (by simp)]; simp [go_sem]
    have f7 : w1.frozen? ⟨w.heap.size + 1, 7, none⟩ = false := by rw [hf1 _ _ (by simp)]; simp [go_sem]
    have f8 : w1.frozen? ⟨w.heap.size + 1, 8, none⟩ = false := by rw [hf1 _ _ (by simp)]; simp [go_sem]
    have f9 : w1.frozen? ⟨w.heap.size + 1, 9, none⟩ = false := by rw [hf1 _ _ (by simp)]; simp [go_sem]
    have f10 : w1.frozen? ⟨w.heap.size + 1, 10, none⟩ = false := by rw [hf1 _ _ (by simp)]; simp [go_sem]
    have f11 : w1.frozen? ⟨w.heap.size + 1, 11, none⟩ = false := by rw [hf1 _ _ (by simp)]; simp [go_sem]
    have f12 : w1.frozen? ⟨w.heap.size + 1, 12, none⟩ = false := by rw [hf1 _ _ (by simp)]; simp [go_sem]
    have y0 : w1.cell? ⟨w.heap.size, 0, none⟩ = some (.int .i64 k) := by rw [hc1 _ _ (by simp; omega)]; simp [go_sem]
    have y1 : w1.cell? ⟨w.heap.size, 1, none⟩ = some (.int .i64 n) := by rw [hc1 _ _ (by simp; omega)]; simp [go_sem]
    clear hb1 hc1 hf1
    obtain ⟨inf, i1, i2, i3, i4⟩ := info_val
    go_wp2_with (refine wpList_make_full _ rfl (.const (.int .i64 4)) (.const (.int .i64 4)) 27 rfl w1.heap.size 24 inf _ 2 Try.underlying27 i1 i2 i3 .i64 .i64 _ _ 4 rfl rfl rfl rfl (by rw [i4]; omega) (by unfold maxLen; omega) (Nat.le_refl _) ?_; intro w0 ho hg0; have hb0 : Below w1.heap.size w1 w0 := (Below.refl _ _).grown hg0 (Nat.le_refl _) (by intro k hk; cases hk); obtain ⟨hc0, hf0⟩ := bcell hb0; replace z0 := (hc0 _ _ (by omega)).trans z0; replace z1 := (hc0 _ _ (by omega)).trans z1; replace z2 := (hc0 _ _ (by omega)).trans z2; replace z3 := (hc0 _ _ (by omega)).trans z3; replace z4 := (hc0 _ _ (by omega)).trans z4; replace z5 := (hc0 _ _ (by omega)).trans z5; replace z6 := (hc0 _ _ (by omega)).trans z6; replace z7 := (hc0 _ _ (by omega)).trans z7; replace z8 := (hc0 _ _ (by omega)).trans z8; replace z9 := (hc0 _ _ (by omega)).trans z9; replace z10 := (hc0 _ _ (by omega)).trans z10; replace z11 := (hc0 _ _ (by omega)).trans z11; replace z12 := (hc0 _ _ (by omega)).trans z12; replace f0 := (hf0 _ _ (by omega)).trans f0; replace f1 := (hf0 _ _ (by omega)).trans f1; replace f2 := (hf0 _ _ (by omega)).trans f2; replace f3 := (hf0 _ _ (by omega)).trans f3; replace f4 := (hf0 _ _ (by omega)).trans f4; replace f5 := (hf0 _ _ (by omega)).trans f5; replace f6 := (hf0 _ _ (by omega)).trans f6; replace f7 := (hf0 _ _ (by omega)).trans f7; replace f8 := (hf0 _ _ (by omega)).trans f8; replace f9 := (hf0 _ _ (by omega)).trans f9; replace f10 := (hf0 _ _ (by omega)).trans f10; replace f11 := (hf0 _ _ (by omega)).trans f11; replace f12 := (hf0 _ _ (by omega)).trans f12; replace y0 := (hc0 _ _ (by omega)).trans y0; replace y1 := (hc0 _ _ (by omega)).trans y1; have x0 : w0.cell? ⟨w1.heap.size, 0, none⟩ = some (.int .i64 0) := (by rw [ho.cellAt 0 (by omega)]; exact made_val _ _ (by omega)); have x1 : w0.cell? ⟨w1.heap.size, 1, none⟩ = some (.int .i64 0) := (by rw [ho.cellAt 1 (by omega)]; exact made_val _ _ (by omega)); have g0 : w0.frozen? ⟨w1.heap.size, 0, none⟩ = false := ho.frozenAt 0; have g1 : w0.frozen? ⟨w1.heap.size, 1, none⟩ = false := ho.frozenAt 1; have HO : Hid (w0.ownsRow w1.heap.size 24 2 (.slice (some ⟨w1.heap.size, 0, none⟩) 4 4) 4 (cellsV [(0, 0), (0, 0), (0, 0), (0, 0)])) := (made_vals 4) ▸ ho; have hB0 : Below w.heap.size w w0 := hB1.trans (hb0.mono (by omega)); have hz0 : w1.heap.size < w0.heap.size := (ho.lt _ rfl).2; clear hc0 hf0 ho hg0 hb0 hB1)
    obtain ⟨s1, s2⟩ := HO.out.stored 0 (.int .i64 k)
    obtain ⟨t1, t2⟩ := s1.stored 1 (.int .i64 n)
    have t3 : ((w0.setCell ⟨w1.heap.size, 0, none⟩ (.int .i64 k)).setCell ⟨w1.heap.size, 1, none⟩ (.int .i64 n)).ownsRow w1.heap.size 24 2 (.slice (some ⟨w1.heap.size, 0, none⟩) 4 4) 4 (cellsV [(k, n), (0, 0), (0, 0), (0, 0)]) := t1
    have hB2 : Below w.heap.size w ((w0.setCell ⟨w1.heap.size, 0, none⟩ (.int .i64 k)).setCell ⟨w1.heap.size, 1, none⟩ (.int .i64 n)) := (hB0.setCell (by dsimp only; omega) _).setCell (by dsimp only; omega) _
    refine bodyPost_ret (v := .tuple #[(newR i a k n).val ⟨some ⟨w1.heap.size, 0, none⟩, 4, none, 0, none, 0, none, 0⟩, .bool true]) (by simp [results, Try.results10, go_sem, newR, z0, z1, z2, z3, z4, z5, z6, z7, z8, z9, z10, z11, z12]) rfl ⟨_, rfl, ⟨?_, World.ownsRow_nil _ _ _ _, World.ownsRow_nil _ _ _ _, World.ownsRow_nil _ _ _ _, ?_, ?_, ?_, ?_, ?_, ?_⟩, (((((((((((((hB2.setCell (by exact Nat.le_succ _) _).setCell (by exact Nat.le_succ _) _).setCell (by exact Nat.le_succ _) _).setCell (by exact Nat.le_succ _) _).setCell (by exact Nat.le_succ _) _).setCell (by exact Nat.le_succ _) _).setCell (by exact Nat.le_succ _) _).setCell (by exact Nat.le_succ _) _).setCell (by exact Nat.le_succ _) _).setCell (by exact Nat.le_succ _) _).setCell (by exact Nat.le_succ _) _).setCell (by exact Nat.le_succ _) _).setCell (by exact Nat.le_succ _) _)⟩
    · refine World.ownsRow.kept (row := some (w.heap.size + 1)) (OwnsV.mono (L := [(k, n), (0, 0), (0, 0), (0, 0)]) t3 (by omega)) ?_ (.inr (by simp [Value.ownBlock]; omega))
      exact (But.grown ((((((((((((((But.refl (w.heap.size + 1) _).setCell (by exact rfl) _).setCell (by exact rfl) _).setCell (by exact rfl) _).setCell (by exact rfl) _).setCell (by exact rfl) _).setCell (by exact rfl) _).setCell (by exact rfl) _).setCell (by exact rfl) _).setCell (by exact rfl) _).setCell (by exact rfl) _).setCell (by exact rfl) _).setCell (by exact rfl) _).setCell (by exact rfl) _))
    · exact fun k _ e => by cases e
    · exact fun k _ e => by cases e
    · exact fun k _ e => by cases e
    · exact fun k e => by cases e
    · exact fun k e => by cases e
    · exact fun k e => by cases e
end Go.Proofs.Ytefaocjcfecipaa
