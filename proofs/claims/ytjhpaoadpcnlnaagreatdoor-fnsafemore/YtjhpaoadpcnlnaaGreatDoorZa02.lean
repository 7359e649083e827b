/-
  Worlds in which all blocks but one stay as they were. No condition.
  Steps, apart from any program: which are ok. No condition.
  spec.l2Form, l2Slot and l2To over this translation.
  What is full ahead of each step, apart from any program: the greatest solution of the ways' bounds, that there is but one, and how it is come to by merging ways one by one. No condition but that bits are from -1 to 15.
  Steps in memory, over this translation: a row of steps, each of six cells; which rows are ok. No condition.
  Rows of steps of one's own, over this translation: what is known of them, a step put, and a step behind them.
  The places that are come to, apart from any program: the least list that holds the first one and, with each, all to which one comes from it; they are those where something is full. No condition.
  What CodeFull answers at any argument, apart from any program. No condition.
-/
import Derived.Test.YtjhpaoadpcnlnaaGreatDoorZa01
import Derived.Deep.Draws
import Derived.Below
import Derived.OwnWalk
import Derived.Laws.OwnMore
namespace Go.Proofs.YtjhpaoadpcnlnaaGreatDoor
open Go.ChangeShapes Go.WideShapes Go.ChangeAt Go.RowKit Go.Joins
/-! ### all but one block stay -/
structure But (R : Nat) (w w' : World) : Prop where
  os : w'.os = w.os
  tape : w'.tape = w.tape
  output : w'.output = w.output
  size : w.heap.size ≤ w'.heap.size
  block : ∀ k, k < w.heap.size → k ≠ R → w'.heap[k]? = w.heap[k]?
theorem But.refl (R : Nat) (w : World) : But R w w := ⟨rfl, rfl, rfl, Nat.le_refl _, fun _ _ _ => rfl⟩
theorem But.trans {R : Nat} {a b c : World} (h : But R a b) (k : But R b c) : But R a c :=
  ⟨k.os.trans h.os, k.tape.trans h.tape, k.output.trans h.output, Nat.le_trans h.size k.size, fun i hi hR => (k.block i (Nat.lt_of_lt_of_le hi h.size) hR).trans (h.block i hi hR)⟩
theorem But.of_below {R : Nat} {a b : World} (h : Below a.heap.size a b) : But R a b := ⟨h.os, h.tape, h.output, h.size, fun k hk _ => h.block k hk⟩
theorem But.drew {R : Nat} {a b : World} (h : But R a b) : But R a b.drew := ⟨h.os, h.tape, h.output, h.size, h.block⟩
theorem But.drewN {R : Nat} {a b : World} (h : But R a b) (n : Nat) : But R a (b.drewN n) := h.trans ⟨rfl, rfl, rfl, Nat.le_refl _, fun _ _ _ => rfl⟩
theorem But.alloc {R : Nat} {a b : World} (h : But R a b) (o : Obj) : But R a (b.alloc o) := h.trans (But.of_below ((Below.refl _ _).alloc (Nat.le_refl _) _))
theorem But.setCell {R : Nat} {a b : World} (h : But R a b) {p : Addr} (hp : p.block = R) (u : Value) : But R a (b.setCell p u) :=
  h.trans ⟨rfl, rfl, rfl, by simp [World.setCell], fun k _ hk => Below.heap_setCell _ _ _ _ (by omega)⟩
/-- a store into a block that is new -/
theorem But.setNew {R : Nat} {a b : World} (h : But R a b) {p : Addr} (hp : a.heap.size ≤ p.block) (u : Value) : But R a (b.setCell p u) :=
  ⟨h.os, h.tape, h.output, by simpa [World.setCell] using h.size, fun k hk hR => (Below.heap_setCell _ _ _ _ (by omega)).trans (h.block k hk hR)⟩
theorem But.below {R B : Nat} {a b : World} (h : But R a b) (hR : B ≤ R) (hB : B ≤ a.heap.size) : Below B a b := ⟨h.os, h.tape, h.output, h.size, fun k hk => h.block k (by omega) (by omega)⟩
theorem But.cell {R : Nat} {a b : World} (h : But R a b) {p : Addr} (hp : p.block < a.heap.size) (hR : p.block ≠ R) : b.cell? p = a.cell? p := World.cell?_of_block (w := a) (h.block p.block hp hR)
theorem But.frozen {R : Nat} {a b : World} (h : But R a b) {p : Addr} (hp : p.block < a.heap.size) (hR : p.block ≠ R) : b.frozen? p = a.frozen? p := World.frozen?_of_block (w := a) (h.block p.block hp hR)
/-- all cells of old blocks but one read as before, in the walk's own form -/
theorem butcell {R : Nat} {W w1 : World} (hb : But R W w1) : (∀ b o, b < W.heap.size → b ≠ R → w1.cell? ⟨b, o, none⟩ = W.cell? ⟨b, o, none⟩) ∧ (∀ b o, b < W.heap.size → b ≠ R → w1.frozen? ⟨b, o, none⟩ = W.frozen? ⟨b, o, none⟩) :=
  ⟨fun b o h h' => hb.cell (p := ⟨b, o, none⟩) h h', fun b o h h' => hb.frozen (p := ⟨b, o, none⟩) h h'⟩

end Go.Proofs.YtjhpaoadpcnlnaaGreatDoor
namespace Go.Proofs.YtjhpaoadpcnlnaaGreatDoor
/-- what a kind has: R, S, To, V -/
def formL : List (Bool × Bool × Bool × Bool) :=
  [(false, false, false, false), (true, false, false, true), (true, true, false, false), (true, true, false, false), (true, false, false, false), (true, false, true, false), (true, true, false, false), (true, true, false, false), (true, true, true, true), (false, false, true, false), (true, false, true, true), (true, false, false, false), (true, false, false, false), (false, false, false, true), (true, false, false, false)]
def fR (k : Int) : Bool := (formL.getD k.toNat (false, false, false, false)).1
def fS (k : Int) : Bool := (formL.getD k.toNat (false, false, false, false)).2.1
def fT (k : Int) : Bool := (formL.getD k.toNat (false, false, false, false)).2.2.1
def fV (k : Int) : Bool := (formL.getD k.toNat (false, false, false, false)).2.2.2
def inB (n lo hi : Int) : Bool := decide (lo ≤ n) && decide (n ≤ hi)
/-- whether a step is ok -/
def opB (k r s t vk vn : Int) : Bool :=
  inB k 1 14 && okB vk vn && (!(k == 8) || (vk == 1 && decide (1 ≤ vn))) && (!(k == 13) || (vk == 1 && inB vn 0 1))
    && ((inB r 0 3 && fR k) || r == 0) && ((inB s 0 3 && fS k) || s == 0) && ((inB t 0 15 && fT k) || t == 0) && (fV k || (vk == 0 && vn == 0))
theorem inB_iff {n lo hi : Int} : inB n lo hi = true ↔ lo ≤ n ∧ n ≤ hi := by simp [inB]
/-- what an ok step is -/
structure OpIs (k r s t vk vn : Int) : Prop where
  k1 : 1 ≤ k
  k2 : k ≤ 14
  v : okB vk vn = true
  after : k = 8 → vk = 1 ∧ 1 ≤ vn
  trap : k = 13 → vk = 1 ∧ 0 ≤ vn ∧ vn ≤ 1
  r1 : 0 ≤ r
  r2 : r ≤ 3
  s1 : 0 ≤ s
  s2 : s ≤ 3
  t1 : 0 ≤ t
  t2 : t ≤ 15
  rN : fR k = false → r = 0
  sN : fS k = false → s = 0
  tN : fT k = false → t = 0
  vN : fV k = false → vk = 0 ∧ vn = 0
theorem opIs_of {k r s t vk vn : Int} (h : opB k r s t vk vn = true) : OpIs k r s t vk vn := by
  simp only [opB, Bool.and_eq_true, Bool.or_eq_true, Bool.not_eq_true', inB_iff, beq_iff_eq, beq_eq_false_iff_ne, decide_eq_true_eq] at h
  obtain ⟨⟨⟨⟨⟨⟨⟨⟨h1, h2⟩, h3⟩, h4⟩, h5⟩, h6⟩, h7⟩, h8⟩, h9⟩ := h
  refine ⟨h1, h2, h3, ?_, ?_, ?_, ?_, ?_, ?_, ?_, ?_, ?_, ?_, ?_, ?_⟩
  · intro e; rcases h4 with h | h; exact absurd e h; exact h
  · intro e; rcases h5 with h | h; exact absurd e h; exact h
  · rcases h6 with h | h; exact h.1.1; omega
  · rcases h6 with h | h; exact h.1.2; omega
  · rcases h7 with h | h; exact h.1.1; omega
  · rcases h7 with h | h; exact h.1.2; omega
  · rcases h8 with h | h; exact h.1.1; omega
  · rcases h8 with h | h; exact h.1.2; omega
  · intro e; rcases h6 with h | h; rw [e] at h; cases h.2; exact h
  · intro e; rcases h7 with h | h; rw [e] at h; cases h.2; exact h
  · intro e; rcases h8 with h | h; rw [e] at h; cases h.2; exact h
  · intro e; rcases h9 with h | h; rw [e] at h; cases h; exact h
end Go.Proofs.YtjhpaoadpcnlnaaGreatDoor
namespace Go.Proofs.YtjhpaoadpcnlnaaGreatDoor
open Go.ChangeShapes Go.WideShapes Go.ChangeAt Go.RowKit Go.Joins
/-- what a kind has, in memory -/
abbrev formO (k : Int) : Obj := .cells #[.bool (fR k), .bool (fS k), .bool (fT k), .bool (fV k)] 4
theorem kinds14 {k : Int} (h1 : 1 ≤ k) (h2 : k ≤ 14) : k = 1 ∨ k = 2 ∨ k = 3 ∨ k = 4 ∨ k = 5 ∨ k = 6 ∨ k = 7 ∨ k = 8 ∨ k = 9 ∨ k = 10 ∨ k = 11 ∨ k = 12 ∨ k = 13 ∨ k = 14 := by omega
set_option maxHeartbeats 4000000 in
theorem form_any (k : Int) (w : World) (h1 : 1 ≤ k) (h2 : k ≤ 14) :
    Calls Tryz.prog 51 #[.int .i64 k] w fun e w' => e = .returned (.slice (some ⟨w.heap.size, 0, none⟩) 4 4) ∧ w' = w.alloc (formO k) := by
  rcases kinds14 h1 h2 with rfl | rfl | rfl | rfl | rfl | rfl | rfl | rfl | rfl | rfl | rfl | rfl | rfl | rfl <;>
  · go_enter Tryz.func51, Tryz.ntmps51
    go_wp2_with fail
    go_ret
    exact ⟨rfl, rfl⟩
set_option maxHeartbeats 4000000 in
theorem form_none (k : Int) (w : World) (h : k < 1 ∨ 14 < k) :
    Calls Tryz.prog 51 #[.int .i64 k] w fun e w' => (∃ a, e = .returned (.slice (some a) 0 0)) ∧ Below w.heap.size w w' := by
  have e1 : (k == 1) = false := by simp; omega
  have e2 : (k == 2) = false := by simp; omega
  have e3 : (k == 3) = false := by simp; omega
  have e4 : (k == 4) = false := by simp; omega
  have e5 : (k == 5) = false := by simp; omega
  have e6 : (k == 6) = false := by simp; omega
  have e7 : (k == 7) = false := by simp; omega
  have e8 : (k == 8) = false := by simp; omega
  have e9 : (k == 9) = false := by simp; omega
  have e10 : (k == 10) = false := by simp; omega
  have e11 : (k == 11) = false := by simp; omega
  have e12 : (k == 12) = false := by simp; omega
  have e13 : (k == 13) = false := by simp; omega
  have e14 : (k == 14) = false := by simp; omega
  go_enter Tryz.func51, Tryz.ntmps51
  go_wp2_with fail
  go_ret
  exact ⟨⟨_, rfl⟩, (Below.refl _ _).alloc (Nat.le_refl _) _⟩
theorem slot_any (n : Int) (w : World) : Calls Tryz.prog 100 #[.int .i64 n] w fun e w' => e = .returned (.bool (inB n 0 3)) ∧ w' = w := by
  go_enter Tryz.func100, Tryz.ntmps100
  go_wp2_with fail
  refine (l6In_any _ _ _ _).mono ?_
  rintro e w1 ⟨rfl, rfl⟩
  go_wp2_with fail
  go_ret
  exact ⟨rfl, rfl⟩
theorem to_any (n : Int) (w : World) : Calls Tryz.prog 101 #[.int .i64 n] w fun e w' => e = .returned (.bool (inB n 0 15)) ∧ w' = w := by
  go_enter Tryz.func101, Tryz.ntmps101
  go_wp2_with fail
  refine (l6In_any _ _ _ _).mono ?_
  rintro e w1 ⟨rfl, rfl⟩
  go_wp2_with fail
  go_ret
  exact ⟨rfl, rfl⟩
end Go.Proofs.YtjhpaoadpcnlnaaGreatDoor
namespace Go.Proofs.YtjhpaoadpcnlnaaGreatDoor
/-- a step, by its numbers -/
structure OpV where
  k : Int
  r : Int
  s : Int
  t : Int
  a : Int
  b : Int
/-- what two ways bring together; -1: nobody has come -/
def meet (x y : Int) : Int := if x < 0 then y else ((x.toNat &&& y.toNat : Nat) : Int)
def orB (x y : Int) : Int := ((x.toNat ||| y.toNat : Nat) : Int)
def bitOf (r : Int) : Int := if r = 0 then 1 else if r = 1 then 2 else if r = 2 then 4 else 8
/-- no more than -/
abbrev Le (x y : Int) : Prop := y = -1 ∨ meet x y = x
def Bd (x : Int) : Prop := -1 ≤ x ∧ x ≤ 15
def rank (x : Int) : Nat := if x < 0 then 5 else x.toNat % 2 + x.toNat / 2 % 2 + x.toNat / 4 % 2 + x.toNat / 8 % 2
theorem bd_fin {x : Int} (h : Bd x) : ∃ i : Fin 17, x = (i.val : Int) - 1 := by
  obtain ⟨h1, h2⟩ := h
  exact ⟨⟨(x + 1).toNat, by omega⟩, by simp; omega⟩
theorem meet_bd {x y : Int} (hx : Bd x) (h1 : 0 ≤ y) (h2 : y ≤ 15) : 0 ≤ meet x y ∧ meet x y ≤ 15 := by
  have key : ∀ i j : Fin 17, 0 ≤ (j.val : Int) - 1 → 0 ≤ meet ((i.val : Int) - 1) ((j.val : Int) - 1) ∧ meet ((i.val : Int) - 1) ((j.val : Int) - 1) ≤ 15 := by decide +kernel
  obtain ⟨i, rfl⟩ := bd_fin hx
  obtain ⟨j, rfl⟩ := bd_fin (x := y) ⟨by omega, h2⟩
  exact key i j h1
theorem meet_left {x y : Int} (hx : Bd x) (h1 : 0 ≤ y) (h2 : y ≤ 15) : Le (meet x y) x := by
  have key : ∀ i j : Fin 17, 0 ≤ (j.val : Int) - 1 → Le (meet ((i.val : Int) - 1) ((j.val : Int) - 1)) ((i.val : Int) - 1) := by decide +kernel
  obtain ⟨i, rfl⟩ := bd_fin hx
  obtain ⟨j, rfl⟩ := bd_fin (x := y) ⟨by omega, h2⟩
  exact key i j h1
theorem meet_right {x y : Int} (hx : Bd x) (h1 : 0 ≤ y) (h2 : y ≤ 15) : Le (meet x y) y := by
  have key : ∀ i j : Fin 17, 0 ≤ (j.val : Int) - 1 → Le (meet ((i.val : Int) - 1) ((j.val : Int) - 1)) ((j.val : Int) - 1) := by decide +kernel
  obtain ⟨i, rfl⟩ := bd_fin hx
  obtain ⟨j, rfl⟩ := bd_fin (x := y) ⟨by omega, h2⟩
  exact key i j h1
theorem le_meet {u x y : Int} (hu : Bd u) (hx : Bd x) (h1 : 0 ≤ y) (h2 : y ≤ 15) (a : Le u x) (b : Le u y) : Le u (meet x y) := by
  have key : ∀ i j l : Fin 17, 0 ≤ (l.val : Int) - 1 → Le ((i.val : Int) - 1) ((j.val : Int) - 1) → Le ((i.val : Int) - 1) ((l.val : Int) - 1) → Le ((i.val : Int) - 1) (meet ((j.val : Int) - 1) ((l.val : Int) - 1)) := by decide +kernel
  obtain ⟨i, rfl⟩ := bd_fin hu
  obtain ⟨j, rfl⟩ := bd_fin hx
  obtain ⟨l, rfl⟩ := bd_fin (x := y) ⟨by omega, h2⟩
  exact key i j l h1 a b
theorem le_trans3 {u x y : Int} (hu : Bd u) (hx : Bd x) (hy : Bd y) (a : Le u x) (b : Le x y) : Le u y := by
  have key : ∀ i j l : Fin 17, Le ((i.val : Int) - 1) ((j.val : Int) - 1) → Le ((j.val : Int) - 1) ((l.val : Int) - 1) → Le ((i.val : Int) - 1) ((l.val : Int) - 1) := by decide +kernel
  obtain ⟨i, rfl⟩ := bd_fin hu
  obtain ⟨j, rfl⟩ := bd_fin hx
  obtain ⟨l, rfl⟩ := bd_fin hy
  exact key i j l a b
theorem le_anti {x y : Int} (hx : Bd x) (hy : Bd y) (a : Le x y) (b : Le y x) : x = y := by
  have key : ∀ i j : Fin 17, Le ((i.val : Int) - 1) ((j.val : Int) - 1) → Le ((j.val : Int) - 1) ((i.val : Int) - 1) → (i.val : Int) - 1 = (j.val : Int) - 1 := by decide +kernel
  obtain ⟨i, rfl⟩ := bd_fin hx
  obtain ⟨j, rfl⟩ := bd_fin hy
  exact key i j a b
theorem le_self {x : Int} (hx : Bd x) : Le x x := by
  have key : ∀ i : Fin 17, Le ((i.val : Int) - 1) ((i.val : Int) - 1) := by decide +kernel
  obtain ⟨i, rfl⟩ := bd_fin hx
  exact key i
theorem le_nn {x y : Int} (hx : Bd x) (hy : Bd y) (h : 0 ≤ y) (a : Le x y) : 0 ≤ x := by
  have key : ∀ i j : Fin 17, 0 ≤ (j.val : Int) - 1 → Le ((i.val : Int) - 1) ((j.val : Int) - 1) → 0 ≤ (i.val : Int) - 1 := by decide +kernel
  obtain ⟨i, rfl⟩ := bd_fin hx
  obtain ⟨j, rfl⟩ := bd_fin hy
  exact key i j h a
theorem le_zero {y : Int} (hy : Bd y) : Le 0 y := by
  have key : ∀ i : Fin 17, Le 0 ((i.val : Int) - 1) := by decide +kernel
  obtain ⟨i, rfl⟩ := bd_fin hy
  exact key i
theorem or_mono {x y b : Int} (hx : Bd x) (hy : Bd y) (h1 : 0 ≤ y) (hb : 0 ≤ b) (hb2 : b ≤ 15) (a : Le x y) : Le (orB x b) (orB y b) := by
  have key : ∀ i j l : Fin 17, 0 ≤ (j.val : Int) - 1 → 0 ≤ (l.val : Int) - 1 → Le ((i.val : Int) - 1) ((j.val : Int) - 1) → Le (orB ((i.val : Int) - 1) ((l.val : Int) - 1)) (orB ((j.val : Int) - 1) ((l.val : Int) - 1)) := by decide +kernel
  obtain ⟨i, rfl⟩ := bd_fin hx
  obtain ⟨j, rfl⟩ := bd_fin hy
  obtain ⟨l, rfl⟩ := bd_fin (x := b) ⟨by omega, hb2⟩
  exact key i j l h1 hb a
theorem or_bd {x b : Int} (hx : Bd x) (h0 : 0 ≤ x) (hb : 0 ≤ b) (hb2 : b ≤ 15) : 0 ≤ orB x b ∧ orB x b ≤ 15 := by
  have key : ∀ i j : Fin 17, 0 ≤ (i.val : Int) - 1 → 0 ≤ (j.val : Int) - 1 → 0 ≤ orB ((i.val : Int) - 1) ((j.val : Int) - 1) ∧ orB ((i.val : Int) - 1) ((j.val : Int) - 1) ≤ 15 := by decide +kernel
  obtain ⟨i, rfl⟩ := bd_fin hx
  obtain ⟨j, rfl⟩ := bd_fin (x := b) ⟨by omega, hb2⟩
  exact key i j h0 hb
theorem rank_le (x : Int) : rank x ≤ 5 := by unfold rank; split <;> omega
theorem rank_meet {x y : Int} (hx : Bd x) (h1 : 0 ≤ y) (h2 : y ≤ 15) (h : meet x y ≠ x) : rank (meet x y) < rank x := by
  have key : ∀ i j : Fin 17, 0 ≤ (j.val : Int) - 1 → meet ((i.val : Int) - 1) ((j.val : Int) - 1) ≠ (i.val : Int) - 1 → rank (meet ((i.val : Int) - 1) ((j.val : Int) - 1)) < rank ((i.val : Int) - 1) := by decide +kernel
  obtain ⟨i, rfl⟩ := bd_fin hx
  obtain ⟨j, rfl⟩ := bd_fin (x := y) ⟨by omega, h2⟩
  exact key i j h1 h

/-! ### ways -/
def goesB (k : Int) : Bool := k == 5 || k == 8 || k == 9 || k == 10
def fillsB (k : Int) : Bool := k == 1 || k == 2 || k == 4 || k == 5 || k == 7 || k == 8
def onB (o : OpV) (x : Int) : Int := if fillsB o.k = true then orB x (bitOf o.r) else x
def nextW (o : OpV) (i n : Nat) (x : Int) : List (Nat × Int) := if (!(o.k == 9 || o.k == 14) && decide (i + 1 < n)) = true then [(i + 1, onB o x)] else []
def toW (o : OpV) (x : Int) : List (Nat × Int) := if o.k = 8 ∨ o.k = 9 ∨ o.k = 10 then [(o.t.toNat, x)] else if o.k = 5 then [(o.t.toNat, 1)] else []
/-- the ways out of a place -/
def waysL (o : OpV) (i n : Nat) (x : Int) : List (Nat × Int) := nextW o i n x ++ toW o x
def atV (v : List Int) (i : Nat) : Int := v.getD i (-1)
theorem atV_set (v : List Int) (i j : Nat) (x : Int) (h : i < v.length) : atV (v.set i x) j = if i = j then x else atV v j := by
  unfold atV
  rw [List.getD_eq_getElem?_getD, List.getElem?_set]
  by_cases e : i = j
  · subst e; simp [h]
  · simp [e]
/-- the steps' places are such, and their slots -/
def Well (C : List OpV) : Prop := 0 < C.length ∧ ∀ i (h : i < C.length), 0 ≤ C[i].t ∧ C[i].t < C.length ∧ 0 ≤ C[i].r ∧ C[i].r ≤ 3
theorem bit_bd (r : Int) : 0 ≤ bitOf r ∧ bitOf r ≤ 15 := by unfold bitOf; repeat' split <;> omega
theorem on_bd (o : OpV) {x : Int} (hx : Bd x) (h0 : 0 ≤ x) : 0 ≤ onB o x ∧ onB o x ≤ 15 := by
  unfold onB; split
  · exact or_bd hx h0 (bit_bd _).1 (bit_bd _).2
  · exact ⟨h0, hx.2⟩
theorem on_mono (o : OpV) {x y : Int} (hx : Bd x) (hy : Bd y) (h0 : 0 ≤ y) (a : Le x y) : Le (onB o x) (onB o y) := by
  unfold onB; split
  · exact or_mono hx hy h0 (bit_bd _).1 (bit_bd _).2 a
  · exact a
theorem ways_bd {C : List OpV} (hC : Well C) {i : Nat} (hi : i < C.length) {x : Int} (hx : Bd x) (h0 : 0 ≤ x) : ∀ p ∈ waysL C[i] i C.length x, p.1 < C.length ∧ 0 ≤ p.2 ∧ p.2 ≤ 15 := by
  intro p hp
  have ht := hC.2 i hi
  rcases List.mem_append.1 hp with hp | hp
  · unfold nextW at hp
    split at hp
    · rename_i h
      simp only [Bool.and_eq_true, decide_eq_true_eq] at h
      rw [List.mem_singleton.1 hp]
      exact ⟨h.2, on_bd _ hx h0⟩
    · cases hp
  · unfold toW at hp
    split at hp
    · rw [List.mem_singleton.1 hp]; exact ⟨by dsimp only; omega, h0, hx.2⟩
    · split at hp
      · rw [List.mem_singleton.1 hp]; exact ⟨by dsimp only; omega, by simp, by simp⟩
      · cases hp
/-- with less ahead no more is brought -/
theorem ways_mono {o : OpV} {i n : Nat} {x y : Int} (hx : Bd x) (hy : Bd y) (h0 : 0 ≤ y) (a : Le x y) : ∀ p ∈ waysL o i n y, ∃ q ∈ waysL o i n x, q.1 = p.1 ∧ Le q.2 p.2 := by
  intro p hp
  rcases List.mem_append.1 hp with hp | hp
  · unfold nextW at hp
    split at hp
    · rename_i h
      rw [List.mem_singleton.1 hp]
      exact ⟨(i + 1, onB o x), List.mem_append.2 (.inl (by unfold nextW; rw [if_pos h]; simp)), rfl, on_mono o hx hy h0 a⟩
    · cases hp
  · unfold toW at hp
    split at hp
    · rename_i h
      rw [List.mem_singleton.1 hp]
      exact ⟨(o.t.toNat, x), List.mem_append.2 (.inr (by unfold toW; rw [if_pos h]; simp)), rfl, a⟩
    · split at hp
      · rename_i h h'
        rw [List.mem_singleton.1 hp]
        exact ⟨(o.t.toNat, 1), List.mem_append.2 (.inr (by unfold toW; rw [if_neg h, if_pos h']; simp)), rfl, le_self ⟨by simp, by simp⟩⟩
      · cases hp
/-- bits, one for each place -/
def Vec (C : List OpV) (v : List Int) : Prop := v.length = C.length ∧ ∀ i, Bd (atV v i)
theorem Vec.set {C : List OpV} {v : List Int} (h : Vec C v) {i : Nat} (hi : i < C.length) {x : Int} (hx : Bd x) : Vec C (v.set i x) := by
  refine ⟨by simp [h.1], fun j => ?_⟩
  rw [atV_set _ _ _ _ (by rw [h.1]; exact hi)]
  split
  · exact hx
  · exact h.2 j
/-- the ways' bounds are kept -/
def Sol (C : List OpV) (v : List Int) : Prop :=
  Vec C v ∧ Le (atV v 0) 1 ∧ ∀ i (hi : i < C.length), 0 ≤ atV v i → ∀ p ∈ waysL C[i] i C.length (atV v i), Le (atV v p.1) p.2
/-- nobody has more -/
def Top (C : List OpV) (v : List Int) : Prop := ∀ u, Sol C u → ∀ i, Le (atV u i) (atV v i)
/-- what is full -/
def IsFull (C : List OpV) (v : List Int) : Prop := Sol C v ∧ Top C v
theorem full_one {C : List OpV} {u v : List Int} (h : IsFull C u) (k : IsFull C v) : u = v := by
  have h1 := h.1.1
  have k1 := k.1.1
  apply List.ext_getElem (by rw [h1.1, k1.1])
  intro i a b
  have e := le_anti (h1.2 i) (k1.2 i) (k.2 u h.1 i) (h.2 v k.1 i)
  simpa [atV, List.getD_eq_getElem?_getD, List.getElem?_eq_getElem a, List.getElem?_eq_getElem b] using e
/-- a way that each solution keeps -/
def Sound (C : List OpV) (p : Nat × Int) : Prop := p.1 < C.length ∧ (0 ≤ p.2 ∧ p.2 ≤ 15) ∧ ∀ u, Sol C u → Le (atV u p.1) p.2
theorem sound_first {C : List OpV} (hC : Well C) : Sound C (0, 1) := ⟨hC.1, ⟨by decide, by decide⟩, fun _ hu => hu.2.1⟩
/-- the ways from a place that has no less than any solution are kept by each -/
theorem sound_ways {C : List OpV} (hC : Well C) {v : List Int} (hv : Vec C v) (hT : Top C v) {i : Nat} (hi : i < C.length) (h0 : 0 ≤ atV v i) : ∀ p ∈ waysL C[i] i C.length (atV v i), Sound C p := by
  intro p hp
  obtain ⟨h1, h2⟩ := ways_bd hC hi (hv.2 i) h0 p hp
  refine ⟨h1, h2, fun u hu => ?_⟩
  have hui := hT u hu i
  obtain ⟨q, hq, e, l⟩ := ways_mono (hu.1.2 i) (hv.2 i) h0 hui p hp
  have hu0 := le_nn (hu.1.2 i) (hv.2 i) h0 hui
  have l2 := hu.2.2 i hi hu0 q hq
  have qb := (ways_bd hC hi (hu.1.2 i) hu0 q hq).2
  rw [e] at l2
  exact le_trans3 (hu.1.2 _) ⟨by omega, qb.2⟩ ⟨by omega, h2.2⟩ l2 l
/-- a way merged -/
theorem top_merge {C : List OpV} {v : List Int} (hv : Vec C v) (hT : Top C v) {p : Nat × Int} (hp : Sound C p) : Vec C (v.set p.1 (meet (atV v p.1) p.2)) ∧ Top C (v.set p.1 (meet (atV v p.1) p.2)) := by
  have hb := meet_bd (hv.2 p.1) hp.2.1.1 hp.2.1.2
  refine ⟨hv.set hp.1 ⟨by omega, hb.2⟩, fun u hu i => ?_⟩
  rw [atV_set _ _ _ _ (by rw [hv.1]; exact hp.1)]
  split
  · rename_i e; subst e; exact le_meet (hu.1.2 _) (hv.2 _) hp.2.1.1 hp.2.1.2 (hT u hu _) (hp.2.2 u hu)
  · exact hT u hu i
def sumR (v : List Int) : Nat := (v.map rank).sum
theorem sum_set : ∀ (v : List Nat) (i : Nat) (x : Nat), (h : i < v.length) → (v.set i x).sum + v[i] = v.sum + x
  | a :: l, 0, x, _ => by simp; omega
  | a :: l, i + 1, x, h => by
    have := sum_set l i x (by simpa using h)
    simp; omega
theorem sum_merge {C : List OpV} {v : List Int} (hv : Vec C v) {p : Nat × Int} (hp : Sound C p) (h : meet (atV v p.1) p.2 ≠ atV v p.1) : sumR (v.set p.1 (meet (atV v p.1) p.2)) < sumR v := by
  have hr := rank_meet (hv.2 p.1) hp.2.1.1 hp.2.1.2 h
  have hl : p.1 < v.length := by rw [hv.1]; exact hp.1
  have := sum_set (v.map rank) p.1 (rank (meet (atV v p.1) p.2)) (by simpa using hl)
  have e : atV v p.1 = v[p.1] := by simp [atV, List.getD_eq_getElem?_getD, List.getElem?_eq_getElem hl]
  unfold sumR
  rw [List.map_set]
  simp only [List.getElem_map] at this
  rw [← e] at this
  omega
/-! ### the queue -/
def Inv (C : List OpV) (v : List Int) (Q : List (Nat × Int)) : Prop :=
  Vec C v ∧ Top C v ∧ (∀ p ∈ Q, Sound C p) ∧ (Le (atV v 0) 1 ∨ (0, 1) ∈ Q) ∧ ∀ i (hi : i < C.length), 0 ≤ atV v i → ∀ p ∈ waysL C[i] i C.length (atV v i), Le (atV v p.1) p.2 ∨ p ∈ Q
theorem atV_replicate (n i : Nat) : atV (List.replicate n (-1)) i = -1 := by
  unfold atV
  rw [List.getD_eq_getElem?_getD]
  by_cases h : i < n
  · rw [List.getElem?_eq_getElem (by simpa using h)]; simp
  · rw [List.getElem?_eq_none (by simp; omega)]; rfl
theorem inv_start {C : List OpV} (hC : Well C) : Inv C (List.replicate C.length (-1)) [(0, 1)] := by
  refine ⟨⟨by simp, fun i => by rw [atV_replicate]; exact ⟨by decide, by decide⟩⟩, fun u _ i => .inl (atV_replicate _ _), fun p hp => ?_, .inr (by simp), fun i _ h => ?_⟩
  · rw [List.mem_singleton.1 hp]; exact sound_first hC
  · rw [atV_replicate] at h; exact absurd h (by decide)
theorem inv_same {C : List OpV} {v : List Int} {p : Nat × Int} {Q : List (Nat × Int)} (h : Inv C v (p :: Q)) (e : meet (atV v p.1) p.2 = atV v p.1) : Inv C v Q := by
  obtain ⟨h1, h2, h3, h4, h5⟩ := h
  refine ⟨h1, h2, fun q hq => h3 q (by simp [hq]), ?_, fun i hi h0 q hq => ?_⟩
  · rcases h4 with h | h
    · exact .inl h
    · rcases List.mem_cons.1 h with rfl | h
      · exact .inl (.inr e)
      · exact .inr h
  · rcases h5 i hi h0 q hq with h | h
    · exact .inl h
    · rcases List.mem_cons.1 h with rfl | h
      · exact .inl (.inr e)
      · exact .inr h
theorem le_of_set {C : List OpV} {v : List Int} (hv : Vec C v) {p : Nat × Int} (hp : Sound C p) {j : Nat} {y : Int} (hy : Bd y) (h : Le (atV v j) y) : Le (atV (v.set p.1 (meet (atV v p.1) p.2)) j) y := by
  have hb := meet_bd (hv.2 p.1) hp.2.1.1 hp.2.1.2
  rw [atV_set _ _ _ _ (by rw [hv.1]; exact hp.1)]
  split
  · rename_i e; subst e
    exact le_trans3 ⟨by omega, hb.2⟩ (hv.2 _) hy (meet_left (hv.2 _) hp.2.1.1 hp.2.1.2) h
  · exact h
theorem inv_less {C : List OpV} (hC : Well C) {v : List Int} {p : Nat × Int} {Q : List (Nat × Int)} (h : Inv C v (p :: Q)) (hp : p.1 < C.length) :
    Inv C (v.set p.1 (meet (atV v p.1) p.2)) (Q ++ waysL C[p.1] p.1 C.length (meet (atV v p.1) p.2)) := by
  obtain ⟨h1, h2, h3, h4, h5⟩ := h
  have hs := h3 p (by simp)
  have hb := meet_bd (h1.2 p.1) hs.2.1.1 hs.2.1.2
  obtain ⟨k1, k2⟩ := top_merge h1 h2 hs
  have ea : atV (v.set p.1 (meet (atV v p.1) p.2)) p.1 = meet (atV v p.1) p.2 := by rw [atV_set _ _ _ _ (by rw [h1.1]; exact hp)]; simp
  have er : Le (atV (v.set p.1 (meet (atV v p.1) p.2)) p.1) p.2 := by rw [ea]; exact meet_right (h1.2 _) hs.2.1.1 hs.2.1.2
  refine ⟨k1, k2, fun q hq => ?_, ?_, fun i hi h0 q hq => ?_⟩
  · rcases List.mem_append.1 hq with hq | hq
    · exact h3 q (by simp [hq])
    · have := sound_ways hC k1 k2 hp (by rw [ea]; exact hb.1) q (by rw [ea]; exact hq)
      exact this
  · rcases h4 with h | h
    · exact .inl (le_of_set h1 hs ⟨by decide, by decide⟩ h)
    · rcases List.mem_cons.1 h with e | h
      · subst e; exact .inl er
      · exact .inr (List.mem_append.2 (.inl h))
  · by_cases e : p.1 = i
    · subst e
      rw [ea] at hq
      exact .inr (List.mem_append.2 (.inr hq))
    · have e' : atV (v.set p.1 (meet (atV v p.1) p.2)) i = atV v i := by rw [atV_set _ _ _ _ (by rw [h1.1]; exact hp), if_neg e]
      rw [e'] at hq h0
      have qb := (ways_bd hC hi (h1.2 i) h0 q hq).2
      rcases h5 i hi h0 q hq with h | h
      · exact .inl (le_of_set h1 hs ⟨by omega, qb.2⟩ h)
      · rcases List.mem_cons.1 h with rfl | h
        · exact .inl er
        · exact .inr (List.mem_append.2 (.inl h))
theorem inv_done {C : List OpV} {v : List Int} (h : Inv C v []) : IsFull C v := by
  obtain ⟨h1, h2, _, h4, h5⟩ := h
  refine ⟨⟨h1, ?_, fun i hi h0 p hp => ?_⟩, h2⟩
  · rcases h4 with h | h
    · exact h
    · cases h
  · rcases h5 i hi h0 p hp with h | h
    · exact h
    · cases h
theorem ways_len (o : OpV) (i n : Nat) (x : Int) : (waysL o i n x).length ≤ 2 := by
  unfold waysL nextW toW
  split <;> split <;> (try split) <;> simp
theorem sum_le (v : List Int) : sumR v ≤ 5 * v.length := by
  unfold sumR
  induction v with
  | nil => simp
  | cons a l ih => have := rank_le a; simp; omega

/-! ### the rounds -/
/-- a way merged, and whether that turned anything -/
def mergeV (v : List Int) (p : Nat × Int) : List Int := if meet (atV v p.1) p.2 = atV v p.1 then v else v.set p.1 (meet (atV v p.1) p.2)
def mergeB (v : List Int) (p : Nat × Int) : Bool := !(meet (atV v p.1) p.2 == atV v p.1)
/-- what a round keeps: what it began with is u -/
def Rnd (C : List OpV) (u v : List Int) (m : Bool) : Prop := Vec C v ∧ Top C v ∧ Le (atV v 0) 1 ∧ (m = false → v = u) ∧ (m = true → sumR v < sumR u)
theorem rnd_merge {C : List OpV} {u v : List Int} {m : Bool} (h : Rnd C u v m) {p : Nat × Int} (hp : Sound C p) :
    Rnd C u (mergeV v p) (mergeB v p || m) ∧ (mergeB v p = false → mergeV v p = v ∧ Le (atV v p.1) p.2) := by
  obtain ⟨h1, h2, h3, h4, h5⟩ := h
  unfold mergeV mergeB
  by_cases e : meet (atV v p.1) p.2 = atV v p.1
  · rw [if_pos e]
    refine ⟨⟨h1, h2, h3, ?_, ?_⟩, fun _ => ⟨rfl, .inr e⟩⟩
    · simpa [e] using h4
    · simpa [e] using h5
  · rw [if_neg e]
    obtain ⟨k1, k2⟩ := top_merge h1 h2 hp
    refine ⟨⟨k1, k2, le_of_set h1 hp ⟨by decide, by decide⟩ h3, ?_, fun _ => ?_⟩, ?_⟩
    · simp [e]
    · have := sum_merge h1 hp e
      cases m with
      | false => rw [h4 rfl] at this ⊢; exact this
      | true => have := h5 rfl; omega
    · simp [e]
/-- the places ahead of i keep their ways' bounds -/
def Upto (C : List OpV) (i : Nat) (v : List Int) : Prop := ∀ j (hj : j < C.length), j < i → 0 ≤ atV v j → ∀ p ∈ waysL C[j] j C.length (atV v j), Le (atV v p.1) p.2
theorem rnd_done {C : List OpV} {u v : List Int} (h : Rnd C u v false) (k : Upto C C.length v) : IsFull C v :=
  ⟨⟨h.1, h.2.2.1, fun i hi h0 p hp => k i hi hi h0 p hp⟩, h.2.1⟩
def startV (n : Nat) : List Int := (List.replicate n (-1)).set 0 1
theorem rnd_start {C : List OpV} (hC : Well C) : Vec C (startV C.length) ∧ Top C (startV C.length) ∧ Le (atV (startV C.length) 0) 1 := by
  have h := inv_start hC
  have hv : Vec C (List.replicate C.length (-1)) := h.1
  have hs := sound_first hC
  have e : startV C.length = (List.replicate C.length (-1)).set (0, 1).1 (meet (atV (List.replicate C.length (-1)) (0, 1).1) (0, 1).2) := by
    rw [atV_replicate]; rfl
  obtain ⟨k1, k2⟩ := top_merge hv h.2.1 hs
  rw [e]
  refine ⟨k1, k2, ?_⟩
  rw [atV_set _ _ _ _ (by simpa using hC.1)]
  simp
  exact meet_right (hv.2 _) (by decide) (by decide)
end Go.Proofs.YtjhpaoadpcnlnaaGreatDoor
namespace Go.Proofs.YtjhpaoadpcnlnaaGreatDoor
open Go.ChangeShapes Go.WideShapes Go.ChangeAt Go.RowKit Go.Joins
def OpV.ok (o : OpV) : Bool := opB o.k o.r o.s o.t o.a o.b
abbrev OpV.val (o : OpV) : Value := .agg #[.int .i64 o.k, .int .i64 o.r, .int .i64 o.s, .int .i64 o.t, .int .i64 o.a, .int .i64 o.b]
def OpV.cells (o : OpV) : List Value := [.int .i64 o.k, .int .i64 o.r, .int .i64 o.s, .int .i64 o.t, .int .i64 o.a, .int .i64 o.b]
def opZ : OpV := ⟨0, 0, 0, 0, 0, 0⟩
/-- whether steps are ok -/
def codeB (C : List OpV) : Bool := decide (1 ≤ C.length) && decide (C.length ≤ 16) && C.all fun o => o.ok && decide (o.t < C.length)
/-- one step in memory -/
structure StepAt (w : World) (b o : Nat) (x : OpV) : Prop where
  c0 : w.cell? ⟨b, o, none⟩ = some (.int .i64 x.k)
  c1 : w.cell? ⟨b, o + 1, none⟩ = some (.int .i64 x.r)
  c2 : w.cell? ⟨b, o + 2, none⟩ = some (.int .i64 x.s)
  c3 : w.cell? ⟨b, o + 3, none⟩ = some (.int .i64 x.t)
  c4 : w.cell? ⟨b, o + 4, none⟩ = some (.int .i64 x.a)
  c5 : w.cell? ⟨b, o + 5, none⟩ = some (.int .i64 x.b)
theorem StepAt.below {w w' : World} {b o : Nat} {x : OpV} (h : StepAt w b o x) (hb : Below w.heap.size w w') : StepAt w' b o x := by
  have hl := World.block_lt_of_cell? _ _ h.c0
  exact ⟨(hb.cell (p := ⟨b, o, none⟩) hl).trans h.c0, (hb.cell (p := ⟨b, o + 1, none⟩) hl).trans h.c1, (hb.cell (p := ⟨b, o + 2, none⟩) hl).trans h.c2,
    (hb.cell (p := ⟨b, o + 3, none⟩) hl).trans h.c3, (hb.cell (p := ⟨b, o + 4, none⟩) hl).trans h.c4, (hb.cell (p := ⟨b, o + 5, none⟩) hl).trans h.c5⟩
/-- steps in memory: none, or a row of them -/
def CodeAt (w : World) (ao : Option Addr) (C : List OpV) : Prop :=
  C = [] ∨ ∃ b o, ao = some ⟨b, o, none⟩ ∧ b < w.heap.size ∧ ∀ i (h : i < C.length), StepAt w b (o + i * 6) C[i]
theorem CodeAt.below {w w' : World} {ao : Option Addr} {C : List OpV} (h : CodeAt w ao C) (hb : Below w.heap.size w w') : CodeAt w' ao C := by
  rcases h with h | ⟨b, o, ha, hl, hs⟩
  · exact .inl h
  · exact .inr ⟨b, o, ha, Nat.lt_of_lt_of_le hl hb.size, fun i hi => (hs i hi).below hb⟩
theorem codeB_well {C : List OpV} (h : codeB C = true) : Well C ∧ C.length ≤ 16 ∧ ∀ i (hi : i < C.length), C[i].ok = true := by
  simp only [codeB, Bool.and_eq_true, decide_eq_true_eq, List.all_eq_true] at h
  obtain ⟨⟨h1, h2⟩, h3⟩ := h
  have h4 : ∀ i (hi : i < C.length), C[i].ok = true := fun i hi => (h3 _ (List.getElem_mem hi)).1
  refine ⟨⟨h1, fun i hi => ?_⟩, h2, h4⟩
  have o := opIs_of (h4 i hi)
  exact ⟨o.t1, (h3 _ (List.getElem_mem hi)).2, o.r1, o.r2⟩
/-- the first k are ok -/
def UptoOk (C : List OpV) (k : Nat) : Prop := ∀ j (h : j < C.length), j < k → C[j].ok = true ∧ C[j].t < C.length
theorem codeB_all {C : List OpV} (h : UptoOk C C.length) : codeB C = (decide (1 ≤ C.length) && decide (C.length ≤ 16)) := by
  have : (C.all fun o => o.ok && decide (o.t < C.length)) = true := by
    rw [List.all_eq_true]
    intro o ho
    obtain ⟨i, hi, rfl⟩ := List.getElem_of_mem ho
    simp [h i hi hi]
  simp [codeB, this]
theorem codeB_no {C : List OpV} {k : Nat} (hk : k < C.length) (h : C[k].ok = false ∨ (C.length : Int) ≤ C[k].t) : codeB C = false := by
  have : (C.all fun o => o.ok && decide (o.t < C.length)) = false := by
    rw [List.all_eq_false]
    refine ⟨C[k], List.getElem_mem hk, ?_⟩
    rcases h with h | h
    · simp [h]
    · simp; intro _; exact h
  simp [codeB, this]
end Go.Proofs.YtjhpaoadpcnlnaaGreatDoor
namespace Go.Proofs.YtjhpaoadpcnlnaaGreatDoor
open Go.ChangeShapes Go.WideShapes Go.ChangeAt Go.RowKit Go.Joins
/-- the cells of steps -/
def cellsO : List OpV → List Value
  | [] => []
  | x :: C => .int .i64 x.k :: .int .i64 x.r :: .int .i64 x.s :: .int .i64 x.t :: .int .i64 x.a :: .int .i64 x.b :: cellsO C
theorem cellsO_len : ∀ C : List OpV, (cellsO C).length = C.length * 6
  | [] => rfl
  | x :: C => by simp [cellsO, cellsO_len C]; omega
theorem cellsO_snoc : ∀ (C : List OpV) (x : OpV), cellsO (C ++ [x]) = cellsO C ++ x.cells
  | [], x => rfl
  | y :: C, x => by simp [cellsO, cellsO_snoc C x]
theorem cellsO_app : ∀ (C D : List OpV), cellsO (C ++ D) = cellsO C ++ cellsO D
  | [], D => rfl
  | y :: C, D => by simp [cellsO, cellsO_app C D]
theorem cellsO_at : ∀ (C : List OpV) (i : Nat) (h : i < C.length), (cellsO C)[i * 6]? = some (.int .i64 C[i].k) ∧ (cellsO C)[i * 6 + 1]? = some (.int .i64 C[i].r) ∧ (cellsO C)[i * 6 + 2]? = some (.int .i64 C[i].s) ∧ (cellsO C)[i * 6 + 3]? = some (.int .i64 C[i].t) ∧ (cellsO C)[i * 6 + 4]? = some (.int .i64 C[i].a) ∧ (cellsO C)[i * 6 + 5]? = some (.int .i64 C[i].b)
  | x :: C, 0, _ => ⟨rfl, rfl, rfl, rfl, rfl, rfl⟩
  | x :: C, i + 1, h => by
    have ih := cellsO_at C i (by simpa using h)
    have e : ∀ j, (cellsO (x :: C))[(i + 1) * 6 + j]? = (cellsO C)[i * 6 + j]? := fun j => by
      rw [show (i + 1) * 6 + j = (i * 6 + j) + 6 by omega]; rfl
    exact ⟨(e 0).trans ih.1, (e 1).trans ih.2.1, (e 2).trans ih.2.2.1, (e 3).trans ih.2.2.2.1, (e 4).trans ih.2.2.2.2.1, (e 5).trans ih.2.2.2.2.2⟩
theorem cellsO_set : ∀ (C : List OpV) (i : Nat) (_ : i < C.length) (x : OpV), ((((((cellsO C).set (i * 6) (.int .i64 x.k)).set (i * 6 + 1) (.int .i64 x.r)).set (i * 6 + 2) (.int .i64 x.s)).set (i * 6 + 3) (.int .i64 x.t)).set (i * 6 + 4) (.int .i64 x.a)).set (i * 6 + 5) (.int .i64 x.b) = cellsO (C.set i x)
  | y :: C, 0, _, x => rfl
  | y :: C, i + 1, h, x => by
    have ih := cellsO_set C i (by simpa using h) x
    have e : ∀ (L : List Value) (j : Nat) (v : Value), (.int .i64 y.k :: .int .i64 y.r :: .int .i64 y.s :: .int .i64 y.t :: .int .i64 y.a :: .int .i64 y.b :: L).set ((i + 1) * 6 + j) v = .int .i64 y.k :: .int .i64 y.r :: .int .i64 y.s :: .int .i64 y.t :: .int .i64 y.a :: .int .i64 y.b :: L.set (i * 6 + j) v := fun L j v => by
      rw [show (i + 1) * 6 + j = (i * 6 + j) + 1 + 1 + 1 + 1 + 1 + 1 by omega]; rfl
    have e0 := e (cellsO C) 0 (.int .i64 x.k)
    simp only [Nat.add_zero] at e0
    rw [cellsO, e0, e, e, e, e, e, ih]; rfl
/-- steps in a row of one's own -/
abbrev OwnsO (w : World) (B : Nat) (v : Value) (C : List OpV) : Prop := w.ownsRow B 26 6 v C.length (cellsO C)
theorem OwnsO.code {w : World} {B : Nat} {v : Value} {C : List OpV} (h : OwnsO w B v C) : ∃ ao cap, v = .slice ao C.length cap ∧ CodeAt w ao C ∧ (C ≠ [] → ∃ g, ao = some ⟨g, 0, none⟩) := by
  rcases h.2 with ⟨rfl, hn⟩ | ⟨g, cap, cur, rfl, hg, hh, _⟩
  · have : C = [] := List.eq_nil_of_length_eq_zero hn
    subst this
    exact ⟨none, 0, rfl, .inl rfl, fun h => absurd rfl h⟩
  · refine ⟨_, cap, rfl, .inr ⟨g, 0, rfl, ?_, fun i hi => ?_⟩, fun _ => ⟨g, rfl⟩⟩
    · rcases Decidable.em (g < w.heap.size) with h | h
      · exact h
      · rw [Array.getElem?_eq_none (by omega)] at hh; cases hh
    · have k := World.ownsRow.cellAt (w := w) (base := B) (e := 26) (size := 6) (g := g) (cap := cap) h
      obtain ⟨a0, a1, a2, a3, a4, a5⟩ := cellsO_at C i hi
      refine ⟨?_, ?_, ?_, ?_, ?_, ?_⟩
      · rw [Nat.zero_add, k (i * 6) (by omega), a0]
      · rw [Nat.zero_add, k (i * 6 + 1) (by omega), a1]
      · rw [Nat.zero_add, k (i * 6 + 2) (by omega), a2]
      · rw [Nat.zero_add, k (i * 6 + 3) (by omega), a3]
      · rw [Nat.zero_add, k (i * 6 + 4) (by omega), a4]
      · rw [Nat.zero_add, k (i * 6 + 5) (by omega), a5]
theorem OwnsO.keep {w w' : World} {B : Nat} {v : Value} {C : List OpV} (h : OwnsO w B v C) {row : Option Nat} (hg : w.grownBy w' row) (hr : ∀ k, row = some k → v.ownBlock ≠ some k) : OwnsO w' B v C :=
  World.ownsRow.kept h hg (by
    cases row with
    | none => cases hv : v.ownBlock with
      | none => exact .inl rfl
      | some k => exact .inr (by simp)
    | some k => exact .inr (hr k rfl))
theorem OwnsO.below {w w' : World} {B : Nat} {v : Value} {C : List OpV} (h : OwnsO w B v C) (hb : Below w.heap.size w w') : OwnsO w' B v C :=
  h.keep (row := none) ⟨hb.os, hb.tape, hb.output, hb.size, fun k hk _ => hb.block k hk⟩ (fun k e => by cases e)
theorem OwnsO.mono {w : World} {A B : Nat} {v : Value} {C : List OpV} (h : OwnsO w B v C) (hb : A ≤ B) : OwnsO w A v C :=
  ⟨h.1, h.2.imp id fun ⟨g, cap, cur, h1, h2, h3⟩ => ⟨g, cap, cur, h1, Nat.le_trans hb h2, h3⟩⟩
/-- all but one block below stay -/
theorem OwnsO.but {w w' : World} {B R : Nat} {v : Value} {C : List OpV} (h : OwnsO w B v C) (hb : But R w w') (hR : R < B) : OwnsO w' B v C :=
  h.keep (row := some R) ⟨hb.os, hb.tape, hb.output, hb.size, fun k hk hn => hb.block k hk (fun e => hn (by rw [e]))⟩ (fun k e e' => by
    cases e
    have := (World.ownsRow.lt h _ e').1
    omega)
theorem infoO : ∃ i, Tryz.prog.info? 26 = some i ∧ i.zero = some (.agg #[.int .i64 0, .int .i64 0, .int .i64 0, .int .i64 0, .int .i64 0, .int .i64 0]) ∧ i.size = 6 ∧ i.bytes = 48 :=
  ⟨(Tryz.prog.info? 26).get (by kernel_rfl), (Option.some_get _).symm, by kernel_rfl, by kernel_rfl, by kernel_rfl⟩
theorem ownsO_empty (w : World) (B : Nat) (hB : B ≤ w.heap.size) : OwnsO (w.alloc (.cells #[] 26)) B (.slice (some ⟨w.heap.size, 0, none⟩) 0 0) [] := by
  have := World.ownsRow_lit (base := B) (e := 26) (size := 6) w #[] 0 hB (by unfold maxLen; omega) rfl
  simpa [OwnsO, cellsO] using this
theorem ownsO_nil (w : World) (B : Nat) : OwnsO w B (.slice none 0 0) [] := World.ownsRow_nil _ _ _ _
/-- a step written into a row of one's own -/
theorem OwnsO.put {w : World} {B g cap : Nat} {C : List OpV} (h : OwnsO w B (.slice (some ⟨g, 0, none⟩) C.length cap) C) (i : Nat) (hi : i < C.length) (x : OpV) :
    OwnsO ((((((w.setCell ⟨g, i * 6, none⟩ (.int .i64 x.k)).setCell ⟨g, i * 6 + 1, none⟩ (.int .i64 x.r)).setCell ⟨g, i * 6 + 2, none⟩ (.int .i64 x.s)).setCell ⟨g, i * 6 + 3, none⟩ (.int .i64 x.t)).setCell ⟨g, i * 6 + 4, none⟩ (.int .i64 x.a)).setCell ⟨g, i * 6 + 5, none⟩ (.int .i64 x.b)) B (.slice (some ⟨g, 0, none⟩) C.length cap) (C.set i x) := by
  have h1 := (World.ownsRow.stored h (i * 6) (.int .i64 x.k)).1
  have h2 := (World.ownsRow.stored h1 (i * 6 + 1) (.int .i64 x.r)).1
  have h3 := (World.ownsRow.stored h2 (i * 6 + 2) (.int .i64 x.s)).1
  have h4 := (World.ownsRow.stored h3 (i * 6 + 3) (.int .i64 x.t)).1
  have h5 := (World.ownsRow.stored h4 (i * 6 + 4) (.int .i64 x.a)).1
  have h6 := (World.ownsRow.stored h5 (i * 6 + 5) (.int .i64 x.b)).1
  rw [cellsO_set C i hi x] at h6
  show World.ownsRow _ _ _ _ _ (C.set i x).length _
  rw [List.length_set]
  exact h6
theorem cellsO_one : ∀ (C : List OpV) (u : Value), u ∈ cellsO C → u.oneCell' = true
  | [], u, h => by simp [cellsO] at h
  | x :: C, u, h => by
    simp [cellsO] at h
    rcases h with rfl | rfl | rfl | rfl | rfl | rfl | h
    · rfl
    · rfl
    · rfl
    · rfl
    · rfl
    · rfl
    · exact cellsO_one C u h
/-- a row of one's own that holds steps has a block -/
theorem OwnsO.blk {w : World} {B : Nat} {v : Value} {C : List OpV} (h : OwnsO w B v C) (hC : 1 ≤ C.length) : ∃ g cap, v = .slice (some ⟨g, 0, none⟩) C.length cap ∧ B ≤ g ∧ g < w.heap.size := by
  rcases h.2 with ⟨_, h0⟩ | ⟨g, cap, cur, rfl, hg, _⟩
  · omega
  · exact ⟨g, cap, rfl, World.ownsRow.lt h g rfl⟩
theorem OwnsO.read {w : World} {B g cap : Nat} {C : List OpV} (h : OwnsO w B (.slice (some ⟨g, 0, none⟩) C.length cap) C) : ∀ (j : Nat) (u : Value), (cellsO C)[j]? = some u → w.cell? (Addr.add ⟨g, 0, none⟩ j) = some u := fun j u hu => by
  have hj := (List.getElem?_eq_some_iff.1 hu).1
  rw [cellsO_len] at hj
  have := World.ownsRow.cellAt (w := w) (base := B) (e := 26) (size := 6) (g := g) (cap := cap) h j hj
  rw [hu] at this
  by_cases e : j = 0
  · subst e; simpa [Addr.add] using this
  · simpa [Addr.add, e] using this
/-- the cells of a step of the row, and that they can be written -/
theorem OwnsO.stepAt {w : World} {B g cap : Nat} {C : List OpV} (h : OwnsO w B (.slice (some ⟨g, 0, none⟩) C.length cap) C) (i : Nat) (hi : i < C.length) : StepAt w g (i * 6) C[i] ∧ ∀ j, w.frozen? ⟨g, j, none⟩ = false := by
  obtain ⟨q0, q1, q2, q3, q4, q5⟩ := cellsO_at C i hi
  have kk := World.ownsRow.cellAt (w := w) (base := B) (e := 26) (size := 6) (g := g) (cap := cap) h
  refine ⟨⟨?_, ?_, ?_, ?_, ?_, ?_⟩, World.ownsRow.frozenAt (w := w) (base := B) (e := 26) (size := 6) (g := g) (cap := cap) h⟩
  · rw [kk (i * 6) (by omega), q0]
  · rw [kk (i * 6 + 1) (by omega), q1]
  · rw [kk (i * 6 + 2) (by omega), q2]
  · rw [kk (i * 6 + 3) (by omega), q3]
  · rw [kk (i * 6 + 4) (by omega), q4]
  · rw [kk (i * 6 + 5) (by omega), q5]
theorem OwnsO.room {w : World} {B g cap : Nat} {C : List OpV} (h : OwnsO w B (.slice (some ⟨g, 0, none⟩) C.length cap) C) : C.length ≤ cap ∧ cap ≤ maxLen := by
  rcases h.2 with ⟨h0, _⟩ | ⟨g', cap', cur, hv, _, _, h1, h2, _⟩
  · cases h0
  · cases hv; exact ⟨h1, h2⟩
theorem cellsO_take : ∀ (C : List OpV) (k : Nat), cellsO (C.take k) = (cellsO C).take (k * 6)
  | [], k => by simp [cellsO]
  | x :: C, 0 => by simp [cellsO]
  | x :: C, k + 1 => by
    rw [List.take_succ_cons, show (k + 1) * 6 = k * 6 + 1 + 1 + 1 + 1 + 1 + 1 by omega]
    simp [cellsO, cellsO_take C k]
/-- the first steps of a row -/
theorem OwnsO.cut {w : World} {B g cap : Nat} {C : List OpV} (h : OwnsO w B (.slice (some ⟨g, 0, none⟩) C.length cap) C) (k : Nat) (hk : k ≤ C.length) : OwnsO w B (.slice (some ⟨g, 0, none⟩) k cap) (C.take k) := by
  have hl : (C.take k).length = k := by rw [List.length_take]; omega
  rcases h.2 with ⟨h0, _⟩ | ⟨g', cap', cur, hv, h1, h2, h3, h4, h5, h6⟩
  · cases h0
  · cases hv
    refine ⟨by rw [cellsO_len], .inr ⟨g, cap, cur, by rw [hl], h1, h2, by omega, h4, h5, ?_⟩⟩
    rw [hl, cellsO_take, ← h6, List.take_take, Nat.min_eq_left (Nat.mul_le_mul_right 6 hk)]
/-- six cells written, in a row -/
theorem but6 (w : World) (b o : Nat) (v0 v1 v2 v3 v4 v5 : Value) : But b w ((((((w.setCell ⟨b, o, none⟩ v0).setCell ⟨b, o + 1, none⟩ v1).setCell ⟨b, o + 2, none⟩ v2).setCell ⟨b, o + 3, none⟩ v3).setCell ⟨b, o + 4, none⟩ v4).setCell ⟨b, o + 5, none⟩ v5) :=
  ((((((But.refl b w).setCell (p := ⟨b, o, none⟩) rfl _).setCell (p := ⟨b, o + 1, none⟩) rfl _).setCell (p := ⟨b, o + 2, none⟩) rfl _).setCell (p := ⟨b, o + 3, none⟩) rfl _).setCell (p := ⟨b, o + 4, none⟩) rfl _).setCell (p := ⟨b, o + 5, none⟩) rfl _
theorem But.grows {R : Nat} {a b : World} (h : But R a b) : a.grownBy b (some R) := ⟨h.os, h.tape, h.output, h.size, fun k hk hn => h.block k hk (fun e => hn (by rw [e]))⟩
theorem OwnsO.aside {w w' : World} {B R : Nat} {v : Value} {C : List OpV} (h : OwnsO w B v C) (hb : But R w w') (hR : v.ownBlock ≠ some R) : OwnsO w' B v C :=
  h.keep hb.grows (fun k e => by cases e; exact hR)
end Go.Proofs.YtjhpaoadpcnlnaaGreatDoor
namespace Go.Proofs.YtjhpaoadpcnlnaaGreatDoor
/-- the places to which one comes from a place -/
def nextL (o : OpV) (i n : Nat) : List Nat :=
  let out := if (!(o.k == 9 || o.k == 14) && decide (i + 1 < n)) = true then [i + 1] else []
  if (goesB o.k && !(out.contains o.t.toNat)) = true then out ++ [o.t.toNat] else out
theorem next_ways (o : OpV) (i n : Nat) (x : Int) (j : Nat) : j ∈ nextL o i n ↔ ∃ p ∈ waysL o i n x, p.1 = j := by
  have hg : goesB o.k = true ↔ ∃ p ∈ toW o x, True := by
    unfold goesB toW
    constructor
    · intro h
      simp only [Bool.or_eq_true, beq_iff_eq] at h
      rcases h with ((h | h) | h) | h <;> simp [h]
    · rintro ⟨p, hp, _⟩
      split at hp
      · rename_i h; rcases h with h | h | h <;> simp [h]
      · split at hp
        · rename_i h; simp [h]
        · cases hp
  have ht : ∀ p ∈ toW o x, p.1 = o.t.toNat := by
    intro p hp
    unfold toW at hp
    split at hp
    · rw [List.mem_singleton.1 hp]
    · split at hp
      · rw [List.mem_singleton.1 hp]
      · cases hp
  have hn : ∀ j, j ∈ (if (!(o.k == 9 || o.k == 14) && decide (i + 1 < n)) = true then [i + 1] else []) ↔ ∃ p ∈ nextW o i n x, p.1 = j := by
    intro j
    unfold nextW
    split
    · simp [eq_comm]
    · simp
  have hm : j ∈ nextL o i n ↔ j ∈ (if (!(o.k == 9 || o.k == 14) && decide (i + 1 < n)) = true then [i + 1] else []) ∨ (goesB o.k = true ∧ j = o.t.toNat) := by
    unfold nextL
    generalize (if (!(o.k == 9 || o.k == 14) && decide (i + 1 < n)) = true then [i + 1] else []) = out
    simp only
    by_cases hg : goesB o.k = true
    · by_cases hc : o.t.toNat ∈ out
      · simp only [hg, hc, Bool.true_and, List.contains_eq_mem, decide_true, Bool.not_true, Bool.false_eq_true, if_false, true_and]
        constructor
        · exact .inl
        · rintro (h | h)
          · exact h
          · subst h; exact hc
      · simp [hg, hc]
    · simp [hg]
  rw [hm, hn]
  unfold waysL
  constructor
  · rintro (⟨p, hp, e⟩ | ⟨h, e⟩)
    · exact ⟨p, List.mem_append.2 (.inl hp), e⟩
    · obtain ⟨p, hp, _⟩ := hg.1 h
      exact ⟨p, List.mem_append.2 (.inr hp), (ht p hp).trans e.symm⟩
  · rintro ⟨p, hp, e⟩
    rcases List.mem_append.1 hp with hp | hp
    · exact .inl ⟨p, hp, e⟩
    · exact .inr ⟨hg.2 ⟨p, hp, trivial⟩, e.symm.trans (ht p hp)⟩
theorem next_lt {C : List OpV} (hC : Well C) {i : Nat} (hi : i < C.length) : ∀ j ∈ nextL C[i] i C.length, j < C.length := by
  intro j hj
  obtain ⟨p, hp, rfl⟩ := (next_ways _ _ _ 0 j).1 hj
  exact (ways_bd hC hi ⟨by decide, by decide⟩ (by decide) p hp).1
theorem next_len (o : OpV) (i n : Nat) : (nextL o i n).length ≤ 2 := by
  unfold nextL; simp only; split <;> split <;> simp
theorem next_nodup (o : OpV) (i n : Nat) : (nextL o i n).Nodup := by
  have h0 : (if (!(o.k == 9 || o.k == 14) && decide (i + 1 < n)) = true then [i + 1] else []).Nodup := by split <;> simp
  unfold nextL
  generalize (if (!(o.k == 9 || o.k == 14) && decide (i + 1 < n)) = true then [i + 1] else []) = out at *
  simp only
  split
  · rename_i h
    simp only [Bool.and_eq_true, Bool.not_eq_true', List.contains_eq_mem, decide_eq_false_iff_not] at h
    rw [List.nodup_append]
    refine ⟨h0, by simp, ?_⟩
    intro a ha b hb e
    rw [List.mem_singleton.1 hb] at e
    subst e; exact h.2 ha
  · exact h0
/-- it has the first place, and with each all to which one comes from it -/
def Shut (C : List OpV) (S : Nat → Prop) : Prop := S 0 ∧ ∀ i (hi : i < C.length), S i → ∀ j ∈ nextL C[i] i C.length, S j
def IsReach (C : List OpV) (S : Nat → Prop) : Prop := Shut C S ∧ ∀ T, Shut C T → ∀ i, i < C.length → S i → T i
theorem full_reach {C : List OpV} (hC : Well C) {v : List Int} (h : IsFull C v) {S : Nat → Prop} (hS : IsReach C S) (i : Nat) (hi : i < C.length) : 0 ≤ atV v i ↔ S i := by
  constructor
  · intro h0
    apply Classical.byContradiction
    intro hn
    have hd : ∀ j, ∃ x : Int, (S j → x = 0) ∧ (¬ S j → x = -1) := fun j => by
      rcases Classical.em (S j) with h | h
      · exact ⟨0, fun _ => rfl, fun h' => absurd h h'⟩
      · exact ⟨-1, fun h' => absurd h' h, fun _ => rfl⟩
    obtain ⟨f, hf⟩ : ∃ f : Nat → Int, ∀ j, (S j → f j = 0) ∧ (¬ S j → f j = -1) := ⟨fun j => Classical.choose (hd j), fun j => Classical.choose_spec (hd j)⟩
    have ha : ∀ j, j < C.length → atV ((List.range C.length).map f) j = f j := by
      intro j hj
      unfold atV
      rw [List.getD_eq_getElem?_getD, List.getElem?_map, List.getElem?_range hj]; rfl
    have hb : ∀ j, Bd (f j) := fun j => by
      rcases Classical.em (S j) with h | h
      · rw [(hf j).1 h]; exact ⟨by decide, by decide⟩
      · rw [(hf j).2 h]; exact ⟨by decide, by decide⟩
    have hv : Vec C ((List.range C.length).map f) := by
      refine ⟨by simp, fun j => ?_⟩
      by_cases hj : j < C.length
      · rw [ha j hj]; exact hb j
      · unfold atV
        rw [List.getD_eq_getElem?_getD, List.getElem?_eq_none (by simp; omega)]; exact ⟨by decide, by decide⟩
    have hsol : Sol C ((List.range C.length).map f) := by
      refine ⟨hv, ?_, fun j hj h0 p hp => ?_⟩
      · rw [ha 0 hC.1, (hf 0).1 hS.1.1]; exact le_zero ⟨by decide, by decide⟩
      · rw [ha j hj] at h0 hp
        have hSj : S j := by
          apply Classical.byContradiction
          intro hn; rw [(hf j).2 hn] at h0; exact absurd h0 (by decide)
        obtain ⟨b1, b2⟩ := ways_bd hC hj (hb j) h0 p hp
        have := hS.1.2 j hj hSj p.1 ((next_ways _ _ _ _ _).2 ⟨p, hp, rfl⟩)
        rw [ha _ b1, (hf _).1 this]
        exact le_zero ⟨by omega, b2.2⟩
    have := h.2 _ hsol i
    rw [ha i hi, (hf i).2 hn] at this
    have h2 := le_nn (x := -1) ⟨by decide, by decide⟩ (h.1.1.2 i) h0 this
    exact absurd h2 (by decide)
  · intro hs
    refine hS.2 (fun j => 0 ≤ atV v j) ⟨?_, fun j hj h0 m hm => ?_⟩ i hi hs
    · exact le_nn (h.1.1.2 0) ⟨by decide, by decide⟩ (by decide) h.1.2.1
    · obtain ⟨p, hp, rfl⟩ := (next_ways _ _ _ (atV v j) m).1 hm
      have b := (ways_bd hC hj (h.1.1.2 j) h0 p hp).2
      exact le_nn (h.1.1.2 _) ⟨by omega, b.2⟩ b.1 (h.1.2.2 j hj h0 p hp)
/-! ### the list that grows -/
/-- with a place more, unless it is there -/
def addL (L : List Nat) (j : Nat) : List Nat := if L.contains j = true then L else L ++ [j]
def addAll (L : List Nat) (M : List Nat) : List Nat := M.foldl addL L
/-- the places up to i have been gone on from -/
def Gone (C : List OpV) (L : List Nat) (i : Nat) : Prop :=
  L.Nodup ∧ 0 ∈ L ∧ (∀ x ∈ L, x < C.length) ∧ (∀ T, Shut C T → ∀ x ∈ L, T x) ∧ ∀ j (hj : j < L.length), j < i → ∀ (h : L[j] < C.length), ∀ m ∈ nextL C[L[j]] L[j] C.length, m ∈ L
theorem add_pre (L : List Nat) (j : Nat) : ∃ M, addL L j = L ++ M := by
  unfold addL; split
  · exact ⟨[], by simp⟩
  · exact ⟨[j], rfl⟩
theorem addAll_pre : ∀ (M L : List Nat), ∃ K, addAll L M = L ++ K
  | [], L => ⟨[], by simp [addAll]⟩
  | m :: M, L => by
    obtain ⟨K1, h1⟩ := add_pre L m
    obtain ⟨K2, h2⟩ := addAll_pre M (addL L m)
    exact ⟨K1 ++ K2, by unfold addAll at *; rw [List.foldl_cons, h2, h1]; simp⟩
theorem mem_add (L : List Nat) (j x : Nat) : x ∈ addL L j ↔ x ∈ L ∨ x = j := by
  unfold addL; split
  · rename_i h
    constructor
    · exact .inl
    · rintro (h' | rfl)
      · exact h'
      · simpa using h
  · simp
theorem mem_addAll : ∀ (M L : List Nat) (x : Nat), x ∈ addAll L M ↔ x ∈ L ∨ x ∈ M
  | [], L, x => by simp [addAll]
  | m :: M, L, x => by
    have := mem_addAll M (addL L m) x
    unfold addAll at *
    rw [List.foldl_cons, this, mem_add]
    simp [or_assoc]
theorem nodup_add {L : List Nat} (h : L.Nodup) (j : Nat) : (addL L j).Nodup := by
  unfold addL; split
  · exact h
  · rename_i hc
    rw [List.nodup_append]
    refine ⟨h, by simp, ?_⟩
    intro a ha b hb e
    rw [List.mem_singleton.1 hb] at e
    subst e; exact hc (by simpa using ha)
theorem nodup_addAll : ∀ (M : List Nat) {L : List Nat}, L.Nodup → (addAll L M).Nodup
  | [], L, h => by simpa [addAll] using h
  | m :: M, L, h => by
    have := nodup_addAll M (nodup_add h m)
    unfold addAll at *
    rwa [List.foldl_cons]
theorem gone_start {C : List OpV} (hC : Well C) : Gone C [0] 0 :=
  ⟨by simp, by simp, fun x hx => by rw [List.mem_singleton.1 hx]; exact hC.1, fun T hT x hx => by rw [List.mem_singleton.1 hx]; exact hT.1, fun j _ h => by omega⟩
theorem gone_step {C : List OpV} (hC : Well C) {L : List Nat} {i : Nat} (h : Gone C L i) (hi : i < L.length) (hl : L[i] < C.length) : Gone C (addAll L (nextL C[L[i]] L[i] C.length)) (i + 1) := by
  obtain ⟨h1, h2, h3, h4, h5⟩ := h
  obtain ⟨K, hK⟩ := addAll_pre (nextL C[L[i]] L[i] C.length) L
  refine ⟨nodup_addAll _ h1, (mem_addAll _ _ _).2 (.inl h2), fun x hx => ?_, fun T hT x hx => ?_, fun j hj hji hl' m hm => ?_⟩
  · rcases (mem_addAll _ _ _).1 hx with h | h
    · exact h3 x h
    · exact next_lt hC hl x h
  · rcases (mem_addAll _ _ _).1 hx with h | h
    · exact h4 T hT x h
    · exact hT.2 _ hl (h4 T hT _ (List.getElem_mem hi)) x h
  · have e : (addAll L (nextL C[L[i]] L[i] C.length))[j] = L[j]'(by omega) := by
      simp only [hK]
      exact List.getElem_append_left (by omega)
    simp only [e] at hm
    rw [mem_addAll]
    by_cases hji' : j < i
    · exact .inl (h5 j (by omega) hji' (by rw [← e]; exact hl') m hm)
    · have : j = i := by omega
      subst this
      exact .inr hm
theorem nodup_le : ∀ (n : Nat) (L : List Nat), L.Nodup → (∀ x ∈ L, x < n) → L.length ≤ n
  | 0, L, _, h => by
    cases L with
    | nil => simp
    | cons a l => exact absurd (h a (by simp)) (by omega)
  | n + 1, L, hn, h => by
    have h1 := nodup_le n (L.erase n) (hn.erase n) (fun x hx => by
      have hx' := List.mem_of_mem_erase hx
      have h2 := h x hx'
      have h3 : x ≠ n := by rintro rfl; exact (List.Nodup.not_mem_erase hn) hx
      omega)
    have h2 := List.length_erase (l := L) (a := n)
    split at h2 <;> omega
theorem gone_len {C : List OpV} {L : List Nat} {i : Nat} (h : Gone C L i) : L.length ≤ C.length := nodup_le _ _ h.1 h.2.2.1
theorem gone_done {C : List OpV} {L : List Nat} {i : Nat} (h : Gone C L i) (hi : L.length ≤ i) : IsReach C (fun x => x ∈ L) := by
  obtain ⟨h1, h2, h3, h4, h5⟩ := h
  refine ⟨⟨h2, fun j hj hm x hx => ?_⟩, fun T hT x _ hx => h4 T hT x hx⟩
  obtain ⟨q, hq, e⟩ := List.getElem_of_mem hm
  subst e
  exact h5 q hq (by omega) hj x hx
end Go.Proofs.YtjhpaoadpcnlnaaGreatDoor
namespace Go.Proofs.YtjhpaoadpcnlnaaGreatDoor
def FullOf (C : List OpV) (L : List Int) : Prop := (codeB C = true ∧ IsFull C L) ∨ (codeB C = false ∧ L = [])
theorem fullOf_one {C : List OpV} {L M : List Int} (h : FullOf C L) (k : FullOf C M) : L = M := by
  rcases h with ⟨h, a⟩ | ⟨h, rfl⟩
  · rcases k with ⟨_, b⟩ | ⟨k, _⟩
    · exact full_one a b
    · rw [h] at k; cases k
  · rcases k with ⟨k, _⟩ | ⟨_, rfl⟩
    · rw [h] at k; cases k
    · rfl
theorem fullOf_len {C : List OpV} {L : List Int} (h : FullOf C L) : L.length ≤ C.length := by
  rcases h with ⟨_, a⟩ | ⟨_, rfl⟩
  · rw [a.1.1.1]; exact Nat.le_refl _
  · simp
end Go.Proofs.YtjhpaoadpcnlnaaGreatDoor
