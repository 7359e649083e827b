/-
  What laws.toRun answers over this translation: the run as it is, its lists in rows of its own, each apart from the others.
-/
import Derived.Test.YtefaocjcfecipaaToLists
namespace Go.Proofs.Ytefaocjcfecipaa
open Go.ChangeShapes Go.WideShapes Go.ChangeAt Go.RowKit Go.Joins
/-- a run's own cells in memory, which may be written -/
structure RunBoxF (w : World) (b : Nat) (d : RunD) (p : RunP) : Prop where
  at_ : RunAt w b d p
  fr : ∀ i, w.frozen? ⟨b, i, none⟩ = false
  lt : b < w.heap.size
theorem RunBoxF.below {S : Nat} {w w' : World} {b : Nat} {d : RunD} {p : RunP} (h : RunBoxF w b d p) (hl : b < S) (hb : Below S w w') : RunBoxF w' b d p :=
  ⟨h.at_.below hl hb, fun i => (hb.frozen (p := ⟨b, i, none⟩) hl).trans (h.fr i), Nat.lt_of_lt_of_le h.lt hb.size⟩
theorem RunBoxF.other {w : World} {b : Nat} {d : RunD} {p : RunP} (h : RunBoxF w b d p) {a : Addr} (hn : a.block ≠ b) (v : Value) : RunBoxF (w.setCell a v) b d p := by
  have k : But a.block w (w.setCell a v) := (But.refl _ _).setCell rfl v
  have c : ∀ i, (w.setCell a v).cell? ⟨b, i, none⟩ = w.cell? ⟨b, i, none⟩ := fun i => k.cell (p := ⟨b, i, none⟩) h.lt (fun e => hn e.symm)
  exact ⟨⟨(c _).trans h.at_.c0, (c _).trans h.at_.c1, (c _).trans h.at_.c2, (c _).trans h.at_.c3, (c _).trans h.at_.c4, (c _).trans h.at_.c5, (c _).trans h.at_.c6, (c _).trans h.at_.c7, (c _).trans h.at_.c8, (c _).trans h.at_.c9, (c _).trans h.at_.c10, (c _).trans h.at_.c11, (c _).trans h.at_.c12⟩, fun i => (k.frozen (p := ⟨b, i, none⟩) h.lt (fun e => hn e.symm)).trans (h.fr i), Nat.lt_of_lt_of_le h.lt k.size⟩
theorem RunBoxF.new (w : World) (d : RunD) (p : RunP) (t : TypeId) : RunBoxF (w.alloc (.cells (d.cells p) t)) w.heap.size d p :=
  ⟨runAt_new w d p t, fun i => by simp [go_sem], by simp⟩
theorem RunBoxF.new' (w : World) (d : RunD) (p : RunP) (t : TypeId) (b : Nat) (cs : Array Value) (hb : b = w.heap.size) (hc : cs = d.cells p) : RunBoxF (w.alloc (.cells cs t)) b d p := by
  subst hb hc; exact RunBoxF.new w d p t
theorem RunBoxF.frozen_set {w : World} {b : Nat} {d : RunD} {p : RunP} (h : RunBoxF w b d p) (j : Nat) (v : Value) (i : Nat) : (w.setCell ⟨b, j, none⟩ v).frozen? ⟨b, i, none⟩ = false := by
  have := h.fr i; simpa [go_sem] using this
theorem RunBoxF.put0 {w : World} {b : Nat} {d : RunD} {p : RunP} (h : RunBoxF w b d p) (x : Int) : RunBoxF (w.setCell ⟨b, 0, none⟩ (.int .i64 x)) b { d with id := x } p := by
  obtain ⟨c0, c1, c2, c3, c4, c5, c6, c7, c8, c9, c10, c11, c12⟩ := id h.at_
  refine ⟨⟨?_, ?_, ?_, ?_, ?_, ?_, ?_, ?_, ?_, ?_, ?_, ?_, ?_⟩, h.frozen_set _ _, Nat.lt_of_lt_of_le h.lt ((But.refl b w).setCell (p := ⟨b, 0, none⟩) rfl _).size⟩ <;> simp [go_sem, c0, c1, c2, c3, c4, c5, c6, c7, c8, c9, c10, c11, c12]
theorem RunBoxF.put1 {w : World} {b : Nat} {d : RunD} {p : RunP} (h : RunBoxF w b d p) (x : Int) : RunBoxF (w.setCell ⟨b, 1, none⟩ (.int .i64 x)) b { d with pl := x } p := by
  obtain ⟨c0, c1, c2, c3, c4, c5, c6, c7, c8, c9, c10, c11, c12⟩ := id h.at_
  refine ⟨⟨?_, ?_, ?_, ?_, ?_, ?_, ?_, ?_, ?_, ?_, ?_, ?_, ?_⟩, h.frozen_set _ _, Nat.lt_of_lt_of_le h.lt ((But.refl b w).setCell (p := ⟨b, 1, none⟩) rfl _).size⟩ <;> simp [go_sem, c0, c1, c2, c3, c4, c5, c6, c7, c8, c9, c10, c11, c12]
theorem RunBoxF.put2 {w : World} {b : Nat} {d : RunD} {p : RunP} (h : RunBoxF w b d p) (L : List (Int × Int)) (a : Option Addr) (k : Nat) : RunBoxF (w.setCell ⟨b, 2, none⟩ (.slice a L.length k)) b { d with slots := L } { p with a0 := a, k0 := k } := by
  obtain ⟨c0, c1, c2, c3, c4, c5, c6, c7, c8, c9, c10, c11, c12⟩ := id h.at_
  refine ⟨⟨?_, ?_, ?_, ?_, ?_, ?_, ?_, ?_, ?_, ?_, ?_, ?_, ?_⟩, h.frozen_set _ _, Nat.lt_of_lt_of_le h.lt ((But.refl b w).setCell (p := ⟨b, 2, none⟩) rfl _).size⟩ <;> simp [go_sem, c0, c1, c2, c3, c4, c5, c6, c7, c8, c9, c10, c11, c12]
theorem RunBoxF.put3 {w : World} {b : Nat} {d : RunD} {p : RunP} (h : RunBoxF w b d p) (x : Int) : RunBoxF (w.setCell ⟨b, 3, none⟩ (.int .i64 x)) b { d with full := x } p := by
  obtain ⟨c0, c1, c2, c3, c4, c5, c6, c7, c8, c9, c10, c11, c12⟩ := id h.at_
  refine ⟨⟨?_, ?_, ?_, ?_, ?_, ?_, ?_, ?_, ?_, ?_, ?_, ?_, ?_⟩, h.frozen_set _ _, Nat.lt_of_lt_of_le h.lt ((But.refl b w).setCell (p := ⟨b, 3, none⟩) rfl _).size⟩ <;> simp [go_sem, c0, c1, c2, c3, c4, c5, c6, c7, c8, c9, c10, c11, c12]
theorem RunBoxF.put4 {w : World} {b : Nat} {d : RunD} {p : RunP} (h : RunBoxF w b d p) (L : List (Int × Int)) (a : Option Addr) (k : Nat) : RunBoxF (w.setCell ⟨b, 4, none⟩ (.slice a L.length k)) b { d with mail := L } { p with a1 := a, k1 := k } := by
  obtain ⟨c0, c1, c2, c3, c4, c5, c6, c7, c8, c9, c10, c11, c12⟩ := id h.at_
  refine ⟨⟨?_, ?_, ?_, ?_, ?_, ?_, ?_, ?_, ?_, ?_, ?_, ?_, ?_⟩, h.frozen_set _ _, Nat.lt_of_lt_of_le h.lt ((But.refl b w).setCell (p := ⟨b, 4, none⟩) rfl _).size⟩ <;> simp [go_sem, c0, c1, c2, c3, c4, c5, c6, c7, c8, c9, c10, c11, c12]
theorem RunBoxF.put5 {w : World} {b : Nat} {d : RunD} {p : RunP} (h : RunBoxF w b d p) (x : Int) : RunBoxF (w.setCell ⟨b, 5, none⟩ (.int .i64 x)) b { d with st := x } p := by
  obtain ⟨c0, c1, c2, c3, c4, c5, c6, c7, c8, c9, c10, c11, c12⟩ := id h.at_
  refine ⟨⟨?_, ?_, ?_, ?_, ?_, ?_, ?_, ?_, ?_, ?_, ?_, ?_, ?_⟩, h.frozen_set _ _, Nat.lt_of_lt_of_le h.lt ((But.refl b w).setCell (p := ⟨b, 5, none⟩) rfl _).size⟩ <;> simp [go_sem, c0, c1, c2, c3, c4, c5, c6, c7, c8, c9, c10, c11, c12]
theorem RunBoxF.put6 {w : World} {b : Nat} {d : RunD} {p : RunP} (h : RunBoxF w b d p) (x : Int) : RunBoxF (w.setCell ⟨b, 6, none⟩ (.int .i64 x)) b { d with due := x } p := by
  obtain ⟨c0, c1, c2, c3, c4, c5, c6, c7, c8, c9, c10, c11, c12⟩ := id h.at_
  refine ⟨⟨?_, ?_, ?_, ?_, ?_, ?_, ?_, ?_, ?_, ?_, ?_, ?_, ?_⟩, h.frozen_set _ _, Nat.lt_of_lt_of_le h.lt ((But.refl b w).setCell (p := ⟨b, 6, none⟩) rfl _).size⟩ <;> simp [go_sem, c0, c1, c2, c3, c4, c5, c6, c7, c8, c9, c10, c11, c12]
theorem RunBoxF.put7 {w : World} {b : Nat} {d : RunD} {p : RunP} (h : RunBoxF w b d p) (L : List Int) (a : Option Addr) (k : Nat) : RunBoxF (w.setCell ⟨b, 7, none⟩ (.slice a L.length k)) b { d with links := L } { p with a2 := a, k2 := k } := by
  obtain ⟨c0, c1, c2, c3, c4, c5, c6, c7, c8, c9, c10, c11, c12⟩ := id h.at_
  refine ⟨⟨?_, ?_, ?_, ?_, ?_, ?_, ?_, ?_, ?_, ?_, ?_, ?_, ?_⟩, h.frozen_set _ _, Nat.lt_of_lt_of_le h.lt ((But.refl b w).setCell (p := ⟨b, 7, none⟩) rfl _).size⟩ <;> simp [go_sem, c0, c1, c2, c3, c4, c5, c6, c7, c8, c9, c10, c11, c12]
theorem RunBoxF.put8 {w : World} {b : Nat} {d : RunD} {p : RunP} (h : RunBoxF w b d p) (L : List Int) (a : Option Addr) (k : Nat) : RunBoxF (w.setCell ⟨b, 8, none⟩ (.slice a L.length k)) b { d with wat := L } { p with a3 := a, k3 := k } := by
  obtain ⟨c0, c1, c2, c3, c4, c5, c6, c7, c8, c9, c10, c11, c12⟩ := id h.at_
  refine ⟨⟨?_, ?_, ?_, ?_, ?_, ?_, ?_, ?_, ?_, ?_, ?_, ?_, ?_⟩, h.frozen_set _ _, Nat.lt_of_lt_of_le h.lt ((But.refl b w).setCell (p := ⟨b, 8, none⟩) rfl _).size⟩ <;> simp [go_sem, c0, c1, c2, c3, c4, c5, c6, c7, c8, c9, c10, c11, c12]
theorem RunBoxF.put9 {w : World} {b : Nat} {d : RunD} {p : RunP} (h : RunBoxF w b d p) (x : Bool) : RunBoxF (w.setCell ⟨b, 9, none⟩ (.bool x)) b { d with trap := x } p := by
  obtain ⟨c0, c1, c2, c3, c4, c5, c6, c7, c8, c9, c10, c11, c12⟩ := id h.at_
  refine ⟨⟨?_, ?_, ?_, ?_, ?_, ?_, ?_, ?_, ?_, ?_, ?_, ?_, ?_⟩, h.frozen_set _ _, Nat.lt_of_lt_of_le h.lt ((But.refl b w).setCell (p := ⟨b, 9, none⟩) rfl _).size⟩ <;> simp [go_sem, c0, c1, c2, c3, c4, c5, c6, c7, c8, c9, c10, c11, c12]
theorem RunBoxF.put10 {w : World} {b : Nat} {d : RunD} {p : RunP} (h : RunBoxF w b d p) (x : Int) : RunBoxF (w.setCell ⟨b, 10, none⟩ (.int .i64 x)) b { d with wk := x } p := by
  obtain ⟨c0, c1, c2, c3, c4, c5, c6, c7, c8, c9, c10, c11, c12⟩ := id h.at_
  refine ⟨⟨?_, ?_, ?_, ?_, ?_, ?_, ?_, ?_, ?_, ?_, ?_, ?_, ?_⟩, h.frozen_set _ _, Nat.lt_of_lt_of_le h.lt ((But.refl b w).setCell (p := ⟨b, 10, none⟩) rfl _).size⟩ <;> simp [go_sem, c0, c1, c2, c3, c4, c5, c6, c7, c8, c9, c10, c11, c12]
theorem RunBoxF.put11 {w : World} {b : Nat} {d : RunD} {p : RunP} (h : RunBoxF w b d p) (x : Int) : RunBoxF (w.setCell ⟨b, 11, none⟩ (.int .i64 x)) b { d with wn := x } p := by
  obtain ⟨c0, c1, c2, c3, c4, c5, c6, c7, c8, c9, c10, c11, c12⟩ := id h.at_
  refine ⟨⟨?_, ?_, ?_, ?_, ?_, ?_, ?_, ?_, ?_, ?_, ?_, ?_, ?_⟩, h.frozen_set _ _, Nat.lt_of_lt_of_le h.lt ((But.refl b w).setCell (p := ⟨b, 11, none⟩) rfl _).size⟩ <;> simp [go_sem, c0, c1, c2, c3, c4, c5, c6, c7, c8, c9, c10, c11, c12]
theorem RunBoxF.put12 {w : World} {b : Nat} {d : RunD} {p : RunP} (h : RunBoxF w b d p) (x : Int) : RunBoxF (w.setCell ⟨b, 12, none⟩ (.int .i64 x)) b { d with tu := x } p := by
  obtain ⟨c0, c1, c2, c3, c4, c5, c6, c7, c8, c9, c10, c11, c12⟩ := id h.at_
  refine ⟨⟨?_, ?_, ?_, ?_, ?_, ?_, ?_, ?_, ?_, ?_, ?_, ?_, ?_⟩, h.frozen_set _ _, Nat.lt_of_lt_of_le h.lt ((But.refl b w).setCell (p := ⟨b, 12, none⟩) rfl _).size⟩ <;> simp [go_sem, c0, c1, c2, c3, c4, c5, c6, c7, c8, c9, c10, c11, c12]
theorem OwnsV.put {w : World} {B : Nat} {v : Value} {L : List (Int × Int)} (h : OwnsV w B v L) {a : Addr} (hn : v.ownBlock ≠ some a.block) (x : Value) : OwnsV (w.setCell a x) B v L :=
  World.ownsRow.kept h (But.grown ((But.refl _ _).setCell (p := a) rfl x)) (.inr hn)
theorem Owns.put {w : World} {B : Nat} {v : Value} {L : List Int} (h : Owns w B v L) {a : Addr} (hn : v.ownBlock ≠ some a.block) (x : Value) : Owns (w.setCell a x) B v L :=
  World.ownsRow.kept h (But.grown ((But.refl _ _).setCell (p := a) rfl x)) (.inr hn)
theorem own_ne {g b n k : Nat} (h : g ≠ b) : (Value.slice (some ⟨g, 0, none⟩) n k).ownBlock ≠ some b := by
  intro e; simp [Value.ownBlock] at e; exact h e
set_option maxRecDepth 20000 in
set_option maxHeartbeats 4000000 in
theorem toRun_any (S : Nat) (d : RunD) (q : RunP) (w : World) (hS : S ≤ w.heap.size) (hs : d.Short) (hM : RunMem S w d q) :
    Calls Try.prog 15 #[d.val q] w fun e w' => ∃ p, e = .returned (d.val p) ∧ OwnRun w' w.heap.size d p ∧ (d.links.length ≤ p.k2 ∧ d.wat.length ≤ p.k3) ∧ Below w.heap.size w w' := by
  go_enter Try.func15, Try.ntmps15
  go_wp2_with fail
  have hA : RunBoxF (w.alloc (.cells (d.cells q) 39)) w.heap.size d q := RunBoxF.new w d q 39
  have hR : RunBoxF ((w.alloc (.cells (d.cells q) 39)).alloc (.cells #[.int .i64 0, .int .i64 0, .slice none 0 0, .int .i64 0, .slice none 0 0, .int .i64 0, .int .i64 0, .slice none 0 0, .slice none 0 0, .bool false, .int .i64 0, .int .i64 0, .int .i64 0] 30)) (w.heap.size + 1) runZ runPZ := RunBoxF.new' _ _ _ _ _ _ (by simp) rfl
  have hO : RunBoxF (((w.alloc (.cells (d.cells q) 39)).alloc (.cells #[.int .i64 0, .int .i64 0, .slice none 0 0, .int .i64 0, .slice none 0 0, .int .i64 0, .int .i64 0, .slice none 0 0, .slice none 0 0, .bool false, .int .i64 0, .int .i64 0, .int .i64 0] 30)).alloc (.cells #[.int .i64 d.id, .int .i64 d.pl, .slice none 0 0, .int .i64 0, .slice none 0 0, .int .i64 0, .int .i64 0, .slice none 0 0, .slice none 0 0, .bool false, .int .i64 0, .int .i64 0, .int .i64 0] 30)) (w.heap.size + 1 + 1) { runZ with id := d.id, pl := d.pl } runPZ := RunBoxF.new' _ _ _ _ _ _ (by simp) rfl
  replace hA := (hA.below (S := w.heap.size + 1) (by omega) ((Below.refl _ _).alloc (by simp) (.cells #[.int .i64 0, .int .i64 0, .slice none 0 0, .int .i64 0, .slice none 0 0, .int .i64 0, .int .i64 0, .slice none 0 0, .slice none 0 0, .bool false, .int .i64 0, .int .i64 0, .int .i64 0] 30))).below (S := w.heap.size + 1) (by omega) ((Below.refl _ _).alloc (by simp <;> omega) (.cells #[.int .i64 d.id, .int .i64 d.pl, .slice none 0 0, .int .i64 0, .slice none 0 0, .int .i64 0, .int .i64 0, .slice none 0 0, .slice none 0 0, .bool false, .int .i64 0, .int .i64 0, .int .i64 0] 30))
  replace hR := hR.below (S := w.heap.size + 1 + 1) (by omega) ((Below.refl _ _).alloc (by simp) (.cells #[.int .i64 d.id, .int .i64 d.pl, .slice none 0 0, .int .i64 0, .slice none 0 0, .int .i64 0, .int .i64 0, .slice none 0 0, .slice none 0 0, .bool false, .int .i64 0, .int .i64 0, .int .i64 0] 30))
  have hB : Below w.heap.size w (((w.alloc (.cells (d.cells q) 39)).alloc (.cells #[.int .i64 0, .int .i64 0, .slice none 0 0, .int .i64 0, .slice none 0 0, .int .i64 0, .int .i64 0, .slice none 0 0, .slice none 0 0, .bool false, .int .i64 0, .int .i64 0, .int .i64 0] 30)).alloc (.cells #[.int .i64 d.id, .int .i64 d.pl, .slice none 0 0, .int .i64 0, .slice none 0 0, .int .i64 0, .int .i64 0, .slice none 0 0, .slice none 0 0, .bool false, .int .i64 0, .int .i64 0, .int .i64 0] 30)) := (((Below.refl _ _).alloc (Nat.le_refl _) _).alloc (by simp) _).alloc (by simp; omega) _
  generalize (((w.alloc (.cells (d.cells q) 39)).alloc (.cells #[.int .i64 0, .int .i64 0, .slice none 0 0, .int .i64 0, .slice none 0 0, .int .i64 0, .int .i64 0, .slice none 0 0, .slice none 0 0, .bool false, .int .i64 0, .int .i64 0, .int .i64 0] 30)).alloc (.cells #[.int .i64 d.id, .int .i64 d.pl, .slice none 0 0, .int .i64 0, .slice none 0 0, .int .i64 0, .int .i64 0, .slice none 0 0, .slice none 0 0, .bool false, .int .i64 0, .int .i64 0, .int .i64 0] 30)) = V0 at *
  have hlo := hO.lt
  refine (toVals_any S d.slots _ _ (Nat.le_trans hS hB.size) hs.s0 ((hM.below (hB.mono hS)).m0)).mono ?_
  rintro e V1 ⟨g0, rfl, y0, u0, hb⟩
  have hlo := hO.lt
  replace hO := hO.below hO.lt hb
  replace hA := hA.below hA.lt hb
  replace hR := hR.below hR.lt hb
  have p0 : (w.heap.size + 1 + 1) < g0 := by omega
  replace hB := hB.trans (hb.mono hB.size)
  have z0 : g0 < V1.heap.size := (World.ownsRow.lt u0 g0 rfl).2
  replace u0 := u0.mono (A := w.heap.size) (by omega)
  clear y0
  clear hb hlo
  obtain ⟨c0, c1, c2, c3, c4, c5, c6, c7, c8, c9, c10, c11, c12⟩ := id hA.at_
  obtain ⟨o0, o1, o2, o3, o4, o5, o6, o7, o8, o9, o10, o11, o12⟩ := id hO.at_
  have f2 := hO.fr 2
  have f3 := hO.fr 3
  have hlo := hO.lt
  go_wp2_with fail
  clear c0 c1 c2 c3 c4 c5 c6 c7 c8 c9 c10 c11 c12 o0 o1 o2 o3 o4 o5 o6 o7 o8 o9 o10 o11 o12 hlo f2 f3
  replace hO : RunBoxF ((V1.setCell ⟨(w.heap.size + 1 + 1), 2, none⟩ (.slice (some ⟨g0, 0, none⟩) d.slots.length d.slots.length)).setCell ⟨(w.heap.size + 1 + 1), 3, none⟩ (.int .i64 d.full)) (w.heap.size + 1 + 1) { runZ with id := d.id, pl := d.pl, slots := d.slots, full := d.full } { runPZ with a0 := some ⟨g0, 0, none⟩, k0 := d.slots.length } := ((hO.put2 d.slots (some ⟨g0, 0, none⟩) d.slots.length).put3 d.full)
  replace hA : RunBoxF ((V1.setCell ⟨(w.heap.size + 1 + 1), 2, none⟩ (.slice (some ⟨g0, 0, none⟩) d.slots.length d.slots.length)).setCell ⟨(w.heap.size + 1 + 1), 3, none⟩ (.int .i64 d.full)) w.heap.size d q := ((hA.other (by show (w.heap.size + 1 + 1) ≠ _; omega) _).other (by show (w.heap.size + 1 + 1) ≠ _; omega) _)
  replace hR : RunBoxF ((V1.setCell ⟨(w.heap.size + 1 + 1), 2, none⟩ (.slice (some ⟨g0, 0, none⟩) d.slots.length d.slots.length)).setCell ⟨(w.heap.size + 1 + 1), 3, none⟩ (.int .i64 d.full)) (w.heap.size + 1) runZ runPZ := ((hR.other (by show (w.heap.size + 1 + 1) ≠ _; omega) _).other (by show (w.heap.size + 1 + 1) ≠ _; omega) _)
  replace hB : Below w.heap.size w ((V1.setCell ⟨(w.heap.size + 1 + 1), 2, none⟩ (.slice (some ⟨g0, 0, none⟩) d.slots.length d.slots.length)).setCell ⟨(w.heap.size + 1 + 1), 3, none⟩ (.int .i64 d.full)) := ((hB.setCell (by show w.heap.size ≤ (w.heap.size + 1 + 1); omega) _).setCell (by show w.heap.size ≤ (w.heap.size + 1 + 1); omega) _)
  replace u0 : OwnsV ((V1.setCell ⟨(w.heap.size + 1 + 1), 2, none⟩ (.slice (some ⟨g0, 0, none⟩) d.slots.length d.slots.length)).setCell ⟨(w.heap.size + 1 + 1), 3, none⟩ (.int .i64 d.full)) w.heap.size (.slice (some ⟨g0, 0, none⟩) d.slots.length d.slots.length) d.slots := ((u0.put (own_ne (by show _ ≠ (w.heap.size + 1 + 1); omega)) _).put (own_ne (by show _ ≠ (w.heap.size + 1 + 1); omega)) _)
  replace z0 : g0 < ((V1.setCell ⟨(w.heap.size + 1 + 1), 2, none⟩ (.slice (some ⟨g0, 0, none⟩) d.slots.length d.slots.length)).setCell ⟨(w.heap.size + 1 + 1), 3, none⟩ (.int .i64 d.full)).heap.size := (World.ownsRow.lt u0 g0 rfl).2
  generalize ((V1.setCell ⟨(w.heap.size + 1 + 1), 2, none⟩ (.slice (some ⟨g0, 0, none⟩) d.slots.length d.slots.length)).setCell ⟨(w.heap.size + 1 + 1), 3, none⟩ (.int .i64 d.full)) = X1 at *
  have hlo := hO.lt
  refine (toVals_any S d.mail _ _ (Nat.le_trans hS hB.size) hs.s1 ((hM.below (hB.mono hS)).m1)).mono ?_
  rintro e V2 ⟨g1, rfl, y1, u1, hb⟩
  have hlo := hO.lt
  replace hO := hO.below hO.lt hb
  replace hA := hA.below hA.lt hb
  replace hR := hR.below hR.lt hb
  have l01 : g0 < g1 := by omega
  have p1 : (w.heap.size + 1 + 1) < g1 := by omega
  replace u0 := u0.below hb
  replace z0 : g0 < V2.heap.size := Nat.lt_of_lt_of_le z0 hb.size
  replace hB := hB.trans (hb.mono hB.size)
  have z1 : g1 < V2.heap.size := (World.ownsRow.lt u1 g1 rfl).2
  replace u1 := u1.mono (A := w.heap.size) (by omega)
  clear y1
  clear hb hlo
  obtain ⟨c0, c1, c2, c3, c4, c5, c6, c7, c8, c9, c10, c11, c12⟩ := id hA.at_
  obtain ⟨o0, o1, o2, o3, o4, o5, o6, o7, o8, o9, o10, o11, o12⟩ := id hO.at_
  have f4 := hO.fr 4
  have f5 := hO.fr 5
  have f6 := hO.fr 6
  have hlo := hO.lt
  go_wp2_with fail
  clear c0 c1 c2 c3 c4 c5 c6 c7 c8 c9 c10 c11 c12 o0 o1 o2 o3 o4 o5 o6 o7 o8 o9 o10 o11 o12 hlo f4 f5 f6
  replace hO : RunBoxF (((V2.setCell ⟨(w.heap.size + 1 + 1), 4, none⟩ (.slice (some ⟨g1, 0, none⟩) d.mail.length d.mail.length)).setCell ⟨(w.heap.size + 1 + 1), 5, none⟩ (.int .i64 d.st)).setCell ⟨(w.heap.size + 1 + 1), 6, none⟩ (.int .i64 d.due)) (w.heap.size + 1 + 1) { runZ with id := d.id, pl := d.pl, slots := d.slots, full := d.full, mail := d.mail, st := d.st, due := d.due } { runPZ with a0 := some ⟨g0, 0, none⟩, k0 := d.slots.length, a1 := some ⟨g1, 0, none⟩, k1 := d.mail.length } := (((hO.put4 d.mail (some ⟨g1, 0, none⟩) d.mail.length).put5 d.st).put6 d.due)
  replace hA : RunBoxF (((V2.setCell ⟨(w.heap.size + 1 + 1), 4, none⟩ (.slice (some ⟨g1, 0, none⟩) d.mail.length d.mail.length)).setCell ⟨(w.heap.size + 1 + 1), 5, none⟩ (.int .i64 d.st)).setCell ⟨(w.heap.size + 1 + 1), 6, none⟩ (.int .i64 d.due)) w.heap.size d q := (((hA.other (by show (w.heap.size + 1 + 1) ≠ _; omega) _).other (by show (w.heap.size + 1 + 1) ≠ _; omega) _).other (by show (w.heap.size + 1 + 1) ≠ _; omega) _)
  replace hR : RunBoxF (((V2.setCell ⟨(w.heap.size + 1 + 1), 4, none⟩ (.slice (some ⟨g1, 0, none⟩) d.mail.length d.mail.length)).setCell ⟨(w.heap.size + 1 + 1), 5, none⟩ (.int .i64 d.st)).setCell ⟨(w.heap.size + 1 + 1), 6, none⟩ (.int .i64 d.due)) (w.heap.size + 1) runZ runPZ := (((hR.other (by show (w.heap.size + 1 + 1) ≠ _; omega) _).other (by show (w.heap.size + 1 + 1) ≠ _; omega) _).other (by show (w.heap.size + 1 + 1) ≠ _; omega) _)
  replace hB : Below w.heap.size w (((V2.setCell ⟨(w.heap.size + 1 + 1), 4, none⟩ (.slice (some ⟨g1, 0, none⟩) d.mail.length d.mail.length)).setCell ⟨(w.heap.size + 1 + 1), 5, none⟩ (.int .i64 d.st)).setCell ⟨(w.heap.size + 1 + 1), 6, none⟩ (.int .i64 d.due)) := (((hB.setCell (by show w.heap.size ≤ (w.heap.size + 1 + 1); omega) _).setCell (by show w.heap.size ≤ (w.heap.size + 1 + 1); omega) _).setCell (by show w.heap.size ≤ (w.heap.size + 1 + 1); omega) _)
  replace u0 : OwnsV (((V2.setCell ⟨(w.heap.size + 1 + 1), 4, none⟩ (.slice (some ⟨g1, 0, none⟩) d.mail.length d.mail.length)).setCell ⟨(w.heap.size + 1 + 1), 5, none⟩ (.int .i64 d.st)).setCell ⟨(w.heap.size + 1 + 1), 6, none⟩ (.int .i64 d.due)) w.heap.size (.slice (some ⟨g0, 0, none⟩) d.slots.length d.slots.length) d.slots := (((u0.put (own_ne (by show _ ≠ (w.heap.size + 1 + 1); omega)) _).put (own_ne (by show _ ≠ (w.heap.size + 1 + 1); omega)) _).put (own_ne (by show _ ≠ (w.heap.size + 1 + 1); omega)) _)
  replace z0 : g0 < (((V2.setCell ⟨(w.heap.size + 1 + 1), 4, none⟩ (.slice (some ⟨g1, 0, none⟩) d.mail.length d.mail.length)).setCell ⟨(w.heap.size + 1 + 1), 5, none⟩ (.int .i64 d.st)).setCell ⟨(w.heap.size + 1 + 1), 6, none⟩ (.int .i64 d.due)).heap.size := (World.ownsRow.lt u0 g0 rfl).2
  replace u1 : OwnsV (((V2.setCell ⟨(w.heap.size + 1 + 1), 4, none⟩ (.slice (some ⟨g1, 0, none⟩) d.mail.length d.mail.length)).setCell ⟨(w.heap.size + 1 + 1), 5, none⟩ (.int .i64 d.st)).setCell ⟨(w.heap.size + 1 + 1), 6, none⟩ (.int .i64 d.due)) w.heap.size (.slice (some ⟨g1, 0, none⟩) d.mail.length d.mail.length) d.mail := (((u1.put (own_ne (by show _ ≠ (w.heap.size + 1 + 1); omega)) _).put (own_ne (by show _ ≠ (w.heap.size + 1 + 1); omega)) _).put (own_ne (by show _ ≠ (w.heap.size + 1 + 1); omega)) _)
  replace z1 : g1 < (((V2.setCell ⟨(w.heap.size + 1 + 1), 4, none⟩ (.slice (some ⟨g1, 0, none⟩) d.mail.length d.mail.length)).setCell ⟨(w.heap.size + 1 + 1), 5, none⟩ (.int .i64 d.st)).setCell ⟨(w.heap.size + 1 + 1), 6, none⟩ (.int .i64 d.due)).heap.size := (World.ownsRow.lt u1 g1 rfl).2
  generalize (((V2.setCell ⟨(w.heap.size + 1 + 1), 4, none⟩ (.slice (some ⟨g1, 0, none⟩) d.mail.length d.mail.length)).setCell ⟨(w.heap.size + 1 + 1), 5, none⟩ (.int .i64 d.st)).setCell ⟨(w.heap.size + 1 + 1), 6, none⟩ (.int .i64 d.due)) = X2 at *
  have hlo := hO.lt
  refine (toInts_any S d.links _ _ (Nat.le_trans hS hB.size) hs.s2 ((hM.below (hB.mono hS)).m2)).mono ?_
  rintro e V3 ⟨g2, rfl, y2, u2, hb⟩
  have hlo := hO.lt
  replace hO := hO.below hO.lt hb
  replace hA := hA.below hA.lt hb
  replace hR := hR.below hR.lt hb
  have l02 : g0 < g2 := by omega
  have l12 : g1 < g2 := by omega
  have p2 : (w.heap.size + 1 + 1) < g2 := by omega
  replace u0 := u0.below hb
  replace z0 : g0 < V3.heap.size := Nat.lt_of_lt_of_le z0 hb.size
  replace u1 := u1.below hb
  replace z1 : g1 < V3.heap.size := Nat.lt_of_lt_of_le z1 hb.size
  replace hB := hB.trans (hb.mono hB.size)
  have z2 : g2 < V3.heap.size := (World.ownsRow.lt u2 g2 rfl).2
  replace u2 := u2.mono (A := w.heap.size) (by omega)
  clear y2
  clear hb hlo
  obtain ⟨c0, c1, c2, c3, c4, c5, c6, c7, c8, c9, c10, c11, c12⟩ := id hA.at_
  obtain ⟨o0, o1, o2, o3, o4, o5, o6, o7, o8, o9, o10, o11, o12⟩ := id hO.at_
  have f7 := hO.fr 7
  have hlo := hO.lt
  go_wp2_with fail
  clear c0 c1 c2 c3 c4 c5 c6 c7 c8 c9 c10 c11 c12 o0 o1 o2 o3 o4 o5 o6 o7 o8 o9 o10 o11 o12 hlo f7
  replace hO : RunBoxF (V3.setCell ⟨(w.heap.size + 1 + 1), 7, none⟩ (.slice (some ⟨g2, 0, none⟩) d.links.length d.links.length)) (w.heap.size + 1 + 1) { runZ with id := d.id, pl := d.pl, slots := d.slots, full := d.full, mail := d.mail, st := d.st, due := d.due, links := d.links } { runPZ with a0 := some ⟨g0, 0, none⟩, k0 := d.slots.length, a1 := some ⟨g1, 0, none⟩, k1 := d.mail.length, a2 := some ⟨g2, 0, none⟩, k2 := d.links.length } := (hO.put7 d.links (some ⟨g2, 0, none⟩) d.links.length)
  replace hA : RunBoxF (V3.setCell ⟨(w.heap.size + 1 + 1), 7, none⟩ (.slice (some ⟨g2, 0, none⟩) d.links.length d.links.length)) w.heap.size d q := (hA.other (by show (w.heap.size + 1 + 1) ≠ _; omega) _)
  replace hR : RunBoxF (V3.setCell ⟨(w.heap.size + 1 + 1), 7, none⟩ (.slice (some ⟨g2, 0, none⟩) d.links.length d.links.length)) (w.heap.size + 1) runZ runPZ := (hR.other (by show (w.heap.size + 1 + 1) ≠ _; omega) _)
  replace hB : Below w.heap.size w (V3.setCell ⟨(w.heap.size + 1 + 1), 7, none⟩ (.slice (some ⟨g2, 0, none⟩) d.links.length d.links.length)) := (hB.setCell (by show w.heap.size ≤ (w.heap.size + 1 + 1); omega) _)
  replace u0 : OwnsV (V3.setCell ⟨(w.heap.size + 1 + 1), 7, none⟩ (.slice (some ⟨g2, 0, none⟩) d.links.length d.links.length)) w.heap.size (.slice (some ⟨g0, 0, none⟩) d.slots.length d.slots.length) d.slots := (u0.put (own_ne (by show _ ≠ (w.heap.size + 1 + 1); omega)) _)
  replace z0 : g0 < (V3.setCell ⟨(w.heap.size + 1 + 1), 7, none⟩ (.slice (some ⟨g2, 0, none⟩) d.links.length d.links.length)).heap.size := (World.ownsRow.lt u0 g0 rfl).2
  replace u1 : OwnsV (V3.setCell ⟨(w.heap.size + 1 + 1), 7, none⟩ (.slice (some ⟨g2, 0, none⟩) d.links.length d.links.length)) w.heap.size (.slice (some ⟨g1, 0, none⟩) d.mail.length d.mail.length) d.mail := (u1.put (own_ne (by show _ ≠ (w.heap.size + 1 + 1); omega)) _)
  replace z1 : g1 < (V3.setCell ⟨(w.heap.size + 1 + 1), 7, none⟩ (.slice (some ⟨g2, 0, none⟩) d.links.length d.links.length)).heap.size := (World.ownsRow.lt u1 g1 rfl).2
  replace u2 : Owns (V3.setCell ⟨(w.heap.size + 1 + 1), 7, none⟩ (.slice (some ⟨g2, 0, none⟩) d.links.length d.links.length)) w.heap.size (.slice (some ⟨g2, 0, none⟩) d.links.length d.links.length) d.links := (u2.put (own_ne (by show _ ≠ (w.heap.size + 1 + 1); omega)) _)
  replace z2 : g2 < (V3.setCell ⟨(w.heap.size + 1 + 1), 7, none⟩ (.slice (some ⟨g2, 0, none⟩) d.links.length d.links.length)).heap.size := (World.ownsRow.lt u2 g2 rfl).2
  generalize (V3.setCell ⟨(w.heap.size + 1 + 1), 7, none⟩ (.slice (some ⟨g2, 0, none⟩) d.links.length d.links.length)) = X3 at *
  have hlo := hO.lt
  refine (toInts_any S d.wat _ _ (Nat.le_trans hS hB.size) hs.s3 ((hM.below (hB.mono hS)).m3)).mono ?_
  rintro e V4 ⟨g3, rfl, y3, u3, hb⟩
  have hlo := hO.lt
  replace hO := hO.below hO.lt hb
  replace hA := hA.below hA.lt hb
  replace hR := hR.below hR.lt hb
  have l03 : g0 < g3 := by omega
  have l13 : g1 < g3 := by omega
  have l23 : g2 < g3 := by omega
  have p3 : (w.heap.size + 1 + 1) < g3 := by omega
  replace u0 := u0.below hb
  replace z0 : g0 < V4.heap.size := Nat.lt_of_lt_of_le z0 hb.size
  replace u1 := u1.below hb
  replace z1 : g1 < V4.heap.size := Nat.lt_of_lt_of_le z1 hb.size
  replace u2 := u2.below hb
  replace z2 : g2 < V4.heap.size := Nat.lt_of_lt_of_le z2 hb.size
  replace hB := hB.trans (hb.mono hB.size)
  have z3 : g3 < V4.heap.size := (World.ownsRow.lt u3 g3 rfl).2
  replace u3 := u3.mono (A := w.heap.size) (by omega)
  clear y3
  clear hb hlo
  obtain ⟨c0, c1, c2, c3, c4, c5, c6, c7, c8, c9, c10, c11, c12⟩ := id hA.at_
  obtain ⟨o0, o1, o2, o3, o4, o5, o6, o7, o8, o9, o10, o11, o12⟩ := id hO.at_
  have f8 := hO.fr 8
  have f9 := hO.fr 9
  have hlo := hO.lt
  go_wp2_with fail
  clear c0 c1 c2 c3 c4 c5 c6 c7 c8 c9 c10 c11 c12 o0 o1 o2 o3 o4 o5 o6 o7 o8 o9 o10 o11 o12 hlo f8 f9
  replace hO : RunBoxF ((V4.setCell ⟨(w.heap.size + 1 + 1), 8, none⟩ (.slice (some ⟨g3, 0, none⟩) d.wat.length d.wat.length)).setCell ⟨(w.heap.size + 1 + 1), 9, none⟩ (.bool d.trap)) (w.heap.size + 1 + 1) { runZ with id := d.id, pl := d.pl, slots := d.slots, full := d.full, mail := d.mail, st := d.st, due := d.due, links := d.links, wat := d.wat, trap := d.trap } { runPZ with a0 := some ⟨g0, 0, none⟩, k0 := d.slots.length, a1 := some ⟨g1, 0, none⟩, k1 := d.mail.length, a2 := some ⟨g2, 0, none⟩, k2 := d.links.length, a3 := some ⟨g3, 0, none⟩, k3 := d.wat.length } := ((hO.put8 d.wat (some ⟨g3, 0, none⟩) d.wat.length).put9 d.trap)
  replace hA : RunBoxF ((V4.setCell ⟨(w.heap.size + 1 + 1), 8, none⟩ (.slice (some ⟨g3, 0, none⟩) d.wat.length d.wat.length)).setCell ⟨(w.heap.size + 1 + 1), 9, none⟩ (.bool d.trap)) w.heap.size d q := ((hA.other (by show (w.heap.size + 1 + 1) ≠ _; omega) _).other (by show (w.heap.size + 1 + 1) ≠ _; omega) _)
  replace hR : RunBoxF ((V4.setCell ⟨(w.heap.size + 1 + 1), 8, none⟩ (.slice (some ⟨g3, 0, none⟩) d.wat.length d.wat.length)).setCell ⟨(w.heap.size + 1 + 1), 9, none⟩ (.bool d.trap)) (w.heap.size + 1) runZ runPZ := ((hR.other (by show (w.heap.size + 1 + 1) ≠ _; omega) _).other (by show (w.heap.size + 1 + 1) ≠ _; omega) _)
  replace hB : Below w.heap.size w ((V4.setCell ⟨(w.heap.size + 1 + 1), 8, none⟩ (.slice (some ⟨g3, 0, none⟩) d.wat.length d.wat.length)).setCell ⟨(w.heap.size + 1 + 1), 9, none⟩ (.bool d.trap)) := ((hB.setCell (by show w.heap.size ≤ (w.heap.size + 1 + 1); omega) _).setCell (by show w.heap.size ≤ (w.heap.size + 1 + 1); omega) _)
  replace u0 : OwnsV ((V4.setCell ⟨(w.heap.size + 1 + 1), 8, none⟩ (.slice (some ⟨g3, 0, none⟩) d.wat.length d.wat.length)).setCell ⟨(w.heap.size + 1 + 1), 9, none⟩ (.bool d.trap)) w.heap.size (.slice (some ⟨g0, 0, none⟩) d.slots.length d.slots.length) d.slots := ((u0.put (own_ne (by show _ ≠ (w.heap.size + 1 + 1); omega)) _).put (own_ne (by show _ ≠ (w.heap.size + 1 + 1); omega)) _)
  replace z0 : g0 < ((V4.setCell ⟨(w.heap.size + 1 + 1), 8, none⟩ (.slice (some ⟨g3, 0, none⟩) d.wat.length d.wat.length)).setCell ⟨(w.heap.size + 1 + 1), 9, none⟩ (.bool d.trap)).heap.size := (World.ownsRow.lt u0 g0 rfl).2
  replace u1 : OwnsV ((V4.setCell ⟨(w.heap.size + 1 + 1), 8, none⟩ (.slice (some ⟨g3, 0, none⟩) d.wat.length d.wat.length)).setCell ⟨(w.heap.size + 1 + 1), 9, none⟩ (.bool d.trap)) w.heap.size (.slice (some ⟨g1, 0, none⟩) d.mail.length d.mail.length) d.mail := ((u1.put (own_ne (by show _ ≠ (w.heap.size + 1 + 1); omega)) _).put (own_ne (by show _ ≠ (w.heap.size + 1 + 1); omega)) _)
  replace z1 : g1 < ((V4.setCell ⟨(w.heap.size + 1 + 1), 8, none⟩ (.slice (some ⟨g3, 0, none⟩) d.wat.length d.wat.length)).setCell ⟨(w.heap.size + 1 + 1), 9, none⟩ (.bool d.trap)).heap.size := (World.ownsRow.lt u1 g1 rfl).2
  replace u2 : Owns ((V4.setCell ⟨(w.heap.size + 1 + 1), 8, none⟩ (.slice (some ⟨g3, 0, none⟩) d.wat.length d.wat.length)).setCell ⟨(w.heap.size + 1 + 1), 9, none⟩ (.bool d.trap)) w.heap.size (.slice (some ⟨g2, 0, none⟩) d.links.length d.links.length) d.links := ((u2.put (own_ne (by show _ ≠ (w.heap.size + 1 + 1); omega)) _).put (own_ne (by show _ ≠ (w.heap.size + 1 + 1); omega)) _)
  replace z2 : g2 < ((V4.setCell ⟨(w.heap.size + 1 + 1), 8, none⟩ (.slice (some ⟨g3, 0, none⟩) d.wat.length d.wat.length)).setCell ⟨(w.heap.size + 1 + 1), 9, none⟩ (.bool d.trap)).heap.size := (World.ownsRow.lt u2 g2 rfl).2
  replace u3 : Owns ((V4.setCell ⟨(w.heap.size + 1 + 1), 8, none⟩ (.slice (some ⟨g3, 0, none⟩) d.wat.length d.wat.length)).setCell ⟨(w.heap.size + 1 + 1), 9, none⟩ (.bool d.trap)) w.heap.size (.slice (some ⟨g3, 0, none⟩) d.wat.length d.wat.length) d.wat := ((u3.put (own_ne (by show _ ≠ (w.heap.size + 1 + 1); omega)) _).put (own_ne (by show _ ≠ (w.heap.size + 1 + 1); omega)) _)
  replace z3 : g3 < ((V4.setCell ⟨(w.heap.size + 1 + 1), 8, none⟩ (.slice (some ⟨g3, 0, none⟩) d.wat.length d.wat.length)).setCell ⟨(w.heap.size + 1 + 1), 9, none⟩ (.bool d.trap)).heap.size := (World.ownsRow.lt u3 g3 rfl).2
  generalize ((V4.setCell ⟨(w.heap.size + 1 + 1), 8, none⟩ (.slice (some ⟨g3, 0, none⟩) d.wat.length d.wat.length)).setCell ⟨(w.heap.size + 1 + 1), 9, none⟩ (.bool d.trap)) = X4 at *
  have hlo := hO.lt
  refine (toVal_any _ _ _).mono ?_
  rintro e V5 ⟨rfl, hb⟩
  have hlo := hO.lt
  replace hO := hO.below hO.lt hb
  replace hA := hA.below hA.lt hb
  replace hR := hR.below hR.lt hb
  replace u0 := u0.below hb
  replace z0 : g0 < V5.heap.size := Nat.lt_of_lt_of_le z0 hb.size
  replace u1 := u1.below hb
  replace z1 : g1 < V5.heap.size := Nat.lt_of_lt_of_le z1 hb.size
  replace u2 := u2.below hb
  replace z2 : g2 < V5.heap.size := Nat.lt_of_lt_of_le z2 hb.size
  replace u3 := u3.below hb
  replace z3 : g3 < V5.heap.size := Nat.lt_of_lt_of_le z3 hb.size
  replace hB := hB.trans (hb.mono hB.size)
  clear hb hlo
  obtain ⟨c0, c1, c2, c3, c4, c5, c6, c7, c8, c9, c10, c11, c12⟩ := id hA.at_
  obtain ⟨o0, o1, o2, o3, o4, o5, o6, o7, o8, o9, o10, o11, o12⟩ := id hO.at_
  obtain ⟨r0, r1, r2, r3, r4, r5, r6, r7, r8, r9, r10, r11, r12⟩ := id hR.at_
  have f10 := hO.fr 10
  have f11 := hO.fr 11
  have f12 := hO.fr 12
  have e0 := hR.fr 0
  have e1 := hR.fr 1
  have e2 := hR.fr 2
  have e3 := hR.fr 3
  have e4 := hR.fr 4
  have e5 := hR.fr 5
  have e6 := hR.fr 6
  have e7 := hR.fr 7
  have e8 := hR.fr 8
  have e9 := hR.fr 9
  have e10 := hR.fr 10
  have e11 := hR.fr 11
  have e12 := hR.fr 12
  have hlo := hO.lt
  go_wp2_with fail
  exact bodyPost_ret (v := d.val ⟨some ⟨g0, 0, none⟩, d.slots.length, some ⟨g1, 0, none⟩, d.mail.length, some ⟨g2, 0, none⟩, d.links.length, some ⟨g3, 0, none⟩, d.wat.length⟩) (by simp [results, Try.results15, go_sem, r0, r1, r2, r3, r4, r5, r6, r7, r8, r9, r10, r11, r12]) rfl ⟨⟨some ⟨g0, 0, none⟩, d.slots.length, some ⟨g1, 0, none⟩, d.mail.length, some ⟨g2, 0, none⟩, d.links.length, some ⟨g3, 0, none⟩, d.wat.length⟩, rfl, ⟨((((((((((((((((u0.put (own_ne (by show _ ≠ (w.heap.size + 1 + 1); omega)) _).put (own_ne (by show _ ≠ (w.heap.size + 1 + 1); omega)) _).put (own_ne (by show _ ≠ (w.heap.size + 1 + 1); omega)) _).put (own_ne (by show _ ≠ (w.heap.size + 1); omega)) _).put (own_ne (by show _ ≠ (w.heap.size + 1); omega)) _).put (own_ne (by show _ ≠ (w.heap.size + 1); omega)) _).put (own_ne (by show _ ≠ (w.heap.size + 1); omega)) _).put (own_ne (by show _ ≠ (w.heap.size + 1); omega)) _).put (own_ne (by show _ ≠ (w.heap.size + 1); omega)) _).put (own_ne (by show _ ≠ (w.heap.size + 1); omega)) _).put (own_ne (by show _ ≠ (w.heap.size + 1); omega)) _).put (own_ne (by show _ ≠ (w.heap.size + 1); omega)) _).put (own_ne (by show _ ≠ (w.heap.size + 1); omega)) _).put (own_ne (by show _ ≠ (w.heap.size + 1); omega)) _).put (own_ne (by show _ ≠ (w.heap.size + 1); omega)) _).put (own_ne (by show _ ≠ (w.heap.size + 1); omega)) _), ((((((((((((((((u1.put (own_ne (by show _ ≠ (w.heap.size + 1 + 1); omega)) _).put (own_ne (by show _ ≠ (w.heap.size + 1 + 1); omega)) _).put (own_ne (by show _ ≠ (w.heap.size + 1 + 1); omega)) _).put (own_ne (by show _ ≠ (w.heap.size + 1); omega)) _).put (own_ne (by show _ ≠ (w.heap.size + 1); omega)) _).put (own_ne (by show _ ≠ (w.heap.size + 1); omega)) _).put (own_ne (by show _ ≠ (w.heap.size + 1); omega)) _).put (own_ne (by show _ ≠ (w.heap.size + 1); omega)) _).put (own_ne (by show _ ≠ (w.heap.size + 1); omega)) _).put (own_ne (by show _ ≠ (w.heap.size + 1); omega)) _).put (own_ne (by show _ ≠ (w.heap.size + 1); omega)) _).put (own_ne (by show _ ≠ (w.heap.size + 1); omega)) _).put (own_ne (by show _ ≠ (w.heap.size + 1); omega)) _).put (own_ne (by show _ ≠ (w.heap.size + 1); omega)) _).put (own_ne (by show _ ≠ (w.heap.size + 1); omega)) _).put (own_ne (by show _ ≠ (w.heap.size + 1); omega)) _), ((((((((((((((((u2.put (own_ne (by show _ ≠ (w.heap.size + 1 + 1); omega)) _).put (own_ne (by show _ ≠ (w.heap.size + 1 + 1); omega)) _).put (own_ne (by show _ ≠ (w.heap.size + 1 + 1); omega)) _).put (own_ne (by show _ ≠ (w.heap.size + 1); omega)) _).put (own_ne (by show _ ≠ (w.heap.size + 1); omega)) _).put (own_ne (by show _ ≠ (w.heap.size + 1); omega)) _).put (own_ne (by show _ ≠ (w.heap.size + 1); omega)) _).put (own_ne (by show _ ≠ (w.heap.size + 1); omega)) _).put (own_ne (by show _ ≠ (w.heap.size + 1); omega)) _).put (own_ne (by show _ ≠ (w.heap.size + 1); omega)) _).put (own_ne (by show _ ≠ (w.heap.size + 1); omega)) _).put (own_ne (by show _ ≠ (w.heap.size + 1); omega)) _).put (own_ne (by show _ ≠ (w.heap.size + 1); omega)) _).put (own_ne (by show _ ≠ (w.heap.size + 1); omega)) _).put (own_ne (by show _ ≠ (w.heap.size + 1); omega)) _).put (own_ne (by show _ ≠ (w.heap.size + 1); omega)) _), ((((((((((((((((u3.put (own_ne (by show _ ≠ (w.heap.size + 1 + 1); omega)) _).put (own_ne (by show _ ≠ (w.heap.size + 1 + 1); omega)) _).put (own_ne (by show _ ≠ (w.heap.size + 1 + 1); omega)) _).put (own_ne (by show _ ≠ (w.heap.size + 1); omega)) _).put (own_ne (by show _ ≠ (w.heap.size + 1); omega)) _).put (own_ne (by show _ ≠ (w.heap.size + 1); omega)) _).put (own_ne (by show _ ≠ (w.heap.size + 1); omega)) _).put (own_ne (by show _ ≠ (w.heap.size + 1); omega)) _).put (own_ne (by show _ ≠ (w.heap.size + 1); omega)) _).put (own_ne (by show _ ≠ (w.heap.size + 1); omega)) _).put (own_ne (by show _ ≠ (w.heap.size + 1); omega)) _).put (own_ne (by show _ ≠ (w.heap.size + 1); omega)) _).put (own_ne (by show _ ≠ (w.heap.size + 1); omega)) _).put (own_ne (by show _ ≠ (w.heap.size + 1); omega)) _).put (own_ne (by show _ ≠ (w.heap.size + 1); omega)) _).put (own_ne (by show _ ≠ (w.heap.size + 1); omega)) _), fun k e1 e2 => by simp [Value.ownBlock] at e1 e2; omega, fun k e1 e2 => by simp [Value.ownBlock] at e1 e2; omega, fun k e1 e2 => by simp [Value.ownBlock] at e1 e2; omega, fun k e1 e2 => by simp [Value.ownBlock] at e1 e2; omega, fun k e1 e2 => by simp [Value.ownBlock] at e1 e2; omega, fun k e1 e2 => by simp [Value.ownBlock] at e1 e2; omega⟩, ⟨Nat.le_refl _, Nat.le_refl _⟩, ((((((((((((((((hB.setCell (by show w.heap.size ≤ (w.heap.size + 1 + 1); omega) _).setCell (by show w.heap.size ≤ (w.heap.size + 1 + 1); omega) _).setCell (by show w.heap.size ≤ (w.heap.size + 1 + 1); omega) _).setCell (by show w.heap.size ≤ (w.heap.size + 1); omega) _).setCell (by show w.heap.size ≤ (w.heap.size + 1); omega) _).setCell (by show w.heap.size ≤ (w.heap.size + 1); omega) _).setCell (by show w.heap.size ≤ (w.heap.size + 1); omega) _).setCell (by show w.heap.size ≤ (w.heap.size + 1); omega) _).setCell (by show w.heap.size ≤ (w.heap.size + 1); omega) _).setCell (by show w.heap.size ≤ (w.heap.size + 1); omega) _).setCell (by show w.heap.size ≤ (w.heap.size + 1); omega) _).setCell (by show w.heap.size ≤ (w.heap.size + 1); omega) _).setCell (by show w.heap.size ≤ (w.heap.size + 1); omega) _).setCell (by show w.heap.size ≤ (w.heap.size + 1); omega) _).setCell (by show w.heap.size ≤ (w.heap.size + 1); omega) _).setCell (by show w.heap.size ≤ (w.heap.size + 1); omega) _)⟩
end Go.Proofs.Ytefaocjcfecipaa
