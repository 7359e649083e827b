/-
  Runs in their boxes over this translation: what a store of a run leaves, and what a region that draws its order keeps.
-/
import Derived.Test.YtefaocjcfecipaaRunNewS
import Derived.Deep.DeepCutAuto
import Derived.Deep.RegionHeld3
import Derived.Deep.DrawnRows
namespace Go.Proofs.Ytefaocjcfecipaa
open Go.ChangeShapes Go.WideShapes Go.ChangeAt Go.RowKit Go.Joins
set_option maxHeartbeats 400000 in
theorem toVal_any (k n : Int) (w : World) :
    Calls Try.prog 25 #[.agg #[.int .i64 k, .int .i64 n]] w fun e w' => e = .returned (.agg #[.int .i64 k, .int .i64 n]) ∧ Below w.heap.size w w' := by
  go_enter Try.func25, Try.ntmps25
  go_wp2_with fail
  exact bodyPost_ret (v := .agg #[.int .i64 k, .int .i64 n]) (by simp [results, Try.results25, go_sem]) rfl ⟨rfl, (((Below.refl _ _).alloc (Nat.le_refl _) _).alloc (by simp) _).alloc (by simp; omega) _⟩
/-- a run in its box, its lists its own, apart from the box -/
structure BoxRun (w : World) (B b : Nat) (d : RunD) (p : RunP) : Prop where
  at_ : RunAt w b d p
  lt : b < w.heap.size
  own : OwnRun w B d p
  n0 : (d.v0 p).ownBlock ≠ some b
  n1 : (d.v1 p).ownBlock ≠ some b
  n2 : (d.v2 p).ownBlock ≠ some b
  n3 : (d.v3 p).ownBlock ≠ some b
theorem BoxRun.below {w w' : World} {B b : Nat} {d : RunD} {p : RunP} (h : BoxRun w B b d p) (hb : Below w.heap.size w w') : BoxRun w' B b d p :=
  ⟨h.at_.below h.lt hb, Nat.lt_of_lt_of_le h.lt hb.size, h.own.below hb, h.n0, h.n1, h.n2, h.n3⟩
/-- the store of a run -/
abbrev set13 (w : World) (b : Nat) (d : RunD) (p : RunP) : World :=
  (((((((((((((w.setCell ⟨b, 0, none⟩ (.int .i64 d.id)).setCell ⟨b, 1, none⟩ (.int .i64 d.pl)).setCell ⟨b, 2, none⟩ (.slice p.a0 d.slots.length p.k0)).setCell ⟨b, 3, none⟩ (.int .i64 d.full)).setCell ⟨b, 4, none⟩ (.slice p.a1 d.mail.length p.k1)).setCell ⟨b, 5, none⟩ (.int .i64 d.st)).setCell ⟨b, 6, none⟩ (.int .i64 d.due)).setCell ⟨b, 7, none⟩ (.slice p.a2 d.links.length p.k2)).setCell ⟨b, 8, none⟩ (.slice p.a3 d.wat.length p.k3)).setCell ⟨b, 9, none⟩ (.bool d.trap)).setCell ⟨b, 10, none⟩ (.int .i64 d.wk)).setCell ⟨b, 11, none⟩ (.int .i64 d.wn)).setCell ⟨b, 12, none⟩ (.int .i64 d.tu))
theorem set13_but (w : World) (b : Nat) (d : RunD) (p : RunP) : But b w (set13 w b d p) :=
  (((((((((((((But.refl b w).setCell (p := ⟨b, 0, none⟩) rfl _).setCell (p := ⟨b, 1, none⟩) rfl _).setCell (p := ⟨b, 2, none⟩) rfl _).setCell (p := ⟨b, 3, none⟩) rfl _).setCell (p := ⟨b, 4, none⟩) rfl _).setCell (p := ⟨b, 5, none⟩) rfl _).setCell (p := ⟨b, 6, none⟩) rfl _).setCell (p := ⟨b, 7, none⟩) rfl _).setCell (p := ⟨b, 8, none⟩) rfl _).setCell (p := ⟨b, 9, none⟩) rfl _).setCell (p := ⟨b, 10, none⟩) rfl _).setCell (p := ⟨b, 11, none⟩) rfl _).setCell (p := ⟨b, 12, none⟩) rfl _
/-- thirteen cells that are there -/
def Cells13 (w : World) (b : Nat) : Prop := ∀ i, i < 13 → ∃ v, w.cell? ⟨b, i, none⟩ = some v
theorem set13_at {w : World} {b : Nat} (h : Cells13 w b) (d : RunD) (p : RunP) : RunAt (set13 w b d p) b d p := by
  obtain ⟨u0, c0⟩ := h 0 (by omega)
  obtain ⟨u1, c1⟩ := h 1 (by omega)
  obtain ⟨u2, c2⟩ := h 2 (by omega)
  obtain ⟨u3, c3⟩ := h 3 (by omega)
  obtain ⟨u4, c4⟩ := h 4 (by omega)
  obtain ⟨u5, c5⟩ := h 5 (by omega)
  obtain ⟨u6, c6⟩ := h 6 (by omega)
  obtain ⟨u7, c7⟩ := h 7 (by omega)
  obtain ⟨u8, c8⟩ := h 8 (by omega)
  obtain ⟨u9, c9⟩ := h 9 (by omega)
  obtain ⟨u10, c10⟩ := h 10 (by omega)
  obtain ⟨u11, c11⟩ := h 11 (by omega)
  obtain ⟨u12, c12⟩ := h 12 (by omega)
  refine ⟨?_, ?_, ?_, ?_, ?_, ?_, ?_, ?_, ?_, ?_, ?_, ?_, ?_⟩ <;> simp [set13, go_sem, c0, c1, c2, c3, c4, c5, c6, c7, c8, c9, c10, c11, c12]
theorem OwnRun.but {w w' : World} {B b : Nat} {d : RunD} {p : RunP} (h : OwnRun w B d p) (hb : But b w w') (n0 : (d.v0 p).ownBlock ≠ some b) (n1 : (d.v1 p).ownBlock ≠ some b) (n2 : (d.v2 p).ownBlock ≠ some b) (n3 : (d.v3 p).ownBlock ≠ some b) : OwnRun w' B d p := by
  have hg : w.grownBy w' (some b) := But.grown hb
  have k : ∀ v : Value, v.ownBlock ≠ some b → v.ownBlock = none ∨ v.ownBlock ≠ some b := fun v hv => .inr hv
  exact ⟨World.ownsRow.kept h.o0 hg (k _ n0), World.ownsRow.kept h.o1 hg (k _ n1), World.ownsRow.kept h.o2 hg (k _ n2), World.ownsRow.kept h.o3 hg (k _ n3), h.x01, h.x02, h.x03, h.x12, h.x13, h.x23⟩
/-- a run stored in a box that is not one of its lists -/
theorem box_store {w : World} {B b : Nat} {d : RunD} {p : RunP} (hc : Cells13 w b) (ho : OwnRun w B d p) (hn : (d.v0 p).ownBlock ≠ some b ∧ (d.v1 p).ownBlock ≠ some b ∧ (d.v2 p).ownBlock ≠ some b ∧ (d.v3 p).ownBlock ≠ some b) : BoxRun (set13 w b d p) B b d p := by
  obtain ⟨n0, n1, n2, n3⟩ := hn
  obtain ⟨v, hv⟩ := hc 0 (by omega)
  exact ⟨set13_at hc d p, Nat.lt_of_lt_of_le (World.block_lt_of_cell? _ _ hv) (set13_but w b d p).size, ho.but (set13_but w b d p) n0 n1 n2 n3, n0, n1, n2, n3⟩
theorem zero13 (w : World) (t : TypeId) : Cells13 (w.alloc (.cells (runZ.cells runPZ) t)) w.heap.size := by
  have h := runAt_new w runZ runPZ t
  intro i hi
  rcases (by omega : i = 0 ∨ i = 1 ∨ i = 2 ∨ i = 3 ∨ i = 4 ∨ i = 5 ∨ i = 6 ∨ i = 7 ∨ i = 8 ∨ i = 9 ∨ i = 10 ∨ i = 11 ∨ i = 12) with rfl | rfl | rfl | rfl | rfl | rfl | rfl | rfl | rfl | rfl | rfl | rfl | rfl
  · exact ⟨_, h.c0⟩
  · exact ⟨_, h.c1⟩
  · exact ⟨_, h.c2⟩
  · exact ⟨_, h.c3⟩
  · exact ⟨_, h.c4⟩
  · exact ⟨_, h.c5⟩
  · exact ⟨_, h.c6⟩
  · exact ⟨_, h.c7⟩
  · exact ⟨_, h.c8⟩
  · exact ⟨_, h.c9⟩
  · exact ⟨_, h.c10⟩
  · exact ⟨_, h.c11⟩
  · exact ⟨_, h.c12⟩
theorem Cells13.below {w w' : World} {S b : Nat} (h : Cells13 w b) (hb : Below S w w') (hl : b < S) : Cells13 w' b := fun i hi => by
  obtain ⟨v, hv⟩ := h i hi
  exact ⟨v, (hb.cell (p := ⟨b, i, none⟩) hl).trans hv⟩
theorem Cells13.drew {w : World} {b : Nat} (h : Cells13 w b) : Cells13 w.drew b := fun i hi => by
  obtain ⟨v, hv⟩ := h i hi
  exact ⟨v, by simpa [go_sem] using hv⟩
theorem OwnRun.not_box {w : World} {B : Nat} {d : RunD} {p : RunP} (h : OwnRun w B d p) {b : Nat} (hb : b < B ∨ w.heap.size ≤ b) :
    (d.v0 p).ownBlock ≠ some b ∧ (d.v1 p).ownBlock ≠ some b ∧ (d.v2 p).ownBlock ≠ some b ∧ (d.v3 p).ownBlock ≠ some b := by
  refine ⟨fun e => ?_, fun e => ?_, fun e => ?_, fun e => ?_⟩
  · have := World.ownsRow.lt h.o0 b e; omega
  · have := World.ownsRow.lt h.o1 b e; omega
  · have := World.ownsRow.lt h.o2 b e; omega
  · have := World.ownsRow.lt h.o3 b e; omega
theorem OwnRun.drew {w : World} {B : Nat} {d : RunD} {p : RunP} (h : OwnRun w B d p) : OwnRun w.drew B d p := h.below (Below.refl _ _).drew
/-- marks in the lists leave the box -/
theorem RunAt.kept {w w' : World} {b : Nat} {d e : RunD} {p q : RunP} (h : RunAt w b e q) (hl : b < w.heap.size) (hk : KeptBut d p w w') (n0 : (d.v0 p).ownBlock ≠ some b) (n1 : (d.v1 p).ownBlock ≠ some b) (n2 : (d.v2 p).ownBlock ≠ some b) (n3 : (d.v3 p).ownBlock ≠ some b) : RunAt w' b e q :=
  h.same (hk b hl n0 n1 n2 n3)
end Go.Proofs.Ytefaocjcfecipaa
