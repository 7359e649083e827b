/-
  Runs over this translation: a run in memory, with its four lists; what laws.eqRun, markRun and heldRun answer on it.
-/
import Derived.Test.YtefaocjcfecipaaRowMark
import Derived.Test.YtefaocjcfecipaaIntsEq
namespace Go.Proofs.Ytefaocjcfecipaa
open Go.ChangeShapes Go.WideShapes Go.ChangeAt Go.RowKit Go.Joins
/-- what a run has -/
structure RunD where
  id : Int
  pl : Int
  slots : List (Int × Int)
  full : Int
  mail : List (Int × Int)
  st : Int
  due : Int
  links : List Int
  wat : List Int
  trap : Bool
  wk : Int
  wn : Int
  tu : Int
/-- where its lists lie -/
structure RunP where
  a0 : Option Addr
  k0 : Nat
  a1 : Option Addr
  k1 : Nat
  a2 : Option Addr
  k2 : Nat
  a3 : Option Addr
  k3 : Nat
abbrev RunD.cells (d : RunD) (p : RunP) : Array Value := #[.int .i64 d.id, .int .i64 d.pl, .slice p.a0 d.slots.length p.k0, .int .i64 d.full, .slice p.a1 d.mail.length p.k1, .int .i64 d.st, .int .i64 d.due, .slice p.a2 d.links.length p.k2, .slice p.a3 d.wat.length p.k3, .bool d.trap, .int .i64 d.wk, .int .i64 d.wn, .int .i64 d.tu]
abbrev RunD.val (d : RunD) (p : RunP) : Value := .agg (d.cells p)
def runZ : RunD := ⟨0, 0, [], 0, [], 0, 0, [], [], false, 0, 0, 0⟩
def runPZ : RunP := ⟨none, 0, none, 0, none, 0, none, 0⟩
abbrev RunD.v0 (d : RunD) (p : RunP) : Value := .slice p.a0 d.slots.length p.k0
abbrev RunD.v1 (d : RunD) (p : RunP) : Value := .slice p.a1 d.mail.length p.k1
abbrev RunD.v2 (d : RunD) (p : RunP) : Value := .slice p.a2 d.links.length p.k2
abbrev RunD.v3 (d : RunD) (p : RunP) : Value := .slice p.a3 d.wat.length p.k3
/-- a run's own cells in memory -/
structure RunAt (w : World) (b : Nat) (d : RunD) (p : RunP) : Prop where
  c0 : w.cell? ⟨b, 0, none⟩ = some (.int .i64 d.id)
  c1 : w.cell? ⟨b, 1, none⟩ = some (.int .i64 d.pl)
  c2 : w.cell? ⟨b, 2, none⟩ = some (.slice p.a0 d.slots.length p.k0)
  c3 : w.cell? ⟨b, 3, none⟩ = some (.int .i64 d.full)
  c4 : w.cell? ⟨b, 4, none⟩ = some (.slice p.a1 d.mail.length p.k1)
  c5 : w.cell? ⟨b, 5, none⟩ = some (.int .i64 d.st)
  c6 : w.cell? ⟨b, 6, none⟩ = some (.int .i64 d.due)
  c7 : w.cell? ⟨b, 7, none⟩ = some (.slice p.a2 d.links.length p.k2)
  c8 : w.cell? ⟨b, 8, none⟩ = some (.slice p.a3 d.wat.length p.k3)
  c9 : w.cell? ⟨b, 9, none⟩ = some (.bool d.trap)
  c10 : w.cell? ⟨b, 10, none⟩ = some (.int .i64 d.wk)
  c11 : w.cell? ⟨b, 11, none⟩ = some (.int .i64 d.wn)
  c12 : w.cell? ⟨b, 12, none⟩ = some (.int .i64 d.tu)
theorem RunAt.below {S : Nat} {w w' : World} {b : Nat} {d : RunD} {p : RunP} (h : RunAt w b d p) (hl : b < S) (hb : Below S w w') : RunAt w' b d p :=
  ⟨(hb.cell (p := ⟨b, 0, none⟩) hl).trans h.c0, (hb.cell (p := ⟨b, 1, none⟩) hl).trans h.c1, (hb.cell (p := ⟨b, 2, none⟩) hl).trans h.c2, (hb.cell (p := ⟨b, 3, none⟩) hl).trans h.c3, (hb.cell (p := ⟨b, 4, none⟩) hl).trans h.c4, (hb.cell (p := ⟨b, 5, none⟩) hl).trans h.c5, (hb.cell (p := ⟨b, 6, none⟩) hl).trans h.c6, (hb.cell (p := ⟨b, 7, none⟩) hl).trans h.c7, (hb.cell (p := ⟨b, 8, none⟩) hl).trans h.c8, (hb.cell (p := ⟨b, 9, none⟩) hl).trans h.c9, (hb.cell (p := ⟨b, 10, none⟩) hl).trans h.c10, (hb.cell (p := ⟨b, 11, none⟩) hl).trans h.c11, (hb.cell (p := ⟨b, 12, none⟩) hl).trans h.c12⟩
/-- a run's lists in memory, below block S -/
structure RunMem (S : Nat) (w : World) (d : RunD) (p : RunP) : Prop where
  m0 : Vals S w (d.v0 p) d.slots
  m1 : Vals S w (d.v1 p) d.mail
  m2 : Ints S w (d.v2 p) d.links
  m3 : Ints S w (d.v3 p) d.wat
theorem RunMem.below {S : Nat} {w w' : World} {d : RunD} {p : RunP} (h : RunMem S w d p) (hb : Below S w w') : RunMem S w' d p := ⟨h.m0.below hb, h.m1.below hb, h.m2.below hb, h.m3.below hb⟩
theorem RunMem.mono {S T : Nat} {w : World} {d : RunD} {p : RunP} (h : RunMem S w d p) (hs : S ≤ T) : RunMem T w d p := ⟨h.m0.mono hs, h.m1.mono hs, h.m2.mono hs, h.m3.mono hs⟩
/-- no list is too long -/
structure RunD.Short (d : RunD) : Prop where
  s0 : d.slots.length ≤ 1048576
  s1 : d.mail.length ≤ 1048576
  s2 : d.links.length ≤ 1048576
  s3 : d.wat.length ≤ 1048576
/-- two lists share no block -/
def Apart (u v : Value) : Prop := ∀ k, u.ownBlock = some k → v.ownBlock ≠ some k
theorem Apart.symm {u v : Value} (h : Apart u v) : Apart v u := fun k hk e => h k e hk
/-- a run whose lists are its own, from block B on, each apart from the others -/
structure OwnRun (w : World) (B : Nat) (d : RunD) (p : RunP) : Prop where
  o0 : OwnsV w B (d.v0 p) d.slots
  o1 : OwnsV w B (d.v1 p) d.mail
  o2 : Owns w B (d.v2 p) d.links
  o3 : Owns w B (d.v3 p) d.wat
  x01 : Apart (d.v0 p) (d.v1 p)
  x02 : Apart (d.v0 p) (d.v2 p)
  x03 : Apart (d.v0 p) (d.v3 p)
  x12 : Apart (d.v1 p) (d.v2 p)
  x13 : Apart (d.v1 p) (d.v3 p)
  x23 : Apart (d.v2 p) (d.v3 p)
theorem OwnRun.mem {w : World} {B : Nat} {d : RunD} {p : RunP} (h : OwnRun w B d p) : RunMem w.heap.size w d p := ⟨OwnsV.vals h.o0, OwnsV.vals h.o1, Owns.ints h.o2, Owns.ints h.o3⟩
theorem OwnRun.below {w w' : World} {B : Nat} {d : RunD} {p : RunP} (h : OwnRun w B d p) (hb : Below w.heap.size w w') : OwnRun w' B d p :=
  ⟨OwnsV.below h.o0 hb, OwnsV.below h.o1 hb, Owns.below h.o2 hb, Owns.below h.o3 hb, h.x01, h.x02, h.x03, h.x12, h.x13, h.x23⟩
theorem OwnRun.mono {w : World} {A B : Nat} {d : RunD} {p : RunP} (h : OwnRun w B d p) (hb : A ≤ B) : OwnRun w A d p :=
  ⟨OwnsV.mono h.o0 hb, OwnsV.mono h.o1 hb, Owns.mono h.o2 hb, Owns.mono h.o3 hb, h.x01, h.x02, h.x03, h.x12, h.x13, h.x23⟩
theorem Owns.apart {w w' : World} {B : Nat} {u v : Value} {L : List Int} (h : Owns w B v L) (hg : w.grownBy w' u.ownBlock) (hx : Apart u v) : Owns w' B v L :=
  World.ownsRow.kept h hg (by
    cases hv : v.ownBlock with
    | none => exact .inl rfl
    | some k => exact .inr fun e => hx k e.symm hv)
theorem OwnsV.apart {w w' : World} {B : Nat} {u v : Value} {L : List (Int × Int)} (h : OwnsV w B v L) (hg : w.grownBy w' u.ownBlock) (hx : Apart u v) : OwnsV w' B v L :=
  World.ownsRow.kept h hg (by
    cases hv : v.ownBlock with
    | none => exact .inl rfl
    | some k => exact .inr fun e => hx k e.symm hv)
/-- how many marks a run takes -/
def RunD.marks (d : RunD) : Int := 2 * (d.slots.length : Int) + 2 * (d.mail.length : Int) + (d.links.length : Int) + (d.wat.length : Int)
/-- a run that is marked, from a on -/
def RunD.up (d : RunD) (a : Int) : RunD :=
  { d with slots := upsV a d.slots.length, mail := upsV (a + 2 * (d.slots.length : Int)) d.mail.length, links := upsI (a + 2 * (d.slots.length : Int) + 2 * (d.mail.length : Int)) d.links.length, wat := upsI (a + 2 * (d.slots.length : Int) + 2 * (d.mail.length : Int) + (d.links.length : Int)) d.wat.length }
theorem RunD.up_v (d : RunD) (a : Int) (p : RunP) : (d.up a).v0 p = d.v0 p ∧ (d.up a).v1 p = d.v1 p ∧ (d.up a).v2 p = d.v2 p ∧ (d.up a).v3 p = d.v3 p := by
  simp [RunD.up, upsV_len, upsI_len, RunD.v0, RunD.v1, RunD.v2, RunD.v3]
theorem RunD.up_val (d : RunD) (a : Int) (p : RunP) : (d.up a).val p = d.val p := by
  simp [RunD.up, upsV_len, upsI_len, RunD.val, RunD.cells]
theorem runAt_new (w : World) (d : RunD) (p : RunP) (t : TypeId) : RunAt (w.alloc (.cells (d.cells p) t)) w.heap.size d p :=
  ⟨by simp [go_sem], by simp [go_sem], by simp [go_sem], by simp [go_sem], by simp [go_sem], by simp [go_sem], by simp [go_sem], by simp [go_sem], by simp [go_sem], by simp [go_sem], by simp [go_sem], by simp [go_sem], by simp [go_sem]⟩
set_option maxRecDepth 20000 in
set_option maxHeartbeats 4000000 in
theorem eqRun_same (S : Nat) (d : RunD) (p q : RunP) (w : World) (hS : S ≤ w.heap.size) (hs : d.Short) (hp : RunMem S w d p) (hq : RunMem S w d q) :
    Calls Try.prog 16 #[d.val p, d.val q] w fun e w' => e = .returned (.bool true) ∧ Below w.heap.size w w' := by
  go_enter Try.func16, Try.ntmps16
  go_wp2_with fail
  have hB0 : Below w.heap.size w ((w.alloc (.cells (d.cells p) 30)).alloc (.cells (d.cells q) 30)) := ((Below.refl _ _).alloc (Nat.le_refl _) _).alloc (by simp) _
  have bp : RunAt ((w.alloc (.cells (d.cells p) 30)).alloc (.cells (d.cells q) 30)) w.heap.size d p := (runAt_new w d p 30).below (S := w.heap.size + 1) (by omega) ((Below.refl _ _).alloc (by simp) _)
  have bq : RunAt ((w.alloc (.cells (d.cells p) 30)).alloc (.cells (d.cells q) 30)) (w.heap.size + 1) d q := by simpa using runAt_new (w.alloc (.cells (d.cells p) 30)) d q 30
  have hz0 : w.heap.size + 1 < ((w.alloc (.cells (d.cells p) 30)).alloc (.cells (d.cells q) 30)).heap.size := by simp
  generalize ((w.alloc (.cells (d.cells p) 30)).alloc (.cells (d.cells q) 30)) = W0 at *
  refine (eqVals_same w.heap.size d.slots _ _ _ hs.s0 (by omega) ((hp.m0.mono hS).below hB0) ((hq.m0.mono hS).below hB0)).mono ?_
  rintro e W1 ⟨rfl, hb⟩
  have hB1 : Below w.heap.size w W1 := hB0.trans (hb.mono (by omega))
  have hz1 : w.heap.size + 1 < W1.heap.size := Nat.lt_of_lt_of_le hz0 hb.size
  replace bp : RunAt W1 w.heap.size d p := bp.below (by omega) hb
  replace bq : RunAt W1 (w.heap.size + 1) d q := bq.below (by omega) hb
  clear hb
  clear hB0 hz0
  obtain ⟨c0, c1, c2, c3, c4, c5, c6, c7, c8, c9, c10, c11, c12⟩ := id bp
  obtain ⟨d0, d1, d2, d3, d4, d5, d6, d7, d8, d9, d10, d11, d12⟩ := id bq
  go_wp2_with fail
  refine (eqVals_same w.heap.size d.mail _ _ _ hs.s1 (by omega) ((hp.m1.mono hS).below hB1) ((hq.m1.mono hS).below hB1)).mono ?_
  rintro e W2 ⟨rfl, hb⟩
  have hB2 : Below w.heap.size w W2 := hB1.trans (hb.mono (by omega))
  have hz2 : w.heap.size + 1 < W2.heap.size := Nat.lt_of_lt_of_le hz1 hb.size
  replace bp : RunAt W2 w.heap.size d p := bp.below (by omega) hb
  replace bq : RunAt W2 (w.heap.size + 1) d q := bq.below (by omega) hb
  clear hb
  clear hB1 hz1
  clear c0 c1 c2 c3 c4 c5 c6 c7 c8 c9 c10 c11 c12 d0 d1 d2 d3 d4 d5 d6 d7 d8 d9 d10 d11 d12
  obtain ⟨c0, c1, c2, c3, c4, c5, c6, c7, c8, c9, c10, c11, c12⟩ := id bp
  obtain ⟨d0, d1, d2, d3, d4, d5, d6, d7, d8, d9, d10, d11, d12⟩ := id bq
  go_wp2_with fail
  refine (eqInts_same w.heap.size d.links _ _ _ hs.s2 ((hp.m2.mono hS).below hB2) ((hq.m2.mono hS).below hB2)).mono ?_
  rintro e W3 ⟨rfl, hb⟩
  have hB3 : Below w.heap.size w W3 := hB2.trans (hb.mono (by omega))
  have hz3 : w.heap.size + 1 < W3.heap.size := Nat.lt_of_lt_of_le hz2 hb.size
  replace bp : RunAt W3 w.heap.size d p := bp.below (by omega) hb
  replace bq : RunAt W3 (w.heap.size + 1) d q := bq.below (by omega) hb
  clear hb
  clear hB2 hz2
  clear c0 c1 c2 c3 c4 c5 c6 c7 c8 c9 c10 c11 c12 d0 d1 d2 d3 d4 d5 d6 d7 d8 d9 d10 d11 d12
  obtain ⟨c0, c1, c2, c3, c4, c5, c6, c7, c8, c9, c10, c11, c12⟩ := id bp
  obtain ⟨d0, d1, d2, d3, d4, d5, d6, d7, d8, d9, d10, d11, d12⟩ := id bq
  go_wp2_with fail
  refine (eqInts_same w.heap.size d.wat _ _ _ hs.s3 ((hp.m3.mono hS).below hB3) ((hq.m3.mono hS).below hB3)).mono ?_
  rintro e W4 ⟨rfl, hb⟩
  have hB4 : Below w.heap.size w W4 := hB3.trans (hb.mono (by omega))
  have hz4 : w.heap.size + 1 < W4.heap.size := Nat.lt_of_lt_of_le hz3 hb.size
  replace bp : RunAt W4 w.heap.size d p := bp.below (by omega) hb
  replace bq : RunAt W4 (w.heap.size + 1) d q := bq.below (by omega) hb
  clear hb
  clear hB3 hz3
  clear c0 c1 c2 c3 c4 c5 c6 c7 c8 c9 c10 c11 c12 d0 d1 d2 d3 d4 d5 d6 d7 d8 d9 d10 d11 d12
  obtain ⟨c0, c1, c2, c3, c4, c5, c6, c7, c8, c9, c10, c11, c12⟩ := id bp
  obtain ⟨d0, d1, d2, d3, d4, d5, d6, d7, d8, d9, d10, d11, d12⟩ := id bq
  go_wp2_with fail
  refine (eqVal_same d.wk d.wn _).mono ?_
  rintro e W5 ⟨rfl, hb⟩
  have hB5 : Below w.heap.size w W5 := hB4.trans (hb.mono (by omega))
  have hz5 : w.heap.size + 1 < W5.heap.size := Nat.lt_of_lt_of_le hz4 hb.size
  replace bp : RunAt W5 w.heap.size d p := bp.below (by omega) hb
  replace bq : RunAt W5 (w.heap.size + 1) d q := bq.below (by omega) hb
  clear hb
  clear hB4 hz4
  clear c0 c1 c2 c3 c4 c5 c6 c7 c8 c9 c10 c11 c12 d0 d1 d2 d3 d4 d5 d6 d7 d8 d9 d10 d11 d12
  obtain ⟨c0, c1, c2, c3, c4, c5, c6, c7, c8, c9, c10, c11, c12⟩ := id bp
  obtain ⟨d0, d1, d2, d3, d4, d5, d6, d7, d8, d9, d10, d11, d12⟩ := id bq
  go_wp2_with fail
  go_ret
  exact ⟨rfl, hB5⟩
end Go.Proofs.Ytefaocjcfecipaa
