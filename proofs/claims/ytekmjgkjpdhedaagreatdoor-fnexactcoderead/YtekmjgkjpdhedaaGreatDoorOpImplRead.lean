/-
  What impl.OpRead answers over this translation: the ok step whose text it is, and true, else nothing and false; nothing that was there turns.
-/
import Derived.Test.YtekmjgkjpdhedaaGreatDoorOpReadRow
import Derived.Test.YtekmjgkjpdhedaaGreatDoorSpecOpRead
import Derived.Test.YtekmjgkjpdhedaaGreatDoorOpKindW
import Derived.Shelf.Strings.Split
import Derived.Deep.CutRange
import Derived.Deep.RegionHeld3
namespace Go.Proofs.YtekmjgkjpdhedaaGreatDoor
open Go.ChangeShapes Go.WideShapes Go.ChangeAt Go.RowKit Go.Joins
/-- the library's bound holds an int -/
def Max (w : World) : Prop := ∃ m, w.cell? ⟨1, 0, none⟩ = some (.int .i64 m)
theorem Max.below {w w' : World} (h : Max w) (hb : Below w.heap.size w w') : Max w' := by
  obtain ⟨m, h⟩ := h
  exact ⟨m, (hb.cell (p := ⟨1, 0, none⟩) (World.block_lt_of_cell? _ _ h)).trans h⟩
/-- the pieces of a text, in memory -/
def pcsA (t : List UInt8) : Array Value := ((pcs t).map fun x => Value.string ⟨x.toArray⟩).toArray
theorem split_any (t : List UInt8) (ht : t.length ≤ 1048576) (w : World) (hM : Max w) :
    Calls Tryz.prog 53 #[.string ⟨t.toArray⟩, .string ⟨#[32]⟩] w fun e w' => e = .returned (.slice (some ⟨w.heap.size, 0, none⟩) (pcs t).length (pcs t).length) ∧ w' = w.alloc (.cells (pcsA t) 9) := by
  obtain ⟨m, hM⟩ := hM
  have hs : (⟨t.toArray⟩ : ByteArray).size = t.length := by simp [ByteArray.size]
  have hd := Lib.splitB_data ⟨#[32]⟩ 0 (Lib.countB ⟨t.toArray⟩ ⟨#[32]⟩) ⟨t.toArray⟩
  have hc : Lib.countB ⟨t.toArray⟩ ⟨#[32]⟩ = Lib.count t [32] := by simp [Lib.countB]
  have e1 : (Lib.splitB ⟨#[32]⟩ 0 (Lib.countB ⟨t.toArray⟩ ⟨#[32]⟩) ⟨t.toArray⟩).map (·.data.toList) = pcs t := by
    rw [hd, hc]; exact splitK_pcs t
  have e2 : (Lib.splitB ⟨#[32]⟩ 0 (Lib.countB ⟨t.toArray⟩ ⟨#[32]⟩) ⟨t.toArray⟩).map Value.string = (pcs t).map fun x => Value.string ⟨x.toArray⟩ := by
    rw [← e1, List.map_map]; apply List.map_congr_left; intro x _; simp
  have e3 : Lib.countB ⟨t.toArray⟩ ⟨#[32]⟩ + 1 = (pcs t).length := by
    rw [← Lib.splitB_all ⟨#[32]⟩ (by decide) 0 _ ⟨t.toArray⟩ rfl, ← e1, List.length_map]
  have c := Any.strings_Split { laysSplit with } laysSplit.i9 ⟨t.toArray⟩ ⟨#[32]⟩ m w (by rw [hs]; omega) hM (by decide)
  rw [e2, e3] at c
  exact c
/-- what the loads of the region read, and that what was there stays -/
abbrev SevF (F : Nat) (f0 f1 f2 f3 f4 f5 f6 f7 f8 f9 f10 f11 f12 f13 : Value) (w2 w' : World) : Prop :=
  w'.cell? ⟨F, 0, none⟩ = some f0 ∧ w'.cell? ⟨F, 1, none⟩ = some f1 ∧ w'.cell? ⟨F, 2, none⟩ = some f2 ∧ w'.cell? ⟨F, 3, none⟩ = some f3 ∧ w'.cell? ⟨F, 4, none⟩ = some f4 ∧ w'.cell? ⟨F, 5, none⟩ = some f5 ∧ w'.cell? ⟨F, 6, none⟩ = some f6 ∧ w'.cell? ⟨F, 7, none⟩ = some f7 ∧ w'.cell? ⟨F, 8, none⟩ = some f8 ∧ w'.cell? ⟨F, 9, none⟩ = some f9 ∧ w'.cell? ⟨F, 10, none⟩ = some f10 ∧ w'.cell? ⟨F, 11, none⟩ = some f11 ∧ w'.cell? ⟨F, 12, none⟩ = some f12 ∧ w'.cell? ⟨F, 13, none⟩ = some f13 ∧ Below w2.heap.size w2 w'
theorem SevF.below {F : Nat} {f0 f1 f2 f3 f4 f5 f6 f7 f8 f9 f10 f11 f12 f13 : Value} {w2 w' : World} (h : SevF F f0 f1 f2 f3 f4 f5 f6 f7 f8 f9 f10 f11 f12 f13 w2 w') : Below w2.heap.size w2 w' := h.2.2.2.2.2.2.2.2.2.2.2.2.2.2
theorem sevF_of {F : Nat} {f0 f1 f2 f3 f4 f5 f6 f7 f8 f9 f10 f11 f12 f13 : Value} {w2 w' X : World} (l : F < w2.heap.size) (h : SevF F f0 f1 f2 f3 f4 f5 f6 f7 f8 f9 f10 f11 f12 f13 w2 w') (hb : Below w2.heap.size w2 X) : SevF F f0 f1 f2 f3 f4 f5 f6 f7 f8 f9 f10 f11 f12 f13 w2 X := by
  obtain ⟨h0, h1, h2, h3, h4, h5, h6, h7, h8, h9, h10, h11, h12, h13, h14⟩ := h
  have e : ∀ o, X.cell? ⟨F, o, none⟩ = w'.cell? ⟨F, o, none⟩ := fun o => (hb.cell (p := ⟨F, o, none⟩) l).trans (h14.cell (p := ⟨F, o, none⟩) l).symm
  exact ⟨(e _).trans h0, (e _).trans h1, (e _).trans h2, (e _).trans h3, (e _).trans h4, (e _).trans h5, (e _).trans h6, (e _).trans h7, (e _).trans h8, (e _).trans h9, (e _).trans h10, (e _).trans h11, (e _).trans h12, (e _).trans h13, hb⟩
theorem sevF_drew {F : Nat} {f0 f1 f2 f3 f4 f5 f6 f7 f8 f9 f10 f11 f12 f13 : Value} {w2 X : World} (l : F < w2.heap.size) (h : SevF F f0 f1 f2 f3 f4 f5 f6 f7 f8 f9 f10 f11 f12 f13 w2 X) : SevF F f0 f1 f2 f3 f4 f5 f6 f7 f8 f9 f10 f11 f12 f13 w2 X.drew := sevF_of l h (SevF.below h).drew
theorem sevF_call {F : Nat} {f0 f1 f2 f3 f4 f5 f6 f7 f8 f9 f10 f11 f12 f13 : Value} {w2 X w' : World} (l : F < w2.heap.size) (h : SevF F f0 f1 f2 f3 f4 f5 f6 f7 f8 f9 f10 f11 f12 f13 w2 X) (hb : Below X.heap.size X w') : SevF F f0 f1 f2 f3 f4 f5 f6 f7 f8 f9 f10 f11 f12 f13 w2 w' := sevF_of l h (bel_call (SevF.below h) hb)
theorem sevF_alloc {F : Nat} {f0 f1 f2 f3 f4 f5 f6 f7 f8 f9 f10 f11 f12 f13 : Value} {w2 X : World} (l : F < w2.heap.size) (h : SevF F f0 f1 f2 f3 f4 f5 f6 f7 f8 f9 f10 f11 f12 f13 w2 X) (o : Obj) : SevF F f0 f1 f2 f3 f4 f5 f6 f7 f8 f9 f10 f11 f12 f13 w2 (X.alloc o) := sevF_of l h ((SevF.below h).alloc (SevF.below h).size o)
theorem sevF_six {F : Nat} {f0 f1 f2 f3 f4 f5 f6 f7 f8 f9 f10 f11 f12 f13 : Value} {w2 X : World} (l : F < w2.heap.size) (h : SevF F f0 f1 f2 f3 f4 f5 f6 f7 f8 f9 f10 f11 f12 f13 w2 X) {nb : Nat} (hp : w2.heap.size ≤ nb) (v0 v1 v2 v3 v4 v5 : Value) : SevF F f0 f1 f2 f3 f4 f5 f6 f7 f8 f9 f10 f11 f12 f13 w2 ((((((X.setCell ⟨nb, 0, none⟩ v0).setCell ⟨nb, 1, none⟩ v1).setCell ⟨nb, 2, none⟩ v2).setCell ⟨nb, 3, none⟩ v3).setCell ⟨nb, 4, none⟩ v4).setCell ⟨nb, 5, none⟩ v5) :=
  sevF_of l h (bel_set (bel_set (bel_set (bel_set (bel_set (bel_set (SevF.below h) hp v0) hp v1) hp v2) hp v3) hp v4) hp v5)
theorem sevF_realloc {F : Nat} {f0 f1 f2 f3 f4 f5 f6 f7 f8 f9 f10 f11 f12 f13 : Value} {w2 X : World} (l : F < w2.heap.size) {o : Obj} (h : SevF F f0 f1 f2 f3 f4 f5 f6 f7 f8 f9 f10 f11 f12 f13 w2 (X.alloc o)) (hs : w2.heap.size ≤ X.heap.size) (o' : Obj) : SevF F f0 f1 f2 f3 f4 f5 f6 f7 f8 f9 f10 f11 f12 f13 w2 (X.alloc o') := by
  have hb := SevF.below h
  refine sevF_of l h ⟨hb.os, hb.tape, hb.output, by simp; omega, fun k hk => ?_⟩
  rw [← hb.block k hk, heap_old (by omega), heap_old (by omega)]
theorem pcsA_cell (x : List UInt8) (i : Nat) (hi : i < (pcs x).length) (w : World) : (w.alloc (.cells (pcsA x) 9)).cell? ⟨w.heap.size, i, none⟩ = some (.string ⟨((pcs x).getD i []).toArray⟩) := by
  have h : (pcsA x)[i]? = some (.string ⟨((pcs x).getD i []).toArray⟩) := by
    unfold pcsA
    rw [List.getElem?_toArray, List.getElem?_map, List.getD_eq_getElem?_getD, List.getElem?_eq_getElem hi]; rfl
  simp [go_sem, h]
theorem kw_is {x : List UInt8} {k j : Int} (h1 : 1 ≤ k) (h2 : k ≤ 14) (hx : x = word k) (h : KW x j) : j = k := by
  rcases h with ⟨a, b, e⟩ | ⟨_, e⟩
  · have := words_inj j.toNat (by omega) k.toNat (by omega) (by rw [hx] at e; exact e.symm)
    omega
  · exact absurd hx (e k h1 h2)
set_option maxRecDepth 20000 in
set_option maxHeartbeats 8000000 in
theorem opRead_row (x p0 : List UInt8) (ws : List (List UInt8)) (hp : Hid (pcs x = p0 :: ws)) (hl : x.length ≤ 24) (k : Int) (h1 : 1 ≤ k) (h2 : k ≤ 14) (hk : Hid (p0 = word k)) (r s t a b : Int) (ok : Bool) (C : Hid (RowC k ws r s t a b ok))
    (w : World) (hT : Tab w) (hE : Errs w) (hM : Max w) :
    Calls Tryz.prog 54 #[.string ⟨x.toArray⟩] w fun e w' => (((ok && opB k r s t a b) = true → e = .returned (.tuple #[.agg #[.int .i64 k, .int .i64 r, .int .i64 s, .int .i64 t, .int .i64 a, .int .i64 b], .bool true])) ∧ ((ok && opB k r s t a b) = false → e = .returned (.tuple #[.agg #[.int .i64 0, .int .i64 0, .int .i64 0, .int .i64 0, .int .i64 0, .int .i64 0], .bool false]))) ∧ Below w.heap.size w w' := by
  have g0 : ¬ (24 : Int) < (x.length : Int) := by omega
  obtain ⟨L, hL⟩ : ∃ L, L = (pcs x).length := ⟨_, rfl⟩
  have hL' : Hid (L = ws.length + 1) := by rw [hL, hp.out]; rfl
  have hL0 : 0 < L := by rw [hL'.out]; omega
  have hL1 : (0 : Int) < (L : Int) := by omega
  have hs : Hid (∀ W, Max W → Calls Tryz.prog 53 #[.string ⟨x.toArray⟩, .string ⟨#[32]⟩] W fun e w' => e = .returned (.slice (some ⟨W.heap.size, 0, none⟩) L L) ∧ w' = W.alloc (.cells (pcsA x) 9)) := fun W hM => by rw [hL]; exact split_any x (by omega) W hM
  go_enter Tryz.func54, Tryz.ntmps54
  go_wp2_with fail
  have hb0 : Below w.heap.size w (w.alloc (.cells #[.int .i64 0, .int .i64 0, .int .i64 0, .int .i64 0, .int .i64 0, .int .i64 0] 43)) := (Below.refl _ _).alloc (Nat.le_refl _) _
  refine (hs.out _ (hM.below hb0)).mono ?_
  rintro e w1 ⟨rfl, hw1⟩
  have hc1 : ∀ i, i < L → w1.cell? ⟨w.heap.size + 1, i, none⟩ = some (.string ⟨((pcs x).getD i []).toArray⟩) := fun i hi => by
    have := pcsA_cell x i (by omega) (w.alloc (.cells #[.int .i64 0, .int .i64 0, .int .i64 0, .int .i64 0, .int .i64 0, .int .i64 0] 43))
    rw [hw1]; simpa using this
  have hB1 : Below w.heap.size w w1 := by rw [hw1]; exact hb0.alloc (by simp) _
  have hz1 : w1.heap.size = w.heap.size + 2 := by rw [hw1]; simp
  have r0 : w1.cell? ⟨w.heap.size, 0, none⟩ = some (.int .i64 0) := by rw [hw1]; simp [go_sem]
  have y0 : w1.frozen? ⟨w.heap.size, 0, none⟩ = false := by rw [hw1]; simp [go_sem]
  have r1 : w1.cell? ⟨w.heap.size, 1, none⟩ = some (.int .i64 0) := by rw [hw1]; simp [go_sem]
  have y1 : w1.frozen? ⟨w.heap.size, 1, none⟩ = false := by rw [hw1]; simp [go_sem]
  have r2 : w1.cell? ⟨w.heap.size, 2, none⟩ = some (.int .i64 0) := by rw [hw1]; simp [go_sem]
  have y2 : w1.frozen? ⟨w.heap.size, 2, none⟩ = false := by rw [hw1]; simp [go_sem]
  have r3 : w1.cell? ⟨w.heap.size, 3, none⟩ = some (.int .i64 0) := by rw [hw1]; simp [go_sem]
  have y3 : w1.frozen? ⟨w.heap.size, 3, none⟩ = false := by rw [hw1]; simp [go_sem]
  have r4 : w1.cell? ⟨w.heap.size, 4, none⟩ = some (.int .i64 0) := by rw [hw1]; simp [go_sem]
  have y4 : w1.frozen? ⟨w.heap.size, 4, none⟩ = false := by rw [hw1]; simp [go_sem]
  have r5 : w1.cell? ⟨w.heap.size, 5, none⟩ = some (.int .i64 0) := by rw [hw1]; simp [go_sem]
  have y5 : w1.frozen? ⟨w.heap.size, 5, none⟩ = false := by rw [hw1]; simp [go_sem]
  have p00 : w1.cell? ⟨w.heap.size + 1, 0, none⟩ = some (.string ⟨p0.toArray⟩) := by rw [hc1 0 hL0, hp.out]; rfl
  have hh1 : Hid (w1.heap.size = w.heap.size + 2) := hz1
  have hc1' : Hid (∀ i, i < L → w1.cell? ⟨w.heap.size + 1, i, none⟩ = some (.string ⟨((pcs x).getD i []).toArray⟩)) := hc1
  clear hw1 hz1 hc1 hL
  go_wp2_with fail
  refine (kindOfWord_any p0 w1).mono ?_
  rintro e w2 ⟨⟨j, hj, rfl⟩, hb2⟩
  obtain rfl : j = k := kw_is h1 h2 hk.out hj
  have hq1 : w.heap.size + 1 < w1.heap.size := by have := hh1.out; omega
  obtain ⟨hd2, hf2⟩ := bcell hb2
  replace r0 : w2.cell? ⟨w.heap.size, 0, none⟩ = some (.int .i64 0) := by rw [hd2 _ _ (by omega)]; exact r0
  replace y0 : w2.frozen? ⟨w.heap.size, 0, none⟩ = false := by rw [hf2 _ _ (by omega)]; exact y0
  replace r1 : w2.cell? ⟨w.heap.size, 1, none⟩ = some (.int .i64 0) := by rw [hd2 _ _ (by omega)]; exact r1
  replace y1 : w2.frozen? ⟨w.heap.size, 1, none⟩ = false := by rw [hf2 _ _ (by omega)]; exact y1
  replace r2 : w2.cell? ⟨w.heap.size, 2, none⟩ = some (.int .i64 0) := by rw [hd2 _ _ (by omega)]; exact r2
  replace y2 : w2.frozen? ⟨w.heap.size, 2, none⟩ = false := by rw [hf2 _ _ (by omega)]; exact y2
  replace r3 : w2.cell? ⟨w.heap.size, 3, none⟩ = some (.int .i64 0) := by rw [hd2 _ _ (by omega)]; exact r3
  replace y3 : w2.frozen? ⟨w.heap.size, 3, none⟩ = false := by rw [hf2 _ _ (by omega)]; exact y3
  replace r4 : w2.cell? ⟨w.heap.size, 4, none⟩ = some (.int .i64 0) := by rw [hd2 _ _ (by omega)]; exact r4
  replace y4 : w2.frozen? ⟨w.heap.size, 4, none⟩ = false := by rw [hf2 _ _ (by omega)]; exact y4
  replace r5 : w2.cell? ⟨w.heap.size, 5, none⟩ = some (.int .i64 0) := by rw [hd2 _ _ (by omega)]; exact r5
  replace y5 : w2.frozen? ⟨w.heap.size, 5, none⟩ = false := by rw [hf2 _ _ (by omega)]; exact y5
  have hc2 : Hid (∀ i, i < L → w2.cell? ⟨w.heap.size + 1, i, none⟩ = some (.string ⟨((pcs x).getD i []).toArray⟩)) := fun i hi => by rw [hd2 _ _ hq1]; exact hc1'.out i hi
  have hq2 : w.heap.size + 1 < w2.heap.size := by have := hb2.size; omega
  have hB2 : Below w.heap.size w w2 := hB1.trans (hb2.mono (by omega))
  clear hb2 hd2 hf2 hc1' p00 hq1 hh1 hB1 hj
  go_wp2_with fail
  refine (formOf_any j w2 h1 h2).mono ?_
  rintro e w3 ⟨hb3, X, Y, Z, rfl, _⟩
  obtain ⟨f0, f1, f2, f3, f4, f5, f6, f7, f8, f9, f10, f11, f12, f13, hrow, hoc⟩ := row_shape j h1 h2 X Y Z
  have C' := C.out X Y Z
  rw [hrow] at C' ⊢
  obtain ⟨hd3, hf3⟩ := bcell hb3
  replace r0 : w3.cell? ⟨w.heap.size, 0, none⟩ = some (.int .i64 0) := by rw [hd3 _ _ (by omega)]; exact r0
  replace y0 : w3.frozen? ⟨w.heap.size, 0, none⟩ = false := by rw [hf3 _ _ (by omega)]; exact y0
  replace r1 : w3.cell? ⟨w.heap.size, 1, none⟩ = some (.int .i64 0) := by rw [hd3 _ _ (by omega)]; exact r1
  replace y1 : w3.frozen? ⟨w.heap.size, 1, none⟩ = false := by rw [hf3 _ _ (by omega)]; exact y1
  replace r2 : w3.cell? ⟨w.heap.size, 2, none⟩ = some (.int .i64 0) := by rw [hd3 _ _ (by omega)]; exact r2
  replace y2 : w3.frozen? ⟨w.heap.size, 2, none⟩ = false := by rw [hf3 _ _ (by omega)]; exact y2
  replace r3 : w3.cell? ⟨w.heap.size, 3, none⟩ = some (.int .i64 0) := by rw [hd3 _ _ (by omega)]; exact r3
  replace y3 : w3.frozen? ⟨w.heap.size, 3, none⟩ = false := by rw [hf3 _ _ (by omega)]; exact y3
  replace r4 : w3.cell? ⟨w.heap.size, 4, none⟩ = some (.int .i64 0) := by rw [hd3 _ _ (by omega)]; exact r4
  replace y4 : w3.frozen? ⟨w.heap.size, 4, none⟩ = false := by rw [hf3 _ _ (by omega)]; exact y4
  replace r5 : w3.cell? ⟨w.heap.size, 5, none⟩ = some (.int .i64 0) := by rw [hd3 _ _ (by omega)]; exact r5
  replace y5 : w3.frozen? ⟨w.heap.size, 5, none⟩ = false := by rw [hf3 _ _ (by omega)]; exact y5
  have hc3 : Hid (∀ i, i < L → w3.cell? ⟨w.heap.size + 1, i, none⟩ = some (.string ⟨((pcs x).getD i []).toArray⟩)) := fun i hi => by rw [hd3 _ _ hq2]; exact hc2.out i hi
  have hq3 : w.heap.size + 1 < w3.heap.size := by have := hb3.size; omega
  have hB3 : Below w.heap.size w w3 := hB2.trans (hb3.mono (by omega))
  have hC : Hid (∀ (B : Nat) (ao : Option Addr) (w : World), (0 < ws.length → ao = some ⟨B, 1, none⟩) → Tab w → Errs w → B < w.heap.size → (∀ i, i < ws.length → w.cell? ⟨B, i + 1, none⟩ = some (.string ⟨(ws.getD i []).toArray⟩)) →
    Calls Tryz.prog 97 #[.agg #[f0, f1, f2, f3, f4, f5, f6, f7, f8, f9, f10, f11, f12, f13], .agg #[.int .i64 j, .int .i64 0, .int .i64 0, .int .i64 0, .int .i64 0, .int .i64 0], .slice ao ws.length ws.length] w fun e w' =>
      (∃ c0 c1 c2 c3 c4 c5 : Int, e = .returned (.tuple #[.agg #[.int .i64 c0, .int .i64 c1, .int .i64 c2, .int .i64 c3, .int .i64 c4, .int .i64 c5], .bool ok]) ∧ (ok = true → c0 = j ∧ c1 = r ∧ c2 = s ∧ c3 = t ∧ c4 = a ∧ c5 = b)) ∧ Below w.heap.size w w') := C'
  have hoc' : Hid (∀ v ∈ #[f0, f1, f2, f3, f4, f5, f6, f7, f8, f9, f10, f11, f12, f13].toList, v.oneCell' = true) := hoc
  clear hb3 hd3 hf3 hc2 hq2 hB2 C C' hrow hoc
  go_wp2_with (refine wpList_store_row rfl 79 (.tmp 6) (.tmp 22) rfl _ _ rfl rfl 79 _ (heap_new (by simp)) (by kernel_rfl) (by kernel_rfl) (by simpa using hoc'.out) ?_; rw [setRow_new (by simp)])
  obtain ⟨v, hv⟩ : ∃ v, v = w3.alloc (.cells #[f0, f1, f2, f3, f4, f5, f6, f7, f8, f9, f10, f11, f12, f13] 79) := ⟨_, rfl⟩
  rw [← hv]
  have q0 : v.cell? ⟨w3.heap.size, 0, none⟩ = some f0 := by rw [hv]; simp [go_sem]
  have q1 : v.cell? ⟨w3.heap.size, 1, none⟩ = some f1 := by rw [hv]; simp [go_sem]
  have q2 : v.cell? ⟨w3.heap.size, 2, none⟩ = some f2 := by rw [hv]; simp [go_sem]
  have q3 : v.cell? ⟨w3.heap.size, 3, none⟩ = some f3 := by rw [hv]; simp [go_sem]
  have q4 : v.cell? ⟨w3.heap.size, 4, none⟩ = some f4 := by rw [hv]; simp [go_sem]
  have q5 : v.cell? ⟨w3.heap.size, 5, none⟩ = some f5 := by rw [hv]; simp [go_sem]
  have q6 : v.cell? ⟨w3.heap.size, 6, none⟩ = some f6 := by rw [hv]; simp [go_sem]
  have q7 : v.cell? ⟨w3.heap.size, 7, none⟩ = some f7 := by rw [hv]; simp [go_sem]
  have q8 : v.cell? ⟨w3.heap.size, 8, none⟩ = some f8 := by rw [hv]; simp [go_sem]
  have q9 : v.cell? ⟨w3.heap.size, 9, none⟩ = some f9 := by rw [hv]; simp [go_sem]
  have q10 : v.cell? ⟨w3.heap.size, 10, none⟩ = some f10 := by rw [hv]; simp [go_sem]
  have q11 : v.cell? ⟨w3.heap.size, 11, none⟩ = some f11 := by rw [hv]; simp [go_sem]
  have q12 : v.cell? ⟨w3.heap.size, 12, none⟩ = some f12 := by rw [hv]; simp [go_sem]
  have q13 : v.cell? ⟨w3.heap.size, 13, none⟩ = some f13 := by rw [hv]; simp [go_sem]
  have lv : w3.heap.size < v.heap.size := by rw [hv]; simp
  have hbv : Below w3.heap.size w3 v := by rw [hv]; exact (Below.refl _ _).alloc (Nat.le_refl _) _
  have hBv : Below w.heap.size w v := hB3.trans (hbv.mono (by omega))
  have hTv := hT.below hBv
  have hEv := hE.below hBv
  obtain ⟨hdv, hfv⟩ := bcell hbv
  replace r0 : v.cell? ⟨w.heap.size, 0, none⟩ = some (.int .i64 0) := by rw [hdv _ _ (by omega)]; exact r0
  replace y0 : v.frozen? ⟨w.heap.size, 0, none⟩ = false := by rw [hfv _ _ (by omega)]; exact y0
  replace r1 : v.cell? ⟨w.heap.size, 1, none⟩ = some (.int .i64 0) := by rw [hdv _ _ (by omega)]; exact r1
  replace y1 : v.frozen? ⟨w.heap.size, 1, none⟩ = false := by rw [hfv _ _ (by omega)]; exact y1
  replace r2 : v.cell? ⟨w.heap.size, 2, none⟩ = some (.int .i64 0) := by rw [hdv _ _ (by omega)]; exact r2
  replace y2 : v.frozen? ⟨w.heap.size, 2, none⟩ = false := by rw [hfv _ _ (by omega)]; exact y2
  replace r3 : v.cell? ⟨w.heap.size, 3, none⟩ = some (.int .i64 0) := by rw [hdv _ _ (by omega)]; exact r3
  replace y3 : v.frozen? ⟨w.heap.size, 3, none⟩ = false := by rw [hfv _ _ (by omega)]; exact y3
  replace r4 : v.cell? ⟨w.heap.size, 4, none⟩ = some (.int .i64 0) := by rw [hdv _ _ (by omega)]; exact r4
  replace y4 : v.frozen? ⟨w.heap.size, 4, none⟩ = false := by rw [hfv _ _ (by omega)]; exact y4
  replace r5 : v.cell? ⟨w.heap.size, 5, none⟩ = some (.int .i64 0) := by rw [hdv _ _ (by omega)]; exact r5
  replace y5 : v.frozen? ⟨w.heap.size, 5, none⟩ = false := by rw [hfv _ _ (by omega)]; exact y5
  have hcv : Hid (∀ i, i < L → v.cell? ⟨w.heap.size + 1, i, none⟩ = some (.string ⟨((pcs x).getD i []).toArray⟩)) := fun i hi => by rw [hdv _ _ hq3]; exact hc3.out i hi
  clear hv hdv hfv hc3 hbv
  have hS0 : SevF w3.heap.size f0 f1 f2 f3 f4 f5 f6 f7 f8 f9 f10 f11 f12 f13 v v := ⟨q0, q1, q2, q3, q4, q5, q6, q7, q8, q9, q10, q11, q12, q13, Below.refl _ _⟩
  have hLL : 1 ≤ L := by omega
  have hLM : (1 : Int) ≤ (L : Int) := by omega
  have hCL : ∀ X, SevF w3.heap.size f0 f1 f2 f3 f4 f5 f6 f7 f8 f9 f10 f11 f12 f13 v X → Calls Tryz.prog 97 #[.agg #[f0, f1, f2, f3, f4, f5, f6, f7, f8, f9, f10, f11, f12, f13], .agg #[.int .i64 j, .int .i64 0, .int .i64 0, .int .i64 0, .int .i64 0, .int .i64 0], .slice (if L = 1 then some ⟨w.heap.size + 1, 0, none⟩ else some ⟨w.heap.size + 1, 1, none⟩) (L - 1) (L - 1)] X fun e w' =>
      (∃ c0 c1 c2 c3 c4 c5 : Int, e = .returned (.tuple #[.agg #[.int .i64 c0, .int .i64 c1, .int .i64 c2, .int .i64 c3, .int .i64 c4, .int .i64 c5], .bool ok]) ∧ Hid (ok = true → c0 = j ∧ c1 = r ∧ c2 = s ∧ c3 = t ∧ c4 = a ∧ c5 = b)) ∧ Below X.heap.size X w' := fun X hX => by
    have hb := SevF.below hX
    have e : L - 1 = ws.length := by have := hL'.out; omega
    rw [e]
    refine hC.out (w.heap.size + 1) _ X (fun h => if_neg (by omega)) (hTv.below hb) (hEv.below hb) (by have := hb.size; omega) (fun i hi => ?_)
    rw [hb.cell (p := ⟨w.heap.size + 1, i + 1, none⟩) (by dsimp only; omega), hcv.out (i + 1) (by omega), hp.out]; rfl
  clear hC hcv hTv hEv hs hoc'
  go_cut [7, 8] from 27 to 35 (fun s7 s8 wc => (∃ (nb : Nat) (c0 c1 c2 c3 c4 c5 : Int), s8 = .pointer (some ⟨nb, 0, none⟩) ∧ s7 = .bool ok ∧ (ok = true → c0 = j ∧ c1 = r ∧ c2 = s ∧ c3 = t ∧ c4 = a ∧ c5 = b) ∧ wc.cell? ⟨nb, 0, none⟩ = some (.int .i64 c0) ∧ wc.cell? ⟨nb, 1, none⟩ = some (.int .i64 c1) ∧ wc.cell? ⟨nb, 2, none⟩ = some (.int .i64 c2) ∧ wc.cell? ⟨nb, 3, none⟩ = some (.int .i64 c3) ∧ wc.cell? ⟨nb, 4, none⟩ = some (.int .i64 c4) ∧ wc.cell? ⟨nb, 5, none⟩ = some (.int .i64 c5)) ∧ Below v.heap.size v wc)
  case first =>
    by_cases hL2 : L = 1
    · subst hL2
      have hCM : ∀ X, SevF w3.heap.size f0 f1 f2 f3 f4 f5 f6 f7 f8 f9 f10 f11 f12 f13 v X → Calls Tryz.prog 97 #[.agg #[f0, f1, f2, f3, f4, f5, f6, f7, f8, f9, f10, f11, f12, f13], .agg #[.int .i64 j, .int .i64 0, .int .i64 0, .int .i64 0, .int .i64 0, .int .i64 0], .slice (some ⟨w.heap.size + 1, 0, none⟩) (0) (0)] X fun e w' =>
        (∃ c0 c1 c2 c3 c4 c5 : Int, e = .returned (.tuple #[.agg #[.int .i64 c0, .int .i64 c1, .int .i64 c2, .int .i64 c3, .int .i64 c4, .int .i64 c5], .bool ok]) ∧ Hid (ok = true → c0 = j ∧ c1 = r ∧ c2 = s ∧ c3 = t ∧ c4 = a ∧ c5 = b)) ∧ Below X.heap.size X w' := fun X hX => by have h := hCL X hX; rw [if_pos rfl] at h; exact h
      clear hCL
      go_region_held3 (fun w' => w'.cell? ⟨w3.heap.size, 0, none⟩ = some f0 ∧ w'.cell? ⟨w3.heap.size, 1, none⟩ = some f1 ∧ w'.cell? ⟨w3.heap.size, 2, none⟩ = some f2 ∧ w'.cell? ⟨w3.heap.size, 3, none⟩ = some f3 ∧ w'.cell? ⟨w3.heap.size, 4, none⟩ = some f4 ∧ w'.cell? ⟨w3.heap.size, 5, none⟩ = some f5 ∧ w'.cell? ⟨w3.heap.size, 6, none⟩ = some f6 ∧ w'.cell? ⟨w3.heap.size, 7, none⟩ = some f7 ∧ w'.cell? ⟨w3.heap.size, 8, none⟩ = some f8 ∧ w'.cell? ⟨w3.heap.size, 9, none⟩ = some f9 ∧ w'.cell? ⟨w3.heap.size, 10, none⟩ = some f10 ∧ w'.cell? ⟨w3.heap.size, 11, none⟩ = some f11 ∧ w'.cell? ⟨w3.heap.size, 12, none⟩ = some f12 ∧ w'.cell? ⟨w3.heap.size, 13, none⟩ = some f13 ∧ Below v.heap.size v w')
        (first | (with_reducible refine sevF_six lv ?_ (Nat.le_refl _) _ _ _ _ _ _; with_reducible assumption) | with_reducible exact sevF_drew lv (by with_reducible assumption) | with_reducible exact sevF_call lv (by with_reducible assumption) hbx | with_reducible exact sevF_alloc lv (by with_reducible assumption) _ | with_reducible exact sevF_drew lv (sevF_alloc lv hS0 _) | with_reducible exact sevF_realloc lv (by with_reducible assumption) (sz_of hbx) _)
        (first
          | (go_at_call 97; refine (hCM _ (by with_reducible assumption)).mono ?_; rintro e wx ⟨⟨c0, c1, c2, c3, c4, c5, rfl, hcc⟩, hbx⟩; first | (with_reducible refine (fun hnx => ?_) (nx_of hbx); obtain ⟨a0, a1, a2, a3, a4, a5, b0, b1, b2, b3, b4, b5⟩ := hnx) | (with_reducible refine (fun hnx => ?_) (nx_of2 hbx); obtain ⟨a0, a1, a2, a3, a4, a5, b0, b1, b2, b3, b4, b5⟩ := hnx) | skip))
      all_goals go_wp2_with fail
      all_goals go_meet
      all_goals refine ⟨⟨_, c0, c1, c2, c3, c4, c5, rfl, rfl, hcc, ?_, ?_, ?_, ?_, ?_, ?_⟩, ?_⟩
      all_goals first | (simp [go_sem]; done) | (simp [go_sem, a0, a1, a2, a3, a4, a5]; done) | exact SevF.below (by with_reducible assumption)
    · have hCM : ∀ X, SevF w3.heap.size f0 f1 f2 f3 f4 f5 f6 f7 f8 f9 f10 f11 f12 f13 v X → Calls Tryz.prog 97 #[.agg #[f0, f1, f2, f3, f4, f5, f6, f7, f8, f9, f10, f11, f12, f13], .agg #[.int .i64 j, .int .i64 0, .int .i64 0, .int .i64 0, .int .i64 0, .int .i64 0], .slice (some ⟨w.heap.size + 1, 1, none⟩) (L - 1) (L - 1)] X fun e w' =>
        (∃ c0 c1 c2 c3 c4 c5 : Int, e = .returned (.tuple #[.agg #[.int .i64 c0, .int .i64 c1, .int .i64 c2, .int .i64 c3, .int .i64 c4, .int .i64 c5], .bool ok]) ∧ Hid (ok = true → c0 = j ∧ c1 = r ∧ c2 = s ∧ c3 = t ∧ c4 = a ∧ c5 = b)) ∧ Below X.heap.size X w' := fun X hX => by have h := hCL X hX; rw [if_neg hL2] at h; exact h
      clear hCL
      go_region_held3 (fun w' => w'.cell? ⟨w3.heap.size, 0, none⟩ = some f0 ∧ w'.cell? ⟨w3.heap.size, 1, none⟩ = some f1 ∧ w'.cell? ⟨w3.heap.size, 2, none⟩ = some f2 ∧ w'.cell? ⟨w3.heap.size, 3, none⟩ = some f3 ∧ w'.cell? ⟨w3.heap.size, 4, none⟩ = some f4 ∧ w'.cell? ⟨w3.heap.size, 5, none⟩ = some f5 ∧ w'.cell? ⟨w3.heap.size, 6, none⟩ = some f6 ∧ w'.cell? ⟨w3.heap.size, 7, none⟩ = some f7 ∧ w'.cell? ⟨w3.heap.size, 8, none⟩ = some f8 ∧ w'.cell? ⟨w3.heap.size, 9, none⟩ = some f9 ∧ w'.cell? ⟨w3.heap.size, 10, none⟩ = some f10 ∧ w'.cell? ⟨w3.heap.size, 11, none⟩ = some f11 ∧ w'.cell? ⟨w3.heap.size, 12, none⟩ = some f12 ∧ w'.cell? ⟨w3.heap.size, 13, none⟩ = some f13 ∧ Below v.heap.size v w')
        (first | (with_reducible refine sevF_six lv ?_ (Nat.le_refl _) _ _ _ _ _ _; with_reducible assumption) | with_reducible exact sevF_drew lv (by with_reducible assumption) | with_reducible exact sevF_call lv (by with_reducible assumption) hbx | with_reducible exact sevF_alloc lv (by with_reducible assumption) _ | with_reducible exact sevF_drew lv (sevF_alloc lv hS0 _) | with_reducible exact sevF_realloc lv (by with_reducible assumption) (sz_of hbx) _)
        (first
          | (go_at_call 97; refine (hCM _ (by with_reducible assumption)).mono ?_; rintro e wx ⟨⟨c0, c1, c2, c3, c4, c5, rfl, hcc⟩, hbx⟩; first | (with_reducible refine (fun hnx => ?_) (nx_of hbx); obtain ⟨a0, a1, a2, a3, a4, a5, b0, b1, b2, b3, b4, b5⟩ := hnx) | (with_reducible refine (fun hnx => ?_) (nx_of2 hbx); obtain ⟨a0, a1, a2, a3, a4, a5, b0, b1, b2, b3, b4, b5⟩ := hnx) | skip))
      all_goals go_wp2_with fail
      all_goals go_meet
      all_goals refine ⟨⟨_, c0, c1, c2, c3, c4, c5, rfl, rfl, hcc, ?_, ?_, ?_, ?_, ?_, ?_⟩, ?_⟩
      all_goals first | (simp [go_sem]; done) | (simp [go_sem, a0, a1, a2, a3, a4, a5]; done) | exact SevF.below (by with_reducible assumption)
  case rest =>
    obtain ⟨⟨nb, c0, c1, c2, c3, c4, c5, rfl, rfl, hcc, n0, n1, n2, n3, n4, n5⟩, hbc⟩ := hcut
    obtain ⟨hdc, hfc⟩ := bcell hbc
    replace r0 : wc.cell? ⟨w.heap.size, 0, none⟩ = some (.int .i64 0) := by rw [hdc _ _ (by omega)]; exact r0
    replace y0 : wc.frozen? ⟨w.heap.size, 0, none⟩ = false := by rw [hfc _ _ (by omega)]; exact y0
    replace r1 : wc.cell? ⟨w.heap.size, 1, none⟩ = some (.int .i64 0) := by rw [hdc _ _ (by omega)]; exact r1
    replace y1 : wc.frozen? ⟨w.heap.size, 1, none⟩ = false := by rw [hfc _ _ (by omega)]; exact y1
    replace r2 : wc.cell? ⟨w.heap.size, 2, none⟩ = some (.int .i64 0) := by rw [hdc _ _ (by omega)]; exact r2
    replace y2 : wc.frozen? ⟨w.heap.size, 2, none⟩ = false := by rw [hfc _ _ (by omega)]; exact y2
    replace r3 : wc.cell? ⟨w.heap.size, 3, none⟩ = some (.int .i64 0) := by rw [hdc _ _ (by omega)]; exact r3
    replace y3 : wc.frozen? ⟨w.heap.size, 3, none⟩ = false := by rw [hfc _ _ (by omega)]; exact y3
    replace r4 : wc.cell? ⟨w.heap.size, 4, none⟩ = some (.int .i64 0) := by rw [hdc _ _ (by omega)]; exact r4
    replace y4 : wc.frozen? ⟨w.heap.size, 4, none⟩ = false := by rw [hfc _ _ (by omega)]; exact y4
    replace r5 : wc.cell? ⟨w.heap.size, 5, none⟩ = some (.int .i64 0) := by rw [hdc _ _ (by omega)]; exact r5
    replace y5 : wc.frozen? ⟨w.heap.size, 5, none⟩ = false := by rw [hfc _ _ (by omega)]; exact y5
    have hBc : Below w.heap.size w wc := hBv.trans (hbc.mono (by omega))
    have lwc : w.heap.size < wc.heap.size := by have := hbc.size; omega
    clear hdc hfc hCL hS0 q0 q1 q2 q3 q4 q5 q6 q7 q8 q9 q10 q11 q12 q13 hBv hbc
    cases ok with
    | false =>
      go_wp2_with fail
      refine bodyPost_ret (v := .tuple #[.agg #[.int .i64 0, .int .i64 0, .int .i64 0, .int .i64 0, .int .i64 0, .int .i64 0], .bool false]) (by simp [results, Tryz.results54, go_sem, *]) rfl ⟨⟨fun h => by simp at h, fun _ => rfl⟩, six_set hBc _ _ _ _ _ _⟩
    | true =>
      obtain ⟨rfl, rfl, rfl, rfl, rfl, rfl⟩ := hcc rfl
      go_wp2_with fail
      refine (implOpOk_any _ _ _ _ _ _ _).mono ?_
      rintro e w4 ⟨rfl, hb4⟩
      have lnb : nb < wc.heap.size := World.block_lt_of_cell? _ _ n0
      obtain ⟨hd4, hf4⟩ := bcell hb4
      replace r0 : w4.cell? ⟨w.heap.size, 0, none⟩ = some (.int .i64 0) := by rw [hd4 _ _ lwc]; exact r0
      replace y0 : w4.frozen? ⟨w.heap.size, 0, none⟩ = false := by rw [hf4 _ _ lwc]; exact y0
      replace n0 : w4.cell? ⟨nb, 0, none⟩ = some (.int .i64 c0) := by rw [hd4 _ _ lnb]; exact n0
      replace r1 : w4.cell? ⟨w.heap.size, 1, none⟩ = some (.int .i64 0) := by rw [hd4 _ _ lwc]; exact r1
      replace y1 : w4.frozen? ⟨w.heap.size, 1, none⟩ = false := by rw [hf4 _ _ lwc]; exact y1
      replace n1 : w4.cell? ⟨nb, 1, none⟩ = some (.int .i64 c1) := by rw [hd4 _ _ lnb]; exact n1
      replace r2 : w4.cell? ⟨w.heap.size, 2, none⟩ = some (.int .i64 0) := by rw [hd4 _ _ lwc]; exact r2
      replace y2 : w4.frozen? ⟨w.heap.size, 2, none⟩ = false := by rw [hf4 _ _ lwc]; exact y2
      replace n2 : w4.cell? ⟨nb, 2, none⟩ = some (.int .i64 c2) := by rw [hd4 _ _ lnb]; exact n2
      replace r3 : w4.cell? ⟨w.heap.size, 3, none⟩ = some (.int .i64 0) := by rw [hd4 _ _ lwc]; exact r3
      replace y3 : w4.frozen? ⟨w.heap.size, 3, none⟩ = false := by rw [hf4 _ _ lwc]; exact y3
      replace n3 : w4.cell? ⟨nb, 3, none⟩ = some (.int .i64 c3) := by rw [hd4 _ _ lnb]; exact n3
      replace r4 : w4.cell? ⟨w.heap.size, 4, none⟩ = some (.int .i64 0) := by rw [hd4 _ _ lwc]; exact r4
      replace y4 : w4.frozen? ⟨w.heap.size, 4, none⟩ = false := by rw [hf4 _ _ lwc]; exact y4
      replace n4 : w4.cell? ⟨nb, 4, none⟩ = some (.int .i64 c4) := by rw [hd4 _ _ lnb]; exact n4
      replace r5 : w4.cell? ⟨w.heap.size, 5, none⟩ = some (.int .i64 0) := by rw [hd4 _ _ lwc]; exact r5
      replace y5 : w4.frozen? ⟨w.heap.size, 5, none⟩ = false := by rw [hf4 _ _ lwc]; exact y5
      replace n5 : w4.cell? ⟨nb, 5, none⟩ = some (.int .i64 c5) := by rw [hd4 _ _ lnb]; exact n5
      have hB4 : Below w.heap.size w w4 := hBc.trans (hb4.mono (by omega))
      clear hd4 hf4 hb4 hBc
      cases hg : opB c0 c1 c2 c3 c4 c5 with
      | true =>
        go_wp2_with fail
        refine bodyPost_ret (v := .tuple #[.agg #[.int .i64 c0, .int .i64 c1, .int .i64 c2, .int .i64 c3, .int .i64 c4, .int .i64 c5], .bool true]) (by simp [results, Tryz.results54, go_sem, *]) rfl ⟨⟨fun _ => rfl, fun h => by simp [hg] at h⟩, six_set hB4 _ _ _ _ _ _⟩
      | false =>
        go_wp2_with fail
        refine bodyPost_ret (v := .tuple #[.agg #[.int .i64 0, .int .i64 0, .int .i64 0, .int .i64 0, .int .i64 0, .int .i64 0], .bool false]) (by simp [results, Tryz.results54, go_sem, *]) rfl ⟨⟨fun h => by simp [hg] at h, fun _ => rfl⟩, six_set hB4 _ _ _ _ _ _⟩
set_option maxRecDepth 20000 in
set_option maxHeartbeats 4000000 in
theorem opRead_long (x : List UInt8) (hl : 24 < x.length) (w : World) :
    Calls Tryz.prog 54 #[.string ⟨x.toArray⟩] w fun e w' => e = .returned (.tuple #[.agg #[.int .i64 0, .int .i64 0, .int .i64 0, .int .i64 0, .int .i64 0, .int .i64 0], .bool false]) ∧ Below w.heap.size w w' := by
  have g0 : (24 : Int) < (x.length : Int) := by omega
  go_enter Tryz.func54, Tryz.ntmps54
  go_wp2_with fail
  refine bodyPost_ret (v := .tuple #[.agg #[.int .i64 0, .int .i64 0, .int .i64 0, .int .i64 0, .int .i64 0, .int .i64 0], .bool false]) (by simp [results, Tryz.results54, go_sem, *]) rfl ⟨rfl, (Below.refl _ _).alloc (Nat.le_refl _) _⟩
set_option maxRecDepth 20000 in
set_option maxHeartbeats 4000000 in
theorem opRead_none (x p0 : List UInt8) (ws : List (List UInt8)) (hp : Hid (pcs x = p0 :: ws)) (hl : x.length ≤ 24) (hk : Hid (∀ j, 1 ≤ j → j ≤ 14 → p0 ≠ word j)) (w : World) (hM : Max w) :
    Calls Tryz.prog 54 #[.string ⟨x.toArray⟩] w fun e w' => e = .returned (.tuple #[.agg #[.int .i64 0, .int .i64 0, .int .i64 0, .int .i64 0, .int .i64 0, .int .i64 0], .bool false]) ∧ Below w.heap.size w w' := by
  have g0 : ¬ (24 : Int) < (x.length : Int) := by omega
  obtain ⟨L, hL⟩ : ∃ L, L = (pcs x).length := ⟨_, rfl⟩
  have hL' : Hid (L = ws.length + 1) := by rw [hL, hp.out]; rfl
  have hL0 : 0 < L := by rw [hL'.out]; omega
  have hL1 : (0 : Int) < (L : Int) := by omega
  have hs : Hid (∀ W, Max W → Calls Tryz.prog 53 #[.string ⟨x.toArray⟩, .string ⟨#[32]⟩] W fun e w' => e = .returned (.slice (some ⟨W.heap.size, 0, none⟩) L L) ∧ w' = W.alloc (.cells (pcsA x) 9)) := fun W hM => by rw [hL]; exact split_any x (by omega) W hM
  go_enter Tryz.func54, Tryz.ntmps54
  go_wp2_with fail
  have hb0 : Below w.heap.size w (w.alloc (.cells #[.int .i64 0, .int .i64 0, .int .i64 0, .int .i64 0, .int .i64 0, .int .i64 0] 43)) := (Below.refl _ _).alloc (Nat.le_refl _) _
  refine (hs.out _ (hM.below hb0)).mono ?_
  rintro e w1 ⟨rfl, hw1⟩
  have p00 : w1.cell? ⟨w.heap.size + 1, 0, none⟩ = some (.string ⟨p0.toArray⟩) := by
    have h := pcsA_cell x 0 (by omega) (w.alloc (.cells #[.int .i64 0, .int .i64 0, .int .i64 0, .int .i64 0, .int .i64 0, .int .i64 0] 43))
    rw [hp.out] at h
    rw [hw1]; simpa using h
  have hB1 : Below w.heap.size w w1 := by rw [hw1]; exact hb0.alloc (by simp) _
  have hz1 : w.heap.size + 1 < w1.heap.size := by rw [hw1]; simp
  have r0 : w1.cell? ⟨w.heap.size, 0, none⟩ = some (.int .i64 0) := by rw [hw1]; simp [go_sem]
  have y0 : w1.frozen? ⟨w.heap.size, 0, none⟩ = false := by rw [hw1]; simp [go_sem]
  have r1 : w1.cell? ⟨w.heap.size, 1, none⟩ = some (.int .i64 0) := by rw [hw1]; simp [go_sem]
  have y1 : w1.frozen? ⟨w.heap.size, 1, none⟩ = false := by rw [hw1]; simp [go_sem]
  have r2 : w1.cell? ⟨w.heap.size, 2, none⟩ = some (.int .i64 0) := by rw [hw1]; simp [go_sem]
  have y2 : w1.frozen? ⟨w.heap.size, 2, none⟩ = false := by rw [hw1]; simp [go_sem]
  have r3 : w1.cell? ⟨w.heap.size, 3, none⟩ = some (.int .i64 0) := by rw [hw1]; simp [go_sem]
  have y3 : w1.frozen? ⟨w.heap.size, 3, none⟩ = false := by rw [hw1]; simp [go_sem]
  have r4 : w1.cell? ⟨w.heap.size, 4, none⟩ = some (.int .i64 0) := by rw [hw1]; simp [go_sem]
  have y4 : w1.frozen? ⟨w.heap.size, 4, none⟩ = false := by rw [hw1]; simp [go_sem]
  have r5 : w1.cell? ⟨w.heap.size, 5, none⟩ = some (.int .i64 0) := by rw [hw1]; simp [go_sem]
  have y5 : w1.frozen? ⟨w.heap.size, 5, none⟩ = false := by rw [hw1]; simp [go_sem]
  clear hw1 hL hs
  go_wp2_with fail
  refine (kindOfWord_any p0 w1).mono ?_
  rintro e w2 ⟨⟨j, hj, rfl⟩, hb2⟩
  obtain rfl : j = 0 := by
    rcases hj with ⟨a, b, e⟩ | ⟨e, _⟩
    · exact absurd e (hk.out j a b)
    · exact e
  obtain ⟨hd2, hf2⟩ := bcell hb2
  replace r0 : w2.cell? ⟨w.heap.size, 0, none⟩ = some (.int .i64 0) := by rw [hd2 _ _ (by omega)]; exact r0
  replace y0 : w2.frozen? ⟨w.heap.size, 0, none⟩ = false := by rw [hf2 _ _ (by omega)]; exact y0
  replace r1 : w2.cell? ⟨w.heap.size, 1, none⟩ = some (.int .i64 0) := by rw [hd2 _ _ (by omega)]; exact r1
  replace y1 : w2.frozen? ⟨w.heap.size, 1, none⟩ = false := by rw [hf2 _ _ (by omega)]; exact y1
  replace r2 : w2.cell? ⟨w.heap.size, 2, none⟩ = some (.int .i64 0) := by rw [hd2 _ _ (by omega)]; exact r2
  replace y2 : w2.frozen? ⟨w.heap.size, 2, none⟩ = false := by rw [hf2 _ _ (by omega)]; exact y2
  replace r3 : w2.cell? ⟨w.heap.size, 3, none⟩ = some (.int .i64 0) := by rw [hd2 _ _ (by omega)]; exact r3
  replace y3 : w2.frozen? ⟨w.heap.size, 3, none⟩ = false := by rw [hf2 _ _ (by omega)]; exact y3
  replace r4 : w2.cell? ⟨w.heap.size, 4, none⟩ = some (.int .i64 0) := by rw [hd2 _ _ (by omega)]; exact r4
  replace y4 : w2.frozen? ⟨w.heap.size, 4, none⟩ = false := by rw [hf2 _ _ (by omega)]; exact y4
  replace r5 : w2.cell? ⟨w.heap.size, 5, none⟩ = some (.int .i64 0) := by rw [hd2 _ _ (by omega)]; exact r5
  replace y5 : w2.frozen? ⟨w.heap.size, 5, none⟩ = false := by rw [hf2 _ _ (by omega)]; exact y5
  have hq2 : w.heap.size + 1 < w2.heap.size := by have := hb2.size; omega
  have hB2 : Below w.heap.size w w2 := hB1.trans (hb2.mono (by omega))
  clear hb2 hd2 hf2 p00 hz1 hB1 hj
  go_wp2_with fail
  refine (formOf_none 0 w2 (by omega)).mono ?_
  rintro e w3 ⟨rfl, hb3⟩
  have hLe : L0.toArray = #[.string ⟨#[]⟩, .nilFunc, .nilFunc, .nilFunc, .nilFunc, .nilFunc, .nilFunc, .nilFunc, .nilFunc, .nilFunc, .nilFunc, .nilFunc, .nilFunc, .slice none 0 0] := rfl
  rw [hLe]
  clear hLe
  obtain ⟨hd3, hf3⟩ := bcell hb3
  replace r0 : w3.cell? ⟨w.heap.size, 0, none⟩ = some (.int .i64 0) := by rw [hd3 _ _ (by omega)]; exact r0
  replace y0 : w3.frozen? ⟨w.heap.size, 0, none⟩ = false := by rw [hf3 _ _ (by omega)]; exact y0
  replace r1 : w3.cell? ⟨w.heap.size, 1, none⟩ = some (.int .i64 0) := by rw [hd3 _ _ (by omega)]; exact r1
  replace y1 : w3.frozen? ⟨w.heap.size, 1, none⟩ = false := by rw [hf3 _ _ (by omega)]; exact y1
  replace r2 : w3.cell? ⟨w.heap.size, 2, none⟩ = some (.int .i64 0) := by rw [hd3 _ _ (by omega)]; exact r2
  replace y2 : w3.frozen? ⟨w.heap.size, 2, none⟩ = false := by rw [hf3 _ _ (by omega)]; exact y2
  replace r3 : w3.cell? ⟨w.heap.size, 3, none⟩ = some (.int .i64 0) := by rw [hd3 _ _ (by omega)]; exact r3
  replace y3 : w3.frozen? ⟨w.heap.size, 3, none⟩ = false := by rw [hf3 _ _ (by omega)]; exact y3
  replace r4 : w3.cell? ⟨w.heap.size, 4, none⟩ = some (.int .i64 0) := by rw [hd3 _ _ (by omega)]; exact r4
  replace y4 : w3.frozen? ⟨w.heap.size, 4, none⟩ = false := by rw [hf3 _ _ (by omega)]; exact y4
  replace r5 : w3.cell? ⟨w.heap.size, 5, none⟩ = some (.int .i64 0) := by rw [hd3 _ _ (by omega)]; exact r5
  replace y5 : w3.frozen? ⟨w.heap.size, 5, none⟩ = false := by rw [hf3 _ _ (by omega)]; exact y5
  have hq3 : w.heap.size < w3.heap.size := by have := hb3.size; omega
  have hB3 : Below w.heap.size w w3 := hB2.trans (hb3.mono (by omega))
  clear hb3 hd3 hf3 hB2 hq2
  go_wp2_with (refine wpList_store_row rfl 79 (.tmp 6) (.tmp 22) rfl _ _ rfl rfl 79 _ (heap_new (by simp)) (by kernel_rfl) (by kernel_rfl) (by simp [Value.oneCell']) ?_; rw [setRow_new (by simp)])
  refine bodyPost_ret (v := .tuple #[.agg #[.int .i64 0, .int .i64 0, .int .i64 0, .int .i64 0, .int .i64 0, .int .i64 0], .bool false]) (by simp [results, Tryz.results54, go_sem, *]) rfl ⟨rfl, (six_set hB3 _ _ _ _ _ _).alloc (by simp [World.setCell]; omega) _⟩
/-- the ok step whose text it is, and true; else nothing and false -/
theorem implOpRead_any (x : List UInt8) : ∃ k r s t a b ok, ReadIs x k r s t a b ok ∧ ∀ w, Tab w → Errs w → Max w →
    Calls Tryz.prog 54 #[.string ⟨x.toArray⟩] w fun e w' => e = .returned (.tuple #[.agg #[.int .i64 k, .int .i64 r, .int .i64 s, .int .i64 t, .int .i64 a, .int .i64 b], .bool ok]) ∧ Below w.heap.size w w' := by
  have no : ∀ h : (∀ k r s t a b, opB k r s t a b = true → x ≠ opTxt k r s t a b), ReadIs x 0 0 0 0 0 0 false := fun h => .inr ⟨rfl, by simp, h⟩
  rcases Decidable.em (24 < x.length) with hl | hl
  · exact ⟨0, 0, 0, 0, 0, 0, false, no (fun k r s t a b ho e => by have := opTxt_len ho; rw [← e] at this; omega), fun w _ _ _ => opRead_long x hl w⟩
  obtain ⟨p0, ws, hp⟩ := pcs_cons x
  rcases Classical.em (∃ k, 1 ≤ k ∧ k ≤ 14 ∧ p0 = word k) with hk | hk
  rotate_left
  · exact ⟨0, 0, 0, 0, 0, 0, false, no (fun k r s t a b ho e => hk ⟨k, (opIs_of ho).k1, (opIs_of ho).k2, word_of hp ho e⟩), fun w _ _ hM => opRead_none x p0 ws hp (by omega) (fun j a b e => hk ⟨j, a, b, e⟩) w hM⟩
  obtain ⟨k, h1, h2, hk⟩ := hk
  obtain ⟨r, s, t, a, b, ok, hr, C⟩ := readRow_any k h1 h2 ws (fun y hy => by have := (pcs_len x).2 y (by rw [hp]; exact List.mem_cons_of_mem _ hy); omega)
  have W := fun w hT hE hM => opRead_row x p0 ws hp (by omega) k h1 h2 hk r s t a b ok C w hT hE hM
  have hseg : ∀ k' r' s' t' a' b', opB k' r' s' t' a' b' = true → x = opTxt k' r' s' t' a' b' → k' = k ∧ Segs k ws r' s' t' a' b' := fun k' r' s' t' a' b' ho e => by
    have o := opIs_of ho
    have hw := word_of hp ho e
    have hkk : k' = k := kw_is h1 h2 hk (.inl ⟨o.k1, o.k2, hw⟩)
    subst hkk
    rw [e, pcs_op ho] at hp
    injection hp with _ h4
    exact ⟨rfl, ⟨h4.symm, by have := o.r1; omega, by have := o.r2; omega, by have := o.s1; omega, by have := o.s2; omega, by have := o.t1; omega, by have := o.t2; omega, o.v, o.rN, o.sN, o.tN, o.vN⟩⟩
  cases hg : (ok && opB k r s t a b) with
  | true =>
    rw [hg] at W
    rw [Bool.and_eq_true] at hg
    refine ⟨k, r, s, t, a, b, true, .inl ⟨rfl, hg.2, ?_⟩, fun w hT hE hM => (W w hT hE hM).mono fun e w' h => ⟨h.1.1 rfl, h.2⟩⟩
    rcases hr with ⟨_, e, _⟩ | ⟨e, _⟩
    · rw [← join_pcs x, hp, hk, e, ← pcs_op hg.2, join_pcs]
    · rw [e] at hg; simp at hg
  | false =>
    rw [hg] at W
    refine ⟨0, 0, 0, 0, 0, 0, false, no (fun k' r' s' t' a' b' ho e => ?_), fun w hT hE hM => (W w hT hE hM).mono fun e w' h => ⟨h.1.2 rfl, h.2⟩⟩
    obtain ⟨rfl, S⟩ := hseg _ _ _ _ _ _ ho e
    rcases hr with ⟨h3, _, u⟩ | ⟨_, u⟩
    · obtain ⟨rfl, rfl, rfl, rfl, rfl⟩ := u _ _ _ _ _ S
      rw [h3, ho] at hg; simp at hg
    · exact u _ _ _ _ _ S
end Go.Proofs.YtekmjgkjpdhedaaGreatDoor
