/-
  What spec.OpText answers over this translation: a step's text, for every step; nothing that was there turns.
-/
import Derived.Test.YtekmjgkjpdhedaaGreatDoorOpSpec
import Derived.Test.YtekmjgkjpdhedaaGreatDoorOpText
import Derived.Test.YtekmjgkjpdhedaaGreatDoorSpecText
import Derived.Laws.Tables
namespace Go.Proofs.YtekmjgkjpdhedaaGreatDoor
open Go.ChangeShapes Go.WideShapes Go.ChangeAt Go.RowKit Go.Joins
/-- the words, in memory -/
def namesA : Array Value := #[.string ⟨#[]⟩, .string ⟨#[115, 101, 116]⟩, .string ⟨#[109, 111, 118, 101]⟩, .string ⟨#[97, 100, 100]⟩, .string ⟨#[115, 101, 108, 102]⟩, .string ⟨#[98, 101, 103, 105, 110]⟩, .string ⟨#[115, 101, 110, 100]⟩, .string ⟨#[116, 97, 107, 101]⟩, .string ⟨#[97, 102, 116, 101, 114]⟩, .string ⟨#[103, 111]⟩, .string ⟨#[105, 102]⟩, .string ⟨#[108, 105, 110, 107]⟩, .string ⟨#[119, 97, 116, 99, 104]⟩, .string ⟨#[116, 114, 97, 112]⟩, .string ⟨#[101, 110, 100]⟩]
set_option maxHeartbeats 1000000 in
theorem names_lit (w : World) : Calls Tryz.prog 49 #[] w fun e w' => e = .returned (.slice (some ⟨w.heap.size, 0, none⟩) 15 15) ∧ w' = w.alloc (.cells #[.string ⟨#[]⟩, .string ⟨#[115, 101, 116]⟩, .string ⟨#[109, 111, 118, 101]⟩, .string ⟨#[97, 100, 100]⟩, .string ⟨#[115, 101, 108, 102]⟩, .string ⟨#[98, 101, 103, 105, 110]⟩, .string ⟨#[115, 101, 110, 100]⟩, .string ⟨#[116, 97, 107, 101]⟩, .string ⟨#[97, 102, 116, 101, 114]⟩, .string ⟨#[103, 111]⟩, .string ⟨#[105, 102]⟩, .string ⟨#[108, 105, 110, 107]⟩, .string ⟨#[119, 97, 116, 99, 104]⟩, .string ⟨#[116, 114, 97, 112]⟩, .string ⟨#[101, 110, 100]⟩] 9) := by
  go_enter Tryz.func49, Tryz.ntmps49
  go_wp2_with fail
  go_ret
  exact ⟨rfl, rfl⟩
theorem names_any (w : World) : Calls Tryz.prog 49 #[] w fun e w' => e = .returned (.slice (some ⟨w.heap.size, 0, none⟩) 15 15) ∧ w' = w.alloc (.cells namesA 9) := names_lit w
theorem namesA_at : ∀ n : Nat, n < 15 → namesA[n]? = some (.string ⟨(wordL.getD n []).toArray⟩)
  | 0, _ => rfl
  | 1, _ => rfl
  | 2, _ => rfl
  | 3, _ => rfl
  | 4, _ => rfl
  | 5, _ => rfl
  | 6, _ => rfl
  | 7, _ => rfl
  | 8, _ => rfl
  | 9, _ => rfl
  | 10, _ => rfl
  | 11, _ => rfl
  | 12, _ => rfl
  | 13, _ => rfl
  | 14, _ => rfl
  | n + 15, h => absurd h (by omega)
theorem heap_new {w : World} {o : Obj} {n : Nat} (h : n = w.heap.size) : (w.alloc o).heap[n]? = some o := h ▸ heap_alloc_new w o
theorem forms8 : ∀ n : Nat, n < 15 → 1 ≤ n → (fR (n : Int) = true ∧ fS (n : Int) = false ∧ fT (n : Int) = false ∧ fV (n : Int) = true) ∨ (fR (n : Int) = true ∧ fS (n : Int) = true ∧ fT (n : Int) = false ∧ fV (n : Int) = false) ∨ (fR (n : Int) = true ∧ fS (n : Int) = false ∧ fT (n : Int) = false ∧ fV (n : Int) = false) ∨ (fR (n : Int) = true ∧ fS (n : Int) = false ∧ fT (n : Int) = true ∧ fV (n : Int) = false) ∨ (fR (n : Int) = true ∧ fS (n : Int) = true ∧ fT (n : Int) = true ∧ fV (n : Int) = true) ∨ (fR (n : Int) = false ∧ fS (n : Int) = false ∧ fT (n : Int) = true ∧ fV (n : Int) = false) ∨ (fR (n : Int) = true ∧ fS (n : Int) = false ∧ fT (n : Int) = true ∧ fV (n : Int) = true) ∨ (fR (n : Int) = false ∧ fS (n : Int) = false ∧ fT (n : Int) = false ∧ fV (n : Int) = true)
  | 1, _, _ => by decide
  | 2, _, _ => by decide
  | 3, _, _ => by decide
  | 4, _, _ => by decide
  | 5, _, _ => by decide
  | 6, _, _ => by decide
  | 7, _, _ => by decide
  | 8, _, _ => by decide
  | 9, _, _ => by decide
  | 10, _, _ => by decide
  | 11, _, _ => by decide
  | 12, _, _ => by decide
  | 13, _, _ => by decide
  | 14, _, _ => by decide
  | 0, _, h => absurd h (by decide)
  | n + 15, h, _ => absurd h (by omega)
theorem cat2 (a x : List UInt8) : ((⟨a.toArray⟩ : ByteArray) ++ (⟨#[32]⟩ : ByteArray)) ++ ⟨x.toArray⟩ = ⟨(a ++ 32 :: x).toArray⟩ := by
  rw [show (⟨#[32]⟩ : ByteArray) = ⟨[(32 : UInt8)].toArray⟩ from rfl, cat, cat]; simp
theorem specOpText_bad (k r s t a b : Int) (h : opB k r s t a b = false) (w : World) :
    Calls Tryz.prog 27 #[.agg #[.int .i64 k, .int .i64 r, .int .i64 s, .int .i64 t, .int .i64 a, .int .i64 b]] w fun e w' => e = .returned (.string ⟨(opTxt k r s t a b).toArray⟩) ∧ Below w.heap.size w w' := by
  rw [opTxt_bad h]
  go_enter Tryz.func27, Tryz.ntmps27
  go_wp2_with fail
  refine (specOpOk_any _ _ _ _ _ _ _).mono ?_
  rintro e w1 ⟨rfl, hb1⟩
  rw [h]
  go_wp2_with fail
  go_ret
  exact ⟨rfl, ((Below.refl _ _).alloc (Nat.le_refl _) _).trans (hb1.mono (by simp))⟩
set_option maxRecDepth 20000 in
set_option maxHeartbeats 8000000 in
theorem specOpText_ok (k r s t a b : Int) (h : opB k r s t a b = true) (w : World) :
    Calls Tryz.prog 27 #[.agg #[.int .i64 k, .int .i64 r, .int .i64 s, .int .i64 t, .int .i64 a, .int .i64 b]] w fun e w' => e = .returned (.string ⟨(opTxt k r s t a b).toArray⟩) ∧ Below w.heap.size w w' := by
  rw [opTxt_ok h]
  have o := opIs_of h
  obtain ⟨n, rfl⟩ : ∃ n : Nat, k = (n : Int) := ⟨k.toNat, by have := o.k1; omega⟩
  have hn1 : 1 ≤ n := by have := o.k1; omega
  have hn2 : n ≤ 14 := by have := o.k2; omega
  have hn3 : (n : Int) < 15 := by omega
  have hlw := words_len n (by omega)
  have lw : (word (n : Int)).length ≤ 5 := by unfold word; simpa using hlw
  clear hlw
  go_enter Tryz.func27, Tryz.ntmps27
  go_wp2_with fail
  refine (specOpOk_any _ _ _ _ _ _ _).mono ?_
  rintro e w1 ⟨rfl, hb1⟩
  rw [h]
  obtain ⟨hc1, _⟩ := bcell hb1
  have hz1 := hb1.size
  simp at hz1
  have d0 : w1.cell? ⟨w.heap.size, 0, none⟩ = some (.int .i64 (n : Int)) := by rw [hc1 _ _ (by simp)]; simp [go_sem]
  have d1 : w1.cell? ⟨w.heap.size, 1, none⟩ = some (.int .i64 r) := by rw [hc1 _ _ (by simp)]; simp [go_sem]
  have d2 : w1.cell? ⟨w.heap.size, 2, none⟩ = some (.int .i64 s) := by rw [hc1 _ _ (by simp)]; simp [go_sem]
  have d3 : w1.cell? ⟨w.heap.size, 3, none⟩ = some (.int .i64 t) := by rw [hc1 _ _ (by simp)]; simp [go_sem]
  have d4 : w1.cell? ⟨w.heap.size, 4, none⟩ = some (.int .i64 a) := by rw [hc1 _ _ (by simp)]; simp [go_sem]
  have d5 : w1.cell? ⟨w.heap.size, 5, none⟩ = some (.int .i64 b) := by rw [hc1 _ _ (by simp)]; simp [go_sem]
  have l0 : w.heap.size < w1.heap.size := by omega
  have l1 : w.heap.size < w1.heap.size + 1 := by omega
  have hB1 : Below w.heap.size w w1 := ((Below.refl _ _).alloc (Nat.le_refl _) _).trans (hb1.mono (by simp))
  clear hc1 hb1
  go_wp2_with fail
  refine (form_any (n : Int) _ (by omega) (by omega)).mono ?_
  rintro e w1' ⟨rfl, rfl⟩
  go_wp2_with fail
  obtain ⟨w2, hw2⟩ : ∃ x, x = w1.alloc (formO (n : Int)) := ⟨_, rfl⟩
  rw [← hw2]
  have e0 : w2.cell? ⟨w.heap.size, 0, none⟩ = some (.int .i64 (n : Int)) := by rw [hw2]; simp [go_sem, d0, l0]
  have e1 : w2.cell? ⟨w.heap.size, 1, none⟩ = some (.int .i64 r) := by rw [hw2]; simp [go_sem, d1, l0]
  have e2 : w2.cell? ⟨w.heap.size, 2, none⟩ = some (.int .i64 s) := by rw [hw2]; simp [go_sem, d2, l0]
  have e3 : w2.cell? ⟨w.heap.size, 3, none⟩ = some (.int .i64 t) := by rw [hw2]; simp [go_sem, d3, l0]
  have e4 : w2.cell? ⟨w.heap.size, 4, none⟩ = some (.int .i64 a) := by rw [hw2]; simp [go_sem, d4, l0]
  have e5 : w2.cell? ⟨w.heap.size, 5, none⟩ = some (.int .i64 b) := by rw [hw2]; simp [go_sem, d5, l0]
  have f0 : w2.cell? ⟨w1.heap.size, 0, none⟩ = some (.bool (fR (n : Int))) := by rw [hw2]; simp [go_sem, formO]
  have f1 : w2.cell? ⟨w1.heap.size, 1, none⟩ = some (.bool (fS (n : Int))) := by rw [hw2]; simp [go_sem, formO]
  have f2 : w2.cell? ⟨w1.heap.size, 2, none⟩ = some (.bool (fT (n : Int))) := by rw [hw2]; simp [go_sem, formO]
  have f3 : w2.cell? ⟨w1.heap.size, 3, none⟩ = some (.bool (fV (n : Int))) := by rw [hw2]; simp [go_sem, formO]
  have hz2 : w1.heap.size < w2.heap.size := by rw [hw2]; simp
  have m0 : w.heap.size < w2.heap.size := by omega
  have hB2 : Below w.heap.size w w2 := by rw [hw2]; exact hB1.alloc (by omega) _
  clear hw2 l0 l1 d0 d1 d2 d3 d4 d5
  have hcell : ∀ Y : World, Y.heap.size = w2.heap.size → (Y.alloc (.cells namesA 9)).cell? ⟨w2.heap.size, n, none⟩ = some (.string ⟨(word (n : Int)).toArray⟩) := fun Y hY => by
    rw [cell_of_row _ _ n _ _ _ (heap_new (w := Y) (o := .cells namesA 9) (n := w2.heap.size) hY.symm), namesA_at n (by omega)]; rfl
  rename_i K hKK
  have hK : K { tmps := #[.agg #[.int .i64 (n : Int), .int .i64 r, .int .i64 s, .int .i64 t, .int .i64 a, .int .i64 b], .pointer (some ⟨w.heap.size, 0, none⟩), .string ⟨#[]⟩, .slice (some ⟨w1.heap.size, 0, none⟩) 4 4, .string ⟨(word (n : Int)).toArray⟩, .agg #[.int .i64 (n : Int), .int .i64 r, .int .i64 s, .int .i64 t, .int .i64 a, .int .i64 b], .bool true, .bool false, .pointer (some ⟨w.heap.size, 0, none⟩), .int .i64 (n : Int), .slice (some ⟨w1.heap.size, 0, none⟩) 4 4, .slice (some ⟨w2.heap.size, 0, none⟩) 15 15, .pointer (some ⟨w.heap.size, 0, none⟩), .int .i64 (n : Int), .pointer (some ⟨w2.heap.size, n, none⟩), .string ⟨(word (n : Int)).toArray⟩, undef, undef, undef, undef, undef, undef, undef, undef, undef, undef, undef, undef, undef, undef, undef, undef, undef, undef, undef, undef, undef, undef, undef, undef, undef, undef, undef, undef, undef, undef, undef, undef, undef, undef, undef, undef, undef], defers := [] } (w2.alloc (.cells namesA 9)).drew := by
    refine hKK _ _ ?_
    obtain ⟨w3, hw3⟩ : ∃ x, x = (w2.alloc (.cells namesA 9)).drew := ⟨_, rfl⟩
    rw [← hw3]
    replace e0 : w3.cell? ⟨w.heap.size, 0, none⟩ = some (.int .i64 (n : Int)) := by rw [hw3]; simp [go_sem, e0, m0]
    replace e1 : w3.cell? ⟨w.heap.size, 1, none⟩ = some (.int .i64 r) := by rw [hw3]; simp [go_sem, e1, m0]
    replace e2 : w3.cell? ⟨w.heap.size, 2, none⟩ = some (.int .i64 s) := by rw [hw3]; simp [go_sem, e2, m0]
    replace e3 : w3.cell? ⟨w.heap.size, 3, none⟩ = some (.int .i64 t) := by rw [hw3]; simp [go_sem, e3, m0]
    replace e4 : w3.cell? ⟨w.heap.size, 4, none⟩ = some (.int .i64 a) := by rw [hw3]; simp [go_sem, e4, m0]
    replace e5 : w3.cell? ⟨w.heap.size, 5, none⟩ = some (.int .i64 b) := by rw [hw3]; simp [go_sem, e5, m0]
    replace f0 : w3.cell? ⟨w1.heap.size, 0, none⟩ = some (.bool (fR (n : Int))) := by rw [hw3]; simp [go_sem, f0, hz2]
    replace f1 : w3.cell? ⟨w1.heap.size, 1, none⟩ = some (.bool (fS (n : Int))) := by rw [hw3]; simp [go_sem, f1, hz2]
    replace f2 : w3.cell? ⟨w1.heap.size, 2, none⟩ = some (.bool (fT (n : Int))) := by rw [hw3]; simp [go_sem, f2, hz2]
    replace f3 : w3.cell? ⟨w1.heap.size, 3, none⟩ = some (.bool (fV (n : Int))) := by rw [hw3]; simp [go_sem, f3, hz2]
    have hz3 : w1.heap.size < w3.heap.size := by rw [hw3]; simp; omega
    have m3 : w.heap.size < w3.heap.size := by rw [hw3]; simp; omega
    have hB3 : Below w.heap.size w w3 := by rw [hw3]; exact (hB2.alloc (by omega) _).drew
    clear hw3 hcell hB2
    rcases forms8 n (by omega) hn1 with ⟨hR, hS, hT, hV⟩ | ⟨hR, hS, hT, hV⟩ | ⟨hR, hS, hT, hV⟩ | ⟨hR, hS, hT, hV⟩ | ⟨hR, hS, hT, hV⟩ | ⟨hR, hS, hT, hV⟩ | ⟨hR, hS, hT, hV⟩ | ⟨hR, hS, hT, hV⟩
    · rw [hR] at f0
      rw [hS] at f1
      rw [hT] at f2
      rw [hV] at f3
      go_wp2_with fail
      refine (dec_any r _ (by have := o.r1; omega) (by have := o.r2; omega)).mono ?_
      rintro e w4 ⟨rfl, hb4⟩
      obtain ⟨hc4, _⟩ := bcell hb4
      have hz4 := hb4.size
      replace e0 : w4.cell? ⟨w.heap.size, 0, none⟩ = some (.int .i64 (n : Int)) := by rw [hc4 _ _ (by omega)]; exact e0
      replace e1 : w4.cell? ⟨w.heap.size, 1, none⟩ = some (.int .i64 r) := by rw [hc4 _ _ (by omega)]; exact e1
      replace e2 : w4.cell? ⟨w.heap.size, 2, none⟩ = some (.int .i64 s) := by rw [hc4 _ _ (by omega)]; exact e2
      replace e3 : w4.cell? ⟨w.heap.size, 3, none⟩ = some (.int .i64 t) := by rw [hc4 _ _ (by omega)]; exact e3
      replace e4 : w4.cell? ⟨w.heap.size, 4, none⟩ = some (.int .i64 a) := by rw [hc4 _ _ (by omega)]; exact e4
      replace e5 : w4.cell? ⟨w.heap.size, 5, none⟩ = some (.int .i64 b) := by rw [hc4 _ _ (by omega)]; exact e5
      replace f0 : w4.cell? ⟨w1.heap.size, 0, none⟩ = some (.bool true) := by rw [hc4 _ _ (by omega)]; exact f0
      replace f1 : w4.cell? ⟨w1.heap.size, 1, none⟩ = some (.bool false) := by rw [hc4 _ _ (by omega)]; exact f1
      replace f2 : w4.cell? ⟨w1.heap.size, 2, none⟩ = some (.bool false) := by rw [hc4 _ _ (by omega)]; exact f2
      replace f3 : w4.cell? ⟨w1.heap.size, 3, none⟩ = some (.bool true) := by rw [hc4 _ _ (by omega)]; exact f3
      have hB4 : Below w.heap.size w w4 := hB3.trans (hb4.mono (by omega))
      clear hc4 hb4
      have lX0 : (Lib.itoa r).length ≤ 20 := by have := itoa_len r (by have := o.r1; omega) (by have := o.r2; omega); omega
      go_wp2_with fail
      refine (specText_any a b _).mono ?_
      rintro e w5 ⟨rfl, hb5⟩
      obtain ⟨hc5, _⟩ := bcell hb5
      have hz5 := hb5.size
      replace e0 : w5.cell? ⟨w.heap.size, 0, none⟩ = some (.int .i64 (n : Int)) := by rw [hc5 _ _ (by omega)]; exact e0
      replace e1 : w5.cell? ⟨w.heap.size, 1, none⟩ = some (.int .i64 r) := by rw [hc5 _ _ (by omega)]; exact e1
      replace e2 : w5.cell? ⟨w.heap.size, 2, none⟩ = some (.int .i64 s) := by rw [hc5 _ _ (by omega)]; exact e2
      replace e3 : w5.cell? ⟨w.heap.size, 3, none⟩ = some (.int .i64 t) := by rw [hc5 _ _ (by omega)]; exact e3
      replace e4 : w5.cell? ⟨w.heap.size, 4, none⟩ = some (.int .i64 a) := by rw [hc5 _ _ (by omega)]; exact e4
      replace e5 : w5.cell? ⟨w.heap.size, 5, none⟩ = some (.int .i64 b) := by rw [hc5 _ _ (by omega)]; exact e5
      replace f0 : w5.cell? ⟨w1.heap.size, 0, none⟩ = some (.bool true) := by rw [hc5 _ _ (by omega)]; exact f0
      replace f1 : w5.cell? ⟨w1.heap.size, 1, none⟩ = some (.bool false) := by rw [hc5 _ _ (by omega)]; exact f1
      replace f2 : w5.cell? ⟨w1.heap.size, 2, none⟩ = some (.bool false) := by rw [hc5 _ _ (by omega)]; exact f2
      replace f3 : w5.cell? ⟨w1.heap.size, 3, none⟩ = some (.bool true) := by rw [hc5 _ _ (by omega)]; exact f3
      have hB5 : Below w.heap.size w w5 := hB4.trans (hb5.mono (by omega))
      clear hc5 hb5
      have lX3 : (txt a b).length ≤ 20 := by have := txt_len o.v; omega
      go_wp2_with fail
      go_ret
      exact ⟨congrArg (fun x => Ending.returned (.string x)) (by rw [cat2, cat2]; simp [opTail, part, hR, hS, hT, hV]), hB5⟩
    · rw [hR] at f0
      rw [hS] at f1
      rw [hT] at f2
      rw [hV] at f3
      go_wp2_with fail
      refine (dec_any r _ (by have := o.r1; omega) (by have := o.r2; omega)).mono ?_
      rintro e w4 ⟨rfl, hb4⟩
      obtain ⟨hc4, _⟩ := bcell hb4
      have hz4 := hb4.size
      replace e0 : w4.cell? ⟨w.heap.size, 0, none⟩ = some (.int .i64 (n : Int)) := by rw [hc4 _ _ (by omega)]; exact e0
      replace e1 : w4.cell? ⟨w.heap.size, 1, none⟩ = some (.int .i64 r) := by rw [hc4 _ _ (by omega)]; exact e1
      replace e2 : w4.cell? ⟨w.heap.size, 2, none⟩ = some (.int .i64 s) := by rw [hc4 _ _ (by omega)]; exact e2
      replace e3 : w4.cell? ⟨w.heap.size, 3, none⟩ = some (.int .i64 t) := by rw [hc4 _ _ (by omega)]; exact e3
      replace e4 : w4.cell? ⟨w.heap.size, 4, none⟩ = some (.int .i64 a) := by rw [hc4 _ _ (by omega)]; exact e4
      replace e5 : w4.cell? ⟨w.heap.size, 5, none⟩ = some (.int .i64 b) := by rw [hc4 _ _ (by omega)]; exact e5
      replace f0 : w4.cell? ⟨w1.heap.size, 0, none⟩ = some (.bool true) := by rw [hc4 _ _ (by omega)]; exact f0
      replace f1 : w4.cell? ⟨w1.heap.size, 1, none⟩ = some (.bool true) := by rw [hc4 _ _ (by omega)]; exact f1
      replace f2 : w4.cell? ⟨w1.heap.size, 2, none⟩ = some (.bool false) := by rw [hc4 _ _ (by omega)]; exact f2
      replace f3 : w4.cell? ⟨w1.heap.size, 3, none⟩ = some (.bool false) := by rw [hc4 _ _ (by omega)]; exact f3
      have hB4 : Below w.heap.size w w4 := hB3.trans (hb4.mono (by omega))
      clear hc4 hb4
      have lX0 : (Lib.itoa r).length ≤ 20 := by have := itoa_len r (by have := o.r1; omega) (by have := o.r2; omega); omega
      go_wp2_with fail
      refine (dec_any s _ (by have := o.s1; omega) (by have := o.s2; omega)).mono ?_
      rintro e w5 ⟨rfl, hb5⟩
      obtain ⟨hc5, _⟩ := bcell hb5
      have hz5 := hb5.size
      replace e0 : w5.cell? ⟨w.heap.size, 0, none⟩ = some (.int .i64 (n : Int)) := by rw [hc5 _ _ (by omega)]; exact e0
      replace e1 : w5.cell? ⟨w.heap.size, 1, none⟩ = some (.int .i64 r) := by rw [hc5 _ _ (by omega)]; exact e1
      replace e2 : w5.cell? ⟨w.heap.size, 2, none⟩ = some (.int .i64 s) := by rw [hc5 _ _ (by omega)]; exact e2
      replace e3 : w5.cell? ⟨w.heap.size, 3, none⟩ = some (.int .i64 t) := by rw [hc5 _ _ (by omega)]; exact e3
      replace e4 : w5.cell? ⟨w.heap.size, 4, none⟩ = some (.int .i64 a) := by rw [hc5 _ _ (by omega)]; exact e4
      replace e5 : w5.cell? ⟨w.heap.size, 5, none⟩ = some (.int .i64 b) := by rw [hc5 _ _ (by omega)]; exact e5
      replace f0 : w5.cell? ⟨w1.heap.size, 0, none⟩ = some (.bool true) := by rw [hc5 _ _ (by omega)]; exact f0
      replace f1 : w5.cell? ⟨w1.heap.size, 1, none⟩ = some (.bool true) := by rw [hc5 _ _ (by omega)]; exact f1
      replace f2 : w5.cell? ⟨w1.heap.size, 2, none⟩ = some (.bool false) := by rw [hc5 _ _ (by omega)]; exact f2
      replace f3 : w5.cell? ⟨w1.heap.size, 3, none⟩ = some (.bool false) := by rw [hc5 _ _ (by omega)]; exact f3
      have hB5 : Below w.heap.size w w5 := hB4.trans (hb5.mono (by omega))
      clear hc5 hb5
      have lX1 : (Lib.itoa s).length ≤ 20 := by have := itoa_len s (by have := o.s1; omega) (by have := o.s2; omega); omega
      go_wp2_with fail
      go_ret
      exact ⟨congrArg (fun x => Ending.returned (.string x)) (by rw [cat2, cat2]; simp [opTail, part, hR, hS, hT, hV]), hB5⟩
    · rw [hR] at f0
      rw [hS] at f1
      rw [hT] at f2
      rw [hV] at f3
      go_wp2_with fail
      refine (dec_any r _ (by have := o.r1; omega) (by have := o.r2; omega)).mono ?_
      rintro e w4 ⟨rfl, hb4⟩
      obtain ⟨hc4, _⟩ := bcell hb4
      have hz4 := hb4.size
      replace e0 : w4.cell? ⟨w.heap.size, 0, none⟩ = some (.int .i64 (n : Int)) := by rw [hc4 _ _ (by omega)]; exact e0
      replace e1 : w4.cell? ⟨w.heap.size, 1, none⟩ = some (.int .i64 r) := by rw [hc4 _ _ (by omega)]; exact e1
      replace e2 : w4.cell? ⟨w.heap.size, 2, none⟩ = some (.int .i64 s) := by rw [hc4 _ _ (by omega)]; exact e2
      replace e3 : w4.cell? ⟨w.heap.size, 3, none⟩ = some (.int .i64 t) := by rw [hc4 _ _ (by omega)]; exact e3
      replace e4 : w4.cell? ⟨w.heap.size, 4, none⟩ = some (.int .i64 a) := by rw [hc4 _ _ (by omega)]; exact e4
      replace e5 : w4.cell? ⟨w.heap.size, 5, none⟩ = some (.int .i64 b) := by rw [hc4 _ _ (by omega)]; exact e5
      replace f0 : w4.cell? ⟨w1.heap.size, 0, none⟩ = some (.bool true) := by rw [hc4 _ _ (by omega)]; exact f0
      replace f1 : w4.cell? ⟨w1.heap.size, 1, none⟩ = some (.bool false) := by rw [hc4 _ _ (by omega)]; exact f1
      replace f2 : w4.cell? ⟨w1.heap.size, 2, none⟩ = some (.bool false) := by rw [hc4 _ _ (by omega)]; exact f2
      replace f3 : w4.cell? ⟨w1.heap.size, 3, none⟩ = some (.bool false) := by rw [hc4 _ _ (by omega)]; exact f3
      have hB4 : Below w.heap.size w w4 := hB3.trans (hb4.mono (by omega))
      clear hc4 hb4
      have lX0 : (Lib.itoa r).length ≤ 20 := by have := itoa_len r (by have := o.r1; omega) (by have := o.r2; omega); omega
      go_wp2_with fail
      go_ret
      exact ⟨congrArg (fun x => Ending.returned (.string x)) (by rw [cat2]; simp [opTail, part, hR, hS, hT, hV]), hB4⟩
    · rw [hR] at f0
      rw [hS] at f1
      rw [hT] at f2
      rw [hV] at f3
      go_wp2_with fail
      refine (dec_any r _ (by have := o.r1; omega) (by have := o.r2; omega)).mono ?_
      rintro e w4 ⟨rfl, hb4⟩
      obtain ⟨hc4, _⟩ := bcell hb4
      have hz4 := hb4.size
      replace e0 : w4.cell? ⟨w.heap.size, 0, none⟩ = some (.int .i64 (n : Int)) := by rw [hc4 _ _ (by omega)]; exact e0
      replace e1 : w4.cell? ⟨w.heap.size, 1, none⟩ = some (.int .i64 r) := by rw [hc4 _ _ (by omega)]; exact e1
      replace e2 : w4.cell? ⟨w.heap.size, 2, none⟩ = some (.int .i64 s) := by rw [hc4 _ _ (by omega)]; exact e2
      replace e3 : w4.cell? ⟨w.heap.size, 3, none⟩ = some (.int .i64 t) := by rw [hc4 _ _ (by omega)]; exact e3
      replace e4 : w4.cell? ⟨w.heap.size, 4, none⟩ = some (.int .i64 a) := by rw [hc4 _ _ (by omega)]; exact e4
      replace e5 : w4.cell? ⟨w.heap.size, 5, none⟩ = some (.int .i64 b) := by rw [hc4 _ _ (by omega)]; exact e5
      replace f0 : w4.cell? ⟨w1.heap.size, 0, none⟩ = some (.bool true) := by rw [hc4 _ _ (by omega)]; exact f0
      replace f1 : w4.cell? ⟨w1.heap.size, 1, none⟩ = some (.bool false) := by rw [hc4 _ _ (by omega)]; exact f1
      replace f2 : w4.cell? ⟨w1.heap.size, 2, none⟩ = some (.bool true) := by rw [hc4 _ _ (by omega)]; exact f2
      replace f3 : w4.cell? ⟨w1.heap.size, 3, none⟩ = some (.bool false) := by rw [hc4 _ _ (by omega)]; exact f3
      have hB4 : Below w.heap.size w w4 := hB3.trans (hb4.mono (by omega))
      clear hc4 hb4
      have lX0 : (Lib.itoa r).length ≤ 20 := by have := itoa_len r (by have := o.r1; omega) (by have := o.r2; omega); omega
      go_wp2_with fail
      refine (dec_any t _ (by have := o.t1; omega) (by have := o.t2; omega)).mono ?_
      rintro e w5 ⟨rfl, hb5⟩
      obtain ⟨hc5, _⟩ := bcell hb5
      have hz5 := hb5.size
      replace e0 : w5.cell? ⟨w.heap.size, 0, none⟩ = some (.int .i64 (n : Int)) := by rw [hc5 _ _ (by omega)]; exact e0
      replace e1 : w5.cell? ⟨w.heap.size, 1, none⟩ = some (.int .i64 r) := by rw [hc5 _ _ (by omega)]; exact e1
      replace e2 : w5.cell? ⟨w.heap.size, 2, none⟩ = some (.int .i64 s) := by rw [hc5 _ _ (by omega)]; exact e2
      replace e3 : w5.cell? ⟨w.heap.size, 3, none⟩ = some (.int .i64 t) := by rw [hc5 _ _ (by omega)]; exact e3
      replace e4 : w5.cell? ⟨w.heap.size, 4, none⟩ = some (.int .i64 a) := by rw [hc5 _ _ (by omega)]; exact e4
      replace e5 : w5.cell? ⟨w.heap.size, 5, none⟩ = some (.int .i64 b) := by rw [hc5 _ _ (by omega)]; exact e5
      replace f0 : w5.cell? ⟨w1.heap.size, 0, none⟩ = some (.bool true) := by rw [hc5 _ _ (by omega)]; exact f0
      replace f1 : w5.cell? ⟨w1.heap.size, 1, none⟩ = some (.bool false) := by rw [hc5 _ _ (by omega)]; exact f1
      replace f2 : w5.cell? ⟨w1.heap.size, 2, none⟩ = some (.bool true) := by rw [hc5 _ _ (by omega)]; exact f2
      replace f3 : w5.cell? ⟨w1.heap.size, 3, none⟩ = some (.bool false) := by rw [hc5 _ _ (by omega)]; exact f3
      have hB5 : Below w.heap.size w w5 := hB4.trans (hb5.mono (by omega))
      clear hc5 hb5
      have lX2 : (Lib.itoa t).length ≤ 20 := by have := itoa_len t (by have := o.t1; omega) (by have := o.t2; omega); omega
      go_wp2_with fail
      go_ret
      exact ⟨congrArg (fun x => Ending.returned (.string x)) (by rw [cat2, cat2]; simp [opTail, part, hR, hS, hT, hV]), hB5⟩
    · rw [hR] at f0
      rw [hS] at f1
      rw [hT] at f2
      rw [hV] at f3
      go_wp2_with fail
      refine (dec_any r _ (by have := o.r1; omega) (by have := o.r2; omega)).mono ?_
      rintro e w4 ⟨rfl, hb4⟩
      obtain ⟨hc4, _⟩ := bcell hb4
      have hz4 := hb4.size
      replace e0 : w4.cell? ⟨w.heap.size, 0, none⟩ = some (.int .i64 (n : Int)) := by rw [hc4 _ _ (by omega)]; exact e0
      replace e1 : w4.cell? ⟨w.heap.size, 1, none⟩ = some (.int .i64 r) := by rw [hc4 _ _ (by omega)]; exact e1
      replace e2 : w4.cell? ⟨w.heap.size, 2, none⟩ = some (.int .i64 s) := by rw [hc4 _ _ (by omega)]; exact e2
      replace e3 : w4.cell? ⟨w.heap.size, 3, none⟩ = some (.int .i64 t) := by rw [hc4 _ _ (by omega)]; exact e3
      replace e4 : w4.cell? ⟨w.heap.size, 4, none⟩ = some (.int .i64 a) := by rw [hc4 _ _ (by omega)]; exact e4
      replace e5 : w4.cell? ⟨w.heap.size, 5, none⟩ = some (.int .i64 b) := by rw [hc4 _ _ (by omega)]; exact e5
      replace f0 : w4.cell? ⟨w1.heap.size, 0, none⟩ = some (.bool true) := by rw [hc4 _ _ (by omega)]; exact f0
      replace f1 : w4.cell? ⟨w1.heap.size, 1, none⟩ = some (.bool true) := by rw [hc4 _ _ (by omega)]; exact f1
      replace f2 : w4.cell? ⟨w1.heap.size, 2, none⟩ = some (.bool true) := by rw [hc4 _ _ (by omega)]; exact f2
      replace f3 : w4.cell? ⟨w1.heap.size, 3, none⟩ = some (.bool true) := by rw [hc4 _ _ (by omega)]; exact f3
      have hB4 : Below w.heap.size w w4 := hB3.trans (hb4.mono (by omega))
      clear hc4 hb4
      have lX0 : (Lib.itoa r).length ≤ 20 := by have := itoa_len r (by have := o.r1; omega) (by have := o.r2; omega); omega
      go_wp2_with fail
      refine (dec_any s _ (by have := o.s1; omega) (by have := o.s2; omega)).mono ?_
      rintro e w5 ⟨rfl, hb5⟩
      obtain ⟨hc5, _⟩ := bcell hb5
      have hz5 := hb5.size
      replace e0 : w5.cell? ⟨w.heap.size, 0, none⟩ = some (.int .i64 (n : Int)) := by rw [hc5 _ _ (by omega)]; exact e0
      replace e1 : w5.cell? ⟨w.heap.size, 1, none⟩ = some (.int .i64 r) := by rw [hc5 _ _ (by omega)]; exact e1
      replace e2 : w5.cell? ⟨w.heap.size, 2, none⟩ = some (.int .i64 s) := by rw [hc5 _ _ (by omega)]; exact e2
      replace e3 : w5.cell? ⟨w.heap.size, 3, none⟩ = some (.int .i64 t) := by rw [hc5 _ _ (by omega)]; exact e3
      replace e4 : w5.cell? ⟨w.heap.size, 4, none⟩ = some (.int .i64 a) := by rw [hc5 _ _ (by omega)]; exact e4
      replace e5 : w5.cell? ⟨w.heap.size, 5, none⟩ = some (.int .i64 b) := by rw [hc5 _ _ (by omega)]; exact e5
      replace f0 : w5.cell? ⟨w1.heap.size, 0, none⟩ = some (.bool true) := by rw [hc5 _ _ (by omega)]; exact f0
      replace f1 : w5.cell? ⟨w1.heap.size, 1, none⟩ = some (.bool true) := by rw [hc5 _ _ (by omega)]; exact f1
      replace f2 : w5.cell? ⟨w1.heap.size, 2, none⟩ = some (.bool true) := by rw [hc5 _ _ (by omega)]; exact f2
      replace f3 : w5.cell? ⟨w1.heap.size, 3, none⟩ = some (.bool true) := by rw [hc5 _ _ (by omega)]; exact f3
      have hB5 : Below w.heap.size w w5 := hB4.trans (hb5.mono (by omega))
      clear hc5 hb5
      have lX1 : (Lib.itoa s).length ≤ 20 := by have := itoa_len s (by have := o.s1; omega) (by have := o.s2; omega); omega
      go_wp2_with fail
      refine (dec_any t _ (by have := o.t1; omega) (by have := o.t2; omega)).mono ?_
      rintro e w6 ⟨rfl, hb6⟩
      obtain ⟨hc6, _⟩ := bcell hb6
      have hz6 := hb6.size
      replace e0 : w6.cell? ⟨w.heap.size, 0, none⟩ = some (.int .i64 (n : Int)) := by rw [hc6 _ _ (by omega)]; exact e0
      replace e1 : w6.cell? ⟨w.heap.size, 1, none⟩ = some (.int .i64 r) := by rw [hc6 _ _ (by omega)]; exact e1
      replace e2 : w6.cell? ⟨w.heap.size, 2, none⟩ = some (.int .i64 s) := by rw [hc6 _ _ (by omega)]; exact e2
      replace e3 : w6.cell? ⟨w.heap.size, 3, none⟩ = some (.int .i64 t) := by rw [hc6 _ _ (by omega)]; exact e3
      replace e4 : w6.cell? ⟨w.heap.size, 4, none⟩ = some (.int .i64 a) := by rw [hc6 _ _ (by omega)]; exact e4
      replace e5 : w6.cell? ⟨w.heap.size, 5, none⟩ = some (.int .i64 b) := by rw [hc6 _ _ (by omega)]; exact e5
      replace f0 : w6.cell? ⟨w1.heap.size, 0, none⟩ = some (.bool true) := by rw [hc6 _ _ (by omega)]; exact f0
      replace f1 : w6.cell? ⟨w1.heap.size, 1, none⟩ = some (.bool true) := by rw [hc6 _ _ (by omega)]; exact f1
      replace f2 : w6.cell? ⟨w1.heap.size, 2, none⟩ = some (.bool true) := by rw [hc6 _ _ (by omega)]; exact f2
      replace f3 : w6.cell? ⟨w1.heap.size, 3, none⟩ = some (.bool true) := by rw [hc6 _ _ (by omega)]; exact f3
      have hB6 : Below w.heap.size w w6 := hB5.trans (hb6.mono (by omega))
      clear hc6 hb6
      have lX2 : (Lib.itoa t).length ≤ 20 := by have := itoa_len t (by have := o.t1; omega) (by have := o.t2; omega); omega
      go_wp2_with fail
      refine (specText_any a b _).mono ?_
      rintro e w7 ⟨rfl, hb7⟩
      obtain ⟨hc7, _⟩ := bcell hb7
      have hz7 := hb7.size
      replace e0 : w7.cell? ⟨w.heap.size, 0, none⟩ = some (.int .i64 (n : Int)) := by rw [hc7 _ _ (by omega)]; exact e0
      replace e1 : w7.cell? ⟨w.heap.size, 1, none⟩ = some (.int .i64 r) := by rw [hc7 _ _ (by omega)]; exact e1
      replace e2 : w7.cell? ⟨w.heap.size, 2, none⟩ = some (.int .i64 s) := by rw [hc7 _ _ (by omega)]; exact e2
      replace e3 : w7.cell? ⟨w.heap.size, 3, none⟩ = some (.int .i64 t) := by rw [hc7 _ _ (by omega)]; exact e3
      replace e4 : w7.cell? ⟨w.heap.size, 4, none⟩ = some (.int .i64 a) := by rw [hc7 _ _ (by omega)]; exact e4
      replace e5 : w7.cell? ⟨w.heap.size, 5, none⟩ = some (.int .i64 b) := by rw [hc7 _ _ (by omega)]; exact e5
      replace f0 : w7.cell? ⟨w1.heap.size, 0, none⟩ = some (.bool true) := by rw [hc7 _ _ (by omega)]; exact f0
      replace f1 : w7.cell? ⟨w1.heap.size, 1, none⟩ = some (.bool true) := by rw [hc7 _ _ (by omega)]; exact f1
      replace f2 : w7.cell? ⟨w1.heap.size, 2, none⟩ = some (.bool true) := by rw [hc7 _ _ (by omega)]; exact f2
      replace f3 : w7.cell? ⟨w1.heap.size, 3, none⟩ = some (.bool true) := by rw [hc7 _ _ (by omega)]; exact f3
      have hB7 : Below w.heap.size w w7 := hB6.trans (hb7.mono (by omega))
      clear hc7 hb7
      have lX3 : (txt a b).length ≤ 20 := by have := txt_len o.v; omega
      go_wp2_with fail
      go_ret
      exact ⟨congrArg (fun x => Ending.returned (.string x)) (by rw [cat2, cat2, cat2, cat2]; simp [opTail, part, hR, hS, hT, hV]), hB7⟩
    · rw [hR] at f0
      rw [hS] at f1
      rw [hT] at f2
      rw [hV] at f3
      go_wp2_with fail
      refine (dec_any t _ (by have := o.t1; omega) (by have := o.t2; omega)).mono ?_
      rintro e w4 ⟨rfl, hb4⟩
      obtain ⟨hc4, _⟩ := bcell hb4
      have hz4 := hb4.size
      replace e0 : w4.cell? ⟨w.heap.size, 0, none⟩ = some (.int .i64 (n : Int)) := by rw [hc4 _ _ (by omega)]; exact e0
      replace e1 : w4.cell? ⟨w.heap.size, 1, none⟩ = some (.int .i64 r) := by rw [hc4 _ _ (by omega)]; exact e1
      replace e2 : w4.cell? ⟨w.heap.size, 2, none⟩ = some (.int .i64 s) := by rw [hc4 _ _ (by omega)]; exact e2
      replace e3 : w4.cell? ⟨w.heap.size, 3, none⟩ = some (.int .i64 t) := by rw [hc4 _ _ (by omega)]; exact e3
      replace e4 : w4.cell? ⟨w.heap.size, 4, none⟩ = some (.int .i64 a) := by rw [hc4 _ _ (by omega)]; exact e4
      replace e5 : w4.cell? ⟨w.heap.size, 5, none⟩ = some (.int .i64 b) := by rw [hc4 _ _ (by omega)]; exact e5
      replace f0 : w4.cell? ⟨w1.heap.size, 0, none⟩ = some (.bool false) := by rw [hc4 _ _ (by omega)]; exact f0
      replace f1 : w4.cell? ⟨w1.heap.size, 1, none⟩ = some (.bool false) := by rw [hc4 _ _ (by omega)]; exact f1
      replace f2 : w4.cell? ⟨w1.heap.size, 2, none⟩ = some (.bool true) := by rw [hc4 _ _ (by omega)]; exact f2
      replace f3 : w4.cell? ⟨w1.heap.size, 3, none⟩ = some (.bool false) := by rw [hc4 _ _ (by omega)]; exact f3
      have hB4 : Below w.heap.size w w4 := hB3.trans (hb4.mono (by omega))
      clear hc4 hb4
      have lX2 : (Lib.itoa t).length ≤ 20 := by have := itoa_len t (by have := o.t1; omega) (by have := o.t2; omega); omega
      go_wp2_with fail
      go_ret
      exact ⟨congrArg (fun x => Ending.returned (.string x)) (by rw [cat2]; simp [opTail, part, hR, hS, hT, hV]), hB4⟩
    · rw [hR] at f0
      rw [hS] at f1
      rw [hT] at f2
      rw [hV] at f3
      go_wp2_with fail
      refine (dec_any r _ (by have := o.r1; omega) (by have := o.r2; omega)).mono ?_
      rintro e w4 ⟨rfl, hb4⟩
      obtain ⟨hc4, _⟩ := bcell hb4
      have hz4 := hb4.size
      replace e0 : w4.cell? ⟨w.heap.size, 0, none⟩ = some (.int .i64 (n : Int)) := by rw [hc4 _ _ (by omega)]; exact e0
      replace e1 : w4.cell? ⟨w.heap.size, 1, none⟩ = some (.int .i64 r) := by rw [hc4 _ _ (by omega)]; exact e1
      replace e2 : w4.cell? ⟨w.heap.size, 2, none⟩ = some (.int .i64 s) := by rw [hc4 _ _ (by omega)]; exact e2
      replace e3 : w4.cell? ⟨w.heap.size, 3, none⟩ = some (.int .i64 t) := by rw [hc4 _ _ (by omega)]; exact e3
      replace e4 : w4.cell? ⟨w.heap.size, 4, none⟩ = some (.int .i64 a) := by rw [hc4 _ _ (by omega)]; exact e4
      replace e5 : w4.cell? ⟨w.heap.size, 5, none⟩ = some (.int .i64 b) := by rw [hc4 _ _ (by omega)]; exact e5
      replace f0 : w4.cell? ⟨w1.heap.size, 0, none⟩ = some (.bool true) := by rw [hc4 _ _ (by omega)]; exact f0
      replace f1 : w4.cell? ⟨w1.heap.size, 1, none⟩ = some (.bool false) := by rw [hc4 _ _ (by omega)]; exact f1
      replace f2 : w4.cell? ⟨w1.heap.size, 2, none⟩ = some (.bool true) := by rw [hc4 _ _ (by omega)]; exact f2
      replace f3 : w4.cell? ⟨w1.heap.size, 3, none⟩ = some (.bool true) := by rw [hc4 _ _ (by omega)]; exact f3
      have hB4 : Below w.heap.size w w4 := hB3.trans (hb4.mono (by omega))
      clear hc4 hb4
      have lX0 : (Lib.itoa r).length ≤ 20 := by have := itoa_len r (by have := o.r1; omega) (by have := o.r2; omega); omega
      go_wp2_with fail
      refine (dec_any t _ (by have := o.t1; omega) (by have := o.t2; omega)).mono ?_
      rintro e w5 ⟨rfl, hb5⟩
      obtain ⟨hc5, _⟩ := bcell hb5
      have hz5 := hb5.size
      replace e0 : w5.cell? ⟨w.heap.size, 0, none⟩ = some (.int .i64 (n : Int)) := by rw [hc5 _ _ (by omega)]; exact e0
      replace e1 : w5.cell? ⟨w.heap.size, 1, none⟩ = some (.int .i64 r) := by rw [hc5 _ _ (by omega)]; exact e1
      replace e2 : w5.cell? ⟨w.heap.size, 2, none⟩ = some (.int .i64 s) := by rw [hc5 _ _ (by omega)]; exact e2
      replace e3 : w5.cell? ⟨w.heap.size, 3, none⟩ = some (.int .i64 t) := by rw [hc5 _ _ (by omega)]; exact e3
      replace e4 : w5.cell? ⟨w.heap.size, 4, none⟩ = some (.int .i64 a) := by rw [hc5 _ _ (by omega)]; exact e4
      replace e5 : w5.cell? ⟨w.heap.size, 5, none⟩ = some (.int .i64 b) := by rw [hc5 _ _ (by omega)]; exact e5
      replace f0 : w5.cell? ⟨w1.heap.size, 0, none⟩ = some (.bool true) := by rw [hc5 _ _ (by omega)]; exact f0
      replace f1 : w5.cell? ⟨w1.heap.size, 1, none⟩ = some (.bool false) := by rw [hc5 _ _ (by omega)]; exact f1
      replace f2 : w5.cell? ⟨w1.heap.size, 2, none⟩ = some (.bool true) := by rw [hc5 _ _ (by omega)]; exact f2
      replace f3 : w5.cell? ⟨w1.heap.size, 3, none⟩ = some (.bool true) := by rw [hc5 _ _ (by omega)]; exact f3
      have hB5 : Below w.heap.size w w5 := hB4.trans (hb5.mono (by omega))
      clear hc5 hb5
      have lX2 : (Lib.itoa t).length ≤ 20 := by have := itoa_len t (by have := o.t1; omega) (by have := o.t2; omega); omega
      go_wp2_with fail
      refine (specText_any a b _).mono ?_
      rintro e w6 ⟨rfl, hb6⟩
      obtain ⟨hc6, _⟩ := bcell hb6
      have hz6 := hb6.size
      replace e0 : w6.cell? ⟨w.heap.size, 0, none⟩ = some (.int .i64 (n : Int)) := by rw [hc6 _ _ (by omega)]; exact e0
      replace e1 : w6.cell? ⟨w.heap.size, 1, none⟩ = some (.int .i64 r) := by rw [hc6 _ _ (by omega)]; exact e1
      replace e2 : w6.cell? ⟨w.heap.size, 2, none⟩ = some (.int .i64 s) := by rw [hc6 _ _ (by omega)]; exact e2
      replace e3 : w6.cell? ⟨w.heap.size, 3, none⟩ = some (.int .i64 t) := by rw [hc6 _ _ (by omega)]; exact e3
      replace e4 : w6.cell? ⟨w.heap.size, 4, none⟩ = some (.int .i64 a) := by rw [hc6 _ _ (by omega)]; exact e4
      replace e5 : w6.cell? ⟨w.heap.size, 5, none⟩ = some (.int .i64 b) := by rw [hc6 _ _ (by omega)]; exact e5
      replace f0 : w6.cell? ⟨w1.heap.size, 0, none⟩ = some (.bool true) := by rw [hc6 _ _ (by omega)]; exact f0
      replace f1 : w6.cell? ⟨w1.heap.size, 1, none⟩ = some (.bool false) := by rw [hc6 _ _ (by omega)]; exact f1
      replace f2 : w6.cell? ⟨w1.heap.size, 2, none⟩ = some (.bool true) := by rw [hc6 _ _ (by omega)]; exact f2
      replace f3 : w6.cell? ⟨w1.heap.size, 3, none⟩ = some (.bool true) := by rw [hc6 _ _ (by omega)]; exact f3
      have hB6 : Below w.heap.size w w6 := hB5.trans (hb6.mono (by omega))
      clear hc6 hb6
      have lX3 : (txt a b).length ≤ 20 := by have := txt_len o.v; omega
      go_wp2_with fail
      go_ret
      exact ⟨congrArg (fun x => Ending.returned (.string x)) (by rw [cat2, cat2, cat2]; simp [opTail, part, hR, hS, hT, hV]), hB6⟩
    · rw [hR] at f0
      rw [hS] at f1
      rw [hT] at f2
      rw [hV] at f3
      go_wp2_with fail
      refine (specText_any a b _).mono ?_
      rintro e w4 ⟨rfl, hb4⟩
      obtain ⟨hc4, _⟩ := bcell hb4
      have hz4 := hb4.size
      replace e0 : w4.cell? ⟨w.heap.size, 0, none⟩ = some (.int .i64 (n : Int)) := by rw [hc4 _ _ (by omega)]; exact e0
      replace e1 : w4.cell? ⟨w.heap.size, 1, none⟩ = some (.int .i64 r) := by rw [hc4 _ _ (by omega)]; exact e1
      replace e2 : w4.cell? ⟨w.heap.size, 2, none⟩ = some (.int .i64 s) := by rw [hc4 _ _ (by omega)]; exact e2
      replace e3 : w4.cell? ⟨w.heap.size, 3, none⟩ = some (.int .i64 t) := by rw [hc4 _ _ (by omega)]; exact e3
      replace e4 : w4.cell? ⟨w.heap.size, 4, none⟩ = some (.int .i64 a) := by rw [hc4 _ _ (by omega)]; exact e4
      replace e5 : w4.cell? ⟨w.heap.size, 5, none⟩ = some (.int .i64 b) := by rw [hc4 _ _ (by omega)]; exact e5
      replace f0 : w4.cell? ⟨w1.heap.size, 0, none⟩ = some (.bool false) := by rw [hc4 _ _ (by omega)]; exact f0
      replace f1 : w4.cell? ⟨w1.heap.size, 1, none⟩ = some (.bool false) := by rw [hc4 _ _ (by omega)]; exact f1
      replace f2 : w4.cell? ⟨w1.heap.size, 2, none⟩ = some (.bool false) := by rw [hc4 _ _ (by omega)]; exact f2
      replace f3 : w4.cell? ⟨w1.heap.size, 3, none⟩ = some (.bool true) := by rw [hc4 _ _ (by omega)]; exact f3
      have hB4 : Below w.heap.size w w4 := hB3.trans (hb4.mono (by omega))
      clear hc4 hb4
      have lX3 : (txt a b).length ≤ 20 := by have := txt_len o.v; omega
      go_wp2_with fail
      go_ret
      exact ⟨congrArg (fun x => Ending.returned (.string x)) (by rw [cat2]; simp [opTail, part, hR, hS, hT, hV]), hB4⟩
  go_region_with (go_at_call 49; refine (names_any _).mono ?_; rintro e wx ⟨rfl, rfl⟩)
  all_goals (go_step; exact hK)
/-- a step's text, of every step -/
theorem specOpText_any (k r s t a b : Int) (w : World) :
    Calls Tryz.prog 27 #[.agg #[.int .i64 k, .int .i64 r, .int .i64 s, .int .i64 t, .int .i64 a, .int .i64 b]] w fun e w' => e = .returned (.string ⟨(opTxt k r s t a b).toArray⟩) ∧ Below w.heap.size w w' := by
  cases h : opB k r s t a b with
  | false => exact specOpText_bad k r s t a b h w
  | true => exact specOpText_ok k r s t a b h w
end Go.Proofs.YtekmjgkjpdhedaaGreatDoor
