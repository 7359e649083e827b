/-
  What laws.toValS and toIntS answer over this translation: the list as it is, in a row of its own.
-/
import Derived.Test.YtefaocjcfecipaaRunBox
import Derived.Laws.IdiomCopy
namespace Go.Proofs.Ytefaocjcfecipaa
open Go.ChangeShapes Go.WideShapes Go.ChangeAt Go.RowKit Go.Joins
/-- the first k are there, the others nothing -/
def copiedV (L : List (Int × Int)) (k : Nat) : List (Int × Int) := L.take k ++ List.replicate (L.length - k) (0, 0)
theorem copiedV_len (L : List (Int × Int)) (k : Nat) (h : k ≤ L.length) : (copiedV L k).length = L.length := by simp [copiedV]; omega
theorem copiedV_step (L : List (Int × Int)) (k : Nat) (h : k < L.length) : (copiedV L k).set k L[k] = copiedV L (k + 1) := by
  have e : L.length - k = (L.length - (k + 1)) + 1 := by omega
  unfold copiedV
  rw [List.set_append_right _ _ (by rw [List.length_take]; omega), List.length_take, Nat.min_eq_left (Nat.le_of_lt h), Nat.sub_self, e, List.replicate_succ, List.set_cons_zero, List.take_succ_eq_append_getElem h, List.append_assoc]
  rfl
theorem copiedV_all (L : List (Int × Int)) : copiedV L L.length = L := by simp [copiedV]
def copiedI (L : List Int) (k : Nat) : List Int := L.take k ++ List.replicate (L.length - k) 0
theorem copiedI_len (L : List Int) (k : Nat) (h : k ≤ L.length) : (copiedI L k).length = L.length := by simp [copiedI]; omega
theorem copiedI_step (L : List Int) (k : Nat) (h : k < L.length) : (copiedI L k).set k L[k] = copiedI L (k + 1) := by
  have e : L.length - k = (L.length - (k + 1)) + 1 := by omega
  unfold copiedI
  rw [List.set_append_right _ _ (by rw [List.length_take]; omega), List.length_take, Nat.min_eq_left (Nat.le_of_lt h), Nat.sub_self, e, List.replicate_succ, List.set_cons_zero, List.take_succ_eq_append_getElem h, List.append_assoc]
  rfl
theorem copiedI_all (L : List Int) : copiedI L L.length = L := by simp [copiedI]
set_option maxRecDepth 20000 in
set_option maxHeartbeats 4000000 in
theorem toVals_any (S : Nat) (L : List (Int × Int)) (v : Value) (w : World) (hS : S ≤ w.heap.size) (hl : L.length ≤ 1048576) (h : Vals S w v L) :
    Calls Try.prog 48 #[v] w fun e w' => ∃ g, e = .returned (.slice (some ⟨g, 0, none⟩) L.length L.length) ∧ w.heap.size ≤ g ∧ OwnsV w' w.heap.size (.slice (some ⟨g, 0, none⟩) L.length L.length) L ∧ Below w.heap.size w w' := by
  obtain ⟨inf, i1, i2, i3, i4⟩ := info_val
  obtain ⟨ao, cap, rfl, h⟩ := h
  go_enter Try.func48, Try.ntmps48
  go_wp2_with (refine wpList_make_full _ rfl (.tmp 6) (.tmp 6) 27 rfl w.heap.size 24 inf _ 2 Try.underlying27 i1 i2 i3 .i64 .i64 _ _ L.length rfl rfl rfl rfl (by rw [i4]; omega) (by unfold maxLen; omega) (Nat.le_refl _) ?_; intro w0 ho hg0)
  rw [made_vals] at ho
  have hB0 : Below w.heap.size w w0 := (Below.refl _ _).grown hg0 (by omega) (by intro k hk; cases hk)
  clear hg0
  go_loopw [4] (fun i wr => ∃ k : Nat, k ≤ L.length ∧ i = .int .i64 k ∧ Below w.heap.size w wr ∧ wr.ownsRow w.heap.size 24 2 (.slice (some ⟨w.heap.size, 0, none⟩) L.length L.length) L.length (cellsV (copiedV L k)))
    (fun i _ => L.length - (intOf i).toNat)
  case atStart => exact ⟨0, Nat.zero_le _, rfl, hB0, by simpa [copiedV] using ho⟩
  case round =>
    clear ho hB0
    obtain ⟨k, hk, rfl, hB, ho⟩ := hrel
    by_cases hlt : k < L.length
    · rcases h with rfl | ⟨b, o, rfl, hbS, hs⟩
      · exact absurd hlt (by simp)
      obtain ⟨c0, c1⟩ := (hs k hlt).below (by omega) (hB.mono hS)
      obtain ⟨x, hx0⟩ : ∃ x, x = L[k] := ⟨_, rfl⟩
      rw [← hx0] at c0 c1
      have hx : Hid (x = L[k]) := hx0
      clear hx0 hs
      go_wp2_with fail
      refine (toVal_any _ _ _).mono ?_
      rintro e w1 ⟨rfl, hb1⟩
      have hB1 : Below w.heap.size w w1 := hB.trans (hb1.mono hB.size)
      have hml : k < (copiedV L k).length := by rw [copiedV_len L k hk]; exact hlt
      replace ho : w1.ownsRow w.heap.size 24 2 (.slice (some ⟨w.heap.size, 0, none⟩) L.length L.length) L.length (cellsV (copiedV L k)) := World.ownsRow.kept (row := none) ho ⟨hb1.os, hb1.tape, hb1.output, hb1.size, fun k hk _ => hb1.block k hk⟩ (.inr (by intro e; cases e))
      have d0 : ∃ x : Int, w1.cell? ⟨w.heap.size, k * 2, none⟩ = some (.int .i64 x) := ⟨_, by rw [ho.cellAt (k * 2) (by omega)]; exact cellsV_at0 _ k hml⟩
      have d1 : ∃ x : Int, w1.cell? ⟨w.heap.size, k * 2 + 1, none⟩ = some (.int .i64 x) := ⟨_, by rw [ho.cellAt (k * 2 + 1) (by omega)]; exact cellsV_at1 _ k hml⟩
      obtain ⟨y0, d0⟩ := d0
      obtain ⟨y1, d1⟩ := d1
      have f0 : w1.frozen? ⟨w.heap.size, k * 2, none⟩ = false := ho.frozenAt _
      have f1 : w1.frozen? ⟨w.heap.size, k * 2 + 1, none⟩ = false := ho.frozenAt _
      have R : Hid ((((w1.setCell ⟨w.heap.size, k * 2, none⟩ (.int .i64 x.1)).setCell ⟨w.heap.size, k * 2 + 1, none⟩ (.int .i64 x.2)).ownsRow w.heap.size 24 2 (.slice (some ⟨w.heap.size, 0, none⟩) L.length L.length) L.length (cellsV (copiedV L (k + 1)))) ∧ Below w.heap.size w ((w1.setCell ⟨w.heap.size, k * 2, none⟩ (.int .i64 x.1)).setCell ⟨w.heap.size, k * 2 + 1, none⟩ (.int .i64 x.2))) := by
        obtain ⟨s1, s2⟩ := ho.stored (k * 2) (.int .i64 x.1)
        obtain ⟨t1, t2⟩ := s1.stored (k * 2 + 1) (.int .i64 x.2)
        refine ⟨?_, (hB1.setCell (by exact Nat.le_refl _) _).setCell (by exact Nat.le_refl _) _⟩
        rw [cellsV_set _ k hml] at t1
        have e : (x.1, x.2) = L[k] := hx.out
        rw [e, copiedV_step L k hlt] at t1
        exact t1
      clear ho c0 c1 hb1 hB hB1
      go_wp2_with fail
      go_roundw
      case rel => exact ⟨k + 1, by omega, by go_num, R.out.2, R.out.1⟩
      case measure => simp [intOf]; omega
    · have e : k = L.length := by omega
      subst e
      rw [copiedV_all] at ho
      go_wp2_with fail
      go_ret
      exact ⟨w.heap.size, rfl, Nat.le_refl _, ho, hB⟩
set_option maxRecDepth 20000 in
set_option maxHeartbeats 4000000 in
theorem toInts_any (S : Nat) (L : List Int) (v : Value) (w : World) (hS : S ≤ w.heap.size) (hl : L.length ≤ 1048576) (h : Ints S w v L) :
    Calls Try.prog 49 #[v] w fun e w' => ∃ g, e = .returned (.slice (some ⟨g, 0, none⟩) L.length L.length) ∧ w.heap.size ≤ g ∧ Owns w' w.heap.size (.slice (some ⟨g, 0, none⟩) L.length L.length) L ∧ Below w.heap.size w w' := by
  obtain ⟨inf, i1, i2, i3, i4⟩ := info_intI
  obtain ⟨ao, cap, rfl, h⟩ := h
  go_enter Try.func49, Try.ntmps49
  go_wp2_with (refine wpList_make_full _ rfl (.tmp 6) (.tmp 6) 28 rfl w.heap.size 3 inf _ 1 Try.underlying28 i1 i2 i3 .i64 .i64 _ _ L.length rfl rfl rfl rfl (by rw [i4]; omega) (by unfold maxLen; omega) (Nat.le_refl _) ?_; intro w0 ho hg0)
  have hmade : (madeCells (Value.cells (.int .i64 0)) (L.length * 1)).toList = (copiedI L 0).map (Value.int .i64) := by
    show (madeCells #[.int .i64 0] (L.length * 1)).toList = _
    rw [toList_madeCells_one]; simp [copiedI]
  rw [hmade] at ho
  have hB0 : Below w.heap.size w w0 := (Below.refl _ _).grown hg0 (by omega) (by intro k hk; cases hk)
  clear hg0 hmade
  go_loopw [4] (fun i wr => ∃ k : Nat, k ≤ L.length ∧ i = .int .i64 k ∧ Below w.heap.size w wr ∧ wr.ownsRow w.heap.size 3 1 (.slice (some ⟨w.heap.size, 0, none⟩) L.length L.length) L.length ((copiedI L k).map (Value.int .i64)))
    (fun i _ => L.length - (intOf i).toNat)
  case atStart => exact ⟨0, Nat.zero_le _, rfl, hB0, ho⟩
  case round =>
    clear ho hB0
    obtain ⟨k, hk, rfl, hB, ho⟩ := hrel
    by_cases hlt : k < L.length
    · rcases h with rfl | ⟨b, o, rfl, hbS, hs⟩
      · exact absurd hlt (by simp)
      have c0 : wr.cell? ⟨b, o + k, none⟩ = some (.int .i64 L[k]) := ((hB.mono hS).cell (p := ⟨b, o + k, none⟩) hbS).trans (hs k hlt)
      obtain ⟨x, hx0⟩ : ∃ x, x = L[k] := ⟨_, rfl⟩
      rw [← hx0] at c0
      have hx : Hid (x = L[k]) := hx0
      clear hx0 hs
      have hml : k < (copiedI L k).length := by rw [copiedI_len L k hk]; exact hlt
      have d0 : ∃ x : Int, wr.cell? ⟨w.heap.size, k, none⟩ = some (.int .i64 x) := ⟨(copiedI L k)[k], by rw [ho.cellAt k (by omega), List.getElem?_map, List.getElem?_eq_getElem hml]; rfl⟩
      obtain ⟨y0, d0⟩ := d0
      have f0 : wr.frozen? ⟨w.heap.size, k, none⟩ = false := ho.frozenAt _
      have R : Hid (((wr.setCell ⟨w.heap.size, k, none⟩ (.int .i64 x)).ownsRow w.heap.size 3 1 (.slice (some ⟨w.heap.size, 0, none⟩) L.length L.length) L.length ((copiedI L (k + 1)).map (Value.int .i64))) ∧ Below w.heap.size w (wr.setCell ⟨w.heap.size, k, none⟩ (.int .i64 x))) := by
        obtain ⟨s1, s2⟩ := ho.stored k (.int .i64 x)
        refine ⟨?_, hB.setCell (by exact Nat.le_refl _) _⟩
        rw [← List.map_set, hx.out, copiedI_step L k hlt] at s1
        rw [hx.out]
        exact s1
      clear ho hB
      go_wp2_with fail
      go_roundw
      case rel => exact ⟨k + 1, by omega, by go_num, R.out.2, R.out.1⟩
      case measure => simp [intOf]; omega
    · have e : k = L.length := by omega
      subst e
      rw [copiedI_all] at ho
      go_wp2_with fail
      go_ret
      exact ⟨w.heap.size, rfl, Nat.le_refl _, ho, hB⟩
end Go.Proofs.Ytefaocjcfecipaa
