/-
  Rows of numbers and of values over this translation, of any length: what laws.markIntS, markValS, heldIntS and heldValS answer on them, from any number on.
-/
import Derived.Test.YtefaocjcfecipaaVals
namespace Go.Proofs.Ytefaocjcfecipaa
open Go.ChangeShapes Go.WideShapes Go.ChangeAt Go.RowKit Go.Joins
/-- n numbers from a on -/
def upsI (a : Int) (n : Nat) : List Int := (List.range n).map fun i : Nat => a + (i : Int)
theorem upsI_len (a : Int) (n : Nat) : (upsI a n).length = n := by simp [upsI]
theorem upsI_at (a : Int) (n i : Nat) (h : i < n) : (upsI a n)[i]'(by rw [upsI_len]; exact h) = a + (i : Int) := by simp [upsI]
/-- the first k are marked -/
def markedI (a : Int) (L : List Int) (k : Nat) : List Int := upsI a k ++ L.drop k
theorem markedI_len (a : Int) (L : List Int) (k : Nat) (h : k ≤ L.length) : (markedI a L k).length = L.length := by simp [markedI, upsI_len]; omega
theorem markedI_step (a : Int) (L : List Int) (k : Nat) (h : k < L.length) : (markedI a L k).set k (a + (k : Int)) = markedI a L (k + 1) := by
  unfold markedI
  rw [List.set_append_right _ _ (by rw [upsI_len]; exact Nat.le_refl _), upsI_len, Nat.sub_self, List.drop_eq_getElem_cons h, List.set_cons_zero]
  unfold upsI
  rw [List.range_succ, List.map_append]
  simp only [List.map_cons, List.map_nil, List.append_assoc, List.cons_append, List.nil_append]
theorem markedI_all (a : Int) (L : List Int) : markedI a L L.length = upsI a L.length := by simp [markedI]
set_option maxHeartbeats 2000000 in
theorem markInts_from (B : Nat) (a : Int) (ha0 : 0 ≤ a) (ha1 : a ≤ 1099511627776) (L : List Int) (v : Value) (w : World) (hl : L.length ≤ 1048576) (h : Owns w B v L) :
    Calls Try.prog 61 #[v, .int .i64 a] w fun e w' => e = .returned (.int .i64 (a + (L.length : Int))) ∧ Owns w' B v (upsI a L.length) ∧ w.grownBy w' v.ownBlock := by
  rcases h.2 with ⟨rfl, hn⟩ | ⟨g, cap, cur, rfl, hg, hh, _⟩
  · have : L = [] := List.eq_nil_of_length_eq_zero hn
    subst this
    go_enter Try.func61, Try.ntmps61
    go_wp2_with fail
    refine wp_loop_rounds 1 ?_
    rw [rounds_succ]
    go_wp2_with fail
    go_ret
    exact ⟨by simp, by simpa [upsI] using h, World.grownBy.refl _ _⟩
  · clear hh
    have h : w.ownsRow B 3 1 (.slice (some ⟨g, 0, none⟩) L.length cap) L.length (L.map (Value.int .i64)) := h
    go_enter Try.func61, Try.ntmps61
    go_wp2_with fail
    go_loopw [1, 5] (fun m i wr => ∃ k : Nat, k ≤ L.length ∧ i = .int .i64 k ∧ m = .int .i64 (a + (k : Int)) ∧ wr.ownsRow B 3 1 (.slice (some ⟨g, 0, none⟩) L.length cap) L.length ((markedI a L k).map (Value.int .i64)) ∧ w.grownBy wr (some g)) (fun _ i _ => L.length - (intOf i).toNat)
    case atStart => exact ⟨0, Nat.zero_le _, rfl, by simp, by simpa [markedI, upsI] using h, World.grownBy.refl _ _⟩
    case round =>
      obtain ⟨k, hk, rfl, rfl, ho, hgr⟩ := hrel
      by_cases hlt : k < L.length
      · have c0 : ∃ x : Int, wr.cell? ⟨g, k, none⟩ = some (.int .i64 x) := by
          refine ⟨(markedI a L k)[k]'(by rw [markedI_len a L k hk]; exact hlt), ?_⟩
          rw [ho.cellAt k (by omega), List.getElem?_map, List.getElem?_eq_getElem (by rw [markedI_len a L k hk]; exact hlt)]; rfl
        obtain ⟨x, c0⟩ := c0
        have f0 : wr.frozen? ⟨g, k, none⟩ = false := ho.frozenAt k
        obtain ⟨s1, s2⟩ := ho.stored k (.int .i64 (a + (k : Int)))
        have hs : wr.heap.size ≤ (wr.setCell ⟨g, k, none⟩ (.int .i64 (a + (k : Int)))).heap.size := s2.size
        have R : Hid (((wr.setCell ⟨g, k, none⟩ (.int .i64 (a + (k : Int)))).ownsRow B 3 1 (.slice (some ⟨g, 0, none⟩) L.length cap) L.length ((markedI a L (k + 1)).map (Value.int .i64))) ∧ w.grownBy (wr.setCell ⟨g, k, none⟩ (.int .i64 (a + (k : Int)))) (some g)) := by
          refine ⟨?_, ⟨s2.os.trans hgr.os, s2.tape.trans hgr.tape, s2.output.trans hgr.output, Nat.le_trans hgr.size s2.size, fun j hj hne => (s2.block j (Nat.lt_of_lt_of_le hj hgr.size) hne).trans (hgr.block j hj hne)⟩⟩
          rw [← List.map_set, markedI_step a L k hlt] at s1
          exact s1
        clear s1 s2 hs ho hgr
        go_wp2_with fail
        go_roundw
        case rel => exact ⟨k + 1, by omega, by go_num, by go_num, R.out.1, R.out.2⟩
        case measure => simp [intOf]; omega
      · have e : k = L.length := by omega
        subst e
        rw [markedI_all] at ho
        go_wp2_with fail
        go_ret
        exact ⟨rfl, by unfold Owns; rw [upsI_len]; exact ho, hgr⟩
set_option maxHeartbeats 2000000 in
theorem heldInts_from (S : Nat) (a : Int) (ha0 : 0 ≤ a) (ha1 : a ≤ 1099511627776) (n : Nat) (v : Value) (w : World) (hl : n ≤ 1048576) (h : Ints S w v (upsI a n)) :
    Calls Try.prog 63 #[v, .int .i64 a] w fun e w' => e = .returned (.int .i64 (a + (n : Int))) ∧ w' = w := by
  obtain ⟨ao, cap, rfl, h⟩ := h
  rw [upsI_len]
  rcases h with h0 | ⟨b, o, rfl, _, hc⟩
  · have : n = 0 := by have := upsI_len a n; rw [h0] at this; exact this.symm
    subst this
    go_enter Try.func63, Try.ntmps63
    go_wp2_with fail
    refine wp_loop_rounds 1 ?_
    rw [rounds_succ]
    go_wp2_with fail
    go_ret
    exact ⟨by simp, rfl⟩
  · replace hc : ∀ i, i < n → w.cell? ⟨b, o + i, none⟩ = some (.int .i64 (a + (i : Int))) := fun i hi => by rw [hc i (by rw [upsI_len]; exact hi), upsI_at a n i hi]
    go_enter Try.func63, Try.ntmps63
    go_wp2_with fail
    go_loop [1, 5] (fun m i => ∃ k : Nat, k ≤ n ∧ i = .int .i64 k ∧ m = .int .i64 (a + (k : Int))) (fun _ i => n - (intOf i).toNat)
    case atStart => exact ⟨0, Nat.zero_le _, rfl, by simp⟩
    case round =>
      obtain ⟨k, hk, rfl, rfl⟩ := hrel
      by_cases hlt : k < n
      · have c0 := hc k hlt
        clear hc
        go_wp2_with fail
        go_round
        case rel => exact ⟨k + 1, by omega, by go_num, by go_num⟩
        case measure => simp [intOf]; omega
      · have e : k = n := by omega
        subst e
        clear hc
        go_wp2_with fail
        go_ret
        exact ⟨rfl, rfl⟩
/-! ### values -/
def upsV (a : Int) (n : Nat) : List (Int × Int) := (List.range n).map fun i : Nat => (a + 2 * (i : Int), a + 2 * (i : Int) + 1)
theorem upsV_len (a : Int) (n : Nat) : (upsV a n).length = n := by simp [upsV]
theorem upsV_at (a : Int) (n i : Nat) (h : i < n) : (upsV a n)[i]'(by rw [upsV_len]; exact h) = (a + 2 * (i : Int), a + 2 * (i : Int) + 1) := by simp [upsV]
def markedV (a : Int) (L : List (Int × Int)) (k : Nat) : List (Int × Int) := upsV a k ++ L.drop k
theorem markedV_len (a : Int) (L : List (Int × Int)) (k : Nat) (h : k ≤ L.length) : (markedV a L k).length = L.length := by simp [markedV, upsV_len]; omega
theorem markedV_step (a : Int) (L : List (Int × Int)) (k : Nat) (h : k < L.length) : (markedV a L k).set k (a + 2 * (k : Int), a + 2 * (k : Int) + 1) = markedV a L (k + 1) := by
  unfold markedV
  rw [List.set_append_right _ _ (by rw [upsV_len]; exact Nat.le_refl _), upsV_len, Nat.sub_self, List.drop_eq_getElem_cons h, List.set_cons_zero]
  unfold upsV
  rw [List.range_succ, List.map_append]
  simp only [List.map_cons, List.map_nil, List.append_assoc, List.cons_append, List.nil_append]
theorem markedV_all (a : Int) (L : List (Int × Int)) : markedV a L L.length = upsV a L.length := by simp [markedV]
set_option maxHeartbeats 4000000 in
theorem markVals_from (B : Nat) (a : Int) (ha0 : 0 ≤ a) (ha1 : a ≤ 1099511627776) (L : List (Int × Int)) (v : Value) (w : World) (hl : L.length ≤ 1048576) (h : OwnsV w B v L) :
    Calls Try.prog 60 #[v, .int .i64 a] w fun e w' => e = .returned (.int .i64 (a + 2 * (L.length : Int))) ∧ OwnsV w' B v (upsV a L.length) ∧ w.grownBy w' v.ownBlock := by
  rcases h.2 with ⟨rfl, hn⟩ | ⟨g, cap, cur, rfl, hg, hh, _⟩
  · have : L = [] := List.eq_nil_of_length_eq_zero hn
    subst this
    go_enter Try.func60, Try.ntmps60
    go_wp2_with fail
    refine wp_loop_rounds 1 ?_
    rw [rounds_succ]
    go_wp2_with fail
    go_ret
    exact ⟨by simp, by simpa [upsV, cellsV] using h, World.grownBy.refl _ _⟩
  · clear hh
    have h : w.ownsRow B 24 2 (.slice (some ⟨g, 0, none⟩) L.length cap) L.length (cellsV L) := h
    go_enter Try.func60, Try.ntmps60
    go_wp2_with fail
    go_loopw [1, 5] (fun m i wr => ∃ k : Nat, k ≤ L.length ∧ i = .int .i64 k ∧ m = .int .i64 (a + 2 * (k : Int)) ∧ wr.ownsRow B 24 2 (.slice (some ⟨g, 0, none⟩) L.length cap) L.length (cellsV (markedV a L k)) ∧ w.grownBy wr (some g)) (fun _ i _ => L.length - (intOf i).toNat)
    case atStart => exact ⟨0, Nat.zero_le _, rfl, by simp, by simpa [markedV, upsV] using h, World.grownBy.refl _ _⟩
    case round =>
      obtain ⟨k, hk, rfl, rfl, ho, hgr⟩ := hrel
      by_cases hlt : k < L.length
      · have hml : k < (markedV a L k).length := by rw [markedV_len a L k hk]; exact hlt
        have c0 : ∃ x : Int, wr.cell? ⟨g, k * 2, none⟩ = some (.int .i64 x) := ⟨_, by rw [ho.cellAt (k * 2) (by omega)]; exact cellsV_at0 _ k hml⟩
        have c1 : ∃ x : Int, wr.cell? ⟨g, k * 2 + 1, none⟩ = some (.int .i64 x) := ⟨_, by rw [ho.cellAt (k * 2 + 1) (by omega)]; exact cellsV_at1 _ k hml⟩
        obtain ⟨x, c0⟩ := c0
        obtain ⟨y, c1⟩ := c1
        have f0 : wr.frozen? ⟨g, k * 2, none⟩ = false := ho.frozenAt _
        have f1 : wr.frozen? ⟨g, k * 2 + 1, none⟩ = false := ho.frozenAt _
        have R : Hid ((((wr.setCell ⟨g, k * 2, none⟩ (.int .i64 (a + 2 * (k : Int)))).setCell ⟨g, k * 2 + 1, none⟩ (.int .i64 (a + 2 * (k : Int) + 1))).ownsRow B 24 2 (.slice (some ⟨g, 0, none⟩) L.length cap) L.length (cellsV (markedV a L (k + 1)))) ∧ w.grownBy ((wr.setCell ⟨g, k * 2, none⟩ (.int .i64 (a + 2 * (k : Int)))).setCell ⟨g, k * 2 + 1, none⟩ (.int .i64 (a + 2 * (k : Int) + 1))) (some g)) := by
          obtain ⟨s1, s2⟩ := ho.stored (k * 2) (.int .i64 (a + 2 * (k : Int)))
          obtain ⟨t1, t2⟩ := s1.stored (k * 2 + 1) (.int .i64 (a + 2 * (k : Int) + 1))
          have q : w.grownBy (wr.setCell ⟨g, k * 2, none⟩ (.int .i64 (a + 2 * (k : Int)))) (some g) := ⟨s2.os.trans hgr.os, s2.tape.trans hgr.tape, s2.output.trans hgr.output, Nat.le_trans hgr.size s2.size, fun j hj hne => (s2.block j (Nat.lt_of_lt_of_le hj hgr.size) hne).trans (hgr.block j hj hne)⟩
          refine ⟨?_, ⟨t2.os.trans q.os, t2.tape.trans q.tape, t2.output.trans q.output, Nat.le_trans q.size t2.size, fun j hj hne => (t2.block j (Nat.lt_of_lt_of_le hj q.size) hne).trans (q.block j hj hne)⟩⟩
          rw [cellsV_set _ k hml, markedV_step a L k hlt] at t1
          exact t1
        clear ho hgr
        go_wp2_with fail
        go_roundw
        case rel => exact ⟨k + 1, by omega, by go_num, by first | go_num | (congr 1; omega), R.out.1, R.out.2⟩
        case measure => simp [intOf]; omega
      · have e : k = L.length := by omega
        subst e
        rw [markedV_all] at ho
        go_wp2_with fail
        go_ret
        exact ⟨rfl, by unfold OwnsV; rw [upsV_len]; exact ho, hgr⟩
set_option maxHeartbeats 2000000 in
theorem heldVals_from (S : Nat) (a : Int) (ha0 : 0 ≤ a) (ha1 : a ≤ 1099511627776) (n : Nat) (v : Value) (w : World) (hl : n ≤ 1048576) (h : Vals S w v (upsV a n)) :
    Calls Try.prog 62 #[v, .int .i64 a] w fun e w' => e = .returned (.int .i64 (a + 2 * (n : Int))) ∧ w' = w := by
  obtain ⟨ao, cap, rfl, h⟩ := h
  rw [upsV_len]
  rcases h with h0 | ⟨b, o, rfl, _, hc⟩
  · have : n = 0 := by have := upsV_len a n; rw [h0] at this; exact this.symm
    subst this
    go_enter Try.func62, Try.ntmps62
    go_wp2_with fail
    refine wp_loop_rounds 1 ?_
    rw [rounds_succ]
    go_wp2_with fail
    go_ret
    exact ⟨by simp, rfl⟩
  · replace hc : ∀ i, i < n → ValAt w b (o + i * 2) (a + 2 * (i : Int), a + 2 * (i : Int) + 1) := fun i hi => by rw [← upsV_at a n i hi]; exact hc i (by rw [upsV_len]; exact hi)
    go_enter Try.func62, Try.ntmps62
    go_wp2_with fail
    go_loop [1, 5] (fun m i => ∃ k : Nat, k ≤ n ∧ i = .int .i64 k ∧ m = .int .i64 (a + 2 * (k : Int))) (fun _ i => n - (intOf i).toNat)
    case atStart => exact ⟨0, Nat.zero_le _, rfl, by simp⟩
    case round =>
      obtain ⟨k, hk, rfl, rfl⟩ := hrel
      by_cases hlt : k < n
      · obtain ⟨c0, c1⟩ := hc k hlt
        dsimp only at c0 c1
        clear hc
        go_wp2_with fail
        go_round
        case rel => exact ⟨k + 1, by omega, by go_num, by first | go_num | (congr 1; omega)⟩
        case measure => simp [intOf]; omega
      · have e : k = n := by omega
        subst e
        clear hc
        go_wp2_with fail
        go_ret
        exact ⟨rfl, rfl⟩
end Go.Proofs.Ytefaocjcfecipaa
