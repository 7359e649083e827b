/-
  Rows of numbers over this translation, of any length: what laws.eqIntS, markIntS and heldIntS answer on them.
-/
import Derived.Test.YtefaocjcfecipaaInts
namespace Go.Proofs.Ytefaocjcfecipaa
open Go.ChangeShapes Go.WideShapes Go.ChangeAt Go.RowKit Go.Joins
set_option maxHeartbeats 2000000 in
theorem eqInts_same (S : Nat) (L : List Int) (u v : Value) (w : World) (hl : L.length ≤ 1048576) (hu : Ints S w u L) (hv : Ints S w v L) :
    Calls Try.prog 51 #[u, v] w fun e w' => e = .returned (.bool true) ∧ Below w.heap.size w w' := by
  obtain ⟨ao, c, rfl, hu⟩ := hu
  obtain ⟨bo, d, rfl, hv⟩ := hv
  rcases hu with rfl | ⟨b, o, rfl, _, hc⟩
  · go_enter Try.func51, Try.ntmps51
    go_wp2_with fail
    refine wp_loop_rounds 1 ?_
    rw [rounds_succ]
    go_wp2_with fail
    go_ret
    exact ⟨rfl, Below.refl _ _⟩
  rcases hv with rfl | ⟨b', o', rfl, _, hd⟩
  · go_enter Try.func51, Try.ntmps51
    go_wp2_with fail
    refine wp_loop_rounds 1 ?_
    rw [rounds_succ]
    go_wp2_with fail
    go_ret
    exact ⟨rfl, Below.refl _ _⟩
  · go_enter Try.func51, Try.ntmps51
    go_wp2_with fail
    go_loopw [5] (fun i wr => ∃ k : Nat, k ≤ L.length ∧ i = .int .i64 k ∧ ∃ q, wr = w.drewN q) (fun i _ => L.length - (intOf i).toNat)
    case atStart => exact ⟨0, Nat.zero_le _, rfl, 0, rfl⟩
    case round =>
      obtain ⟨k, hk, rfl, q, rfl⟩ := hrel
      by_cases hlt : k < L.length
      · have c0 : (w.drewN q).cell? ⟨b, o + k, none⟩ = some (.int .i64 L[k]) := hc k hlt
        have d0 : (w.drewN q).cell? ⟨b', o' + k, none⟩ = some (.int .i64 L[k]) := hd k hlt
        obtain ⟨W, hW⟩ : ∃ W, W = w.drewN q := ⟨_, rfl⟩
        rw [← hW] at c0 d0 ⊢
        have HW : Hid (W = w.drewN q) := hW
        clear hW hc hd
        generalize L[k] = x at *
        go_wp2_with fail
        go_quiet (fail)
        go_wp2_with fail
        go_roundw
        case rel => exact ⟨k + 1, by omega, by go_num, q + nq, by rw [HW.out]; simp [World.drewN]; omega⟩
        case measure => simp [intOf]; omega
      · have e : k = L.length := by omega
        subst e
        go_wp2_with fail
        go_ret
        exact ⟨rfl, below_drewN (Below.refl _ _) _⟩
/-- the numbers 1 to n -/
def ups (n : Nat) : List Int := (List.range n).map fun i : Nat => (i : Int) + 1
theorem ups_len (n : Nat) : (ups n).length = n := by simp [ups]
theorem ups_at (n i : Nat) (h : i < n) : (ups n)[i]'(by rw [ups_len]; exact h) = (i : Int) + 1 := by simp [ups]
/-- the first k are marked -/
def marked (L : List Int) (k : Nat) : List Int := ups k ++ L.drop k
theorem marked_len (L : List Int) (k : Nat) (h : k ≤ L.length) : (marked L k).length = L.length := by simp [marked, ups_len]; omega
theorem marked_step (L : List Int) (k : Nat) (h : k < L.length) : (marked L k).set k ((k : Int) + 1) = marked L (k + 1) := by
  unfold marked
  rw [List.set_append_right _ _ (by rw [ups_len]; exact Nat.le_refl _), ups_len, Nat.sub_self, List.drop_eq_getElem_cons h, List.set_cons_zero]
  unfold ups
  rw [List.range_succ, List.map_append]
  simp only [List.map_cons, List.map_nil, List.append_assoc, List.cons_append, List.nil_append]
theorem marked_all (L : List Int) : marked L L.length = ups L.length := by simp [marked]
set_option maxHeartbeats 2000000 in
theorem markInts_any (B : Nat) (L : List Int) (v : Value) (w : World) (hl : L.length ≤ 1048576) (h : Owns w B v L) :
    Calls Try.prog 61 #[v, .int .i64 1] w fun e w' => e = .returned (.int .i64 ((L.length : Int) + 1)) ∧ Owns w' B v (ups L.length) ∧ w.grownBy w' v.ownBlock := by
  rcases h.2 with ⟨rfl, hn⟩ | ⟨g, cap, cur, rfl, hg, hh, _⟩
  · have : L = [] := List.eq_nil_of_length_eq_zero hn
    subst this
    go_enter Try.func61, Try.ntmps61
    go_wp2_with fail
    refine wp_loop_rounds 1 ?_
    rw [rounds_succ]
    go_wp2_with fail
    go_ret
    exact ⟨rfl, by simpa [ups] using h, World.grownBy.refl _ _⟩
  · clear hh
    have h : w.ownsRow B 3 1 (.slice (some ⟨g, 0, none⟩) L.length cap) L.length (L.map (Value.int .i64)) := h
    go_enter Try.func61, Try.ntmps61
    go_wp2_with fail
    go_loopw [1, 5] (fun m i wr => ∃ k : Nat, k ≤ L.length ∧ i = .int .i64 k ∧ m = .int .i64 ((k : Int) + 1) ∧ wr.ownsRow B 3 1 (.slice (some ⟨g, 0, none⟩) L.length cap) L.length ((marked L k).map (Value.int .i64)) ∧ w.grownBy wr (some g)) (fun _ i _ => L.length - (intOf i).toNat)
    case atStart => exact ⟨0, Nat.zero_le _, rfl, rfl, by simpa [marked, ups] using h, World.grownBy.refl _ _⟩
    case round =>
      obtain ⟨k, hk, rfl, rfl, ho, hgr⟩ := hrel
      by_cases hlt : k < L.length
      · have c0 : ∃ x : Int, wr.cell? ⟨g, k, none⟩ = some (.int .i64 x) := by
          refine ⟨(marked L k)[k]'(by rw [marked_len L k hk]; exact hlt), ?_⟩
          rw [ho.cellAt k (by omega), List.getElem?_map, List.getElem?_eq_getElem (by rw [marked_len L k hk]; exact hlt)]; rfl
        obtain ⟨x, c0⟩ := c0
        have f0 : wr.frozen? ⟨g, k, none⟩ = false := ho.frozenAt k
        obtain ⟨s1, s2⟩ := ho.stored k (.int .i64 ((k : Int) + 1))
        have hs : wr.heap.size ≤ (wr.setCell ⟨g, k, none⟩ (.int .i64 ((k : Int) + 1))).heap.size := s2.size
        have R : Hid (((wr.setCell ⟨g, k, none⟩ (.int .i64 ((k : Int) + 1))).ownsRow B 3 1 (.slice (some ⟨g, 0, none⟩) L.length cap) L.length ((marked L (k + 1)).map (Value.int .i64))) ∧ w.grownBy (wr.setCell ⟨g, k, none⟩ (.int .i64 ((k : Int) + 1))) (some g)) := by
          refine ⟨?_, ⟨s2.os.trans hgr.os, s2.tape.trans hgr.tape, s2.output.trans hgr.output, Nat.le_trans hgr.size s2.size, fun j hj hne => (s2.block j (Nat.lt_of_lt_of_le hj hgr.size) hne).trans (hgr.block j hj hne)⟩⟩
          rw [← List.map_set, marked_step L k hlt] at s1
          exact s1
        clear s1 s2 hs ho hgr
        go_wp2_with fail
        go_roundw
        case rel => exact ⟨k + 1, by omega, by go_num, by go_num, R.out.1, R.out.2⟩
        case measure => simp [intOf]; omega
      · have e : k = L.length := by omega
        subst e
        rw [marked_all] at ho
        go_wp2_with fail
        go_ret
        exact ⟨rfl, by unfold Owns; rw [ups_len]; exact ho, hgr⟩
set_option maxHeartbeats 2000000 in
theorem heldInts_any (S : Nat) (n : Nat) (v : Value) (w : World) (hl : n ≤ 1048576) (h : Ints S w v (ups n)) :
    Calls Try.prog 63 #[v, .int .i64 1] w fun e w' => e = .returned (.int .i64 ((n : Int) + 1)) ∧ w' = w := by
  obtain ⟨ao, cap, rfl, h⟩ := h
  rw [ups_len]
  rcases h with h0 | ⟨b, o, rfl, _, hc⟩
  · have : n = 0 := by have := ups_len n; rw [h0] at this; exact this.symm
    subst this
    go_enter Try.func63, Try.ntmps63
    go_wp2_with fail
    refine wp_loop_rounds 1 ?_
    rw [rounds_succ]
    go_wp2_with fail
    go_ret
    exact ⟨rfl, rfl⟩
  · replace hc : ∀ i, i < n → w.cell? ⟨b, o + i, none⟩ = some (.int .i64 ((i : Int) + 1)) := fun i hi => by rw [hc i (by rw [ups_len]; exact hi), ups_at n i hi]
    go_enter Try.func63, Try.ntmps63
    go_wp2_with fail
    go_loop [1, 5] (fun m i => ∃ k : Nat, k ≤ n ∧ i = .int .i64 k ∧ m = .int .i64 ((k : Int) + 1)) (fun _ i => n - (intOf i).toNat)
    case atStart => exact ⟨0, Nat.zero_le _, rfl, rfl⟩
    case round =>
      obtain ⟨k, hk, rfl, rfl⟩ := hrel
      by_cases hlt : k < n
      · have c0 := hc k hlt
        clear hc
        go_wp2_with fail
        go_round
        case rel => exact ⟨k + 1, by omega, by go_num, by go_num⟩
        case measure => simp [intOf]; omega
      · have e : k = n := by omega
        subst e
        clear hc
        go_wp2_with fail
        go_ret
        exact ⟨rfl, rfl⟩
end Go.Proofs.Ytefaocjcfecipaa
