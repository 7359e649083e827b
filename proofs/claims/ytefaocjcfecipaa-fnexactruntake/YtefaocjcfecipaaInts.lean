/-
  Rows of numbers over this translation, of any length: what spec.l11Among, slices.Contains, laws.eqIntS, markIntS and heldIntS answer on them.
-/
import Derived.Test.YtefaocjcfecipaaWalks
import Derived.OwnWalk
import Derived.Laws.OwnMore
namespace Go.Proofs.Ytefaocjcfecipaa
open Go.ChangeShapes Go.WideShapes Go.ChangeAt Go.RowKit Go.Joins
/-- numbers in memory, below block S: none, or a row of them -/
def Ints (S : Nat) (w : World) (v : Value) (L : List Int) : Prop :=
  ∃ ao cap, v = .slice ao L.length cap ∧ (L = [] ∨ ∃ b o, ao = some ⟨b, o, none⟩ ∧ b < S ∧ ∀ i (h : i < L.length), w.cell? ⟨b, o + i, none⟩ = some (.int .i64 L[i]))
theorem Ints.below {S : Nat} {w w' : World} {v : Value} {L : List Int} (h : Ints S w v L) (hb : Below S w w') : Ints S w' v L := by
  obtain ⟨ao, cap, hv, h⟩ := h
  refine ⟨ao, cap, hv, h.imp id ?_⟩
  rintro ⟨b, o, ha, hl, hc⟩
  exact ⟨b, o, ha, hl, fun i hi => (hb.cell (p := ⟨b, o + i, none⟩) hl).trans (hc i hi)⟩
theorem Ints.mono {S T : Nat} {w : World} {v : Value} {L : List Int} (h : Ints S w v L) (hs : S ≤ T) : Ints T w v L := by
  obtain ⟨ao, cap, hv, h⟩ := h
  refine ⟨ao, cap, hv, h.imp id ?_⟩
  rintro ⟨b, o, ha, hl, hc⟩
  exact ⟨b, o, ha, by omega, hc⟩
/-- numbers in a row of one's own -/
abbrev Owns (w : World) (B : Nat) (v : Value) (L : List Int) : Prop := w.ownsRow B 3 1 v L.length (L.map (Value.int .i64))
theorem Owns.ints {w : World} {B : Nat} {v : Value} {L : List Int} (h : Owns w B v L) : Ints w.heap.size w v L := by
  rcases h.2 with ⟨rfl, hn⟩ | ⟨g, cap, cur, rfl, hg, hh, _⟩
  · have : L = [] := List.eq_nil_of_length_eq_zero hn
    subst this
    exact ⟨none, 0, rfl, .inl rfl⟩
  · refine ⟨_, cap, rfl, .inr ⟨g, 0, rfl, ?_, fun i hi => ?_⟩⟩
    · rcases Decidable.em (g < w.heap.size) with h | h
      · exact h
      · rw [Array.getElem?_eq_none (by omega)] at hh; cases hh
    · have := World.ownsRow.cellAt (w := w) (base := B) (e := 3) (size := 1) (g := g) (cap := cap) h i (by omega)
      rw [Nat.zero_add, this, List.getElem?_map, List.getElem?_eq_getElem hi]; rfl
theorem Owns.keep {w w' : World} {B : Nat} {v : Value} {L : List Int} (h : Owns w B v L) {row : Option Nat} (hg : w.grownBy w' row) (hr : ∀ k, row = some k → k < B) : Owns w' B v L :=
  World.ownsRow.kept h hg (by
    cases hv : v.ownBlock with
    | none => exact .inl rfl
    | some k => exact .inr fun e => by have := (World.ownsRow.lt h k hv).1; have := hr k e.symm; omega)
theorem Owns.below {w w' : World} {B : Nat} {v : Value} {L : List Int} (h : Owns w B v L) (hb : Below w.heap.size w w') : Owns w' B v L :=
  h.keep (row := none) ⟨hb.os, hb.tape, hb.output, hb.size, fun k hk _ => hb.block k hk⟩ (fun k e => by cases e)
theorem Owns.mono {w : World} {A B : Nat} {v : Value} {L : List Int} (h : Owns w B v L) (hb : A ≤ B) : Owns w A v L :=
  ⟨h.1, h.2.imp id fun ⟨g, cap, cur, h1, h2, h3⟩ => ⟨g, cap, cur, h1, Nat.le_trans hb h2, h3⟩⟩
theorem info_intI : ∃ i, Try.prog.info? 3 = some i ∧ i.zero = some (.int .i64 0) ∧ i.size = 1 ∧ i.bytes = 8 :=
  ⟨(Try.prog.info? 3).get (by kernel_rfl), (Option.some_get _).symm, by kernel_rfl, by kernel_rfl, by kernel_rfl⟩
def hasI (L : List Int) (n : Int) : Bool := L.contains n
theorem hasI_yes {L : List Int} {n : Int} (h : n ∈ L) : hasI L n = true := by unfold hasI; rw [List.contains_iff_mem]; exact h
theorem hasI_no {L : List Int} {n : Int} (h : ∀ j (h : j < L.length), L[j] ≠ n) : hasI L n = false := by
  unfold hasI; rw [← Bool.not_eq_true, List.contains_iff_mem]; intro hm; obtain ⟨j, hj, e⟩ := List.getElem_of_mem hm; exact h j hj e
set_option maxHeartbeats 1000000 in
theorem among_any (S : Nat) (L : List Int) (v : Value) (n : Int) (w : World) (hl : L.length ≤ 1048576) (h : Ints S w v L) :
    Calls Try.prog 72 #[v, .int .i64 n] w fun e w' => e = .returned (.bool (hasI L n)) ∧ w' = w := by
  obtain ⟨ao, cap, rfl, h⟩ := h
  rcases h with rfl | ⟨b, o, rfl, _, hc⟩
  · go_enter Try.func72, Try.ntmps72
    go_wp2_with fail
    refine wp_loop_rounds 1 ?_
    rw [rounds_succ]
    go_wp2_with fail
    go_ret
    exact ⟨rfl, rfl⟩
  · go_enter Try.func72, Try.ntmps72
    go_wp2_with fail
    go_loop [5] (fun i => ∃ k : Nat, k ≤ L.length ∧ i = .int .i64 k ∧ ∀ j (h : j < L.length), j < k → L[j] ≠ n) (fun i => L.length - (intOf i).toNat)
    case atStart => exact ⟨0, Nat.zero_le _, rfl, fun j _ h => by omega⟩
    case round =>
      obtain ⟨k, hk, rfl, hU⟩ := hrel
      by_cases hlt : k < L.length
      · have c0 := hc k hlt
        obtain ⟨x, hx0⟩ : ∃ x, x = L[k] := ⟨_, rfl⟩
        rw [← hx0] at c0
        have hx : Hid (x = L[k]) := hx0
        clear hx0 hc
        by_cases e0 : x = n
        · have e' : (x == n) = true := by simp [e0]
          have e : Hid (x = n) := e0
          clear e0
          go_wp2_with fail
          go_ret
          have : hasI L n = true := hasI_yes (by rw [← e.out, hx.out]; exact List.getElem_mem hlt)
          exact ⟨by rw [this]; rfl, rfl⟩
        · have e' : (x == n) = false := by simp [e0]
          have e : Hid (¬ x = n) := e0
          clear e0
          go_wp2_with fail
          go_round
          case rel => exact ⟨k + 1, by omega, by go_num, fun j hj hjk => by
            by_cases h : j < k
            · exact hU j hj h
            · have : j = k := by omega
              subst this
              rw [← hx.out]; exact e.out⟩
          case measure => simp [intOf]; omega
      · have e : k = L.length := by omega
        subst e
        go_wp2_with fail
        go_ret
        have : hasI L n = false := hasI_no fun j hj => hU j hj hj
        exact ⟨by rw [this]; rfl, rfl⟩
set_option maxHeartbeats 1000000 in
theorem index_any (S : Nat) (L : List Int) (v : Value) (n : Int) (w : World) (hl : L.length ≤ 1048576) (h : Ints S w v L) :
    Calls Try.prog 78 #[v, .int .i64 n] w fun e w' => ∃ m : Int, e = .returned (.int .i64 m) ∧ decide (0 ≤ m) = hasI L n ∧ w' = w := by
  obtain ⟨ao, cap, rfl, h⟩ := h
  rcases h with rfl | ⟨b, o, rfl, _, hc⟩
  · go_enter Try.func78, Try.ntmps78
    go_wp2_with fail
    refine wp_loop_rounds 1 ?_
    rw [rounds_succ]
    go_wp2_with fail
    go_ret
    exact ⟨_, rfl, rfl, rfl⟩
  · go_enter Try.func78, Try.ntmps78
    go_wp2_with fail
    go_loop [8] (fun i => ∃ k : Nat, k ≤ L.length ∧ i = .int .i64 k ∧ ∀ j (h : j < L.length), j < k → L[j] ≠ n) (fun i => L.length - (intOf i).toNat)
    case atStart => exact ⟨0, Nat.zero_le _, rfl, fun j _ h => by omega⟩
    case round =>
      obtain ⟨k, hk, rfl, hU⟩ := hrel
      by_cases hlt : k < L.length
      · have c0 := hc k hlt
        obtain ⟨x, hx0⟩ : ∃ x, x = L[k] := ⟨_, rfl⟩
        rw [← hx0] at c0
        have hx : Hid (x = L[k]) := hx0
        clear hx0 hc
        by_cases e0 : n = x
        · have e' : (n == x) = true := by simp [e0]
          have e : Hid (n = x) := e0
          clear e0
          go_wp2_with fail
          go_ret
          have : hasI L n = true := hasI_yes (by rw [e.out, hx.out]; exact List.getElem_mem hlt)
          exact ⟨_, rfl, by rw [this]; simp, rfl⟩
        · have e' : (n == x) = false := by simp [e0]
          have e : Hid (¬ n = x) := e0
          clear e0
          go_wp2_with fail
          go_round
          case rel => exact ⟨k + 1, by omega, by go_num, fun j hj hjk => by
            by_cases h : j < k
            · exact hU j hj h
            · have : j = k := by omega
              subst this
              rw [← hx.out]; exact fun h => e.out h.symm⟩
          case measure => simp [intOf]; omega
      · have e : k = L.length := by omega
        subst e
        go_wp2_with fail
        go_ret
        have : hasI L n = false := hasI_no fun j hj => hU j hj hj
        exact ⟨_, rfl, by rw [this]; rfl, rfl⟩
theorem contains_any (S : Nat) (L : List Int) (v : Value) (n : Int) (w : World) (hl : L.length ≤ 1048576) (h : Ints S w v L) :
    Calls Try.prog 70 #[v, .int .i64 n] w fun e w' => e = .returned (.bool (hasI L n)) ∧ w' = w := by
  go_enter Try.func70, Try.ntmps70
  go_wp2_with fail
  refine (index_any S L v n _ hl h).mono ?_
  rintro e w1 ⟨m, rfl, hm, rfl⟩
  have hm' : Hid (decide (0 ≤ m) = hasI L n) := hm
  clear hm
  go_wp2_with fail
  go_ret
  exact ⟨by rw [← hm'.out]; rfl, rfl⟩
end Go.Proofs.Ytefaocjcfecipaa
