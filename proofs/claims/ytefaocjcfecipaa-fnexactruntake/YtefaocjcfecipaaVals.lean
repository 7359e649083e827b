/-
  Rows of values over this translation, of any length: what laws.eqValS, markValS, heldValS and toValS answer on them.
-/
import Derived.Test.YtefaocjcfecipaaInts
import Derived.Laws.IdiomCopy
import Derived.Deep.RegionWith
import Derived.BigRegion
namespace Go.Proofs.Ytefaocjcfecipaa
open Go.ChangeShapes Go.WideShapes Go.ChangeAt Go.RowKit Go.Joins
/-- a value as the model has it -/
abbrev vval (x : Int × Int) : Value := .agg #[.int .i64 x.1, .int .i64 x.2]
/-- the cells of values -/
def cellsV : List (Int × Int) → List Value
  | [] => []
  | x :: L => .int .i64 x.1 :: .int .i64 x.2 :: cellsV L
theorem cellsV_len : ∀ L : List (Int × Int), (cellsV L).length = L.length * 2
  | [] => rfl
  | x :: L => by simp [cellsV, cellsV_len L]; omega
theorem cellsV_at0 : ∀ (L : List (Int × Int)) (i : Nat) (h : i < L.length), (cellsV L)[i * 2]? = some (.int .i64 L[i].1)
  | x :: L, 0, _ => rfl
  | x :: L, i + 1, h => by
    have e : (i + 1) * 2 = i * 2 + 1 + 1 := by omega
    rw [e, cellsV, List.getElem?_cons_succ, List.getElem?_cons_succ, cellsV_at0 L i (by simpa using h)]; rfl
theorem cellsV_at1 : ∀ (L : List (Int × Int)) (i : Nat) (h : i < L.length), (cellsV L)[i * 2 + 1]? = some (.int .i64 L[i].2)
  | x :: L, 0, _ => rfl
  | x :: L, i + 1, h => by
    have e : (i + 1) * 2 + 1 = (i * 2 + 1) + 1 + 1 := by omega
    rw [e, cellsV, List.getElem?_cons_succ, List.getElem?_cons_succ, cellsV_at1 L i (by simpa using h)]; rfl
theorem cellsV_set : ∀ (L : List (Int × Int)) (i : Nat) (_ : i < L.length) (a b : Int), ((cellsV L).set (i * 2) (.int .i64 a)).set (i * 2 + 1) (.int .i64 b) = cellsV (L.set i (a, b))
  | x :: L, 0, _, a, b => rfl
  | x :: L, i + 1, h, a, b => by
    have e : (i + 1) * 2 = i * 2 + 1 + 1 := by omega
    have e1 : (i + 1) * 2 + 1 = (i * 2 + 1) + 1 + 1 := by omega
    rw [e1, e, cellsV, List.set_cons_succ, List.set_cons_succ, List.set_cons_succ, List.set_cons_succ, cellsV_set L i (by simpa using h) a b]; rfl
/-- one value in memory -/
structure ValAt (w : World) (b o : Nat) (x : Int × Int) : Prop where
  c0 : w.cell? ⟨b, o, none⟩ = some (.int .i64 x.1)
  c1 : w.cell? ⟨b, o + 1, none⟩ = some (.int .i64 x.2)
theorem ValAt.below {S : Nat} {w w' : World} {b o : Nat} {x : Int × Int} (h : ValAt w b o x) (hl : b < S) (hb : Below S w w') : ValAt w' b o x :=
  ⟨(hb.cell (p := ⟨b, o, none⟩) hl).trans h.c0, (hb.cell (p := ⟨b, o + 1, none⟩) hl).trans h.c1⟩
/-- values in memory, below block S: none, or a row of them -/
def Vals (S : Nat) (w : World) (v : Value) (L : List (Int × Int)) : Prop :=
  ∃ ao cap, v = .slice ao L.length cap ∧ (L = [] ∨ ∃ b o, ao = some ⟨b, o, none⟩ ∧ b < S ∧ ∀ i (h : i < L.length), ValAt w b (o + i * 2) L[i])
theorem Vals.below {S : Nat} {w w' : World} {v : Value} {L : List (Int × Int)} (h : Vals S w v L) (hb : Below S w w') : Vals S w' v L := by
  obtain ⟨ao, cap, hv, h⟩ := h
  refine ⟨ao, cap, hv, h.imp id ?_⟩
  rintro ⟨b, o, ha, hl, hc⟩
  exact ⟨b, o, ha, hl, fun i hi => (hc i hi).below hl hb⟩
theorem Vals.mono {S T : Nat} {w : World} {v : Value} {L : List (Int × Int)} (h : Vals S w v L) (hs : S ≤ T) : Vals T w v L := by
  obtain ⟨ao, cap, hv, h⟩ := h
  refine ⟨ao, cap, hv, h.imp id ?_⟩
  rintro ⟨b, o, ha, hl, hc⟩
  exact ⟨b, o, ha, by omega, hc⟩
/-- values in a row of one's own -/
abbrev OwnsV (w : World) (B : Nat) (v : Value) (L : List (Int × Int)) : Prop := w.ownsRow B 24 2 v L.length (cellsV L)
theorem OwnsV.vals {w : World} {B : Nat} {v : Value} {L : List (Int × Int)} (h : OwnsV w B v L) : Vals w.heap.size w v L := by
  rcases h.2 with ⟨rfl, hn⟩ | ⟨g, cap, cur, rfl, hg, hh, _⟩
  · have : L = [] := List.eq_nil_of_length_eq_zero hn
    subst this
    exact ⟨none, 0, rfl, .inl rfl⟩
  · refine ⟨_, cap, rfl, .inr ⟨g, 0, rfl, ?_, fun i hi => ?_⟩⟩
    · rcases Decidable.em (g < w.heap.size) with h | h
      · exact h
      · rw [Array.getElem?_eq_none (by omega)] at hh; cases hh
    · have k := World.ownsRow.cellAt (w := w) (base := B) (e := 24) (size := 2) (g := g) (cap := cap) h
      refine ⟨?_, ?_⟩
      · rw [Nat.zero_add, k (i * 2) (by omega), cellsV_at0 L i hi]
      · rw [Nat.zero_add, k (i * 2 + 1) (by omega), cellsV_at1 L i hi]
theorem OwnsV.keep {w w' : World} {B : Nat} {v : Value} {L : List (Int × Int)} (h : OwnsV w B v L) {row : Option Nat} (hg : w.grownBy w' row) (hr : ∀ k, row = some k → v.ownBlock ≠ some k) : OwnsV w' B v L :=
  World.ownsRow.kept h hg (by
    cases row with
    | none => cases hv : v.ownBlock with
      | none => exact .inl rfl
      | some k => exact .inr (by simp)
    | some k => exact .inr (hr k rfl))
theorem OwnsV.below {w w' : World} {B : Nat} {v : Value} {L : List (Int × Int)} (h : OwnsV w B v L) (hb : Below w.heap.size w w') : OwnsV w' B v L :=
  h.keep (row := none) ⟨hb.os, hb.tape, hb.output, hb.size, fun k hk _ => hb.block k hk⟩ (fun k e => by cases e)
theorem OwnsV.mono {w : World} {A B : Nat} {v : Value} {L : List (Int × Int)} (h : OwnsV w B v L) (hb : A ≤ B) : OwnsV w A v L :=
  ⟨h.1, h.2.imp id fun ⟨g, cap, cur, h1, h2, h3⟩ => ⟨g, cap, cur, h1, Nat.le_trans hb h2, h3⟩⟩
theorem info_val : ∃ i, Try.prog.info? 24 = some i ∧ i.zero = some (.agg #[.int .i64 0, .int .i64 0]) ∧ i.size = 2 ∧ i.bytes = 16 :=
  ⟨(Try.prog.info? 24).get (by kernel_rfl), (Option.some_get _).symm, by kernel_rfl, by kernel_rfl, by kernel_rfl⟩
theorem eqVal_same (a b : Int) (w : World) : Calls Try.prog 21 #[.agg #[.int .i64 a, .int .i64 b], .agg #[.int .i64 a, .int .i64 b]] w fun e w' => e = .returned (.bool true) ∧ Below w.heap.size w w' := by
  go_enter Try.func21, Try.ntmps21
  go_wp2_with fail
  go_ret
  exact ⟨rfl, ((Below.refl _ _).alloc (Nat.le_refl _) _).alloc (by simp) _⟩
set_option maxRecDepth 20000 in
set_option maxHeartbeats 2000000 in
theorem eqVals_same (S : Nat) (L : List (Int × Int)) (u v : Value) (w : World) (hl : L.length ≤ 1048576) (hS : S ≤ w.heap.size) (hu : Vals S w u L) (hv : Vals S w v L) :
    Calls Try.prog 50 #[u, v] w fun e w' => e = .returned (.bool true) ∧ Below w.heap.size w w' := by
  obtain ⟨ao, c, rfl, hu⟩ := hu
  obtain ⟨bo, d, rfl, hv⟩ := hv
  rcases hu with rfl | ⟨b, o, rfl, hbS, hc⟩
  · go_enter Try.func50, Try.ntmps50
    go_wp2_with fail
    refine wp_loop_rounds 1 ?_
    rw [rounds_succ]
    go_wp2_with fail
    go_ret
    exact ⟨rfl, Below.refl _ _⟩
  rcases hv with rfl | ⟨b', o', rfl, hbS', hd⟩
  · go_enter Try.func50, Try.ntmps50
    go_wp2_with fail
    refine wp_loop_rounds 1 ?_
    rw [rounds_succ]
    go_wp2_with fail
    go_ret
    exact ⟨rfl, Below.refl _ _⟩
  · go_enter Try.func50, Try.ntmps50
    go_wp2_with fail
    go_loopw [5] (fun i wr => ∃ k : Nat, k ≤ L.length ∧ i = .int .i64 k ∧ Below w.heap.size w wr) (fun i _ => L.length - (intOf i).toNat)
    case atStart => exact ⟨0, Nat.zero_le _, rfl, Below.refl _ _⟩
    case round =>
      obtain ⟨k, hk, rfl, hB⟩ := hrel
      by_cases hlt' : k < L.length
      · obtain ⟨c0, c1⟩ := (hc k hlt').below (w' := wr) (S := w.heap.size) (by omega) hB
        obtain ⟨d0, d1⟩ := (hd k hlt').below (w' := wr) (S := w.heap.size) (by omega) hB
        generalize L[k] = x at c0 c1 d0 d1
        obtain ⟨x, y⟩ := x
        dsimp only at c0 c1 d0 d1
        clear hc hd
        go_wp2_with fail
        go_region_with (go_at_call 21; refine (eqVal_same x y _).mono ?_; rintro e w1 ⟨rfl, hb1⟩)
        all_goals
          have hB1 : Below w.heap.size w w1 := hB.trans ((show Below wr.heap.size wr w1 from ⟨hb1.os, hb1.tape, hb1.output, hb1.size, hb1.block⟩).mono hB.size)
          go_step
          go_wp2_with fail
          go_roundw
          case rel => exact ⟨k + 1, by omega, by go_num, hB1⟩
          case measure => simp [intOf]; omega
      · have e : k = L.length := by omega
        subst e
        go_wp2_with fail
        go_ret
        exact ⟨rfl, hB⟩
end Go.Proofs.Ytefaocjcfecipaa
