/-
  What laws.szOpS, toOpS, eqOpS and markOpS answer over this translation.
-/
import Derived.Test.YtcenbamakfamoaaDoorCodeAt
import Derived.Test.YtcenbamakfamoaaDoorToOp
import Derived.OwnWalk
import Derived.Laws.OwnMore
import Derived.Laws.IdiomCopy
namespace Go.Proofs.YtcenbamakfamoaaDoor
open Go.ChangeShapes Go.WideShapes Go.ChangeAt Go.RowKit Go.Joins
/-- what the model knows of steps -/
theorem info_op : ∃ i, Tryd.prog.info? 34 = some i ∧ i.zero = some (.agg #[.int .i64 0, .int .i64 0, .int .i64 0, .int .i64 0, .int .i64 0, .int .i64 0]) ∧ i.size = 6 ∧ i.bytes = 48 :=
  ⟨(Tryd.prog.info? 34).get (by kernel_rfl), (Option.some_get _).symm, by kernel_rfl, by kernel_rfl, by kernel_rfl⟩
theorem szOps_any (ao : Option Addr) (n cap : Nat) (w : World) (hn : n ≤ 9223372036854775807) :
    Calls Tryd.prog 5 #[.slice ao n cap, .int .i64 1048576] w fun e w' => e = .returned (.int .i64 (if n ≤ 1048576 then (1048576 - (n : Int)) else -1)) ∧ w' = w := by
  by_cases h : n ≤ 1048576
  · go_enter Tryd.func5, Tryd.ntmps5
    go_wp2_with fail
    go_ret
    exact ⟨rfl, rfl⟩
  · go_enter Tryd.func5, Tryd.ntmps5
    go_wp2_with fail
    go_ret
    exact ⟨rfl, rfl⟩
theorem made_op (n j : Nat) (h : j < n) : (madeCells (Value.cells (.agg #[.int .i64 0, .int .i64 0, .int .i64 0, .int .i64 0, .int .i64 0, .int .i64 0])) n).toList[j]? = some (.int .i64 0) := by
  have h6 : j % 6 < 6 := Nat.mod_lt _ (by decide)
  have key : ∀ r, r < 6 → (#[.int .i64 0, .int .i64 0, .int .i64 0, .int .i64 0, .int .i64 0, .int .i64 0] : Array Value)[r]! = .int .i64 0
    | 0, _ => rfl
    | 1, _ => rfl
    | 2, _ => rfl
    | 3, _ => rfl
    | 4, _ => rfl
    | 5, _ => rfl
  simp only [madeCells, Value.cells, Array.toList_map, Array.toList_range, List.getElem?_map, List.getElem?_range h, Option.map_some]
  exact congrArg some (key _ h6)
/-- a row of steps of one's own, from block B on -/
structure OwnCode (w : World) (B g : Nat) (C : List OpV) : Prop where
  ge : B ≤ g
  lt : g < w.heap.size
  steps : ∀ i (h : i < C.length), StepAt w g (i * 6) C[i]
  free : ∀ j, w.frozen? ⟨g, j, none⟩ = false
/-- a step put into memory -/
abbrev put6 (w : World) (g o : Nat) (x : OpV) : World :=
  (((((w.setCell ⟨g, o, none⟩ (.int .i64 x.k)).setCell ⟨g, o + 1, none⟩ (.int .i64 x.r)).setCell ⟨g, o + 2, none⟩ (.int .i64 x.s)).setCell ⟨g, o + 3, none⟩ (.int .i64 x.t)).setCell ⟨g, o + 4, none⟩ (.int .i64 x.a)).setCell ⟨g, o + 5, none⟩ (.int .i64 x.b)
theorem put6_eq (w : World) (g o : Nat) (x : OpV) : put6 w g o x = w.setCells g o x.cells := rfl
theorem put6_out (w : World) (g o : Nat) (x : OpV) (b j : Nat) (h : b = g → j < o ∨ o + 6 ≤ j) : (put6 w g o x).cell? ⟨b, j, none⟩ = w.cell? ⟨b, j, none⟩ := by
  rw [put6_eq]; exact World.cell?_setCells_out g _ o w ⟨b, j, none⟩ (fun hb _ => h hb)
theorem put6_frozen (w : World) (g o : Nat) (x : OpV) (p : Addr) : (put6 w g o x).frozen? p = w.frozen? p := by
  rw [put6_eq]; exact World.frozen?_setCells g _ o w p
theorem put6_at (w : World) (g o : Nat) (x : OpV) (h : ∀ j, j < 6 → ∃ v, w.cell? ⟨g, o + j, none⟩ = some v) : StepAt (put6 w g o x) g o x := by
  have k := World.cell?_setCells_in g x.cells o w (fun j hj => by obtain ⟨v, hv⟩ := h j hj; rw [hv]; rfl)
  rw [put6_eq]
  exact ⟨k 0 (by simp [OpV.cells]), k 1 (by simp [OpV.cells]), k 2 (by simp [OpV.cells]), k 3 (by simp [OpV.cells]), k 4 (by simp [OpV.cells]), k 5 (by simp [OpV.cells])⟩
theorem StepAt.out {w w' : World} {b o : Nat} {x : OpV} (h : StepAt w b o x) (e : ∀ j, j < 6 → w'.cell? ⟨b, o + j, none⟩ = w.cell? ⟨b, o + j, none⟩) : StepAt w' b o x :=
  ⟨(e 0 (by decide)).trans h.c0, (e 1 (by decide)).trans h.c1, (e 2 (by decide)).trans h.c2, (e 3 (by decide)).trans h.c3, (e 4 (by decide)).trans h.c4, (e 5 (by decide)).trans h.c5⟩
theorem StepAt.cell {w : World} {b o : Nat} {x : OpV} (h : StepAt w b o x) (j : Nat) (hj : j < 6) : ∃ v : Int, w.cell? ⟨b, o + j, none⟩ = some (.int .i64 v) := by
  match j, hj with
  | 0, _ => exact ⟨_, h.c0⟩
  | 1, _ => exact ⟨_, h.c1⟩
  | 2, _ => exact ⟨_, h.c2⟩
  | 3, _ => exact ⟨_, h.c3⟩
  | 4, _ => exact ⟨_, h.c4⟩
  | 5, _ => exact ⟨_, h.c5⟩
theorem below_put6 {B : Nat} {w w' : World} (h : Below B w w') (g o : Nat) (x : OpV) (hg : B ≤ g) : Below B w (put6 w' g o x) :=
  (((((h.setCell (by exact hg) _).setCell (by exact hg) _).setCell (by exact hg) _).setCell (by exact hg) _).setCell (by exact hg) _).setCell (by exact hg) _
set_option maxRecDepth 20000 in
set_option maxHeartbeats 2000000 in
theorem toOps_any (C : List OpV) (ao : Option Addr) (cap : Nat) (w : World) (hl : C.length ≤ 1048576) (h : CodeAt w ao C) :
    Calls Tryd.prog 7 #[.slice ao C.length cap] w fun e w' => ∃ g, e = .returned (.slice (some ⟨g, 0, none⟩) C.length C.length) ∧ OwnCode w' w.heap.size g C ∧ Below w.heap.size w w' := by
  obtain ⟨inf, i1, i2, i3, i4⟩ := info_op
  go_enter Tryd.func7, Tryd.ntmps7
  go_wp2_with (refine wpList_make_full _ rfl (.tmp 6) (.tmp 6) 25 rfl w.heap.size 34 inf _ 6 Tryd.underlying25 i1 i2 i3 .i64 .i64 _ _ C.length rfl rfl rfl rfl (by rw [i4]; omega) (by unfold maxLen; omega) (Nat.le_refl _) ?_; intro w0 ho hg0)
  have hz0 := hg0.size
  have hB0 : Below w.heap.size w w0 := (Below.refl _ _).grown hg0 (by omega) (by intro k hk; cases hk)
  have hlt : w.heap.size < w0.heap.size := (ho.lt _ rfl).2
  have hsome : ∀ j, j < C.length * 6 → ∃ v : Int, w0.cell? ⟨w.heap.size, j, none⟩ = some (.int .i64 v) := by
    intro j hj
    exact ⟨0, by rw [ho.cellAt j hj]; exact made_op _ _ hj⟩
  have hfree : ∀ j, w0.frozen? ⟨w.heap.size, j, none⟩ = false := fun j => ho.frozenAt j
  clear ho hg0 hz0
  go_loopw [4] (fun i wr => ∃ k : Nat, k ≤ C.length ∧ i = .int .i64 k ∧ Below w.heap.size w wr ∧ w.heap.size < wr.heap.size ∧ (∀ j, j < C.length * 6 → ∃ v : Int, wr.cell? ⟨w.heap.size, j, none⟩ = some (.int .i64 v)) ∧ (∀ j, wr.frozen? ⟨w.heap.size, j, none⟩ = false) ∧ (∀ j (h : j < C.length), j < k → StepAt wr w.heap.size (j * 6) C[j]))
    (fun i _ => C.length - (intOf i).toNat)
  case atStart => exact ⟨0, Nat.zero_le _, rfl, hB0, hlt, hsome, hfree, fun j _ h => by omega⟩
  case round =>
    clear hlt hsome hfree hB0
    obtain ⟨k, hk, rfl, hB, hlt, hsome, hfree, hst⟩ := hrel
    by_cases hlt' : k < C.length
    · rcases h with rfl | ⟨b, o, rfl, hbw, hs⟩
      · exact absurd hlt' (by simp)
      have s := hs k hlt'
      obtain ⟨c0, c1, c2, c3, c4, c5⟩ := s.below (w' := wr) (by exact hB)
      obtain ⟨x, hx0⟩ : ∃ x, x = C[k] := ⟨_, rfl⟩
      rw [← hx0] at c0 c1 c2 c3 c4 c5
      have hx : Hid (x = C[k]) := hx0
      clear hx0 s
      go_wp2_with fail
      refine (toOp_any _ _ _ _ _ _ _).mono ?_
      rintro e w1 ⟨rfl, hb1⟩
      obtain ⟨hc1, hf1⟩ := bcell hb1
      have hB1 : Below w.heap.size w w1 := hB.trans (hb1.mono hB.size)
      obtain ⟨v0, e0⟩ := hsome (k * 6) (by omega)
      obtain ⟨v1, e1⟩ := hsome (k * 6 + 1) (by omega)
      obtain ⟨v2, e2⟩ := hsome (k * 6 + 2) (by omega)
      obtain ⟨v3, e3⟩ := hsome (k * 6 + 3) (by omega)
      obtain ⟨v4, e4⟩ := hsome (k * 6 + 4) (by omega)
      obtain ⟨v5, e5⟩ := hsome (k * 6 + 5) (by omega)
      have d0 : w1.cell? ⟨w.heap.size, k * 6, none⟩ = some (.int .i64 v0) := by rw [hc1 _ _ hlt]; exact e0
      have d1 : w1.cell? ⟨w.heap.size, k * 6 + 1, none⟩ = some (.int .i64 v1) := by rw [hc1 _ _ hlt]; exact e1
      have d2 : w1.cell? ⟨w.heap.size, k * 6 + 2, none⟩ = some (.int .i64 v2) := by rw [hc1 _ _ hlt]; exact e2
      have d3 : w1.cell? ⟨w.heap.size, k * 6 + 3, none⟩ = some (.int .i64 v3) := by rw [hc1 _ _ hlt]; exact e3
      have d4 : w1.cell? ⟨w.heap.size, k * 6 + 4, none⟩ = some (.int .i64 v4) := by rw [hc1 _ _ hlt]; exact e4
      have d5 : w1.cell? ⟨w.heap.size, k * 6 + 5, none⟩ = some (.int .i64 v5) := by rw [hc1 _ _ hlt]; exact e5
      have f0 : w1.frozen? ⟨w.heap.size, k * 6, none⟩ = false := by rw [hf1 _ _ hlt]; exact hfree _
      have f1 : w1.frozen? ⟨w.heap.size, k * 6 + 1, none⟩ = false := by rw [hf1 _ _ hlt]; exact hfree _
      have f2 : w1.frozen? ⟨w.heap.size, k * 6 + 2, none⟩ = false := by rw [hf1 _ _ hlt]; exact hfree _
      have f3 : w1.frozen? ⟨w.heap.size, k * 6 + 3, none⟩ = false := by rw [hf1 _ _ hlt]; exact hfree _
      have f4 : w1.frozen? ⟨w.heap.size, k * 6 + 4, none⟩ = false := by rw [hf1 _ _ hlt]; exact hfree _
      have f5 : w1.frozen? ⟨w.heap.size, k * 6 + 5, none⟩ = false := by rw [hf1 _ _ hlt]; exact hfree _
      have HC : Hid (∀ b o, b < wr.heap.size → w1.cell? ⟨b, o, none⟩ = wr.cell? ⟨b, o, none⟩) := hc1
      have HF : Hid (∀ b o, b < wr.heap.size → w1.frozen? ⟨b, o, none⟩ = wr.frozen? ⟨b, o, none⟩) := hf1
      have HS : Hid (∀ j, j < C.length * 6 → ∃ v : Int, wr.cell? ⟨w.heap.size, j, none⟩ = some (.int .i64 v)) := hsome
      have HR : Hid (∀ j, wr.frozen? ⟨w.heap.size, j, none⟩ = false) := hfree
      clear c0 c1 c2 c3 c4 c5 e0 e1 e2 e3 e4 e5 hc1 hf1 hsome hfree
      go_wp2_with fail
      go_roundw
      case rel =>
        have hcell : ∀ j, j < C.length * 6 → ∃ v : Int, w1.cell? ⟨w.heap.size, j, none⟩ = some (.int .i64 v) := fun j hj => by
          obtain ⟨v, hv⟩ := HS.out j hj
          exact ⟨v, (HC.out _ _ hlt).trans hv⟩
        have hnew := put6_at w1 w.heap.size (k * 6) x (fun j hj => by obtain ⟨v, hv⟩ := hcell (k * 6 + j) (by omega); exact ⟨_, hv⟩)
        have hlt1 : w.heap.size < w1.heap.size := Nat.lt_of_lt_of_le hlt hb1.size
        refine ⟨k + 1, by omega, by go_num, below_put6 hB1 w.heap.size (k * 6) x (Nat.le_refl _), by simpa [World.setCell] using hlt1, fun j hj => ?_, fun j => ?_, fun j hj hjk => ?_⟩
        · by_cases hin : k * 6 ≤ j ∧ j < k * 6 + 6
          · obtain ⟨v, hv⟩ := hnew.cell (j - k * 6) (by omega)
            have e : k * 6 + (j - k * 6) = j := by omega
            rw [e] at hv
            exact ⟨v, hv⟩
          · obtain ⟨v, hv⟩ := hcell j hj
            exact ⟨v, (put6_out w1 w.heap.size (k * 6) x _ _ (fun _ => by omega)).trans hv⟩
        · exact (put6_frozen w1 w.heap.size (k * 6) x _).trans ((HF.out _ _ hlt).trans (HR.out j))
        · by_cases e : j < k
          · exact (hst j hj e).out fun i hi => (put6_out w1 w.heap.size (k * 6) x _ _ (fun _ => by omega)).trans (HC.out _ _ hlt)
          · have : j = k := by omega
            subst this
            rw [← hx.out]
            exact hnew
      case measure => simp [intOf]; omega
    · have e : k = C.length := by omega
      subst e
      go_wp2_with fail
      go_ret
      exact ⟨w.heap.size, rfl, ⟨Nat.le_refl _, hlt, fun i hi => hst i hi hi, hfree⟩, hB⟩
end Go.Proofs.YtcenbamakfamoaaDoor
