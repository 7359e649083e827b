/-
  A list of values, or of numbers, appended to a row of one's own, over this translation: the row stays in its block, or goes into a new one.
-/
import Derived.Test.YtefaocjcfecipaaVals
import Derived.Maps.AppendAt
import Derived.Laws.OwnMore
import Derived.Deep.AppendLies
namespace Go.Proofs.Ytefaocjcfecipaa
open Go.ChangeShapes Go.WideShapes Go.ChangeAt Go.RowKit Go.Joins
theorem add_flat (b o i : Nat) : (⟨b, o, none⟩ : Addr).add i = ⟨b, o + i, none⟩ := by
  unfold Addr.add
  split
  · rename_i e; subst e; rfl
  · rfl
theorem newsV {w : World} {M : List (Int × Int)} {b o : Nat} (h : ∀ i (h : i < M.length), ValAt w b (o + i * 2) M[i]) : ∀ j u, (cellsV M)[j]? = some u → w.cell? ((⟨b, o, none⟩ : Addr).add j) = some u := fun j u hu => by
  have hj : j < M.length * 2 := by
    rcases Nat.lt_or_ge j (M.length * 2) with h | h
    · exact h
    · rw [List.getElem?_eq_none (by rw [cellsV_len]; exact h)] at hu; cases hu
  rw [add_flat]
  by_cases hm : j % 2 = 0
  · have e : j = j / 2 * 2 := by omega
    have hi : j / 2 < M.length := by omega
    rw [e, cellsV_at0 M (j / 2) hi] at hu
    rw [e, ← hu]
    exact (h (j / 2) hi).1
  · have e : j = j / 2 * 2 + 1 := by omega
    have hi : j / 2 < M.length := by omega
    rw [e, cellsV_at1 M (j / 2) hi] at hu
    rw [e, ← hu, ← Nat.add_assoc]
    exact (h (j / 2) hi).2
theorem oneV : ∀ M : List (Int × Int), ∀ u ∈ cellsV M, u.oneCell' = true
  | [], u, h => by cases h
  | x :: M, u, h => by
    rcases List.mem_cons.1 h with rfl | h
    · rfl
    rcases List.mem_cons.1 h with rfl | h
    · rfl
    · exact oneV M u h
theorem cellsV_app : ∀ L M : List (Int × Int), cellsV (L ++ M) = cellsV L ++ cellsV M
  | [], M => rfl
  | x :: L, M => by rw [List.cons_append, cellsV, cellsV_app L M]; rfl
theorem newsI {w : World} {M : List Int} {b o : Nat} (h : ∀ i (h : i < M.length), w.cell? ⟨b, o + i, none⟩ = some (.int .i64 M[i])) : ∀ j u, (M.map (Value.int .i64))[j]? = some u → w.cell? ((⟨b, o, none⟩ : Addr).add j) = some u := fun j u hu => by
  have hj : j < M.length := by
    rcases Nat.lt_or_ge j M.length with h | h
    · exact h
    · rw [List.getElem?_eq_none (by rw [List.length_map]; exact h)] at hu; cases hu
  rw [add_flat, h j hj, ← hu, List.getElem?_map, List.getElem?_eq_getElem hj]; rfl
theorem oneI (M : List Int) : ∀ u ∈ M.map (Value.int .i64), u.oneCell' = true := fun u h => by
  obtain ⟨x, _, rfl⟩ := List.mem_map.1 h; rfl
theorem run_append_V {w : World} {base S : Nat} {v x : Value} {L M : List (Int × Int)} (ty : TypeId) (ho : OwnsV w base v L) (hx : Vals S w x M) (hn : L.length + M.length ≤ 16777216) (hb : base ≤ w.heap.size) :
    ∃ v' w', (Builtin.append_ #[27, 27] ty #[v, x]).run Try.prog w = .ok v' w' ∧ OwnsV w' base v' (L ++ M) ∧ w.grownBy w' v.ownBlock ∧ (v'.ownBlock = v.ownBlock ∨ v'.ownBlock = some w.heap.size) := by
  obtain ⟨inf, i1, i2, i3, i4⟩ := info_val
  obtain ⟨ao, cap, rfl, hx⟩ := hx
  cases ao with
  | none =>
    have hM : M = [] := by rcases hx with h | ⟨b, o, h, _⟩; exact h; cases h
    subst hM
    refine ⟨v, w, ?_, by rw [List.append_nil]; exact ho, World.grownBy.refl _ _, .inl rfl⟩
    rcases ho.2 with ⟨rfl, hl⟩ | ⟨g, cap', cur, rfl, _, _, hnc, _⟩
    · simp [Builtin.append_, run_underlying Try.underlying27, sizeOf, typeInfo, i1, Builtin.lenOf, Builtin.firstCells]
    · simp [Builtin.append_, run_underlying Try.underlying27, sizeOf, typeInfo, i1, Builtin.lenOf, Builtin.firstCells, hnc, storeCells]
  | some a =>
    have hnews : ∀ j u, (cellsV M)[j]? = some u → w.cell? (a.add j) = some u := by
      rcases hx with rfl | ⟨b, o, e, _, h⟩
      · intro j u h; cases h
      · cases e; exact newsV h
    obtain ⟨v', w', hrun, h1, h2, _, h4⟩ := run_append_own_at (P := Try.prog) w base 27 ty 24 inf (.agg #[.int .i64 0, .int .i64 0]) 2 16 Try.underlying27 i1 i2 i3 i4 rfl (by decide) v _ _ ho a M.length cap (cellsV M) (by rw [cellsV_len]) hnews (oneV M) (by unfold maxLen; omega) (by omega) hb
    exact ⟨v', w', hrun, by rw [OwnsV, List.length_append, cellsV_app]; exact h1, h2, h4⟩
theorem wpList_append_V (w : World) {ops : Array Oper} {rest : List Oper} {o : Oper} {a : Act} {R : Exit → Act → World → Prop} (hgd : o.guard = none) (s x : Operand)
    (ho : o.op = .call { callee := .builtin .append, args := #[s, x], argTypes := #[27, 27] }) {base S : Nat} {v y : Value} {L M : List (Int × Int)} (hv : a.eval s = v) (hx : a.eval x = y)
    (hq : OwnsV w base v L) (hy : Vals S w y M) (hn : L.length + M.length ≤ 16777216) (hb : base ≤ w.heap.size)
    (hK : ∀ v' w', OwnsV w' base v' (L ++ M) → w.grownBy w' v.ownBlock → (v'.ownBlock = v.ownBlock ∨ v'.ownBlock = some w.heap.size) → wpList Try.prog ops R rest (a.put o.dst v') w') : wpList Try.prog ops R (o :: rest) a w := by
  refine wpList_plain hgd fun K hK' => ?_
  obtain ⟨v', w', hrun, h1, h2, h3⟩ := run_append_V o.type hq hy hn hb
  unfold Oper.wp
  simp [execOp, ho, resolve, invoke, builtin, hv, hx, hrun, Result.andThen]
  exact hK' _ _ (hK v' w' h1 h2 h3)
theorem step_append_V (w : World) {ops : Array Oper} {o : Oper} {a : Act} {K : Act → World → Prop} {Q : Exit → Act → World → Prop} {E : Prop} (hgd : o.guard = none) (s x : Operand)
    (ho : o.op = .call { callee := .builtin .append, args := #[s, x], argTypes := #[27, 27] }) {base S : Nat} {v y : Value} {L M : List (Int × Int)} (hv : a.eval s = v) (hx : a.eval x = y)
    (hq : OwnsV w base v L) (hy : Vals S w y M) (hn : L.length + M.length ≤ 16777216) (hb : base ≤ w.heap.size)
    (hK : ∀ v' w', OwnsV w' base v' (L ++ M) → w.grownBy w' v.ownBlock → (v'.ownBlock = v.ownBlock ∨ v'.ownBlock = some w.heap.size) → K (a.put o.dst v') w') :
    if Region.wanted o (yielded ops a.tmps) = true then Oper.wp Try.prog o a w K Q else E := by
  have hw : Region.wanted o (yielded ops a.tmps) = true := by simp [Region.wanted, hgd]
  rw [if_pos hw]
  obtain ⟨v', w', hrun, h1, h2, h3⟩ := run_append_V o.type hq hy hn hb
  unfold Oper.wp
  simp [execOp, ho, resolve, invoke, builtin, hv, hx, hrun, Result.andThen]
  exact hK v' w' h1 h2 h3
theorem run_append_I {w : World} {base S : Nat} {v x : Value} {L M : List Int} (ty : TypeId) (ho : Owns w base v L) (hx : Ints S w x M) (hn : L.length + M.length ≤ 16777216) (hb : base ≤ w.heap.size) :
    ∃ v' w', (Builtin.append_ #[28, 28] ty #[v, x]).run Try.prog w = .ok v' w' ∧ Owns w' base v' (L ++ M) ∧ w.grownBy w' v.ownBlock ∧ (v'.ownBlock = v.ownBlock ∨ v'.ownBlock = some w.heap.size) := by
  obtain ⟨inf, i1, i2, i3, i4⟩ := info_intI
  obtain ⟨ao, cap, rfl, hx⟩ := hx
  cases ao with
  | none =>
    have hM : M = [] := by rcases hx with h | ⟨b, o, h, _⟩; exact h; cases h
    subst hM
    refine ⟨v, w, ?_, by rw [List.append_nil]; exact ho, World.grownBy.refl _ _, .inl rfl⟩
    rcases ho.2 with ⟨rfl, hl⟩ | ⟨g, cap', cur, rfl, _, _, hnc, _⟩
    · simp [Builtin.append_, run_underlying Try.underlying28, sizeOf, typeInfo, i1, Builtin.lenOf, Builtin.firstCells]
    · simp [Builtin.append_, run_underlying Try.underlying28, sizeOf, typeInfo, i1, Builtin.lenOf, Builtin.firstCells, hnc, storeCells]
  | some a =>
    have hnews : ∀ j u, ((List.map (Value.int .i64)) M)[j]? = some u → w.cell? (a.add j) = some u := by
      rcases hx with rfl | ⟨b, o, e, _, h⟩
      · intro j u h; cases h
      · cases e; exact newsI h
    obtain ⟨v', w', hrun, h1, h2, _, h4⟩ := run_append_own_at (P := Try.prog) w base 28 ty 3 inf (.int .i64 0) 1 8 Try.underlying28 i1 i2 i3 i4 rfl (by decide) v _ _ ho a M.length cap ((List.map (Value.int .i64)) M) (by rw [List.length_map, Nat.mul_one]) hnews (oneI M) (by unfold maxLen; omega) (by omega) hb
    exact ⟨v', w', hrun, by rw [Owns, List.length_append, List.map_append]; exact h1, h2, h4⟩
theorem wpList_append_I (w : World) {ops : Array Oper} {rest : List Oper} {o : Oper} {a : Act} {R : Exit → Act → World → Prop} (hgd : o.guard = none) (s x : Operand)
    (ho : o.op = .call { callee := .builtin .append, args := #[s, x], argTypes := #[28, 28] }) {base S : Nat} {v y : Value} {L M : List Int} (hv : a.eval s = v) (hx : a.eval x = y)
    (hq : Owns w base v L) (hy : Ints S w y M) (hn : L.length + M.length ≤ 16777216) (hb : base ≤ w.heap.size)
    (hK : ∀ v' w', Owns w' base v' (L ++ M) → w.grownBy w' v.ownBlock → (v'.ownBlock = v.ownBlock ∨ v'.ownBlock = some w.heap.size) → wpList Try.prog ops R rest (a.put o.dst v') w') : wpList Try.prog ops R (o :: rest) a w := by
  refine wpList_plain hgd fun K hK' => ?_
  obtain ⟨v', w', hrun, h1, h2, h3⟩ := run_append_I o.type hq hy hn hb
  unfold Oper.wp
  simp [execOp, ho, resolve, invoke, builtin, hv, hx, hrun, Result.andThen]
  exact hK' _ _ (hK v' w' h1 h2 h3)
theorem step_append_I (w : World) {ops : Array Oper} {o : Oper} {a : Act} {K : Act → World → Prop} {Q : Exit → Act → World → Prop} {E : Prop} (hgd : o.guard = none) (s x : Operand)
    (ho : o.op = .call { callee := .builtin .append, args := #[s, x], argTypes := #[28, 28] }) {base S : Nat} {v y : Value} {L M : List Int} (hv : a.eval s = v) (hx : a.eval x = y)
    (hq : Owns w base v L) (hy : Ints S w y M) (hn : L.length + M.length ≤ 16777216) (hb : base ≤ w.heap.size)
    (hK : ∀ v' w', Owns w' base v' (L ++ M) → w.grownBy w' v.ownBlock → (v'.ownBlock = v.ownBlock ∨ v'.ownBlock = some w.heap.size) → K (a.put o.dst v') w') :
    if Region.wanted o (yielded ops a.tmps) = true then Oper.wp Try.prog o a w K Q else E := by
  have hw : Region.wanted o (yielded ops a.tmps) = true := by simp [Region.wanted, hgd]
  rw [if_pos hw]
  obtain ⟨v', w', hrun, h1, h2, h3⟩ := run_append_I o.type hq hy hn hb
  unfold Oper.wp
  simp [execOp, ho, resolve, invoke, builtin, hv, hx, hrun, Result.andThen]
  exact hK v' w' h1 h2 h3
theorem Below.own {B : Nat} {a w w' : World} {v : Value} {c : Nat} (h : Below B a w) (hg : w.grownBy w' v.ownBlock) (hB : B ≤ w.heap.size) (hv : ∀ k, v.ownBlock = some k → c ≤ k) (hc : B ≤ c) : Below B a w' :=
  h.grown hg hB fun k e => Nat.le_trans hc (hv k e)
end Go.Proofs.Ytefaocjcfecipaa
