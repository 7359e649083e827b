/-
  A list of values, or of numbers, appended to a row of one's own, over this translation: the row stays in its block, or goes into a new one.
  What spec.RunNew answers over this translation, at every number, place and value.
  Runs in their boxes over this translation: what a store of a run leaves, and what a region that draws its order keeps.
  What laws.toValS and toIntS answer over this translation: the list as it is, in a row of its own.
  What laws.toRun answers over this translation: the run as it is, its lists in rows of its own, each apart from the others.
  A run with lists of its own, over this translation: impl's listCopied and copied, spec's l11Copy.
  The chain of letters, over this translation: it may be written; what takeNext and behind leave of it.
  impl.RunTake over this translation: the run without the eldest value that fits, and that value; nothing that was there turns.
  The value of a place taken out of a run's mail, over this translation: spec's l11Take.
  spec.RunTake over this translation: the run without the eldest value that fits, and that value; nothing that was there turns.
-/
import Derived.Test.YtklgpkkghhaccaaGreatQh
import Derived.Maps.AppendAt
import Derived.Laws.OwnMore
import Derived.Deep.AppendLies
import Derived.Deep.DeepCutAuto
import Derived.Deep.RegionHeld3
import Derived.Deep.DrawnRows
import Derived.Laws.IdiomCopy
import Derived.Test.YtklgpkkghhaccaaGreatQl
import Derived.Deep.RegionLaw
namespace Go.Proofs.YtklgpkkghhaccaaGreat.Eld
open Go.ChangeShapes Go.WideShapes Go.ChangeAt Go.RowKit Go.Joins
theorem add_flat (b o i : Nat) : (⟨b, o, none⟩ : Addr).add i = ⟨b, o + i, none⟩ := by
  unfold Addr.add
  split
  · rename_i e; subst e; rfl
  · rfl
theorem newsV {w : World} {M : List (Int × Int)} {b o : Nat} (h : ∀ i (h : i < M.length), ValAt w b (o + i * 2) M[i]) : ∀ j u, (cellsV M)[j]? = some u → w.cell? ((⟨b, o, none⟩ : Addr).add j) = some u := fun j u hu => by
  have hj : j < M.length * 2 := by
    rcases Nat.lt_or_ge j (M.length * 2) with h | h
    · exact h
    · rw [List.getElem?_eq_none (by rw [cellsV_len]; exact h)] at hu; cases hu
  rw [add_flat]
  by_cases hm : j % 2 = 0
  · have e : j = j / 2 * 2 := by omega
    have hi : j / 2 < M.length := by omega
    rw [e, cellsV_at0 M (j / 2) hi] at hu
    rw [e, ← hu]
    exact (h (j / 2) hi).1
  · have e : j = j / 2 * 2 + 1 := by omega
    have hi : j / 2 < M.length := by omega
    rw [e, cellsV_at1 M (j / 2) hi] at hu
    rw [e, ← hu, ← Nat.add_assoc]
    exact (h (j / 2) hi).2
theorem oneV : ∀ M : List (Int × Int), ∀ u ∈ cellsV M, u.oneCell' = true
  | [], u, h => by cases h
  | x :: M, u, h => by
    rcases List.mem_cons.1 h with rfl | h
    · rfl
    rcases List.mem_cons.1 h with rfl | h
    · rfl
    · exact oneV M u h
theorem cellsV_app : ∀ L M : List (Int × Int), cellsV (L ++ M) = cellsV L ++ cellsV M
  | [], M => rfl
  | x :: L, M => by rw [List.cons_append, cellsV, cellsV_app L M]; rfl
theorem newsI {w : World} {M : List Int} {b o : Nat} (h : ∀ i (h : i < M.length), w.cell? ⟨b, o + i, none⟩ = some (.int .i64 M[i])) : ∀ j u, (M.map (Value.int .i64))[j]? = some u → w.cell? ((⟨b, o, none⟩ : Addr).add j) = some u := fun j u hu => by
  have hj : j < M.length := by
    rcases Nat.lt_or_ge j M.length with h | h
    · exact h
    · rw [List.getElem?_eq_none (by rw [List.length_map]; exact h)] at hu; cases hu
  rw [add_flat, h j hj, ← hu, List.getElem?_map, List.getElem?_eq_getElem hj]; rfl
theorem oneI (M : List Int) : ∀ u ∈ M.map (Value.int .i64), u.oneCell' = true := fun u h => by
  obtain ⟨x, _, rfl⟩ := List.mem_map.1 h; rfl
theorem run_append_V {w : World} {base S : Nat} {v x : Value} {L M : List (Int × Int)} (ty : TypeId) (ho : OwnsV w base v L) (hx : Vals S w x M) (hn : L.length + M.length ≤ 16777216) (hb : base ≤ w.heap.size) :
    ∃ v' w', (Builtin.append_ #[23, 23] ty #[v, x]).run Tryz.prog w = .ok v' w' ∧ OwnsV w' base v' (L ++ M) ∧ w.grownBy w' v.ownBlock ∧ (v'.ownBlock = v.ownBlock ∨ v'.ownBlock = some w.heap.size) := by
  obtain ⟨inf, i1, i2, i3, i4⟩ := info_val
  obtain ⟨ao, cap, rfl, hx⟩ := hx
  cases ao with
  | none =>
    have hM : M = [] := by rcases hx with h | ⟨b, o, h, _⟩; exact h; cases h
    subst hM
    refine ⟨v, w, ?_, by rw [List.append_nil]; exact ho, World.grownBy.refl _ _, .inl rfl⟩
    rcases ho.2 with ⟨rfl, hl⟩ | ⟨g, cap', cur, rfl, _, _, hnc, _⟩
    · simp [Builtin.append_, run_underlying Tryz.underlying23, sizeOf, typeInfo, i1, Builtin.lenOf, Builtin.firstCells]
    · simp [Builtin.append_, run_underlying Tryz.underlying23, sizeOf, typeInfo, i1, Builtin.lenOf, Builtin.firstCells, hnc, storeCells]
  | some a =>
    have hnews : ∀ j u, (cellsV M)[j]? = some u → w.cell? (a.add j) = some u := by
      rcases hx with rfl | ⟨b, o, e, _, h⟩
      · intro j u h; cases h
      · cases e; exact newsV h
    obtain ⟨v', w', hrun, h1, h2, _, h4⟩ := run_append_own_at (P := Tryz.prog) w base 23 ty 26 inf (.agg #[.int .i64 0, .int .i64 0]) 2 16 Tryz.underlying23 i1 i2 i3 i4 rfl (by decide) v _ _ ho a M.length cap (cellsV M) (by rw [cellsV_len]) hnews (oneV M) (by unfold maxLen; omega) (by omega) hb
    exact ⟨v', w', hrun, by rw [OwnsV, List.length_append, cellsV_app]; exact h1, h2, h4⟩
theorem wpList_append_V (w : World) {ops : Array Oper} {rest : List Oper} {o : Oper} {a : Act} {R : Exit → Act → World → Prop} (hgd : o.guard = none) (s x : Operand)
    (ho : o.op = .call { callee := .builtin .append, args := #[s, x], argTypes := #[23, 23] }) {base S : Nat} {v y : Value} {L M : List (Int × Int)} (hv : a.eval s = v) (hx : a.eval x = y)
    (hq : OwnsV w base v L) (hy : Vals S w y M) (hn : L.length + M.length ≤ 16777216) (hb : base ≤ w.heap.size)
    (hK : ∀ v' w', OwnsV w' base v' (L ++ M) → w.grownBy w' v.ownBlock → (v'.ownBlock = v.ownBlock ∨ v'.ownBlock = some w.heap.size) → wpList Tryz.prog ops R rest (a.put o.dst v') w') : wpList Tryz.prog ops R (o :: rest) a w := by
  refine wpList_plain hgd fun K hK' => ?_
  obtain ⟨v', w', hrun, h1, h2, h3⟩ := run_append_V o.type hq hy hn hb
  unfold Oper.wp
  simp [execOp, ho, resolve, invoke, builtin, hv, hx, hrun, Result.andThen]
  exact hK' _ _ (hK v' w' h1 h2 h3)
theorem step_append_V (w : World) {ops : Array Oper} {o : Oper} {a : Act} {K : Act → World → Prop} {Q : Exit → Act → World → Prop} {E : Prop} (hgd : o.guard = none) (s x : Operand)
    (ho : o.op = .call { callee := .builtin .append, args := #[s, x], argTypes := #[23, 23] }) {base S : Nat} {v y : Value} {L M : List (Int × Int)} (hv : a.eval s = v) (hx : a.eval x = y)
    (hq : OwnsV w base v L) (hy : Vals S w y M) (hn : L.length + M.length ≤ 16777216) (hb : base ≤ w.heap.size)
    (hK : ∀ v' w', OwnsV w' base v' (L ++ M) → w.grownBy w' v.ownBlock → (v'.ownBlock = v.ownBlock ∨ v'.ownBlock = some w.heap.size) → K (a.put o.dst v') w') :
    if Region.wanted o (yielded ops a.tmps) = true then Oper.wp Tryz.prog o a w K Q else E := by
  have hw : Region.wanted o (yielded ops a.tmps) = true := by simp [Region.wanted, hgd]
  rw [if_pos hw]
  obtain ⟨v', w', hrun, h1, h2, h3⟩ := run_append_V o.type hq hy hn hb
  unfold Oper.wp
  simp [execOp, ho, resolve, invoke, builtin, hv, hx, hrun, Result.andThen]
  exact hK v' w' h1 h2 h3
theorem run_append_I {w : World} {base S : Nat} {v x : Value} {L M : List Int} (ty : TypeId) (ho : Owns w base v L) (hx : Ints S w x M) (hn : L.length + M.length ≤ 16777216) (hb : base ≤ w.heap.size) :
    ∃ v' w', (Builtin.append_ #[24, 24] ty #[v, x]).run Tryz.prog w = .ok v' w' ∧ Owns w' base v' (L ++ M) ∧ w.grownBy w' v.ownBlock ∧ (v'.ownBlock = v.ownBlock ∨ v'.ownBlock = some w.heap.size) := by
  obtain ⟨inf, i1, i2, i3, i4⟩ := info_intI
  obtain ⟨ao, cap, rfl, hx⟩ := hx
  cases ao with
  | none =>
    have hM : M = [] := by rcases hx with h | ⟨b, o, h, _⟩; exact h; cases h
    subst hM
    refine ⟨v, w, ?_, by rw [List.append_nil]; exact ho, World.grownBy.refl _ _, .inl rfl⟩
    rcases ho.2 with ⟨rfl, hl⟩ | ⟨g, cap', cur, rfl, _, _, hnc, _⟩
    · simp [Builtin.append_, run_underlying Tryz.underlying24, sizeOf, typeInfo, i1, Builtin.lenOf, Builtin.firstCells]
    · simp [Builtin.append_, run_underlying Tryz.underlying24, sizeOf, typeInfo, i1, Builtin.lenOf, Builtin.firstCells, hnc, storeCells]
  | some a =>
    have hnews : ∀ j u, ((List.map (Value.int .i64)) M)[j]? = some u → w.cell? (a.add j) = some u := by
      rcases hx with rfl | ⟨b, o, e, _, h⟩
      · intro j u h; cases h
      · cases e; exact newsI h
    obtain ⟨v', w', hrun, h1, h2, _, h4⟩ := run_append_own_at (P := Tryz.prog) w base 24 ty 3 inf (.int .i64 0) 1 8 Tryz.underlying24 i1 i2 i3 i4 rfl (by decide) v _ _ ho a M.length cap ((List.map (Value.int .i64)) M) (by rw [List.length_map, Nat.mul_one]) hnews (oneI M) (by unfold maxLen; omega) (by omega) hb
    exact ⟨v', w', hrun, by rw [Owns, List.length_append, List.map_append]; exact h1, h2, h4⟩
theorem wpList_append_I (w : World) {ops : Array Oper} {rest : List Oper} {o : Oper} {a : Act} {R : Exit → Act → World → Prop} (hgd : o.guard = none) (s x : Operand)
    (ho : o.op = .call { callee := .builtin .append, args := #[s, x], argTypes := #[24, 24] }) {base S : Nat} {v y : Value} {L M : List Int} (hv : a.eval s = v) (hx : a.eval x = y)
    (hq : Owns w base v L) (hy : Ints S w y M) (hn : L.length + M.length ≤ 16777216) (hb : base ≤ w.heap.size)
    (hK : ∀ v' w', Owns w' base v' (L ++ M) → w.grownBy w' v.ownBlock → (v'.ownBlock = v.ownBlock ∨ v'.ownBlock = some w.heap.size) → wpList Tryz.prog ops R rest (a.put o.dst v') w') : wpList Tryz.prog ops R (o :: rest) a w := by
  refine wpList_plain hgd fun K hK' => ?_
  obtain ⟨v', w', hrun, h1, h2, h3⟩ := run_append_I o.type hq hy hn hb
  unfold Oper.wp
  simp [execOp, ho, resolve, invoke, builtin, hv, hx, hrun, Result.andThen]
  exact hK' _ _ (hK v' w' h1 h2 h3)
theorem step_append_I (w : World) {ops : Array Oper} {o : Oper} {a : Act} {K : Act → World → Prop} {Q : Exit → Act → World → Prop} {E : Prop} (hgd : o.guard = none) (s x : Operand)
    (ho : o.op = .call { callee := .builtin .append, args := #[s, x], argTypes := #[24, 24] }) {base S : Nat} {v y : Value} {L M : List Int} (hv : a.eval s = v) (hx : a.eval x = y)
    (hq : Owns w base v L) (hy : Ints S w y M) (hn : L.length + M.length ≤ 16777216) (hb : base ≤ w.heap.size)
    (hK : ∀ v' w', Owns w' base v' (L ++ M) → w.grownBy w' v.ownBlock → (v'.ownBlock = v.ownBlock ∨ v'.ownBlock = some w.heap.size) → K (a.put o.dst v') w') :
    if Region.wanted o (yielded ops a.tmps) = true then Oper.wp Tryz.prog o a w K Q else E := by
  have hw : Region.wanted o (yielded ops a.tmps) = true := by simp [Region.wanted, hgd]
  rw [if_pos hw]
  obtain ⟨v', w', hrun, h1, h2, h3⟩ := run_append_I o.type hq hy hn hb
  unfold Oper.wp
  simp [execOp, ho, resolve, invoke, builtin, hv, hx, hrun, Result.andThen]
  exact hK v' w' h1 h2 h3
theorem Below.own {B : Nat} {a w w' : World} {v : Value} {c : Nat} (h : Below B a w) (hg : w.grownBy w' v.ownBlock) (hB : B ≤ w.heap.size) (hv : ∀ k, v.ownBlock = some k → c ≤ k) (hc : B ≤ c) : Below B a w' :=
  h.grown hg hB fun k e => Nat.le_trans hc (hv k e)
end Go.Proofs.YtklgpkkghhaccaaGreat.Eld
namespace Go.Proofs.YtklgpkkghhaccaaGreat.Eld
open Go.ChangeShapes Go.WideShapes Go.ChangeAt Go.RowKit Go.Joins
theorem lit_at {base : Nat} {e : TypeId} {size : Nat} (w : World) (cs : Array Value) (n g : Nat) (hg : g = w.heap.size) (hb : base ≤ w.heap.size) (hm : n ≤ maxLen) (hs : cs.size = n * size) : (w.alloc (.cells cs e)).ownsRow base e size (.slice (some ⟨g, 0, none⟩) n n) n cs.toList := by
  subst hg; exact World.ownsRow_lit w cs n hb hm hs
set_option maxRecDepth 20000 in
set_option maxHeartbeats 4000000 in
theorem l11New_any (i a k n : Int) (w : World) :
    Calls Tryz.prog 66 #[.int .i64 i, .int .i64 a, .agg #[.int .i64 k, .int .i64 n]] w fun e w' => ∃ p, e = .returned ((newR i a k n).val p) ∧ OwnRun w' w.heap.size (newR i a k n) p ∧ Below w.heap.size w w' := by
  go_enter Tryz.func66, Tryz.ntmps66
  go_wp2_with fail
  refine bodyPost_ret (v := (newR i a k n).val ⟨some ⟨w.heap.size + 1 + 1, 0, none⟩, 4, some ⟨w.heap.size + 1 + 1 + 1, 0, none⟩, 0, some ⟨w.heap.size + 1 + 1 + 1 + 1, 0, none⟩, 0, some ⟨w.heap.size + 1 + 1 + 1 + 1 + 1, 0, none⟩, 0⟩) (by simp [results, Tryz.results66, go_sem, newR]) rfl ⟨_, rfl, ⟨?_, ?_, ?_, ?_, ?_, ?_, ?_, ?_, ?_, ?_⟩, ?_⟩
  · exact World.ownsRow.alloc (World.ownsRow.alloc (World.ownsRow.alloc (lit_at _ #[.int .i64 k, .int .i64 n, .int .i64 0, .int .i64 0, .int .i64 0, .int .i64 0, .int .i64 0, .int .i64 0] 4 _ (by simp) (by simp; omega) (by unfold maxLen; omega) rfl) _) _) _
  · exact World.ownsRow.alloc (World.ownsRow.alloc (lit_at _ #[] 0 _ (by simp) (by simp; omega) (by unfold maxLen; omega) rfl) _) _
  · exact World.ownsRow.alloc (lit_at _ #[] 0 _ (by simp) (by simp; omega) (by unfold maxLen; omega) rfl) _
  · exact lit_at _ #[] 0 _ (by simp) (by simp; omega) (by unfold maxLen; omega) rfl
  · exact fun q e1 e2 => by simp [Value.ownBlock] at e1 e2; omega
  · exact fun q e1 e2 => by simp [Value.ownBlock] at e1 e2; omega
  · exact fun q e1 e2 => by simp [Value.ownBlock] at e1 e2; omega
  · exact fun q e1 e2 => by simp [Value.ownBlock] at e1 e2; omega
  · exact fun q e1 e2 => by simp [Value.ownBlock] at e1 e2; omega
  · exact fun q e1 e2 => by simp [Value.ownBlock] at e1 e2; omega
  · exact ((((((Below.refl _ _).alloc (Nat.le_refl _) _).alloc (by simp) _).alloc (by simp; omega) _).alloc (by simp; omega) _).alloc (by simp; omega) _).alloc (by simp; omega) _
theorem OwnRun.keep {w w' : World} {B r : Nat} {d : RunD} {p : RunP} (h : OwnRun w B d p) (hg : w.grownBy w' (some r)) (hr : r < B) : OwnRun w' B d p := by
  have k : ∀ v : Value, Hid (∀ k, v.ownBlock = some k → B ≤ k) → v.ownBlock = none ∨ v.ownBlock ≠ some r := fun v hv => by
    cases e : v.ownBlock with
    | none => exact .inl rfl
    | some k => exact .inr fun e' => by have := hv.out k e; cases e'; omega
  exact ⟨World.ownsRow.kept h.o0 hg (k _ (fun q e => (World.ownsRow.lt h.o0 q e).1)), World.ownsRow.kept h.o1 hg (k _ (fun q e => (World.ownsRow.lt h.o1 q e).1)), World.ownsRow.kept h.o2 hg (k _ (fun q e => (World.ownsRow.lt h.o2 q e).1)), World.ownsRow.kept h.o3 hg (k _ (fun q e => (World.ownsRow.lt h.o3 q e).1)), h.x01, h.x02, h.x03, h.x12, h.x13, h.x23⟩
theorem mem_runZ (w : World) (S : Nat) : RunMem S w runZ runPZ := ⟨⟨_, _, rfl, .inl rfl⟩, ⟨_, _, rfl, .inl rfl⟩, ⟨_, _, rfl, .inl rfl⟩, ⟨_, _, rfl, .inl rfl⟩⟩
end Go.Proofs.YtklgpkkghhaccaaGreat.Eld
namespace Go.Proofs.YtklgpkkghhaccaaGreat.Eld
open Go.ChangeShapes Go.WideShapes Go.ChangeAt Go.RowKit Go.Joins
/-- a run in its box, its lists its own, apart from the box -/
structure BoxRun (w : World) (B b : Nat) (d : RunD) (p : RunP) : Prop where
  at_ : RunAt w b d p
  lt : b < w.heap.size
  own : OwnRun w B d p
  n0 : (d.v0 p).ownBlock ≠ some b
  n1 : (d.v1 p).ownBlock ≠ some b
  n2 : (d.v2 p).ownBlock ≠ some b
  n3 : (d.v3 p).ownBlock ≠ some b
theorem BoxRun.below {w w' : World} {B b : Nat} {d : RunD} {p : RunP} (h : BoxRun w B b d p) (hb : Below w.heap.size w w') : BoxRun w' B b d p :=
  ⟨h.at_.below h.lt hb, Nat.lt_of_lt_of_le h.lt hb.size, h.own.below hb, h.n0, h.n1, h.n2, h.n3⟩
/-- the store of a run -/
abbrev set13 (w : World) (b : Nat) (d : RunD) (p : RunP) : World :=
  (((((((((((((w.setCell ⟨b, 0, none⟩ (.int .i64 d.id)).setCell ⟨b, 1, none⟩ (.int .i64 d.pl)).setCell ⟨b, 2, none⟩ (.slice p.a0 d.slots.length p.k0)).setCell ⟨b, 3, none⟩ (.int .i64 d.full)).setCell ⟨b, 4, none⟩ (.slice p.a1 d.mail.length p.k1)).setCell ⟨b, 5, none⟩ (.int .i64 d.st)).setCell ⟨b, 6, none⟩ (.int .i64 d.due)).setCell ⟨b, 7, none⟩ (.slice p.a2 d.links.length p.k2)).setCell ⟨b, 8, none⟩ (.slice p.a3 d.wat.length p.k3)).setCell ⟨b, 9, none⟩ (.bool d.trap)).setCell ⟨b, 10, none⟩ (.int .i64 d.wk)).setCell ⟨b, 11, none⟩ (.int .i64 d.wn)).setCell ⟨b, 12, none⟩ (.int .i64 d.tu))
theorem set13_but (w : World) (b : Nat) (d : RunD) (p : RunP) : But b w (set13 w b d p) :=
  (((((((((((((But.refl b w).setCell (p := ⟨b, 0, none⟩) rfl _).setCell (p := ⟨b, 1, none⟩) rfl _).setCell (p := ⟨b, 2, none⟩) rfl _).setCell (p := ⟨b, 3, none⟩) rfl _).setCell (p := ⟨b, 4, none⟩) rfl _).setCell (p := ⟨b, 5, none⟩) rfl _).setCell (p := ⟨b, 6, none⟩) rfl _).setCell (p := ⟨b, 7, none⟩) rfl _).setCell (p := ⟨b, 8, none⟩) rfl _).setCell (p := ⟨b, 9, none⟩) rfl _).setCell (p := ⟨b, 10, none⟩) rfl _).setCell (p := ⟨b, 11, none⟩) rfl _).setCell (p := ⟨b, 12, none⟩) rfl _
/-- thirteen cells that are there -/
def Cells13 (w : World) (b : Nat) : Prop := ∀ i, i < 13 → ∃ v, w.cell? ⟨b, i, none⟩ = some v
theorem set13_at {w : World} {b : Nat} (h : Cells13 w b) (d : RunD) (p : RunP) : RunAt (set13 w b d p) b d p := by
  obtain ⟨u0, c0⟩ := h 0 (by omega)
  obtain ⟨u1, c1⟩ := h 1 (by omega)
  obtain ⟨u2, c2⟩ := h 2 (by omega)
  obtain ⟨u3, c3⟩ := h 3 (by omega)
  obtain ⟨u4, c4⟩ := h 4 (by omega)
  obtain ⟨u5, c5⟩ := h 5 (by omega)
  obtain ⟨u6, c6⟩ := h 6 (by omega)
  obtain ⟨u7, c7⟩ := h 7 (by omega)
  obtain ⟨u8, c8⟩ := h 8 (by omega)
  obtain ⟨u9, c9⟩ := h 9 (by omega)
  obtain ⟨u10, c10⟩ := h 10 (by omega)
  obtain ⟨u11, c11⟩ := h 11 (by omega)
  obtain ⟨u12, c12⟩ := h 12 (by omega)
  refine ⟨?_, ?_, ?_, ?_, ?_, ?_, ?_, ?_, ?_, ?_, ?_, ?_, ?_⟩ <;> simp [set13, go_sem, c0, c1, c2, c3, c4, c5, c6, c7, c8, c9, c10, c11, c12]
theorem OwnRun.but {w w' : World} {B b : Nat} {d : RunD} {p : RunP} (h : OwnRun w B d p) (hb : But b w w') (n0 : (d.v0 p).ownBlock ≠ some b) (n1 : (d.v1 p).ownBlock ≠ some b) (n2 : (d.v2 p).ownBlock ≠ some b) (n3 : (d.v3 p).ownBlock ≠ some b) : OwnRun w' B d p := by
  have hg : w.grownBy w' (some b) := But.grown hb
  have k : ∀ v : Value, v.ownBlock ≠ some b → v.ownBlock = none ∨ v.ownBlock ≠ some b := fun v hv => .inr hv
  exact ⟨World.ownsRow.kept h.o0 hg (k _ n0), World.ownsRow.kept h.o1 hg (k _ n1), World.ownsRow.kept h.o2 hg (k _ n2), World.ownsRow.kept h.o3 hg (k _ n3), h.x01, h.x02, h.x03, h.x12, h.x13, h.x23⟩
/-- a run stored in a box that is not one of its lists -/
theorem box_store {w : World} {B b : Nat} {d : RunD} {p : RunP} (hc : Cells13 w b) (ho : OwnRun w B d p) (hn : (d.v0 p).ownBlock ≠ some b ∧ (d.v1 p).ownBlock ≠ some b ∧ (d.v2 p).ownBlock ≠ some b ∧ (d.v3 p).ownBlock ≠ some b) : BoxRun (set13 w b d p) B b d p := by
  obtain ⟨n0, n1, n2, n3⟩ := hn
  obtain ⟨v, hv⟩ := hc 0 (by omega)
  exact ⟨set13_at hc d p, Nat.lt_of_lt_of_le (World.block_lt_of_cell? _ _ hv) (set13_but w b d p).size, ho.but (set13_but w b d p) n0 n1 n2 n3, n0, n1, n2, n3⟩
theorem zero13 (w : World) (t : TypeId) : Cells13 (w.alloc (.cells (runZ.cells runPZ) t)) w.heap.size := by
  have h := runAt_new w runZ runPZ t
  intro i hi
  rcases (by omega : i = 0 ∨ i = 1 ∨ i = 2 ∨ i = 3 ∨ i = 4 ∨ i = 5 ∨ i = 6 ∨ i = 7 ∨ i = 8 ∨ i = 9 ∨ i = 10 ∨ i = 11 ∨ i = 12) with rfl | rfl | rfl | rfl | rfl | rfl | rfl | rfl | rfl | rfl | rfl | rfl | rfl
  · exact ⟨_, h.c0⟩
  · exact ⟨_, h.c1⟩
  · exact ⟨_, h.c2⟩
  · exact ⟨_, h.c3⟩
  · exact ⟨_, h.c4⟩
  · exact ⟨_, h.c5⟩
  · exact ⟨_, h.c6⟩
  · exact ⟨_, h.c7⟩
  · exact ⟨_, h.c8⟩
  · exact ⟨_, h.c9⟩
  · exact ⟨_, h.c10⟩
  · exact ⟨_, h.c11⟩
  · exact ⟨_, h.c12⟩
theorem Cells13.below {w w' : World} {S b : Nat} (h : Cells13 w b) (hb : Below S w w') (hl : b < S) : Cells13 w' b := fun i hi => by
  obtain ⟨v, hv⟩ := h i hi
  exact ⟨v, (hb.cell (p := ⟨b, i, none⟩) hl).trans hv⟩
theorem Cells13.drew {w : World} {b : Nat} (h : Cells13 w b) : Cells13 w.drew b := fun i hi => by
  obtain ⟨v, hv⟩ := h i hi
  exact ⟨v, by simpa [go_sem] using hv⟩
theorem OwnRun.not_box {w : World} {B : Nat} {d : RunD} {p : RunP} (h : OwnRun w B d p) {b : Nat} (hb : b < B ∨ w.heap.size ≤ b) :
    (d.v0 p).ownBlock ≠ some b ∧ (d.v1 p).ownBlock ≠ some b ∧ (d.v2 p).ownBlock ≠ some b ∧ (d.v3 p).ownBlock ≠ some b := by
  refine ⟨fun e => ?_, fun e => ?_, fun e => ?_, fun e => ?_⟩
  · have := World.ownsRow.lt h.o0 b e; omega
  · have := World.ownsRow.lt h.o1 b e; omega
  · have := World.ownsRow.lt h.o2 b e; omega
  · have := World.ownsRow.lt h.o3 b e; omega
theorem OwnRun.drew {w : World} {B : Nat} {d : RunD} {p : RunP} (h : OwnRun w B d p) : OwnRun w.drew B d p := h.below (Below.refl _ _).drew
/-- marks in the lists leave the box -/
theorem RunAt.kept {w w' : World} {b : Nat} {d e : RunD} {p q : RunP} (h : RunAt w b e q) (hl : b < w.heap.size) (hk : KeptBut d p w w') (n0 : (d.v0 p).ownBlock ≠ some b) (n1 : (d.v1 p).ownBlock ≠ some b) (n2 : (d.v2 p).ownBlock ≠ some b) (n3 : (d.v3 p).ownBlock ≠ some b) : RunAt w' b e q :=
  h.same (hk b hl n0 n1 n2 n3)
end Go.Proofs.YtklgpkkghhaccaaGreat.Eld
namespace Go.Proofs.YtklgpkkghhaccaaGreat.Eld
open Go.ChangeShapes Go.WideShapes Go.ChangeAt Go.RowKit Go.Joins
/-- the first k are there, the others nothing -/
def copiedV (L : List (Int × Int)) (k : Nat) : List (Int × Int) := L.take k ++ List.replicate (L.length - k) (0, 0)
theorem copiedV_len (L : List (Int × Int)) (k : Nat) (h : k ≤ L.length) : (copiedV L k).length = L.length := by simp [copiedV]; omega
theorem copiedV_step (L : List (Int × Int)) (k : Nat) (h : k < L.length) : (copiedV L k).set k L[k] = copiedV L (k + 1) := by
  have e : L.length - k = (L.length - (k + 1)) + 1 := by omega
  unfold copiedV
  rw [List.set_append_right _ _ (by rw [List.length_take]; omega), List.length_take, Nat.min_eq_left (Nat.le_of_lt h), Nat.sub_self, e, List.replicate_succ, List.set_cons_zero, List.take_succ_eq_append_getElem h, List.append_assoc]
  rfl
theorem copiedV_all (L : List (Int × Int)) : copiedV L L.length = L := by simp [copiedV]
def copiedI (L : List Int) (k : Nat) : List Int := L.take k ++ List.replicate (L.length - k) 0
theorem copiedI_len (L : List Int) (k : Nat) (h : k ≤ L.length) : (copiedI L k).length = L.length := by simp [copiedI]; omega
theorem copiedI_step (L : List Int) (k : Nat) (h : k < L.length) : (copiedI L k).set k L[k] = copiedI L (k + 1) := by
  have e : L.length - k = (L.length - (k + 1)) + 1 := by omega
  unfold copiedI
  rw [List.set_append_right _ _ (by rw [List.length_take]; omega), List.length_take, Nat.min_eq_left (Nat.le_of_lt h), Nat.sub_self, e, List.replicate_succ, List.set_cons_zero, List.take_succ_eq_append_getElem h, List.append_assoc]
  rfl
theorem copiedI_all (L : List Int) : copiedI L L.length = L := by simp [copiedI]
end Go.Proofs.YtklgpkkghhaccaaGreat.Eld
namespace Go.Proofs.YtklgpkkghhaccaaGreat.Eld
open Go.ChangeShapes Go.WideShapes Go.ChangeAt Go.RowKit Go.Joins
/-- a run's own cells in memory, which may be written -/
structure RunBoxF (w : World) (b : Nat) (d : RunD) (p : RunP) : Prop where
  at_ : RunAt w b d p
  fr : ∀ i, w.frozen? ⟨b, i, none⟩ = false
  lt : b < w.heap.size
theorem RunBoxF.below {S : Nat} {w w' : World} {b : Nat} {d : RunD} {p : RunP} (h : RunBoxF w b d p) (hl : b < S) (hb : Below S w w') : RunBoxF w' b d p :=
  ⟨h.at_.below hl hb, fun i => (hb.frozen (p := ⟨b, i, none⟩) hl).trans (h.fr i), Nat.lt_of_lt_of_le h.lt hb.size⟩
theorem RunBoxF.other {w : World} {b : Nat} {d : RunD} {p : RunP} (h : RunBoxF w b d p) {a : Addr} (hn : a.block ≠ b) (v : Value) : RunBoxF (w.setCell a v) b d p := by
  have k : But a.block w (w.setCell a v) := (But.refl _ _).setCell rfl v
  have c : ∀ i, (w.setCell a v).cell? ⟨b, i, none⟩ = w.cell? ⟨b, i, none⟩ := fun i => k.cell (p := ⟨b, i, none⟩) h.lt (fun e => hn e.symm)
  exact ⟨⟨(c _).trans h.at_.c0, (c _).trans h.at_.c1, (c _).trans h.at_.c2, (c _).trans h.at_.c3, (c _).trans h.at_.c4, (c _).trans h.at_.c5, (c _).trans h.at_.c6, (c _).trans h.at_.c7, (c _).trans h.at_.c8, (c _).trans h.at_.c9, (c _).trans h.at_.c10, (c _).trans h.at_.c11, (c _).trans h.at_.c12⟩, fun i => (k.frozen (p := ⟨b, i, none⟩) h.lt (fun e => hn e.symm)).trans (h.fr i), Nat.lt_of_lt_of_le h.lt k.size⟩
theorem RunBoxF.new (w : World) (d : RunD) (p : RunP) (t : TypeId) : RunBoxF (w.alloc (.cells (d.cells p) t)) w.heap.size d p :=
  ⟨runAt_new w d p t, fun i => by simp [go_sem], by simp⟩
theorem RunBoxF.new' (w : World) (d : RunD) (p : RunP) (t : TypeId) (b : Nat) (cs : Array Value) (hb : b = w.heap.size) (hc : cs = d.cells p) : RunBoxF (w.alloc (.cells cs t)) b d p := by
  subst hb hc; exact RunBoxF.new w d p t
theorem RunBoxF.frozen_set {w : World} {b : Nat} {d : RunD} {p : RunP} (h : RunBoxF w b d p) (j : Nat) (v : Value) (i : Nat) : (w.setCell ⟨b, j, none⟩ v).frozen? ⟨b, i, none⟩ = false := by
  have := h.fr i; simpa [go_sem] using this
theorem RunBoxF.put0 {w : World} {b : Nat} {d : RunD} {p : RunP} (h : RunBoxF w b d p) (x : Int) : RunBoxF (w.setCell ⟨b, 0, none⟩ (.int .i64 x)) b { d with id := x } p := by
  obtain ⟨c0, c1, c2, c3, c4, c5, c6, c7, c8, c9, c10, c11, c12⟩ := id h.at_
  refine ⟨⟨?_, ?_, ?_, ?_, ?_, ?_, ?_, ?_, ?_, ?_, ?_, ?_, ?_⟩, h.frozen_set _ _, Nat.lt_of_lt_of_le h.lt ((But.refl b w).setCell (p := ⟨b, 0, none⟩) rfl _).size⟩ <;> simp [go_sem, c0, c1, c2, c3, c4, c5, c6, c7, c8, c9, c10, c11, c12]
theorem RunBoxF.put1 {w : World} {b : Nat} {d : RunD} {p : RunP} (h : RunBoxF w b d p) (x : Int) : RunBoxF (w.setCell ⟨b, 1, none⟩ (.int .i64 x)) b { d with pl := x } p := by
  obtain ⟨c0, c1, c2, c3, c4, c5, c6, c7, c8, c9, c10, c11, c12⟩ := id h.at_
  refine ⟨⟨?_, ?_, ?_, ?_, ?_, ?_, ?_, ?_, ?_, ?_, ?_, ?_, ?_⟩, h.frozen_set _ _, Nat.lt_of_lt_of_le h.lt ((But.refl b w).setCell (p := ⟨b, 1, none⟩) rfl _).size⟩ <;> simp [go_sem, c0, c1, c2, c3, c4, c5, c6, c7, c8, c9, c10, c11, c12]
theorem RunBoxF.put2 {w : World} {b : Nat} {d : RunD} {p : RunP} (h : RunBoxF w b d p) (L : List (Int × Int)) (a : Option Addr) (k : Nat) : RunBoxF (w.setCell ⟨b, 2, none⟩ (.slice a L.length k)) b { d with slots := L } { p with a0 := a, k0 := k } := by
  obtain ⟨c0, c1, c2, c3, c4, c5, c6, c7, c8, c9, c10, c11, c12⟩ := id h.at_
  refine ⟨⟨?_, ?_, ?_, ?_, ?_, ?_, ?_, ?_, ?_, ?_, ?_, ?_, ?_⟩, h.frozen_set _ _, Nat.lt_of_lt_of_le h.lt ((But.refl b w).setCell (p := ⟨b, 2, none⟩) rfl _).size⟩ <;> simp [go_sem, c0, c1, c2, c3, c4, c5, c6, c7, c8, c9, c10, c11, c12]
theorem RunBoxF.put3 {w : World} {b : Nat} {d : RunD} {p : RunP} (h : RunBoxF w b d p) (x : Int) : RunBoxF (w.setCell ⟨b, 3, none⟩ (.int .i64 x)) b { d with full := x } p := by
  obtain ⟨c0, c1, c2, c3, c4, c5, c6, c7, c8, c9, c10, c11, c12⟩ := id h.at_
  refine ⟨⟨?_, ?_, ?_, ?_, ?_, ?_, ?_, ?_, ?_, ?_, ?_, ?_, ?_⟩, h.frozen_set _ _, Nat.lt_of_lt_of_le h.lt ((But.refl b w).setCell (p := ⟨b, 3, none⟩) rfl _).size⟩ <;> simp [go_sem, c0, c1, c2, c3, c4, c5, c6, c7, c8, c9, c10, c11, c12]
theorem RunBoxF.put4 {w : World} {b : Nat} {d : RunD} {p : RunP} (h : RunBoxF w b d p) (L : List (Int × Int)) (a : Option Addr) (k : Nat) : RunBoxF (w.setCell ⟨b, 4, none⟩ (.slice a L.length k)) b { d with mail := L } { p with a1 := a, k1 := k } := by
  obtain ⟨c0, c1, c2, c3, c4, c5, c6, c7, c8, c9, c10, c11, c12⟩ := id h.at_
  refine ⟨⟨?_, ?_, ?_, ?_, ?_, ?_, ?_, ?_, ?_, ?_, ?_, ?_, ?_⟩, h.frozen_set _ _, Nat.lt_of_lt_of_le h.lt ((But.refl b w).setCell (p := ⟨b, 4, none⟩) rfl _).size⟩ <;> simp [go_sem, c0, c1, c2, c3, c4, c5, c6, c7, c8, c9, c10, c11, c12]
theorem RunBoxF.put5 {w : World} {b : Nat} {d : RunD} {p : RunP} (h : RunBoxF w b d p) (x : Int) : RunBoxF (w.setCell ⟨b, 5, none⟩ (.int .i64 x)) b { d with st := x } p := by
  obtain ⟨c0, c1, c2, c3, c4, c5, c6, c7, c8, c9, c10, c11, c12⟩ := id h.at_
  refine ⟨⟨?_, ?_, ?_, ?_, ?_, ?_, ?_, ?_, ?_, ?_, ?_, ?_, ?_⟩, h.frozen_set _ _, Nat.lt_of_lt_of_le h.lt ((But.refl b w).setCell (p := ⟨b, 5, none⟩) rfl _).size⟩ <;> simp [go_sem, c0, c1, c2, c3, c4, c5, c6, c7, c8, c9, c10, c11, c12]
theorem RunBoxF.put6 {w : World} {b : Nat} {d : RunD} {p : RunP} (h : RunBoxF w b d p) (x : Int) : RunBoxF (w.setCell ⟨b, 6, none⟩ (.int .i64 x)) b { d with due := x } p := by
  obtain ⟨c0, c1, c2, c3, c4, c5, c6, c7, c8, c9, c10, c11, c12⟩ := id h.at_
  refine ⟨⟨?_, ?_, ?_, ?_, ?_, ?_, ?_, ?_, ?_, ?_, ?_, ?_, ?_⟩, h.frozen_set _ _, Nat.lt_of_lt_of_le h.lt ((But.refl b w).setCell (p := ⟨b, 6, none⟩) rfl _).size⟩ <;> simp [go_sem, c0, c1, c2, c3, c4, c5, c6, c7, c8, c9, c10, c11, c12]
theorem RunBoxF.put7 {w : World} {b : Nat} {d : RunD} {p : RunP} (h : RunBoxF w b d p) (L : List Int) (a : Option Addr) (k : Nat) : RunBoxF (w.setCell ⟨b, 7, none⟩ (.slice a L.length k)) b { d with links := L } { p with a2 := a, k2 := k } := by
  obtain ⟨c0, c1, c2, c3, c4, c5, c6, c7, c8, c9, c10, c11, c12⟩ := id h.at_
  refine ⟨⟨?_, ?_, ?_, ?_, ?_, ?_, ?_, ?_, ?_, ?_, ?_, ?_, ?_⟩, h.frozen_set _ _, Nat.lt_of_lt_of_le h.lt ((But.refl b w).setCell (p := ⟨b, 7, none⟩) rfl _).size⟩ <;> simp [go_sem, c0, c1, c2, c3, c4, c5, c6, c7, c8, c9, c10, c11, c12]
theorem RunBoxF.put8 {w : World} {b : Nat} {d : RunD} {p : RunP} (h : RunBoxF w b d p) (L : List Int) (a : Option Addr) (k : Nat) : RunBoxF (w.setCell ⟨b, 8, none⟩ (.slice a L.length k)) b { d with wat := L } { p with a3 := a, k3 := k } := by
  obtain ⟨c0, c1, c2, c3, c4, c5, c6, c7, c8, c9, c10, c11, c12⟩ := id h.at_
  refine ⟨⟨?_, ?_, ?_, ?_, ?_, ?_, ?_, ?_, ?_, ?_, ?_, ?_, ?_⟩, h.frozen_set _ _, Nat.lt_of_lt_of_le h.lt ((But.refl b w).setCell (p := ⟨b, 8, none⟩) rfl _).size⟩ <;> simp [go_sem, c0, c1, c2, c3, c4, c5, c6, c7, c8, c9, c10, c11, c12]
theorem RunBoxF.put9 {w : World} {b : Nat} {d : RunD} {p : RunP} (h : RunBoxF w b d p) (x : Bool) : RunBoxF (w.setCell ⟨b, 9, none⟩ (.bool x)) b { d with trap := x } p := by
  obtain ⟨c0, c1, c2, c3, c4, c5, c6, c7, c8, c9, c10, c11, c12⟩ := id h.at_
  refine ⟨⟨?_, ?_, ?_, ?_, ?_, ?_, ?_, ?_, ?_, ?_, ?_, ?_, ?_⟩, h.frozen_set _ _, Nat.lt_of_lt_of_le h.lt ((But.refl b w).setCell (p := ⟨b, 9, none⟩) rfl _).size⟩ <;> simp [go_sem, c0, c1, c2, c3, c4, c5, c6, c7, c8, c9, c10, c11, c12]
theorem RunBoxF.put10 {w : World} {b : Nat} {d : RunD} {p : RunP} (h : RunBoxF w b d p) (x : Int) : RunBoxF (w.setCell ⟨b, 10, none⟩ (.int .i64 x)) b { d with wk := x } p := by
  obtain ⟨c0, c1, c2, c3, c4, c5, c6, c7, c8, c9, c10, c11, c12⟩ := id h.at_
  refine ⟨⟨?_, ?_, ?_, ?_, ?_, ?_, ?_, ?_, ?_, ?_, ?_, ?_, ?_⟩, h.frozen_set _ _, Nat.lt_of_lt_of_le h.lt ((But.refl b w).setCell (p := ⟨b, 10, none⟩) rfl _).size⟩ <;> simp [go_sem, c0, c1, c2, c3, c4, c5, c6, c7, c8, c9, c10, c11, c12]
theorem RunBoxF.put11 {w : World} {b : Nat} {d : RunD} {p : RunP} (h : RunBoxF w b d p) (x : Int) : RunBoxF (w.setCell ⟨b, 11, none⟩ (.int .i64 x)) b { d with wn := x } p := by
  obtain ⟨c0, c1, c2, c3, c4, c5, c6, c7, c8, c9, c10, c11, c12⟩ := id h.at_
  refine ⟨⟨?_, ?_, ?_, ?_, ?_, ?_, ?_, ?_, ?_, ?_, ?_, ?_, ?_⟩, h.frozen_set _ _, Nat.lt_of_lt_of_le h.lt ((But.refl b w).setCell (p := ⟨b, 11, none⟩) rfl _).size⟩ <;> simp [go_sem, c0, c1, c2, c3, c4, c5, c6, c7, c8, c9, c10, c11, c12]
theorem RunBoxF.put12 {w : World} {b : Nat} {d : RunD} {p : RunP} (h : RunBoxF w b d p) (x : Int) : RunBoxF (w.setCell ⟨b, 12, none⟩ (.int .i64 x)) b { d with tu := x } p := by
  obtain ⟨c0, c1, c2, c3, c4, c5, c6, c7, c8, c9, c10, c11, c12⟩ := id h.at_
  refine ⟨⟨?_, ?_, ?_, ?_, ?_, ?_, ?_, ?_, ?_, ?_, ?_, ?_, ?_⟩, h.frozen_set _ _, Nat.lt_of_lt_of_le h.lt ((But.refl b w).setCell (p := ⟨b, 12, none⟩) rfl _).size⟩ <;> simp [go_sem, c0, c1, c2, c3, c4, c5, c6, c7, c8, c9, c10, c11, c12]
theorem OwnsV.put {w : World} {B : Nat} {v : Value} {L : List (Int × Int)} (h : OwnsV w B v L) {a : Addr} (hn : v.ownBlock ≠ some a.block) (x : Value) : OwnsV (w.setCell a x) B v L :=
  World.ownsRow.kept h (But.grown ((But.refl _ _).setCell (p := a) rfl x)) (.inr hn)
theorem Owns.put {w : World} {B : Nat} {v : Value} {L : List Int} (h : Owns w B v L) {a : Addr} (hn : v.ownBlock ≠ some a.block) (x : Value) : Owns (w.setCell a x) B v L :=
  World.ownsRow.kept h (But.grown ((But.refl _ _).setCell (p := a) rfl x)) (.inr hn)
theorem own_ne {g b n k : Nat} (h : g ≠ b) : (Value.slice (some ⟨g, 0, none⟩) n k).ownBlock ≠ some b := by
  intro e; simp [Value.ownBlock] at e; exact h e
end Go.Proofs.YtklgpkkghhaccaaGreat.Eld
namespace Go.Proofs.YtklgpkkghhaccaaGreat.Eld
open Go.ChangeShapes Go.WideShapes Go.ChangeAt Go.RowKit Go.Joins
theorem OwnsV.form {w : World} {B : Nat} {v : Value} {L : List (Int × Int)} (h : OwnsV w B v L) : ∃ ao cap, v = .slice ao L.length cap := by
  rcases h.2 with ⟨rfl, hl⟩ | ⟨g, cap, cur, rfl, _⟩
  · exact ⟨none, 0, by rw [hl]⟩
  · exact ⟨_, _, rfl⟩
theorem Owns.form {w : World} {B : Nat} {v : Value} {L : List Int} (h : Owns w B v L) : ∃ ao cap, v = .slice ao L.length cap := by
  rcases h.2 with ⟨rfl, hl⟩ | ⟨g, cap, cur, rfl, _⟩
  · exact ⟨none, 0, by rw [hl]⟩
  · exact ⟨_, _, rfl⟩
theorem OwnsV.away {w : World} {B : Nat} {v : Value} {L : List (Int × Int)} (h : OwnsV w B v L) {c : Nat} (hc : c < B ∨ w.heap.size ≤ c) : v.ownBlock ≠ some c := fun e => by
  have := World.ownsRow.lt h c e; omega
theorem Owns.away {w : World} {B : Nat} {v : Value} {L : List Int} (h : Owns w B v L) {c : Nat} (hc : c < B ∨ w.heap.size ≤ c) : v.ownBlock ≠ some c := fun e => by
  have := World.ownsRow.lt h c e; omega
theorem OwnsV.apart_of {w : World} {B C : Nat} {u v : Value} {L : List (Int × Int)} (h : OwnsV w B v L) (hu : ∀ k, u.ownBlock = some k → k < C) (hc : C ≤ B) : Apart u v := fun k e1 e2 => by
  have := World.ownsRow.lt h k e2; have := hu k e1; omega
theorem Owns.apart_of {w : World} {B C : Nat} {u v : Value} {L : List Int} (h : Owns w B v L) (hu : ∀ k, u.ownBlock = some k → k < C) (hc : C ≤ B) : Apart u v := fun k e1 e2 => by
  have := World.ownsRow.lt h k e2; have := hu k e1; omega

set_option maxHeartbeats 1000000 in
theorem copyVals_any (S : Nat) (L : List (Int × Int)) (v : Value) (w : World) (hl : L.length ≤ 1048576) (h : Vals S w v L) :
    Calls Tryz.prog 41 #[v] w fun e w' => ∃ ao cap, e = .returned (.slice ao L.length cap) ∧ OwnsV w' w.heap.size (.slice ao L.length cap) L ∧ Below w.heap.size w w' := by
  have hnil : OwnsV w w.heap.size (.slice none 0 0) [] := World.ownsRow_nil w w.heap.size 26 2
  have hn : ([] : List (Int × Int)).length + L.length ≤ 16777216 := by simp; omega
  replace h : Hid (Vals S w v L) := h
  go_enter Tryz.func41, Tryz.ntmps41
  go_wp2_with (refine wpList_append_V _ rfl (.const (.slice none 0 0)) (.tmp 3) rfl rfl rfl hnil h.out hn (Nat.le_refl _) ?_; intro v' w1 ho hg hw; show Hid _)
  rw [List.nil_append] at ho
  obtain ⟨ao, cap, rfl⟩ := ho.form
  delta Hid
  go_wp2_with fail
  refine .inl (wpList_nil ?_)
  go_step
  go_step
  go_wp2_with fail
  go_ret
  exact ⟨ao, cap, rfl, ho, (Below.refl _ _).grown hg (Nat.le_refl _) (by intro k e; cases e)⟩
set_option maxHeartbeats 1000000 in
theorem copyInts_any (S : Nat) (L : List Int) (v : Value) (w : World) (hl : L.length ≤ 1048576) (h : Ints S w v L) :
    Calls Tryz.prog 42 #[v] w fun e w' => ∃ ao cap, e = .returned (.slice ao L.length cap) ∧ Owns w' w.heap.size (.slice ao L.length cap) L ∧ Below w.heap.size w w' := by
  have hnil : Owns w w.heap.size (.slice none 0 0) [] := World.ownsRow_nil w w.heap.size 3 1
  have hn : ([] : List Int).length + L.length ≤ 16777216 := by simp; omega
  replace h : Hid (Ints S w v L) := h
  go_enter Tryz.func42, Tryz.ntmps42
  go_wp2_with (refine wpList_append_I _ rfl (.const (.slice none 0 0)) (.tmp 3) rfl rfl rfl hnil h.out hn (Nat.le_refl _) ?_; intro v' w1 ho hg hw; show Hid _)
  rw [List.nil_append] at ho
  obtain ⟨ao, cap, rfl⟩ := ho.form
  delta Hid
  go_wp2_with fail
  refine .inl (wpList_nil ?_)
  go_step
  go_step
  go_wp2_with fail
  go_ret
  exact ⟨ao, cap, rfl, ho, (Below.refl _ _).grown hg (Nat.le_refl _) (by intro k e; cases e)⟩
set_option maxRecDepth 20000 in
set_option maxHeartbeats 4000000 in
/-- impl's copied -/
theorem copied_any (S : Nat) (d : RunD) (q : RunP) (w : World) (hS : S ≤ w.heap.size) (hs : d.Short) (hM : RunMem S w d q) :
    Calls Tryz.prog 21 #[d.val q] w fun e w' => ∃ p, e = .returned (d.val p) ∧ OwnRun w' w.heap.size d p ∧ Below w.heap.size w w' := by
  replace hs : Hid d.Short := hs
  go_enter Tryz.func21, Tryz.ntmps21
  have hO : RunBoxF (w.alloc (.cells (d.cells q) 28)) w.heap.size d q := RunBoxF.new w d q 28
  have hR : RunBoxF ((w.alloc (.cells (d.cells q) 28)).alloc (.cells #[.int .i64 0, .int .i64 0, .slice none 0 0, .int .i64 0, .slice none 0 0, .int .i64 0, .int .i64 0, .slice none 0 0, .slice none 0 0, .bool false, .int .i64 0, .int .i64 0, .int .i64 0] 28)) (w.heap.size + 1) runZ runPZ := RunBoxF.new' _ _ _ _ _ _ (by simp) rfl
  replace hO := hO.below (S := w.heap.size + 1) (by omega) ((Below.refl _ _).alloc (by simp) (.cells #[.int .i64 0, .int .i64 0, .slice none 0 0, .int .i64 0, .slice none 0 0, .int .i64 0, .int .i64 0, .slice none 0 0, .slice none 0 0, .bool false, .int .i64 0, .int .i64 0, .int .i64 0] 28))
  have hB : Below w.heap.size w ((w.alloc (.cells (d.cells q) 28)).alloc (.cells #[.int .i64 0, .int .i64 0, .slice none 0 0, .int .i64 0, .slice none 0 0, .int .i64 0, .int .i64 0, .slice none 0 0, .slice none 0 0, .bool false, .int .i64 0, .int .i64 0, .int .i64 0] 28)) := ((Below.refl _ _).alloc (Nat.le_refl _) _).alloc (by simp) _
  go_wp2_with fail
  generalize ((w.alloc (.cells (d.cells q) 28)).alloc (.cells #[.int .i64 0, .int .i64 0, .slice none 0 0, .int .i64 0, .slice none 0 0, .int .i64 0, .int .i64 0, .slice none 0 0, .slice none 0 0, .bool false, .int .i64 0, .int .i64 0, .int .i64 0] 28)) = V0 at *
  refine (copyVals_any S d.slots _ _ hs.out.s0 ((hM.below (hB.mono hS)).m0)).mono ?_
  rintro e V1 ⟨a0, k0, rfl, u0, hb⟩
  have hlr := hR.lt
  replace hO := hO.below hO.lt hb
  replace hR := hR.below hR.lt hb
  replace hB := hB.trans (hb.mono hB.size)
  have hsz := hb.size
  generalize hce0 : V0.heap.size = c0 at *
  clear hb hce0
  have y0 : w.heap.size + 1 < c0 := hlr
  clear hlr
  clear hsz
  obtain ⟨o0, o1, o2, o3, o4, o5, o6, o7, o8, o9, o10, o11, o12⟩ := id hO.at_
  have f2 := hO.fr 2
  have hlr := hR.lt
  go_wp2_with fail
  clear f2 hlr
  clear o0 o1 o2 o3 o4 o5 o6 o7 o8 o9 o10 o11 o12
  replace hO : RunBoxF (V1.setCell ⟨w.heap.size, 2, none⟩ (.slice a0 d.slots.length k0)) w.heap.size d ⟨a0, k0, q.a1, q.k1, q.a2, q.k2, q.a3, q.k3⟩ := hO.put2 d.slots a0 k0
  replace hR : RunBoxF (V1.setCell ⟨w.heap.size, 2, none⟩ (.slice a0 d.slots.length k0)) (w.heap.size + 1) runZ runPZ := hR.other (by show w.heap.size ≠ _; omega) _
  replace hB : Below w.heap.size w (V1.setCell ⟨w.heap.size, 2, none⟩ (.slice a0 d.slots.length k0)) := hB.setCell (by show w.heap.size ≤ w.heap.size; omega) _
  replace u0 : OwnsV (V1.setCell ⟨w.heap.size, 2, none⟩ (.slice a0 d.slots.length k0)) c0 (.slice a0 d.slots.length k0) d.slots := u0.put (u0.away (.inl (by show w.heap.size < _; omega))) _
  generalize (V1.setCell ⟨w.heap.size, 2, none⟩ (.slice a0 d.slots.length k0)) = X1 at *
  refine (copyVals_any S d.mail _ _ hs.out.s1 ((hM.below (hB.mono hS)).m1)).mono ?_
  rintro e V2 ⟨a1, k1, rfl, u1, hb⟩
  have hlr := hR.lt
  have l01 : ∀ k, (Value.slice a0 d.slots.length k0).ownBlock = some k → k < X1.heap.size := fun k e => (World.ownsRow.lt u0 k e).2
  replace hO := hO.below hO.lt hb
  replace hR := hR.below hR.lt hb
  replace u0 := u0.below hb
  replace hB := hB.trans (hb.mono hB.size)
  have hsz := hb.size
  generalize hce1 : X1.heap.size = c1 at *
  clear hb hce1
  have y1 : w.heap.size + 1 < c1 := hlr
  clear hlr
  have d01 := u1.apart_of l01 (Nat.le_refl _)
  clear l01
  clear hsz
  obtain ⟨o0, o1, o2, o3, o4, o5, o6, o7, o8, o9, o10, o11, o12⟩ := id hO.at_
  have f4 := hO.fr 4
  have hlr := hR.lt
  go_wp2_with fail
  clear f4 hlr
  clear o0 o1 o2 o3 o4 o5 o6 o7 o8 o9 o10 o11 o12
  replace hO : RunBoxF (V2.setCell ⟨w.heap.size, 4, none⟩ (.slice a1 d.mail.length k1)) w.heap.size d ⟨a0, k0, a1, k1, q.a2, q.k2, q.a3, q.k3⟩ := hO.put4 d.mail a1 k1
  replace hR : RunBoxF (V2.setCell ⟨w.heap.size, 4, none⟩ (.slice a1 d.mail.length k1)) (w.heap.size + 1) runZ runPZ := hR.other (by show w.heap.size ≠ _; omega) _
  replace hB : Below w.heap.size w (V2.setCell ⟨w.heap.size, 4, none⟩ (.slice a1 d.mail.length k1)) := hB.setCell (by show w.heap.size ≤ w.heap.size; omega) _
  replace u0 : OwnsV (V2.setCell ⟨w.heap.size, 4, none⟩ (.slice a1 d.mail.length k1)) c0 (.slice a0 d.slots.length k0) d.slots := u0.put (u0.away (.inl (by show w.heap.size < _; omega))) _
  replace u1 : OwnsV (V2.setCell ⟨w.heap.size, 4, none⟩ (.slice a1 d.mail.length k1)) c1 (.slice a1 d.mail.length k1) d.mail := u1.put (u1.away (.inl (by show w.heap.size < _; omega))) _
  generalize (V2.setCell ⟨w.heap.size, 4, none⟩ (.slice a1 d.mail.length k1)) = X2 at *
  refine (copyInts_any S d.links _ _ hs.out.s2 ((hM.below (hB.mono hS)).m2)).mono ?_
  rintro e V3 ⟨a2, k2, rfl, u2, hb⟩
  have hlr := hR.lt
  have l02 : ∀ k, (Value.slice a0 d.slots.length k0).ownBlock = some k → k < X2.heap.size := fun k e => (World.ownsRow.lt u0 k e).2
  have l12 : ∀ k, (Value.slice a1 d.mail.length k1).ownBlock = some k → k < X2.heap.size := fun k e => (World.ownsRow.lt u1 k e).2
  replace hO := hO.below hO.lt hb
  replace hR := hR.below hR.lt hb
  replace u0 := u0.below hb
  replace u1 := u1.below hb
  replace hB := hB.trans (hb.mono hB.size)
  have hsz := hb.size
  generalize hce2 : X2.heap.size = c2 at *
  clear hb hce2
  have y2 : w.heap.size + 1 < c2 := hlr
  clear hlr
  have d02 := u2.apart_of l02 (Nat.le_refl _)
  clear l02
  have d12 := u2.apart_of l12 (Nat.le_refl _)
  clear l12
  clear hsz
  obtain ⟨o0, o1, o2, o3, o4, o5, o6, o7, o8, o9, o10, o11, o12⟩ := id hO.at_
  have f7 := hO.fr 7
  have hlr := hR.lt
  go_wp2_with fail
  clear f7 hlr
  clear o0 o1 o2 o3 o4 o5 o6 o7 o8 o9 o10 o11 o12
  replace hO : RunBoxF (V3.setCell ⟨w.heap.size, 7, none⟩ (.slice a2 d.links.length k2)) w.heap.size d ⟨a0, k0, a1, k1, a2, k2, q.a3, q.k3⟩ := hO.put7 d.links a2 k2
  replace hR : RunBoxF (V3.setCell ⟨w.heap.size, 7, none⟩ (.slice a2 d.links.length k2)) (w.heap.size + 1) runZ runPZ := hR.other (by show w.heap.size ≠ _; omega) _
  replace hB : Below w.heap.size w (V3.setCell ⟨w.heap.size, 7, none⟩ (.slice a2 d.links.length k2)) := hB.setCell (by show w.heap.size ≤ w.heap.size; omega) _
  replace u0 : OwnsV (V3.setCell ⟨w.heap.size, 7, none⟩ (.slice a2 d.links.length k2)) c0 (.slice a0 d.slots.length k0) d.slots := u0.put (u0.away (.inl (by show w.heap.size < _; omega))) _
  replace u1 : OwnsV (V3.setCell ⟨w.heap.size, 7, none⟩ (.slice a2 d.links.length k2)) c1 (.slice a1 d.mail.length k1) d.mail := u1.put (u1.away (.inl (by show w.heap.size < _; omega))) _
  replace u2 : Owns (V3.setCell ⟨w.heap.size, 7, none⟩ (.slice a2 d.links.length k2)) c2 (.slice a2 d.links.length k2) d.links := u2.put (u2.away (.inl (by show w.heap.size < _; omega))) _
  generalize (V3.setCell ⟨w.heap.size, 7, none⟩ (.slice a2 d.links.length k2)) = X3 at *
  refine (copyInts_any S d.wat _ _ hs.out.s3 ((hM.below (hB.mono hS)).m3)).mono ?_
  rintro e V4 ⟨a3, k3, rfl, u3, hb⟩
  have hlr := hR.lt
  have l03 : ∀ k, (Value.slice a0 d.slots.length k0).ownBlock = some k → k < X3.heap.size := fun k e => (World.ownsRow.lt u0 k e).2
  have l13 : ∀ k, (Value.slice a1 d.mail.length k1).ownBlock = some k → k < X3.heap.size := fun k e => (World.ownsRow.lt u1 k e).2
  have l23 : ∀ k, (Value.slice a2 d.links.length k2).ownBlock = some k → k < X3.heap.size := fun k e => (World.ownsRow.lt u2 k e).2
  replace hO := hO.below hO.lt hb
  replace hR := hR.below hR.lt hb
  replace u0 := u0.below hb
  replace u1 := u1.below hb
  replace u2 := u2.below hb
  replace hB := hB.trans (hb.mono hB.size)
  have hsz := hb.size
  generalize hce3 : X3.heap.size = c3 at *
  clear hb hce3
  have y3 : w.heap.size + 1 < c3 := hlr
  clear hlr
  have d03 := u3.apart_of l03 (Nat.le_refl _)
  clear l03
  have d13 := u3.apart_of l13 (Nat.le_refl _)
  clear l13
  have d23 := u3.apart_of l23 (Nat.le_refl _)
  clear l23
  clear hsz
  obtain ⟨o0, o1, o2, o3, o4, o5, o6, o7, o8, o9, o10, o11, o12⟩ := id hO.at_
  have f8 := hO.fr 8
  obtain ⟨r0, r1, r2, r3, r4, r5, r6, r7, r8, r9, r10, r11, r12⟩ := id hR.at_
  have e0 := hR.fr 0
  have e1 := hR.fr 1
  have e2 := hR.fr 2
  have e3 := hR.fr 3
  have e4 := hR.fr 4
  have e5 := hR.fr 5
  have e6 := hR.fr 6
  have e7 := hR.fr 7
  have e8 := hR.fr 8
  have e9 := hR.fr 9
  have e10 := hR.fr 10
  have e11 := hR.fr 11
  have e12 := hR.fr 12
  have hlr := hR.lt
  go_wp2_with fail
  exact bodyPost_ret (v := d.val ⟨a0, k0, a1, k1, a2, k2, a3, k3⟩) (by simp [results, Tryz.results21, go_sem, r0, r1, r2, r3, r4, r5, r6, r7, r8, r9, r10, r11, r12]) rfl ⟨⟨a0, k0, a1, k1, a2, k2, a3, k3⟩, rfl, ⟨(((((((((((((((u0.put (a := ⟨w.heap.size, 8, none⟩) (u0.away (.inl (by show w.heap.size < _; omega))) (.slice a3 d.wat.length k3)).put (u0.away (c := (w.heap.size + 1)) (.inl (by omega))) _).put (u0.away (c := (w.heap.size + 1)) (.inl (by omega))) _).put (u0.away (c := (w.heap.size + 1)) (.inl (by omega))) _).put (u0.away (c := (w.heap.size + 1)) (.inl (by omega))) _).put (u0.away (c := (w.heap.size + 1)) (.inl (by omega))) _).put (u0.away (c := (w.heap.size + 1)) (.inl (by omega))) _).put (u0.away (c := (w.heap.size + 1)) (.inl (by omega))) _).put (u0.away (c := (w.heap.size + 1)) (.inl (by omega))) _).put (u0.away (c := (w.heap.size + 1)) (.inl (by omega))) _).put (u0.away (c := (w.heap.size + 1)) (.inl (by omega))) _).put (u0.away (c := (w.heap.size + 1)) (.inl (by omega))) _).put (u0.away (c := (w.heap.size + 1)) (.inl (by omega))) _).put (u0.away (c := (w.heap.size + 1)) (.inl (by omega))) _).mono (by omega)), (((((((((((((((u1.put (a := ⟨w.heap.size, 8, none⟩) (u1.away (.inl (by show w.heap.size < _; omega))) (.slice a3 d.wat.length k3)).put (u1.away (c := (w.heap.size + 1)) (.inl (by omega))) _).put (u1.away (c := (w.heap.size + 1)) (.inl (by omega))) _).put (u1.away (c := (w.heap.size + 1)) (.inl (by omega))) _).put (u1.away (c := (w.heap.size + 1)) (.inl (by omega))) _).put (u1.away (c := (w.heap.size + 1)) (.inl (by omega))) _).put (u1.away (c := (w.heap.size + 1)) (.inl (by omega))) _).put (u1.away (c := (w.heap.size + 1)) (.inl (by omega))) _).put (u1.away (c := (w.heap.size + 1)) (.inl (by omega))) _).put (u1.away (c := (w.heap.size + 1)) (.inl (by omega))) _).put (u1.away (c := (w.heap.size + 1)) (.inl (by omega))) _).put (u1.away (c := (w.heap.size + 1)) (.inl (by omega))) _).put (u1.away (c := (w.heap.size + 1)) (.inl (by omega))) _).put (u1.away (c := (w.heap.size + 1)) (.inl (by omega))) _).mono (by omega)), (((((((((((((((u2.put (a := ⟨w.heap.size, 8, none⟩) (u2.away (.inl (by show w.heap.size < _; omega))) (.slice a3 d.wat.length k3)).put (u2.away (c := (w.heap.size + 1)) (.inl (by omega))) _).put (u2.away (c := (w.heap.size + 1)) (.inl (by omega))) _).put (u2.away (c := (w.heap.size + 1)) (.inl (by omega))) _).put (u2.away (c := (w.heap.size + 1)) (.inl (by omega))) _).put (u2.away (c := (w.heap.size + 1)) (.inl (by omega))) _).put (u2.away (c := (w.heap.size + 1)) (.inl (by omega))) _).put (u2.away (c := (w.heap.size + 1)) (.inl (by omega))) _).put (u2.away (c := (w.heap.size + 1)) (.inl (by omega))) _).put (u2.away (c := (w.heap.size + 1)) (.inl (by omega))) _).put (u2.away (c := (w.heap.size + 1)) (.inl (by omega))) _).put (u2.away (c := (w.heap.size + 1)) (.inl (by omega))) _).put (u2.away (c := (w.heap.size + 1)) (.inl (by omega))) _).put (u2.away (c := (w.heap.size + 1)) (.inl (by omega))) _).mono (by omega)), (((((((((((((((u3.put (a := ⟨w.heap.size, 8, none⟩) (u3.away (.inl (by show w.heap.size < _; omega))) (.slice a3 d.wat.length k3)).put (u3.away (c := (w.heap.size + 1)) (.inl (by omega))) _).put (u3.away (c := (w.heap.size + 1)) (.inl (by omega))) _).put (u3.away (c := (w.heap.size + 1)) (.inl (by omega))) _).put (u3.away (c := (w.heap.size + 1)) (.inl (by omega))) _).put (u3.away (c := (w.heap.size + 1)) (.inl (by omega))) _).put (u3.away (c := (w.heap.size + 1)) (.inl (by omega))) _).put (u3.away (c := (w.heap.size + 1)) (.inl (by omega))) _).put (u3.away (c := (w.heap.size + 1)) (.inl (by omega))) _).put (u3.away (c := (w.heap.size + 1)) (.inl (by omega))) _).put (u3.away (c := (w.heap.size + 1)) (.inl (by omega))) _).put (u3.away (c := (w.heap.size + 1)) (.inl (by omega))) _).put (u3.away (c := (w.heap.size + 1)) (.inl (by omega))) _).put (u3.away (c := (w.heap.size + 1)) (.inl (by omega))) _).mono (by omega)), d01, d02, d03, d12, d13, d23⟩, ((((((((((((((hB.setCell (by show w.heap.size ≤ w.heap.size; omega) _).setCell (by show w.heap.size ≤ (w.heap.size + 1); omega) _).setCell (by show w.heap.size ≤ (w.heap.size + 1); omega) _).setCell (by show w.heap.size ≤ (w.heap.size + 1); omega) _).setCell (by show w.heap.size ≤ (w.heap.size + 1); omega) _).setCell (by show w.heap.size ≤ (w.heap.size + 1); omega) _).setCell (by show w.heap.size ≤ (w.heap.size + 1); omega) _).setCell (by show w.heap.size ≤ (w.heap.size + 1); omega) _).setCell (by show w.heap.size ≤ (w.heap.size + 1); omega) _).setCell (by show w.heap.size ≤ (w.heap.size + 1); omega) _).setCell (by show w.heap.size ≤ (w.heap.size + 1); omega) _).setCell (by show w.heap.size ≤ (w.heap.size + 1); omega) _).setCell (by show w.heap.size ≤ (w.heap.size + 1); omega) _).setCell (by show w.heap.size ≤ (w.heap.size + 1); omega) _)⟩
set_option maxRecDepth 20000 in
set_option maxHeartbeats 4000000 in
/-- spec's l11Copy -/
theorem l11Copy_any (S : Nat) (d : RunD) (q : RunP) (w : World) (hS : S ≤ w.heap.size) (hs : d.Short) (hM : RunMem S w d q) :
    Calls Tryz.prog 17 #[d.val q] w fun e w' => ∃ p, e = .returned (d.val p) ∧ OwnRun w' w.heap.size d p ∧ Below w.heap.size w w' := by
  replace hs : Hid d.Short := hs
  go_enter Tryz.func17, Tryz.ntmps17
  have hO : RunBoxF (w.alloc (.cells (d.cells q) 28)) w.heap.size d q := RunBoxF.new w d q 28
  have hR : RunBoxF ((w.alloc (.cells (d.cells q) 28)).alloc (.cells #[.int .i64 0, .int .i64 0, .slice none 0 0, .int .i64 0, .slice none 0 0, .int .i64 0, .int .i64 0, .slice none 0 0, .slice none 0 0, .bool false, .int .i64 0, .int .i64 0, .int .i64 0] 28)) (w.heap.size + 1) runZ runPZ := RunBoxF.new' _ _ _ _ _ _ (by simp) rfl
  replace hO := hO.below (S := w.heap.size + 1) (by omega) ((Below.refl _ _).alloc (by simp) (.cells #[.int .i64 0, .int .i64 0, .slice none 0 0, .int .i64 0, .slice none 0 0, .int .i64 0, .int .i64 0, .slice none 0 0, .slice none 0 0, .bool false, .int .i64 0, .int .i64 0, .int .i64 0] 28))
  have hB : Below w.heap.size w ((w.alloc (.cells (d.cells q) 28)).alloc (.cells #[.int .i64 0, .int .i64 0, .slice none 0 0, .int .i64 0, .slice none 0 0, .int .i64 0, .int .i64 0, .slice none 0 0, .slice none 0 0, .bool false, .int .i64 0, .int .i64 0, .int .i64 0] 28)) := ((Below.refl _ _).alloc (Nat.le_refl _) _).alloc (by simp) _
  go_upto_region 1 with fail
  generalize ((w.alloc (.cells (d.cells q) 28)).alloc (.cells #[.int .i64 0, .int .i64 0, .slice none 0 0, .int .i64 0, .slice none 0 0, .int .i64 0, .int .i64 0, .slice none 0 0, .slice none 0 0, .bool false, .int .i64 0, .int .i64 0, .int .i64 0] 28)) = V0 at *
  obtain ⟨o0, o1, o2, o3, o4, o5, o6, o7, o8, o9, o10, o11, o12⟩ := id hO.at_
  have hem : OwnsV (V0.alloc (.cells #[] 26)) V0.heap.size (.slice (some ⟨V0.heap.size, 0, none⟩) 0 0) [] := World.ownsRow_lit V0 #[] 0 (Nat.le_refl _) (by unfold maxLen; omega) rfl
  have hal : Below V0.heap.size V0 (V0.alloc (.cells #[] 26)) := (Below.refl _ _).alloc (Nat.le_refl _) _
  have hx : Hid (Vals S (V0.alloc (.cells #[] 26)) (.slice q.a0 d.slots.length q.k0) d.slots) := ((hM.below (hB.mono hS)).below (hal.mono (Nat.le_trans hS hB.size))).m0
  have hn : ([] : List (Int × Int)).length + d.slots.length ≤ 16777216 := by have := hs.out.s0; simp; omega
  have hle : V0.heap.size ≤ (V0.alloc (.cells #[] 26)).heap.size := by simp
  have hlr := hR.lt
  have hlo := hO.lt
  go_wp2_with (refine wpList_append_V _ rfl (.tmp 3) (.tmp 5) rfl rfl rfl hem hx.out hn hle ?_; intro v' V1 u0 hg hw; show Hid _)
  clear o0 o1 o2 o3 o4 o5 o6 o7 o8 o9 o10 o11 o12
  rw [List.nil_append] at u0
  obtain ⟨a0, k0, rfl⟩ := u0.form
  have hb : Below V0.heap.size V0 V1 := hal.grown hg hle (by intro k e; cases e; exact Nat.le_refl _)
  clear hem hx hn hal hg hw hle hlo
  replace hO := hO.below hO.lt hb
  replace hR := hR.below hR.lt hb
  replace hB := hB.trans (hb.mono hB.size)
  have hsz := hb.size
  generalize hce0 : V0.heap.size = c0 at *
  clear hb hce0
  have y0 : w.heap.size + 1 < c0 := hlr
  clear hlr
  clear hsz
  obtain ⟨o0, o1, o2, o3, o4, o5, o6, o7, o8, o9, o10, o11, o12⟩ := id hO.at_
  have f2 := hO.fr 2
  have hlr := hR.lt
  delta Hid
  refine .inl ?_
  go_upto_region 2 with fail
  clear f2 hlr
  clear o0 o1 o2 o3 o4 o5 o6 o7 o8 o9 o10 o11 o12
  replace hO : RunBoxF (V1.setCell ⟨w.heap.size, 2, none⟩ (.slice a0 d.slots.length k0)) w.heap.size d ⟨a0, k0, q.a1, q.k1, q.a2, q.k2, q.a3, q.k3⟩ := hO.put2 d.slots a0 k0
  replace hR : RunBoxF (V1.setCell ⟨w.heap.size, 2, none⟩ (.slice a0 d.slots.length k0)) (w.heap.size + 1) runZ runPZ := hR.other (by show w.heap.size ≠ _; omega) _
  replace hB : Below w.heap.size w (V1.setCell ⟨w.heap.size, 2, none⟩ (.slice a0 d.slots.length k0)) := hB.setCell (by show w.heap.size ≤ w.heap.size; omega) _
  replace u0 : OwnsV (V1.setCell ⟨w.heap.size, 2, none⟩ (.slice a0 d.slots.length k0)) c0 (.slice a0 d.slots.length k0) d.slots := u0.put (u0.away (.inl (by show w.heap.size < _; omega))) _
  generalize (V1.setCell ⟨w.heap.size, 2, none⟩ (.slice a0 d.slots.length k0)) = X1 at *
  obtain ⟨o0, o1, o2, o3, o4, o5, o6, o7, o8, o9, o10, o11, o12⟩ := id hO.at_
  have hem : OwnsV (X1.alloc (.cells #[] 26)) X1.heap.size (.slice (some ⟨X1.heap.size, 0, none⟩) 0 0) [] := World.ownsRow_lit X1 #[] 0 (Nat.le_refl _) (by unfold maxLen; omega) rfl
  have hal : Below X1.heap.size X1 (X1.alloc (.cells #[] 26)) := (Below.refl _ _).alloc (Nat.le_refl _) _
  have hx : Hid (Vals S (X1.alloc (.cells #[] 26)) (.slice q.a1 d.mail.length q.k1) d.mail) := ((hM.below (hB.mono hS)).below (hal.mono (Nat.le_trans hS hB.size))).m1
  have hn : ([] : List (Int × Int)).length + d.mail.length ≤ 16777216 := by have := hs.out.s1; simp; omega
  have hle : X1.heap.size ≤ (X1.alloc (.cells #[] 26)).heap.size := by simp
  have hlr := hR.lt
  have hlo := hO.lt
  go_wp2_with (refine wpList_append_V _ rfl (.tmp 8) (.tmp 10) rfl rfl rfl hem hx.out hn hle ?_; intro v' V2 u1 hg hw; show Hid _)
  clear o0 o1 o2 o3 o4 o5 o6 o7 o8 o9 o10 o11 o12
  rw [List.nil_append] at u1
  obtain ⟨a1, k1, rfl⟩ := u1.form
  have hb : Below X1.heap.size X1 V2 := hal.grown hg hle (by intro k e; cases e; exact Nat.le_refl _)
  clear hem hx hn hal hg hw hle hlo
  have l01 : ∀ k, (Value.slice a0 d.slots.length k0).ownBlock = some k → k < X1.heap.size := fun k e => (World.ownsRow.lt u0 k e).2
  replace hO := hO.below hO.lt hb
  replace hR := hR.below hR.lt hb
  replace u0 := u0.below hb
  replace hB := hB.trans (hb.mono hB.size)
  have hsz := hb.size
  generalize hce1 : X1.heap.size = c1 at *
  clear hb hce1
  have y1 : w.heap.size + 1 < c1 := hlr
  clear hlr
  have d01 := u1.apart_of l01 (Nat.le_refl _)
  clear l01
  clear hsz
  obtain ⟨o0, o1, o2, o3, o4, o5, o6, o7, o8, o9, o10, o11, o12⟩ := id hO.at_
  have f4 := hO.fr 4
  have hlr := hR.lt
  delta Hid
  refine .inl ?_
  go_upto_region 3 with fail
  clear f4 hlr
  clear o0 o1 o2 o3 o4 o5 o6 o7 o8 o9 o10 o11 o12
  replace hO : RunBoxF (V2.setCell ⟨w.heap.size, 4, none⟩ (.slice a1 d.mail.length k1)) w.heap.size d ⟨a0, k0, a1, k1, q.a2, q.k2, q.a3, q.k3⟩ := hO.put4 d.mail a1 k1
  replace hR : RunBoxF (V2.setCell ⟨w.heap.size, 4, none⟩ (.slice a1 d.mail.length k1)) (w.heap.size + 1) runZ runPZ := hR.other (by show w.heap.size ≠ _; omega) _
  replace hB : Below w.heap.size w (V2.setCell ⟨w.heap.size, 4, none⟩ (.slice a1 d.mail.length k1)) := hB.setCell (by show w.heap.size ≤ w.heap.size; omega) _
  replace u0 : OwnsV (V2.setCell ⟨w.heap.size, 4, none⟩ (.slice a1 d.mail.length k1)) c0 (.slice a0 d.slots.length k0) d.slots := u0.put (u0.away (.inl (by show w.heap.size < _; omega))) _
  replace u1 : OwnsV (V2.setCell ⟨w.heap.size, 4, none⟩ (.slice a1 d.mail.length k1)) c1 (.slice a1 d.mail.length k1) d.mail := u1.put (u1.away (.inl (by show w.heap.size < _; omega))) _
  generalize (V2.setCell ⟨w.heap.size, 4, none⟩ (.slice a1 d.mail.length k1)) = X2 at *
  obtain ⟨o0, o1, o2, o3, o4, o5, o6, o7, o8, o9, o10, o11, o12⟩ := id hO.at_
  have hem : Owns (X2.alloc (.cells #[] 3)) X2.heap.size (.slice (some ⟨X2.heap.size, 0, none⟩) 0 0) [] := World.ownsRow_lit X2 #[] 0 (Nat.le_refl _) (by unfold maxLen; omega) rfl
  have hal : Below X2.heap.size X2 (X2.alloc (.cells #[] 3)) := (Below.refl _ _).alloc (Nat.le_refl _) _
  have hx : Hid (Ints S (X2.alloc (.cells #[] 3)) (.slice q.a2 d.links.length q.k2) d.links) := ((hM.below (hB.mono hS)).below (hal.mono (Nat.le_trans hS hB.size))).m2
  have hn : ([] : List Int).length + d.links.length ≤ 16777216 := by have := hs.out.s2; simp; omega
  have hle : X2.heap.size ≤ (X2.alloc (.cells #[] 3)).heap.size := by simp
  have hlr := hR.lt
  have hlo := hO.lt
  go_wp2_with (refine wpList_append_I _ rfl (.tmp 13) (.tmp 15) rfl rfl rfl hem hx.out hn hle ?_; intro v' V3 u2 hg hw; show Hid _)
  clear o0 o1 o2 o3 o4 o5 o6 o7 o8 o9 o10 o11 o12
  rw [List.nil_append] at u2
  obtain ⟨a2, k2, rfl⟩ := u2.form
  have hb : Below X2.heap.size X2 V3 := hal.grown hg hle (by intro k e; cases e; exact Nat.le_refl _)
  clear hem hx hn hal hg hw hle hlo
  have l02 : ∀ k, (Value.slice a0 d.slots.length k0).ownBlock = some k → k < X2.heap.size := fun k e => (World.ownsRow.lt u0 k e).2
  have l12 : ∀ k, (Value.slice a1 d.mail.length k1).ownBlock = some k → k < X2.heap.size := fun k e => (World.ownsRow.lt u1 k e).2
  replace hO := hO.below hO.lt hb
  replace hR := hR.below hR.lt hb
  replace u0 := u0.below hb
  replace u1 := u1.below hb
  replace hB := hB.trans (hb.mono hB.size)
  have hsz := hb.size
  generalize hce2 : X2.heap.size = c2 at *
  clear hb hce2
  have y2 : w.heap.size + 1 < c2 := hlr
  clear hlr
  have d02 := u2.apart_of l02 (Nat.le_refl _)
  clear l02
  have d12 := u2.apart_of l12 (Nat.le_refl _)
  clear l12
  clear hsz
  obtain ⟨o0, o1, o2, o3, o4, o5, o6, o7, o8, o9, o10, o11, o12⟩ := id hO.at_
  have f7 := hO.fr 7
  have hlr := hR.lt
  delta Hid
  refine .inl ?_
  go_upto_region 4 with fail
  clear f7 hlr
  clear o0 o1 o2 o3 o4 o5 o6 o7 o8 o9 o10 o11 o12
  replace hO : RunBoxF (V3.setCell ⟨w.heap.size, 7, none⟩ (.slice a2 d.links.length k2)) w.heap.size d ⟨a0, k0, a1, k1, a2, k2, q.a3, q.k3⟩ := hO.put7 d.links a2 k2
  replace hR : RunBoxF (V3.setCell ⟨w.heap.size, 7, none⟩ (.slice a2 d.links.length k2)) (w.heap.size + 1) runZ runPZ := hR.other (by show w.heap.size ≠ _; omega) _
  replace hB : Below w.heap.size w (V3.setCell ⟨w.heap.size, 7, none⟩ (.slice a2 d.links.length k2)) := hB.setCell (by show w.heap.size ≤ w.heap.size; omega) _
  replace u0 : OwnsV (V3.setCell ⟨w.heap.size, 7, none⟩ (.slice a2 d.links.length k2)) c0 (.slice a0 d.slots.length k0) d.slots := u0.put (u0.away (.inl (by show w.heap.size < _; omega))) _
  replace u1 : OwnsV (V3.setCell ⟨w.heap.size, 7, none⟩ (.slice a2 d.links.length k2)) c1 (.slice a1 d.mail.length k1) d.mail := u1.put (u1.away (.inl (by show w.heap.size < _; omega))) _
  replace u2 : Owns (V3.setCell ⟨w.heap.size, 7, none⟩ (.slice a2 d.links.length k2)) c2 (.slice a2 d.links.length k2) d.links := u2.put (u2.away (.inl (by show w.heap.size < _; omega))) _
  generalize (V3.setCell ⟨w.heap.size, 7, none⟩ (.slice a2 d.links.length k2)) = X3 at *
  obtain ⟨o0, o1, o2, o3, o4, o5, o6, o7, o8, o9, o10, o11, o12⟩ := id hO.at_
  have hem : Owns (X3.alloc (.cells #[] 3)) X3.heap.size (.slice (some ⟨X3.heap.size, 0, none⟩) 0 0) [] := World.ownsRow_lit X3 #[] 0 (Nat.le_refl _) (by unfold maxLen; omega) rfl
  have hal : Below X3.heap.size X3 (X3.alloc (.cells #[] 3)) := (Below.refl _ _).alloc (Nat.le_refl _) _
  have hx : Hid (Ints S (X3.alloc (.cells #[] 3)) (.slice q.a3 d.wat.length q.k3) d.wat) := ((hM.below (hB.mono hS)).below (hal.mono (Nat.le_trans hS hB.size))).m3
  have hn : ([] : List Int).length + d.wat.length ≤ 16777216 := by have := hs.out.s3; simp; omega
  have hle : X3.heap.size ≤ (X3.alloc (.cells #[] 3)).heap.size := by simp
  have hlr := hR.lt
  have hlo := hO.lt
  go_wp2_with (refine wpList_append_I _ rfl (.tmp 18) (.tmp 20) rfl rfl rfl hem hx.out hn hle ?_; intro v' V4 u3 hg hw; show Hid _)
  clear o0 o1 o2 o3 o4 o5 o6 o7 o8 o9 o10 o11 o12
  rw [List.nil_append] at u3
  obtain ⟨a3, k3, rfl⟩ := u3.form
  have hb : Below X3.heap.size X3 V4 := hal.grown hg hle (by intro k e; cases e; exact Nat.le_refl _)
  clear hem hx hn hal hg hw hle hlo
  have l03 : ∀ k, (Value.slice a0 d.slots.length k0).ownBlock = some k → k < X3.heap.size := fun k e => (World.ownsRow.lt u0 k e).2
  have l13 : ∀ k, (Value.slice a1 d.mail.length k1).ownBlock = some k → k < X3.heap.size := fun k e => (World.ownsRow.lt u1 k e).2
  have l23 : ∀ k, (Value.slice a2 d.links.length k2).ownBlock = some k → k < X3.heap.size := fun k e => (World.ownsRow.lt u2 k e).2
  replace hO := hO.below hO.lt hb
  replace hR := hR.below hR.lt hb
  replace u0 := u0.below hb
  replace u1 := u1.below hb
  replace u2 := u2.below hb
  replace hB := hB.trans (hb.mono hB.size)
  have hsz := hb.size
  generalize hce3 : X3.heap.size = c3 at *
  clear hb hce3
  have y3 : w.heap.size + 1 < c3 := hlr
  clear hlr
  have d03 := u3.apart_of l03 (Nat.le_refl _)
  clear l03
  have d13 := u3.apart_of l13 (Nat.le_refl _)
  clear l13
  have d23 := u3.apart_of l23 (Nat.le_refl _)
  clear l23
  clear hsz
  obtain ⟨o0, o1, o2, o3, o4, o5, o6, o7, o8, o9, o10, o11, o12⟩ := id hO.at_
  have f8 := hO.fr 8
  obtain ⟨r0, r1, r2, r3, r4, r5, r6, r7, r8, r9, r10, r11, r12⟩ := id hR.at_
  have e0 := hR.fr 0
  have e1 := hR.fr 1
  have e2 := hR.fr 2
  have e3 := hR.fr 3
  have e4 := hR.fr 4
  have e5 := hR.fr 5
  have e6 := hR.fr 6
  have e7 := hR.fr 7
  have e8 := hR.fr 8
  have e9 := hR.fr 9
  have e10 := hR.fr 10
  have e11 := hR.fr 11
  have e12 := hR.fr 12
  have hlr := hR.lt
  delta Hid
  refine .inl ?_
  go_wp2_with fail
  exact bodyPost_ret (v := d.val ⟨a0, k0, a1, k1, a2, k2, a3, k3⟩) (by simp [results, Tryz.results17, go_sem, r0, r1, r2, r3, r4, r5, r6, r7, r8, r9, r10, r11, r12]) rfl ⟨⟨a0, k0, a1, k1, a2, k2, a3, k3⟩, rfl, ⟨(((((((((((((((u0.put (a := ⟨w.heap.size, 8, none⟩) (u0.away (.inl (by show w.heap.size < _; omega))) (.slice a3 d.wat.length k3)).put (u0.away (c := (w.heap.size + 1)) (.inl (by omega))) _).put (u0.away (c := (w.heap.size + 1)) (.inl (by omega))) _).put (u0.away (c := (w.heap.size + 1)) (.inl (by omega))) _).put (u0.away (c := (w.heap.size + 1)) (.inl (by omega))) _).put (u0.away (c := (w.heap.size + 1)) (.inl (by omega))) _).put (u0.away (c := (w.heap.size + 1)) (.inl (by omega))) _).put (u0.away (c := (w.heap.size + 1)) (.inl (by omega))) _).put (u0.away (c := (w.heap.size + 1)) (.inl (by omega))) _).put (u0.away (c := (w.heap.size + 1)) (.inl (by omega))) _).put (u0.away (c := (w.heap.size + 1)) (.inl (by omega))) _).put (u0.away (c := (w.heap.size + 1)) (.inl (by omega))) _).put (u0.away (c := (w.heap.size + 1)) (.inl (by omega))) _).put (u0.away (c := (w.heap.size + 1)) (.inl (by omega))) _).mono (by omega)), (((((((((((((((u1.put (a := ⟨w.heap.size, 8, none⟩) (u1.away (.inl (by show w.heap.size < _; omega))) (.slice a3 d.wat.length k3)).put (u1.away (c := (w.heap.size + 1)) (.inl (by omega))) _).put (u1.away (c := (w.heap.size + 1)) (.inl (by omega))) _).put (u1.away (c := (w.heap.size + 1)) (.inl (by omega))) _).put (u1.away (c := (w.heap.size + 1)) (.inl (by omega))) _).put (u1.away (c := (w.heap.size + 1)) (.inl (by omega))) _).put (u1.away (c := (w.heap.size + 1)) (.inl (by omega))) _).put (u1.away (c := (w.heap.size + 1)) (.inl (by omega))) _).put (u1.away (c := (w.heap.size + 1)) (.inl (by omega))) _).put (u1.away (c := (w.heap.size + 1)) (.inl (by omega))) _).put (u1.away (c := (w.heap.size + 1)) (.inl (by omega))) _).put (u1.away (c := (w.heap.size + 1)) (.inl (by omega))) _).put (u1.away (c := (w.heap.size + 1)) (.inl (by omega))) _).put (u1.away (c := (w.heap.size + 1)) (.inl (by omega))) _).mono (by omega)), (((((((((((((((u2.put (a := ⟨w.heap.size, 8, none⟩) (u2.away (.inl (by show w.heap.size < _; omega))) (.slice a3 d.wat.length k3)).put (u2.away (c := (w.heap.size + 1)) (.inl (by omega))) _).put (u2.away (c := (w.heap.size + 1)) (.inl (by omega))) _).put (u2.away (c := (w.heap.size + 1)) (.inl (by omega))) _).put (u2.away (c := (w.heap.size + 1)) (.inl (by omega))) _).put (u2.away (c := (w.heap.size + 1)) (.inl (by omega))) _).put (u2.away (c := (w.heap.size + 1)) (.inl (by omega))) _).put (u2.away (c := (w.heap.size + 1)) (.inl (by omega))) _).put (u2.away (c := (w.heap.size + 1)) (.inl (by omega))) _).put (u2.away (c := (w.heap.size + 1)) (.inl (by omega))) _).put (u2.away (c := (w.heap.size + 1)) (.inl (by omega))) _).put (u2.away (c := (w.heap.size + 1)) (.inl (by omega))) _).put (u2.away (c := (w.heap.size + 1)) (.inl (by omega))) _).put (u2.away (c := (w.heap.size + 1)) (.inl (by omega))) _).mono (by omega)), (((((((((((((((u3.put (a := ⟨w.heap.size, 8, none⟩) (u3.away (.inl (by show w.heap.size < _; omega))) (.slice a3 d.wat.length k3)).put (u3.away (c := (w.heap.size + 1)) (.inl (by omega))) _).put (u3.away (c := (w.heap.size + 1)) (.inl (by omega))) _).put (u3.away (c := (w.heap.size + 1)) (.inl (by omega))) _).put (u3.away (c := (w.heap.size + 1)) (.inl (by omega))) _).put (u3.away (c := (w.heap.size + 1)) (.inl (by omega))) _).put (u3.away (c := (w.heap.size + 1)) (.inl (by omega))) _).put (u3.away (c := (w.heap.size + 1)) (.inl (by omega))) _).put (u3.away (c := (w.heap.size + 1)) (.inl (by omega))) _).put (u3.away (c := (w.heap.size + 1)) (.inl (by omega))) _).put (u3.away (c := (w.heap.size + 1)) (.inl (by omega))) _).put (u3.away (c := (w.heap.size + 1)) (.inl (by omega))) _).put (u3.away (c := (w.heap.size + 1)) (.inl (by omega))) _).put (u3.away (c := (w.heap.size + 1)) (.inl (by omega))) _).mono (by omega)), d01, d02, d03, d12, d13, d23⟩, ((((((((((((((hB.setCell (by show w.heap.size ≤ w.heap.size; omega) _).setCell (by show w.heap.size ≤ (w.heap.size + 1); omega) _).setCell (by show w.heap.size ≤ (w.heap.size + 1); omega) _).setCell (by show w.heap.size ≤ (w.heap.size + 1); omega) _).setCell (by show w.heap.size ≤ (w.heap.size + 1); omega) _).setCell (by show w.heap.size ≤ (w.heap.size + 1); omega) _).setCell (by show w.heap.size ≤ (w.heap.size + 1); omega) _).setCell (by show w.heap.size ≤ (w.heap.size + 1); omega) _).setCell (by show w.heap.size ≤ (w.heap.size + 1); omega) _).setCell (by show w.heap.size ≤ (w.heap.size + 1); omega) _).setCell (by show w.heap.size ≤ (w.heap.size + 1); omega) _).setCell (by show w.heap.size ≤ (w.heap.size + 1); omega) _).setCell (by show w.heap.size ≤ (w.heap.size + 1); omega) _).setCell (by show w.heap.size ≤ (w.heap.size + 1); omega) _)⟩
end Go.Proofs.YtklgpkkghhaccaaGreat.Eld
namespace Go.Proofs.YtklgpkkghhaccaaGreat.Eld
open Go.ChangeShapes Go.WideShapes Go.ChangeAt Go.RowKit Go.Joins
set_option maxRecDepth 20000 in
set_option maxHeartbeats 4000000 in
theorem chainOf_free (S : Nat) (M : List (Int × Int)) (b o cap : Nat) (w : World) (hS : S ≤ w.heap.size) (hl : M.length ≤ 1048576) (hb : b < S) (hc : ∀ i (h : i < M.length), ValAt w b (o + i * 2) M[i]) :
    Calls Tryz.prog 18 #[.slice (some ⟨b, o, none⟩) M.length cap] w fun e w' => e = .returned (.pointer (some ⟨w.heap.size, 0, none⟩)) ∧ (∃ l, Seg w' w.heap.size M l ∧ l < w'.heap.size ∧ w'.cell? ⟨l, 2, none⟩ = some (.pointer none)) ∧ (∀ b o, w.heap.size ≤ b → w'.frozen? ⟨b, o, none⟩ = false) ∧ Below w.heap.size w w' := by
  replace hc : Hid (∀ i (h : i < M.length), ValAt w b (o + i * 2) M[i]) := hc
  go_enter Tryz.func18, Tryz.ntmps18
  go_wp2_with fail
  go_loopw [4, 12] (fun l i wr => ∃ k lb : Nat, k ≤ M.length ∧ i = .int .i64 k ∧ l = .pointer (some ⟨lb, 0, none⟩) ∧ Seg wr w.heap.size (M.take k) lb ∧ lb < wr.heap.size ∧ wr.cell? ⟨lb, 2, none⟩ = some (.pointer none) ∧ (∀ b o, w.heap.size ≤ b → wr.frozen? ⟨b, o, none⟩ = false) ∧ Below w.heap.size w wr) (fun _ i _ => M.length - (intOf i).toNat)
  case atStart => exact ⟨0, w.heap.size, Nat.zero_le _, rfl, rfl, rfl, by simp, by simp [go_sem], fun b o hb => by rw [frozen?_alloc_cells]; exact frozen_past _ _ _ hb, (Below.refl _ _).alloc (Nat.le_refl _) _⟩
  case round =>
    obtain ⟨k, lb, hk, rfl, rfl, hG, hlb, hn, hfa, hBr⟩ := hrel
    have hfz : wr.frozen? ⟨lb, 2, none⟩ = false := hfa lb 2 hG.le
    replace hfa : Hid (∀ b o, w.heap.size ≤ b → wr.frozen? ⟨b, o, none⟩ = false) := hfa
    have hzr := hBr.size
    by_cases hlt : k < M.length
    · have g1 : (k : Int) < (M.length : Int) := by omega
      obtain ⟨v0, v1⟩ := hc.out k hlt
      have d0 : wr.cell? ⟨b, o + k * 2, none⟩ = some (.int .i64 M[k].1) := (hBr.cell (p := ⟨b, o + k * 2, none⟩) (by show b < w.heap.size; omega)).trans v0
      have d1 : wr.cell? ⟨b, o + k * 2 + 1, none⟩ = some (.int .i64 M[k].2) := (hBr.cell (p := ⟨b, o + k * 2 + 1, none⟩) (by show b < w.heap.size; omega)).trans v1
      have hwl := hG.le
      have htk : M.take (k + 1) = M.take k ++ [(M[k].1, M[k].2)] := by rw [List.take_succ_eq_append_getElem hlt]
      replace htk : Hid (M.take (k + 1) = M.take k ++ [(M[k].1, M[k].2)]) := htk
      clear v0 v1
      generalize M[k].1 = x at *
      generalize M[k].2 = y at *
      replace hG : Hid (Seg wr w.heap.size (M.take k) lb) := hG
      go_wp2_with fail
      go_roundw
      case rel =>
        have hX : Below wr.heap.size (wr.setCell ⟨lb, 2, none⟩ (.pointer (some ⟨wr.heap.size + 1, 0, none⟩))) (((wr.setCell ⟨lb, 2, none⟩ (.pointer (some ⟨wr.heap.size + 1, 0, none⟩))).alloc (.cells #[.int .i64 x, .int .i64 y] 26)).alloc (.cells #[.int .i64 x, .int .i64 y, .pointer none] 64)) := (((Below.refl _ _).alloc (by simp) _).alloc (by simp) _)
        refine ⟨k + 1, wr.heap.size + 1, by omega, by go_num, rfl, ?_, by simp, by simp [go_sem], fun b o hb => by rw [frozen?_alloc_cells, frozen?_alloc_cells, World.frozen?_setCell]; exact hfa.out b o hb, ((hBr.setCell (p := ⟨lb, 2, none⟩) hwl _).alloc (by simp; omega) _).alloc (by simp; omega) _⟩
        rw [htk.out]
        refine hG.out.snoc (by omega) (fun a e ha hae => ?_) ?_ ⟨by simp [go_sem], by simp [go_sem]⟩
        · exact (hX.cell (p := ⟨a, e, none⟩) (by show a < wr.heap.size; omega)).trans (set_other wr lb a e _ hae)
        · refine (hX.cell (p := ⟨lb, 2, none⟩) hlb).trans ?_
          exact World.cell?_setCell_same _ _ _ hn
      case measure => simp [intOf]; omega
    · have e : k = M.length := by omega
      subst e
      rw [List.take_length] at hG
      replace hG : Hid (Seg wr w.heap.size M lb) := hG
      go_wp2_with fail
      go_ret
      exact ⟨rfl, ⟨lb, hG.out, hlb, hn⟩, hfa.out, hBr⟩
theorem chainOf_allF (S : Nat) (M : List (Int × Int)) (v : Value) (w : World) (hS : S ≤ w.heap.size) (hl : M.length ≤ 1048576) (hM : Vals S w v M) :
    Calls Tryz.prog 18 #[v] w fun e w' => e = .returned (.pointer (some ⟨w.heap.size, 0, none⟩)) ∧ (∃ l, Seg w' w.heap.size M l ∧ l < w'.heap.size ∧ w'.cell? ⟨l, 2, none⟩ = some (.pointer none)) ∧ (∀ b o, w.heap.size ≤ b → w'.frozen? ⟨b, o, none⟩ = false) ∧ Below w.heap.size w w' := by
  obtain ⟨ao, cap, rfl, hc⟩ := hM
  rcases hc with rfl | ⟨b, o, rfl, hb, hc⟩
  · go_enter Tryz.func18, Tryz.ntmps18
    go_wp2_with fail
    refine wp_loop_rounds 1 ?_
    rw [rounds_succ]
    go_wp2_with fail
    go_ret
    exact ⟨rfl, ⟨w.heap.size, rfl, by simp, by simp [go_sem]⟩, fun b o hb => by rw [frozen?_alloc_cells]; exact frozen_past _ _ _ hb, (Below.refl _ _).alloc (Nat.le_refl _) _⟩
  · exact chainOf_free S M b o cap w hS hl hb hc
theorem Seg.append {w : World} : ∀ {A B : List (Int × Int)} {h m l : Nat}, Seg w h A m → Seg w m B l → Seg w h (A ++ B) l
  | [], _, _, _, _, h, k => by have e : _ = _ := h; rw [e]; exact k
  | _ :: _, _, _, _, _, ⟨c, hc, h1, h2, h⟩, k => ⟨c, hc, h1, h2, h.append k⟩
theorem Seg.sameL {w w' : World} : ∀ {M : List (Int × Int)} {b l : Nat}, Seg w b M l → (∀ x y : Nat, x ≤ l → (x < l ∨ y ≠ 2) → w'.cell? ⟨x, y, none⟩ = w.cell? ⟨x, y, none⟩) → Seg w' b M l
  | [], _, _, h, _ => h
  | v :: M, b, l, ⟨c, hc, h1, h2, h⟩, hk => ⟨c, hc, (hk b 2 (by have := h.le; omega) (.inl (by have := h.le; omega))).trans h1, ⟨(hk c 0 h.le (.inr (by omega))).trans h2.1, (hk c 1 h.le (.inr (by omega))).trans h2.2⟩, h.sameL hk⟩
theorem Seg.sameR {w w' : World} : ∀ {M : List (Int × Int)} {b l : Nat}, Seg w b M l → (∀ x y : Nat, b ≤ x → x ≤ l → w'.cell? ⟨x, y, none⟩ = w.cell? ⟨x, y, none⟩) → Seg w' b M l
  | [], _, _, h, _ => h
  | v :: M, b, l, ⟨c, hc, h1, h2, h⟩, hk => ⟨c, hc, (hk b 2 (Nat.le_refl _) (by have := h.le; omega)).trans h1, ⟨(hk c 0 (by omega) h.le).trans h2.1, (hk c 1 (by omega) h.le).trans h2.2⟩, h.sameR fun x y hx hl => hk x y (by omega) hl⟩
/-- the chain without the letter behind ab -/
theorem Seg.without {w w' : World} {A B : List (Int × Int)} {h ab c l : Nat} (hA : Seg w h A ab) (hc : ab < c) (hB : Seg w c B l) (hn : w.cell? ⟨l, 2, none⟩ = some (.pointer none))
    (hk : ∀ x y : Nat, x ≤ l → (x ≠ ab ∨ y ≠ 2) → w'.cell? ⟨x, y, none⟩ = w.cell? ⟨x, y, none⟩) (h2 : w'.cell? ⟨ab, 2, none⟩ = w.cell? ⟨c, 2, none⟩) :
    ∃ l', Seg w' h (A ++ B) l' ∧ l' ≤ l ∧ w'.cell? ⟨l', 2, none⟩ = some (.pointer none) := by
  have hcl := hB.le
  have hA' : Seg w' h A ab := hA.sameL fun x y hx hy => hk x y (by omega) (by omega)
  match B, hB with
  | [], hB =>
    have e : c = l := hB
    subst e
    exact ⟨ab, by rw [List.append_nil]; exact hA', by omega, h2.trans hn⟩
  | u :: B, ⟨c', hc', g1, g2, g⟩ =>
    have hl' := g.le
    refine ⟨l, hA'.append ⟨c', by omega, h2.trans g1, ⟨(hk c' 0 hl' (.inr (by omega))).trans g2.1, (hk c' 1 hl' (.inr (by omega))).trans g2.2⟩, g.sameR fun x y hx hxl => hk x y hxl (.inl (by omega))⟩, Nat.le_refl _, (hk l 2 (Nat.le_refl _) (.inl (by omega))).trans hn⟩
set_option maxRecDepth 20000 in
set_option maxHeartbeats 4000000 in
theorem takeNext_any (ab c : Nat) (v : Int × Int) (po : Option Addr) (w : World) (hac : ab < c) (hcw : c < w.heap.size) (h2 : w.cell? ⟨ab, 2, none⟩ = some (.pointer (some ⟨c, 0, none⟩))) (hv : ValAt w c 0 v) (hp : w.cell? ⟨c, 2, none⟩ = some (.pointer po)) (hf : w.frozen? ⟨ab, 2, none⟩ = false) :
    Calls Tryz.prog 20 #[.pointer (some ⟨ab, 0, none⟩)] w fun e w' => e = .returned (.agg #[.int .i64 v.1, .int .i64 v.2]) ∧ (∀ x y : Nat, x < w.heap.size → (x ≠ ab ∨ y ≠ 2) → w'.cell? ⟨x, y, none⟩ = w.cell? ⟨x, y, none⟩) ∧ w'.cell? ⟨ab, 2, none⟩ = some (.pointer po) ∧ But ab w w' := by
  obtain ⟨v0, v1⟩ := hv
  have hx0 : w.heap.size ≠ ab := by omega
  have hx1 : w.heap.size + 1 ≠ ab := by omega
  have hx2 : w.heap.size ≠ c := by omega
  have hx3 : w.heap.size + 1 ≠ c := by omega
  have hx4 : ab ≠ c := by omega
  have hx5 : ab < w.heap.size := by omega
  go_enter Tryz.func20, Tryz.ntmps20
  go_wp2_with fail
  have hX : Below w.heap.size (w.setCell ⟨ab, 2, none⟩ (.pointer po)) (((w.setCell ⟨ab, 2, none⟩ (.pointer po)).alloc (.cells #[.int .i64 v.1, .int .i64 v.2] 26)).alloc (.cells #[.int .i64 v.1, .int .i64 v.2] 26)) := ((Below.refl _ _).alloc (by simp [World.setCell]) _).alloc (by simp [World.setCell]) _
  have hc : ∀ x y : Nat, (x ≠ ab ∨ y ≠ 2) → (w.setCell ⟨ab, 2, none⟩ (.pointer po)).cell? ⟨x, y, none⟩ = w.cell? ⟨x, y, none⟩ := fun x y h => by
    by_cases e : ab = x
    · subst e
      have hy : y ≠ 2 := by omega
      exact World.cell?_setCell_other w _ _ _ (by intro e; injection e with _ e2; omega)
    · exact World.cell?_setCell_far w _ _ _ e
  exact bodyPost_ret (v := .agg #[.int .i64 v.1, .int .i64 v.2]) (by simp [results, Tryz.results20, go_sem]) rfl ⟨rfl, fun x y hx hy => (hX.cell (p := ⟨x, y, none⟩) hx).trans (hc x y hy), (hX.cell (p := ⟨ab, 2, none⟩) hx5).trans (World.cell?_setCell_same _ _ _ h2), (((But.refl ab w).setCell (p := ⟨ab, 2, none⟩) rfl _).alloc _).alloc _⟩
set_option maxRecDepth 20000 in
set_option maxHeartbeats 4000000 in
theorem behind_any (h l : Nat) (M : List (Int × Int)) (w : World) (hl : M.length ≤ 1048576) (hG : Seg w h M l) (hlw : l < w.heap.size) (hn : w.cell? ⟨l, 2, none⟩ = some (.pointer none)) :
    Calls Tryz.prog 22 #[.pointer (some ⟨h, 0, none⟩)] w fun e w' => ∃ ao cap, e = .returned (.slice ao M.length cap) ∧ OwnsV w' w.heap.size (.slice ao M.length cap) M ∧ Below w.heap.size w w' := by
  have hp0 : ∃ po, w.cell? ⟨h, 2, none⟩ = some (.pointer po) := by
    match M, hG with
    | [], hG => have e : h = l := hG; rw [e]; exact ⟨_, hn⟩
    | _ :: _, ⟨_, _, h1, _⟩ => exact ⟨_, h1⟩
  obtain ⟨p0, hp0⟩ := hp0
  replace hG : Hid (Seg w h M l) := hG
  go_enter Tryz.func22, Tryz.ntmps22
  go_wp2_with fail
  go_loopw [3, 4] (fun m nx wr => ∃ (k ab : Nat) (po : Option Addr), k ≤ M.length ∧ nx = .pointer po ∧ w.cell? ⟨ab, 2, none⟩ = some (.pointer po) ∧ Seg w ab (M.drop k) l ∧ OwnsV wr w.heap.size m (M.take k) ∧ Below w.heap.size w wr ∧ (po = none → k = M.length)) (fun m _ _ => M.length - (match m with | .slice _ n _ => n | _ => 0))
  case atStart =>
    refine ⟨0, h, p0, Nat.zero_le _, rfl, hp0, hG.out, World.ownsRow_nil w w.heap.size 26 2, Below.refl _ _, fun e => ?_⟩
    subst e
    match M, hG.out with
    | [], _ => rfl
    | _ :: _, ⟨_, _, h1, _⟩ => rw [hp0] at h1; cases h1
  case round =>
    obtain ⟨k, ab, po, hk, rfl, hab, hD, hO, hBr, hpo⟩ := hrel
    have hzr := hBr.size
    obtain ⟨ao, cap, rfl⟩ := hO.form
    have htl : (M.take k).length = k := by rw [List.length_take]; omega
    by_cases hlt : k < M.length
    · rw [List.drop_eq_getElem_cons hlt] at hD
      obtain ⟨c, hac, hp, hv, hD⟩ := hD
      rw [hab] at hp
      cases hp
      have hcl := hD.le
      have hp1 : ∃ po, w.cell? ⟨c, 2, none⟩ = some (.pointer po) ∧ (po = none → k + 1 = M.length) := by
        by_cases e : k + 1 = M.length
        · rw [e, List.drop_length] at hD
          have e2 : c = l := hD
          rw [e2]; exact ⟨_, hn, fun _ => e⟩
        · rw [List.drop_eq_getElem_cons (by omega)] at hD
          obtain ⟨c', _, h1, _⟩ := hD
          exact ⟨_, h1, fun e => by cases e⟩
      obtain ⟨p1, hp1, hq1⟩ := hp1
      replace hD : Hid (Seg w c (M.drop (k + 1)) l) := hD
      replace hq1 : Hid (p1 = none → k + 1 = M.length) := hq1
      have htk : Hid (M.take (k + 1) = M.take k ++ [(M[k].1, M[k].2)]) := by show _ = _; rw [List.take_succ_eq_append_getElem hlt]
      have d0 : wr.cell? ⟨c, 0, none⟩ = some (.int .i64 M[k].1) := (hBr.cell (p := ⟨c, 0, none⟩) (by show c < w.heap.size; omega)).trans hv.1
      have d1 : wr.cell? ⟨c, 1, none⟩ = some (.int .i64 M[k].2) := (hBr.cell (p := ⟨c, 1, none⟩) (by show c < w.heap.size; omega)).trans hv.2
      clear hpo hab hv
      generalize M[k].1 = x at *
      generalize M[k].2 = y at *
      have hem : Vals (wr.heap.size + 1) (wr.alloc (.cells #[.int .i64 x, .int .i64 y] 26)) (.slice (some ⟨wr.heap.size, 0, none⟩) 1 1) [(x, y)] := ⟨_, _, rfl, .inr ⟨wr.heap.size, 0, rfl, by omega, fun i hi => by
        have e : i = 0 := by simp at hi; omega
        subst e
        exact ⟨by simp [go_sem], by simp [go_sem]⟩⟩⟩
      replace hO : OwnsV (wr.alloc (.cells #[.int .i64 x, .int .i64 y] 26)) w.heap.size (.slice ao (M.take k).length cap) (M.take k) := World.ownsRow.alloc hO _
      have hn1 : (M.take k).length + [(x, y)].length ≤ 16777216 := by rw [htl]; simp; omega
      have hle : w.heap.size ≤ (wr.alloc (.cells #[.int .i64 x, .int .i64 y] 26)).heap.size := by simp; omega
      have hcw : c < wr.heap.size := by omega
      replace hn : Hid (w.cell? ⟨l, 2, none⟩ = some (.pointer none)) := hn
      replace htl : Hid ((M.take k).length = k) := htl
      have hown : ∀ j, (Value.slice ao (M.take k).length cap).ownBlock = some j → w.heap.size ≤ j := fun j e => (World.ownsRow.lt hO j e).1
      go_wp2_with (refine wpList_append_V _ rfl (.tmp 15) (.tmp 20) rfl rfl rfl hO hem hn1 hle ?_; intro v' w1 hO1 hg1 hw1; show Hid _)
      have hb1 : Below w.heap.size w w1 := (hBr.alloc (by omega) _).grown hg1 hle hown
      have p2 : w1.cell? ⟨c, 2, none⟩ = some (.pointer p1) := (hb1.cell (p := ⟨c, 2, none⟩) (by show c < w.heap.size; omega)).trans hp1
      rw [← htk.out] at hO1
      clear hO hem hn1 hle d0 d1 hw1 hg1 hown
      delta Hid
      refine .inl ?_
      go_wp2_with fail
      go_roundw
      case rel => exact ⟨k + 1, c, p1, by omega, rfl, hp1, hD.out, hO1, hb1, hq1.out⟩
      case measure =>
        obtain ⟨ao1, cap1, rfl⟩ := hO1.form
        have e1 : (M.take (k + 1)).length = k + 1 := by rw [List.length_take]; omega
        have e0 := htl.out
        simp only [e1, e0]; omega
    · have e : k = M.length := by omega
      subst e
      rw [List.drop_length] at hD
      have e2 : ab = l := hD
      subst e2
      rw [hn] at hab
      cases hab
      rw [List.take_length] at hO htl
      go_wp2_with fail
      go_ret
      exact ⟨ao, cap, rfl, hO, hBr⟩
end Go.Proofs.YtklgpkkghhaccaaGreat.Eld
namespace Go.Proofs.YtklgpkkghhaccaaGreat.Eld
open Go.ChangeShapes Go.WideShapes Go.ChangeAt Go.RowKit Go.Joins
open AH
/-- the place of the value that is taken -/
def takeK (d : RunD) (kind : Int) : Option Nat := if specRB d = true ∧ (0 ≤ kind ∧ kind ≤ 3) then firstP kind d.mail else none
/-- the run that is left, the value, and whether there was one -/
def takeD (d : RunD) (kind : Int) : RunD := match takeK d kind with
  | some k => { d with mail := d.mail.take k ++ d.mail.drop (k + 1) }
  | none => runZ
def takeV (d : RunD) (kind : Int) : Int × Int := match takeK d kind with
  | some k => d.mail.getD k (0, 0)
  | none => (0, 0)
def takeB (d : RunD) (kind : Int) : Bool := (takeK d kind).isSome
theorem sFirst_take (d : RunD) (kind : Int) : sFirst d kind = (match takeK d kind with | some k => ((k : Int), true) | none => (0, false)) := by
  unfold sFirst takeK
  split <;> rfl
theorem takeK_some {d : RunD} {kind : Int} {k : Nat} (h : sFirst d kind = ((k : Int), true)) : takeK d kind = some k := by
  rw [sFirst_take] at h
  cases e : takeK d kind with
  | none => rw [e] at h; cases h
  | some j => rw [e] at h; have e1 : (j : Int) = (k : Int) := congrArg Prod.fst h; have e2 : j = k := (by omega); rw [e2]
theorem takeK_none {d : RunD} {kind : Int} (h : sFirst d kind = (0, false)) : takeK d kind = none := by
  rw [sFirst_take] at h
  cases e : takeK d kind with
  | none => rfl
  | some j => rw [e] at h; have := congrArg Prod.snd h; cases this
/-- a value's own cells in memory, which may be written -/
structure ValBoxF (w : World) (b : Nat) (x : Int × Int) : Prop where
  at_ : ValAt w b 0 x
  fr : ∀ i, w.frozen? ⟨b, i, none⟩ = false
  lt : b < w.heap.size
theorem ValBoxF.below {S : Nat} {w w' : World} {b : Nat} {x : Int × Int} (h : ValBoxF w b x) (hl : b < S) (hb : Below S w w') : ValBoxF w' b x :=
  ⟨h.at_.below hl hb, fun i => (hb.frozen (p := ⟨b, i, none⟩) hl).trans (h.fr i), Nat.lt_of_lt_of_le h.lt hb.size⟩
theorem ValBoxF.new' (w : World) (x : Int × Int) (t : TypeId) (b : Nat) (hb : b = w.heap.size) : ValBoxF (w.alloc (.cells #[.int .i64 x.1, .int .i64 x.2] t)) b x := by
  subst hb; exact ⟨⟨by simp [go_sem], by simp [go_sem]⟩, fun i => by simp [go_sem], by simp⟩
theorem ValBoxF.but {R : Nat} {w w' : World} {b : Nat} {x : Int × Int} (h : ValBoxF w b x) (hn : b ≠ R) (k : But R w w') : ValBoxF w' b x :=
  ⟨⟨(k.cell (p := ⟨b, 0, none⟩) h.lt hn).trans h.at_.1, (k.cell (p := ⟨b, 0 + 1, none⟩) h.lt hn).trans h.at_.2⟩, fun i => (k.frozen (p := ⟨b, i, none⟩) h.lt hn).trans (h.fr i), Nat.lt_of_lt_of_le h.lt k.size⟩
theorem RunBoxF.but {R : Nat} {w w' : World} {b : Nat} {d : RunD} {p : RunP} (h : RunBoxF w b d p) (hn : b ≠ R) (k : But R w w') : RunBoxF w' b d p := by
  have c : ∀ i, w'.cell? ⟨b, i, none⟩ = w.cell? ⟨b, i, none⟩ := fun i => k.cell (p := ⟨b, i, none⟩) h.lt hn
  exact ⟨⟨(c _).trans h.at_.c0, (c _).trans h.at_.c1, (c _).trans h.at_.c2, (c _).trans h.at_.c3, (c _).trans h.at_.c4, (c _).trans h.at_.c5, (c _).trans h.at_.c6, (c _).trans h.at_.c7, (c _).trans h.at_.c8, (c _).trans h.at_.c9, (c _).trans h.at_.c10, (c _).trans h.at_.c11, (c _).trans h.at_.c12⟩, fun i => (k.frozen (p := ⟨b, i, none⟩) h.lt hn).trans (h.fr i), Nat.lt_of_lt_of_le h.lt k.size⟩
set_option maxRecDepth 20000 in
set_option maxHeartbeats 4000000 in
theorem implRunTake_any (S : Nat) (d : RunD) (q : RunP) (kind : Int) (w : World) (hS : S ≤ w.heap.size) (hs : d.Short) (hk2 : d.links.length ≤ q.k2) (hk3 : d.wat.length ≤ q.k3) (hM : RunMem S w d q) :
    Calls Tryz.prog 8 #[d.val q, .int .i64 kind] w fun e w' => ∃ p, e = .returned (.tuple #[(takeD d kind).val p, .agg #[.int .i64 (takeV d kind).1, .int .i64 (takeV d kind).2], .bool (takeB d kind)]) ∧ OwnRun w' w.heap.size (takeD d kind) p ∧ Below w.heap.size w w' := by
  replace hs : Hid d.Short := hs
  replace hk2 : Hid (d.links.length ≤ q.k2) := hk2
  replace hk3 : Hid (d.wat.length ≤ q.k3) := hk3
  have hA : RunBoxF (w.alloc (.cells (d.cells q) 28)) w.heap.size d q := RunBoxF.new w d q 28
  have hR : RunBoxF ((w.alloc (.cells (d.cells q) 28)).alloc (.cells #[.int .i64 0, .int .i64 0, .slice none 0 0, .int .i64 0, .slice none 0 0, .int .i64 0, .int .i64 0, .slice none 0 0, .slice none 0 0, .bool false, .int .i64 0, .int .i64 0, .int .i64 0] 28)) (w.heap.size + 1) runZ runPZ := RunBoxF.new' _ _ _ _ _ _ (by simp) rfl
  have hV : ValBoxF (((w.alloc (.cells (d.cells q) 28)).alloc (.cells #[.int .i64 0, .int .i64 0, .slice none 0 0, .int .i64 0, .slice none 0 0, .int .i64 0, .int .i64 0, .slice none 0 0, .slice none 0 0, .bool false, .int .i64 0, .int .i64 0, .int .i64 0] 28)).alloc (.cells #[.int .i64 0, .int .i64 0] 26)) (w.heap.size + 1 + 1) (0, 0) := ValBoxF.new' _ (0, 0) _ _ (by simp)
  replace hA := (hA.below (S := w.heap.size + 1) (by omega) ((Below.refl _ _).alloc (by simp) (.cells #[.int .i64 0, .int .i64 0, .slice none 0 0, .int .i64 0, .slice none 0 0, .int .i64 0, .int .i64 0, .slice none 0 0, .slice none 0 0, .bool false, .int .i64 0, .int .i64 0, .int .i64 0] 28))).below (S := w.heap.size + 1) (by omega) ((Below.refl _ _).alloc (by simp <;> omega) (.cells #[.int .i64 0, .int .i64 0] 26))
  replace hR := hR.below (S := w.heap.size + 1 + 1) (by omega) ((Below.refl _ _).alloc (by simp) (.cells #[.int .i64 0, .int .i64 0] 26))
  have hB0 : Below w.heap.size w (((w.alloc (.cells (d.cells q) 28)).alloc (.cells #[.int .i64 0, .int .i64 0, .slice none 0 0, .int .i64 0, .slice none 0 0, .int .i64 0, .int .i64 0, .slice none 0 0, .slice none 0 0, .bool false, .int .i64 0, .int .i64 0, .int .i64 0] 28)).alloc (.cells #[.int .i64 0, .int .i64 0] 26)) := (((Below.refl _ _).alloc (Nat.le_refl _) _).alloc (by simp) _).alloc (by simp; omega) _
  go_enter Tryz.func8, Tryz.ntmps8
  go_wp2_with fail
  generalize (((w.alloc (.cells (d.cells q) 28)).alloc (.cells #[.int .i64 0, .int .i64 0, .slice none 0 0, .int .i64 0, .slice none 0 0, .int .i64 0, .int .i64 0, .slice none 0 0, .slice none 0 0, .bool false, .int .i64 0, .int .i64 0, .int .i64 0] 28)).alloc (.cells #[.int .i64 0, .int .i64 0] 26)) = w0 at *
  have hz0 := hV.lt
  have hM0 : RunMem S w0 d q := hM.below (hB0.mono hS)
  refine (implRunOk_any S d q w0 (by omega) hs.out hk2.out hk3.out hM0).mono ?_
  rintro e w1 ⟨rfl, hb1⟩
  have hz1 := hb1.size
  replace hA := hA.below hA.lt hb1
  replace hR := hR.below hR.lt hb1
  replace hV := hV.below hV.lt hb1
  have hM1 := hM0.below (hb1.mono (by omega))
  have hB1 : Below w.heap.size w w1 := hB0.trans (hb1.mono (by omega))
  clear hb1 hM0 hM hB0
  obtain ⟨c0, c1, c2, c3, c4, c5, c6, c7, c8, c9, c10, c11, c12⟩ := id hA.at_
  obtain ⟨r0, r1, r2, r3, r4, r5, r6, r7, r8, r9, r10, r11, r12⟩ := id hR.at_
  obtain ⟨v0, v1⟩ := id hV.at_
  have e0 := hR.fr 0
  have e1 := hR.fr 1
  have e2 := hR.fr 2
  have e3 := hR.fr 3
  have e4 := hR.fr 4
  have e5 := hR.fr 5
  have e6 := hR.fr 6
  have e7 := hR.fr 7
  have e8 := hR.fr 8
  have e9 := hR.fr 9
  have e10 := hR.fr 10
  have e11 := hR.fr 11
  have e12 := hR.fr 12
  have g0 := hV.fr 0
  have g1 := hV.fr 1
  have hl1 : w.heap.size + 1 + 1 < w1.heap.size := hV.lt
  cases h1 : runB d with
  | false =>
    have hf : takeK d kind = none := takeK_none (if_neg (by unfold specRB; rw [h1]; simp))
    have hfd : Hid (takeD d kind = runZ) := by show takeD d kind = runZ; unfold takeD; rw [hf]
    have hfv : Hid (takeV d kind = (0, 0)) := by show takeV d kind = _; unfold takeV; rw [hf]
    have hfb : Hid (takeB d kind = false) := by show takeB d kind = false; unfold takeB; rw [hf]; rfl
    --FALSE
    go_wp2_with fail
    exact bodyPost_ret (v := .tuple #[.agg #[.int .i64 0, .int .i64 0, .slice none 0 0, .int .i64 0, .slice none 0 0, .int .i64 0, .int .i64 0, .slice none 0 0, .slice none 0 0, .bool false, .int .i64 0, .int .i64 0, .int .i64 0], .agg #[.int .i64 0, .int .i64 0], .bool false]) (by simp [results, Tryz.results8, go_sem, r0, r1, r2, r3, r4, r5, r6, r7, r8, r9, r10, r11, r12, v0, v1]) rfl ⟨runPZ, by rw [hfd.out, hfv.out, hfb.out]; rfl, by rw [hfd.out]; exact own_runZ _ _, (((((((((((((((hB1.setCell (by show w.heap.size ≤ w.heap.size + 1; omega) _).setCell (by show w.heap.size ≤ w.heap.size + 1; omega) _).setCell (by show w.heap.size ≤ w.heap.size + 1; omega) _).setCell (by show w.heap.size ≤ w.heap.size + 1; omega) _).setCell (by show w.heap.size ≤ w.heap.size + 1; omega) _).setCell (by show w.heap.size ≤ w.heap.size + 1; omega) _).setCell (by show w.heap.size ≤ w.heap.size + 1; omega) _).setCell (by show w.heap.size ≤ w.heap.size + 1; omega) _).setCell (by show w.heap.size ≤ w.heap.size + 1; omega) _).setCell (by show w.heap.size ≤ w.heap.size + 1; omega) _).setCell (by show w.heap.size ≤ w.heap.size + 1; omega) _).setCell (by show w.heap.size ≤ w.heap.size + 1; omega) _).setCell (by show w.heap.size ≤ w.heap.size + 1; omega) _).setCell (by show w.heap.size ≤ w.heap.size + 1 + 1; omega) _).setCell (by show w.heap.size ≤ w.heap.size + 1 + 1; omega) _)⟩
  | true =>
    replace h1 : Hid (runB d = true) := h1
    go_wp2_with fail
    clear c0 c1 c2 c3 c4 c5 c6 c7 c8 c9 c10 c11 c12 r0 r1 r2 r3 r4 r5 r6 r7 r8 r9 r10 r11 r12 v0 v1 e0 e1 e2 e3 e4 e5 e6 e7 e8 e9 e10 e11 e12 g0 g1
    refine (chainOf_allF S d.mail _ w1 (by omega) hs.out.s1 hM1.m1).mono ?_
    rintro e w2 ⟨rfl, ⟨l, hG, hlw, hn⟩, hfz, hb2⟩
    have hz2 := hb2.size
    replace hA := hA.below hA.lt hb2
    replace hR := hR.below hR.lt hb2
    replace hV := hV.below hV.lt hb2
    have hM2 := hM1.below (hb2.mono (by omega))
    have hB2 : Below w.heap.size w w2 := hB1.trans (hb2.mono (by omega))
    clear hb2 hM1 hB1
    replace hG : Hid (Seg w2 w1.heap.size d.mail l) := hG
    replace hn : Hid (w2.cell? ⟨l, 2, none⟩ = some (.pointer none)) := hn
    replace hfz : Hid (∀ b o, w1.heap.size ≤ b → w2.frozen? ⟨b, o, none⟩ = false) := hfz
    go_wp2_with fail
    refine (aheadOf_any w1.heap.size l d.mail kind w2 hs.out.s1 hG.out hlw hn.out).mono ?_
    rintro e w3 ⟨hAh, hb3⟩
    have hz3 := hb3.size
    replace hA := hA.below hA.lt hb3
    replace hR := hR.below hR.lt hb3
    replace hV := hV.below hV.lt hb3
    have hM3 := hM2.below (hb3.mono (by omega))
    have hB3 : Below w.heap.size w w3 := hB2.trans (hb3.mono (by omega))
    have hn3 : Hid (w3.cell? ⟨l, 2, none⟩ = some (.pointer none)) := (hb3.cell (p := ⟨l, 2, none⟩) hlw).trans hn.out
    have hf3 : Hid (∀ b o, w1.heap.size ≤ b → b < w2.heap.size → w3.frozen? ⟨b, o, none⟩ = false) := fun b o h h' => (hb3.frozen (p := ⟨b, o, none⟩) h').trans (hfz.out b o h)
    have hk3' : Hid (∀ p : Addr, p.block ≤ l → w3.cell? p = w2.cell? p) := fun p hp => hb3.cell (p := p) (by omega)
    clear hb3 hM2 hB2 hn hfz hG
    have hl1' : w.heap.size + 1 + 1 < w3.heap.size := hV.lt
    rcases hAh with ⟨k, ab, hk, rfl, hT, hD, hy, hu⟩ | ⟨rfl, hu⟩
    case inr =>
      have hf : takeK d kind = none := takeK_none (first_none h1.out hu)
      have hfd : Hid (takeD d kind = runZ) := by show takeD d kind = runZ; unfold takeD; rw [hf]
      have hfv : Hid (takeV d kind = (0, 0)) := by show takeV d kind = _; unfold takeV; rw [hf]
      have hfb : Hid (takeB d kind = false) := by show takeB d kind = false; unfold takeB; rw [hf]; rfl
      clear hu hf
      obtain ⟨c0, c1, c2, c3, c4, c5, c6, c7, c8, c9, c10, c11, c12⟩ := id hA.at_
      obtain ⟨r0, r1, r2, r3, r4, r5, r6, r7, r8, r9, r10, r11, r12⟩ := id hR.at_
      obtain ⟨v0, v1⟩ := id hV.at_
      have e0 := hR.fr 0
      have e1 := hR.fr 1
      have e2 := hR.fr 2
      have e3 := hR.fr 3
      have e4 := hR.fr 4
      have e5 := hR.fr 5
      have e6 := hR.fr 6
      have e7 := hR.fr 7
      have e8 := hR.fr 8
      have e9 := hR.fr 9
      have e10 := hR.fr 10
      have e11 := hR.fr 11
      have e12 := hR.fr 12
      have g0 := hV.fr 0
      have g1 := hV.fr 1
      go_wp2_with fail
      exact bodyPost_ret (v := .tuple #[.agg #[.int .i64 0, .int .i64 0, .slice none 0 0, .int .i64 0, .slice none 0 0, .int .i64 0, .int .i64 0, .slice none 0 0, .slice none 0 0, .bool false, .int .i64 0, .int .i64 0, .int .i64 0], .agg #[.int .i64 0, .int .i64 0], .bool false]) (by simp [results, Tryz.results8, go_sem, r0, r1, r2, r3, r4, r5, r6, r7, r8, r9, r10, r11, r12, v0, v1]) rfl ⟨runPZ, by rw [hfd.out, hfv.out, hfb.out]; rfl, by rw [hfd.out]; exact own_runZ _ _, (((((((((((((((hB3.setCell (by show w.heap.size ≤ w.heap.size + 1; omega) _).setCell (by show w.heap.size ≤ w.heap.size + 1; omega) _).setCell (by show w.heap.size ≤ w.heap.size + 1; omega) _).setCell (by show w.heap.size ≤ w.heap.size + 1; omega) _).setCell (by show w.heap.size ≤ w.heap.size + 1; omega) _).setCell (by show w.heap.size ≤ w.heap.size + 1; omega) _).setCell (by show w.heap.size ≤ w.heap.size + 1; omega) _).setCell (by show w.heap.size ≤ w.heap.size + 1; omega) _).setCell (by show w.heap.size ≤ w.heap.size + 1; omega) _).setCell (by show w.heap.size ≤ w.heap.size + 1; omega) _).setCell (by show w.heap.size ≤ w.heap.size + 1; omega) _).setCell (by show w.heap.size ≤ w.heap.size + 1; omega) _).setCell (by show w.heap.size ≤ w.heap.size + 1; omega) _).setCell (by show w.heap.size ≤ w.heap.size + 1 + 1; omega) _).setCell (by show w.heap.size ≤ w.heap.size + 1 + 1; omega) _)⟩
    have hf : takeK d kind = some k := takeK_some (first_some h1.out hk hy hu)
    obtain ⟨M', hM'⟩ : ∃ M', M' = d.mail.take k ++ d.mail.drop (k + 1) := ⟨_, rfl⟩
    have hml : Hid (M'.length ≤ 1048576) := by show _ ≤ _; have := hs.out.s1; rw [hM', List.length_append, List.length_take, List.length_drop]; omega
    have hfd : Hid (takeD d kind = { d with mail := M' }) := by show takeD d kind = _; unfold takeD; rw [hf, hM']
    have hfv : Hid (takeV d kind = d.mail[k]) := by show takeV d kind = _; unfold takeV; rw [hf]; simp [List.getD, hk]
    have hfb : Hid (takeB d kind = true) := by show takeB d kind = true; unfold takeB; rw [hf]; rfl
    have hle := hT.le
    rw [List.drop_eq_getElem_cons hk] at hD
    obtain ⟨c, hac, hp, hv, hD⟩ := hD
    have hcl := hD.le
    have hT3 : Seg w3 w1.heap.size (d.mail.take k) ab := hT.same fun p hp => hk3'.out p (by omega)
    have hD3 : Seg w3 c (d.mail.drop (k + 1)) l := hD.same fun p hp => hk3'.out p hp
    have hp3 : w3.cell? ⟨ab, 2, none⟩ = some (.pointer (some ⟨c, 0, none⟩)) := (hk3'.out ⟨ab, 2, none⟩ (by show ab ≤ l; omega)).trans hp
    have hv3 : ValAt w3 c 0 d.mail[k] := ⟨(hk3'.out ⟨c, 0, none⟩ hcl).trans hv.1, (hk3'.out ⟨c, 0 + 1, none⟩ hcl).trans hv.2⟩
    obtain ⟨po, hpc⟩ : ∃ po, w3.cell? ⟨c, 2, none⟩ = some (.pointer po) := by
      match hx : d.mail.drop (k + 1), hD3 with
      | [], hD3 => have e : c = l := hD3; rw [e]; exact ⟨_, hn3.out⟩
      | _ :: _, ⟨_, _, g1, _⟩ => exact ⟨_, g1⟩
    have hfab : w3.frozen? ⟨ab, 2, none⟩ = false := hf3.out ab 2 hle (by omega)
    generalize d.mail[k] = x at *
    clear hf hy hu hk hT hp hv hD hf3 hk3'
    replace hT3 : Hid (Seg w3 w1.heap.size (d.mail.take k) ab) := hT3
    replace hD3 : Hid (Seg w3 c (d.mail.drop (k + 1)) l) := hD3
    replace hM' : Hid (M' = d.mail.take k ++ d.mail.drop (k + 1)) := hM'
    go_wp2_with fail
    refine (takeNext_any ab c x po w3 hac (by omega) hp3 hv3 hpc hfab).mono ?_
    rintro e w4 ⟨rfl, hk4, hp4, hbt⟩
    have hz4 := hbt.size
    replace hA := hA.but (by omega) hbt
    replace hR := hR.but (by omega) hbt
    replace hV := hV.but (by omega) hbt
    have hM4 := hM3.below (hbt.below (B := S) (by omega) (by omega))
    have hB4 : Below w.heap.size w w4 := hB3.trans (hbt.below (by omega) (by omega))
    obtain ⟨l4, hG4, hl4, hn4⟩ := Seg.without hT3.out hac hD3.out hn3.out (fun a b ha hb => hk4 a b (by omega) hb) (hp4.trans hpc.symm)
    rw [← hM'.out] at hG4
    clear hk4 hp4 hbt hT3 hD3 hp3 hv3 hpc hfab hn3 hM3 hB3
    replace hG4 : Hid (Seg w4 w1.heap.size M' l4) := hG4
    replace hn4 : Hid (w4.cell? ⟨l4, 2, none⟩ = some (.pointer none)) := hn4
    have hl4' : w.heap.size + 1 + 1 < w4.heap.size := hV.lt
    have hlo4 : w.heap.size < w4.heap.size := hA.lt
    obtain ⟨c0, c1, c2, c3, c4, c5, c6, c7, c8, c9, c10, c11, c12⟩ := id hA.at_
    go_wp2_with fail
    clear c0 c1 c2 c3 c4 c5 c6 c7 c8 c9 c10 c11 c12
    have hX : ValBoxF (w4.alloc (.cells #[.int .i64 x.1, .int .i64 x.2] 26)) w4.heap.size x := ValBoxF.new' _ _ _ _ rfl
    have hal : Below w4.heap.size w4 (w4.alloc (.cells #[.int .i64 x.1, .int .i64 x.2] 26)) := (Below.refl _ _).alloc (Nat.le_refl _) _
    replace hA := hA.below hA.lt hal
    replace hR := hR.below hR.lt hal
    replace hV := hV.below hV.lt hal
    have hM5 := hM4.below (hal.mono (by omega))
    have hB5 : Below w.heap.size w (w4.alloc (.cells #[.int .i64 x.1, .int .i64 x.2] 26)) := hB4.trans (hal.mono (by omega))
    have hz5 := hal.size
    have hG5 : Hid (Seg (w4.alloc (.cells #[.int .i64 x.1, .int .i64 x.2] 26)) w1.heap.size M' l4) := hG4.out.same fun p hp => hal.cell (p := p) (by omega)
    have hn5 : Hid ((w4.alloc (.cells #[.int .i64 x.1, .int .i64 x.2] 26)).cell? ⟨l4, 2, none⟩ = some (.pointer none)) := (hal.cell (p := ⟨l4, 2, none⟩) (by show l4 < _; omega)).trans hn4.out
    clear hG4 hn4 hM4 hB4 hal
    generalize hx4 : w4.heap.size = b4 at *
    generalize (w4.alloc (.cells #[.int .i64 x.1, .int .i64 x.2] 26)) = w5 at *
    have hb45 : b4 < w5.heap.size := hX.lt
    refine (copied_any S d q w5 (by omega) hs.out hM5).mono ?_
    rintro e w6 ⟨p6, rfl, ho6, hb6⟩
    have hz6 := hb6.size
    replace hA := hA.below hA.lt hb6
    replace hR := hR.below hR.lt hb6
    replace hV := hV.below hV.lt hb6
    replace hX := hX.below hX.lt hb6
    have hB6 : Below w.heap.size w w6 := hB5.trans (hb6.mono (by omega))
    have hG6 : Hid (Seg w6 w1.heap.size M' l4) := hG5.out.same fun p hp => hb6.cell (p := p) (by omega)
    have hn6 : Hid (w6.cell? ⟨l4, 2, none⟩ = some (.pointer none)) := (hb6.cell (p := ⟨l4, 2, none⟩) (by show l4 < _; omega)).trans hn5.out
    clear hG5 hn5 hM5 hB5 hb6
    go_wp2_with fail
    have hL : RunBoxF (w6.alloc (.cells (d.cells p6) 28)) w6.heap.size d p6 := RunBoxF.new _ _ _ _
    have hal : Below w6.heap.size w6 (w6.alloc (.cells (d.cells p6) 28)) := (Below.refl _ _).alloc (Nat.le_refl _) _
    replace hA := hA.below hA.lt hal
    replace hR := hR.below hR.lt hal
    replace hV := hV.below hV.lt hal
    replace hX := hX.below hX.lt hal
    have hnb := ho6.not_box (b := w6.heap.size) (.inr (Nat.le_refl _))
    replace ho6 := ho6.below hal
    have hB7 : Below w.heap.size w (w6.alloc (.cells (d.cells p6) 28)) := hB6.trans (hal.mono (by omega))
    have hz7 := hal.size
    have hG7 : Hid (Seg (w6.alloc (.cells (d.cells p6) 28)) w1.heap.size M' l4) := hG6.out.same fun p hp => hal.cell (p := p) (by omega)
    have hn7 : Hid ((w6.alloc (.cells (d.cells p6) 28)).cell? ⟨l4, 2, none⟩ = some (.pointer none)) := (hal.cell (p := ⟨l4, 2, none⟩) (by show l4 < _; omega)).trans hn6.out
    clear hG6 hn6 hB6 hal
    generalize hx6 : w6.heap.size = b6 at *
    generalize (w6.alloc (.cells (d.cells p6) 28)) = w7 at *
    refine (behind_any w1.heap.size l4 M' w7 hml.out hG7.out (by omega) hn7.out).mono ?_
    rintro e w8 ⟨a8, k8, rfl, o8, hb8⟩
    have hz8 := hb8.size
    replace hA := hA.below hA.lt hb8
    replace hR := hR.below hR.lt hb8
    replace hV := hV.below hV.lt hb8
    replace hX := hX.below hX.lt hb8
    have hll7 := hL.lt
    replace hL := hL.below hL.lt hb8
    have hlow : ∀ (v : Value) k, (∀ k, v.ownBlock = some k → k < w7.heap.size) → v.ownBlock = some k → (Value.slice a8 M'.length k8).ownBlock ≠ some k := fun v k h e e2 => by
      have := World.ownsRow.lt o8 k e2; have := h k e; omega
    have y0 : Apart (d.v0 p6) (.slice a8 M'.length k8) := fun k e => hlow _ k (fun k e => (World.ownsRow.lt ho6.o0 k e).2) e
    have y2 : Apart (d.v2 p6) (.slice a8 M'.length k8) := fun k e => hlow _ k (fun k e => (World.ownsRow.lt ho6.o2 k e).2) e
    have y3 : Apart (d.v3 p6) (.slice a8 M'.length k8) := fun k e => hlow _ k (fun k e => (World.ownsRow.lt ho6.o3 k e).2) e
    replace ho6 := ho6.below hb8
    have hB8 : Below w.heap.size w w8 := hB7.trans (hb8.mono (by omega))
    clear hG7 hn7 hB7 hb8 hlow
    have hll := hL.lt
    have ho9 : OwnRun w8 w5.heap.size { d with mail := M' } { p6 with a1 := a8, k1 := k8 } := ⟨ho6.o0.mono (by omega), o8.mono (by omega), ho6.o2.mono (by omega), ho6.o3.mono (by omega), y0, ho6.x02, ho6.x03, y2.symm, y3.symm, ho6.x23⟩
    have nb0 := hnb.1
    have nb2 := hnb.2.2.1
    have nb3 := hnb.2.2.2
    have nb1 : (Value.slice a8 M'.length k8).ownBlock ≠ some b6 := fun e => by have := World.ownsRow.lt o8 b6 e; omega
    clear hnb y0 y2 y3
    have u4 := hL.at_.c4
    have uf4 := hL.fr 4
    go_wp2_with fail
    have hs4 : But b6 w8 (w8.setCell ⟨b6, 4, none⟩ (.slice a8 M'.length k8)) := (But.refl _ _).setCell (p := ⟨b6, 4, none⟩) rfl _
    replace ho9 := ho9.but hs4 nb0 nb1 nb2 nb3
    have hw5 := hX.lt
    replace hR := hR.but (by omega) hs4
    replace hV := hV.but (by omega) hs4
    replace hX := hX.but (by omega) hs4
    replace hL := hL.put4 M' a8 k8
    have hB9 := hB8.trans (hs4.below (B := w.heap.size) (by omega) (by omega))
    have hz9 := hs4.size
    clear hs4 hA hB8 ho6 o8 u4 uf4
    generalize (w8.setCell ⟨b6, 4, none⟩ (.slice a8 M'.length k8)) = w9 at *
    obtain ⟨P9, hP9⟩ : ∃ P9 : RunP, P9 = { p6 with a1 := a8, k1 := k8 } := ⟨_, rfl⟩
    rw [← hP9] at ho9 hL
    clear hP9
    obtain ⟨c0, c1, c2, c3, c4, c5, c6, c7, c8, c9, c10, c11, c12⟩ := id hL.at_
    obtain ⟨r0, r1, r2, r3, r4, r5, r6, r7, r8, r9, r10, r11, r12⟩ := id hR.at_
    obtain ⟨v0, v1⟩ := id hV.at_
    obtain ⟨x0, x1⟩ := id hX.at_
    have e0 := hR.fr 0
    have e1 := hR.fr 1
    have e2 := hR.fr 2
    have e3 := hR.fr 3
    have e4 := hR.fr 4
    have e5 := hR.fr 5
    have e6 := hR.fr 6
    have e7 := hR.fr 7
    have e8 := hR.fr 8
    have e9 := hR.fr 9
    have e10 := hR.fr 10
    have e11 := hR.fr 11
    have e12 := hR.fr 12
    have g0 := hV.fr 0
    have g1 := hV.fr 1
    have hq0 : w.heap.size + 1 < w9.heap.size := hR.lt
    have hq1 : w.heap.size + 1 + 1 < w9.heap.size := hV.lt
    have hq2 : b6 < w9.heap.size := hL.lt
    have hq3 : b4 < w9.heap.size := hX.lt
    have hq4 : w.heap.size + 1 ≠ b4 := by omega
    have hq5 : w.heap.size + 1 + 1 ≠ b4 := by omega
    have hn1 := ho9.not_box (b := w.heap.size + 1) (.inl (by omega))
    have hn2 := ho9.not_box (b := w.heap.size + 1 + 1) (.inl (by omega))
    go_region
    go_step
    go_wp2_with fail
    have h13 := set13_but w9 (w.heap.size + 1) { d with mail := M' } P9
    have h2 : But (w.heap.size + 1 + 1) (set13 w9 (w.heap.size + 1) { d with mail := M' } P9) (((set13 w9 (w.heap.size + 1) { d with mail := M' } P9).setCell ⟨w.heap.size + 1 + 1, 0, none⟩ (.int .i64 x.1)).setCell ⟨w.heap.size + 1 + 1, 1, none⟩ (.int .i64 x.2)) := ((But.refl _ _).setCell (p := ⟨w.heap.size + 1 + 1, 0, none⟩) rfl _).setCell (p := ⟨w.heap.size + 1 + 1, 1, none⟩) rfl _
    have h13z := h13.size
    have hfo := (((ho9.but h13 hn1.1 hn1.2.1 hn1.2.2.1 hn1.2.2.2).but h2 hn2.1 hn2.2.1 hn2.2.2.1 hn2.2.2.2).mono (A := w.heap.size) (by omega)).drew
    have hfB : Below w.heap.size w _ := ((hB9.trans (h13.below (B := w.heap.size) (by omega) (by omega))).trans (h2.below (B := w.heap.size) (by omega) (by omega))).drew
    exact bodyPost_ret (v := .tuple #[({ d with mail := M' } : RunD).val P9, .agg #[.int .i64 x.1, .int .i64 x.2], .bool true]) (by simp [results, Tryz.results8, go_sem, r0, r1, r2, r3, r4, r5, r6, r7, r8, r9, r10, r11, r12, v0, v1]) rfl ⟨P9, by rw [hfd.out, hfv.out, hfb.out], by rw [hfd.out]; exact hfo, hfB⟩
end Go.Proofs.YtklgpkkghhaccaaGreat.Eld
namespace Go.Proofs.YtklgpkkghhaccaaGreat.Eld
open Go.ChangeShapes Go.WideShapes Go.ChangeAt Go.RowKit Go.Joins
set_option maxRecDepth 20000 in
set_option maxHeartbeats 4000000 in
theorem l11Take_any (B : Nat) (d : RunD) (q : RunP) (k : Nat) (w : World) (hs : d.Short) (hk : k < d.mail.length) (ho : OwnRun w B d q) :
    Calls Tryz.prog 16 #[d.val q, .int .i64 k] w fun e w' => ∃ p, e = .returned (.tuple #[({ d with mail := d.mail.take k ++ d.mail.drop (k + 1) } : RunD).val p, .agg #[.int .i64 d.mail[k].1, .int .i64 d.mail[k].2]]) ∧ OwnRun w' B { d with mail := d.mail.take k ++ d.mail.drop (k + 1) } p ∧ Below w.heap.size w w' := by
  replace hs : Hid d.Short := hs
  obtain ⟨a0, k0, a1, k1, a2, k2, a3, k3⟩ := q
  obtain ⟨g, rfl, hcap⟩ : ∃ g, a1 = some ⟨g, 0, none⟩ ∧ d.mail.length ≤ k1 := by
    rcases ho.o1.2 with ⟨h, hl⟩ | ⟨g, cap, cur, h, _, _, hnc, _⟩
    · omega
    · cases h; exact ⟨g, rfl, hnc⟩
  have hgw : B ≤ g ∧ g < w.heap.size := World.ownsRow.lt ho.o1 g rfl
  have hlen := hs.out.s1
  obtain ⟨m0, hmv⟩ : ∃ b : Nat, Hid (∀ i (h : i < d.mail.length), ValAt w g (0 + i * 2) d.mail[i]) := ⟨0, by
    obtain ⟨ao, cap, hv, hx⟩ := ho.mem.m1
    injection hv with e1 e2 e3
    rcases hx with h | ⟨b, o, h, _, hc⟩
    · rw [h] at hk; exact absurd hk (by simp)
    · rw [← e1] at h; cases h; exact hc⟩
  clear m0
  have hA : RunBoxF (w.alloc (.cells (d.cells ⟨a0, k0, some ⟨g, 0, none⟩, k1, a2, k2, a3, k3⟩) 28)) w.heap.size d ⟨a0, k0, some ⟨g, 0, none⟩, k1, a2, k2, a3, k3⟩ := RunBoxF.new w d _ 28
  have hR : RunBoxF ((w.alloc (.cells (d.cells ⟨a0, k0, some ⟨g, 0, none⟩, k1, a2, k2, a3, k3⟩) 28)).alloc (.cells #[.int .i64 0, .int .i64 0, .slice none 0 0, .int .i64 0, .slice none 0 0, .int .i64 0, .int .i64 0, .slice none 0 0, .slice none 0 0, .bool false, .int .i64 0, .int .i64 0, .int .i64 0] 28)) (w.heap.size + 1) runZ runPZ := RunBoxF.new' _ _ _ _ _ _ (by simp) rfl
  have hV : ValBoxF (((w.alloc (.cells (d.cells ⟨a0, k0, some ⟨g, 0, none⟩, k1, a2, k2, a3, k3⟩) 28)).alloc (.cells #[.int .i64 0, .int .i64 0, .slice none 0 0, .int .i64 0, .slice none 0 0, .int .i64 0, .int .i64 0, .slice none 0 0, .slice none 0 0, .bool false, .int .i64 0, .int .i64 0, .int .i64 0] 28)).alloc (.cells #[.int .i64 0, .int .i64 0] 26)) (w.heap.size + 1 + 1) (0, 0) := ValBoxF.new' _ (0, 0) _ _ (by simp)
  replace hA := (hA.below (S := w.heap.size + 1) (by omega) ((Below.refl _ _).alloc (by simp) (.cells #[.int .i64 0, .int .i64 0, .slice none 0 0, .int .i64 0, .slice none 0 0, .int .i64 0, .int .i64 0, .slice none 0 0, .slice none 0 0, .bool false, .int .i64 0, .int .i64 0, .int .i64 0] 28))).below (S := w.heap.size + 1) (by omega) ((Below.refl _ _).alloc (by simp <;> omega) (.cells #[.int .i64 0, .int .i64 0] 26))
  replace hR := hR.below (S := w.heap.size + 1 + 1) (by omega) ((Below.refl _ _).alloc (by simp) (.cells #[.int .i64 0, .int .i64 0] 26))
  have hB0 : Below w.heap.size w (((w.alloc (.cells (d.cells ⟨a0, k0, some ⟨g, 0, none⟩, k1, a2, k2, a3, k3⟩) 28)).alloc (.cells #[.int .i64 0, .int .i64 0, .slice none 0 0, .int .i64 0, .slice none 0 0, .int .i64 0, .int .i64 0, .slice none 0 0, .slice none 0 0, .bool false, .int .i64 0, .int .i64 0, .int .i64 0] 28)).alloc (.cells #[.int .i64 0, .int .i64 0] 26)) := (((Below.refl _ _).alloc (Nat.le_refl _) _).alloc (by simp) _).alloc (by simp; omega) _
  go_enter Tryz.func16, Tryz.ntmps16
  go_upto_region 1 with fail
  generalize (((w.alloc (.cells (d.cells ⟨a0, k0, some ⟨g, 0, none⟩, k1, a2, k2, a3, k3⟩) 28)).alloc (.cells #[.int .i64 0, .int .i64 0, .slice none 0 0, .int .i64 0, .slice none 0 0, .int .i64 0, .int .i64 0, .slice none 0 0, .slice none 0 0, .bool false, .int .i64 0, .int .i64 0, .int .i64 0] 28)).alloc (.cells #[.int .i64 0, .int .i64 0] 26)) = W0 at *
  have hz0 := hB0.size
  have hl0 := hV.lt
  have hmv0 : Hid (∀ i (h : i < d.mail.length), ValAt W0 g (0 + i * 2) d.mail[i]) := fun i h => (hmv.out i h).below hgw.2 hB0
  have hold : (∀ j, (d.v0 ⟨a0, k0, some ⟨g, 0, none⟩, k1, a2, k2, a3, k3⟩).ownBlock = some j → j < w.heap.size) ∧ (∀ j, (d.v2 ⟨a0, k0, some ⟨g, 0, none⟩, k1, a2, k2, a3, k3⟩).ownBlock = some j → j < w.heap.size) ∧ (∀ j, (d.v3 ⟨a0, k0, some ⟨g, 0, none⟩, k1, a2, k2, a3, k3⟩).ownBlock = some j → j < w.heap.size) := ⟨fun j e => (World.ownsRow.lt ho.o0 j e).2, fun j e => (World.ownsRow.lt ho.o2 j e).2, fun j e => (World.ownsRow.lt ho.o3 j e).2⟩
  have ho0 := ho.below hB0
  clear hmv ho
  have d0 := (hmv0.out k hk).1
  have d1 := (hmv0.out k hk).2
  rw [Nat.zero_add] at d0 d1
  generalize hxe : d.mail[k] = x at *
  replace hxe : Hid (d.mail[k] = x) := hxe
  have hi0 : (0 : Int) ≤ (k : Int) := by omega
  have hi1 : (k : Int) < (d.mail.length : Int) := by omega
  have c4 := hA.at_.c4
  go_wp2_with fail
  have hX : ValBoxF (W0.alloc (.cells #[.int .i64 x.1, .int .i64 x.2] 26)) W0.heap.size x := ValBoxF.new' _ _ _ _ rfl
  have hal : Below W0.heap.size W0 (W0.alloc (.cells #[.int .i64 x.1, .int .i64 x.2] 26)) := (Below.refl _ _).alloc (Nat.le_refl _) _
  replace hA := hA.below hA.lt hal
  replace hR := hR.below hR.lt hal
  replace hV := hV.below hV.lt hal
  have hlx := hX.lt
  have hmv1 : Hid (∀ i (h : i < d.mail.length), ValAt (W0.alloc (.cells #[.int .i64 x.1, .int .i64 x.2] 26)) g (0 + i * 2) d.mail[i]) := fun i h => (hmv0.out i h).below (by omega) hal
  have ho1 := ho0.below hal
  have hB1 : Below w.heap.size w (W0.alloc (.cells #[.int .i64 x.1, .int .i64 x.2] 26)) := hB0.trans (hal.mono (by omega))
  clear hmv0 ho0 hB0 d0 d1 c4 hal
  generalize hbx : W0.heap.size = bx at *
  generalize (W0.alloc (.cells #[.int .i64 x.1, .int .i64 x.2] 26)) = W at *
  clear hbx
  have c4 := hA.at_.c4
  have cf4 := hA.fr 4
  have hlA := hA.lt
  -- the region
  have hk1 : (k : Int) ≤ (k1 : Int) := by omega
  have hk2 : (k : Int) + 1 ≤ (d.mail.length : Int) := by omega
  have hk3 : (d.mail.length : Int) ≤ (k1 : Int) := by omega
  have hk4 : (0 : Int) ≤ (k : Int) + 1 := by omega
  have hw1 : IntKind.i64.wrap ((k : Int) + 1) = (k : Int) + 1 := by simp [IntKind.wrap, IntKind.bits, IntKind.signed]; omega
  obtain ⟨M', hM'⟩ : ∃ M', M' = d.mail.take k ++ d.mail.drop (k + 1) := ⟨_, rfl⟩
  have htk : (d.mail.take k).length = k := by rw [List.length_take]; omega
  have hal : Below W.heap.size W (W.alloc (.cells #[] 26)).drew := ((Below.refl _ _).alloc (Nat.le_refl _) _).drew
  have hem : Hid (OwnsV (W.alloc (.cells #[] 26)).drew W.heap.size (.slice (some ⟨W.heap.size, 0, none⟩) 0 0) []) := World.ownsRow.drew (World.ownsRow_lit W #[] 0 (Nat.le_refl _) (by unfold maxLen; omega) rfl)
  have hs1 : Hid (Vals W.heap.size (W.alloc (.cells #[] 26)).drew (.slice (some ⟨g, 0, none⟩) k k1) (d.mail.take k)) := ⟨some ⟨g, 0, none⟩, k1, by rw [htk], .inr ⟨g, 0, rfl, by omega, fun i hi => by
    have hi' : i < d.mail.length := by rw [htk] at hi; omega
    rw [List.getElem_take]
    exact (hmv1.out i hi').below (by omega) hal⟩⟩
  have hs2 : Hid (∀ W1, Below W.heap.size W W1 → Vals W.heap.size W1 (.slice (if k1 = k + 1 then some ⟨g, 0, none⟩ else some ⟨g, (k + 1) * 2, none⟩) (d.mail.length - (k + 1)) (k1 - (k + 1))) (d.mail.drop (k + 1))) := fun W1 hb => by
    refine ⟨_, k1 - (k + 1), by rw [List.length_drop], ?_⟩
    by_cases he : k1 = k + 1
    · exact .inl (by rw [List.drop_eq_nil_iff]; omega)
    · rw [if_neg he]
      refine .inr ⟨g, (k + 1) * 2, rfl, by omega, fun i hi => ?_⟩
      have hi' : k + 1 + i < d.mail.length := by rw [List.length_drop] at hi; omega
      rw [List.getElem_drop]
      have := (hmv1.out (k + 1 + i) hi').below (by omega) hb
      rw [show 0 + (k + 1 + i) * 2 = (k + 1) * 2 + i * 2 by omega] at this
      exact this
  have hn1 : ([] : List (Int × Int)).length + (d.mail.take k).length ≤ 16777216 := by rw [htk]; simp; omega
  have hn2 : (d.mail.take k).length + (d.mail.drop (k + 1)).length ≤ 16777216 := by rw [htk, List.length_drop]; omega
  have hb1 : W.heap.size ≤ (W.alloc (.cells #[] 26)).drew.heap.size := hal.size
  have htl : Hid ((d.mail.take k).length = k) := htk
  clear htk
  replace hM' : Hid (M' = d.mail.take k ++ d.mail.drop (k + 1)) := hM'
  replace hmv1 : Hid (∀ i (h : i < d.mail.length), ValAt W g (0 + i * 2) d.mail[i]) := hmv1
  go_region_law (first
    | (refine step_append_V _ rfl (.tmp 12) (.tmp 16) rfl (by rfl) (by rfl) hem.out hs1.out hn1 hb1 ?_; intro v1 W1 o1 q1 z1; rw [List.nil_append] at o1; have hw1b : Below W.heap.size W W1 := hal.grown q1 hb1 (by intro k e; cases e; exact Nat.le_refl _); have c41 : W1.cell? ⟨w.heap.size, 4, none⟩ = some (.slice (some ⟨g, 0, none⟩) d.mail.length k1) := (hw1b.cell (p := ⟨w.heap.size, 4, none⟩) hlA).trans c4)
    | (refine step_append_V _ rfl (.tmp 17) (.tmp 22) rfl (by rfl) (by rfl) o1 (hs2.out W1 hw1b) hn2 hw1b.size ?_; intro v2 W2 o2 q2 z2; rw [← hM'.out] at o2; have hw2b : Below W.heap.size W W2 := hw1b.grown q2 hw1b.size (fun k e => (World.ownsRow.lt o1 k e).1); have c42 : W2.cell? ⟨w.heap.size, 4, none⟩ = some (.slice (some ⟨g, 0, none⟩) d.mail.length k1) := (hw2b.cell (p := ⟨w.heap.size, 4, none⟩) hlA).trans c4; have f42 : W2.frozen? ⟨w.heap.size, 4, none⟩ = false := (hw2b.frozen (p := ⟨w.heap.size, 4, none⟩) hlA).trans cf4; obtain ⟨a9, k9, rfl⟩ := o2.form))
  all_goals
    clear hs2 hs1 hem
    generalize (if k1 = k + 1 then (some ⟨g, 0, none⟩ : Option Addr) else some ⟨g, (k + 1) * 2, none⟩) = ta at *
    go_step
    go_wp2_with fail
    have hs4 : But w.heap.size W2 (W2.setCell ⟨w.heap.size, 4, none⟩ (.slice a9 M'.length k9)) := (But.refl _ _).setCell (p := ⟨w.heap.size, 4, none⟩) rfl _
    have hzW := hw2b.size
    replace hA := (hA.below hA.lt hw2b).put4 M' a9 k9
    replace hR := (hR.below hR.lt hw2b).but (by omega) hs4
    replace hV := (hV.below hV.lt hw2b).but (by omega) hs4
    replace hX := (hX.below (by omega) hw2b).but (by omega) hs4
    have low0 : ∀ j, (d.v0 ⟨a0, k0, some ⟨g, 0, none⟩, k1, a2, k2, a3, k3⟩).ownBlock = some j → j < W.heap.size := fun j e => (World.ownsRow.lt ho1.o0 j e).2
    have low2 : ∀ j, (d.v2 ⟨a0, k0, some ⟨g, 0, none⟩, k1, a2, k2, a3, k3⟩).ownBlock = some j → j < W.heap.size := fun j e => (World.ownsRow.lt ho1.o2 j e).2
    have low3 : ∀ j, (d.v3 ⟨a0, k0, some ⟨g, 0, none⟩, k1, a2, k2, a3, k3⟩).ownBlock = some j → j < W.heap.size := fun j e => (World.ownsRow.lt ho1.o3 j e).2
    have hi : ∀ j, (Value.slice a9 M'.length k9).ownBlock = some j → W.heap.size ≤ j := fun j e => (World.ownsRow.lt o2 j e).1
    have ho2 := ho1.below hw2b
    clear hs4 z2 q2 z1 q1 o1 c41 c42 f42
    have y0 : Apart (d.v0 ⟨a0, k0, some ⟨g, 0, none⟩, k1, a2, k2, a3, k3⟩) (.slice a9 M'.length k9) := fun j e1 e2 => by have := low0 j e1; have := hi j e2; omega
    have y2 : Apart (d.v2 ⟨a0, k0, some ⟨g, 0, none⟩, k1, a2, k2, a3, k3⟩) (.slice a9 M'.length k9) := fun j e1 e2 => by have := low2 j e1; have := hi j e2; omega
    have y3 : Apart (d.v3 ⟨a0, k0, some ⟨g, 0, none⟩, k1, a2, k2, a3, k3⟩) (.slice a9 M'.length k9) := fun j e1 e2 => by have := low3 j e1; have := hi j e2; omega
    have ho9 : OwnRun W2 B { d with mail := M' } ⟨a0, k0, a9, k9, a2, k2, a3, k3⟩ := ⟨ho2.o0, o2.mono (by omega), ho2.o2, ho2.o3, y0, ho2.x02, ho2.x03, y2.symm, y3.symm, ho2.x23⟩
    have far : ∀ b, w.heap.size ≤ b → b < W.heap.size → ((({ d with mail := M' } : RunD).v0 ⟨a0, k0, a9, k9, a2, k2, a3, k3⟩).ownBlock ≠ some b ∧ (({ d with mail := M' } : RunD).v1 ⟨a0, k0, a9, k9, a2, k2, a3, k3⟩).ownBlock ≠ some b ∧ (({ d with mail := M' } : RunD).v2 ⟨a0, k0, a9, k9, a2, k2, a3, k3⟩).ownBlock ≠ some b ∧ (({ d with mail := M' } : RunD).v3 ⟨a0, k0, a9, k9, a2, k2, a3, k3⟩).ownBlock ≠ some b) := fun b h1 h2 => ⟨fun e => by have := hold.1 b e; omega, fun e => by have := hi b e; omega, fun e => by have := hold.2.1 b e; omega, fun e => by have := hold.2.2 b e; omega⟩
    have hs4 : But w.heap.size W2 (W2.setCell ⟨w.heap.size, 4, none⟩ (.slice a9 M'.length k9)) := (But.refl _ _).setCell (p := ⟨w.heap.size, 4, none⟩) rfl _
    have fA := far w.heap.size (Nat.le_refl _) hlA
    have f1 := far (w.heap.size + 1) (by omega) (by omega)
    have f2 := far (w.heap.size + 1 + 1) (by omega) (by omega)
    replace ho9 := ho9.but hs4 fA.1 fA.2.1 fA.2.2.1 fA.2.2.2
    have hB9 := (hB1.trans (hw2b.mono (by omega))).trans (hs4.below (B := w.heap.size) (Nat.le_refl _) (by omega))
    clear hs4 far y0 y2 y3 low0 low2 low3 hi ho2 fA
    generalize (W2.setCell ⟨w.heap.size, 4, none⟩ (.slice a9 M'.length k9)) = W9 at *
    obtain ⟨c0, c1, c2, c3, c4, c5, c6, c7, c8, c9, c10, c11, c12⟩ := id hA.at_
    obtain ⟨r0, r1, r2, r3, r4, r5, r6, r7, r8, r9, r10, r11, r12⟩ := id hR.at_
    obtain ⟨v0, v1⟩ := id hV.at_
    obtain ⟨x0, x1⟩ := id hX.at_
    have e0 := hR.fr 0
    have e1 := hR.fr 1
    have e2 := hR.fr 2
    have e3 := hR.fr 3
    have e4 := hR.fr 4
    have e5 := hR.fr 5
    have e6 := hR.fr 6
    have e7 := hR.fr 7
    have e8 := hR.fr 8
    have e9 := hR.fr 9
    have e10 := hR.fr 10
    have e11 := hR.fr 11
    have e12 := hR.fr 12
    have g0 := hV.fr 0
    have g1 := hV.fr 1
    have hq0 : w.heap.size + 1 < W9.heap.size := hR.lt
    have hq1 : w.heap.size + 1 + 1 < W9.heap.size := hV.lt
    have hq2 : w.heap.size < W9.heap.size := hA.lt
    have hq3 : bx < W9.heap.size := hX.lt
    have hq4 : w.heap.size + 1 ≠ bx := by omega
    have hq5 : w.heap.size + 1 + 1 ≠ bx := by omega
    go_region
    go_step
    go_wp2_with fail
    have h13 := set13_but W9 (w.heap.size + 1) { d with mail := M' } ⟨a0, k0, a9, k9, a2, k2, a3, k3⟩
    have h2 : But (w.heap.size + 1 + 1) (set13 W9 (w.heap.size + 1) { d with mail := M' } ⟨a0, k0, a9, k9, a2, k2, a3, k3⟩) (((set13 W9 (w.heap.size + 1) { d with mail := M' } ⟨a0, k0, a9, k9, a2, k2, a3, k3⟩).setCell ⟨w.heap.size + 1 + 1, 0, none⟩ (.int .i64 x.1)).setCell ⟨w.heap.size + 1 + 1, 1, none⟩ (.int .i64 x.2)) := ((But.refl _ _).setCell (p := ⟨w.heap.size + 1 + 1, 0, none⟩) rfl _).setCell (p := ⟨w.heap.size + 1 + 1, 1, none⟩) rfl _
    have h13z := h13.size
    have hfo := ((ho9.but h13 f1.1 f1.2.1 f1.2.2.1 f1.2.2.2).but h2 f2.1 f2.2.1 f2.2.2.1 f2.2.2.2).drew
    have hfB : Below w.heap.size w _ := ((hB9.trans (h13.below (B := w.heap.size) (by omega) (by omega))).trans (h2.below (B := w.heap.size) (by omega) (by omega))).drew
    exact bodyPost_ret (v := .tuple #[({ d with mail := M' } : RunD).val ⟨a0, k0, a9, k9, a2, k2, a3, k3⟩, .agg #[.int .i64 x.1, .int .i64 x.2]]) (by simp [results, Tryz.results16, go_sem, r0, r1, r2, r3, r4, r5, r6, r7, r8, r9, r10, r11, r12, v0, v1]) rfl ⟨⟨a0, k0, a9, k9, a2, k2, a3, k3⟩, by rw [← hM'.out, hxe.out], by rw [← hM'.out]; exact hfo, hfB⟩
end Go.Proofs.YtklgpkkghhaccaaGreat.Eld
namespace Go.Proofs.YtklgpkkghhaccaaGreat.Eld
open Go.ChangeShapes Go.WideShapes Go.ChangeAt Go.RowKit Go.Joins
theorem firstP_lt {kind : Int} : ∀ {M : List (Int × Int)} {k : Nat}, firstP kind M = some k → k < M.length
  | [], k, h => by cases h
  | v :: M, k, h => by
    unfold firstP at h
    split at h
    · cases h; simp
    · cases e : firstP kind M with
      | none => rw [e] at h; cases h
      | some j => rw [e] at h; cases h; have := firstP_lt e; simp; omega
theorem takeK_lt {d : RunD} {kind : Int} {k : Nat} (h : takeK d kind = some k) : k < d.mail.length := by
  unfold takeK at h
  split at h
  · exact firstP_lt h
  · cases h
set_option maxRecDepth 20000 in
set_option maxHeartbeats 4000000 in
theorem specRunTake_any (S : Nat) (d : RunD) (q : RunP) (kind : Int) (w : World) (hS : S ≤ w.heap.size) (hs : d.Short) (hk2 : d.links.length ≤ q.k2) (hk3 : d.wat.length ≤ q.k3) (hM : RunMem S w d q) :
    Calls Tryz.prog 7 #[d.val q, .int .i64 kind] w fun e w' => ∃ p, e = .returned (.tuple #[(takeD d kind).val p, .agg #[.int .i64 (takeV d kind).1, .int .i64 (takeV d kind).2], .bool (takeB d kind)]) ∧ OwnRun w' w.heap.size (takeD d kind) p ∧ Below w.heap.size w w' := by
  replace hs : Hid d.Short := hs
  replace hk2 : Hid (d.links.length ≤ q.k2) := hk2
  replace hk3 : Hid (d.wat.length ≤ q.k3) := hk3
  have hA : RunBoxF (w.alloc (.cells (d.cells q) 28)) w.heap.size d q := RunBoxF.new w d q 28
  have hR : RunBoxF ((w.alloc (.cells (d.cells q) 28)).alloc (.cells #[.int .i64 0, .int .i64 0, .slice none 0 0, .int .i64 0, .slice none 0 0, .int .i64 0, .int .i64 0, .slice none 0 0, .slice none 0 0, .bool false, .int .i64 0, .int .i64 0, .int .i64 0] 28)) (w.heap.size + 1) runZ runPZ := RunBoxF.new' _ _ _ _ _ _ (by simp) rfl
  have hV : ValBoxF (((w.alloc (.cells (d.cells q) 28)).alloc (.cells #[.int .i64 0, .int .i64 0, .slice none 0 0, .int .i64 0, .slice none 0 0, .int .i64 0, .int .i64 0, .slice none 0 0, .slice none 0 0, .bool false, .int .i64 0, .int .i64 0, .int .i64 0] 28)).alloc (.cells #[.int .i64 0, .int .i64 0] 26)) (w.heap.size + 1 + 1) (0, 0) := ValBoxF.new' _ (0, 0) _ _ (by simp)
  replace hA := (hA.below (S := w.heap.size + 1) (by omega) ((Below.refl _ _).alloc (by simp) (.cells #[.int .i64 0, .int .i64 0, .slice none 0 0, .int .i64 0, .slice none 0 0, .int .i64 0, .int .i64 0, .slice none 0 0, .slice none 0 0, .bool false, .int .i64 0, .int .i64 0, .int .i64 0] 28))).below (S := w.heap.size + 1) (by omega) ((Below.refl _ _).alloc (by simp <;> omega) (.cells #[.int .i64 0, .int .i64 0] 26))
  replace hR := hR.below (S := w.heap.size + 1 + 1) (by omega) ((Below.refl _ _).alloc (by simp) (.cells #[.int .i64 0, .int .i64 0] 26))
  have hB0 : Below w.heap.size w (((w.alloc (.cells (d.cells q) 28)).alloc (.cells #[.int .i64 0, .int .i64 0, .slice none 0 0, .int .i64 0, .slice none 0 0, .int .i64 0, .int .i64 0, .slice none 0 0, .slice none 0 0, .bool false, .int .i64 0, .int .i64 0, .int .i64 0] 28)).alloc (.cells #[.int .i64 0, .int .i64 0] 26)) := (((Below.refl _ _).alloc (Nat.le_refl _) _).alloc (by simp) _).alloc (by simp; omega) _
  go_enter Tryz.func7, Tryz.ntmps7
  go_wp2_with fail
  generalize (((w.alloc (.cells (d.cells q) 28)).alloc (.cells #[.int .i64 0, .int .i64 0, .slice none 0 0, .int .i64 0, .slice none 0 0, .int .i64 0, .int .i64 0, .slice none 0 0, .slice none 0 0, .bool false, .int .i64 0, .int .i64 0, .int .i64 0] 28)).alloc (.cells #[.int .i64 0, .int .i64 0] 26)) = w0 at *
  have hz0 := hV.lt
  have hM0 : RunMem S w0 d q := hM.below (hB0.mono hS)
  refine (specRunFirst_any S d q kind w0 (by omega) hs.out hk2.out hk3.out hM0).mono ?_
  rintro e w1 ⟨rfl, hb1⟩
  have hz1 := hb1.size
  replace hA := hA.below hA.lt hb1
  replace hR := hR.below hR.lt hb1
  replace hV := hV.below hV.lt hb1
  have hM1 := hM0.below (hb1.mono (by omega))
  have hB1 : Below w.heap.size w w1 := hB0.trans (hb1.mono (by omega))
  clear hb1 hM0 hM hB0
  have hl1 : w.heap.size + 1 + 1 < w1.heap.size := hV.lt
  rw [sFirst_take]
  cases hf : takeK d kind with
  | none =>
    have hfd : Hid (takeD d kind = runZ) := by show takeD d kind = runZ; unfold takeD; rw [hf]
    have hfv : Hid (takeV d kind = (0, 0)) := by show takeV d kind = _; unfold takeV; rw [hf]
    have hfb : Hid (takeB d kind = false) := by show takeB d kind = false; unfold takeB; rw [hf]; rfl
    clear hf
    obtain ⟨c0, c1, c2, c3, c4, c5, c6, c7, c8, c9, c10, c11, c12⟩ := id hA.at_
    obtain ⟨r0, r1, r2, r3, r4, r5, r6, r7, r8, r9, r10, r11, r12⟩ := id hR.at_
    obtain ⟨v0, v1⟩ := id hV.at_
    have e0 := hR.fr 0
    have e1 := hR.fr 1
    have e2 := hR.fr 2
    have e3 := hR.fr 3
    have e4 := hR.fr 4
    have e5 := hR.fr 5
    have e6 := hR.fr 6
    have e7 := hR.fr 7
    have e8 := hR.fr 8
    have e9 := hR.fr 9
    have e10 := hR.fr 10
    have e11 := hR.fr 11
    have e12 := hR.fr 12
    have g0 := hV.fr 0
    have g1 := hV.fr 1
    go_wp2_with fail
    exact bodyPost_ret (v := .tuple #[.agg #[.int .i64 0, .int .i64 0, .slice none 0 0, .int .i64 0, .slice none 0 0, .int .i64 0, .int .i64 0, .slice none 0 0, .slice none 0 0, .bool false, .int .i64 0, .int .i64 0, .int .i64 0], .agg #[.int .i64 0, .int .i64 0], .bool false]) (by simp [results, Tryz.results7, go_sem, r0, r1, r2, r3, r4, r5, r6, r7, r8, r9, r10, r11, r12, v0, v1]) rfl ⟨runPZ, by rw [hfd.out, hfv.out, hfb.out]; rfl, by rw [hfd.out]; exact own_runZ _ _, (((((((((((((((hB1.setCell (by show w.heap.size ≤ w.heap.size + 1; omega) _).setCell (by show w.heap.size ≤ w.heap.size + 1; omega) _).setCell (by show w.heap.size ≤ w.heap.size + 1; omega) _).setCell (by show w.heap.size ≤ w.heap.size + 1; omega) _).setCell (by show w.heap.size ≤ w.heap.size + 1; omega) _).setCell (by show w.heap.size ≤ w.heap.size + 1; omega) _).setCell (by show w.heap.size ≤ w.heap.size + 1; omega) _).setCell (by show w.heap.size ≤ w.heap.size + 1; omega) _).setCell (by show w.heap.size ≤ w.heap.size + 1; omega) _).setCell (by show w.heap.size ≤ w.heap.size + 1; omega) _).setCell (by show w.heap.size ≤ w.heap.size + 1; omega) _).setCell (by show w.heap.size ≤ w.heap.size + 1; omega) _).setCell (by show w.heap.size ≤ w.heap.size + 1; omega) _).setCell (by show w.heap.size ≤ w.heap.size + 1 + 1; omega) _).setCell (by show w.heap.size ≤ w.heap.size + 1 + 1; omega) _)⟩
  | some k =>
    have hk : k < d.mail.length := takeK_lt hf
    obtain ⟨M', hM'⟩ : ∃ M', M' = d.mail.take k ++ d.mail.drop (k + 1) := ⟨_, rfl⟩
    have hfd : Hid (takeD d kind = ({ d with mail := M' } : RunD)) := by show takeD d kind = _; unfold takeD; rw [hf, hM']
    have hfv : Hid (takeV d kind = d.mail[k]) := by show takeV d kind = _; unfold takeV; rw [hf]; simp [List.getD, hk]
    have hfb : Hid (takeB d kind = true) := by show takeB d kind = true; unfold takeB; rw [hf]; rfl
    clear hf
    obtain ⟨c0, c1, c2, c3, c4, c5, c6, c7, c8, c9, c10, c11, c12⟩ := id hA.at_
    go_wp2_with fail
    clear c0 c1 c2 c3 c4 c5 c6 c7 c8 c9 c10 c11 c12
    refine (l11Copy_any S d q w1 (by omega) hs.out hM1).mono ?_
    rintro e w2 ⟨p2, rfl, ho2, hb2⟩
    have hz2 := hb2.size
    replace hR := hR.below hR.lt hb2
    replace hV := hV.below hV.lt hb2
    have hB2 : Below w.heap.size w w2 := hB1.trans (hb2.mono (by omega))
    clear hb2 hM1 hB1 hA
    go_wp2_with fail
    have hlt := l11Take_any w1.heap.size d p2 k w2 hs.out hk ho2
    rw [← hM'] at hlt
    generalize d.mail[k] = x at *
    replace hM' : Hid (M' = d.mail.take k ++ d.mail.drop (k + 1)) := hM'
    refine hlt.mono ?_
    rintro e w3 ⟨p3, rfl, ho3, hb3⟩
    have hz3 := hb3.size
    replace hR := hR.below hR.lt hb3
    replace hV := hV.below hV.lt hb3
    have hB3 : Below w.heap.size w w3 := hB2.trans (hb3.mono (by omega))
    clear hb3 hB2 hlt ho2
    go_wp2_with fail
    have hL : RunBoxF (w3.alloc (.cells (({ d with mail := M' } : RunD).cells p3) 28)) w3.heap.size ({ d with mail := M' } : RunD) p3 := RunBoxF.new _ _ _ _
    have hX : ValBoxF ((w3.alloc (.cells (({ d with mail := M' } : RunD).cells p3) 28)).alloc (.cells #[.int .i64 x.1, .int .i64 x.2] 26)) (w3.heap.size + 1) x := ValBoxF.new' _ _ _ _ (by simp)
    have hal : Below w3.heap.size w3 ((w3.alloc (.cells (({ d with mail := M' } : RunD).cells p3) 28)).alloc (.cells #[.int .i64 x.1, .int .i64 x.2] 26)) := ((Below.refl _ _).alloc (Nat.le_refl _) _).alloc (by simp) _
    replace hL := hL.below (S := w3.heap.size + 1) (by omega) ((Below.refl _ _).alloc (by simp) (.cells #[.int .i64 x.1, .int .i64 x.2] 26))
    replace hR := hR.below hR.lt hal
    replace hV := hV.below hV.lt hal
    replace ho3 := ho3.below hal
    have hB9 := hB3.trans (hal.mono (by omega))
    have hz9 := hal.size
    have hlv : w.heap.size + 1 + 1 < w3.heap.size := by omega
    clear hal hB3
    generalize hb3e : w3.heap.size = b3 at *
    generalize ((w3.alloc (.cells (({ d with mail := M' } : RunD).cells p3) 28)).alloc (.cells #[.int .i64 x.1, .int .i64 x.2] 26)) = W9 at *
    obtain ⟨c0, c1, c2, c3, c4, c5, c6, c7, c8, c9, c10, c11, c12⟩ := id hL.at_
    obtain ⟨r0, r1, r2, r3, r4, r5, r6, r7, r8, r9, r10, r11, r12⟩ := id hR.at_
    obtain ⟨v0, v1⟩ := id hV.at_
    have e0 := hR.fr 0
    have e1 := hR.fr 1
    have e2 := hR.fr 2
    have e3 := hR.fr 3
    have e4 := hR.fr 4
    have e5 := hR.fr 5
    have e6 := hR.fr 6
    have e7 := hR.fr 7
    have e8 := hR.fr 8
    have e9 := hR.fr 9
    have e10 := hR.fr 10
    have e11 := hR.fr 11
    have e12 := hR.fr 12
    have g0 := hV.fr 0
    have g1 := hV.fr 1
    obtain ⟨x0, x1⟩ := id hX.at_
    have hq0 : w.heap.size + 1 < W9.heap.size := hR.lt
    have hq1 : w.heap.size + 1 + 1 < W9.heap.size := hV.lt
    have hq2 : b3 < W9.heap.size := hL.lt
    have hq3 : b3 + 1 < W9.heap.size := hX.lt
    have hq4 : w.heap.size + 1 ≠ b3 + 1 := by omega
    have hq5 : w.heap.size + 1 + 1 ≠ b3 + 1 := by omega
    have hn1 := ho3.not_box (b := w.heap.size + 1) (.inl (by omega))
    have hn2 := ho3.not_box (b := w.heap.size + 1 + 1) (.inl (by omega))
    go_region
    go_step
    go_wp2_with fail
    have h13 := set13_but W9 (w.heap.size + 1) ({ d with mail := M' } : RunD) p3
    have h2 : But (w.heap.size + 1 + 1) (set13 W9 (w.heap.size + 1) ({ d with mail := M' } : RunD) p3) (((set13 W9 (w.heap.size + 1) ({ d with mail := M' } : RunD) p3).setCell ⟨w.heap.size + 1 + 1, 0, none⟩ (.int .i64 x.1)).setCell ⟨w.heap.size + 1 + 1, 1, none⟩ (.int .i64 x.2)) := ((But.refl _ _).setCell (p := ⟨w.heap.size + 1 + 1, 0, none⟩) rfl _).setCell (p := ⟨w.heap.size + 1 + 1, 1, none⟩) rfl _
    have h13z := h13.size
    have hfo := (((ho3.but h13 hn1.1 hn1.2.1 hn1.2.2.1 hn1.2.2.2).but h2 hn2.1 hn2.2.1 hn2.2.2.1 hn2.2.2.2).mono (A := w.heap.size) (by omega)).drew
    have hfB : Below w.heap.size w _ := ((hB9.trans (h13.below (B := w.heap.size) (by omega) (by omega))).trans (h2.below (B := w.heap.size) (by omega) (by omega))).drew
    exact bodyPost_ret (v := .tuple #[({ d with mail := M' } : RunD).val p3, .agg #[.int .i64 x.1, .int .i64 x.2], .bool true]) (by simp [results, Tryz.results7, go_sem, r0, r1, r2, r3, r4, r5, r6, r7, r8, r9, r10, r11, r12, v0, v1]) rfl ⟨p3, by rw [hfd.out, hfv.out, hfb.out], by rw [hfd.out]; exact hfo, hfB⟩
end Go.Proofs.YtklgpkkghhaccaaGreat.Eld
