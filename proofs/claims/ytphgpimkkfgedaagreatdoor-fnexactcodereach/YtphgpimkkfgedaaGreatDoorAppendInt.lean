/-
  A number appended to a row of numbers of one's own, over this translation: the row stays in its block, or goes into a new one.
-/
import Derived.Test.YtphgpimkkfgedaaGreatDoorInts
namespace Go.Proofs.YtphgpimkkfgedaaGreatDoor
open Go.ChangeShapes Go.WideShapes Go.ChangeAt Go.RowKit Go.Joins
theorem run_append_where {w : World} {base : Nat} {v : Value} {L : List Int} (ty : TypeId) (ho : Owns w base v L) (a : Addr) (c : Nat) (x : Int) (hx : w.cell? a = some (.int .i64 x)) (hn : L.length ≤ 1048576) (hb : base ≤ w.heap.size) :
    ∃ v' w', (Builtin.append_ #[24, 24] ty #[v, .slice (some a) 1 c]).run Tryz.prog w = .ok v' w' ∧ Owns w' base v' (L ++ [x]) ∧ w.grownBy w' v.ownBlock ∧ (v'.ownBlock = v.ownBlock ∨ v'.ownBlock = some w.heap.size) := by
  obtain ⟨inf, i1, i2, i3, i4⟩ := info_intI
  have hnews : ∀ j u, [Value.int .i64 x][j]? = some u → w.cell? (a.add j) = some u := by
    intro q u hq
    cases q with
    | zero => simp at hq; subst hq; simpa [Addr.add] using hx
    | succ q => simp at hq
  obtain ⟨v', w', hrun, h1, h2, _⟩ := run_append_own (P := Tryz.prog) w base 24 ty 3 inf (.int .i64 0) 1 8 Tryz.underlying24 i1 i2 i3 i4 rfl (by decide) v _ _ ho a 1 c [.int .i64 x] rfl hnews (by simp [Value.oneCell']) (by unfold maxLen; omega) (by omega) hb
  refine ⟨v', w', hrun, by simpa [Owns] using h1, h2, ?_⟩
  rcases ho.2 with ⟨rfl, hl0⟩ | ⟨g, cap, cur, rfl, hg, hh, hlc, hcm, hcs, htk⟩
  · have hr := run_append_nil (P := Tryz.prog) w 24 ty 3 inf (.int .i64 0) Tryz.underlying24 i1 i2 a 1 c [.int .i64 x] (by rw [i3]; rfl) hnews (by decide) (by decide) (by rw [i4]; decide)
    rw [hr] at hrun
    cases hrun
    exact .inr rfl
  · by_cases hroom : L.length + 1 ≤ cap
    · have hr := run_append_room (P := Tryz.prog) w 24 ty 3 inf Tryz.underlying24 i1 g L.length cap cur hh a 1 c [.int .i64 x] (by rw [i3]; rfl) hnews (by simp [Value.oneCell']) hroom (by rw [i3]; simp; omega)
      rw [hr] at hrun
      cases hrun
      exact .inl rfl
    · have hr := run_append_grow (P := Tryz.prog) w 24 ty 3 inf (.int .i64 0) Tryz.underlying24 i1 i2 ⟨g, 0, none⟩ L.length cap _ (by rw [i3]; exact ho.1) (World.ownsRow.cells ho (g := g) rfl) a 1 c [.int .i64 x] (by rw [i3]; rfl) hnews (by omega) (by omega) (growslice_fits (by omega) (by rw [i4]; omega))
      rw [hr] at hrun
      cases hrun
      exact .inr rfl
theorem wpList_append_int (w : World) {ops : Array Oper} {rest : List Oper} {o : Oper} {a : Act} {R : Exit → Act → World → Prop} (hgd : o.guard = none) (s x : Operand)
    (ho : o.op = .call { callee := .builtin .append, args := #[s, x], argTypes := #[24, 24] }) {base : Nat} {v : Value} {L : List Int} (ad : Addr) (c : Nat) (n : Int) (hv : a.eval s = v) (hx : a.eval x = .slice (some ad) 1 c)
    (hq : Owns w base v L) (hc : w.cell? ad = some (.int .i64 n)) (hn : L.length ≤ 1048576) (hb : base ≤ w.heap.size)
    (hK : ∀ v' w', Owns w' base v' (L ++ [n]) → w.grownBy w' v.ownBlock → (v'.ownBlock = v.ownBlock ∨ v'.ownBlock = some w.heap.size) → wpList Tryz.prog ops R rest (a.put o.dst v') w') : wpList Tryz.prog ops R (o :: rest) a w := by
  refine wpList_plain hgd fun K hK' => ?_
  obtain ⟨v', w', hrun, h1, h2, h3⟩ := run_append_where o.type hq ad c n hc hn hb
  unfold Oper.wp
  simp [execOp, ho, resolve, invoke, builtin, hv, hx, hrun, Result.andThen]
  exact hK' _ _ (hK v' w' h1 h2 h3)
end Go.Proofs.YtphgpimkkfgedaaGreatDoor
