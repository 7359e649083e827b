/-
  A queue of ways in memory, over this translation: one's own, cut at its head, appended to at its end. No condition but its size.
-/
import Derived.Test.YtphgpimkkfgedaaGreatDoorWaysAt
import Derived.Deep.Upon
namespace Go.Proofs.YtphgpimkkfgedaaGreatDoor
open Go.ChangeShapes Go.WideShapes Go.ChangeAt Go.RowKit Go.Joins
def QAt (w : World) (B : Nat) (v : Value) (Q : List (Nat × Int)) : Prop :=
  ∃ ao cap, v = .slice ao Q.length cap ∧ Q.length ≤ cap ∧ cap ≤ maxLen ∧ (cap = 0 ∨ ∃ g o, ao = some ⟨g, o, none⟩ ∧ B ≤ g ∧ g < w.heap.size ∧ (∀ j, j < Q.length * 2 → w.cell? ⟨g, o + j, none⟩ = (wayCells Q)[j]?) ∧ ∀ j, j < cap * 2 → (w.cell? ⟨g, o + j, none⟩).isSome = true ∧ w.frozen? ⟨g, o + j, none⟩ = false)
theorem wayCells_len : ∀ L : List (Nat × Int), (wayCells L).length = L.length * 2
  | [] => rfl
  | p :: L => by
    have := wayCells_len L
    have e : wayCells (p :: L) = [.int .i64 (p.1 : Int), .int .i64 p.2] ++ wayCells L := rfl
    rw [e, List.length_append, this, List.length_cons]
    simp; omega
theorem wayCells_app (L M : List (Nat × Int)) : wayCells (L ++ M) = wayCells L ++ wayCells M := by simp [wayCells]
theorem wayCells_one (L : List (Nat × Int)) : ∀ u ∈ wayCells L, u.oneCell' = true := by
  intro u hu
  obtain ⟨p, _, hp⟩ := List.mem_flatMap.1 hu
  simp at hp
  rcases hp with rfl | rfl <;> rfl
/-- a queue stays where its blocks stay -/
theorem QAt.keep {w w' : World} {B : Nat} {v : Value} {Q : List (Nat × Int)} (h : QAt w B v Q) (hs : w.heap.size ≤ w'.heap.size) (hk : ∀ k, B ≤ k → k < w.heap.size → w'.heap[k]? = w.heap[k]?) : QAt w' B v Q := by
  obtain ⟨ao, cap, hv, h1, h2, h3⟩ := h
  refine ⟨ao, cap, hv, h1, h2, h3.imp id ?_⟩
  rintro ⟨g, o, ha, hg, hl, hc, hf⟩
  refine ⟨g, o, ha, hg, by omega, fun j hj => ?_, fun j hj => ?_⟩
  · rw [World.cell?_of_block (w := w) (a := ⟨g, o + j, none⟩) (hk g hg hl)]; exact hc j hj
  · rw [World.cell?_of_block (w := w) (a := ⟨g, o + j, none⟩) (hk g hg hl), World.frozen?_of_block (w := w) (a := ⟨g, o + j, none⟩) (hk g hg hl)]; exact hf j hj
theorem QAt.below {w w' : World} {B : Nat} {v : Value} {Q : List (Nat × Int)} (h : QAt w B v Q) (hb : Below w.heap.size w w') : QAt w' B v Q := h.keep hb.size fun k _ hk => hb.block k hk
/-- the head goes -/
theorem QAt.tail {w : World} {B g o cap : Nat} {p : Nat × Int} {Q : List (Nat × Int)} {ao : Option Addr} (hlc : Q.length + 1 ≤ cap) (hm : cap ≤ maxLen) (hg : B ≤ g) (hl : g < w.heap.size)
    (hc : ∀ j, j < (Q.length + 1) * 2 → w.cell? ⟨g, o + j, none⟩ = (wayCells (p :: Q))[j]?) (hf : ∀ j, j < cap * 2 → (w.cell? ⟨g, o + j, none⟩).isSome = true ∧ w.frozen? ⟨g, o + j, none⟩ = false)
    (ha : cap - 1 = 0 ∨ ao = some ⟨g, o + 2, none⟩) : QAt w B (.slice ao Q.length (cap - 1)) Q := by
  refine ⟨ao, cap - 1, rfl, by omega, by omega, ha.imp id fun e => ⟨g, o + 2, e, hg, hl, fun j hj => ?_, fun j hj => ?_⟩⟩
  · have := hc (j + 2) (by omega)
    rw [show o + (j + 2) = o + 2 + j by omega] at this
    rw [this]; rfl
  · have := hf (j + 2) (by omega)
    rw [show o + (j + 2) = o + 2 + j by omega] at this
    exact this
theorem size_setCells (b : Nat) : ∀ (vs : List Value) (o : Nat) (w : World), (w.setCells b o vs).heap.size = w.heap.size
  | [], _, _ => rfl
  | v :: vs, o, w => by rw [World.setCells, size_setCells b vs (o + 1)]; simp [World.setCell]
theorem below_setCells {B g : Nat} (hg : B ≤ g) : ∀ (vs : List Value) (o : Nat) (w : World), Below B w (w.setCells g o vs)
  | [], _, _ => Below.refl _ _
  | v :: vs, o, w => ((Below.refl B w).setCell (p := ⟨g, o, none⟩) hg v).trans (below_setCells hg vs (o + 1) _)
/-- more at the end -/
theorem run_append_queue {w : World} {B S : Nat} {v xv : Value} {Q L : List (Nat × Int)} (ty : TypeId) (hq : QAt w B v Q) (hL : WaysAt S w xv L) (hb : B ≤ w.heap.size) (hn : Q.length + L.length ≤ 1048576) :
    ∃ v' w', (Builtin.append_ #[46, 46] ty #[v, xv]).run Tryz.prog w = .ok v' w' ∧ QAt w' B v' (Q ++ L) ∧ Below B w w' := by
  obtain ⟨inf, i1, i2, i3, i4⟩ := info_way
  obtain ⟨ao, cap, rfl, h1, h2, h3⟩ := hq
  obtain ⟨bo, xc, rfl, hxl, hx⟩ := hL
  have hsrc : L = [] ∨ Src Tryz.prog inf.size 46 (.slice bo L.length xc) L.length (wayCells L) w := by
    rcases hx with h | ⟨b, o, rfl, _, hc⟩
    · exact .inl h
    · refine .inr (Src.ofSlice w Tryz.underlying46 ⟨b, o, none⟩ L.length xc (wayCells L) (by rw [i3, wayCells_len]) (fun j u hj => ?_) (wayCells_one L))
      have hjl : j < L.length * 2 := by
        rcases Decidable.em (j < L.length * 2) with h | h
        · exact h
        · rw [List.getElem?_eq_none (by rw [wayCells_len]; omega)] at hj; cases hj
      have hi : j / 2 < L.length := by omega
      have k := wayCells_at L (j / 2) hi
      have c := hc (j / 2) hi
      have ea : (⟨b, o, none⟩ : Addr).add j = ⟨b, o + j, none⟩ := by unfold Addr.add; split <;> simp_all
      rw [ea]
      rcases Nat.mod_two_eq_zero_or_one j with e | e
      · have e2 : j / 2 * 2 = j := by omega
        rw [e2] at k c
        rw [c.1, ← hj, k.1]
      · have e2 : j / 2 * 2 + 1 = j := by omega
        have e3 : o + j / 2 * 2 + 1 = o + j := by omega
        rw [e2] at k
        rw [e3] at c
        rw [c.2, ← hj, k.2]
  have hsrc : Src Tryz.prog inf.size 46 (.slice bo L.length xc) L.length (wayCells L) w := by
    rcases hsrc with rfl | hs
    · cases bo with
      | none => exact Src.ofNil w Tryz.underlying46 xc
      | some a => exact Src.ofSlice w Tryz.underlying46 a 0 xc [] (by simp) (by simp) (by simp)
    · exact hs
  by_cases hroom : Q.length + L.length ≤ cap
  · rcases h3 with rfl | ⟨g, o, rfl, hg, hlt, hc, hf⟩
    · have hL0 : L = [] := List.eq_nil_of_length_eq_zero (by omega)
      subst hL0
      refine ⟨_, _, run_append_nothing w 46 46 ty 45 inf Tryz.underlying46 i1 ao Q.length 0 (by omega) _ hsrc, ?_, Below.refl _ _⟩
      rw [List.append_nil]
      exact ⟨ao, 0, rfl, h1, h2, .inl rfl⟩
    · have hr := run_append_room_src w 46 46 ty 45 inf Tryz.underlying46 i1 g o Q.length cap _ L.length (wayCells L) hsrc hroom
        (fun j hj => by rw [wayCells_len] at hj; have := (hf (Q.length * 2 + j) (by omega)).1; rw [i3, Nat.add_assoc]; exact this)
        (fun j hj => by rw [wayCells_len] at hj; have := (hf (Q.length * 2 + j) (by omega)).2; rw [i3, Nat.add_assoc]; exact this)
      rw [i3] at hr
      have hin := World.cell?_setCells_in g (wayCells L) (o + Q.length * 2) w (fun j hj => by rw [wayCells_len] at hj; have := (hf (Q.length * 2 + j) (by omega)).1; rw [Nat.add_assoc]; exact this)
      have hout := World.cell?_setCells_out g (wayCells L) (o + Q.length * 2) w
      have hbk : ∀ i, i < w.heap.size → i ≠ g → (w.setCells g (o + Q.length * 2) (wayCells L)).heap[i]? = w.heap[i]? := fun i hi hne => World.heap_setCells_other w g _ _ hi hne
      have hsz := size_setCells g (wayCells L) (o + Q.length * 2) w
      refine ⟨_, _, hr, ⟨_, cap, by rw [List.length_append], by rw [List.length_append]; exact hroom, h2, .inr ⟨g, o, rfl, hg, by rw [hsz]; exact hlt, fun j hj => ?_, fun j hj => ⟨?_, ?_⟩⟩⟩, below_setCells hg _ _ _⟩
      · rw [List.length_append] at hj
        rw [wayCells_app]
        by_cases hjq : j < Q.length * 2
        · rw [hout ⟨g, o + j, none⟩ (fun _ _ => .inl (by dsimp only; omega)), hc j hjq, List.getElem?_append_left (by rw [wayCells_len]; exact hjq)]
        · have hj2 : j - Q.length * 2 < (wayCells L).length := by rw [wayCells_len]; omega
          have := hin (j - Q.length * 2) hj2
          rw [show o + Q.length * 2 + (j - Q.length * 2) = o + j by omega] at this
          rw [this, List.getElem?_append_right (by rw [wayCells_len]; omega), wayCells_len, List.getElem?_eq_getElem hj2]
      · by_cases hjq : j < Q.length * 2 ∨ Q.length * 2 + L.length * 2 ≤ j
        · rw [hout ⟨g, o + j, none⟩ (fun _ _ => by rw [wayCells_len]; dsimp only; omega)]; exact (hf j hj).1
        · have hj2 : j - Q.length * 2 < (wayCells L).length := by rw [wayCells_len]; omega
          have := hin (j - Q.length * 2) hj2
          rw [show o + Q.length * 2 + (j - Q.length * 2) = o + j by omega] at this
          rw [this]; rfl
      · rw [World.frozen?_setCells]; exact (hf j hj).2
  · have hold : (Builtin.firstCells inf.size Q.length (.slice ao Q.length cap)).run Tryz.prog w.drew = .ok (wayCells Q).toArray w.drew := by
      rcases h3 with rfl | ⟨g, o, rfl, hg, hlt, hc, hf⟩
      · have hQ0 : Q = [] := List.eq_nil_of_length_eq_zero (by omega)
        subst hQ0
        cases ao with
        | none => exact run_firstCells_none _ _ _ _ _
        | some a => exact run_firstCells_some _ _ _ a _ _ [] (by simp) (by simp)
      · refine run_firstCells_some w.drew inf.size Q.length ⟨g, o, none⟩ Q.length cap (wayCells Q) (by rw [i3, wayCells_len]) (fun j u hj => ?_)
        have hjl : j < Q.length * 2 := by
          rcases Decidable.em (j < Q.length * 2) with h | h
          · exact h
          · rw [List.getElem?_eq_none (by rw [wayCells_len]; omega)] at hj; cases hj
        have ea : (⟨g, o, none⟩ : Addr).add j = ⟨g, o + j, none⟩ := by unfold Addr.add; split <;> simp_all
        rw [ea, ← hj]
        exact hc j hjl
    have hr := run_append_grow_src w 46 46 ty 45 inf _ Tryz.underlying46 i1 i2 ao Q.length cap (wayCells Q) hold _ L.length (wayCells L) hsrc (by omega) (by omega) (growslice_fits (by omega) (by rw [i4]; omega))
    have hge := grownCap_ge w (Q.length + L.length) cap 45
    have hcm := grownCap_le_maxLen w (Q.length + L.length) cap 45 (by unfold maxLen; omega)
    generalize grownCap w (Q.length + L.length) cap 45 = cc at *
    refine ⟨_, _, hr, ⟨_, cc, by rw [List.length_append], by rw [List.length_append]; exact hge, hcm, .inr ⟨w.heap.size, 0, rfl, hb, by simp, fun j hj => ?_, fun j hj => ⟨?_, ?_⟩⟩⟩, ((Below.refl _ _).drew).alloc (by exact hb) _⟩
    · rw [List.length_append] at hj
      have e1 := World.cell?_alloc_new w.drew ((wayCells Q ++ wayCells L).toArray ++ Builtin.zeroCells (Value.cells (.agg #[.int .i64 0, .int .i64 0])) (cc - (Q.length + L.length))) 45 (0 + j)
      refine e1.trans ?_
      rw [Nat.zero_add, Array.getElem?_append_left (by simp only [List.size_toArray, List.length_append, wayCells_len]; omega), List.getElem?_toArray, wayCells_app]
    · have e1 := World.cell?_alloc_new w.drew ((wayCells Q ++ wayCells L).toArray ++ Builtin.zeroCells (Value.cells (.agg #[.int .i64 0, .int .i64 0])) (cc - (Q.length + L.length))) 45 (0 + j)
      have e2 : ((wayCells Q ++ wayCells L).toArray ++ Builtin.zeroCells (Value.cells (.agg #[.int .i64 0, .int .i64 0])) (cc - (Q.length + L.length))).size = cc * 2 := by
        rw [Array.size_append, List.size_toArray, List.length_append, wayCells_len, wayCells_len, size_zeroCells]
        simp [Value.cells]; omega
      rw [Array.getElem?_eq_getElem (by rw [e2]; omega)] at e1
      exact (congrArg Option.isSome e1).trans rfl
    · exact World.frozen?_alloc_new w.drew _ _ _
theorem wpList_append_queue (w : World) {ops : Array Oper} {rest : List Oper} {o : Oper} {a : Act} {R : Exit → Act → World → Prop} (hgd : o.guard = none) (s x : Operand)
    (ho : o.op = .call { callee := .builtin .append, args := #[s, x], argTypes := #[46, 46] }) {B S : Nat} {v xv : Value} {Q L : List (Nat × Int)} (hv : a.eval s = v) (hx : a.eval x = xv)
    (hq : QAt w B v Q) (hL : WaysAt S w xv L) (hb : B ≤ w.heap.size) (hn : Q.length + L.length ≤ 1048576)
    (hK : ∀ v' w', QAt w' B v' (Q ++ L) → Below B w w' → wpList Tryz.prog ops R rest (a.put o.dst v') w') : wpList Tryz.prog ops R (o :: rest) a w := by
  refine wpList_plain hgd fun K hK' => ?_
  obtain ⟨v', w', hrun, h1, h2⟩ := run_append_queue o.type hq hL hb hn
  unfold Oper.wp
  simp [execOp, ho, resolve, invoke, builtin, hv, hx, hrun, Result.andThen]
  exact hK' _ _ (hK v' w' h1 h2)
end Go.Proofs.YtphgpimkkfgedaaGreatDoor
