/-
  Ways in memory, over this translation; the places to which they come, each once. No condition.
  A queue of ways in memory, over this translation: one's own, cut at its head, appended to at its end. No condition but its size.
  What impl.numberOf answers, for every value.
  What the small methods of impl.Op answer over this translation: which parts of a step are right; nothing that was there turns.
  The table of steps (impl.formOf) over this translation: what is there for each kind.
  The table of steps over this translation, as impl.formOf makes it: its many operations, reckoned at once.
-/
import Derived.Test.YtjhpaoadpcnlnaaGreatDoorZa16
import Derived.Test.YtjhpaoadpcnlnaaGreatDoorZa02
import Derived.Test.YtjhpaoadpcnlnaaGreatDoorZa15
import Derived.Deep.Upon
import Derived.Test.YtjhpaoadpcnlnaaGreatDoorZa01
import Derived.Laws.EntriesVeiled
import Derived.Laws.Tables
namespace Go.Proofs.YtjhpaoadpcnlnaaGreatDoor
open Go.ChangeShapes Go.WideShapes Go.ChangeAt Go.RowKit Go.Joins
def WaysAt (S : Nat) (w : World) (v : Value) (L : List (Nat × Int)) : Prop :=
  ∃ ao cap, v = .slice ao L.length cap ∧ L.length ≤ cap ∧ (L = [] ∨ ∃ b o, ao = some ⟨b, o, none⟩ ∧ b < S ∧ ∀ i (h : i < L.length), w.cell? ⟨b, o + i * 2, none⟩ = some (.int .i64 (L[i].1 : Int)) ∧ w.cell? ⟨b, o + i * 2 + 1, none⟩ = some (.int .i64 L[i].2))
theorem WaysAt.below {S : Nat} {w w' : World} {v : Value} {L : List (Nat × Int)} (h : WaysAt S w v L) (hb : Below S w w') : WaysAt S w' v L := by
  obtain ⟨ao, cap, hv, hlc, h⟩ := h
  refine ⟨ao, cap, hv, hlc, h.imp id ?_⟩
  rintro ⟨b, o, ha, hl, hc⟩
  exact ⟨b, o, ha, hl, fun i hi => ⟨(hb.cell (p := ⟨b, o + i * 2, none⟩) hl).trans (hc i hi).1, (hb.cell (p := ⟨b, o + i * 2 + 1, none⟩) hl).trans (hc i hi).2⟩⟩
theorem wayCells_at : ∀ (L : List (Nat × Int)) (i : Nat) (h : i < L.length), (wayCells L)[i * 2]? = some (.int .i64 (L[i].1 : Int)) ∧ (wayCells L)[i * 2 + 1]? = some (.int .i64 L[i].2)
  | p :: L, 0, _ => ⟨rfl, rfl⟩
  | p :: L, i + 1, h => by
    have ih := wayCells_at L i (by simpa using h)
    have e1 : (i + 1) * 2 = i * 2 + 2 := by omega
    rw [e1]
    exact ih
theorem OwnsW.at {w : World} {B : Nat} {v : Value} {L : List (Nat × Int)} (h : w.ownsRow B 81 2 v L.length (wayCells L)) : WaysAt w.heap.size w v L := by
  rcases h.2 with ⟨rfl, hn⟩ | ⟨g, cap, cur, rfl, hg, hh, hlc, _⟩
  · have : L = [] := List.eq_nil_of_length_eq_zero hn
    subst this
    exact ⟨none, 0, rfl, Nat.le_refl _, .inl rfl⟩
  · refine ⟨_, cap, rfl, hlc, .inr ⟨g, 0, rfl, ?_, fun i hi => ?_⟩⟩
    · rcases Decidable.em (g < w.heap.size) with h | h
      · exact h
      · rw [Array.getElem?_eq_none (by omega)] at hh; cases hh
    · have c0 := World.ownsRow.cellAt (w := w) (base := B) (e := 81) (size := 2) (g := g) (cap := cap) h (i * 2) (by omega)
      have c1 := World.ownsRow.cellAt (w := w) (base := B) (e := 81) (size := 2) (g := g) (cap := cap) h (i * 2 + 1) (by omega)
      have k := wayCells_at L i hi
      exact ⟨by rw [Nat.zero_add, c0]; exact k.1, by rw [Nat.zero_add, c1]; exact k.2⟩
theorem waysAdd (o : OpV) (i n : Nat) (x : Int) : addAll [] ((waysL o i n x).map (·.1)) = nextL o i n := by
  have ht : (toW o x).map (·.1) = if goesB o.k = true then [o.t.toNat] else [] := by
    unfold toW goesB
    by_cases h8 : o.k = 8
    · simp [h8]
    by_cases h9 : o.k = 9
    · simp [h9]
    by_cases h10 : o.k = 10
    · simp [h10]
    by_cases h5 : o.k = 5
    · simp [h5]
    simp [h8, h9, h10, h5]
  have hn : (nextW o i n x).map (·.1) = if (!(o.k == 9 || o.k == 14) && decide (i + 1 < n)) = true then [i + 1] else [] := by
    unfold nextW; split <;> rfl
  unfold waysL nextL
  rw [List.map_append, ht, hn]
  generalize (!(o.k == 9 || o.k == 14) && decide (i + 1 < n)) = p
  generalize goesB o.k = q
  generalize o.t.toNat = m
  cases p <;> cases q <;> simp [addAll, addL]
/-- places as numbers -/
def toI (L : List Nat) : List Int := L.map fun i : Nat => (i : Int)
theorem toI_len (L : List Nat) : (toI L).length = L.length := by simp [toI]
theorem hasI_toI (L : List Nat) (n : Nat) : hasI (toI L) (n : Int) = L.contains n := by
  unfold hasI toI
  rw [Bool.eq_iff_iff, List.contains_iff_mem, List.contains_iff_mem, List.mem_map]
  constructor
  · rintro ⟨a, h, e⟩; have : a = n := by omega
    subst this; exact h
  · intro h; exact ⟨n, h, rfl⟩
theorem toI_app (L : List Nat) (n : Nat) : toI (L ++ [n]) = toI L ++ [(n : Int)] := by simp [toI]
theorem add_len (L : List Nat) (j : Nat) : (addL L j).length ≤ L.length + 1 := by unfold addL; split <;> simp
theorem take_step {α : Type} (L : List α) (k : Nat) (h : k < L.length) : L.take (k + 1) = L.take k ++ [L[k]] := by
  rw [List.take_add_one, List.getElem?_eq_getElem h]; rfl
theorem addAll_take (L : List Nat) (W : List (Nat × Int)) (k : Nat) (h : k < W.length) : addAll L ((W.take (k + 1)).map (·.1)) = addL (addAll L ((W.take k).map (·.1))) W[k].1 := by
  rw [take_step W k h, List.map_append]
  unfold addAll
  rw [List.foldl_append]; rfl
theorem addAll_len : ∀ (M L : List Nat), (addAll L M).length ≤ L.length + M.length
  | [], L => by simp [addAll]
  | m :: M, L => by
    have h1 := add_len L m
    have h2 := addAll_len M (addL L m)
    unfold addAll at *
    rw [List.foldl_cons]
    simp; omega
end Go.Proofs.YtjhpaoadpcnlnaaGreatDoor
namespace Go.Proofs.YtjhpaoadpcnlnaaGreatDoor
open Go.ChangeShapes Go.WideShapes Go.ChangeAt Go.RowKit Go.Joins
def QAt (w : World) (B : Nat) (v : Value) (Q : List (Nat × Int)) : Prop :=
  ∃ ao cap, v = .slice ao Q.length cap ∧ Q.length ≤ cap ∧ cap ≤ maxLen ∧ (cap = 0 ∨ ∃ g o, ao = some ⟨g, o, none⟩ ∧ B ≤ g ∧ g < w.heap.size ∧ (∀ j, j < Q.length * 2 → w.cell? ⟨g, o + j, none⟩ = (wayCells Q)[j]?) ∧ ∀ j, j < cap * 2 → (w.cell? ⟨g, o + j, none⟩).isSome = true ∧ w.frozen? ⟨g, o + j, none⟩ = false)
theorem wayCells_len : ∀ L : List (Nat × Int), (wayCells L).length = L.length * 2
  | [] => rfl
  | p :: L => by
    have := wayCells_len L
    have e : wayCells (p :: L) = [.int .i64 (p.1 : Int), .int .i64 p.2] ++ wayCells L := rfl
    rw [e, List.length_append, this, List.length_cons]
    simp; omega
theorem wayCells_app (L M : List (Nat × Int)) : wayCells (L ++ M) = wayCells L ++ wayCells M := by simp [wayCells]
theorem wayCells_one (L : List (Nat × Int)) : ∀ u ∈ wayCells L, u.oneCell' = true := by
  intro u hu
  obtain ⟨p, _, hp⟩ := List.mem_flatMap.1 hu
  simp at hp
  rcases hp with rfl | rfl <;> rfl
/-- a queue stays where its blocks stay -/
theorem QAt.keep {w w' : World} {B : Nat} {v : Value} {Q : List (Nat × Int)} (h : QAt w B v Q) (hs : w.heap.size ≤ w'.heap.size) (hk : ∀ k, B ≤ k → k < w.heap.size → w'.heap[k]? = w.heap[k]?) : QAt w' B v Q := by
  obtain ⟨ao, cap, hv, h1, h2, h3⟩ := h
  refine ⟨ao, cap, hv, h1, h2, h3.imp id ?_⟩
  rintro ⟨g, o, ha, hg, hl, hc, hf⟩
  refine ⟨g, o, ha, hg, by omega, fun j hj => ?_, fun j hj => ?_⟩
  · rw [World.cell?_of_block (w := w) (a := ⟨g, o + j, none⟩) (hk g hg hl)]; exact hc j hj
  · rw [World.cell?_of_block (w := w) (a := ⟨g, o + j, none⟩) (hk g hg hl), World.frozen?_of_block (w := w) (a := ⟨g, o + j, none⟩) (hk g hg hl)]; exact hf j hj
theorem QAt.below {w w' : World} {B : Nat} {v : Value} {Q : List (Nat × Int)} (h : QAt w B v Q) (hb : Below w.heap.size w w') : QAt w' B v Q := h.keep hb.size fun k _ hk => hb.block k hk
/-- the head goes -/
theorem QAt.tail {w : World} {B g o cap : Nat} {p : Nat × Int} {Q : List (Nat × Int)} {ao : Option Addr} (hlc : Q.length + 1 ≤ cap) (hm : cap ≤ maxLen) (hg : B ≤ g) (hl : g < w.heap.size)
    (hc : ∀ j, j < (Q.length + 1) * 2 → w.cell? ⟨g, o + j, none⟩ = (wayCells (p :: Q))[j]?) (hf : ∀ j, j < cap * 2 → (w.cell? ⟨g, o + j, none⟩).isSome = true ∧ w.frozen? ⟨g, o + j, none⟩ = false)
    (ha : cap - 1 = 0 ∨ ao = some ⟨g, o + 2, none⟩) : QAt w B (.slice ao Q.length (cap - 1)) Q := by
  refine ⟨ao, cap - 1, rfl, by omega, by omega, ha.imp id fun e => ⟨g, o + 2, e, hg, hl, fun j hj => ?_, fun j hj => ?_⟩⟩
  · have := hc (j + 2) (by omega)
    rw [show o + (j + 2) = o + 2 + j by omega] at this
    rw [this]; rfl
  · have := hf (j + 2) (by omega)
    rw [show o + (j + 2) = o + 2 + j by omega] at this
    exact this
theorem size_setCells (b : Nat) : ∀ (vs : List Value) (o : Nat) (w : World), (w.setCells b o vs).heap.size = w.heap.size
  | [], _, _ => rfl
  | v :: vs, o, w => by rw [World.setCells, size_setCells b vs (o + 1)]; simp [World.setCell]
theorem below_setCells {B g : Nat} (hg : B ≤ g) : ∀ (vs : List Value) (o : Nat) (w : World), Below B w (w.setCells g o vs)
  | [], _, _ => Below.refl _ _
  | v :: vs, o, w => ((Below.refl B w).setCell (p := ⟨g, o, none⟩) hg v).trans (below_setCells hg vs (o + 1) _)
/-- more at the end -/
theorem run_append_queue {w : World} {B S : Nat} {v xv : Value} {Q L : List (Nat × Int)} (ty : TypeId) (hq : QAt w B v Q) (hL : WaysAt S w xv L) (hb : B ≤ w.heap.size) (hn : Q.length + L.length ≤ 1048576) :
    ∃ v' w', (Builtin.append_ #[82, 82] ty #[v, xv]).run Tryz.prog w = .ok v' w' ∧ QAt w' B v' (Q ++ L) ∧ Below B w w' := by
  obtain ⟨inf, i1, i2, i3, i4⟩ := info_way
  obtain ⟨ao, cap, rfl, h1, h2, h3⟩ := hq
  obtain ⟨bo, xc, rfl, hxl, hx⟩ := hL
  have hsrc : L = [] ∨ Src Tryz.prog inf.size 82 (.slice bo L.length xc) L.length (wayCells L) w := by
    rcases hx with h | ⟨b, o, rfl, _, hc⟩
    · exact .inl h
    · refine .inr (Src.ofSlice w Tryz.underlying82 ⟨b, o, none⟩ L.length xc (wayCells L) (by rw [i3, wayCells_len]) (fun j u hj => ?_) (wayCells_one L))
      have hjl : j < L.length * 2 := by
        rcases Decidable.em (j < L.length * 2) with h | h
        · exact h
        · rw [List.getElem?_eq_none (by rw [wayCells_len]; omega)] at hj; cases hj
      have hi : j / 2 < L.length := by omega
      have k := wayCells_at L (j / 2) hi
      have c := hc (j / 2) hi
      have ea : (⟨b, o, none⟩ : Addr).add j = ⟨b, o + j, none⟩ := by unfold Addr.add; split <;> simp_all
      rw [ea]
      rcases Nat.mod_two_eq_zero_or_one j with e | e
      · have e2 : j / 2 * 2 = j := by omega
        rw [e2] at k c
        rw [c.1, ← hj, k.1]
      · have e2 : j / 2 * 2 + 1 = j := by omega
        have e3 : o + j / 2 * 2 + 1 = o + j := by omega
        rw [e2] at k
        rw [e3] at c
        rw [c.2, ← hj, k.2]
  have hsrc : Src Tryz.prog inf.size 82 (.slice bo L.length xc) L.length (wayCells L) w := by
    rcases hsrc with rfl | hs
    · cases bo with
      | none => exact Src.ofNil w Tryz.underlying82 xc
      | some a => exact Src.ofSlice w Tryz.underlying82 a 0 xc [] (by simp) (by simp) (by simp)
    · exact hs
  by_cases hroom : Q.length + L.length ≤ cap
  · rcases h3 with rfl | ⟨g, o, rfl, hg, hlt, hc, hf⟩
    · have hL0 : L = [] := List.eq_nil_of_length_eq_zero (by omega)
      subst hL0
      refine ⟨_, _, run_append_nothing w 82 82 ty 81 inf Tryz.underlying82 i1 ao Q.length 0 (by omega) _ hsrc, ?_, Below.refl _ _⟩
      rw [List.append_nil]
      exact ⟨ao, 0, rfl, h1, h2, .inl rfl⟩
    · have hr := run_append_room_src w 82 82 ty 81 inf Tryz.underlying82 i1 g o Q.length cap _ L.length (wayCells L) hsrc hroom
        (fun j hj => by rw [wayCells_len] at hj; have := (hf (Q.length * 2 + j) (by omega)).1; rw [i3, Nat.add_assoc]; exact this)
        (fun j hj => by rw [wayCells_len] at hj; have := (hf (Q.length * 2 + j) (by omega)).2; rw [i3, Nat.add_assoc]; exact this)
      rw [i3] at hr
      have hin := World.cell?_setCells_in g (wayCells L) (o + Q.length * 2) w (fun j hj => by rw [wayCells_len] at hj; have := (hf (Q.length * 2 + j) (by omega)).1; rw [Nat.add_assoc]; exact this)
      have hout := World.cell?_setCells_out g (wayCells L) (o + Q.length * 2) w
      have hbk : ∀ i, i < w.heap.size → i ≠ g → (w.setCells g (o + Q.length * 2) (wayCells L)).heap[i]? = w.heap[i]? := fun i hi hne => World.heap_setCells_other w g _ _ hi hne
      have hsz := size_setCells g (wayCells L) (o + Q.length * 2) w
      refine ⟨_, _, hr, ⟨_, cap, by rw [List.length_append], by rw [List.length_append]; exact hroom, h2, .inr ⟨g, o, rfl, hg, by rw [hsz]; exact hlt, fun j hj => ?_, fun j hj => ⟨?_, ?_⟩⟩⟩, below_setCells hg _ _ _⟩
      · rw [List.length_append] at hj
        rw [wayCells_app]
        by_cases hjq : j < Q.length * 2
        · rw [hout ⟨g, o + j, none⟩ (fun _ _ => .inl (by dsimp only; omega)), hc j hjq, List.getElem?_append_left (by rw [wayCells_len]; exact hjq)]
        · have hj2 : j - Q.length * 2 < (wayCells L).length := by rw [wayCells_len]; omega
          have := hin (j - Q.length * 2) hj2
          rw [show o + Q.length * 2 + (j - Q.length * 2) = o + j by omega] at this
          rw [this, List.getElem?_append_right (by rw [wayCells_len]; omega), wayCells_len, List.getElem?_eq_getElem hj2]
      · by_cases hjq : j < Q.length * 2 ∨ Q.length * 2 + L.length * 2 ≤ j
        · rw [hout ⟨g, o + j, none⟩ (fun _ _ => by rw [wayCells_len]; dsimp only; omega)]; exact (hf j hj).1
        · have hj2 : j - Q.length * 2 < (wayCells L).length := by rw [wayCells_len]; omega
          have := hin (j - Q.length * 2) hj2
          rw [show o + Q.length * 2 + (j - Q.length * 2) = o + j by omega] at this
          rw [this]; rfl
      · rw [World.frozen?_setCells]; exact (hf j hj).2
  · have hold : (Builtin.firstCells inf.size Q.length (.slice ao Q.length cap)).run Tryz.prog w.drew = .ok (wayCells Q).toArray w.drew := by
      rcases h3 with rfl | ⟨g, o, rfl, hg, hlt, hc, hf⟩
      · have hQ0 : Q = [] := List.eq_nil_of_length_eq_zero (by omega)
        subst hQ0
        cases ao with
        | none => exact run_firstCells_none _ _ _ _ _
        | some a => exact run_firstCells_some _ _ _ a _ _ [] (by simp) (by simp)
      · refine run_firstCells_some w.drew inf.size Q.length ⟨g, o, none⟩ Q.length cap (wayCells Q) (by rw [i3, wayCells_len]) (fun j u hj => ?_)
        have hjl : j < Q.length * 2 := by
          rcases Decidable.em (j < Q.length * 2) with h | h
          · exact h
          · rw [List.getElem?_eq_none (by rw [wayCells_len]; omega)] at hj; cases hj
        have ea : (⟨g, o, none⟩ : Addr).add j = ⟨g, o + j, none⟩ := by unfold Addr.add; split <;> simp_all
        rw [ea, ← hj]
        exact hc j hjl
    have hr := run_append_grow_src w 82 82 ty 81 inf _ Tryz.underlying82 i1 i2 ao Q.length cap (wayCells Q) hold _ L.length (wayCells L) hsrc (by omega) (by omega) (growslice_fits (by omega) (by rw [i4]; omega))
    have hge := grownCap_ge w (Q.length + L.length) cap 81
    have hcm := grownCap_le_maxLen w (Q.length + L.length) cap 81 (by unfold maxLen; omega)
    generalize grownCap w (Q.length + L.length) cap 81 = cc at *
    refine ⟨_, _, hr, ⟨_, cc, by rw [List.length_append], by rw [List.length_append]; exact hge, hcm, .inr ⟨w.heap.size, 0, rfl, hb, by simp, fun j hj => ?_, fun j hj => ⟨?_, ?_⟩⟩⟩, ((Below.refl _ _).drew).alloc (by exact hb) _⟩
    · rw [List.length_append] at hj
      have e1 := World.cell?_alloc_new w.drew ((wayCells Q ++ wayCells L).toArray ++ Builtin.zeroCells (Value.cells (.agg #[.int .i64 0, .int .i64 0])) (cc - (Q.length + L.length))) 81 (0 + j)
      refine e1.trans ?_
      rw [Nat.zero_add, Array.getElem?_append_left (by simp only [List.size_toArray, List.length_append, wayCells_len]; omega), List.getElem?_toArray, wayCells_app]
    · have e1 := World.cell?_alloc_new w.drew ((wayCells Q ++ wayCells L).toArray ++ Builtin.zeroCells (Value.cells (.agg #[.int .i64 0, .int .i64 0])) (cc - (Q.length + L.length))) 81 (0 + j)
      have e2 : ((wayCells Q ++ wayCells L).toArray ++ Builtin.zeroCells (Value.cells (.agg #[.int .i64 0, .int .i64 0])) (cc - (Q.length + L.length))).size = cc * 2 := by
        rw [Array.size_append, List.size_toArray, List.length_append, wayCells_len, wayCells_len, size_zeroCells]
        simp [Value.cells]; omega
      rw [Array.getElem?_eq_getElem (by rw [e2]; omega)] at e1
      exact (congrArg Option.isSome e1).trans rfl
    · exact World.frozen?_alloc_new w.drew _ _ _
theorem wpList_append_queue (w : World) {ops : Array Oper} {rest : List Oper} {o : Oper} {a : Act} {R : Exit → Act → World → Prop} (hgd : o.guard = none) (s x : Operand)
    (ho : o.op = .call { callee := .builtin .append, args := #[s, x], argTypes := #[82, 82] }) {B S : Nat} {v xv : Value} {Q L : List (Nat × Int)} (hv : a.eval s = v) (hx : a.eval x = xv)
    (hq : QAt w B v Q) (hL : WaysAt S w xv L) (hb : B ≤ w.heap.size) (hn : Q.length + L.length ≤ 1048576)
    (hK : ∀ v' w', QAt w' B v' (Q ++ L) → Below B w w' → wpList Tryz.prog ops R rest (a.put o.dst v') w') : wpList Tryz.prog ops R (o :: rest) a w := by
  refine wpList_plain hgd fun K hK' => ?_
  obtain ⟨v', w', hrun, h1, h2⟩ := run_append_queue o.type hq hL hb hn
  unfold Oper.wp
  simp [execOp, ho, resolve, invoke, builtin, hv, hx, hrun, Result.andThen]
  exact hK' _ _ (hK v' w' h1 h2)
end Go.Proofs.YtjhpaoadpcnlnaaGreatDoor
namespace Go.Proofs.YtjhpaoadpcnlnaaGreatDoor
open Go.ChangeShapes Go.WideShapes Go.ChangeAt Go.RowKit Go.Joins
/-- whether a value is a number -/
def numB (k n : Int) : Bool := (k == 1) && okB k n
theorem numB_bd {k n : Int} (h : numB k n = true) : k = 1 ∧ -99 ≤ n ∧ n ≤ 99 := by
  simp only [numB, Bool.and_eq_true, beq_iff_eq] at h
  obtain ⟨rfl, h⟩ := h
  rw [okB_one] at h
  simp at h; omega
theorem numB_mk {n : Int} (h1 : -99 ≤ n) (h2 : n ≤ 99) : numB 1 n = true := by simp [numB, okB, h1, h2]

set_option maxHeartbeats 400000 in
theorem count_any (n : Int) (w : World) :
    Calls Tryz.prog 134 #[.int .i64 n] w fun e w' => e = .returned (.int .i64 n) ∧ w' = w := by
  go_enter Tryz.func134, Tryz.ntmps134
  go_wp2
  go_ret
  exact ⟨rfl, rfl⟩
theorem assert_num (n : Int) (w : World) : (Instr.typeAssert (.iface 116 (.int .i64 n)) 111 116 true).run Tryz.prog w = .ok (.tuple #[.int .i64 n, .bool true]) w := by kernel_rfl
theorem assert_name (n : Int) (w : World) : (Instr.typeAssert (.iface 122 (.int .i64 n)) 111 116 true).run Tryz.prog w = .ok (.tuple #[.int .i64 0, .bool false]) w := by kernel_rfl
theorem assert_run (n : Int) (w : World) : (Instr.typeAssert (.iface 123 (.int .i64 n)) 111 116 true).run Tryz.prog w = .ok (.tuple #[.int .i64 0, .bool false]) w := by kernel_rfl
theorem assert_nil (w : World) : (Instr.typeAssert .nilIface 111 116 true).run Tryz.prog w = .ok (.tuple #[.int .i64 0, .bool false]) w := by kernel_rfl
set_option maxHeartbeats 400000 in
theorem number_yes (n : Int) (w : World) (h : numB 1 n = true) :
    Calls Tryz.prog 119 #[.agg #[.int .i64 1, .int .i64 n]] w fun e w' => e = .returned (.tuple #[.int .i64 n, .bool true]) ∧ Below w.heap.size w w' := by
  have hok : okB 1 n = true := by simpa [numB] using h
  have ht : thingV 1 n = .iface 116 (.int .i64 n) := by simp [thingV, hok]
  have hm := assert_num n
  clear h
  go_enter Tryz.func119, Tryz.ntmps119
  go_wp2_with fail
  refine (thing_any _ _ _).mono ?_
  rintro e w1 ⟨rfl, hb⟩
  go_wp2_with (go_at_call 134; refine (count_any _ _).mono ?_; rintro e w2 ⟨rfl, rfl⟩)
  go_ret2
  exact ⟨rfl, ((Below.refl _ _).alloc (Nat.le_refl _) _).trans (hb.mono (by simp))⟩
set_option maxHeartbeats 400000 in
theorem number_bad (k n : Int) (w : World) (h : okB k n = false) :
    Calls Tryz.prog 119 #[.agg #[.int .i64 k, .int .i64 n]] w fun e w' => e = .returned (.tuple #[.int .i64 0, .bool false]) ∧ Below w.heap.size w w' := by
  go_enter Tryz.func119, Tryz.ntmps119
  go_wp2_with fail
  refine (thing_any _ _ _).mono ?_
  rintro e w1 ⟨rfl, hb⟩
  go_wp2_with fail
  go_ret2
  exact ⟨rfl, ((Below.refl _ _).alloc (Nat.le_refl _) _).trans (hb.mono (by simp))⟩
set_option maxHeartbeats 400000 in
theorem number_other (k n : Int) (w : World) (hok : okB k n = true) (v : Value) (hv : thingV k n = v) (hm : ∀ w, (Instr.typeAssert v 111 116 true).run Tryz.prog w = .ok (.tuple #[.int .i64 0, .bool false]) w) :
    Calls Tryz.prog 119 #[.agg #[.int .i64 k, .int .i64 n]] w fun e w' => e = .returned (.tuple #[.int .i64 0, .bool false]) ∧ Below w.heap.size w w' := by
  go_enter Tryz.func119, Tryz.ntmps119
  go_wp2_with fail
  refine (thing_any _ _ _).mono ?_
  rintro e w1 ⟨rfl, hb⟩
  go_wp2_with fail
  go_ret2
  exact ⟨rfl, ((Below.refl _ _).alloc (Nat.le_refl _) _).trans (hb.mono (by simp))⟩
theorem number_no (k n : Int) (w : World) (h : numB k n = false) :
    Calls Tryz.prog 119 #[.agg #[.int .i64 k, .int .i64 n]] w fun e w' => e = .returned (.tuple #[.int .i64 0, .bool false]) ∧ Below w.heap.size w w' := by
  cases hok : okB k n with
  | false => exact number_bad k n w hok
  | true =>
    have hk := okB k n
    by_cases h1 : k = 1
    · subst h1; simp [numB, hok] at h
    by_cases h2 : k = 2
    · subst h2; exact number_other 2 n w hok _ (by simp [thingV, hok]) (assert_name n)
    by_cases h3 : k = 3
    · subst h3; exact number_other 3 n w hok _ (by simp [thingV, hok]) (assert_run n)
    · exact number_other k n w hok _ (by simp [thingV, h1, h2, h3]) assert_nil
/-- what numberOf answers, in one form -/
theorem number_any (k n : Int) (w : World) :
    Calls Tryz.prog 119 #[.agg #[.int .i64 k, .int .i64 n]] w fun e w' => e = .returned (.tuple #[.int .i64 (if numB k n = true then n else 0), .bool (numB k n)]) ∧ Below w.heap.size w w' := by
  cases h : numB k n with
  | true => obtain ⟨rfl, _⟩ := numB_bd h; simpa using number_yes n w h
  | false => simpa using number_no k n w h
end Go.Proofs.YtjhpaoadpcnlnaaGreatDoor
namespace Go.Proofs.YtjhpaoadpcnlnaaGreatDoor
open Go.ChangeShapes Go.WideShapes Go.ChangeAt Go.RowKit Go.Joins
theorem isSlot_any (n : Int) (w : World) : Calls Tryz.prog 111 #[.int .i64 n] w fun e w' => e = .returned (.bool (inB n 0 3)) ∧ w' = w := by
  by_cases h1 : 0 ≤ n
  · go_enter Tryz.func111, Tryz.ntmps111
    go_wp2
    go_ret
    exact ⟨by simp [inB]; omega, rfl⟩
  · go_enter Tryz.func111, Tryz.ntmps111
    go_wp2
    go_ret
    exact ⟨by simp [inB]; omega, rfl⟩
theorem isPlace_any (n : Int) (w : World) : Calls Tryz.prog 114 #[.int .i64 n] w fun e w' => e = .returned (.bool (inB n 0 15)) ∧ w' = w := by
  have e : (n < 16) = (n ≤ 15) := propext ⟨fun h => by omega, fun h => by omega⟩
  by_cases h1 : 0 ≤ n
  · go_enter Tryz.func114, Tryz.ntmps114
    go_wp2
    go_ret
    exact ⟨by simp [inB]; omega, rfl⟩
  · go_enter Tryz.func114, Tryz.ntmps114
    go_wp2
    go_ret
    exact ⟨by simp [inB]; omega, rfl⟩
theorem isKind_any (n : Int) (w : World) : Calls Tryz.prog 118 #[.int .i64 n] w fun e w' => e = .returned (.bool (inB n 0 3)) ∧ w' = w := by
  by_cases h1 : 0 ≤ n
  · go_enter Tryz.func118, Tryz.ntmps118
    go_wp2
    go_ret
    exact ⟨by simp [inB]; omega, rfl⟩
  · go_enter Tryz.func118, Tryz.ntmps118
    go_wp2
    go_ret
    exact ⟨by simp [inB]; omega, rfl⟩
theorem slotR_any (k r s t a b : Int) (w : World) : Calls Tryz.prog 78 #[.agg #[.int .i64 k, .int .i64 r, .int .i64 s, .int .i64 t, .int .i64 a, .int .i64 b]] w fun e w' => e = .returned (.bool (inB r 0 3)) ∧ Below w.heap.size w w' := by
  go_enter Tryz.func78, Tryz.ntmps78
  go_wp2_with fail
  refine (isSlot_any _ _).mono ?_
  rintro e w1 ⟨rfl, rfl⟩
  go_wp2_with fail
  go_ret
  exact ⟨rfl, (Below.refl _ _).alloc (Nat.le_refl _) _⟩
theorem slotS_any (k r s t a b : Int) (w : World) : Calls Tryz.prog 82 #[.agg #[.int .i64 k, .int .i64 r, .int .i64 s, .int .i64 t, .int .i64 a, .int .i64 b]] w fun e w' => e = .returned (.bool (inB s 0 3)) ∧ Below w.heap.size w w' := by
  go_enter Tryz.func82, Tryz.ntmps82
  go_wp2_with fail
  refine (isSlot_any _ _).mono ?_
  rintro e w1 ⟨rfl, rfl⟩
  go_wp2_with fail
  go_ret
  exact ⟨rfl, (Below.refl _ _).alloc (Nat.le_refl _) _⟩
theorem kindS_any (k r s t a b : Int) (w : World) : Calls Tryz.prog 94 #[.agg #[.int .i64 k, .int .i64 r, .int .i64 s, .int .i64 t, .int .i64 a, .int .i64 b]] w fun e w' => e = .returned (.bool (inB s 0 3)) ∧ Below w.heap.size w w' := by
  go_enter Tryz.func94, Tryz.ntmps94
  go_wp2_with fail
  refine (isKind_any _ _).mono ?_
  rintro e w1 ⟨rfl, rfl⟩
  go_wp2_with fail
  go_ret
  exact ⟨rfl, (Below.refl _ _).alloc (Nat.le_refl _) _⟩
theorem placeTo_any (k r s t a b : Int) (w : World) : Calls Tryz.prog 86 #[.agg #[.int .i64 k, .int .i64 r, .int .i64 s, .int .i64 t, .int .i64 a, .int .i64 b]] w fun e w' => e = .returned (.bool (inB t 0 15)) ∧ Below w.heap.size w w' := by
  go_enter Tryz.func86, Tryz.ntmps86
  go_wp2_with fail
  refine (isPlace_any _ _).mono ?_
  rintro e w1 ⟨rfl, rfl⟩
  go_wp2_with fail
  go_ret
  exact ⟨rfl, (Below.refl _ _).alloc (Nat.le_refl _) _⟩
theorem noR_any (k r s t a b : Int) (w : World) : Calls Tryz.prog 81 #[.agg #[.int .i64 k, .int .i64 r, .int .i64 s, .int .i64 t, .int .i64 a, .int .i64 b]] w fun e w' => e = .returned (.bool (r == 0)) ∧ Below w.heap.size w w' := by
  go_enter Tryz.func81, Tryz.ntmps81
  go_wp2_with fail
  go_ret
  exact ⟨rfl, (Below.refl _ _).alloc (Nat.le_refl _) _⟩
theorem noS_any (k r s t a b : Int) (w : World) : Calls Tryz.prog 85 #[.agg #[.int .i64 k, .int .i64 r, .int .i64 s, .int .i64 t, .int .i64 a, .int .i64 b]] w fun e w' => e = .returned (.bool (s == 0)) ∧ Below w.heap.size w w' := by
  go_enter Tryz.func85, Tryz.ntmps85
  go_wp2_with fail
  go_ret
  exact ⟨rfl, (Below.refl _ _).alloc (Nat.le_refl _) _⟩
theorem noTo_any (k r s t a b : Int) (w : World) : Calls Tryz.prog 89 #[.agg #[.int .i64 k, .int .i64 r, .int .i64 s, .int .i64 t, .int .i64 a, .int .i64 b]] w fun e w' => e = .returned (.bool (t == 0)) ∧ Below w.heap.size w w' := by
  go_enter Tryz.func89, Tryz.ntmps89
  go_wp2_with fail
  go_ret
  exact ⟨rfl, (Below.refl _ _).alloc (Nat.le_refl _) _⟩
theorem noV_any (k r s t a b : Int) (w : World) : Calls Tryz.prog 93 #[.agg #[.int .i64 k, .int .i64 r, .int .i64 s, .int .i64 t, .int .i64 a, .int .i64 b]] w fun e w' => e = .returned (.bool (a == 0 && b == 0)) ∧ Below w.heap.size w w' := by
  by_cases h0 : a = 0
  · subst h0
    by_cases h1 : b = 0
    · subst h1
      go_enter Tryz.func93, Tryz.ntmps93
      go_wp2_with fail
      go_ret
      exact ⟨rfl, (Below.refl _ _).alloc (Nat.le_refl _) _⟩
    · go_enter Tryz.func93, Tryz.ntmps93
      go_wp2_with fail
      go_ret
      exact ⟨by simp [h1], (Below.refl _ _).alloc (Nat.le_refl _) _⟩
  · go_enter Tryz.func93, Tryz.ntmps93
    go_wp2_with fail
    go_ret
    exact ⟨by simp [h0], (Below.refl _ _).alloc (Nat.le_refl _) _⟩
theorem valueV_any (k r s t a b : Int) (w : World) : Calls Tryz.prog 90 #[.agg #[.int .i64 k, .int .i64 r, .int .i64 s, .int .i64 t, .int .i64 a, .int .i64 b]] w fun e w' => e = .returned (.bool (okB a b)) ∧ Below w.heap.size w w' := by
  go_enter Tryz.func90, Tryz.ntmps90
  go_wp2_with fail
  refine (implOk_any _ _ _).mono ?_
  rintro e w1 ⟨rfl, hb1⟩
  go_wp2_with fail
  go_ret
  exact ⟨rfl, ((Below.refl _ _).alloc (Nat.le_refl _) _).trans (hb1.mono (by simp))⟩
/-- a value that is a time -/
def timeB (a b : Int) : Bool := numB a b && decide (1 ≤ b)
/-- a value that is 0 or 1 -/
def onOffB (a b : Int) : Bool := numB a b && (b == 0 || b == 1)
theorem timeV_any (k r s t a b : Int) (w : World) : Calls Tryz.prog 95 #[.agg #[.int .i64 k, .int .i64 r, .int .i64 s, .int .i64 t, .int .i64 a, .int .i64 b]] w fun e w' => e = .returned (.bool (timeB a b)) ∧ Below w.heap.size w w' := by
  cases h : numB a b with
  | true =>
    obtain ⟨rfl, _⟩ := numB_bd h
    go_enter Tryz.func95, Tryz.ntmps95
    go_wp2_with fail
    refine (number_yes _ _ h).mono ?_
    rintro e w1 ⟨rfl, hb1⟩
    go_wp2_with fail
    go_ret
    exact ⟨by simp [timeB, h], ((Below.refl _ _).alloc (Nat.le_refl _) _).trans (hb1.mono (by simp))⟩
  | false =>
    go_enter Tryz.func95, Tryz.ntmps95
    go_wp2_with fail
    refine (number_no _ _ _ h).mono ?_
    rintro e w1 ⟨rfl, hb1⟩
    go_wp2_with fail
    go_ret
    exact ⟨by simp [timeB, h], ((Below.refl _ _).alloc (Nat.le_refl _) _).trans (hb1.mono (by simp))⟩
theorem onOffV_any (k r s t a b : Int) (w : World) : Calls Tryz.prog 96 #[.agg #[.int .i64 k, .int .i64 r, .int .i64 s, .int .i64 t, .int .i64 a, .int .i64 b]] w fun e w' => e = .returned (.bool (onOffB a b)) ∧ Below w.heap.size w w' := by
  cases h : numB a b with
  | true =>
    obtain ⟨rfl, _⟩ := numB_bd h
    by_cases h0 : b = 0
    · subst h0
      go_enter Tryz.func96, Tryz.ntmps96
      go_wp2_with fail
      refine (number_yes _ _ h).mono ?_
      rintro e w1 ⟨rfl, hb1⟩
      go_wp2_with fail
      go_ret
      exact ⟨by simp [onOffB, h], ((Below.refl _ _).alloc (Nat.le_refl _) _).trans (hb1.mono (by simp))⟩
    · go_enter Tryz.func96, Tryz.ntmps96
      go_wp2_with fail
      refine (number_yes _ _ h).mono ?_
      rintro e w1 ⟨rfl, hb1⟩
      have e0 : (b == 0) = false := by simpa using h0
      go_wp2_with fail
      go_ret
      exact ⟨by simp [onOffB, h, h0], ((Below.refl _ _).alloc (Nat.le_refl _) _).trans (hb1.mono (by simp))⟩
  | false =>
    go_enter Tryz.func96, Tryz.ntmps96
    go_wp2_with fail
    refine (number_no _ _ _ h).mono ?_
    rintro e w1 ⟨rfl, hb1⟩
    go_wp2_with fail
    go_ret
    exact ⟨by simp [onOffB, h], ((Below.refl _ _).alloc (Nat.le_refl _) _).trans (hb1.mono (by simp))⟩
end Go.Proofs.YtjhpaoadpcnlnaaGreatDoor
namespace Go.Proofs.YtjhpaoadpcnlnaaGreatDoor
open Go.ChangeShapes Go.WideShapes Go.ChangeAt Go.RowKit Go.Joins
/-- the table's parts, in memory -/
def tabW (w : World) : World :=
  (((((((((((((((w.alloc (.cells #[.string ⟨#[]⟩, .nilFunc, .nilFunc, .nilFunc, .nilFunc, .nilFunc, .nilFunc, .nilFunc, .nilFunc, .nilFunc, .nilFunc, .nilFunc, .nilFunc, .slice none 0 0] 60)).alloc (.cells #[.func (.func 78) #[] #[], .func (.func 79) #[] #[], .func (.func 80) #[] #[]] 56)).alloc (.cells #[.func (.func 81) #[] #[], .nilFunc, .nilFunc] 56)).alloc (.cells #[.func (.func 82) #[] #[], .func (.func 83) #[] #[], .func (.func 84) #[] #[]] 56)).alloc (.cells #[.func (.func 85) #[] #[], .nilFunc, .nilFunc] 56)).alloc (.cells #[.func (.func 86) #[] #[], .func (.func 87) #[] #[], .func (.func 88) #[] #[]] 56)).alloc (.cells #[.func (.func 89) #[] #[], .nilFunc, .nilFunc] 56)).alloc (.cells #[.func (.func 90) #[] #[], .func (.func 91) #[] #[], .func (.func 92) #[] #[]] 56)).alloc (.cells #[.func (.func 93) #[] #[], .nilFunc, .nilFunc] 56)).alloc (.cells #[.func (.func 94) #[] #[], .func (.func 83) #[] #[], .func (.func 84) #[] #[]] 56)).alloc (.cells #[.func (.func 95) #[] #[], .func (.func 91) #[] #[], .func (.func 92) #[] #[]] 56)).alloc (.cells #[.func (.func 96) #[] #[], .func (.func 91) #[] #[], .func (.func 92) #[] #[]] 56)).alloc (.cells #[.func (.func 97) #[] #[]] 85)).alloc (.cells #[.func (.func 98) #[] #[]] 85)).alloc (.cells #[.func (.func 97) #[] #[], .func (.func 98) #[] #[]] 85))
theorem heap_new {w : World} {o : Obj} {n : Nat} (h : n = w.heap.size) : (w.alloc o).heap[n]? = some o := h ▸ heap_alloc_new w o
theorem heap_old {w : World} {o : Obj} {n : Nat} (h : n < w.heap.size) : (w.alloc o).heap[n]? = w.heap[n]? := heap_alloc_old _ _ h
structure TabIs (w W : World) : Prop where
  h0 : W.heap[w.heap.size]? = some (.cells #[.string ⟨#[]⟩, .nilFunc, .nilFunc, .nilFunc, .nilFunc, .nilFunc, .nilFunc, .nilFunc, .nilFunc, .nilFunc, .nilFunc, .nilFunc, .nilFunc, .slice none 0 0] 60)
  h1 : W.heap[w.heap.size + 1]? = some (.cells #[.func (.func 78) #[] #[], .func (.func 79) #[] #[], .func (.func 80) #[] #[]] 56)
  h2 : W.heap[w.heap.size + 1 + 1]? = some (.cells #[.func (.func 81) #[] #[], .nilFunc, .nilFunc] 56)
  h3 : W.heap[w.heap.size + 1 + 1 + 1]? = some (.cells #[.func (.func 82) #[] #[], .func (.func 83) #[] #[], .func (.func 84) #[] #[]] 56)
  h4 : W.heap[w.heap.size + 1 + 1 + 1 + 1]? = some (.cells #[.func (.func 85) #[] #[], .nilFunc, .nilFunc] 56)
  h5 : W.heap[w.heap.size + 1 + 1 + 1 + 1 + 1]? = some (.cells #[.func (.func 86) #[] #[], .func (.func 87) #[] #[], .func (.func 88) #[] #[]] 56)
  h6 : W.heap[w.heap.size + 1 + 1 + 1 + 1 + 1 + 1]? = some (.cells #[.func (.func 89) #[] #[], .nilFunc, .nilFunc] 56)
  h7 : W.heap[w.heap.size + 1 + 1 + 1 + 1 + 1 + 1 + 1]? = some (.cells #[.func (.func 90) #[] #[], .func (.func 91) #[] #[], .func (.func 92) #[] #[]] 56)
  h8 : W.heap[w.heap.size + 1 + 1 + 1 + 1 + 1 + 1 + 1 + 1]? = some (.cells #[.func (.func 93) #[] #[], .nilFunc, .nilFunc] 56)
  h9 : W.heap[w.heap.size + 1 + 1 + 1 + 1 + 1 + 1 + 1 + 1 + 1]? = some (.cells #[.func (.func 94) #[] #[], .func (.func 83) #[] #[], .func (.func 84) #[] #[]] 56)
  h10 : W.heap[w.heap.size + 1 + 1 + 1 + 1 + 1 + 1 + 1 + 1 + 1 + 1]? = some (.cells #[.func (.func 95) #[] #[], .func (.func 91) #[] #[], .func (.func 92) #[] #[]] 56)
  h11 : W.heap[w.heap.size + 1 + 1 + 1 + 1 + 1 + 1 + 1 + 1 + 1 + 1 + 1]? = some (.cells #[.func (.func 96) #[] #[], .func (.func 91) #[] #[], .func (.func 92) #[] #[]] 56)
  h12 : W.heap[w.heap.size + 1 + 1 + 1 + 1 + 1 + 1 + 1 + 1 + 1 + 1 + 1 + 1]? = some (.cells #[.func (.func 97) #[] #[]] 85)
  h13 : W.heap[w.heap.size + 1 + 1 + 1 + 1 + 1 + 1 + 1 + 1 + 1 + 1 + 1 + 1 + 1]? = some (.cells #[.func (.func 98) #[] #[]] 85)
  h14 : W.heap[w.heap.size + 1 + 1 + 1 + 1 + 1 + 1 + 1 + 1 + 1 + 1 + 1 + 1 + 1 + 1]? = some (.cells #[.func (.func 97) #[] #[], .func (.func 98) #[] #[]] 85)
  size : W.heap.size = w.heap.size + 1 + 1 + 1 + 1 + 1 + 1 + 1 + 1 + 1 + 1 + 1 + 1 + 1 + 1 + 1
  below : Below w.heap.size w W
set_option maxRecDepth 20000 in
set_option maxHeartbeats 4000000 in
theorem tabW_is (w : World) : TabIs w (tabW w) where
  h0 := (heap_old (by simp <;> omega)).trans ((heap_old (by simp <;> omega)).trans ((heap_old (by simp <;> omega)).trans ((heap_old (by simp <;> omega)).trans ((heap_old (by simp <;> omega)).trans ((heap_old (by simp <;> omega)).trans ((heap_old (by simp <;> omega)).trans ((heap_old (by simp <;> omega)).trans ((heap_old (by simp <;> omega)).trans ((heap_old (by simp <;> omega)).trans ((heap_old (by simp <;> omega)).trans ((heap_old (by simp <;> omega)).trans ((heap_old (by simp <;> omega)).trans ((heap_old (by simp <;> omega)).trans (heap_new (by simp)))))))))))))))
  h1 := (heap_old (by simp <;> omega)).trans ((heap_old (by simp <;> omega)).trans ((heap_old (by simp <;> omega)).trans ((heap_old (by simp <;> omega)).trans ((heap_old (by simp <;> omega)).trans ((heap_old (by simp <;> omega)).trans ((heap_old (by simp <;> omega)).trans ((heap_old (by simp <;> omega)).trans ((heap_old (by simp <;> omega)).trans ((heap_old (by simp <;> omega)).trans ((heap_old (by simp <;> omega)).trans ((heap_old (by simp <;> omega)).trans ((heap_old (by simp <;> omega)).trans (heap_new (by simp))))))))))))))
  h2 := (heap_old (by simp <;> omega)).trans ((heap_old (by simp <;> omega)).trans ((heap_old (by simp <;> omega)).trans ((heap_old (by simp <;> omega)).trans ((heap_old (by simp <;> omega)).trans ((heap_old (by simp <;> omega)).trans ((heap_old (by simp <;> omega)).trans ((heap_old (by simp <;> omega)).trans ((heap_old (by simp <;> omega)).trans ((heap_old (by simp <;> omega)).trans ((heap_old (by simp <;> omega)).trans ((heap_old (by simp <;> omega)).trans (heap_new (by simp)))))))))))))
  h3 := (heap_old (by simp <;> omega)).trans ((heap_old (by simp <;> omega)).trans ((heap_old (by simp <;> omega)).trans ((heap_old (by simp <;> omega)).trans ((heap_old (by simp <;> omega)).trans ((heap_old (by simp <;> omega)).trans ((heap_old (by simp <;> omega)).trans ((heap_old (by simp <;> omega)).trans ((heap_old (by simp <;> omega)).trans ((heap_old (by simp <;> omega)).trans ((heap_old (by simp <;> omega)).trans (heap_new (by simp))))))))))))
  h4 := (heap_old (by simp <;> omega)).trans ((heap_old (by simp <;> omega)).trans ((heap_old (by simp <;> omega)).trans ((heap_old (by simp <;> omega)).trans ((heap_old (by simp <;> omega)).trans ((heap_old (by simp <;> omega)).trans ((heap_old (by simp <;> omega)).trans ((heap_old (by simp <;> omega)).trans ((heap_old (by simp <;> omega)).trans ((heap_old (by simp <;> omega)).trans (heap_new (by simp)))))))))))
  h5 := (heap_old (by simp <;> omega)).trans ((heap_old (by simp <;> omega)).trans ((heap_old (by simp <;> omega)).trans ((heap_old (by simp <;> omega)).trans ((heap_old (by simp <;> omega)).trans ((heap_old (by simp <;> omega)).trans ((heap_old (by simp <;> omega)).trans ((heap_old (by simp <;> omega)).trans ((heap_old (by simp <;> omega)).trans (heap_new (by simp))))))))))
  h6 := (heap_old (by simp <;> omega)).trans ((heap_old (by simp <;> omega)).trans ((heap_old (by simp <;> omega)).trans ((heap_old (by simp <;> omega)).trans ((heap_old (by simp <;> omega)).trans ((heap_old (by simp <;> omega)).trans ((heap_old (by simp <;> omega)).trans ((heap_old (by simp <;> omega)).trans (heap_new (by simp)))))))))
  h7 := (heap_old (by simp <;> omega)).trans ((heap_old (by simp <;> omega)).trans ((heap_old (by simp <;> omega)).trans ((heap_old (by simp <;> omega)).trans ((heap_old (by simp <;> omega)).trans ((heap_old (by simp <;> omega)).trans ((heap_old (by simp <;> omega)).trans (heap_new (by simp))))))))
  h8 := (heap_old (by simp <;> omega)).trans ((heap_old (by simp <;> omega)).trans ((heap_old (by simp <;> omega)).trans ((heap_old (by simp <;> omega)).trans ((heap_old (by simp <;> omega)).trans ((heap_old (by simp <;> omega)).trans (heap_new (by simp)))))))
  h9 := (heap_old (by simp <;> omega)).trans ((heap_old (by simp <;> omega)).trans ((heap_old (by simp <;> omega)).trans ((heap_old (by simp <;> omega)).trans ((heap_old (by simp <;> omega)).trans (heap_new (by simp))))))
  h10 := (heap_old (by simp <;> omega)).trans ((heap_old (by simp <;> omega)).trans ((heap_old (by simp <;> omega)).trans ((heap_old (by simp <;> omega)).trans (heap_new (by simp)))))
  h11 := (heap_old (by simp <;> omega)).trans ((heap_old (by simp <;> omega)).trans ((heap_old (by simp <;> omega)).trans (heap_new (by simp))))
  h12 := (heap_old (by simp <;> omega)).trans ((heap_old (by simp <;> omega)).trans (heap_new (by simp)))
  h13 := (heap_old (by simp <;> omega)).trans (heap_new (by simp))
  h14 := heap_new (by simp)
  size := by simp [tabW]
  below := ((((((((((((((((Below.refl _ _).alloc (by simp) _).alloc (by simp) _).alloc (by simp; omega) _).alloc (by simp; omega) _).alloc (by simp; omega) _).alloc (by simp; omega) _).alloc (by simp; omega) _).alloc (by simp; omega) _).alloc (by simp; omega) _).alloc (by simp; omega) _).alloc (by simp; omega) _).alloc (by simp; omega) _).alloc (by simp; omega) _).alloc (by simp; omega) _).alloc (by simp; omega) _)
end Go.Proofs.YtjhpaoadpcnlnaaGreatDoor
namespace Go.Proofs.YtjhpaoadpcnlnaaGreatDoor
open Go.ChangeShapes Go.WideShapes Go.ChangeAt Go.RowKit Go.Joins
/-- an operation of the table's making: a part is read (0), something is built (1), or moved (2) -/
structure TI where
  kd : Nat
  dst : Nat
  s : Nat
  ps : Array (Nat × Operand)
  x : Operand
def TI.load (d s : Nat) : TI := ⟨0, d, s, #[], .tmp 0⟩
def TI.build (d t : Nat) (ps : Array (Nat × Operand)) : TI := ⟨1, d, t, ps, .tmp 0⟩
def TI.move (d : Nat) (x : Operand) : TI := ⟨2, d, 0, #[], x⟩
def TI.op (i : TI) : Op := if i.kd = 0 then .load 56 (.tmp i.s) else if i.kd = 1 then .build i.s i.ps else .move i.x
def TI.val (mem : Nat → Option (Array Value)) (blt : Nat → Array (Nat × Operand) → Act → Option (Array Value)) (ev : Act → Operand → Value) (i : TI) (a : Act) : Option Value :=
  if i.kd = 0 then (mem i.s).map Value.agg else if i.kd = 1 then (blt i.s i.ps a).map Value.agg else some (ev a i.x)
def tabsG (mem : Nat → Option (Array Value)) (blt : Nat → Array (Nat × Operand) → Act → Option (Array Value)) (ev : Act → Operand → Value) (put : Act → Option Tmp → Value → Act) : List TI → Act → Option Act
  | [], a => some a
  | i :: l, a => if (mem i.dst).isNone = true then (i.val mem blt ev a).bind fun v => tabsG mem blt ev put l (put a (some i.dst) v) else none
/-- the operations, one behind the other -/
abbrev Tabs (mem : Nat → Option (Array Value)) (is : List TI) (a a' : Act) : Prop :=
  tabsG mem (fun t ps a => Tryz.prog.built t (ps.map fun (i, x) => (i, a.eval x)).toList) Act.eval Act.put is a = some a'
def Fits : List TI → List Oper → Prop
  | [], _ => True
  | _ :: _, [] => False
  | i :: is, o :: os => (o.guard = none ∧ o.dst = some i.dst ∧ o.op = i.op) ∧ Fits is os
/-- the parts lie in memory behind their slots -/
def Mem (mem : Nat → Option (Array Value)) (a : Act) (W : World) : Prop :=
  ∀ s cs, mem s = some cs → cs.size = 3 ∧ ∃ g fr, a.eval (.tmp s) = .pointer (some ⟨g, 0, none⟩) ∧ W.heap[g]? = some (.cells cs 56 fr)
theorem eval_put_ne (a : Act) (d s : Nat) (v : Value) (h : s ≠ d) : (a.put (some d) v).eval (.tmp s) = a.eval (.tmp s) := by
  simp [Act.put, Act.eval, Ne.symm h]
theorem Mem.put {mem : Nat → Option (Array Value)} {a : Act} {W : World} (H : Mem mem a W) (d : Nat) (hd : (mem d).isNone = true) (v : Value) : Mem mem (a.put (some d) v) W := by
  intro s cs hs
  obtain ⟨h1, g, fr, h2, h3⟩ := H s cs hs
  refine ⟨h1, g, fr, ?_, h3⟩
  rw [eval_put_ne a d s v (by rintro rfl; rw [hs] at hd; cases hd)]; exact h2
theorem tabs_sound {mem : Nat → Option (Array Value)} {ops : Array Oper} {Q : Exit → Act → World → Prop} {W : World} : ∀ (is : List TI) (l : List Oper) (a a' : Act),
    Tabs mem is a a' → Fits is l → Mem mem a W → wpList Tryz.prog ops Q (l.drop is.length) a' W → wpList Tryz.prog ops Q l a W
  | [], l, a, a', h, _, _, hk => by injection h with h; subst h; exact hk
  | i :: is, [], a, a', h, hf, _, _ => hf.elim
  | i :: is, o :: l, a, a', h, hf, H, hk => by
    rw [Tabs, tabsG] at h
    split at h
    · rename_i hc
      obtain ⟨⟨hg, hd, ho⟩, hf⟩ := hf
      cases hv : i.val mem (fun t ps a => Tryz.prog.built t (ps.map fun (i, x) => (i, a.eval x)).toList) Act.eval a with
      | none => rw [hv] at h; cases h
      | some v =>
        rw [hv, Option.bind_some] at h
        have hk := tabs_sound is l _ a' h hf (H.put _ hc v) hk
        by_cases h0 : i.kd = 0
        · rw [TI.val, if_pos h0] at hv
          rw [TI.op, if_pos h0] at ho
          cases hm : mem i.s with
          | none => rw [hm] at hv; cases hv
          | some cs =>
            rw [hm] at hv
            injection hv with hv
            subst hv
            obtain ⟨h1, g, fr, h2, h3⟩ := H i.s cs hm
            refine wpList_load_row hg 56 (.tmp i.s) ho g h2 56 cs fr _ h3 Tryz.underlying56 rfl ?_ (by rw [hd]; exact hk)
            rw [h1]; kernel_rfl
        · by_cases h1 : i.kd = 1
          · rw [TI.val, if_neg h0, if_pos h1] at hv
            rw [TI.op, if_neg h0, if_pos h1] at ho
            cases hb : Tryz.prog.built i.s (i.ps.map fun (i, x) => (i, a.eval x)).toList with
            | none => rw [hb] at hv; cases hv
            | some cs =>
              rw [hb] at hv
              injection hv with hv
              subst hv
              refine wpList_build hg i.s i.ps ho (by rw [hb]; rfl) ?_
              rw [hb, hd]; exact hk
          · rw [TI.val, if_neg h0, if_neg h1] at hv
            rw [TI.op, if_neg h0, if_neg h1] at ho
            injection hv with hv
            subst hv
            exact wpList_plain hg fun _ hK => BigFrame.wp_move i.x ho (by rw [hd]; exact hK _ _ hk)
    · cases h
def Ar : Array Value := #[.func (.func 78) #[] #[], .func (.func 79) #[] #[], .func (.func 80) #[] #[]]
def Sr : Value := .agg Ar
def AnR : Array Value := #[.func (.func 81) #[] #[], .nilFunc, .nilFunc]
def SnR : Value := .agg AnR
def As : Array Value := #[.func (.func 82) #[] #[], .func (.func 83) #[] #[], .func (.func 84) #[] #[]]
def Ss : Value := .agg As
def AnS : Array Value := #[.func (.func 85) #[] #[], .nilFunc, .nilFunc]
def SnS : Value := .agg AnS
def At : Array Value := #[.func (.func 86) #[] #[], .func (.func 87) #[] #[], .func (.func 88) #[] #[]]
def St : Value := .agg At
def AnT : Array Value := #[.func (.func 89) #[] #[], .nilFunc, .nilFunc]
def SnT : Value := .agg AnT
def Av : Array Value := #[.func (.func 90) #[] #[], .func (.func 91) #[] #[], .func (.func 92) #[] #[]]
def Sv : Value := .agg Av
def AnV : Array Value := #[.func (.func 93) #[] #[], .nilFunc, .nilFunc]
def SnV : Value := .agg AnV
def Afits : Array Value := #[.func (.func 94) #[] #[], .func (.func 83) #[] #[], .func (.func 84) #[] #[]]
def Sfits : Value := .agg Afits
def Atime : Array Value := #[.func (.func 95) #[] #[], .func (.func 91) #[] #[], .func (.func 92) #[] #[]]
def Stime : Value := .agg Atime
def AonOff : Array Value := #[.func (.func 96) #[] #[], .func (.func 91) #[] #[], .func (.func 92) #[] #[]]
def SonOff : Value := .agg AonOff
def P1 : Value := .agg #[.func (.func 78) #[] #[], .func (.func 79) #[] #[], .func (.func 80) #[] #[], .func (.func 85) #[] #[], .nilFunc, .nilFunc, .func (.func 89) #[] #[], .nilFunc, .nilFunc, .func (.func 90) #[] #[], .func (.func 91) #[] #[], .func (.func 92) #[] #[]]
def P2 : Value := .agg #[.func (.func 78) #[] #[], .func (.func 79) #[] #[], .func (.func 80) #[] #[], .func (.func 82) #[] #[], .func (.func 83) #[] #[], .func (.func 84) #[] #[], .func (.func 89) #[] #[], .nilFunc, .nilFunc, .func (.func 93) #[] #[], .nilFunc, .nilFunc]
def P3 : Value := .agg #[.func (.func 78) #[] #[], .func (.func 79) #[] #[], .func (.func 80) #[] #[], .func (.func 82) #[] #[], .func (.func 83) #[] #[], .func (.func 84) #[] #[], .func (.func 89) #[] #[], .nilFunc, .nilFunc, .func (.func 93) #[] #[], .nilFunc, .nilFunc]
def P4 : Value := .agg #[.func (.func 78) #[] #[], .func (.func 79) #[] #[], .func (.func 80) #[] #[], .func (.func 85) #[] #[], .nilFunc, .nilFunc, .func (.func 89) #[] #[], .nilFunc, .nilFunc, .func (.func 93) #[] #[], .nilFunc, .nilFunc]
def P5 : Value := .agg #[.func (.func 78) #[] #[], .func (.func 79) #[] #[], .func (.func 80) #[] #[], .func (.func 85) #[] #[], .nilFunc, .nilFunc, .func (.func 86) #[] #[], .func (.func 87) #[] #[], .func (.func 88) #[] #[], .func (.func 93) #[] #[], .nilFunc, .nilFunc]
def P6 : Value := .agg #[.func (.func 78) #[] #[], .func (.func 79) #[] #[], .func (.func 80) #[] #[], .func (.func 82) #[] #[], .func (.func 83) #[] #[], .func (.func 84) #[] #[], .func (.func 89) #[] #[], .nilFunc, .nilFunc, .func (.func 93) #[] #[], .nilFunc, .nilFunc]
def P7 : Value := .agg #[.func (.func 78) #[] #[], .func (.func 79) #[] #[], .func (.func 80) #[] #[], .func (.func 94) #[] #[], .func (.func 83) #[] #[], .func (.func 84) #[] #[], .func (.func 89) #[] #[], .nilFunc, .nilFunc, .func (.func 93) #[] #[], .nilFunc, .nilFunc]
def P8 : Value := .agg #[.func (.func 78) #[] #[], .func (.func 79) #[] #[], .func (.func 80) #[] #[], .func (.func 94) #[] #[], .func (.func 83) #[] #[], .func (.func 84) #[] #[], .func (.func 86) #[] #[], .func (.func 87) #[] #[], .func (.func 88) #[] #[], .func (.func 95) #[] #[], .func (.func 91) #[] #[], .func (.func 92) #[] #[]]
def P9 : Value := .agg #[.func (.func 81) #[] #[], .nilFunc, .nilFunc, .func (.func 85) #[] #[], .nilFunc, .nilFunc, .func (.func 86) #[] #[], .func (.func 87) #[] #[], .func (.func 88) #[] #[], .func (.func 93) #[] #[], .nilFunc, .nilFunc]
def P10 : Value := .agg #[.func (.func 78) #[] #[], .func (.func 79) #[] #[], .func (.func 80) #[] #[], .func (.func 85) #[] #[], .nilFunc, .nilFunc, .func (.func 86) #[] #[], .func (.func 87) #[] #[], .func (.func 88) #[] #[], .func (.func 90) #[] #[], .func (.func 91) #[] #[], .func (.func 92) #[] #[]]
def P11 : Value := .agg #[.func (.func 78) #[] #[], .func (.func 79) #[] #[], .func (.func 80) #[] #[], .func (.func 85) #[] #[], .nilFunc, .nilFunc, .func (.func 89) #[] #[], .nilFunc, .nilFunc, .func (.func 93) #[] #[], .nilFunc, .nilFunc]
def P12 : Value := .agg #[.func (.func 78) #[] #[], .func (.func 79) #[] #[], .func (.func 80) #[] #[], .func (.func 85) #[] #[], .nilFunc, .nilFunc, .func (.func 89) #[] #[], .nilFunc, .nilFunc, .func (.func 93) #[] #[], .nilFunc, .nilFunc]
def P13 : Value := .agg #[.func (.func 81) #[] #[], .nilFunc, .nilFunc, .func (.func 85) #[] #[], .nilFunc, .nilFunc, .func (.func 89) #[] #[], .nilFunc, .nilFunc, .func (.func 96) #[] #[], .func (.func 91) #[] #[], .func (.func 92) #[] #[]]
def P14 : Value := .agg #[.func (.func 78) #[] #[], .func (.func 79) #[] #[], .func (.func 80) #[] #[], .func (.func 85) #[] #[], .nilFunc, .nilFunc, .func (.func 89) #[] #[], .nilFunc, .nilFunc, .func (.func 93) #[] #[], .nilFunc, .nilFunc]
def L1 : List Value := [.string ⟨#[115, 101, 116]⟩, .func (.func 78) #[] #[], .func (.func 79) #[] #[], .func (.func 80) #[] #[], .func (.func 85) #[] #[], .nilFunc, .nilFunc, .func (.func 89) #[] #[], .nilFunc, .nilFunc, .func (.func 90) #[] #[], .func (.func 91) #[] #[], .func (.func 92) #[] #[], (.slice none 0 0)]
def F1 : Value := .agg (L1).toArray
def L2 (y : Nat) : List Value := [.string ⟨#[109, 111, 118, 101]⟩, .func (.func 78) #[] #[], .func (.func 79) #[] #[], .func (.func 80) #[] #[], .func (.func 82) #[] #[], .func (.func 83) #[] #[], .func (.func 84) #[] #[], .func (.func 89) #[] #[], .nilFunc, .nilFunc, .func (.func 93) #[] #[], .nilFunc, .nilFunc, (.slice (some ⟨y, 0, none⟩) 1 1)]
def F2 (y : Nat) : Value := .agg (L2 y).toArray
def L3 (z : Nat) : List Value := [.string ⟨#[97, 100, 100]⟩, .func (.func 78) #[] #[], .func (.func 79) #[] #[], .func (.func 80) #[] #[], .func (.func 82) #[] #[], .func (.func 83) #[] #[], .func (.func 84) #[] #[], .func (.func 89) #[] #[], .nilFunc, .nilFunc, .func (.func 93) #[] #[], .nilFunc, .nilFunc, (.slice (some ⟨z, 0, none⟩) 2 2)]
def F3 (z : Nat) : Value := .agg (L3 z).toArray
def L4 : List Value := [.string ⟨#[115, 101, 108, 102]⟩, .func (.func 78) #[] #[], .func (.func 79) #[] #[], .func (.func 80) #[] #[], .func (.func 85) #[] #[], .nilFunc, .nilFunc, .func (.func 89) #[] #[], .nilFunc, .nilFunc, .func (.func 93) #[] #[], .nilFunc, .nilFunc, (.slice none 0 0)]
def F4 : Value := .agg (L4).toArray
def L5 : List Value := [.string ⟨#[98, 101, 103, 105, 110]⟩, .func (.func 78) #[] #[], .func (.func 79) #[] #[], .func (.func 80) #[] #[], .func (.func 85) #[] #[], .nilFunc, .nilFunc, .func (.func 86) #[] #[], .func (.func 87) #[] #[], .func (.func 88) #[] #[], .func (.func 93) #[] #[], .nilFunc, .nilFunc, (.slice none 0 0)]
def F5 : Value := .agg (L5).toArray
def L6 (z : Nat) : List Value := [.string ⟨#[115, 101, 110, 100]⟩, .func (.func 78) #[] #[], .func (.func 79) #[] #[], .func (.func 80) #[] #[], .func (.func 82) #[] #[], .func (.func 83) #[] #[], .func (.func 84) #[] #[], .func (.func 89) #[] #[], .nilFunc, .nilFunc, .func (.func 93) #[] #[], .nilFunc, .nilFunc, (.slice (some ⟨z, 0, none⟩) 2 2)]
def F6 (z : Nat) : Value := .agg (L6 z).toArray
def L7 : List Value := [.string ⟨#[116, 97, 107, 101]⟩, .func (.func 78) #[] #[], .func (.func 79) #[] #[], .func (.func 80) #[] #[], .func (.func 94) #[] #[], .func (.func 83) #[] #[], .func (.func 84) #[] #[], .func (.func 89) #[] #[], .nilFunc, .nilFunc, .func (.func 93) #[] #[], .nilFunc, .nilFunc, (.slice none 0 0)]
def F7 : Value := .agg (L7).toArray
def L8 : List Value := [.string ⟨#[97, 102, 116, 101, 114]⟩, .func (.func 78) #[] #[], .func (.func 79) #[] #[], .func (.func 80) #[] #[], .func (.func 94) #[] #[], .func (.func 83) #[] #[], .func (.func 84) #[] #[], .func (.func 86) #[] #[], .func (.func 87) #[] #[], .func (.func 88) #[] #[], .func (.func 95) #[] #[], .func (.func 91) #[] #[], .func (.func 92) #[] #[], (.slice none 0 0)]
def F8 : Value := .agg (L8).toArray
def L9 : List Value := [.string ⟨#[103, 111]⟩, .func (.func 81) #[] #[], .nilFunc, .nilFunc, .func (.func 85) #[] #[], .nilFunc, .nilFunc, .func (.func 86) #[] #[], .func (.func 87) #[] #[], .func (.func 88) #[] #[], .func (.func 93) #[] #[], .nilFunc, .nilFunc, (.slice none 0 0)]
def F9 : Value := .agg (L9).toArray
def L10 (x : Nat) : List Value := [.string ⟨#[105, 102]⟩, .func (.func 78) #[] #[], .func (.func 79) #[] #[], .func (.func 80) #[] #[], .func (.func 85) #[] #[], .nilFunc, .nilFunc, .func (.func 86) #[] #[], .func (.func 87) #[] #[], .func (.func 88) #[] #[], .func (.func 90) #[] #[], .func (.func 91) #[] #[], .func (.func 92) #[] #[], (.slice (some ⟨x, 0, none⟩) 1 1)]
def F10 (x : Nat) : Value := .agg (L10 x).toArray
def L11 (x : Nat) : List Value := [.string ⟨#[108, 105, 110, 107]⟩, .func (.func 78) #[] #[], .func (.func 79) #[] #[], .func (.func 80) #[] #[], .func (.func 85) #[] #[], .nilFunc, .nilFunc, .func (.func 89) #[] #[], .nilFunc, .nilFunc, .func (.func 93) #[] #[], .nilFunc, .nilFunc, (.slice (some ⟨x, 0, none⟩) 1 1)]
def F11 (x : Nat) : Value := .agg (L11 x).toArray
def L12 (x : Nat) : List Value := [.string ⟨#[119, 97, 116, 99, 104]⟩, .func (.func 78) #[] #[], .func (.func 79) #[] #[], .func (.func 80) #[] #[], .func (.func 85) #[] #[], .nilFunc, .nilFunc, .func (.func 89) #[] #[], .nilFunc, .nilFunc, .func (.func 93) #[] #[], .nilFunc, .nilFunc, (.slice (some ⟨x, 0, none⟩) 1 1)]
def F12 (x : Nat) : Value := .agg (L12 x).toArray
def L13 : List Value := [.string ⟨#[116, 114, 97, 112]⟩, .func (.func 81) #[] #[], .nilFunc, .nilFunc, .func (.func 85) #[] #[], .nilFunc, .nilFunc, .func (.func 89) #[] #[], .nilFunc, .nilFunc, .func (.func 96) #[] #[], .func (.func 91) #[] #[], .func (.func 92) #[] #[], (.slice none 0 0)]
def F13 : Value := .agg (L13).toArray
def L14 (x : Nat) : List Value := [.string ⟨#[101, 110, 100]⟩, .func (.func 78) #[] #[], .func (.func 79) #[] #[], .func (.func 80) #[] #[], .func (.func 85) #[] #[], .nilFunc, .nilFunc, .func (.func 89) #[] #[], .nilFunc, .nilFunc, .func (.func 93) #[] #[], .nilFunc, .nilFunc, (.slice (some ⟨x, 0, none⟩) 1 1)]
def F14 (x : Nat) : Value := .agg (L14 x).toArray
def L0 : List Value := [.string ⟨#[]⟩, .nilFunc, .nilFunc, .nilFunc, .nilFunc, .nilFunc, .nilFunc, .nilFunc, .nilFunc, .nilFunc, .nilFunc, .nilFunc, .nilFunc, .slice none 0 0]
/-- the whole table -/
def tabA (x y z : Nat) : Array Value := (L0 ++ L1 ++ L2 y ++ L3 z ++ L4 ++ L5 ++ L6 z ++ L7 ++ L8 ++ L9 ++ L10 x ++ L11 x ++ L12 x ++ L13 ++ L14 x).toArray
def tabV (x y z : Nat) : Value := .agg (tabA x y z)
def memT : Nat → Option (Array Value)
  | 4 => some Ar
  | 5 => some AnR
  | 6 => some As
  | 7 => some AnS
  | 8 => some At
  | 9 => some AnT
  | 10 => some Av
  | 11 => some AnV
  | 12 => some Afits
  | 13 => some Atime
  | 14 => some AonOff
  | _ => none
def progT : List TI :=
  [.load 33 4,
   .load 34 7,
   .load 35 9,
   .load 36 10,
   .build 37 57 #[(0, .tmp 33), (1, .tmp 34), (2, .tmp 35), (3, .tmp 36)],
   .build 38 60 #[(0, .const (.string ⟨#[115, 101, 116]⟩)), (1, .tmp 37), (2, .const (.slice none 0 0))],
   .load 39 4,
   .load 40 6,
   .load 41 9,
   .load 42 11,
   .build 43 57 #[(0, .tmp 39), (1, .tmp 40), (2, .tmp 41), (3, .tmp 42)],
   .move 44 (.tmp 16),
   .build 45 60 #[(0, .const (.string ⟨#[109, 111, 118, 101]⟩)), (1, .tmp 43), (2, .tmp 44)],
   .load 46 4,
   .load 47 6,
   .load 48 9,
   .load 49 11,
   .build 50 57 #[(0, .tmp 46), (1, .tmp 47), (2, .tmp 48), (3, .tmp 49)],
   .move 51 (.tmp 17),
   .build 52 60 #[(0, .const (.string ⟨#[97, 100, 100]⟩)), (1, .tmp 50), (2, .tmp 51)],
   .load 53 4,
   .load 54 7,
   .load 55 9,
   .load 56 11,
   .build 57 57 #[(0, .tmp 53), (1, .tmp 54), (2, .tmp 55), (3, .tmp 56)],
   .build 58 60 #[(0, .const (.string ⟨#[115, 101, 108, 102]⟩)), (1, .tmp 57), (2, .const (.slice none 0 0))],
   .load 59 4,
   .load 60 7,
   .load 61 8,
   .load 62 11,
   .build 63 57 #[(0, .tmp 59), (1, .tmp 60), (2, .tmp 61), (3, .tmp 62)],
   .build 64 60 #[(0, .const (.string ⟨#[98, 101, 103, 105, 110]⟩)), (1, .tmp 63), (2, .const (.slice none 0 0))],
   .load 65 4,
   .load 66 6,
   .load 67 9,
   .load 68 11,
   .build 69 57 #[(0, .tmp 65), (1, .tmp 66), (2, .tmp 67), (3, .tmp 68)],
   .move 70 (.tmp 17),
   .build 71 60 #[(0, .const (.string ⟨#[115, 101, 110, 100]⟩)), (1, .tmp 69), (2, .tmp 70)],
   .load 72 4,
   .load 73 12,
   .load 74 9,
   .load 75 11,
   .build 76 57 #[(0, .tmp 72), (1, .tmp 73), (2, .tmp 74), (3, .tmp 75)],
   .build 77 60 #[(0, .const (.string ⟨#[116, 97, 107, 101]⟩)), (1, .tmp 76), (2, .const (.slice none 0 0))],
   .load 78 4,
   .load 79 12,
   .load 80 8,
   .load 81 13,
   .build 82 57 #[(0, .tmp 78), (1, .tmp 79), (2, .tmp 80), (3, .tmp 81)],
   .build 83 60 #[(0, .const (.string ⟨#[97, 102, 116, 101, 114]⟩)), (1, .tmp 82), (2, .const (.slice none 0 0))],
   .load 84 5,
   .load 85 7,
   .load 86 8,
   .load 87 11,
   .build 88 57 #[(0, .tmp 84), (1, .tmp 85), (2, .tmp 86), (3, .tmp 87)],
   .build 89 60 #[(0, .const (.string ⟨#[103, 111]⟩)), (1, .tmp 88), (2, .const (.slice none 0 0))],
   .load 90 4,
   .load 91 7,
   .load 92 8,
   .load 93 10,
   .build 94 57 #[(0, .tmp 90), (1, .tmp 91), (2, .tmp 92), (3, .tmp 93)],
   .move 95 (.tmp 15),
   .build 96 60 #[(0, .const (.string ⟨#[105, 102]⟩)), (1, .tmp 94), (2, .tmp 95)],
   .load 97 4,
   .load 98 7,
   .load 99 9,
   .load 100 11,
   .build 101 57 #[(0, .tmp 97), (1, .tmp 98), (2, .tmp 99), (3, .tmp 100)],
   .move 102 (.tmp 15),
   .build 103 60 #[(0, .const (.string ⟨#[108, 105, 110, 107]⟩)), (1, .tmp 101), (2, .tmp 102)],
   .load 104 4,
   .load 105 7,
   .load 106 9,
   .load 107 11,
   .build 108 57 #[(0, .tmp 104), (1, .tmp 105), (2, .tmp 106), (3, .tmp 107)],
   .move 109 (.tmp 15),
   .build 110 60 #[(0, .const (.string ⟨#[119, 97, 116, 99, 104]⟩)), (1, .tmp 108), (2, .tmp 109)],
   .load 111 5,
   .load 112 7,
   .load 113 9,
   .load 114 14,
   .build 115 57 #[(0, .tmp 111), (1, .tmp 112), (2, .tmp 113), (3, .tmp 114)],
   .build 116 60 #[(0, .const (.string ⟨#[116, 114, 97, 112]⟩)), (1, .tmp 115), (2, .const (.slice none 0 0))],
   .load 117 4,
   .load 118 7,
   .load 119 9,
   .load 120 11,
   .build 121 57 #[(0, .tmp 117), (1, .tmp 118), (2, .tmp 119), (3, .tmp 120)],
   .move 122 (.tmp 15),
   .build 123 60 #[(0, .const (.string ⟨#[101, 110, 100]⟩)), (1, .tmp 121), (2, .tmp 122)],
   .build 124 94 #[(1, .tmp 38), (2, .tmp 45), (3, .tmp 52), (4, .tmp 58), (5, .tmp 64), (6, .tmp 71), (7, .tmp 77), (8, .tmp 83), (9, .tmp 89), (10, .tmp 96), (11, .tmp 103), (12, .tmp 110), (13, .tmp 116), (14, .tmp 123)]]
/-- the slots behind the table's making -/
def actT (k : Int) (b a1 a2 a3 a4 a5 a6 a7 a8 a9 a10 a11 x y z : Nat) : Act :=
  { tmps := #[.int .i64 k, undef, .pointer (some ⟨b, 0, none⟩), .bool false, .pointer (some ⟨a1, 0, none⟩), .pointer (some ⟨a2, 0, none⟩), .pointer (some ⟨a3, 0, none⟩), .pointer (some ⟨a4, 0, none⟩), .pointer (some ⟨a5, 0, none⟩), .pointer (some ⟨a6, 0, none⟩), .pointer (some ⟨a7, 0, none⟩), .pointer (some ⟨a8, 0, none⟩), .pointer (some ⟨a9, 0, none⟩), .pointer (some ⟨a10, 0, none⟩), .pointer (some ⟨a11, 0, none⟩), .slice (some ⟨x, 0, none⟩) 1 1, .slice (some ⟨y, 0, none⟩) 1 1, .slice (some ⟨z, 0, none⟩) 2 2, undef, Sr, SnR, Ss, SnS, St, SnT, Sv, SnV, Sfits, Stime, SonOff, .slice (some ⟨x, 0, none⟩) 1 1, .slice (some ⟨y, 0, none⟩) 1 1, .slice (some ⟨z, 0, none⟩) 2 2, Sr, SnS, SnT, Sv, P1, F1, Sr, Ss, SnT, SnV, P2, (.slice (some ⟨y, 0, none⟩) 1 1), F2 y, Sr, Ss, SnT, SnV, P3, (.slice (some ⟨z, 0, none⟩) 2 2), F3 z, Sr, SnS, SnT, SnV, P4, F4, Sr, SnS, St, SnV, P5, F5, Sr, Ss, SnT, SnV, P6, (.slice (some ⟨z, 0, none⟩) 2 2), F6 z, Sr, Sfits, SnT, SnV, P7, F7, Sr, Sfits, St, Stime, P8, F8, SnR, SnS, St, SnV, P9, F9, Sr, SnS, St, Sv, P10, (.slice (some ⟨x, 0, none⟩) 1 1), F10 x, Sr, SnS, SnT, SnV, P11, (.slice (some ⟨x, 0, none⟩) 1 1), F11 x, Sr, SnS, SnT, SnV, P12, (.slice (some ⟨x, 0, none⟩) 1 1), F12 x, SnR, SnS, SnT, SonOff, P13, F13, Sr, SnS, SnT, SnV, P14, (.slice (some ⟨x, 0, none⟩) 1 1), F14 x, tabV x y z, undef, undef, undef, undef, undef, undef, undef, undef, undef, undef], defers := [] }
set_option maxRecDepth 100000 in
theorem tabs_T (k : Int) (b a1 a2 a3 a4 a5 a6 a7 a8 a9 a10 a11 x y z : Nat) : Tabs memT progT { tmps := #[.int .i64 k, undef, .pointer (some ⟨b, 0, none⟩), .bool false, .pointer (some ⟨a1, 0, none⟩), .pointer (some ⟨a2, 0, none⟩), .pointer (some ⟨a3, 0, none⟩), .pointer (some ⟨a4, 0, none⟩), .pointer (some ⟨a5, 0, none⟩), .pointer (some ⟨a6, 0, none⟩), .pointer (some ⟨a7, 0, none⟩), .pointer (some ⟨a8, 0, none⟩), .pointer (some ⟨a9, 0, none⟩), .pointer (some ⟨a10, 0, none⟩), .pointer (some ⟨a11, 0, none⟩), .slice (some ⟨x, 0, none⟩) 1 1, .slice (some ⟨y, 0, none⟩) 1 1, .slice (some ⟨z, 0, none⟩) 2 2, undef, .agg #[.func (.func 78) #[] #[], .func (.func 79) #[] #[], .func (.func 80) #[] #[]], .agg #[.func (.func 81) #[] #[], .nilFunc, .nilFunc], .agg #[.func (.func 82) #[] #[], .func (.func 83) #[] #[], .func (.func 84) #[] #[]], .agg #[.func (.func 85) #[] #[], .nilFunc, .nilFunc], .agg #[.func (.func 86) #[] #[], .func (.func 87) #[] #[], .func (.func 88) #[] #[]], .agg #[.func (.func 89) #[] #[], .nilFunc, .nilFunc], .agg #[.func (.func 90) #[] #[], .func (.func 91) #[] #[], .func (.func 92) #[] #[]], .agg #[.func (.func 93) #[] #[], .nilFunc, .nilFunc], .agg #[.func (.func 94) #[] #[], .func (.func 83) #[] #[], .func (.func 84) #[] #[]], .agg #[.func (.func 95) #[] #[], .func (.func 91) #[] #[], .func (.func 92) #[] #[]], .agg #[.func (.func 96) #[] #[], .func (.func 91) #[] #[], .func (.func 92) #[] #[]], .slice (some ⟨x, 0, none⟩) 1 1, .slice (some ⟨y, 0, none⟩) 1 1, .slice (some ⟨z, 0, none⟩) 2 2, undef, undef, undef, undef, undef, undef, undef, undef, undef, undef, undef, undef, undef, undef, undef, undef, undef, undef, undef, undef, undef, undef, undef, undef, undef, undef, undef, undef, undef, undef, undef, undef, undef, undef, undef, undef, undef, undef, undef, undef, undef, undef, undef, undef, undef, undef, undef, undef, undef, undef, undef, undef, undef, undef, undef, undef, undef, undef, undef, undef, undef, undef, undef, undef, undef, undef, undef, undef, undef, undef, undef, undef, undef, undef, undef, undef, undef, undef, undef, undef, undef, undef, undef, undef, undef, undef, undef, undef, undef, undef, undef, undef, undef, undef, undef, undef, undef, undef, undef, undef, undef, undef], defers := [] } (actT k b a1 a2 a3 a4 a5 a6 a7 a8 a9 a10 a11 x y z) := by unfold Tabs; kernel_rfl
end Go.Proofs.YtjhpaoadpcnlnaaGreatDoor
