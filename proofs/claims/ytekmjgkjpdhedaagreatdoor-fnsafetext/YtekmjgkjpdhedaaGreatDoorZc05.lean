/-
  The places that are come to, apart from any program: the least list that holds the first one and, with each, all to which one comes from it; they are those where something is full. No condition.
  Ways in memory, over this translation; the places to which they come, each once. No condition.
  A queue of ways in memory, over this translation: one's own, cut at its head, appended to at its end. No condition but its size.
  impl.CodeFull over this translation: what is full ahead of each step, in a row of its own; nothing that was there turns.
  What impl.OpUses answers over this translation: the slots that an ok step reads, in a row of its own; nothing that was there turns.
  impl.CodeSafe over this translation: whether steps are safe; nothing that was there turns.
-/
import Derived.Test.YtekmjgkjpdhedaaGreatDoorFull
import Derived.Test.YtekmjgkjpdhedaaGreatDoorZc03
import Derived.Deep.Upon
import Derived.Test.YtekmjgkjpdhedaaGreatDoorCodeOkI
import Derived.Deep.LoopGhost
import Derived.Test.YtekmjgkjpdhedaaGreatDoorOpImplOk
import Derived.OwnWalk
namespace Go.Proofs.YtekmjgkjpdhedaaGreatDoor
/-- the places to which one comes from a place -/
def nextL (o : OpV) (i n : Nat) : List Nat :=
  let out := if (!(o.k == 9 || o.k == 14) && decide (i + 1 < n)) = true then [i + 1] else []
  if (goesB o.k && !(out.contains o.t.toNat)) = true then out ++ [o.t.toNat] else out
theorem next_ways (o : OpV) (i n : Nat) (x : Int) (j : Nat) : j ∈ nextL o i n ↔ ∃ p ∈ waysL o i n x, p.1 = j := by
  have hg : goesB o.k = true ↔ ∃ p ∈ toW o x, True := by
    unfold goesB toW
    constructor
    · intro h
      simp only [Bool.or_eq_true, beq_iff_eq] at h
      rcases h with ((h | h) | h) | h <;> simp [h]
    · rintro ⟨p, hp, _⟩
      split at hp
      · rename_i h; rcases h with h | h | h <;> simp [h]
      · split at hp
        · rename_i h; simp [h]
        · cases hp
  have ht : ∀ p ∈ toW o x, p.1 = o.t.toNat := by
    intro p hp
    unfold toW at hp
    split at hp
    · rw [List.mem_singleton.1 hp]
    · split at hp
      · rw [List.mem_singleton.1 hp]
      · cases hp
  have hn : ∀ j, j ∈ (if (!(o.k == 9 || o.k == 14) && decide (i + 1 < n)) = true then [i + 1] else []) ↔ ∃ p ∈ nextW o i n x, p.1 = j := by
    intro j
    unfold nextW
    split
    · simp [eq_comm]
    · simp
  have hm : j ∈ nextL o i n ↔ j ∈ (if (!(o.k == 9 || o.k == 14) && decide (i + 1 < n)) = true then [i + 1] else []) ∨ (goesB o.k = true ∧ j = o.t.toNat) := by
    unfold nextL
    generalize (if (!(o.k == 9 || o.k == 14) && decide (i + 1 < n)) = true then [i + 1] else []) = out
    simp only
    by_cases hg : goesB o.k = true
    · by_cases hc : o.t.toNat ∈ out
      · simp only [hg, hc, Bool.true_and, List.contains_eq_mem, decide_true, Bool.not_true, Bool.false_eq_true, if_false, true_and]
        constructor
        · exact .inl
        · rintro (h | h)
          · exact h
          · subst h; exact hc
      · simp [hg, hc]
    · simp [hg]
  rw [hm, hn]
  unfold waysL
  constructor
  · rintro (⟨p, hp, e⟩ | ⟨h, e⟩)
    · exact ⟨p, List.mem_append.2 (.inl hp), e⟩
    · obtain ⟨p, hp, _⟩ := hg.1 h
      exact ⟨p, List.mem_append.2 (.inr hp), (ht p hp).trans e.symm⟩
  · rintro ⟨p, hp, e⟩
    rcases List.mem_append.1 hp with hp | hp
    · exact .inl ⟨p, hp, e⟩
    · exact .inr ⟨hg.2 ⟨p, hp, trivial⟩, e.symm.trans (ht p hp)⟩
theorem next_lt {C : List OpV} (hC : Well C) {i : Nat} (hi : i < C.length) : ∀ j ∈ nextL C[i] i C.length, j < C.length := by
  intro j hj
  obtain ⟨p, hp, rfl⟩ := (next_ways _ _ _ 0 j).1 hj
  exact (ways_bd hC hi ⟨by decide, by decide⟩ (by decide) p hp).1
theorem next_len (o : OpV) (i n : Nat) : (nextL o i n).length ≤ 2 := by
  unfold nextL; simp only; split <;> split <;> simp
theorem next_nodup (o : OpV) (i n : Nat) : (nextL o i n).Nodup := by
  have h0 : (if (!(o.k == 9 || o.k == 14) && decide (i + 1 < n)) = true then [i + 1] else []).Nodup := by split <;> simp
  unfold nextL
  generalize (if (!(o.k == 9 || o.k == 14) && decide (i + 1 < n)) = true then [i + 1] else []) = out at *
  simp only
  split
  · rename_i h
    simp only [Bool.and_eq_true, Bool.not_eq_true', List.contains_eq_mem, decide_eq_false_iff_not] at h
    rw [List.nodup_append]
    refine ⟨h0, by simp, ?_⟩
    intro a ha b hb e
    rw [List.mem_singleton.1 hb] at e
    subst e; exact h.2 ha
  · exact h0
/-- it has the first place, and with each all to which one comes from it -/
def Shut (C : List OpV) (S : Nat → Prop) : Prop := S 0 ∧ ∀ i (hi : i < C.length), S i → ∀ j ∈ nextL C[i] i C.length, S j
def IsReach (C : List OpV) (S : Nat → Prop) : Prop := Shut C S ∧ ∀ T, Shut C T → ∀ i, i < C.length → S i → T i
theorem full_reach {C : List OpV} (hC : Well C) {v : List Int} (h : IsFull C v) {S : Nat → Prop} (hS : IsReach C S) (i : Nat) (hi : i < C.length) : 0 ≤ atV v i ↔ S i := by
  constructor
  · intro h0
    apply Classical.byContradiction
    intro hn
    have hd : ∀ j, ∃ x : Int, (S j → x = 0) ∧ (¬ S j → x = -1) := fun j => by
      rcases Classical.em (S j) with h | h
      · exact ⟨0, fun _ => rfl, fun h' => absurd h h'⟩
      · exact ⟨-1, fun h' => absurd h' h, fun _ => rfl⟩
    obtain ⟨f, hf⟩ : ∃ f : Nat → Int, ∀ j, (S j → f j = 0) ∧ (¬ S j → f j = -1) := ⟨fun j => Classical.choose (hd j), fun j => Classical.choose_spec (hd j)⟩
    have ha : ∀ j, j < C.length → atV ((List.range C.length).map f) j = f j := by
      intro j hj
      unfold atV
      rw [List.getD_eq_getElem?_getD, List.getElem?_map, List.getElem?_range hj]; rfl
    have hb : ∀ j, Bd (f j) := fun j => by
      rcases Classical.em (S j) with h | h
      · rw [(hf j).1 h]; exact ⟨by decide, by decide⟩
      · rw [(hf j).2 h]; exact ⟨by decide, by decide⟩
    have hv : Vec C ((List.range C.length).map f) := by
      refine ⟨by simp, fun j => ?_⟩
      by_cases hj : j < C.length
      · rw [ha j hj]; exact hb j
      · unfold atV
        rw [List.getD_eq_getElem?_getD, List.getElem?_eq_none (by simp; omega)]; exact ⟨by decide, by decide⟩
    have hsol : Sol C ((List.range C.length).map f) := by
      refine ⟨hv, ?_, fun j hj h0 p hp => ?_⟩
      · rw [ha 0 hC.1, (hf 0).1 hS.1.1]; exact le_zero ⟨by decide, by decide⟩
      · rw [ha j hj] at h0 hp
        have hSj : S j := by
          apply Classical.byContradiction
          intro hn; rw [(hf j).2 hn] at h0; exact absurd h0 (by decide)
        obtain ⟨b1, b2⟩ := ways_bd hC hj (hb j) h0 p hp
        have := hS.1.2 j hj hSj p.1 ((next_ways _ _ _ _ _).2 ⟨p, hp, rfl⟩)
        rw [ha _ b1, (hf _).1 this]
        exact le_zero ⟨by omega, b2.2⟩
    have := h.2 _ hsol i
    rw [ha i hi, (hf i).2 hn] at this
    have h2 := le_nn (x := -1) ⟨by decide, by decide⟩ (h.1.1.2 i) h0 this
    exact absurd h2 (by decide)
  · intro hs
    refine hS.2 (fun j => 0 ≤ atV v j) ⟨?_, fun j hj h0 m hm => ?_⟩ i hi hs
    · exact le_nn (h.1.1.2 0) ⟨by decide, by decide⟩ (by decide) h.1.2.1
    · obtain ⟨p, hp, rfl⟩ := (next_ways _ _ _ (atV v j) m).1 hm
      have b := (ways_bd hC hj (h.1.1.2 j) h0 p hp).2
      exact le_nn (h.1.1.2 _) ⟨by omega, b.2⟩ b.1 (h.1.2.2 j hj h0 p hp)
/-! ### the list that grows -/
/-- with a place more, unless it is there -/
def addL (L : List Nat) (j : Nat) : List Nat := if L.contains j = true then L else L ++ [j]
def addAll (L : List Nat) (M : List Nat) : List Nat := M.foldl addL L
/-- the places up to i have been gone on from -/
def Gone (C : List OpV) (L : List Nat) (i : Nat) : Prop :=
  L.Nodup ∧ 0 ∈ L ∧ (∀ x ∈ L, x < C.length) ∧ (∀ T, Shut C T → ∀ x ∈ L, T x) ∧ ∀ j (hj : j < L.length), j < i → ∀ (h : L[j] < C.length), ∀ m ∈ nextL C[L[j]] L[j] C.length, m ∈ L
theorem add_pre (L : List Nat) (j : Nat) : ∃ M, addL L j = L ++ M := by
  unfold addL; split
  · exact ⟨[], by simp⟩
  · exact ⟨[j], rfl⟩
theorem addAll_pre : ∀ (M L : List Nat), ∃ K, addAll L M = L ++ K
  | [], L => ⟨[], by simp [addAll]⟩
  | m :: M, L => by
    obtain ⟨K1, h1⟩ := add_pre L m
    obtain ⟨K2, h2⟩ := addAll_pre M (addL L m)
    exact ⟨K1 ++ K2, by unfold addAll at *; rw [List.foldl_cons, h2, h1]; simp⟩
theorem mem_add (L : List Nat) (j x : Nat) : x ∈ addL L j ↔ x ∈ L ∨ x = j := by
  unfold addL; split
  · rename_i h
    constructor
    · exact .inl
    · rintro (h' | rfl)
      · exact h'
      · simpa using h
  · simp
theorem mem_addAll : ∀ (M L : List Nat) (x : Nat), x ∈ addAll L M ↔ x ∈ L ∨ x ∈ M
  | [], L, x => by simp [addAll]
  | m :: M, L, x => by
    have := mem_addAll M (addL L m) x
    unfold addAll at *
    rw [List.foldl_cons, this, mem_add]
    simp [or_assoc]
theorem nodup_add {L : List Nat} (h : L.Nodup) (j : Nat) : (addL L j).Nodup := by
  unfold addL; split
  · exact h
  · rename_i hc
    rw [List.nodup_append]
    refine ⟨h, by simp, ?_⟩
    intro a ha b hb e
    rw [List.mem_singleton.1 hb] at e
    subst e; exact hc (by simpa using ha)
theorem nodup_addAll : ∀ (M : List Nat) {L : List Nat}, L.Nodup → (addAll L M).Nodup
  | [], L, h => by simpa [addAll] using h
  | m :: M, L, h => by
    have := nodup_addAll M (nodup_add h m)
    unfold addAll at *
    rwa [List.foldl_cons]
theorem gone_start {C : List OpV} (hC : Well C) : Gone C [0] 0 :=
  ⟨by simp, by simp, fun x hx => by rw [List.mem_singleton.1 hx]; exact hC.1, fun T hT x hx => by rw [List.mem_singleton.1 hx]; exact hT.1, fun j _ h => by omega⟩
theorem gone_step {C : List OpV} (hC : Well C) {L : List Nat} {i : Nat} (h : Gone C L i) (hi : i < L.length) (hl : L[i] < C.length) : Gone C (addAll L (nextL C[L[i]] L[i] C.length)) (i + 1) := by
  obtain ⟨h1, h2, h3, h4, h5⟩ := h
  obtain ⟨K, hK⟩ := addAll_pre (nextL C[L[i]] L[i] C.length) L
  refine ⟨nodup_addAll _ h1, (mem_addAll _ _ _).2 (.inl h2), fun x hx => ?_, fun T hT x hx => ?_, fun j hj hji hl' m hm => ?_⟩
  · rcases (mem_addAll _ _ _).1 hx with h | h
    · exact h3 x h
    · exact next_lt hC hl x h
  · rcases (mem_addAll _ _ _).1 hx with h | h
    · exact h4 T hT x h
    · exact hT.2 _ hl (h4 T hT _ (List.getElem_mem hi)) x h
  · have e : (addAll L (nextL C[L[i]] L[i] C.length))[j] = L[j]'(by omega) := by
      simp only [hK]
      exact List.getElem_append_left (by omega)
    simp only [e] at hm
    rw [mem_addAll]
    by_cases hji' : j < i
    · exact .inl (h5 j (by omega) hji' (by rw [← e]; exact hl') m hm)
    · have : j = i := by omega
      subst this
      exact .inr hm
theorem nodup_le : ∀ (n : Nat) (L : List Nat), L.Nodup → (∀ x ∈ L, x < n) → L.length ≤ n
  | 0, L, _, h => by
    cases L with
    | nil => simp
    | cons a l => exact absurd (h a (by simp)) (by omega)
  | n + 1, L, hn, h => by
    have h1 := nodup_le n (L.erase n) (hn.erase n) (fun x hx => by
      have hx' := List.mem_of_mem_erase hx
      have h2 := h x hx'
      have h3 : x ≠ n := by rintro rfl; exact (List.Nodup.not_mem_erase hn) hx
      omega)
    have h2 := List.length_erase (l := L) (a := n)
    split at h2 <;> omega
theorem gone_len {C : List OpV} {L : List Nat} {i : Nat} (h : Gone C L i) : L.length ≤ C.length := nodup_le _ _ h.1 h.2.2.1
theorem gone_done {C : List OpV} {L : List Nat} {i : Nat} (h : Gone C L i) (hi : L.length ≤ i) : IsReach C (fun x => x ∈ L) := by
  obtain ⟨h1, h2, h3, h4, h5⟩ := h
  refine ⟨⟨h2, fun j hj hm x hx => ?_⟩, fun T hT x _ hx => h4 T hT x hx⟩
  obtain ⟨q, hq, e⟩ := List.getElem_of_mem hm
  subst e
  exact h5 q hq (by omega) hj x hx
end Go.Proofs.YtekmjgkjpdhedaaGreatDoor
namespace Go.Proofs.YtekmjgkjpdhedaaGreatDoor
open Go.ChangeShapes Go.WideShapes Go.ChangeAt Go.RowKit Go.Joins
def WaysAt (S : Nat) (w : World) (v : Value) (L : List (Nat × Int)) : Prop :=
  ∃ ao cap, v = .slice ao L.length cap ∧ L.length ≤ cap ∧ (L = [] ∨ ∃ b o, ao = some ⟨b, o, none⟩ ∧ b < S ∧ ∀ i (h : i < L.length), w.cell? ⟨b, o + i * 2, none⟩ = some (.int .i64 (L[i].1 : Int)) ∧ w.cell? ⟨b, o + i * 2 + 1, none⟩ = some (.int .i64 L[i].2))
theorem WaysAt.below {S : Nat} {w w' : World} {v : Value} {L : List (Nat × Int)} (h : WaysAt S w v L) (hb : Below S w w') : WaysAt S w' v L := by
  obtain ⟨ao, cap, hv, hlc, h⟩ := h
  refine ⟨ao, cap, hv, hlc, h.imp id ?_⟩
  rintro ⟨b, o, ha, hl, hc⟩
  exact ⟨b, o, ha, hl, fun i hi => ⟨(hb.cell (p := ⟨b, o + i * 2, none⟩) hl).trans (hc i hi).1, (hb.cell (p := ⟨b, o + i * 2 + 1, none⟩) hl).trans (hc i hi).2⟩⟩
theorem wayCells_at : ∀ (L : List (Nat × Int)) (i : Nat) (h : i < L.length), (wayCells L)[i * 2]? = some (.int .i64 (L[i].1 : Int)) ∧ (wayCells L)[i * 2 + 1]? = some (.int .i64 L[i].2)
  | p :: L, 0, _ => ⟨rfl, rfl⟩
  | p :: L, i + 1, h => by
    have ih := wayCells_at L i (by simpa using h)
    have e1 : (i + 1) * 2 = i * 2 + 2 := by omega
    rw [e1]
    exact ih
theorem OwnsW.at {w : World} {B : Nat} {v : Value} {L : List (Nat × Int)} (h : w.ownsRow B 66 2 v L.length (wayCells L)) : WaysAt w.heap.size w v L := by
  rcases h.2 with ⟨rfl, hn⟩ | ⟨g, cap, cur, rfl, hg, hh, hlc, _⟩
  · have : L = [] := List.eq_nil_of_length_eq_zero hn
    subst this
    exact ⟨none, 0, rfl, Nat.le_refl _, .inl rfl⟩
  · refine ⟨_, cap, rfl, hlc, .inr ⟨g, 0, rfl, ?_, fun i hi => ?_⟩⟩
    · rcases Decidable.em (g < w.heap.size) with h | h
      · exact h
      · rw [Array.getElem?_eq_none (by omega)] at hh; cases hh
    · have c0 := World.ownsRow.cellAt (w := w) (base := B) (e := 66) (size := 2) (g := g) (cap := cap) h (i * 2) (by omega)
      have c1 := World.ownsRow.cellAt (w := w) (base := B) (e := 66) (size := 2) (g := g) (cap := cap) h (i * 2 + 1) (by omega)
      have k := wayCells_at L i hi
      exact ⟨by rw [Nat.zero_add, c0]; exact k.1, by rw [Nat.zero_add, c1]; exact k.2⟩
theorem waysAdd (o : OpV) (i n : Nat) (x : Int) : addAll [] ((waysL o i n x).map (·.1)) = nextL o i n := by
  have ht : (toW o x).map (·.1) = if goesB o.k = true then [o.t.toNat] else [] := by
    unfold toW goesB
    by_cases h8 : o.k = 8
    · simp [h8]
    by_cases h9 : o.k = 9
    · simp [h9]
    by_cases h10 : o.k = 10
    · simp [h10]
    by_cases h5 : o.k = 5
    · simp [h5]
    simp [h8, h9, h10, h5]
  have hn : (nextW o i n x).map (·.1) = if (!(o.k == 9 || o.k == 14) && decide (i + 1 < n)) = true then [i + 1] else [] := by
    unfold nextW; split <;> rfl
  unfold waysL nextL
  rw [List.map_append, ht, hn]
  generalize (!(o.k == 9 || o.k == 14) && decide (i + 1 < n)) = p
  generalize goesB o.k = q
  generalize o.t.toNat = m
  cases p <;> cases q <;> simp [addAll, addL]
/-- places as numbers -/
def toI (L : List Nat) : List Int := L.map fun i : Nat => (i : Int)
theorem toI_len (L : List Nat) : (toI L).length = L.length := by simp [toI]
theorem hasI_toI (L : List Nat) (n : Nat) : hasI (toI L) (n : Int) = L.contains n := by
  unfold hasI toI
  rw [Bool.eq_iff_iff, List.contains_iff_mem, List.contains_iff_mem, List.mem_map]
  constructor
  · rintro ⟨a, h, e⟩; have : a = n := by omega
    subst this; exact h
  · intro h; exact ⟨n, h, rfl⟩
theorem toI_app (L : List Nat) (n : Nat) : toI (L ++ [n]) = toI L ++ [(n : Int)] := by simp [toI]
theorem add_len (L : List Nat) (j : Nat) : (addL L j).length ≤ L.length + 1 := by unfold addL; split <;> simp
theorem take_step {α : Type} (L : List α) (k : Nat) (h : k < L.length) : L.take (k + 1) = L.take k ++ [L[k]] := by
  rw [List.take_add_one, List.getElem?_eq_getElem h]; rfl
theorem addAll_take (L : List Nat) (W : List (Nat × Int)) (k : Nat) (h : k < W.length) : addAll L ((W.take (k + 1)).map (·.1)) = addL (addAll L ((W.take k).map (·.1))) W[k].1 := by
  rw [take_step W k h, List.map_append]
  unfold addAll
  rw [List.foldl_append]; rfl
theorem addAll_len : ∀ (M L : List Nat), (addAll L M).length ≤ L.length + M.length
  | [], L => by simp [addAll]
  | m :: M, L => by
    have h1 := add_len L m
    have h2 := addAll_len M (addL L m)
    unfold addAll at *
    rw [List.foldl_cons]
    simp; omega
end Go.Proofs.YtekmjgkjpdhedaaGreatDoor
namespace Go.Proofs.YtekmjgkjpdhedaaGreatDoor
open Go.ChangeShapes Go.WideShapes Go.ChangeAt Go.RowKit Go.Joins
def QAt (w : World) (B : Nat) (v : Value) (Q : List (Nat × Int)) : Prop :=
  ∃ ao cap, v = .slice ao Q.length cap ∧ Q.length ≤ cap ∧ cap ≤ maxLen ∧ (cap = 0 ∨ ∃ g o, ao = some ⟨g, o, none⟩ ∧ B ≤ g ∧ g < w.heap.size ∧ (∀ j, j < Q.length * 2 → w.cell? ⟨g, o + j, none⟩ = (wayCells Q)[j]?) ∧ ∀ j, j < cap * 2 → (w.cell? ⟨g, o + j, none⟩).isSome = true ∧ w.frozen? ⟨g, o + j, none⟩ = false)
theorem wayCells_len : ∀ L : List (Nat × Int), (wayCells L).length = L.length * 2
  | [] => rfl
  | p :: L => by
    have := wayCells_len L
    have e : wayCells (p :: L) = [.int .i64 (p.1 : Int), .int .i64 p.2] ++ wayCells L := rfl
    rw [e, List.length_append, this, List.length_cons]
    simp; omega
theorem wayCells_app (L M : List (Nat × Int)) : wayCells (L ++ M) = wayCells L ++ wayCells M := by simp [wayCells]
theorem wayCells_one (L : List (Nat × Int)) : ∀ u ∈ wayCells L, u.oneCell' = true := by
  intro u hu
  obtain ⟨p, _, hp⟩ := List.mem_flatMap.1 hu
  simp at hp
  rcases hp with rfl | rfl <;> rfl
/-- a queue stays where its blocks stay -/
theorem QAt.keep {w w' : World} {B : Nat} {v : Value} {Q : List (Nat × Int)} (h : QAt w B v Q) (hs : w.heap.size ≤ w'.heap.size) (hk : ∀ k, B ≤ k → k < w.heap.size → w'.heap[k]? = w.heap[k]?) : QAt w' B v Q := by
  obtain ⟨ao, cap, hv, h1, h2, h3⟩ := h
  refine ⟨ao, cap, hv, h1, h2, h3.imp id ?_⟩
  rintro ⟨g, o, ha, hg, hl, hc, hf⟩
  refine ⟨g, o, ha, hg, by omega, fun j hj => ?_, fun j hj => ?_⟩
  · rw [World.cell?_of_block (w := w) (a := ⟨g, o + j, none⟩) (hk g hg hl)]; exact hc j hj
  · rw [World.cell?_of_block (w := w) (a := ⟨g, o + j, none⟩) (hk g hg hl), World.frozen?_of_block (w := w) (a := ⟨g, o + j, none⟩) (hk g hg hl)]; exact hf j hj
theorem QAt.below {w w' : World} {B : Nat} {v : Value} {Q : List (Nat × Int)} (h : QAt w B v Q) (hb : Below w.heap.size w w') : QAt w' B v Q := h.keep hb.size fun k _ hk => hb.block k hk
/-- the head goes -/
theorem QAt.tail {w : World} {B g o cap : Nat} {p : Nat × Int} {Q : List (Nat × Int)} {ao : Option Addr} (hlc : Q.length + 1 ≤ cap) (hm : cap ≤ maxLen) (hg : B ≤ g) (hl : g < w.heap.size)
    (hc : ∀ j, j < (Q.length + 1) * 2 → w.cell? ⟨g, o + j, none⟩ = (wayCells (p :: Q))[j]?) (hf : ∀ j, j < cap * 2 → (w.cell? ⟨g, o + j, none⟩).isSome = true ∧ w.frozen? ⟨g, o + j, none⟩ = false)
    (ha : cap - 1 = 0 ∨ ao = some ⟨g, o + 2, none⟩) : QAt w B (.slice ao Q.length (cap - 1)) Q := by
  refine ⟨ao, cap - 1, rfl, by omega, by omega, ha.imp id fun e => ⟨g, o + 2, e, hg, hl, fun j hj => ?_, fun j hj => ?_⟩⟩
  · have := hc (j + 2) (by omega)
    rw [show o + (j + 2) = o + 2 + j by omega] at this
    rw [this]; rfl
  · have := hf (j + 2) (by omega)
    rw [show o + (j + 2) = o + 2 + j by omega] at this
    exact this
theorem size_setCells (b : Nat) : ∀ (vs : List Value) (o : Nat) (w : World), (w.setCells b o vs).heap.size = w.heap.size
  | [], _, _ => rfl
  | v :: vs, o, w => by rw [World.setCells, size_setCells b vs (o + 1)]; simp [World.setCell]
theorem below_setCells {B g : Nat} (hg : B ≤ g) : ∀ (vs : List Value) (o : Nat) (w : World), Below B w (w.setCells g o vs)
  | [], _, _ => Below.refl _ _
  | v :: vs, o, w => ((Below.refl B w).setCell (p := ⟨g, o, none⟩) hg v).trans (below_setCells hg vs (o + 1) _)
/-- more at the end -/
theorem run_append_queue {w : World} {B S : Nat} {v xv : Value} {Q L : List (Nat × Int)} (ty : TypeId) (hq : QAt w B v Q) (hL : WaysAt S w xv L) (hb : B ≤ w.heap.size) (hn : Q.length + L.length ≤ 1048576) :
    ∃ v' w', (Builtin.append_ #[67, 67] ty #[v, xv]).run Tryz.prog w = .ok v' w' ∧ QAt w' B v' (Q ++ L) ∧ Below B w w' := by
  obtain ⟨inf, i1, i2, i3, i4⟩ := info_way
  obtain ⟨ao, cap, rfl, h1, h2, h3⟩ := hq
  obtain ⟨bo, xc, rfl, hxl, hx⟩ := hL
  have hsrc : L = [] ∨ Src Tryz.prog inf.size 67 (.slice bo L.length xc) L.length (wayCells L) w := by
    rcases hx with h | ⟨b, o, rfl, _, hc⟩
    · exact .inl h
    · refine .inr (Src.ofSlice w Tryz.underlying67 ⟨b, o, none⟩ L.length xc (wayCells L) (by rw [i3, wayCells_len]) (fun j u hj => ?_) (wayCells_one L))
      have hjl : j < L.length * 2 := by
        rcases Decidable.em (j < L.length * 2) with h | h
        · exact h
        · rw [List.getElem?_eq_none (by rw [wayCells_len]; omega)] at hj; cases hj
      have hi : j / 2 < L.length := by omega
      have k := wayCells_at L (j / 2) hi
      have c := hc (j / 2) hi
      have ea : (⟨b, o, none⟩ : Addr).add j = ⟨b, o + j, none⟩ := by unfold Addr.add; split <;> simp_all
      rw [ea]
      rcases Nat.mod_two_eq_zero_or_one j with e | e
      · have e2 : j / 2 * 2 = j := by omega
        rw [e2] at k c
        rw [c.1, ← hj, k.1]
      · have e2 : j / 2 * 2 + 1 = j := by omega
        have e3 : o + j / 2 * 2 + 1 = o + j := by omega
        rw [e2] at k
        rw [e3] at c
        rw [c.2, ← hj, k.2]
  have hsrc : Src Tryz.prog inf.size 67 (.slice bo L.length xc) L.length (wayCells L) w := by
    rcases hsrc with rfl | hs
    · cases bo with
      | none => exact Src.ofNil w Tryz.underlying67 xc
      | some a => exact Src.ofSlice w Tryz.underlying67 a 0 xc [] (by simp) (by simp) (by simp)
    · exact hs
  by_cases hroom : Q.length + L.length ≤ cap
  · rcases h3 with rfl | ⟨g, o, rfl, hg, hlt, hc, hf⟩
    · have hL0 : L = [] := List.eq_nil_of_length_eq_zero (by omega)
      subst hL0
      refine ⟨_, _, run_append_nothing w 67 67 ty 66 inf Tryz.underlying67 i1 ao Q.length 0 (by omega) _ hsrc, ?_, Below.refl _ _⟩
      rw [List.append_nil]
      exact ⟨ao, 0, rfl, h1, h2, .inl rfl⟩
    · have hr := run_append_room_src w 67 67 ty 66 inf Tryz.underlying67 i1 g o Q.length cap _ L.length (wayCells L) hsrc hroom
        (fun j hj => by rw [wayCells_len] at hj; have := (hf (Q.length * 2 + j) (by omega)).1; rw [i3, Nat.add_assoc]; exact this)
        (fun j hj => by rw [wayCells_len] at hj; have := (hf (Q.length * 2 + j) (by omega)).2; rw [i3, Nat.add_assoc]; exact this)
      rw [i3] at hr
      have hin := World.cell?_setCells_in g (wayCells L) (o + Q.length * 2) w (fun j hj => by rw [wayCells_len] at hj; have := (hf (Q.length * 2 + j) (by omega)).1; rw [Nat.add_assoc]; exact this)
      have hout := World.cell?_setCells_out g (wayCells L) (o + Q.length * 2) w
      have hbk : ∀ i, i < w.heap.size → i ≠ g → (w.setCells g (o + Q.length * 2) (wayCells L)).heap[i]? = w.heap[i]? := fun i hi hne => World.heap_setCells_other w g _ _ hi hne
      have hsz := size_setCells g (wayCells L) (o + Q.length * 2) w
      refine ⟨_, _, hr, ⟨_, cap, by rw [List.length_append], by rw [List.length_append]; exact hroom, h2, .inr ⟨g, o, rfl, hg, by rw [hsz]; exact hlt, fun j hj => ?_, fun j hj => ⟨?_, ?_⟩⟩⟩, below_setCells hg _ _ _⟩
      · rw [List.length_append] at hj
        rw [wayCells_app]
        by_cases hjq : j < Q.length * 2
        · rw [hout ⟨g, o + j, none⟩ (fun _ _ => .inl (by dsimp only; omega)), hc j hjq, List.getElem?_append_left (by rw [wayCells_len]; exact hjq)]
        · have hj2 : j - Q.length * 2 < (wayCells L).length := by rw [wayCells_len]; omega
          have := hin (j - Q.length * 2) hj2
          rw [show o + Q.length * 2 + (j - Q.length * 2) = o + j by omega] at this
          rw [this, List.getElem?_append_right (by rw [wayCells_len]; omega), wayCells_len, List.getElem?_eq_getElem hj2]
      · by_cases hjq : j < Q.length * 2 ∨ Q.length * 2 + L.length * 2 ≤ j
        · rw [hout ⟨g, o + j, none⟩ (fun _ _ => by rw [wayCells_len]; dsimp only; omega)]; exact (hf j hj).1
        · have hj2 : j - Q.length * 2 < (wayCells L).length := by rw [wayCells_len]; omega
          have := hin (j - Q.length * 2) hj2
          rw [show o + Q.length * 2 + (j - Q.length * 2) = o + j by omega] at this
          rw [this]; rfl
      · rw [World.frozen?_setCells]; exact (hf j hj).2
  · have hold : (Builtin.firstCells inf.size Q.length (.slice ao Q.length cap)).run Tryz.prog w.drew = .ok (wayCells Q).toArray w.drew := by
      rcases h3 with rfl | ⟨g, o, rfl, hg, hlt, hc, hf⟩
      · have hQ0 : Q = [] := List.eq_nil_of_length_eq_zero (by omega)
        subst hQ0
        cases ao with
        | none => exact run_firstCells_none _ _ _ _ _
        | some a => exact run_firstCells_some _ _ _ a _ _ [] (by simp) (by simp)
      · refine run_firstCells_some w.drew inf.size Q.length ⟨g, o, none⟩ Q.length cap (wayCells Q) (by rw [i3, wayCells_len]) (fun j u hj => ?_)
        have hjl : j < Q.length * 2 := by
          rcases Decidable.em (j < Q.length * 2) with h | h
          · exact h
          · rw [List.getElem?_eq_none (by rw [wayCells_len]; omega)] at hj; cases hj
        have ea : (⟨g, o, none⟩ : Addr).add j = ⟨g, o + j, none⟩ := by unfold Addr.add; split <;> simp_all
        rw [ea, ← hj]
        exact hc j hjl
    have hr := run_append_grow_src w 67 67 ty 66 inf _ Tryz.underlying67 i1 i2 ao Q.length cap (wayCells Q) hold _ L.length (wayCells L) hsrc (by omega) (by omega) (growslice_fits (by omega) (by rw [i4]; omega))
    have hge := grownCap_ge w (Q.length + L.length) cap 66
    have hcm := grownCap_le_maxLen w (Q.length + L.length) cap 66 (by unfold maxLen; omega)
    generalize grownCap w (Q.length + L.length) cap 66 = cc at *
    refine ⟨_, _, hr, ⟨_, cc, by rw [List.length_append], by rw [List.length_append]; exact hge, hcm, .inr ⟨w.heap.size, 0, rfl, hb, by simp, fun j hj => ?_, fun j hj => ⟨?_, ?_⟩⟩⟩, ((Below.refl _ _).drew).alloc (by exact hb) _⟩
    · rw [List.length_append] at hj
      have e1 := World.cell?_alloc_new w.drew ((wayCells Q ++ wayCells L).toArray ++ Builtin.zeroCells (Value.cells (.agg #[.int .i64 0, .int .i64 0])) (cc - (Q.length + L.length))) 66 (0 + j)
      refine e1.trans ?_
      rw [Nat.zero_add, Array.getElem?_append_left (by simp only [List.size_toArray, List.length_append, wayCells_len]; omega), List.getElem?_toArray, wayCells_app]
    · have e1 := World.cell?_alloc_new w.drew ((wayCells Q ++ wayCells L).toArray ++ Builtin.zeroCells (Value.cells (.agg #[.int .i64 0, .int .i64 0])) (cc - (Q.length + L.length))) 66 (0 + j)
      have e2 : ((wayCells Q ++ wayCells L).toArray ++ Builtin.zeroCells (Value.cells (.agg #[.int .i64 0, .int .i64 0])) (cc - (Q.length + L.length))).size = cc * 2 := by
        rw [Array.size_append, List.size_toArray, List.length_append, wayCells_len, wayCells_len, size_zeroCells]
        simp [Value.cells]; omega
      rw [Array.getElem?_eq_getElem (by rw [e2]; omega)] at e1
      exact (congrArg Option.isSome e1).trans rfl
    · exact World.frozen?_alloc_new w.drew _ _ _
theorem wpList_append_queue (w : World) {ops : Array Oper} {rest : List Oper} {o : Oper} {a : Act} {R : Exit → Act → World → Prop} (hgd : o.guard = none) (s x : Operand)
    (ho : o.op = .call { callee := .builtin .append, args := #[s, x], argTypes := #[67, 67] }) {B S : Nat} {v xv : Value} {Q L : List (Nat × Int)} (hv : a.eval s = v) (hx : a.eval x = xv)
    (hq : QAt w B v Q) (hL : WaysAt S w xv L) (hb : B ≤ w.heap.size) (hn : Q.length + L.length ≤ 1048576)
    (hK : ∀ v' w', QAt w' B v' (Q ++ L) → Below B w w' → wpList Tryz.prog ops R rest (a.put o.dst v') w') : wpList Tryz.prog ops R (o :: rest) a w := by
  refine wpList_plain hgd fun K hK' => ?_
  obtain ⟨v', w', hrun, h1, h2⟩ := run_append_queue o.type hq hL hb hn
  unfold Oper.wp
  simp [execOp, ho, resolve, invoke, builtin, hv, hx, hrun, Result.andThen]
  exact hK' _ _ (hK v' w' h1 h2)
end Go.Proofs.YtekmjgkjpdhedaaGreatDoor
namespace Go.Proofs.YtekmjgkjpdhedaaGreatDoor
open Go.ChangeShapes Go.WideShapes Go.ChangeAt Go.RowKit Go.Joins
/-- the first k are -1 -/
def fillL (n k : Nat) : List Int := List.replicate k (-1) ++ List.replicate (n - k) 0
theorem fillL_len (n k : Nat) (h : k ≤ n) : (fillL n k).length = n := by simp [fillL]; omega
theorem fillL_step (n k : Nat) (h : k < n) : (fillL n k).set k (-1) = fillL n (k + 1) := by
  unfold fillL
  rw [List.set_append_right _ _ (by simp), List.length_replicate, Nat.sub_self, show n - k = (n - (k + 1)) + 1 by omega, List.replicate_succ, List.set_cons_zero, List.replicate_succ', List.append_assoc]; rfl
set_option maxRecDepth 20000 in
set_option maxHeartbeats 8000000 in
theorem implCodeFull_any (C : List OpV) (ao : Option Addr) (cap : Nat) (w : World) (hl : C.length ≤ 1048576) (h : CodeAt w ao C) :
    Calls Tryz.prog 20 #[.slice ao C.length cap] w fun e w' => ∃ v L, e = .returned v ∧ FullOf C L ∧ Owns w' w.heap.size v L ∧ Below w.heap.size w w' := by
  go_enter Tryz.func20, Tryz.ntmps20
  go_wp2_with fail
  refine (implCodeOk_any C ao cap _ hl h).mono ?_
  rintro e w1 ⟨rfl, hb1⟩
  cases hC : codeB C with
  | false =>
    go_wp2_with fail
    go_ret
    exact ⟨_, [], rfl, .inr ⟨hC, rfl⟩, ⟨rfl, .inl ⟨rfl, rfl⟩⟩, hb1⟩
  | true =>
  obtain ⟨hw, hl16, hok⟩ := codeB_well hC
  obtain ⟨inf, i1, i2, i3, i4⟩ := info_intI
  have hz1 := hb1.size
  go_wp2_with (refine wpList_make_full _ rfl (.tmp 12) (.tmp 12) 33 rfl w1.heap.size 3 inf _ 1 Tryz.underlying33 i1 i2 i3 .i64 .i64 _ _ C.length rfl rfl rfl rfl (by rw [i4]; omega) (by unfold maxLen; omega) (Nat.le_refl _) ?_; intro w2 ho hg2)
  have hF : Bits w2 w1.heap.size (fillL C.length 0) := by
    have e : (madeCells (Value.cells (.int .i64 0)) (C.length * 1)).toList = (fillL C.length 0).map (Value.int .i64) := by
      show (madeCells #[.int .i64 0] (C.length * 1)).toList = _
      rw [toList_madeCells_one]; simp [fillL]
    rw [e] at ho
    have hfl := fillL_len C.length 0 (Nat.zero_le _)
    unfold Bits
    rw [hfl]
    exact ho
  have hz2 := hg2.size
  have hB2 : Below w.heap.size w w2 := hb1.grown hg2 (by omega) (by intro k hk; cases hk)
  have hB12 : Below w1.heap.size w1 w2 := (Below.refl _ _).grown hg2 (by omega) (by intro k hk; cases hk)
  have hcode : CodeAt w1 ao C := h.below hb1
  clear ho hg2 h
  generalize hFe : w1.heap.size = F at *
  go_loopw [16] (fun i wr => ∃ k : Nat, k ≤ C.length ∧ i = .int .i64 k ∧ Bits wr F (fillL C.length k) ∧ Below F w2 wr ∧ wr.heap.size = w2.heap.size) (fun i _ => C.length - (intOf i).toNat)
  case atStart => exact ⟨0, Nat.zero_le _, rfl, hF, Below.refl _ _, rfl⟩
  case round =>
    clear hF
    obtain ⟨k, hk, rfl, hF, hB, hsz⟩ := hrel
    have hfl := fillL_len C.length k hk
    by_cases hlt : k < C.length
    · have c0 := hF.cell (i := k) (by rw [hfl]; exact hlt)
      have f0 := hF.free k
      have hF' := hF.set k (-1)
      rw [fillL_step _ _ hlt] at hF'
      have R : Hid (Bits (wr.setCell ⟨F, k, none⟩ (.int .i64 (-1))) F (fillL C.length (k + 1))) := hF'
      clear hF hF' hfl
      generalize atV (fillL C.length k) k = x0 at *
      have hsz' : Hid (wr.heap.size = w2.heap.size) := hsz
      clear hsz
      go_wp2_with fail
      go_roundw
      case rel => exact ⟨k + 1, by omega, by go_num, R.out, hB.setCell (by exact Nat.le_refl _) _, by simp [World.setCell]; exact hsz'.out⟩
      case measure => simp [intOf]; omega
    · have e : k = C.length := by omega
      subst e
      have hF0 : Hid (Bits wr F (List.replicate C.length (-1))) := by
        show Bits wr F (List.replicate C.length (-1))
        have e : fillL C.length C.length = List.replicate C.length (-1) := by simp [fillL]
        rw [← e]; exact hF
      clear hF hfl
      go_wp2_with fail
      have hlt2 : F < w2.heap.size := by have := (Bits.lt hF0.out); omega
      go_loopg [5] (3 * sumR (List.replicate C.length (-1)) + 1) (fun gk v5 wx => ∃ V Q, gk = 3 * sumR V + Q.length ∧ gk ≤ 241 ∧ Bits wx F V ∧ QAt wx w2.heap.size v5 Q ∧ Inv C V Q ∧ Below F w2 wx ∧ w2.heap.size ≤ wx.heap.size)
      case atStart =>
        refine ⟨List.replicate C.length (-1), [(0, 1)], rfl, by have := sum_le (List.replicate C.length (-1)); simp at this; omega, hF0.out.keep (Below.heap_alloc _ _ _ (by omega)), ?_, inv_start hw, hB.alloc (by omega) _, by simp; omega⟩
        refine ⟨_, 1, rfl, by simp, by decide, .inr ⟨w2.heap.size, 0, rfl, Nat.le_refl _, by simp; omega, fun j hj => ?_, fun j hj => ?_⟩⟩
        · have e : j = 0 ∨ j = 1 := by simp at hj; omega
          rcases e with rfl | rfl <;> simp [go_sem, wayCells, ← hsz]
        · have e : j = 0 ∨ j = 1 := by simp at hj; omega
          rcases e with rfl | rfl <;> simp [go_sem, ← hsz]
      case round =>
        clear hF0 hB hsz
        obtain ⟨V, Q, hgk, hgb, hF, ⟨ao2, cap2, rfl, hq1, hq2, hq3⟩, hI, hB, hzx⟩ := hrel
        have hVl : V.length = C.length := hI.1.1
        cases Q with
        | nil =>
          go_wp2_with fail
          go_ret
          refine ⟨_, V, rfl, .inl ⟨hC, inv_done hI⟩, ?_, ?_⟩
          · have hO : Owns wr F (.slice (some ⟨F, 0, none⟩) V.length V.length) V := hF
            rw [hVl] at hO
            exact Owns.mono hO (by omega)
          · exact hB2.trans (hB.mono (by omega))
        | cons p Q =>
          rcases hq3 with h0 | ⟨g, o, rfl, hg, hgl, hc, hf⟩
          · exact absurd hq1 (by rw [h0]; simp)
          have hs := hI.2.2.1 p (by simp)
          have hp := hs.1
          have c0 : wr.cell? ⟨g, o, none⟩ = some (.int .i64 (p.1 : Int)) := hc 0 (by simp)
          have c1 : wr.cell? ⟨g, o + 1, none⟩ = some (.int .i64 p.2) := hc 1 (by simp; omega)
          have d0 := hF.cell (i := p.1) (by rw [hVl]; exact hp)
          have f0 := hF.free p.1
          have hgF : g ≠ F := by omega
          simp only [List.length_cons] at hq1 hgk
          have hand := and_i64 (hI.1.2 p.1) hs.2.1.1 hs.2.1.2
          generalize hx : atV V p.1 = x at *
          generalize hm : meet x p.2 = m at *
          have hx' : Hid (atV V p.1 = x) := hx
          have hm' : Hid (meet x p.2 = m) := hm
          clear hx hm
          have hc' : Hid (∀ j, j < (Q.length + 1) * 2 → wr.cell? ⟨g, o + j, none⟩ = (wayCells (p :: Q))[j]?) := hc
          have hf' : Hid (∀ j, j < cap2 * 2 → (wr.cell? ⟨g, o + j, none⟩).isSome = true ∧ wr.frozen? ⟨g, o + j, none⟩ = false) := hf
          clear hc hf
          have hFl : F < wr.heap.size := by omega
          have hpi : (p.1 : Int) < (C.length : Int) := by omega
          by_cases hc1 : cap2 = 1
          · subst hc1
            have hQ0 : Q = [] := List.eq_nil_of_length_eq_zero (by omega)
            have hq : QAt wr w2.heap.size (.slice (some ⟨g, o, none⟩) 0 0) Q := by
              have := QAt.tail (cap := 1) (ao := some ⟨g, o, none⟩) hq1 hq2 hg hgl hc'.out hf'.out (.inl rfl)
              rw [hQ0] at this ⊢
              exact this
            clear hQ0
            go_wp2_with fail
            generalize (Value.slice (some ⟨g, o, none⟩) 0 0) = v5 at *
            go_quiet (fail)
            have hWk : ∀ k, k < wr.heap.size → ((wr.alloc (.cells #[.int .i64 (p.1 : Int), .int .i64 p.2] 66)).drewN nq).heap[k]? = wr.heap[k]? := fun k hk => Below.heap_alloc wr _ k hk
            have hWb : Below F wr ((wr.alloc (.cells #[.int .i64 (p.1 : Int), .int .i64 p.2] 66)).drewN nq) := below_drewN ((Below.refl _ _).alloc (by omega) _) nq
            have hWz : ((wr.alloc (.cells #[.int .i64 (p.1 : Int), .int .i64 p.2] 66)).drewN nq).heap.size = wr.heap.size + 1 := by simp [World.drewN]
            by_cases he : m = x
            · have he' : (m == x) = true := by simp [he]
              have hI' : Hid (Inv C V Q) := inv_same hI (by rw [hx'.out, hm'.out]; exact he)
              have hWk' : Hid (∀ k, k < wr.heap.size → ((wr.alloc (.cells #[.int .i64 (p.1 : Int), .int .i64 p.2] 66)).drewN nq).heap[k]? = wr.heap[k]?) := hWk
              clear he hI hWk hWz
              go_wp2_with fail
              go_roundg (3 * sumR V + Q.length)
              case measure => omega
              case rel =>
                exact ⟨V, Q, rfl, by omega, hF.keep (hWk'.out F hFl), hq.keep (by simp [World.drewN]) (fun k _ hk => hWk'.out k hk), hI'.out, hB.trans hWb, by simp [World.drewN]; omega⟩
            · have he' : (m == x) = false := by simp [he]
              have hmb : Hid (Bd m ∧ 0 ≤ m) := by
                have hb := meet_bd (hI.1.2 p.1) hs.2.1.1 hs.2.1.2
                rw [hx'.out, hm'.out] at hb
                exact ⟨⟨by omega, hb.2⟩, hb.1⟩
              have hI' : Hid (Inv C (V.set p.1 m) (Q ++ waysL C[p.1] p.1 C.length m)) := by
                have := inv_less hw hI hp
                rw [hx'.out, hm'.out] at this
                exact this
              have hms : Hid (sumR (V.set p.1 m) < sumR V) := by
                have := sum_merge hI.1 hs (by rw [hx'.out, hm'.out]; exact he)
                rw [hx'.out, hm'.out] at this
                exact this
              have hF1 : Hid (Bits (((wr.alloc (.cells #[.int .i64 (p.1 : Int), .int .i64 p.2] 66)).drewN nq).setCell ⟨F, p.1, none⟩ (.int .i64 m)) F (V.set p.1 m)) := (hF.keep (hWk F hFl)).set p.1 m
              have hq1' : Hid (QAt (((wr.alloc (.cells #[.int .i64 (p.1 : Int), .int .i64 p.2] 66)).drewN nq).setCell ⟨F, p.1, none⟩ (.int .i64 m)) w2.heap.size v5 Q) :=
                (hq.keep (by rw [hWz]; omega) (fun k _ hk => hWk k hk)).keep (by simp [World.setCell]) (fun k hk _ => Below.heap_setCell _ _ _ _ (by dsimp only; omega))
              have hWb' : Hid (Below F wr (((wr.alloc (.cells #[.int .i64 (p.1 : Int), .int .i64 p.2] 66)).drewN nq).setCell ⟨F, p.1, none⟩ (.int .i64 m))) := hWb.setCell (by exact Nat.le_refl _) _
              clear he hWk hF hq hWb hWz
              go_wp2_with fail
              generalize hWe : (((wr.alloc (.cells #[.int .i64 (p.1 : Int), .int .i64 p.2] 66)).drewN nq).setCell ⟨F, p.1, none⟩ (.int .i64 m)) = W at *
              have hzW : wr.heap.size + 1 = W.heap.size := by rw [← hWe]; simp [World.setCell, World.drewN]
              clear hWe
              refine (ways_any C ao cap p.1 m W hC (hcode.below (by rw [hFe]; exact hB12.trans (hB.trans hWb'.out))) hp hmb.out.1 hmb.out.2).mono ?_
              rintro e W2 ⟨v6, rfl, ho6, hb6⟩
              have hat := OwnsW.at ho6
              have hz6 := hb6.size
              have hF2 : Hid (Bits W2 F (V.set p.1 m)) := hF1.out.keep (hb6.block F (by omega))
              have hq2' : Hid (QAt W2 w2.heap.size v5 Q) := hq1'.out.below hb6
              have hwl := ways_len C[p.1] p.1 C.length m
              generalize waysL C[p.1] p.1 C.length m = L at *
              clear ho6
              go_wp2_with (refine wpList_append_queue _ rfl (.tmp 53) (.tmp 58) rfl rfl rfl hq2'.out hat (by omega) (by omega) ?_; intro v7 W3 hq7 hb7)
              go_roundg (3 * sumR (V.set p.1 m) + (Q ++ L).length)
              case measure => have := hms.out; simp; omega
              case rel =>
                have hms2 := hms.out
                have hz7 := hb7.size
                exact ⟨V.set p.1 m, Q ++ L, rfl, by simp; omega, hF2.out.keep (hb7.block F (by omega)), hq7, hI'.out, hB.trans (hWb'.out.trans ((hb6.mono (by omega)).trans (hb7.mono (by omega)))), by omega⟩
          · have hq : QAt wr w2.heap.size (.slice (some ⟨g, o + 2, none⟩) Q.length (cap2 - 1)) Q := QAt.tail hq1 hq2 hg hgl hc'.out hf'.out (.inr rfl)
            have hc2 : 2 ≤ cap2 := by omega
            go_wp2_with fail
            generalize (Value.slice (some ⟨g, o + 2, none⟩) Q.length (cap2 - 1)) = v5 at *
            go_quiet (fail)
            have hWk : ∀ k, k < wr.heap.size → ((wr.alloc (.cells #[.int .i64 (p.1 : Int), .int .i64 p.2] 66)).drewN nq).heap[k]? = wr.heap[k]? := fun k hk => Below.heap_alloc wr _ k hk
            have hWb : Below F wr ((wr.alloc (.cells #[.int .i64 (p.1 : Int), .int .i64 p.2] 66)).drewN nq) := below_drewN ((Below.refl _ _).alloc (by omega) _) nq
            have hWz : ((wr.alloc (.cells #[.int .i64 (p.1 : Int), .int .i64 p.2] 66)).drewN nq).heap.size = wr.heap.size + 1 := by simp [World.drewN]
            by_cases he : m = x
            · have he' : (m == x) = true := by simp [he]
              have hI' : Hid (Inv C V Q) := inv_same hI (by rw [hx'.out, hm'.out]; exact he)
              have hWk' : Hid (∀ k, k < wr.heap.size → ((wr.alloc (.cells #[.int .i64 (p.1 : Int), .int .i64 p.2] 66)).drewN nq).heap[k]? = wr.heap[k]?) := hWk
              clear he hI hWk hWz
              go_wp2_with fail
              go_roundg (3 * sumR V + Q.length)
              case measure => omega
              case rel =>
                exact ⟨V, Q, rfl, by omega, hF.keep (hWk'.out F hFl), hq.keep (by simp [World.drewN]) (fun k _ hk => hWk'.out k hk), hI'.out, hB.trans hWb, by simp [World.drewN]; omega⟩
            · have he' : (m == x) = false := by simp [he]
              have hmb : Hid (Bd m ∧ 0 ≤ m) := by
                have hb := meet_bd (hI.1.2 p.1) hs.2.1.1 hs.2.1.2
                rw [hx'.out, hm'.out] at hb
                exact ⟨⟨by omega, hb.2⟩, hb.1⟩
              have hI' : Hid (Inv C (V.set p.1 m) (Q ++ waysL C[p.1] p.1 C.length m)) := by
                have := inv_less hw hI hp
                rw [hx'.out, hm'.out] at this
                exact this
              have hms : Hid (sumR (V.set p.1 m) < sumR V) := by
                have := sum_merge hI.1 hs (by rw [hx'.out, hm'.out]; exact he)
                rw [hx'.out, hm'.out] at this
                exact this
              have hF1 : Hid (Bits (((wr.alloc (.cells #[.int .i64 (p.1 : Int), .int .i64 p.2] 66)).drewN nq).setCell ⟨F, p.1, none⟩ (.int .i64 m)) F (V.set p.1 m)) := (hF.keep (hWk F hFl)).set p.1 m
              have hq1' : Hid (QAt (((wr.alloc (.cells #[.int .i64 (p.1 : Int), .int .i64 p.2] 66)).drewN nq).setCell ⟨F, p.1, none⟩ (.int .i64 m)) w2.heap.size v5 Q) :=
                (hq.keep (by rw [hWz]; omega) (fun k _ hk => hWk k hk)).keep (by simp [World.setCell]) (fun k hk _ => Below.heap_setCell _ _ _ _ (by dsimp only; omega))
              have hWb' : Hid (Below F wr (((wr.alloc (.cells #[.int .i64 (p.1 : Int), .int .i64 p.2] 66)).drewN nq).setCell ⟨F, p.1, none⟩ (.int .i64 m))) := hWb.setCell (by exact Nat.le_refl _) _
              clear he hWk hF hq hWb hWz
              go_wp2_with fail
              generalize hWe : (((wr.alloc (.cells #[.int .i64 (p.1 : Int), .int .i64 p.2] 66)).drewN nq).setCell ⟨F, p.1, none⟩ (.int .i64 m)) = W at *
              have hzW : wr.heap.size + 1 = W.heap.size := by rw [← hWe]; simp [World.setCell, World.drewN]
              clear hWe
              refine (ways_any C ao cap p.1 m W hC (hcode.below (by rw [hFe]; exact hB12.trans (hB.trans hWb'.out))) hp hmb.out.1 hmb.out.2).mono ?_
              rintro e W2 ⟨v6, rfl, ho6, hb6⟩
              have hat := OwnsW.at ho6
              have hz6 := hb6.size
              have hF2 : Hid (Bits W2 F (V.set p.1 m)) := hF1.out.keep (hb6.block F (by omega))
              have hq2' : Hid (QAt W2 w2.heap.size v5 Q) := hq1'.out.below hb6
              have hwl := ways_len C[p.1] p.1 C.length m
              generalize waysL C[p.1] p.1 C.length m = L at *
              clear ho6
              go_wp2_with (refine wpList_append_queue _ rfl (.tmp 53) (.tmp 58) rfl rfl rfl hq2'.out hat (by omega) (by omega) ?_; intro v7 W3 hq7 hb7)
              go_roundg (3 * sumR (V.set p.1 m) + (Q ++ L).length)
              case measure => have := hms.out; simp; omega
              case rel =>
                have hms2 := hms.out
                have hz7 := hb7.size
                exact ⟨V.set p.1 m, Q ++ L, rfl, by simp; omega, hF2.out.keep (hb7.block F (by omega)), hq7, hI'.out, hB.trans (hWb'.out.trans ((hb6.mono (by omega)).trans (hb7.mono (by omega)))), by omega⟩
end Go.Proofs.YtekmjgkjpdhedaaGreatDoor
namespace Go.Proofs.YtekmjgkjpdhedaaGreatDoor
open Go.ChangeShapes Go.WideShapes Go.ChangeAt Go.RowKit Go.Joins
/-- a row of numbers of the call's own, with room behind it or not, or nothing -/
def OwnRow (w : World) (L : List Int) (e : Ending) (w' : World) : Prop :=
  ∃ v, e = .returned v ∧ w'.ownsRow w.heap.size 3 1 v L.length (L.map (Value.int .i64)) ∧ Below w.heap.size w w'
theorem getR_any (k r s t a b : Int) (w : World) : Calls Tryz.prog 92 #[.agg #[.int .i64 k, .int .i64 r, .int .i64 s, .int .i64 t, .int .i64 a, .int .i64 b]] w fun e w' => e = .returned (.int .i64 r) ∧ Below w.heap.size w w' := by
  go_enter Tryz.func92, Tryz.ntmps92
  go_wp2_with fail
  go_ret
  exact ⟨rfl, (Below.refl _ _).alloc (Nat.le_refl _) _⟩
theorem getS_any (k r s t a b : Int) (w : World) : Calls Tryz.prog 93 #[.agg #[.int .i64 k, .int .i64 r, .int .i64 s, .int .i64 t, .int .i64 a, .int .i64 b]] w fun e w' => e = .returned (.int .i64 s) ∧ Below w.heap.size w w' := by
  go_enter Tryz.func93, Tryz.ntmps93
  go_wp2_with fail
  go_ret
  exact ⟨rfl, (Below.refl _ _).alloc (Nat.le_refl _) _⟩
theorem en_getR : ∀ args w, (callFunc 92 args).run Tryz.prog w = .ok (.enter 92 args) w := enters_of Tryz.func92 (by kernel_rfl) rfl
theorem en_getS : ∀ args w, (callFunc 93 args).run Tryz.prog w = .ok (.enter 93 args) w := enters_of Tryz.func93 (by kernel_rfl) rfl
/-- what the model knows of numbers -/
theorem info_int : ∃ i, Tryz.prog.info? 3 = some i ∧ i.zero = some (.int .i64 0) ∧ i.size = 1 ∧ i.bytes = 8 :=
  ⟨(Tryz.prog.info? 3).get (by kernel_rfl), (Option.some_get _).symm, by kernel_rfl, by kernel_rfl, by kernel_rfl⟩
theorem own_below {B : Nat} {e : TypeId} {sz : Nat} {v : Value} {n : Nat} {xs : List Value} {w w' : World} (h : w.ownsRow B e sz v n xs) (hb : Below w.heap.size w w') : w'.ownsRow B e sz v n xs :=
  h.kept (row := none) ⟨hb.os, hb.tape, hb.output, hb.size, fun k hk _ => hb.block k hk⟩ (by cases hv : v.ownBlock with | none => exact .inl rfl | some k => exact .inr (by simp))
theorem own_mono {B B' : Nat} {e : TypeId} {sz : Nat} {v : Value} {n : Nat} {xs : List Value} {w : World} (h : w.ownsRow B e sz v n xs) (hb : B' ≤ B) : w.ownsRow B' e sz v n xs :=
  ⟨h.1, h.2.imp id fun ⟨g, cap, cur, h1, h2, h3⟩ => ⟨g, cap, cur, h1, Nat.le_trans hb h2, h3⟩⟩
set_option maxRecDepth 20000 in
set_option maxHeartbeats 4000000 in
theorem implUses_0 {k r s t a b : Int} {v0 v1 v2 v3 v4 v5 v6 v7 v8 v9 v10 v11 v12 : Value} (hall : ∀ u : Option Addr, ∀ n, #[v0, v1, v2, v3, v4, v5, v6, v7, v8, v9, v10, v11, v12, .slice u n n].all (·.oneCell') = true)
    (hF : ∀ w, Calls Tryz.prog 47 #[.int .i64 k] w fun e w' => (e = .returned (.tuple #[.agg #[v0, v1, v2, v3, v4, v5, v6, v7, v8, v9, v10, v11, v12, .slice none 0 0], .bool true])) ∧ Below w.heap.size w w')
    (hU : usesL k r s = []) (w : World) :
    Calls Tryz.prog 102 #[.agg #[.int .i64 k, .int .i64 r, .int .i64 s, .int .i64 t, .int .i64 a, .int .i64 b]] w fun e w' => OwnRow w (usesOf k r s t a b) e w' := by
  replace hall := hall none 0
  go_enter Tryz.func102, Tryz.ntmps102
  go_wp2_with fail
  refine (hF _).mono ?_
  rintro e w1 ⟨rfl, hb1⟩
  obtain ⟨hc1, _⟩ := bcell hb1
  have hz1 := hb1.size
  simp at hz1
  have c0 : w1.cell? ⟨w.heap.size, 0, none⟩ = some (.int .i64 k) := by rw [hc1 _ _ (by simp)]; simp [go_sem]
  have c1 : w1.cell? ⟨w.heap.size, 1, none⟩ = some (.int .i64 r) := by rw [hc1 _ _ (by simp)]; simp [go_sem]
  have c2 : w1.cell? ⟨w.heap.size, 2, none⟩ = some (.int .i64 s) := by rw [hc1 _ _ (by simp)]; simp [go_sem]
  have c3 : w1.cell? ⟨w.heap.size, 3, none⟩ = some (.int .i64 t) := by rw [hc1 _ _ (by simp)]; simp [go_sem]
  have c4 : w1.cell? ⟨w.heap.size, 4, none⟩ = some (.int .i64 a) := by rw [hc1 _ _ (by simp)]; simp [go_sem]
  have c5 : w1.cell? ⟨w.heap.size, 5, none⟩ = some (.int .i64 b) := by rw [hc1 _ _ (by simp)]; simp [go_sem]
  have l0 : w.heap.size < w1.heap.size := by omega
  have hB1 : Below w.heap.size w w1 := ((Below.refl _ _).alloc (Nat.le_refl _) _).trans (hb1.mono (by simp))
  clear hc1 hb1
  go_wp2_with (refine wpList_store_row rfl 79 (.tmp 3) (.tmp 12) rfl _ _ rfl rfl 79 _ (heap_new (by simp)) (by kernel_rfl) (by kernel_rfl) hall ?_; rw [setRow_new (by simp)])
  refine (implOpOk_any _ _ _ _ _ _ _).mono ?_
  rintro e w2 ⟨rfl, hb2⟩
  obtain ⟨hc2, _⟩ := bcell hb2
  have hz2 := hb2.size
  simp at hz2
  have d0 : w2.cell? ⟨w.heap.size, 0, none⟩ = some (.int .i64 k) := by rw [hc2 _ _ (by simp <;> omega)]; simp [go_sem, c0, l0]
  have d1 : w2.cell? ⟨w.heap.size, 1, none⟩ = some (.int .i64 r) := by rw [hc2 _ _ (by simp <;> omega)]; simp [go_sem, c1, l0]
  have d2 : w2.cell? ⟨w.heap.size, 2, none⟩ = some (.int .i64 s) := by rw [hc2 _ _ (by simp <;> omega)]; simp [go_sem, c2, l0]
  have d3 : w2.cell? ⟨w.heap.size, 3, none⟩ = some (.int .i64 t) := by rw [hc2 _ _ (by simp <;> omega)]; simp [go_sem, c3, l0]
  have d4 : w2.cell? ⟨w.heap.size, 4, none⟩ = some (.int .i64 a) := by rw [hc2 _ _ (by simp <;> omega)]; simp [go_sem, c4, l0]
  have d5 : w2.cell? ⟨w.heap.size, 5, none⟩ = some (.int .i64 b) := by rw [hc2 _ _ (by simp <;> omega)]; simp [go_sem, c5, l0]
  have du : w2.cell? ⟨w1.heap.size, 13, none⟩ = some (.slice none 0 0) := by rw [hc2 _ _ (by simp)]; simp [go_sem]
  have m0 : w.heap.size < w2.heap.size := by omega
  have hB2 : Below w.heap.size w w2 := (hB1.alloc (by omega) _).trans (hb2.mono (by simp <;> omega))
  clear hc2 hb2
  cases hk : opB k r s t a b with
  | false =>
    go_wp2_with fail
    go_ret
    rw [usesOf_bad hk]
    exact ⟨_, rfl, ⟨rfl, .inl ⟨rfl, rfl⟩⟩, hB2⟩
  | true =>
  go_wp2_with fail
  refine wp_loop_rounds 3 ?_
  rw [rounds_succ]
  go_wp2_with fail
  go_ret
  rw [usesOf_ok hk, hU]
  exact ⟨_, rfl, ⟨rfl, .inl ⟨rfl, rfl⟩⟩, hB2⟩
set_option maxRecDepth 20000 in
set_option maxHeartbeats 4000000 in
theorem implUses_1 {k r s t a b : Int} {v0 v1 v2 v3 v4 v5 v6 v7 v8 v9 v10 v11 v12 : Value} {g0 : Nat} {u0 : Int} (hall : ∀ u : Option Addr, ∀ n, #[v0, v1, v2, v3, v4, v5, v6, v7, v8, v9, v10, v11, v12, .slice u n n].all (·.oneCell') = true)
    (hF : ∀ w, Calls Tryz.prog 47 #[.int .i64 k] w fun e w' => (∃ x, e = .returned (.tuple #[.agg #[v0, v1, v2, v3, v4, v5, v6, v7, v8, v9, v10, v11, v12, .slice (some ⟨x, 0, none⟩) 1 1], .bool true]) ∧ w'.cell? ⟨x, 0, none⟩ = some (.func (.func g0) #[] #[])) ∧ Below w.heap.size w w')
    (n0 : ∀ args w, (callFunc g0 args).run Tryz.prog w = .ok (.enter g0 args) w) (k0 : ∀ w, Calls Tryz.prog g0 #[.agg #[.int .i64 k, .int .i64 r, .int .i64 s, .int .i64 t, .int .i64 a, .int .i64 b]] w fun e w' => e = .returned (.int .i64 u0) ∧ Below w.heap.size w w')
    (hU : usesL k r s = [u0]) (w : World) :
    Calls Tryz.prog 102 #[.agg #[.int .i64 k, .int .i64 r, .int .i64 s, .int .i64 t, .int .i64 a, .int .i64 b]] w fun e w' => OwnRow w (usesOf k r s t a b) e w' := by
  go_enter Tryz.func102, Tryz.ntmps102
  go_wp2_with fail
  refine (hF _).mono ?_
  rintro e w1 ⟨⟨x, rfl, cx0⟩, hb1⟩
  obtain ⟨hc1, _⟩ := bcell hb1
  have hz1 := hb1.size
  simp at hz1
  have c0 : w1.cell? ⟨w.heap.size, 0, none⟩ = some (.int .i64 k) := by rw [hc1 _ _ (by simp)]; simp [go_sem]
  have c1 : w1.cell? ⟨w.heap.size, 1, none⟩ = some (.int .i64 r) := by rw [hc1 _ _ (by simp)]; simp [go_sem]
  have c2 : w1.cell? ⟨w.heap.size, 2, none⟩ = some (.int .i64 s) := by rw [hc1 _ _ (by simp)]; simp [go_sem]
  have c3 : w1.cell? ⟨w.heap.size, 3, none⟩ = some (.int .i64 t) := by rw [hc1 _ _ (by simp)]; simp [go_sem]
  have c4 : w1.cell? ⟨w.heap.size, 4, none⟩ = some (.int .i64 a) := by rw [hc1 _ _ (by simp)]; simp [go_sem]
  have c5 : w1.cell? ⟨w.heap.size, 5, none⟩ = some (.int .i64 b) := by rw [hc1 _ _ (by simp)]; simp [go_sem]
  have l0 : w.heap.size < w1.heap.size := by omega
  have lx : x < w1.heap.size := World.block_lt_of_cell? _ _ cx0
  have hB1 : Below w.heap.size w w1 := ((Below.refl _ _).alloc (Nat.le_refl _) _).trans (hb1.mono (by simp))
  clear hc1 hb1
  go_wp2_with (refine wpList_store_row rfl 79 (.tmp 3) (.tmp 12) rfl _ _ rfl rfl 79 _ (heap_new (by simp)) (by kernel_rfl) (by kernel_rfl) (hall _ _) ?_; rw [setRow_new (by simp)])
  refine (implOpOk_any _ _ _ _ _ _ _).mono ?_
  rintro e w2 ⟨rfl, hb2⟩
  obtain ⟨hc2, _⟩ := bcell hb2
  have hz2 := hb2.size
  simp at hz2
  have d0 : w2.cell? ⟨w.heap.size, 0, none⟩ = some (.int .i64 k) := by rw [hc2 _ _ (by simp <;> omega)]; simp [go_sem, c0, l0]
  have d1 : w2.cell? ⟨w.heap.size, 1, none⟩ = some (.int .i64 r) := by rw [hc2 _ _ (by simp <;> omega)]; simp [go_sem, c1, l0]
  have d2 : w2.cell? ⟨w.heap.size, 2, none⟩ = some (.int .i64 s) := by rw [hc2 _ _ (by simp <;> omega)]; simp [go_sem, c2, l0]
  have d3 : w2.cell? ⟨w.heap.size, 3, none⟩ = some (.int .i64 t) := by rw [hc2 _ _ (by simp <;> omega)]; simp [go_sem, c3, l0]
  have d4 : w2.cell? ⟨w.heap.size, 4, none⟩ = some (.int .i64 a) := by rw [hc2 _ _ (by simp <;> omega)]; simp [go_sem, c4, l0]
  have d5 : w2.cell? ⟨w.heap.size, 5, none⟩ = some (.int .i64 b) := by rw [hc2 _ _ (by simp <;> omega)]; simp [go_sem, c5, l0]
  have y0 : w2.cell? ⟨x, 0, none⟩ = some (.func (.func g0) #[] #[]) := by rw [hc2 _ _ (by simp <;> omega)]; simp [go_sem, cx0, lx]
  have du : w2.cell? ⟨w1.heap.size, 13, none⟩ = some (.slice (some ⟨x, 0, none⟩) 1 1) := by rw [hc2 _ _ (by simp)]; simp [go_sem]
  have m0 : w.heap.size < w2.heap.size := by omega
  have hB2 : Below w.heap.size w w2 := (hB1.alloc (by omega) _).trans (hb2.mono (by simp <;> omega))
  clear hc2 hb2
  cases hk : opB k r s t a b with
  | false =>
    go_wp2_with fail
    go_ret
    rw [usesOf_bad hk]
    exact ⟨_, rfl, ⟨rfl, .inl ⟨rfl, rfl⟩⟩, hB2⟩
  | true =>
  go_wp2_with fail
  refine wp_loop_rounds 3 ?_
  obtain ⟨inf, i1, i2, i3, i4⟩ := info_int
  rw [rounds_succ]
  go_wp2_with fail
  refine (k0 _).mono ?_
  rintro e w3 ⟨rfl, hb3⟩
  obtain ⟨hc3, _⟩ := bcell hb3
  have hz3 := hb3.size
  have hB3 : Below w.heap.size w w3 := hB2.trans (hb3.mono (by omega))
  clear hc3 hb3
  go_wp2_with (refine wpList_append_own _ rfl (.tmp 28) (.tmp 32) 33 rfl w3.heap.size 3 inf (.int .i64 0) 1 8 Tryz.underlying33 i1 i2 i3 i4 rfl (by decide) (.slice none 0 0) 0 [] rfl ⟨rfl, .inl ⟨rfl, rfl⟩⟩ ⟨w3.heap.size, 0, none⟩ 1 1 [.int .i64 u0] rfl rfl (by intro q u hq; cases q with | zero => simp at hq; subst hq; simp [Addr.add, go_sem] | succ q => simp at hq) (by simp [Value.oneCell']) (by decide) (by decide) (by simp <;> omega) ?_; intro x0 w4 ho0 hg0 _)
  have hz4 := hg0.size
  simp at hz4
  have hB4 : Below w.heap.size w w4 := (hB3.alloc (by omega) _).grown hg0 (by simp <;> omega) (by intro k hk; cases hk)
  rw [rounds_succ]
  go_wp2_with fail
  go_ret
  rw [usesOf_ok hk, hU]
  exact ⟨_, rfl, own_mono ho0 (by omega), hB4⟩
set_option maxRecDepth 20000 in
set_option maxHeartbeats 4000000 in
theorem implUses_2 {k r s t a b : Int} {v0 v1 v2 v3 v4 v5 v6 v7 v8 v9 v10 v11 v12 : Value} {g0 g1 : Nat} {u0 u1 : Int} (hall : ∀ u : Option Addr, ∀ n, #[v0, v1, v2, v3, v4, v5, v6, v7, v8, v9, v10, v11, v12, .slice u n n].all (·.oneCell') = true)
    (hF : ∀ w, Calls Tryz.prog 47 #[.int .i64 k] w fun e w' => (∃ x, e = .returned (.tuple #[.agg #[v0, v1, v2, v3, v4, v5, v6, v7, v8, v9, v10, v11, v12, .slice (some ⟨x, 0, none⟩) 2 2], .bool true]) ∧ w'.cell? ⟨x, 0, none⟩ = some (.func (.func g0) #[] #[]) ∧ w'.cell? ⟨x, 1, none⟩ = some (.func (.func g1) #[] #[])) ∧ Below w.heap.size w w')
    (n0 : ∀ args w, (callFunc g0 args).run Tryz.prog w = .ok (.enter g0 args) w) (k0 : ∀ w, Calls Tryz.prog g0 #[.agg #[.int .i64 k, .int .i64 r, .int .i64 s, .int .i64 t, .int .i64 a, .int .i64 b]] w fun e w' => e = .returned (.int .i64 u0) ∧ Below w.heap.size w w')
    (n1 : ∀ args w, (callFunc g1 args).run Tryz.prog w = .ok (.enter g1 args) w) (k1 : ∀ w, Calls Tryz.prog g1 #[.agg #[.int .i64 k, .int .i64 r, .int .i64 s, .int .i64 t, .int .i64 a, .int .i64 b]] w fun e w' => e = .returned (.int .i64 u1) ∧ Below w.heap.size w w')
    (hU : usesL k r s = [u0, u1]) (w : World) :
    Calls Tryz.prog 102 #[.agg #[.int .i64 k, .int .i64 r, .int .i64 s, .int .i64 t, .int .i64 a, .int .i64 b]] w fun e w' => OwnRow w (usesOf k r s t a b) e w' := by
  go_enter Tryz.func102, Tryz.ntmps102
  go_wp2_with fail
  refine (hF _).mono ?_
  rintro e w1 ⟨⟨x, rfl, cx0, cx1⟩, hb1⟩
  obtain ⟨hc1, _⟩ := bcell hb1
  have hz1 := hb1.size
  simp at hz1
  have c0 : w1.cell? ⟨w.heap.size, 0, none⟩ = some (.int .i64 k) := by rw [hc1 _ _ (by simp)]; simp [go_sem]
  have c1 : w1.cell? ⟨w.heap.size, 1, none⟩ = some (.int .i64 r) := by rw [hc1 _ _ (by simp)]; simp [go_sem]
  have c2 : w1.cell? ⟨w.heap.size, 2, none⟩ = some (.int .i64 s) := by rw [hc1 _ _ (by simp)]; simp [go_sem]
  have c3 : w1.cell? ⟨w.heap.size, 3, none⟩ = some (.int .i64 t) := by rw [hc1 _ _ (by simp)]; simp [go_sem]
  have c4 : w1.cell? ⟨w.heap.size, 4, none⟩ = some (.int .i64 a) := by rw [hc1 _ _ (by simp)]; simp [go_sem]
  have c5 : w1.cell? ⟨w.heap.size, 5, none⟩ = some (.int .i64 b) := by rw [hc1 _ _ (by simp)]; simp [go_sem]
  have l0 : w.heap.size < w1.heap.size := by omega
  have lx : x < w1.heap.size := World.block_lt_of_cell? _ _ cx0
  have hB1 : Below w.heap.size w w1 := ((Below.refl _ _).alloc (Nat.le_refl _) _).trans (hb1.mono (by simp))
  clear hc1 hb1
  go_wp2_with (refine wpList_store_row rfl 79 (.tmp 3) (.tmp 12) rfl _ _ rfl rfl 79 _ (heap_new (by simp)) (by kernel_rfl) (by kernel_rfl) (hall _ _) ?_; rw [setRow_new (by simp)])
  refine (implOpOk_any _ _ _ _ _ _ _).mono ?_
  rintro e w2 ⟨rfl, hb2⟩
  obtain ⟨hc2, _⟩ := bcell hb2
  have hz2 := hb2.size
  simp at hz2
  have d0 : w2.cell? ⟨w.heap.size, 0, none⟩ = some (.int .i64 k) := by rw [hc2 _ _ (by simp <;> omega)]; simp [go_sem, c0, l0]
  have d1 : w2.cell? ⟨w.heap.size, 1, none⟩ = some (.int .i64 r) := by rw [hc2 _ _ (by simp <;> omega)]; simp [go_sem, c1, l0]
  have d2 : w2.cell? ⟨w.heap.size, 2, none⟩ = some (.int .i64 s) := by rw [hc2 _ _ (by simp <;> omega)]; simp [go_sem, c2, l0]
  have d3 : w2.cell? ⟨w.heap.size, 3, none⟩ = some (.int .i64 t) := by rw [hc2 _ _ (by simp <;> omega)]; simp [go_sem, c3, l0]
  have d4 : w2.cell? ⟨w.heap.size, 4, none⟩ = some (.int .i64 a) := by rw [hc2 _ _ (by simp <;> omega)]; simp [go_sem, c4, l0]
  have d5 : w2.cell? ⟨w.heap.size, 5, none⟩ = some (.int .i64 b) := by rw [hc2 _ _ (by simp <;> omega)]; simp [go_sem, c5, l0]
  have y0 : w2.cell? ⟨x, 0, none⟩ = some (.func (.func g0) #[] #[]) := by rw [hc2 _ _ (by simp <;> omega)]; simp [go_sem, cx0, lx]
  have y1 : w2.cell? ⟨x, 1, none⟩ = some (.func (.func g1) #[] #[]) := by rw [hc2 _ _ (by simp <;> omega)]; simp [go_sem, cx1, lx]
  have du : w2.cell? ⟨w1.heap.size, 13, none⟩ = some (.slice (some ⟨x, 0, none⟩) 2 2) := by rw [hc2 _ _ (by simp)]; simp [go_sem]
  have m0 : w.heap.size < w2.heap.size := by omega
  have hB2 : Below w.heap.size w w2 := (hB1.alloc (by omega) _).trans (hb2.mono (by simp <;> omega))
  clear hc2 hb2
  cases hk : opB k r s t a b with
  | false =>
    go_wp2_with fail
    go_ret
    rw [usesOf_bad hk]
    exact ⟨_, rfl, ⟨rfl, .inl ⟨rfl, rfl⟩⟩, hB2⟩
  | true =>
  go_wp2_with fail
  refine wp_loop_rounds 3 ?_
  obtain ⟨inf, i1, i2, i3, i4⟩ := info_int
  rw [rounds_succ]
  go_wp2_with fail
  refine (k0 _).mono ?_
  rintro e w3 ⟨rfl, hb3⟩
  obtain ⟨hc3, _⟩ := bcell hb3
  have hz3 := hb3.size
  replace d0 : w3.cell? ⟨w.heap.size, 0, none⟩ = some (.int .i64 k) := by rw [hc3 _ _ (by omega)]; exact d0
  replace d1 : w3.cell? ⟨w.heap.size, 1, none⟩ = some (.int .i64 r) := by rw [hc3 _ _ (by omega)]; exact d1
  replace d2 : w3.cell? ⟨w.heap.size, 2, none⟩ = some (.int .i64 s) := by rw [hc3 _ _ (by omega)]; exact d2
  replace d3 : w3.cell? ⟨w.heap.size, 3, none⟩ = some (.int .i64 t) := by rw [hc3 _ _ (by omega)]; exact d3
  replace d4 : w3.cell? ⟨w.heap.size, 4, none⟩ = some (.int .i64 a) := by rw [hc3 _ _ (by omega)]; exact d4
  replace d5 : w3.cell? ⟨w.heap.size, 5, none⟩ = some (.int .i64 b) := by rw [hc3 _ _ (by omega)]; exact d5
  replace y0 : w3.cell? ⟨x, 0, none⟩ = some (.func (.func g0) #[] #[]) := by rw [hc3 _ _ (by omega)]; exact y0
  replace y1 : w3.cell? ⟨x, 1, none⟩ = some (.func (.func g1) #[] #[]) := by rw [hc3 _ _ (by omega)]; exact y1
  have hB3 : Below w.heap.size w w3 := hB2.trans (hb3.mono (by omega))
  clear hc3 hb3
  go_wp2_with (refine wpList_append_own _ rfl (.tmp 28) (.tmp 32) 33 rfl w3.heap.size 3 inf (.int .i64 0) 1 8 Tryz.underlying33 i1 i2 i3 i4 rfl (by decide) (.slice none 0 0) 0 [] rfl ⟨rfl, .inl ⟨rfl, rfl⟩⟩ ⟨w3.heap.size, 0, none⟩ 1 1 [.int .i64 u0] rfl rfl (by intro q u hq; cases q with | zero => simp at hq; subst hq; simp [Addr.add, go_sem] | succ q => simp at hq) (by simp [Value.oneCell']) (by decide) (by decide) (by simp <;> omega) ?_; intro x0 w4 ho0 hg0 _)
  have hz4 := hg0.size
  simp at hz4
  have hB4 : Below w.heap.size w w4 := (hB3.alloc (by omega) _).grown hg0 (by simp <;> omega) (by intro k hk; cases hk)
  have q0 : ∀ b o, b < w3.heap.size → w4.cell? ⟨b, o, none⟩ = w3.cell? ⟨b, o, none⟩ := fun b o hb => by
    rw [World.cell?_of_block (a := ⟨b, o, none⟩) (hg0.block b (by simp <;> omega) (by intro h; cases h)), World.cell?_alloc_past _ _ _ hb]
  replace d0 : w4.cell? ⟨w.heap.size, 0, none⟩ = some (.int .i64 k) := by rw [q0 _ _ (by omega)]; exact d0
  replace d1 : w4.cell? ⟨w.heap.size, 1, none⟩ = some (.int .i64 r) := by rw [q0 _ _ (by omega)]; exact d1
  replace d2 : w4.cell? ⟨w.heap.size, 2, none⟩ = some (.int .i64 s) := by rw [q0 _ _ (by omega)]; exact d2
  replace d3 : w4.cell? ⟨w.heap.size, 3, none⟩ = some (.int .i64 t) := by rw [q0 _ _ (by omega)]; exact d3
  replace d4 : w4.cell? ⟨w.heap.size, 4, none⟩ = some (.int .i64 a) := by rw [q0 _ _ (by omega)]; exact d4
  replace d5 : w4.cell? ⟨w.heap.size, 5, none⟩ = some (.int .i64 b) := by rw [q0 _ _ (by omega)]; exact d5
  replace y0 : w4.cell? ⟨x, 0, none⟩ = some (.func (.func g0) #[] #[]) := by rw [q0 _ _ (by omega)]; exact y0
  replace y1 : w4.cell? ⟨x, 1, none⟩ = some (.func (.func g1) #[] #[]) := by rw [q0 _ _ (by omega)]; exact y1
  rw [rounds_succ]
  go_wp2_with fail
  refine (k1 _).mono ?_
  rintro e w5 ⟨rfl, hb5⟩
  obtain ⟨hc5, _⟩ := bcell hb5
  have hz5 := hb5.size
  have hB5 : Below w.heap.size w w5 := hB4.trans (hb5.mono (by omega))
  replace ho0 := own_below ho0 hb5
  clear hc5 hb5
  go_wp2_with (refine wpList_append_own _ rfl (.tmp 28) (.tmp 32) 33 rfl w3.heap.size 3 inf (.int .i64 0) 1 8 Tryz.underlying33 i1 i2 i3 i4 rfl (by decide) x0 1 [.int .i64 u0] rfl (ho0.alloc _) ⟨w5.heap.size, 0, none⟩ 1 1 [.int .i64 u1] rfl rfl (by intro q u hq; cases q with | zero => simp at hq; subst hq; simp [Addr.add, go_sem] | succ q => simp at hq) (by simp [Value.oneCell']) (by decide) (by decide) (by simp <;> omega) ?_; intro x1 w6 ho1 hg1 _)
  have hz6 := hg1.size
  simp at hz6
  have hB6 : Below w.heap.size w w6 := (hB5.alloc (by omega) _).grown hg1 (by simp <;> omega) (by intro k hk; have := ((ho0.alloc (.cells #[.int .i64 u1] 3)).lt k hk).1; omega)
  rw [rounds_succ]
  go_wp2_with fail
  go_ret
  rw [usesOf_ok hk, hU]
  exact ⟨_, rfl, own_mono ho1 (by omega), hB6⟩
theorem implUses_k1 (r s t a b : Int) (w : World) :
    Calls Tryz.prog 102 #[.agg #[.int .i64 1, .int .i64 r, .int .i64 s, .int .i64 t, .int .i64 a, .int .i64 b]] w fun e w' => OwnRow w (usesOf 1 r s t a b) e w' :=
  implUses_0 (fun _ _ => by kernel_rfl) (fun w => (formOf_any 1 w (by decide) (by decide)).mono fun e w' ⟨hb, x, y, z, he, _⟩ => ⟨he.trans (by rw [row_1]), hb⟩) rfl w
theorem implUses_k2 (r s t a b : Int) (w : World) :
    Calls Tryz.prog 102 #[.agg #[.int .i64 2, .int .i64 r, .int .i64 s, .int .i64 t, .int .i64 a, .int .i64 b]] w fun e w' => OwnRow w (usesOf 2 r s t a b) e w' :=
  implUses_1 (fun _ _ => by kernel_rfl) (fun w => (formOf_any 2 w (by decide) (by decide)).mono fun e w' ⟨hb, x, y, z, he, cx, cy, _, _⟩ => ⟨⟨y, he.trans (by rw [row_2]), cy⟩, hb⟩) en_getS (getS_any _ _ _ _ _ _) rfl w
theorem implUses_k3 (r s t a b : Int) (w : World) :
    Calls Tryz.prog 102 #[.agg #[.int .i64 3, .int .i64 r, .int .i64 s, .int .i64 t, .int .i64 a, .int .i64 b]] w fun e w' => OwnRow w (usesOf 3 r s t a b) e w' :=
  implUses_2 (fun _ _ => by kernel_rfl) (fun w => (formOf_any 3 w (by decide) (by decide)).mono fun e w' ⟨hb, x, y, z, he, _, _, c0, c1⟩ => ⟨⟨z, he.trans (by rw [row_3]), c0, c1⟩, hb⟩) en_getR (getR_any _ _ _ _ _ _) en_getS (getS_any _ _ _ _ _ _) rfl w
theorem implUses_k4 (r s t a b : Int) (w : World) :
    Calls Tryz.prog 102 #[.agg #[.int .i64 4, .int .i64 r, .int .i64 s, .int .i64 t, .int .i64 a, .int .i64 b]] w fun e w' => OwnRow w (usesOf 4 r s t a b) e w' :=
  implUses_0 (fun _ _ => by kernel_rfl) (fun w => (formOf_any 4 w (by decide) (by decide)).mono fun e w' ⟨hb, x, y, z, he, _⟩ => ⟨he.trans (by rw [row_4]), hb⟩) rfl w
theorem implUses_k5 (r s t a b : Int) (w : World) :
    Calls Tryz.prog 102 #[.agg #[.int .i64 5, .int .i64 r, .int .i64 s, .int .i64 t, .int .i64 a, .int .i64 b]] w fun e w' => OwnRow w (usesOf 5 r s t a b) e w' :=
  implUses_0 (fun _ _ => by kernel_rfl) (fun w => (formOf_any 5 w (by decide) (by decide)).mono fun e w' ⟨hb, x, y, z, he, _⟩ => ⟨he.trans (by rw [row_5]), hb⟩) rfl w
theorem implUses_k6 (r s t a b : Int) (w : World) :
    Calls Tryz.prog 102 #[.agg #[.int .i64 6, .int .i64 r, .int .i64 s, .int .i64 t, .int .i64 a, .int .i64 b]] w fun e w' => OwnRow w (usesOf 6 r s t a b) e w' :=
  implUses_2 (fun _ _ => by kernel_rfl) (fun w => (formOf_any 6 w (by decide) (by decide)).mono fun e w' ⟨hb, x, y, z, he, _, _, c0, c1⟩ => ⟨⟨z, he.trans (by rw [row_6]), c0, c1⟩, hb⟩) en_getR (getR_any _ _ _ _ _ _) en_getS (getS_any _ _ _ _ _ _) rfl w
theorem implUses_k7 (r s t a b : Int) (w : World) :
    Calls Tryz.prog 102 #[.agg #[.int .i64 7, .int .i64 r, .int .i64 s, .int .i64 t, .int .i64 a, .int .i64 b]] w fun e w' => OwnRow w (usesOf 7 r s t a b) e w' :=
  implUses_0 (fun _ _ => by kernel_rfl) (fun w => (formOf_any 7 w (by decide) (by decide)).mono fun e w' ⟨hb, x, y, z, he, _⟩ => ⟨he.trans (by rw [row_7]), hb⟩) rfl w
theorem implUses_k8 (r s t a b : Int) (w : World) :
    Calls Tryz.prog 102 #[.agg #[.int .i64 8, .int .i64 r, .int .i64 s, .int .i64 t, .int .i64 a, .int .i64 b]] w fun e w' => OwnRow w (usesOf 8 r s t a b) e w' :=
  implUses_0 (fun _ _ => by kernel_rfl) (fun w => (formOf_any 8 w (by decide) (by decide)).mono fun e w' ⟨hb, x, y, z, he, _⟩ => ⟨he.trans (by rw [row_8]), hb⟩) rfl w
theorem implUses_k9 (r s t a b : Int) (w : World) :
    Calls Tryz.prog 102 #[.agg #[.int .i64 9, .int .i64 r, .int .i64 s, .int .i64 t, .int .i64 a, .int .i64 b]] w fun e w' => OwnRow w (usesOf 9 r s t a b) e w' :=
  implUses_0 (fun _ _ => by kernel_rfl) (fun w => (formOf_any 9 w (by decide) (by decide)).mono fun e w' ⟨hb, x, y, z, he, _⟩ => ⟨he.trans (by rw [row_9]), hb⟩) rfl w
theorem implUses_k10 (r s t a b : Int) (w : World) :
    Calls Tryz.prog 102 #[.agg #[.int .i64 10, .int .i64 r, .int .i64 s, .int .i64 t, .int .i64 a, .int .i64 b]] w fun e w' => OwnRow w (usesOf 10 r s t a b) e w' :=
  implUses_1 (fun _ _ => by kernel_rfl) (fun w => (formOf_any 10 w (by decide) (by decide)).mono fun e w' ⟨hb, x, y, z, he, cx, cy, _, _⟩ => ⟨⟨x, he.trans (by rw [row_10]), cx⟩, hb⟩) en_getR (getR_any _ _ _ _ _ _) rfl w
theorem implUses_k11 (r s t a b : Int) (w : World) :
    Calls Tryz.prog 102 #[.agg #[.int .i64 11, .int .i64 r, .int .i64 s, .int .i64 t, .int .i64 a, .int .i64 b]] w fun e w' => OwnRow w (usesOf 11 r s t a b) e w' :=
  implUses_1 (fun _ _ => by kernel_rfl) (fun w => (formOf_any 11 w (by decide) (by decide)).mono fun e w' ⟨hb, x, y, z, he, cx, cy, _, _⟩ => ⟨⟨x, he.trans (by rw [row_11]), cx⟩, hb⟩) en_getR (getR_any _ _ _ _ _ _) rfl w
theorem implUses_k12 (r s t a b : Int) (w : World) :
    Calls Tryz.prog 102 #[.agg #[.int .i64 12, .int .i64 r, .int .i64 s, .int .i64 t, .int .i64 a, .int .i64 b]] w fun e w' => OwnRow w (usesOf 12 r s t a b) e w' :=
  implUses_1 (fun _ _ => by kernel_rfl) (fun w => (formOf_any 12 w (by decide) (by decide)).mono fun e w' ⟨hb, x, y, z, he, cx, cy, _, _⟩ => ⟨⟨x, he.trans (by rw [row_12]), cx⟩, hb⟩) en_getR (getR_any _ _ _ _ _ _) rfl w
theorem implUses_k13 (r s t a b : Int) (w : World) :
    Calls Tryz.prog 102 #[.agg #[.int .i64 13, .int .i64 r, .int .i64 s, .int .i64 t, .int .i64 a, .int .i64 b]] w fun e w' => OwnRow w (usesOf 13 r s t a b) e w' :=
  implUses_0 (fun _ _ => by kernel_rfl) (fun w => (formOf_any 13 w (by decide) (by decide)).mono fun e w' ⟨hb, x, y, z, he, _⟩ => ⟨he.trans (by rw [row_13]), hb⟩) rfl w
theorem implUses_k14 (r s t a b : Int) (w : World) :
    Calls Tryz.prog 102 #[.agg #[.int .i64 14, .int .i64 r, .int .i64 s, .int .i64 t, .int .i64 a, .int .i64 b]] w fun e w' => OwnRow w (usesOf 14 r s t a b) e w' :=
  implUses_1 (fun _ _ => by kernel_rfl) (fun w => (formOf_any 14 w (by decide) (by decide)).mono fun e w' ⟨hb, x, y, z, he, cx, cy, _, _⟩ => ⟨⟨x, he.trans (by rw [row_14]), cx⟩, hb⟩) en_getR (getR_any _ _ _ _ _ _) rfl w
set_option maxHeartbeats 4000000 in
theorem implUses_out (k r s t a b : Int) (w : World) (h : k < 1 ∨ 14 < k) :
    Calls Tryz.prog 102 #[.agg #[.int .i64 k, .int .i64 r, .int .i64 s, .int .i64 t, .int .i64 a, .int .i64 b]] w fun e w' => OwnRow w (usesOf k r s t a b) e w' := by
  go_enter Tryz.func102, Tryz.ntmps102
  go_wp2_with fail
  refine (formOf_none k _ h).mono ?_
  rintro e w1 ⟨rfl, hb1⟩
  have hz1 := hb1.size
  simp at hz1
  have hB1 : Below w.heap.size w w1 := ((Below.refl _ _).alloc (Nat.le_refl _) _).trans (hb1.mono (by simp))
  clear hb1
  unfold L0
  go_wp2_with fail
  go_ret
  rw [usesOf_bad (opB_out h r s t a b)]
  exact ⟨_, rfl, ⟨rfl, .inl ⟨rfl, rfl⟩⟩, hB1.alloc (by omega) _⟩
/-- the slots that a step reads, of every step -/
theorem implUses_any (k r s t a b : Int) (w : World) :
    Calls Tryz.prog 102 #[.agg #[.int .i64 k, .int .i64 r, .int .i64 s, .int .i64 t, .int .i64 a, .int .i64 b]] w fun e w' => OwnRow w (usesOf k r s t a b) e w' := by
  rcases Decidable.em (k < 1 ∨ 14 < k) with h | h
  · exact implUses_out k r s t a b w h
  · rcases kinds14 (k := k) (by omega) (by omega) with rfl | rfl | rfl | rfl | rfl | rfl | rfl | rfl | rfl | rfl | rfl | rfl | rfl | rfl
    · exact implUses_k1 r s t a b w
    · exact implUses_k2 r s t a b w
    · exact implUses_k3 r s t a b w
    · exact implUses_k4 r s t a b w
    · exact implUses_k5 r s t a b w
    · exact implUses_k6 r s t a b w
    · exact implUses_k7 r s t a b w
    · exact implUses_k8 r s t a b w
    · exact implUses_k9 r s t a b w
    · exact implUses_k10 r s t a b w
    · exact implUses_k11 r s t a b w
    · exact implUses_k12 r s t a b w
    · exact implUses_k13 r s t a b w
    · exact implUses_k14 r s t a b w
end Go.Proofs.YtekmjgkjpdhedaaGreatDoor
namespace Go.Proofs.YtekmjgkjpdhedaaGreatDoor
open Go.ChangeShapes Go.WideShapes Go.ChangeAt Go.RowKit Go.Joins
set_option maxHeartbeats 2000000 in
theorem reads_any (x : OpV) (w : World) (hok : x.ok = true) : Calls Tryz.prog 62 #[x.val] w fun e w' => e = .returned (.int .i64 (foldO (usesL x.k x.r x.s))) ∧ Below w.heap.size w w' := by
  have oi := opIs_of hok
  have hub := uses_bd (k := x.k) ⟨oi.r1, oi.r2⟩ ⟨oi.s1, oi.s2⟩
  have hul := uses_len x.k x.r x.s
  go_enter Tryz.func62, Tryz.ntmps62
  go_wp2_with fail
  refine (implUses_any x.k x.r x.s x.t x.a x.b _).mono ?_
  rintro e w1 ⟨v, rfl, ho, hb1⟩
  rw [usesOf_ok hok] at ho
  have hB1 : Below w.heap.size w w1 := ((Below.refl _ _).alloc (Nat.le_refl _) _).trans (hb1.mono (by simp))
  obtain ⟨ao, cap, rfl, hc⟩ := Owns.ints ho
  generalize hLe : usesL x.k x.r x.s = L at *
  have hLe' : Hid (usesL x.k x.r x.s = L) := hLe
  clear ho hb1 hLe
  go_wp2_with fail
  go_loopw [3, 9] (fun y i wr => ∃ k : Nat, k ≤ L.length ∧ i = .int .i64 k ∧ y = .int .i64 (foldO (L.take k)) ∧ wr = w1) (fun _ i _ => L.length - (intOf i).toNat)
  case atStart => exact ⟨0, Nat.zero_le _, rfl, rfl, rfl⟩
  case round =>
    obtain ⟨k, hk, rfl, rfl, hwr⟩ := hrel
    have hfb := foldO_bd (L.take k)
    by_cases hlt : k < L.length
    · rcases hc with rfl | ⟨b, o, rfl, _, hcc⟩
      · exact absurd hlt (by simp)
      have c0 : wr.cell? ⟨b, o + k, none⟩ = some (.int .i64 L[k]) := by rw [hwr]; exact hcc k hlt
      have hu := hub L[k] (List.getElem_mem hlt)
      have hst : Hid (foldO (L.take (k + 1)) = orB (foldO (L.take k)) (bitOf L[k])) := foldO_take L k hlt
      have hbb := bit_bd L[k]
      have hor := or_i64 (x := foldO (L.take k)) (y := bitOf L[k]) ⟨by omega, hfb.2⟩ hfb.1 hbb.1 hbb.2
      have hwr' : Hid (wr = w1) := hwr
      generalize foldO (L.take k) = y at *
      generalize L[k] = u at *
      clear hcc hwr
      go_wp2_with fail
      refine (slotBit_any u _ hu.1 hu.2).mono ?_
      rintro e wq ⟨rfl, hwq⟩
      rw [hwq]
      clear hwq
      go_wp2_with fail
      go_roundw
      case rel => exact ⟨k + 1, by omega, by go_num, by rw [hst.out], hwr'.out⟩
      case measure => simp [intOf]; omega
    · have e : k = L.length := by omega
      subst e
      rw [List.take_length]
      have hwr' : Hid (wr = w1) := hwr
      clear hwr
      go_wp2_with fail
      go_ret
      exact ⟨by rw [hLe'.out]; rfl, by rw [hwr'.out]; exact hB1⟩
set_option maxHeartbeats 2000000 in
theorem safeAt_any (C : List OpV) (ao : Option Addr) (cap i : Nat) (full : Int) (w : World) (hC : codeB C = true) (h : CodeAt w ao C) (hi : i < C.length) (hf : Bd full) (hf0 : 0 ≤ full) :
    Calls Tryz.prog 36 #[.slice ao C.length cap, .int .i64 i, .int .i64 full] w fun e w' => e = .returned (.bool ((usesL C[i].k C[i].r C[i].s).all (hasB full) && (endsB C[i].k || decide (i + 1 < C.length)))) ∧ Below w.heap.size w w' := by
  obtain ⟨hw, hl, hok⟩ := codeB_well hC
  rcases h with rfl | ⟨b, o, rfl, hlt, hs⟩
  · exact absurd hi (by simp)
  have hoki := hok i hi
  have oi := opIs_of hoki
  have s := hs i hi
  obtain ⟨x, hx0⟩ : ∃ x, x = C[i] := ⟨_, rfl⟩
  rw [← hx0] at s oi hoki ⊢
  clear hx0 hs hok
  obtain ⟨c0, c1, c2, c3, c4, c5⟩ := s
  have han := andNot_uses hf hf0 (usesL x.k x.r x.s) (uses_len _ _ _) (uses_bd ⟨oi.r1, oi.r2⟩ ⟨oi.s1, oi.s2⟩)
  go_enter Tryz.func36, Tryz.ntmps36
  go_wp2_with fail
  refine (reads_any x _ hoki).mono ?_
  rintro e w1 ⟨rfl, hb1⟩
  obtain ⟨hc1, _⟩ := bcell hb1
  have d0 : w1.cell? ⟨w.heap.size, 0, none⟩ = some (.int .i64 x.k) := by rw [hc1 _ _ (by simp)]; simp [go_sem]
  have d1 : w1.cell? ⟨w.heap.size, 1, none⟩ = some (.int .i64 x.r) := by rw [hc1 _ _ (by simp)]; simp [go_sem]
  have d2 : w1.cell? ⟨w.heap.size, 2, none⟩ = some (.int .i64 x.s) := by rw [hc1 _ _ (by simp)]; simp [go_sem]
  have d3 : w1.cell? ⟨w.heap.size, 3, none⟩ = some (.int .i64 x.t) := by rw [hc1 _ _ (by simp)]; simp [go_sem]
  have d4 : w1.cell? ⟨w.heap.size, 4, none⟩ = some (.int .i64 x.a) := by rw [hc1 _ _ (by simp)]; simp [go_sem]
  have d5 : w1.cell? ⟨w.heap.size, 5, none⟩ = some (.int .i64 x.b) := by rw [hc1 _ _ (by simp)]; simp [go_sem]
  have hz1 := hb1.size
  simp at hz1
  have hB1 : Below w.heap.size w w1 := ((Below.refl _ _).alloc (Nat.le_refl _) _).trans (hb1.mono (by simp))
  clear hc1 hb1 c0 c1 c2 c3 c4 c5
  generalize hae : (usesL x.k x.r x.s).all (hasB full) = A at *
  have hae' : Hid ((usesL x.k x.r x.s).all (hasB full) = A) := hae
  generalize foldO (usesL x.k x.r x.s) = R at *
  clear hae
  cases A with
  | false =>
    go_wp2_with fail
    go_ret
    exact ⟨by rw [hae'.out]; rfl, hB1⟩
  | true =>
    go_wp2_with fail
    refine (goesOrEnds_any x _).mono ?_
    rintro e w2 ⟨rfl, hb2⟩
    have hB2 : Below w.heap.size w w2 := hB1.trans (hb2.mono (by omega))
    cases he : endsB x.k with
    | true =>
      go_wp2_with fail
      go_ret
      exact ⟨by rw [hae'.out, he]; rfl, hB2⟩
    | false =>
      have e1 : Hid (decide ((i : Int) + 1 < (C.length : Int)) = decide (i + 1 < C.length)) := by show _ = _; congr 1; simp; omega
      go_wp2_with fail
      go_ret
      refine ⟨?_, hB2⟩
      rw [hae'.out, he]
      simp
      omega
set_option maxHeartbeats 4000000 in
theorem implCodeSafe_any (C : List OpV) (ao : Option Addr) (cap : Nat) (w : World) (hl : C.length ≤ 1048576) (h : CodeAt w ao C) :
    Calls Tryz.prog 16 #[.slice ao C.length cap] w fun e w' => ∃ b, e = .returned (.bool b) ∧ SafeOf C b ∧ Below w.heap.size w w' := by
  go_enter Tryz.func16, Tryz.ntmps16
  go_wp2_with fail
  refine (implCodeFull_any C ao cap _ hl h).mono ?_
  rintro e w1 ⟨v1, V, rfl, hV, hO, hb1⟩
  have hVl := fullOf_len hV
  have hz1 := hb1.size
  obtain ⟨ao1, cap1, rfl, hcells⟩ := Owns.ints hO
  have hcode := h.below hb1
  clear hO
  go_wp2_with fail
  go_loopw [8] (fun i wr => ∃ k : Nat, k ≤ V.length ∧ i = .int .i64 k ∧ Below w1.heap.size w1 wr ∧ ∀ j, j < k → safeP C V j) (fun i _ => V.length - (intOf i).toNat)
  case atStart => exact ⟨0, Nat.zero_le _, rfl, Below.refl _ _, fun j hj => by omega⟩
  case round =>
    obtain ⟨k, hk, rfl, hB, hU⟩ := hrel
    have hzr := hB.size
    by_cases hlt : k < V.length
    · rcases hV with ⟨hC, hF⟩ | ⟨hC, rfl⟩
      · have hkl : k < C.length := by omega
        rcases hcells with rfl | ⟨b, o, rfl, hbl, hc⟩
        · exact absurd hlt (by simp)
        have c0 : wr.cell? ⟨b, o + k, none⟩ = some (.int .i64 (atV V k)) := by
          rw [hB.cell (p := ⟨b, o + k, none⟩) hbl, hc k hlt]
          simp [atV, List.getD_eq_getElem?_getD, List.getElem?_eq_getElem hlt]
        have hbd := hF.1.1.2 k
        have hbd1 := hbd.1
        have hP : Hid (safeP C V k ↔ ((0 ≤ atV V k) → ((usesL C[k].k C[k].r C[k].s).all (hasB (atV V k)) && (endsB C[k].k || decide (k + 1 < C.length))) = true)) := by
          show _ ↔ _
          unfold safeP
          constructor
          · intro hh h0; have := hh hkl h0; simp; exact ⟨fun u hu => this.1 u hu, this.2⟩
          · intro hh _ h0; have := hh h0; simp at this; exact ⟨this.1, this.2⟩
        have hcall := fun h0 => safeAt_any C ao cap k (atV V k) wr hC (hcode.below hB) hkl hbd h0
        generalize ((usesL C[k].k C[k].r C[k].s).all (hasB (atV V k)) && (endsB C[k].k || decide (k + 1 < C.length))) = A at *
        generalize atV V k = x at *
        clear hc
        by_cases hx : x = -1
        · have hx' : (x != -1) = false := by simp [hx]
          have hn : Hid (∀ j, j < k + 1 → safeP C V j) := fun j hj => by
            by_cases e : j < k
            · exact hU j e
            · have : j = k := by omega
              subst this
              exact hP.out.2 fun h0 => by omega
          clear hx hU hcall
          go_wp2_with fail
          go_roundw
          case rel => exact ⟨k + 1, by omega, by go_num, hB, hn.out⟩
          case measure => simp [intOf]; omega
        · have hx' : (x != -1) = true := by simp [hx]
          have h0 : 0 ≤ x := by omega
          have hcall' := hcall h0
          have hU' : Hid (∀ j, j < k → safeP C V j) := hU
          clear hx hcall hU
          go_wp2_with fail
          refine hcall'.mono ?_
          rintro e w2 ⟨rfl, hb2⟩
          have hB2 : Below w1.heap.size w1 w2 := hB.trans (hb2.mono hzr)
          clear hcall'
          cases A with
          | true =>
            have hn : Hid (∀ j, j < k + 1 → safeP C V j) := fun j hj => by
              by_cases e : j < k
              · exact hU'.out j e
              · have : j = k := by omega
                subst this
                exact hP.out.2 fun _ => rfl
            go_wp2_with fail
            go_roundw
            case rel => exact ⟨k + 1, by omega, by go_num, hB2, hn.out⟩
            case measure => simp [intOf]; omega
          | false =>
            go_wp2_with fail
            go_ret
            exact ⟨false, rfl, safe_no hC hF hkl (fun hh => absurd (hP.out.1 hh h0) (by decide)), hb1.trans (hB2.mono (by omega))⟩
      · exact absurd hlt (by simp)
    · have e : k = V.length := by omega
      subst e
      go_wp2_with fail
      refine (implCodeOk_any C ao cap _ hl (hcode.below hB)).mono ?_
      rintro e w2 ⟨rfl, hb2⟩
      go_wp2_with fail
      go_ret
      refine ⟨_, rfl, ?_, hb1.trans ((hB.mono (by omega)).trans (hb2.mono (by omega)))⟩
      rcases hV with ⟨hC, hF⟩ | ⟨hC, rfl⟩
      · rw [hC]
        exact safe_yes hC hF (fun i hi => hU i (by rw [show V.length = C.length from hF.1.1.1]; exact hi))
      · rw [hC]; exact .inr ⟨hC, rfl⟩
end Go.Proofs.YtekmjgkjpdhedaaGreatDoor
