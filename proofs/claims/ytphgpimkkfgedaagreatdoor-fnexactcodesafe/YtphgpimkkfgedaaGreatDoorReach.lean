/-
  The places that are come to, apart from any program: the least list that holds the first one and, with each, all to which one comes from it; they are those where something is full. No condition.
-/
import Derived.Test.YtphgpimkkfgedaaGreatDoorFull
namespace Go.Proofs.YtphgpimkkfgedaaGreatDoor
/-- the places to which one comes from a place -/
def nextL (o : OpV) (i n : Nat) : List Nat :=
  let out := if (!(o.k == 9 || o.k == 14) && decide (i + 1 < n)) = true then [i + 1] else []
  if (goesB o.k && !(out.contains o.t.toNat)) = true then out ++ [o.t.toNat] else out
theorem next_ways (o : OpV) (i n : Nat) (x : Int) (j : Nat) : j ∈ nextL o i n ↔ ∃ p ∈ waysL o i n x, p.1 = j := by
  have hg : goesB o.k = true ↔ ∃ p ∈ toW o x, True := by
    unfold goesB toW
    constructor
    · intro h
      simp only [Bool.or_eq_true, beq_iff_eq] at h
      rcases h with ((h | h) | h) | h <;> simp [h]
    · rintro ⟨p, hp, _⟩
      split at hp
      · rename_i h; rcases h with h | h | h <;> simp [h]
      · split at hp
        · rename_i h; simp [h]
        · cases hp
  have ht : ∀ p ∈ toW o x, p.1 = o.t.toNat := by
    intro p hp
    unfold toW at hp
    split at hp
    · rw [List.mem_singleton.1 hp]
    · split at hp
      · rw [List.mem_singleton.1 hp]
      · cases hp
  have hn : ∀ j, j ∈ (if (!(o.k == 9 || o.k == 14) && decide (i + 1 < n)) = true then [i + 1] else []) ↔ ∃ p ∈ nextW o i n x, p.1 = j := by
    intro j
    unfold nextW
    split
    · simp [eq_comm]
    · simp
  have hm : j ∈ nextL o i n ↔ j ∈ (if (!(o.k == 9 || o.k == 14) && decide (i + 1 < n)) = true then [i + 1] else []) ∨ (goesB o.k = true ∧ j = o.t.toNat) := by
    unfold nextL
    generalize (if (!(o.k == 9 || o.k == 14) && decide (i + 1 < n)) = true then [i + 1] else []) = out
    simp only
    by_cases hg : goesB o.k = true
    · by_cases hc : o.t.toNat ∈ out
      · simp only [hg, hc, Bool.true_and, List.contains_eq_mem, decide_true, Bool.not_true, Bool.false_eq_true, if_false, true_and]
        constructor
        · exact .inl
        · rintro (h | h)
          · exact h
          · subst h; exact hc
      · simp [hg, hc]
    · simp [hg]
  rw [hm, hn]
  unfold waysL
  constructor
  · rintro (⟨p, hp, e⟩ | ⟨h, e⟩)
    · exact ⟨p, List.mem_append.2 (.inl hp), e⟩
    · obtain ⟨p, hp, _⟩ := hg.1 h
      exact ⟨p, List.mem_append.2 (.inr hp), (ht p hp).trans e.symm⟩
  · rintro ⟨p, hp, e⟩
    rcases List.mem_append.1 hp with hp | hp
    · exact .inl ⟨p, hp, e⟩
    · exact .inr ⟨hg.2 ⟨p, hp, trivial⟩, e.symm.trans (ht p hp)⟩
theorem next_lt {C : List OpV} (hC : Well C) {i : Nat} (hi : i < C.length) : ∀ j ∈ nextL C[i] i C.length, j < C.length := by
  intro j hj
  obtain ⟨p, hp, rfl⟩ := (next_ways _ _ _ 0 j).1 hj
  exact (ways_bd hC hi ⟨by decide, by decide⟩ (by decide) p hp).1
theorem next_len (o : OpV) (i n : Nat) : (nextL o i n).length ≤ 2 := by
  unfold nextL; simp only; split <;> split <;> simp
theorem next_nodup (o : OpV) (i n : Nat) : (nextL o i n).Nodup := by
  have h0 : (if (!(o.k == 9 || o.k == 14) && decide (i + 1 < n)) = true then [i + 1] else []).Nodup := by split <;> simp
  unfold nextL
  generalize (if (!(o.k == 9 || o.k == 14) && decide (i + 1 < n)) = true then [i + 1] else []) = out at *
  simp only
  split
  · rename_i h
    simp only [Bool.and_eq_true, Bool.not_eq_true', List.contains_eq_mem, decide_eq_false_iff_not] at h
    rw [List.nodup_append]
    refine ⟨h0, by simp, ?_⟩
    intro a ha b hb e
    rw [List.mem_singleton.1 hb] at e
    subst e; exact h.2 ha
  · exact h0
/-- it has the first place, and with each all to which one comes from it -/
def Shut (C : List OpV) (S : Nat → Prop) : Prop := S 0 ∧ ∀ i (hi : i < C.length), S i → ∀ j ∈ nextL C[i] i C.length, S j
def IsReach (C : List OpV) (S : Nat → Prop) : Prop := Shut C S ∧ ∀ T, Shut C T → ∀ i, i < C.length → S i → T i
theorem full_reach {C : List OpV} (hC : Well C) {v : List Int} (h : IsFull C v) {S : Nat → Prop} (hS : IsReach C S) (i : Nat) (hi : i < C.length) : 0 ≤ atV v i ↔ S i := by
  constructor
  · intro h0
    apply Classical.byContradiction
    intro hn
    have hd : ∀ j, ∃ x : Int, (S j → x = 0) ∧ (¬ S j → x = -1) := fun j => by
      rcases Classical.em (S j) with h | h
      · exact ⟨0, fun _ => rfl, fun h' => absurd h h'⟩
      · exact ⟨-1, fun h' => absurd h' h, fun _ => rfl⟩
    obtain ⟨f, hf⟩ : ∃ f : Nat → Int, ∀ j, (S j → f j = 0) ∧ (¬ S j → f j = -1) := ⟨fun j => Classical.choose (hd j), fun j => Classical.choose_spec (hd j)⟩
    have ha : ∀ j, j < C.length → atV ((List.range C.length).map f) j = f j := by
      intro j hj
      unfold atV
      rw [List.getD_eq_getElem?_getD, List.getElem?_map, List.getElem?_range hj]; rfl
    have hb : ∀ j, Bd (f j) := fun j => by
      rcases Classical.em (S j) with h | h
      · rw [(hf j).1 h]; exact ⟨by decide, by decide⟩
      · rw [(hf j).2 h]; exact ⟨by decide, by decide⟩
    have hv : Vec C ((List.range C.length).map f) := by
      refine ⟨by simp, fun j => ?_⟩
      by_cases hj : j < C.length
      · rw [ha j hj]; exact hb j
      · unfold atV
        rw [List.getD_eq_getElem?_getD, List.getElem?_eq_none (by simp; omega)]; exact ⟨by decide, by decide⟩
    have hsol : Sol C ((List.range C.length).map f) := by
      refine ⟨hv, ?_, fun j hj h0 p hp => ?_⟩
      · rw [ha 0 hC.1, (hf 0).1 hS.1.1]; exact le_zero ⟨by decide, by decide⟩
      · rw [ha j hj] at h0 hp
        have hSj : S j := by
          apply Classical.byContradiction
          intro hn; rw [(hf j).2 hn] at h0; exact absurd h0 (by decide)
        obtain ⟨b1, b2⟩ := ways_bd hC hj (hb j) h0 p hp
        have := hS.1.2 j hj hSj p.1 ((next_ways _ _ _ _ _).2 ⟨p, hp, rfl⟩)
        rw [ha _ b1, (hf _).1 this]
        exact le_zero ⟨by omega, b2.2⟩
    have := h.2 _ hsol i
    rw [ha i hi, (hf i).2 hn] at this
    have h2 := le_nn (x := -1) ⟨by decide, by decide⟩ (h.1.1.2 i) h0 this
    exact absurd h2 (by decide)
  · intro hs
    refine hS.2 (fun j => 0 ≤ atV v j) ⟨?_, fun j hj h0 m hm => ?_⟩ i hi hs
    · exact le_nn (h.1.1.2 0) ⟨by decide, by decide⟩ (by decide) h.1.2.1
    · obtain ⟨p, hp, rfl⟩ := (next_ways _ _ _ (atV v j) m).1 hm
      have b := (ways_bd hC hj (h.1.1.2 j) h0 p hp).2
      exact le_nn (h.1.1.2 _) ⟨by omega, b.2⟩ b.1 (h.1.2.2 j hj h0 p hp)
/-! ### the list that grows -/
/-- with a place more, unless it is there -/
def addL (L : List Nat) (j : Nat) : List Nat := if L.contains j = true then L else L ++ [j]
def addAll (L : List Nat) (M : List Nat) : List Nat := M.foldl addL L
/-- the places up to i have been gone on from -/
def Gone (C : List OpV) (L : List Nat) (i : Nat) : Prop :=
  L.Nodup ∧ 0 ∈ L ∧ (∀ x ∈ L, x < C.length) ∧ (∀ T, Shut C T → ∀ x ∈ L, T x) ∧ ∀ j (hj : j < L.length), j < i → ∀ (h : L[j] < C.length), ∀ m ∈ nextL C[L[j]] L[j] C.length, m ∈ L
theorem add_pre (L : List Nat) (j : Nat) : ∃ M, addL L j = L ++ M := by
  unfold addL; split
  · exact ⟨[], by simp⟩
  · exact ⟨[j], rfl⟩
theorem addAll_pre : ∀ (M L : List Nat), ∃ K, addAll L M = L ++ K
  | [], L => ⟨[], by simp [addAll]⟩
  | m :: M, L => by
    obtain ⟨K1, h1⟩ := add_pre L m
    obtain ⟨K2, h2⟩ := addAll_pre M (addL L m)
    exact ⟨K1 ++ K2, by unfold addAll at *; rw [List.foldl_cons, h2, h1]; simp⟩
theorem mem_add (L : List Nat) (j x : Nat) : x ∈ addL L j ↔ x ∈ L ∨ x = j := by
  unfold addL; split
  · rename_i h
    constructor
    · exact .inl
    · rintro (h' | rfl)
      · exact h'
      · simpa using h
  · simp
theorem mem_addAll : ∀ (M L : List Nat) (x : Nat), x ∈ addAll L M ↔ x ∈ L ∨ x ∈ M
  | [], L, x => by simp [addAll]
  | m :: M, L, x => by
    have := mem_addAll M (addL L m) x
    unfold addAll at *
    rw [List.foldl_cons, this, mem_add]
    simp [or_assoc]
theorem nodup_add {L : List Nat} (h : L.Nodup) (j : Nat) : (addL L j).Nodup := by
  unfold addL; split
  · exact h
  · rename_i hc
    rw [List.nodup_append]
    refine ⟨h, by simp, ?_⟩
    intro a ha b hb e
    rw [List.mem_singleton.1 hb] at e
    subst e; exact hc (by simpa using ha)
theorem nodup_addAll : ∀ (M : List Nat) {L : List Nat}, L.Nodup → (addAll L M).Nodup
  | [], L, h => by simpa [addAll] using h
  | m :: M, L, h => by
    have := nodup_addAll M (nodup_add h m)
    unfold addAll at *
    rwa [List.foldl_cons]
theorem gone_start {C : List OpV} (hC : Well C) : Gone C [0] 0 :=
  ⟨by simp, by simp, fun x hx => by rw [List.mem_singleton.1 hx]; exact hC.1, fun T hT x hx => by rw [List.mem_singleton.1 hx]; exact hT.1, fun j _ h => by omega⟩
theorem gone_step {C : List OpV} (hC : Well C) {L : List Nat} {i : Nat} (h : Gone C L i) (hi : i < L.length) (hl : L[i] < C.length) : Gone C (addAll L (nextL C[L[i]] L[i] C.length)) (i + 1) := by
  obtain ⟨h1, h2, h3, h4, h5⟩ := h
  obtain ⟨K, hK⟩ := addAll_pre (nextL C[L[i]] L[i] C.length) L
  refine ⟨nodup_addAll _ h1, (mem_addAll _ _ _).2 (.inl h2), fun x hx => ?_, fun T hT x hx => ?_, fun j hj hji hl' m hm => ?_⟩
  · rcases (mem_addAll _ _ _).1 hx with h | h
    · exact h3 x h
    · exact next_lt hC hl x h
  · rcases (mem_addAll _ _ _).1 hx with h | h
    · exact h4 T hT x h
    · exact hT.2 _ hl (h4 T hT _ (List.getElem_mem hi)) x h
  · have e : (addAll L (nextL C[L[i]] L[i] C.length))[j] = L[j]'(by omega) := by
      simp only [hK]
      exact List.getElem_append_left (by omega)
    simp only [e] at hm
    rw [mem_addAll]
    by_cases hji' : j < i
    · exact .inl (h5 j (by omega) hji' (by rw [← e]; exact hl') m hm)
    · have : j = i := by omega
      subst this
      exact .inr hm
theorem nodup_le : ∀ (n : Nat) (L : List Nat), L.Nodup → (∀ x ∈ L, x < n) → L.length ≤ n
  | 0, L, _, h => by
    cases L with
    | nil => simp
    | cons a l => exact absurd (h a (by simp)) (by omega)
  | n + 1, L, hn, h => by
    have h1 := nodup_le n (L.erase n) (hn.erase n) (fun x hx => by
      have hx' := List.mem_of_mem_erase hx
      have h2 := h x hx'
      have h3 : x ≠ n := by rintro rfl; exact (List.Nodup.not_mem_erase hn) hx
      omega)
    have h2 := List.length_erase (l := L) (a := n)
    split at h2 <;> omega
theorem gone_len {C : List OpV} {L : List Nat} {i : Nat} (h : Gone C L i) : L.length ≤ C.length := nodup_le _ _ h.1 h.2.2.1
theorem gone_done {C : List OpV} {L : List Nat} {i : Nat} (h : Gone C L i) (hi : L.length ≤ i) : IsReach C (fun x => x ∈ L) := by
  obtain ⟨h1, h2, h3, h4, h5⟩ := h
  refine ⟨⟨h2, fun j hj hm x hx => ?_⟩, fun T hT x _ hx => h4 T hT x hx⟩
  obtain ⟨q, hq, e⟩ := List.getElem_of_mem hm
  subst e
  exact h5 q hq (by omega) hj x hx
end Go.Proofs.YtphgpimkkfgedaaGreatDoor
