/-
  What is full ahead of each step, apart from any program: the greatest solution of the ways' bounds, that there is but one, and how it is come to by merging ways one by one. No condition but that bits are from -1 to 15.
-/
import Derived.Below
namespace Go.Proofs.YtekmjgkjpdhedaaGreatDoor
/-- a step, by its numbers -/
structure OpV where
  k : Int
  r : Int
  s : Int
  t : Int
  a : Int
  b : Int
/-- what two ways bring together; -1: nobody has come -/
def meet (x y : Int) : Int := if x < 0 then y else ((x.toNat &&& y.toNat : Nat) : Int)
def orB (x y : Int) : Int := ((x.toNat ||| y.toNat : Nat) : Int)
def bitOf (r : Int) : Int := if r = 0 then 1 else if r = 1 then 2 else if r = 2 then 4 else 8
/-- no more than -/
abbrev Le (x y : Int) : Prop := y = -1 ∨ meet x y = x
def Bd (x : Int) : Prop := -1 ≤ x ∧ x ≤ 15
def rank (x : Int) : Nat := if x < 0 then 5 else x.toNat % 2 + x.toNat / 2 % 2 + x.toNat / 4 % 2 + x.toNat / 8 % 2
theorem bd_fin {x : Int} (h : Bd x) : ∃ i : Fin 17, x = (i.val : Int) - 1 := by
  obtain ⟨h1, h2⟩ := h
  exact ⟨⟨(x + 1).toNat, by omega⟩, by simp; omega⟩
theorem meet_bd {x y : Int} (hx : Bd x) (h1 : 0 ≤ y) (h2 : y ≤ 15) : 0 ≤ meet x y ∧ meet x y ≤ 15 := by
  have key : ∀ i j : Fin 17, 0 ≤ (j.val : Int) - 1 → 0 ≤ meet ((i.val : Int) - 1) ((j.val : Int) - 1) ∧ meet ((i.val : Int) - 1) ((j.val : Int) - 1) ≤ 15 := by decide +kernel
  obtain ⟨i, rfl⟩ := bd_fin hx
  obtain ⟨j, rfl⟩ := bd_fin (x := y) ⟨by omega, h2⟩
  exact key i j h1
theorem meet_left {x y : Int} (hx : Bd x) (h1 : 0 ≤ y) (h2 : y ≤ 15) : Le (meet x y) x := by
  have key : ∀ i j : Fin 17, 0 ≤ (j.val : Int) - 1 → Le (meet ((i.val : Int) - 1) ((j.val : Int) - 1)) ((i.val : Int) - 1) := by decide +kernel
  obtain ⟨i, rfl⟩ := bd_fin hx
  obtain ⟨j, rfl⟩ := bd_fin (x := y) ⟨by omega, h2⟩
  exact key i j h1
theorem meet_right {x y : Int} (hx : Bd x) (h1 : 0 ≤ y) (h2 : y ≤ 15) : Le (meet x y) y := by
  have key : ∀ i j : Fin 17, 0 ≤ (j.val : Int) - 1 → Le (meet ((i.val : Int) - 1) ((j.val : Int) - 1)) ((j.val : Int) - 1) := by decide +kernel
  obtain ⟨i, rfl⟩ := bd_fin hx
  obtain ⟨j, rfl⟩ := bd_fin (x := y) ⟨by omega, h2⟩
  exact key i j h1
theorem le_meet {u x y : Int} (hu : Bd u) (hx : Bd x) (h1 : 0 ≤ y) (h2 : y ≤ 15) (a : Le u x) (b : Le u y) : Le u (meet x y) := by
  have key : ∀ i j l : Fin 17, 0 ≤ (l.val : Int) - 1 → Le ((i.val : Int) - 1) ((j.val : Int) - 1) → Le ((i.val : Int) - 1) ((l.val : Int) - 1) → Le ((i.val : Int) - 1) (meet ((j.val : Int) - 1) ((l.val : Int) - 1)) := by decide +kernel
  obtain ⟨i, rfl⟩ := bd_fin hu
  obtain ⟨j, rfl⟩ := bd_fin hx
  obtain ⟨l, rfl⟩ := bd_fin (x := y) ⟨by omega, h2⟩
  exact key i j l h1 a b
theorem le_trans3 {u x y : Int} (hu : Bd u) (hx : Bd x) (hy : Bd y) (a : Le u x) (b : Le x y) : Le u y := by
  have key : ∀ i j l : Fin 17, Le ((i.val : Int) - 1) ((j.val : Int) - 1) → Le ((j.val : Int) - 1) ((l.val : Int) - 1) → Le ((i.val : Int) - 1) ((l.val : Int) - 1) := by decide +kernel
  obtain ⟨i, rfl⟩ := bd_fin hu
  obtain ⟨j, rfl⟩ := bd_fin hx
  obtain ⟨l, rfl⟩ := bd_fin hy
  exact key i j l a b
theorem le_anti {x y : Int} (hx : Bd x) (hy : Bd y) (a : Le x y) (b : Le y x) : x = y := by
  have key : ∀ i j : Fin 17, Le ((i.val : Int) - 1) ((j.val : Int) - 1) → Le ((j.val : Int) - 1) ((i.val : Int) - 1) → (i.val : Int) - 1 = (j.val : Int) - 1 := by decide +kernel
  obtain ⟨i, rfl⟩ := bd_fin hx
  obtain ⟨j, rfl⟩ := bd_fin hy
  exact key i j a b
theorem le_self {x : Int} (hx : Bd x) : Le x x := by
  have key : ∀ i : Fin 17, Le ((i.val : Int) - 1) ((i.val : Int) - 1) := by decide +kernel
  obtain ⟨i, rfl⟩ := bd_fin hx
  exact key i
theorem le_nn {x y : Int} (hx : Bd x) (hy : Bd y) (h : 0 ≤ y) (a : Le x y) : 0 ≤ x := by
  have key : ∀ i j : Fin 17, 0 ≤ (j.val : Int) - 1 → Le ((i.val : Int) - 1) ((j.val : Int) - 1) → 0 ≤ (i.val : Int) - 1 := by decide +kernel
  obtain ⟨i, rfl⟩ := bd_fin hx
  obtain ⟨j, rfl⟩ := bd_fin hy
  exact key i j h a
theorem le_zero {y : Int} (hy : Bd y) : Le 0 y := by
  have key : ∀ i : Fin 17, Le 0 ((i.val : Int) - 1) := by decide +kernel
  obtain ⟨i, rfl⟩ := bd_fin hy
  exact key i
theorem or_mono {x y b : Int} (hx : Bd x) (hy : Bd y) (h1 : 0 ≤ y) (hb : 0 ≤ b) (hb2 : b ≤ 15) (a : Le x y) : Le (orB x b) (orB y b) := by
  have key : ∀ i j l : Fin 17, 0 ≤ (j.val : Int) - 1 → 0 ≤ (l.val : Int) - 1 → Le ((i.val : Int) - 1) ((j.val : Int) - 1) → Le (orB ((i.val : Int) - 1) ((l.val : Int) - 1)) (orB ((j.val : Int) - 1) ((l.val : Int) - 1)) := by decide +kernel
  obtain ⟨i, rfl⟩ := bd_fin hx
  obtain ⟨j, rfl⟩ := bd_fin hy
  obtain ⟨l, rfl⟩ := bd_fin (x := b) ⟨by omega, hb2⟩
  exact key i j l h1 hb a
theorem or_bd {x b : Int} (hx : Bd x) (h0 : 0 ≤ x) (hb : 0 ≤ b) (hb2 : b ≤ 15) : 0 ≤ orB x b ∧ orB x b ≤ 15 := by
  have key : ∀ i j : Fin 17, 0 ≤ (i.val : Int) - 1 → 0 ≤ (j.val : Int) - 1 → 0 ≤ orB ((i.val : Int) - 1) ((j.val : Int) - 1) ∧ orB ((i.val : Int) - 1) ((j.val : Int) - 1) ≤ 15 := by decide +kernel
  obtain ⟨i, rfl⟩ := bd_fin hx
  obtain ⟨j, rfl⟩ := bd_fin (x := b) ⟨by omega, hb2⟩
  exact key i j h0 hb
theorem rank_le (x : Int) : rank x ≤ 5 := by unfold rank; split <;> omega
theorem rank_meet {x y : Int} (hx : Bd x) (h1 : 0 ≤ y) (h2 : y ≤ 15) (h : meet x y ≠ x) : rank (meet x y) < rank x := by
  have key : ∀ i j : Fin 17, 0 ≤ (j.val : Int) - 1 → meet ((i.val : Int) - 1) ((j.val : Int) - 1) ≠ (i.val : Int) - 1 → rank (meet ((i.val : Int) - 1) ((j.val : Int) - 1)) < rank ((i.val : Int) - 1) := by decide +kernel
  obtain ⟨i, rfl⟩ := bd_fin hx
  obtain ⟨j, rfl⟩ := bd_fin (x := y) ⟨by omega, h2⟩
  exact key i j h1 h

/-! ### ways -/
def goesB (k : Int) : Bool := k == 5 || k == 8 || k == 9 || k == 10
def fillsB (k : Int) : Bool := k == 1 || k == 2 || k == 4 || k == 5 || k == 7 || k == 8
def onB (o : OpV) (x : Int) : Int := if fillsB o.k = true then orB x (bitOf o.r) else x
def nextW (o : OpV) (i n : Nat) (x : Int) : List (Nat × Int) := if (!(o.k == 9 || o.k == 14) && decide (i + 1 < n)) = true then [(i + 1, onB o x)] else []
def toW (o : OpV) (x : Int) : List (Nat × Int) := if o.k = 8 ∨ o.k = 9 ∨ o.k = 10 then [(o.t.toNat, x)] else if o.k = 5 then [(o.t.toNat, 1)] else []
/-- the ways out of a place -/
def waysL (o : OpV) (i n : Nat) (x : Int) : List (Nat × Int) := nextW o i n x ++ toW o x
def atV (v : List Int) (i : Nat) : Int := v.getD i (-1)
theorem atV_set (v : List Int) (i j : Nat) (x : Int) (h : i < v.length) : atV (v.set i x) j = if i = j then x else atV v j := by
  unfold atV
  rw [List.getD_eq_getElem?_getD, List.getElem?_set]
  by_cases e : i = j
  · subst e; simp [h]
  · simp [e]
/-- the steps' places are such, and their slots -/
def Well (C : List OpV) : Prop := 0 < C.length ∧ ∀ i (h : i < C.length), 0 ≤ C[i].t ∧ C[i].t < C.length ∧ 0 ≤ C[i].r ∧ C[i].r ≤ 3
theorem bit_bd (r : Int) : 0 ≤ bitOf r ∧ bitOf r ≤ 15 := by unfold bitOf; repeat' split <;> omega
theorem on_bd (o : OpV) {x : Int} (hx : Bd x) (h0 : 0 ≤ x) : 0 ≤ onB o x ∧ onB o x ≤ 15 := by
  unfold onB; split
  · exact or_bd hx h0 (bit_bd _).1 (bit_bd _).2
  · exact ⟨h0, hx.2⟩
theorem on_mono (o : OpV) {x y : Int} (hx : Bd x) (hy : Bd y) (h0 : 0 ≤ y) (a : Le x y) : Le (onB o x) (onB o y) := by
  unfold onB; split
  · exact or_mono hx hy h0 (bit_bd _).1 (bit_bd _).2 a
  · exact a
theorem ways_bd {C : List OpV} (hC : Well C) {i : Nat} (hi : i < C.length) {x : Int} (hx : Bd x) (h0 : 0 ≤ x) : ∀ p ∈ waysL C[i] i C.length x, p.1 < C.length ∧ 0 ≤ p.2 ∧ p.2 ≤ 15 := by
  intro p hp
  have ht := hC.2 i hi
  rcases List.mem_append.1 hp with hp | hp
  · unfold nextW at hp
    split at hp
    · rename_i h
      simp only [Bool.and_eq_true, decide_eq_true_eq] at h
      rw [List.mem_singleton.1 hp]
      exact ⟨h.2, on_bd _ hx h0⟩
    · cases hp
  · unfold toW at hp
    split at hp
    · rw [List.mem_singleton.1 hp]; exact ⟨by dsimp only; omega, h0, hx.2⟩
    · split at hp
      · rw [List.mem_singleton.1 hp]; exact ⟨by dsimp only; omega, by simp, by simp⟩
      · cases hp
/-- with less ahead no more is brought -/
theorem ways_mono {o : OpV} {i n : Nat} {x y : Int} (hx : Bd x) (hy : Bd y) (h0 : 0 ≤ y) (a : Le x y) : ∀ p ∈ waysL o i n y, ∃ q ∈ waysL o i n x, q.1 = p.1 ∧ Le q.2 p.2 := by
  intro p hp
  rcases List.mem_append.1 hp with hp | hp
  · unfold nextW at hp
    split at hp
    · rename_i h
      rw [List.mem_singleton.1 hp]
      exact ⟨(i + 1, onB o x), List.mem_append.2 (.inl (by unfold nextW; rw [if_pos h]; simp)), rfl, on_mono o hx hy h0 a⟩
    · cases hp
  · unfold toW at hp
    split at hp
    · rename_i h
      rw [List.mem_singleton.1 hp]
      exact ⟨(o.t.toNat, x), List.mem_append.2 (.inr (by unfold toW; rw [if_pos h]; simp)), rfl, a⟩
    · split at hp
      · rename_i h h'
        rw [List.mem_singleton.1 hp]
        exact ⟨(o.t.toNat, 1), List.mem_append.2 (.inr (by unfold toW; rw [if_neg h, if_pos h']; simp)), rfl, le_self ⟨by simp, by simp⟩⟩
      · cases hp
/-- bits, one for each place -/
def Vec (C : List OpV) (v : List Int) : Prop := v.length = C.length ∧ ∀ i, Bd (atV v i)
theorem Vec.set {C : List OpV} {v : List Int} (h : Vec C v) {i : Nat} (hi : i < C.length) {x : Int} (hx : Bd x) : Vec C (v.set i x) := by
  refine ⟨by simp [h.1], fun j => ?_⟩
  rw [atV_set _ _ _ _ (by rw [h.1]; exact hi)]
  split
  · exact hx
  · exact h.2 j
/-- the ways' bounds are kept -/
def Sol (C : List OpV) (v : List Int) : Prop :=
  Vec C v ∧ Le (atV v 0) 1 ∧ ∀ i (hi : i < C.length), 0 ≤ atV v i → ∀ p ∈ waysL C[i] i C.length (atV v i), Le (atV v p.1) p.2
/-- nobody has more -/
def Top (C : List OpV) (v : List Int) : Prop := ∀ u, Sol C u → ∀ i, Le (atV u i) (atV v i)
/-- what is full -/
def IsFull (C : List OpV) (v : List Int) : Prop := Sol C v ∧ Top C v
theorem full_one {C : List OpV} {u v : List Int} (h : IsFull C u) (k : IsFull C v) : u = v := by
  have h1 := h.1.1
  have k1 := k.1.1
  apply List.ext_getElem (by rw [h1.1, k1.1])
  intro i a b
  have e := le_anti (h1.2 i) (k1.2 i) (k.2 u h.1 i) (h.2 v k.1 i)
  simpa [atV, List.getD_eq_getElem?_getD, List.getElem?_eq_getElem a, List.getElem?_eq_getElem b] using e
/-- a way that each solution keeps -/
def Sound (C : List OpV) (p : Nat × Int) : Prop := p.1 < C.length ∧ (0 ≤ p.2 ∧ p.2 ≤ 15) ∧ ∀ u, Sol C u → Le (atV u p.1) p.2
theorem sound_first {C : List OpV} (hC : Well C) : Sound C (0, 1) := ⟨hC.1, ⟨by decide, by decide⟩, fun _ hu => hu.2.1⟩
/-- the ways from a place that has no less than any solution are kept by each -/
theorem sound_ways {C : List OpV} (hC : Well C) {v : List Int} (hv : Vec C v) (hT : Top C v) {i : Nat} (hi : i < C.length) (h0 : 0 ≤ atV v i) : ∀ p ∈ waysL C[i] i C.length (atV v i), Sound C p := by
  intro p hp
  obtain ⟨h1, h2⟩ := ways_bd hC hi (hv.2 i) h0 p hp
  refine ⟨h1, h2, fun u hu => ?_⟩
  have hui := hT u hu i
  obtain ⟨q, hq, e, l⟩ := ways_mono (hu.1.2 i) (hv.2 i) h0 hui p hp
  have hu0 := le_nn (hu.1.2 i) (hv.2 i) h0 hui
  have l2 := hu.2.2 i hi hu0 q hq
  have qb := (ways_bd hC hi (hu.1.2 i) hu0 q hq).2
  rw [e] at l2
  exact le_trans3 (hu.1.2 _) ⟨by omega, qb.2⟩ ⟨by omega, h2.2⟩ l2 l
/-- a way merged -/
theorem top_merge {C : List OpV} {v : List Int} (hv : Vec C v) (hT : Top C v) {p : Nat × Int} (hp : Sound C p) : Vec C (v.set p.1 (meet (atV v p.1) p.2)) ∧ Top C (v.set p.1 (meet (atV v p.1) p.2)) := by
  have hb := meet_bd (hv.2 p.1) hp.2.1.1 hp.2.1.2
  refine ⟨hv.set hp.1 ⟨by omega, hb.2⟩, fun u hu i => ?_⟩
  rw [atV_set _ _ _ _ (by rw [hv.1]; exact hp.1)]
  split
  · rename_i e; subst e; exact le_meet (hu.1.2 _) (hv.2 _) hp.2.1.1 hp.2.1.2 (hT u hu _) (hp.2.2 u hu)
  · exact hT u hu i
def sumR (v : List Int) : Nat := (v.map rank).sum
theorem sum_set : ∀ (v : List Nat) (i : Nat) (x : Nat), (h : i < v.length) → (v.set i x).sum + v[i] = v.sum + x
  | a :: l, 0, x, _ => by simp; omega
  | a :: l, i + 1, x, h => by
    have := sum_set l i x (by simpa using h)
    simp; omega
theorem sum_merge {C : List OpV} {v : List Int} (hv : Vec C v) {p : Nat × Int} (hp : Sound C p) (h : meet (atV v p.1) p.2 ≠ atV v p.1) : sumR (v.set p.1 (meet (atV v p.1) p.2)) < sumR v := by
  have hr := rank_meet (hv.2 p.1) hp.2.1.1 hp.2.1.2 h
  have hl : p.1 < v.length := by rw [hv.1]; exact hp.1
  have := sum_set (v.map rank) p.1 (rank (meet (atV v p.1) p.2)) (by simpa using hl)
  have e : atV v p.1 = v[p.1] := by simp [atV, List.getD_eq_getElem?_getD, List.getElem?_eq_getElem hl]
  unfold sumR
  rw [List.map_set]
  simp only [List.getElem_map] at this
  rw [← e] at this
  omega
/-! ### the queue -/
def Inv (C : List OpV) (v : List Int) (Q : List (Nat × Int)) : Prop :=
  Vec C v ∧ Top C v ∧ (∀ p ∈ Q, Sound C p) ∧ (Le (atV v 0) 1 ∨ (0, 1) ∈ Q) ∧ ∀ i (hi : i < C.length), 0 ≤ atV v i → ∀ p ∈ waysL C[i] i C.length (atV v i), Le (atV v p.1) p.2 ∨ p ∈ Q
theorem atV_replicate (n i : Nat) : atV (List.replicate n (-1)) i = -1 := by
  unfold atV
  rw [List.getD_eq_getElem?_getD]
  by_cases h : i < n
  · rw [List.getElem?_eq_getElem (by simpa using h)]; simp
  · rw [List.getElem?_eq_none (by simp; omega)]; rfl
theorem inv_start {C : List OpV} (hC : Well C) : Inv C (List.replicate C.length (-1)) [(0, 1)] := by
  refine ⟨⟨by simp, fun i => by rw [atV_replicate]; exact ⟨by decide, by decide⟩⟩, fun u _ i => .inl (atV_replicate _ _), fun p hp => ?_, .inr (by simp), fun i _ h => ?_⟩
  · rw [List.mem_singleton.1 hp]; exact sound_first hC
  · rw [atV_replicate] at h; exact absurd h (by decide)
theorem inv_same {C : List OpV} {v : List Int} {p : Nat × Int} {Q : List (Nat × Int)} (h : Inv C v (p :: Q)) (e : meet (atV v p.1) p.2 = atV v p.1) : Inv C v Q := by
  obtain ⟨h1, h2, h3, h4, h5⟩ := h
  refine ⟨h1, h2, fun q hq => h3 q (by simp [hq]), ?_, fun i hi h0 q hq => ?_⟩
  · rcases h4 with h | h
    · exact .inl h
    · rcases List.mem_cons.1 h with rfl | h
      · exact .inl (.inr e)
      · exact .inr h
  · rcases h5 i hi h0 q hq with h | h
    · exact .inl h
    · rcases List.mem_cons.1 h with rfl | h
      · exact .inl (.inr e)
      · exact .inr h
theorem le_of_set {C : List OpV} {v : List Int} (hv : Vec C v) {p : Nat × Int} (hp : Sound C p) {j : Nat} {y : Int} (hy : Bd y) (h : Le (atV v j) y) : Le (atV (v.set p.1 (meet (atV v p.1) p.2)) j) y := by
  have hb := meet_bd (hv.2 p.1) hp.2.1.1 hp.2.1.2
  rw [atV_set _ _ _ _ (by rw [hv.1]; exact hp.1)]
  split
  · rename_i e; subst e
    exact le_trans3 ⟨by omega, hb.2⟩ (hv.2 _) hy (meet_left (hv.2 _) hp.2.1.1 hp.2.1.2) h
  · exact h
theorem inv_less {C : List OpV} (hC : Well C) {v : List Int} {p : Nat × Int} {Q : List (Nat × Int)} (h : Inv C v (p :: Q)) (hp : p.1 < C.length) :
    Inv C (v.set p.1 (meet (atV v p.1) p.2)) (Q ++ waysL C[p.1] p.1 C.length (meet (atV v p.1) p.2)) := by
  obtain ⟨h1, h2, h3, h4, h5⟩ := h
  have hs := h3 p (by simp)
  have hb := meet_bd (h1.2 p.1) hs.2.1.1 hs.2.1.2
  obtain ⟨k1, k2⟩ := top_merge h1 h2 hs
  have ea : atV (v.set p.1 (meet (atV v p.1) p.2)) p.1 = meet (atV v p.1) p.2 := by rw [atV_set _ _ _ _ (by rw [h1.1]; exact hp)]; simp
  have er : Le (atV (v.set p.1 (meet (atV v p.1) p.2)) p.1) p.2 := by rw [ea]; exact meet_right (h1.2 _) hs.2.1.1 hs.2.1.2
  refine ⟨k1, k2, fun q hq => ?_, ?_, fun i hi h0 q hq => ?_⟩
  · rcases List.mem_append.1 hq with hq | hq
    · exact h3 q (by simp [hq])
    · have := sound_ways hC k1 k2 hp (by rw [ea]; exact hb.1) q (by rw [ea]; exact hq)
      exact this
  · rcases h4 with h | h
    · exact .inl (le_of_set h1 hs ⟨by decide, by decide⟩ h)
    · rcases List.mem_cons.1 h with e | h
      · subst e; exact .inl er
      · exact .inr (List.mem_append.2 (.inl h))
  · by_cases e : p.1 = i
    · subst e
      rw [ea] at hq
      exact .inr (List.mem_append.2 (.inr hq))
    · have e' : atV (v.set p.1 (meet (atV v p.1) p.2)) i = atV v i := by rw [atV_set _ _ _ _ (by rw [h1.1]; exact hp), if_neg e]
      rw [e'] at hq h0
      have qb := (ways_bd hC hi (h1.2 i) h0 q hq).2
      rcases h5 i hi h0 q hq with h | h
      · exact .inl (le_of_set h1 hs ⟨by omega, qb.2⟩ h)
      · rcases List.mem_cons.1 h with rfl | h
        · exact .inl er
        · exact .inr (List.mem_append.2 (.inl h))
theorem inv_done {C : List OpV} {v : List Int} (h : Inv C v []) : IsFull C v := by
  obtain ⟨h1, h2, _, h4, h5⟩ := h
  refine ⟨⟨h1, ?_, fun i hi h0 p hp => ?_⟩, h2⟩
  · rcases h4 with h | h
    · exact h
    · cases h
  · rcases h5 i hi h0 p hp with h | h
    · exact h
    · cases h
theorem ways_len (o : OpV) (i n : Nat) (x : Int) : (waysL o i n x).length ≤ 2 := by
  unfold waysL nextW toW
  split <;> split <;> (try split) <;> simp
theorem sum_le (v : List Int) : sumR v ≤ 5 * v.length := by
  unfold sumR
  induction v with
  | nil => simp
  | cons a l ih => have := rank_le a; simp; omega

/-! ### the rounds -/
/-- a way merged, and whether that turned anything -/
def mergeV (v : List Int) (p : Nat × Int) : List Int := if meet (atV v p.1) p.2 = atV v p.1 then v else v.set p.1 (meet (atV v p.1) p.2)
def mergeB (v : List Int) (p : Nat × Int) : Bool := !(meet (atV v p.1) p.2 == atV v p.1)
/-- what a round keeps: what it began with is u -/
def Rnd (C : List OpV) (u v : List Int) (m : Bool) : Prop := Vec C v ∧ Top C v ∧ Le (atV v 0) 1 ∧ (m = false → v = u) ∧ (m = true → sumR v < sumR u)
theorem rnd_merge {C : List OpV} {u v : List Int} {m : Bool} (h : Rnd C u v m) {p : Nat × Int} (hp : Sound C p) :
    Rnd C u (mergeV v p) (mergeB v p || m) ∧ (mergeB v p = false → mergeV v p = v ∧ Le (atV v p.1) p.2) := by
  obtain ⟨h1, h2, h3, h4, h5⟩ := h
  unfold mergeV mergeB
  by_cases e : meet (atV v p.1) p.2 = atV v p.1
  · rw [if_pos e]
    refine ⟨⟨h1, h2, h3, ?_, ?_⟩, fun _ => ⟨rfl, .inr e⟩⟩
    · simpa [e] using h4
    · simpa [e] using h5
  · rw [if_neg e]
    obtain ⟨k1, k2⟩ := top_merge h1 h2 hp
    refine ⟨⟨k1, k2, le_of_set h1 hp ⟨by decide, by decide⟩ h3, ?_, fun _ => ?_⟩, ?_⟩
    · simp [e]
    · have := sum_merge h1 hp e
      cases m with
      | false => rw [h4 rfl] at this ⊢; exact this
      | true => have := h5 rfl; omega
    · simp [e]
/-- the places ahead of i keep their ways' bounds -/
def Upto (C : List OpV) (i : Nat) (v : List Int) : Prop := ∀ j (hj : j < C.length), j < i → 0 ≤ atV v j → ∀ p ∈ waysL C[j] j C.length (atV v j), Le (atV v p.1) p.2
theorem rnd_done {C : List OpV} {u v : List Int} (h : Rnd C u v false) (k : Upto C C.length v) : IsFull C v :=
  ⟨⟨h.1, h.2.2.1, fun i hi h0 p hp => k i hi hi h0 p hp⟩, h.2.1⟩
def startV (n : Nat) : List Int := (List.replicate n (-1)).set 0 1
theorem rnd_start {C : List OpV} (hC : Well C) : Vec C (startV C.length) ∧ Top C (startV C.length) ∧ Le (atV (startV C.length) 0) 1 := by
  have h := inv_start hC
  have hv : Vec C (List.replicate C.length (-1)) := h.1
  have hs := sound_first hC
  have e : startV C.length = (List.replicate C.length (-1)).set (0, 1).1 (meet (atV (List.replicate C.length (-1)) (0, 1).1) (0, 1).2) := by
    rw [atV_replicate]; rfl
  obtain ⟨k1, k2⟩ := top_merge hv h.2.1 hs
  rw [e]
  refine ⟨k1, k2, ?_⟩
  rw [atV_set _ _ _ _ (by simpa using hC.1)]
  simp
  exact meet_right (hv.2 _) (by decide) (by decide)
end Go.Proofs.YtekmjgkjpdhedaaGreatDoor
