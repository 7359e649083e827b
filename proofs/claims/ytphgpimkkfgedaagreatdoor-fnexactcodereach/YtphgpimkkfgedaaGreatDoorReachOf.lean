/-
  What CodeReach answers at any argument, apart from any program. No condition.
-/
import Derived.Test.YtphgpimkkfgedaaGreatDoorReach
import Derived.Test.YtphgpimkkfgedaaGreatDoorFullOf
import Derived.Test.YtphgpimkkfgedaaGreatDoorWaysAt
namespace Go.Proofs.YtphgpimkkfgedaaGreatDoor
/-- the places of a list, ascending -/
def sortR (n : Nat) (R : List Nat) : List Nat := (List.range n).filter fun i => R.contains i
def ReachOf (C : List OpV) (L : List Int) : Prop := (codeB C = true ∧ ∃ R, IsReach C (fun x => x ∈ R) ∧ L = toI (sortR C.length R)) ∨ (codeB C = false ∧ L = [])
theorem reach_one {C : List OpV} {R T : List Nat} (h : IsReach C (fun x => x ∈ R)) (k : IsReach C (fun x => x ∈ T)) : sortR C.length R = sortR C.length T := by
  unfold sortR
  apply List.filter_congr
  intro i hi
  have hi := List.mem_range.1 hi
  rw [Bool.eq_iff_iff, List.contains_iff_mem, List.contains_iff_mem]
  exact ⟨fun x => h.2 _ k.1 i hi x, fun x => k.2 _ h.1 i hi x⟩
theorem reachOf_one {C : List OpV} {L M : List Int} (h : ReachOf C L) (k : ReachOf C M) : L = M := by
  rcases h with ⟨h, R, a, rfl⟩ | ⟨h, rfl⟩
  · rcases k with ⟨_, T, b, rfl⟩ | ⟨k, _⟩
    · rw [reach_one a b]
    · rw [h] at k; cases k
  · rcases k with ⟨k, _⟩ | ⟨_, rfl⟩
    · rw [h] at k; cases k
    · rfl
theorem reachOf_len {C : List OpV} {L : List Int} (h : ReachOf C L) : L.length ≤ C.length := by
  rcases h with ⟨_, R, _, rfl⟩ | ⟨_, rfl⟩
  · rw [toI_len]; unfold sortR
    have := List.length_filter_le (fun i => R.contains i) (List.range C.length)
    simpa using this
  · simp
/-- the places where something is full, ahead of k -/
def fullTo (V : List Int) (k : Nat) : List Nat := (List.range k).filter fun i => !(atV V i == -1)
theorem fullTo_step (V : List Int) (k : Nat) : fullTo V (k + 1) = if atV V k = -1 then fullTo V k else fullTo V k ++ [k] := by
  unfold fullTo
  rw [List.range_succ, List.filter_append]
  by_cases h : atV V k = -1
  · simp [h]
  · simp [h]
theorem fullTo_len (V : List Int) (k : Nat) : (fullTo V k).length ≤ k := by
  have := List.length_filter_le (fun i => !(atV V i == -1)) (List.range k)
  simpa [fullTo] using this
theorem full_reachOf {C : List OpV} (hC : codeB C = true) {V : List Int} (h : IsFull C V) : ReachOf C (toI (fullTo V C.length)) := by
  have hw := (codeB_well hC).1
  have hS : IsReach C (fun i => ∀ T, Shut C T → T i) := ⟨⟨fun T hT => hT.1, fun i hi hs j hj T hT => hT.2 i hi (hs T hT) j hj⟩, fun T hT i _ hs => hs T hT⟩
  have key := fun i (hi : i < C.length) => full_reach hw h hS i hi
  have hm : ∀ i, i ∈ fullTo V C.length ↔ i < C.length ∧ 0 ≤ atV V i := by
    intro i
    have hb := h.1.1.2 i
    unfold fullTo
    rw [List.mem_filter, List.mem_range]
    constructor
    · rintro ⟨h1, h2⟩; simp at h2; exact ⟨h1, by have := hb.1; omega⟩
    · rintro ⟨h1, h2⟩; exact ⟨h1, by simp; omega⟩
  have hR : IsReach C (fun x => x ∈ fullTo V C.length) := by
    refine ⟨⟨(hm 0).2 ⟨hw.1, (key 0 hw.1).2 hS.1.1⟩, fun i hi hx j hj => ?_⟩, fun T hT i hi hx => (key i hi).1 ((hm i).1 hx).2 T hT⟩
    have hs := (key i hi).1 ((hm i).1 hx).2
    have hj' := next_lt hw hi j hj
    exact (hm j).2 ⟨hj', (key j hj').2 (hS.1.2 i hi hs j hj)⟩
  refine .inl ⟨hC, fullTo V C.length, hR, ?_⟩
  congr 1
  unfold sortR
  conv => lhs; unfold fullTo
  apply List.filter_congr
  intro i hi
  have hi := List.mem_range.1 hi
  rw [Bool.eq_iff_iff, List.contains_iff_mem, hm]
  have hb := (h.1.1.2 i).1
  constructor
  · intro h2; simp at h2; exact ⟨hi, by omega⟩
  · rintro ⟨_, h2⟩; simp; omega
end Go.Proofs.YtphgpimkkfgedaaGreatDoor
