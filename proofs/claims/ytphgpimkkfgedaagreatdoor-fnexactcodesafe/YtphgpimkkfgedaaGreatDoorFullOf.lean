/-
  What CodeFull answers at any argument, apart from any program. No condition.
-/
import Derived.Test.YtphgpimkkfgedaaGreatDoorCodeAt
namespace Go.Proofs.YtphgpimkkfgedaaGreatDoor
def FullOf (C : List OpV) (L : List Int) : Prop := (codeB C = true ∧ IsFull C L) ∨ (codeB C = false ∧ L = [])
theorem fullOf_one {C : List OpV} {L M : List Int} (h : FullOf C L) (k : FullOf C M) : L = M := by
  rcases h with ⟨h, a⟩ | ⟨h, rfl⟩
  · rcases k with ⟨_, b⟩ | ⟨k, _⟩
    · exact full_one a b
    · rw [h] at k; cases k
  · rcases k with ⟨k, _⟩ | ⟨_, rfl⟩
    · rw [h] at k; cases k
    · rfl
theorem fullOf_len {C : List OpV} {L : List Int} (h : FullOf C L) : L.length ≤ C.length := by
  rcases h with ⟨_, a⟩ | ⟨_, rfl⟩
  · rw [a.1.1.1]; exact Nat.le_refl _
  · simp
end Go.Proofs.YtphgpimkkfgedaaGreatDoor
