/-
  What CodeSafe answers at any argument, apart from any program. No condition.
-/
import Derived.Test.YtphgpimkkfgedaaGreatDoorFullOf
import Derived.Test.YtphgpimkkfgedaaGreatDoorOpUse
import Derived.Test.YtphgpimkkfgedaaGreatDoorSpecBits
import Derived.Test.YtphgpimkkfgedaaGreatDoorWays
namespace Go.Proofs.YtphgpimkkfgedaaGreatDoor
/-- whether the step at a place reads but full slots, and goes on where there is a step -/
def safeP (C : List OpV) (V : List Int) (i : Nat) : Prop :=
  ∀ (h : i < C.length), 0 ≤ atV V i → (∀ u ∈ usesL C[i].k C[i].r C[i].s, hasB (atV V i) u = true) ∧ (endsB C[i].k = true ∨ i + 1 < C.length)
def SafeOf (C : List OpV) (b : Bool) : Prop := (codeB C = true ∧ ∃ V, IsFull C V ∧ (b = true ↔ ∀ i, i < C.length → safeP C V i)) ∨ (codeB C = false ∧ b = false)
theorem safeOf_one {C : List OpV} {a b : Bool} (h : SafeOf C a) (k : SafeOf C b) : a = b := by
  rcases h with ⟨h, V, f, e⟩ | ⟨h, rfl⟩
  · rcases k with ⟨_, U, g, d⟩ | ⟨k, _⟩
    · have := full_one f g
      subst this
      rw [Bool.eq_iff_iff, e, d]
    · rw [h] at k; cases k
  · rcases k with ⟨k, _⟩ | ⟨_, rfl⟩
    · rw [h] at k; cases k
    · rfl
theorem safe_yes {C : List OpV} (hC : codeB C = true) {V : List Int} (h : IsFull C V) (k : ∀ i, i < C.length → safeP C V i) : SafeOf C true := .inl ⟨hC, V, h, by simp; exact k⟩
theorem safe_no {C : List OpV} (hC : codeB C = true) {V : List Int} (h : IsFull C V) {i : Nat} (hi : i < C.length) (k : ¬ safeP C V i) : SafeOf C false := .inl ⟨hC, V, h, by simp; exact ⟨i, hi, k⟩⟩
/-- the slots of a list, as bits -/
def foldO (l : List Int) : Int := l.foldl (fun b u => orB b (bitOf u)) 0
theorem int_fin4 {u : Int} (h : 0 ≤ u ∧ u ≤ 3) : ∃ i : Fin 4, u = (i.val : Int) := ⟨⟨u.toNat, by omega⟩, by simp; omega⟩
theorem andNot_uses {x : Int} (hx : Bd x) (h0 : 0 ≤ x) : ∀ l : List Int, l.length ≤ 2 → (∀ u ∈ l, 0 ≤ u ∧ u ≤ 3) → (bits .andNot .i64 (foldO l) x == 0) = l.all (hasB x)
  | [], _, _ => by
    have key : ∀ i : Fin 17, 0 ≤ (i.val : Int) - 1 → (bits .andNot .i64 (foldO []) ((i.val : Int) - 1) == 0) = true := by decide +kernel
    obtain ⟨i, rfl⟩ := bd_fin hx
    exact key i h0
  | [u], _, h => by
    have key : ∀ i : Fin 17, ∀ j : Fin 4, 0 ≤ (i.val : Int) - 1 → (bits .andNot .i64 (foldO [(j.val : Int)]) ((i.val : Int) - 1) == 0) = [(j.val : Int)].all (hasB ((i.val : Int) - 1)) := by decide +kernel
    obtain ⟨i, rfl⟩ := bd_fin hx
    obtain ⟨j, rfl⟩ := int_fin4 (h u (by simp))
    exact key i j h0
  | [u, v], _, h => by
    have key : ∀ i : Fin 17, ∀ j k : Fin 4, 0 ≤ (i.val : Int) - 1 → (bits .andNot .i64 (foldO [(j.val : Int), (k.val : Int)]) ((i.val : Int) - 1) == 0) = [(j.val : Int), (k.val : Int)].all (hasB ((i.val : Int) - 1)) := by decide +kernel
    obtain ⟨i, rfl⟩ := bd_fin hx
    obtain ⟨j, rfl⟩ := int_fin4 (h u (by simp))
    obtain ⟨k, rfl⟩ := int_fin4 (h v (by simp))
    exact key i j k h0
  | _ :: _ :: _ :: _, hl, _ => by simp at hl
theorem foldO_take (l : List Int) (k : Nat) (h : k < l.length) : foldO (l.take (k + 1)) = orB (foldO (l.take k)) (bitOf l[k]) := by
  unfold foldO
  rw [List.take_add_one, List.getElem?_eq_getElem h, List.foldl_append]; rfl
theorem foldO_bd : ∀ l : List Int, 0 ≤ foldO l ∧ foldO l ≤ 15 := by
  have key : ∀ (l : List Int) (b : Int), 0 ≤ b ∧ b ≤ 15 → 0 ≤ l.foldl (fun b u => orB b (bitOf u)) b ∧ l.foldl (fun b u => orB b (bitOf u)) b ≤ 15 := by
    intro l
    induction l with
    | nil => intro b h; exact h
    | cons u l ih =>
      intro b h
      have hb := bit_bd u
      exact ih _ (or_bd ⟨by omega, h.2⟩ h.1 hb.1 hb.2)
  exact fun l => key l 0 ⟨by decide, by decide⟩
theorem uses_bd {k r s : Int} (hr : 0 ≤ r ∧ r ≤ 3) (hs : 0 ≤ s ∧ s ≤ 3) : ∀ u ∈ usesL k r s, 0 ≤ u ∧ u ≤ 3 := by
  intro u hu
  unfold usesL at hu
  repeat' split at hu
  all_goals simp at hu
  all_goals first | (rcases hu with rfl | rfl <;> assumption) | (subst hu; assumption)
theorem uses_len (k r s : Int) : (usesL k r s).length ≤ 2 := by
  unfold usesL
  split
  · simp
  · split
    · simp
    · split <;> simp
end Go.Proofs.YtphgpimkkfgedaaGreatDoor
