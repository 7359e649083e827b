/-
  Steps, apart from any program: which are ok. No condition.
-/
import Derived.Test.YtekmjgkjpdhedaaGreatDoorWalks
namespace Go.Proofs.YtekmjgkjpdhedaaGreatDoor
/-- what a kind has: R, S, To, V -/
def formL : List (Bool × Bool × Bool × Bool) :=
  [(false, false, false, false), (true, false, false, true), (true, true, false, false), (true, true, false, false), (true, false, false, false), (true, false, true, false), (true, true, false, false), (true, true, false, false), (true, true, true, true), (false, false, true, false), (true, false, true, true), (true, false, false, false), (true, false, false, false), (false, false, false, true), (true, false, false, false)]
def fR (k : Int) : Bool := (formL.getD k.toNat (false, false, false, false)).1
def fS (k : Int) : Bool := (formL.getD k.toNat (false, false, false, false)).2.1
def fT (k : Int) : Bool := (formL.getD k.toNat (false, false, false, false)).2.2.1
def fV (k : Int) : Bool := (formL.getD k.toNat (false, false, false, false)).2.2.2
def inB (n lo hi : Int) : Bool := decide (lo ≤ n) && decide (n ≤ hi)
/-- whether a step is ok -/
def opB (k r s t vk vn : Int) : Bool :=
  inB k 1 14 && okB vk vn && (!(k == 8) || (vk == 1 && decide (1 ≤ vn))) && (!(k == 13) || (vk == 1 && inB vn 0 1))
    && ((inB r 0 3 && fR k) || r == 0) && ((inB s 0 3 && fS k) || s == 0) && ((inB t 0 15 && fT k) || t == 0) && (fV k || (vk == 0 && vn == 0))
theorem inB_iff {n lo hi : Int} : inB n lo hi = true ↔ lo ≤ n ∧ n ≤ hi := by simp [inB]
/-- what an ok step is -/
structure OpIs (k r s t vk vn : Int) : Prop where
  k1 : 1 ≤ k
  k2 : k ≤ 14
  v : okB vk vn = true
  after : k = 8 → vk = 1 ∧ 1 ≤ vn
  trap : k = 13 → vk = 1 ∧ 0 ≤ vn ∧ vn ≤ 1
  r1 : 0 ≤ r
  r2 : r ≤ 3
  s1 : 0 ≤ s
  s2 : s ≤ 3
  t1 : 0 ≤ t
  t2 : t ≤ 15
  rN : fR k = false → r = 0
  sN : fS k = false → s = 0
  tN : fT k = false → t = 0
  vN : fV k = false → vk = 0 ∧ vn = 0
theorem opIs_of {k r s t vk vn : Int} (h : opB k r s t vk vn = true) : OpIs k r s t vk vn := by
  simp only [opB, Bool.and_eq_true, Bool.or_eq_true, Bool.not_eq_true', inB_iff, beq_iff_eq, beq_eq_false_iff_ne, decide_eq_true_eq] at h
  obtain ⟨⟨⟨⟨⟨⟨⟨⟨h1, h2⟩, h3⟩, h4⟩, h5⟩, h6⟩, h7⟩, h8⟩, h9⟩ := h
  refine ⟨h1, h2, h3, ?_, ?_, ?_, ?_, ?_, ?_, ?_, ?_, ?_, ?_, ?_, ?_⟩
  · intro e; rcases h4 with h | h; exact absurd e h; exact h
  · intro e; rcases h5 with h | h; exact absurd e h; exact h
  · rcases h6 with h | h; exact h.1.1; omega
  · rcases h6 with h | h; exact h.1.2; omega
  · rcases h7 with h | h; exact h.1.1; omega
  · rcases h7 with h | h; exact h.1.2; omega
  · rcases h8 with h | h; exact h.1.1; omega
  · rcases h8 with h | h; exact h.1.2; omega
  · intro e; rcases h6 with h | h; rw [e] at h; cases h.2; exact h
  · intro e; rcases h7 with h | h; rw [e] at h; cases h.2; exact h
  · intro e; rcases h8 with h | h; rw [e] at h; cases h.2; exact h
  · intro e; rcases h9 with h | h; rw [e] at h; cases h; exact h
end Go.Proofs.YtekmjgkjpdhedaaGreatDoor
