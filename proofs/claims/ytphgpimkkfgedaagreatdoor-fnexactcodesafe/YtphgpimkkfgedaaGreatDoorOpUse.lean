/-
  spec.OpUses over this translation: the slots that an ok step reads, in a row of their own; nothing that was there turns.
-/
import Derived.Test.YtphgpimkkfgedaaGreatDoorOpSpec
namespace Go.Proofs.YtphgpimkkfgedaaGreatDoor
open Go.ChangeShapes Go.WideShapes Go.ChangeAt Go.RowKit Go.Joins
/-- which slots a step reads -/
def usesL (k r s : Int) : List Int := if k = 2 then [s] else if k = 3 ∨ k = 6 then [r, s] else if k = 10 ∨ k = 11 ∨ k = 12 ∨ k = 14 then [r] else []
def usesOf (k r s t vk vn : Int) : List Int := if opB k r s t vk vn = true then usesL k r s else []
theorem usesOf_bad {k r s t vk vn : Int} (h : opB k r s t vk vn = false) : usesOf k r s t vk vn = [] := by rw [usesOf, if_neg (by rw [h]; decide)]
theorem usesOf_ok {k r s t vk vn : Int} (h : opB k r s t vk vn = true) : usesOf k r s t vk vn = usesL k r s := by rw [usesOf, if_pos h]
/-- a row of numbers, new since w -/
def NewRow (w : World) (L : List Int) (e : Ending) (w' : World) : Prop :=
  ∃ b, e = .returned (.slice (some ⟨b, 0, none⟩) L.length L.length) ∧ w.heap.size ≤ b ∧ b < w'.heap.size ∧ (∀ i, i < L.length → w'.cell? ⟨b, i, none⟩ = some (.int .i64 (L.getD i 0))) ∧ Below w.heap.size w w'
set_option maxHeartbeats 4000000 in
theorem l2Uses_any (k r s t vk vn : Int) (w : World) (h1 : 1 ≤ k) (h2 : k ≤ 14) :
    Calls Tryz.prog 32 #[.agg #[.int .i64 k, .int .i64 r, .int .i64 s, .int .i64 t, .int .i64 vk, .int .i64 vn]] w fun e w' => NewRow w (usesL k r s) e w' := by
  rcases kinds14 h1 h2 with rfl | rfl | rfl | rfl | rfl | rfl | rfl | rfl | rfl | rfl | rfl | rfl | rfl | rfl <;>
  · go_enter Tryz.func32, Tryz.ntmps32
    go_wp2_with fail
    go_ret
    refine ⟨_, rfl, ?_, ?_, ?_, ?_⟩
    · simp
    · simp
    · intro i hi
      have h3 : i = 0 ∨ i = 1 ∨ 2 ≤ i := (by omega)
      rcases h3 with rfl | rfl | h3
      · first | (simp [usesL] at hi; done) | (simp [usesL, go_sem]; done)
      · first | (simp [usesL] at hi; done) | (simp [usesL, go_sem]; done)
      · simp [usesL] at hi <;> omega
    · exact ((Below.refl _ _).alloc (Nat.le_refl _) _).alloc (by simp) _
end Go.Proofs.YtphgpimkkfgedaaGreatDoor
