/-
  A row of bits in memory, over this translation. No condition.
-/
import Derived.Test.YtphgpimkkfgedaaGreatDoorInts
import Derived.Test.YtphgpimkkfgedaaGreatDoorFull
namespace Go.Proofs.YtphgpimkkfgedaaGreatDoor
open Go.ChangeShapes Go.WideShapes Go.ChangeAt Go.RowKit Go.Joins
/-- the row of bits in block F -/
abbrev Bits (w : World) (F : Nat) (L : List Int) : Prop := w.ownsRow F 3 1 (.slice (some ⟨F, 0, none⟩) L.length L.length) L.length (L.map (Value.int .i64))
theorem Bits.cell {w : World} {F : Nat} {L : List Int} (h : Bits w F L) {i : Nat} (hi : i < L.length) : w.cell? ⟨F, i, none⟩ = some (.int .i64 (atV L i)) := by
  rw [World.ownsRow.cellAt h i (by omega), List.getElem?_map, List.getElem?_eq_getElem hi]
  simp [atV, List.getD_eq_getElem?_getD, List.getElem?_eq_getElem hi]
theorem Bits.free {w : World} {F : Nat} {L : List Int} (h : Bits w F L) (i : Nat) : w.frozen? ⟨F, i, none⟩ = false := World.ownsRow.frozenAt h i
theorem Bits.set {w : World} {F : Nat} {L : List Int} (h : Bits w F L) (i : Nat) (x : Int) : Bits (w.setCell ⟨F, i, none⟩ (.int .i64 x)) F (L.set i x) := by
  have := (World.ownsRow.stored h i (.int .i64 x)).1
  rw [← List.map_set] at this
  simpa [Bits] using this
theorem Bits.keep {w w' : World} {F : Nat} {L : List Int} (h : Bits w F L) (hk : w'.heap[F]? = w.heap[F]?) : Bits w' F L := by
  obtain ⟨h1, h2⟩ := h
  refine ⟨h1, h2.imp id ?_⟩
  rintro ⟨g, cap, cur, hv, hg, hh, hr⟩
  have e : g = F := by simp at hv; exact hv.1.symm
  subst e
  exact ⟨g, cap, cur, hv, hg, hk.trans hh, hr⟩
theorem Bits.lt {w : World} {F : Nat} {L : List Int} (h : Bits w F L) : F < w.heap.size := (World.ownsRow.lt h F rfl).2
end Go.Proofs.YtphgpimkkfgedaaGreatDoor
