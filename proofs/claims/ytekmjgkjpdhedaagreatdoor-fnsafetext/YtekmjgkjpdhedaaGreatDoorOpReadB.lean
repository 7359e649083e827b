/-
  What the walks of impl's readParts share: what the loads of a round read, and that what was there stays.
-/
import Derived.Test.YtekmjgkjpdhedaaGreatDoorOpReadAid
import Derived.Test.YtekmjgkjpdhedaaGreatDoorOpKindW
import Derived.Deep.WholeRow
import Derived.LoopN
import Derived.Deep.CutRange
import Derived.Deep.RegionHeld3
namespace Go.Proofs.YtekmjgkjpdhedaaGreatDoor
open Go.ChangeShapes Go.WideShapes Go.ChangeAt Go.RowKit Go.Joins
theorem oc_nilR : Value.nilFunc.oneCell' = true := rfl
/-- what the loads of a round read, and that what was there stays -/
abbrev Sev (pb ob B i m : Nat) (k r s t a b : Int) (x : List UInt8) (w2 w' : World) : Prop :=
  w'.cell? ⟨pb, 2, none⟩ = some (.func (.func m) #[] #[]) ∧ w'.cell? ⟨ob, 0, none⟩ = some (.int .i64 k) ∧ w'.cell? ⟨ob, 1, none⟩ = some (.int .i64 r) ∧ w'.cell? ⟨ob, 2, none⟩ = some (.int .i64 s) ∧ w'.cell? ⟨ob, 3, none⟩ = some (.int .i64 t) ∧ w'.cell? ⟨ob, 4, none⟩ = some (.int .i64 a) ∧ w'.cell? ⟨ob, 5, none⟩ = some (.int .i64 b) ∧ w'.cell? ⟨B, i, none⟩ = some (.string ⟨x.toArray⟩) ∧ Below w2.heap.size w2 w'
theorem sev_of {pb ob B i m : Nat} {k r s t a b : Int} {x : List UInt8} {w2 w' X : World} (l1 : pb < w2.heap.size) (l2 : ob < w2.heap.size) (l3 : B < w2.heap.size) (h : Sev pb ob B i m k r s t a b x w2 w') (hb : Below w2.heap.size w2 X) : Sev pb ob B i m k r s t a b x w2 X := by
  obtain ⟨h0, h1, h2, h3, h4, h5, h6, h7, h8⟩ := h
  have e : ∀ b o, b < w2.heap.size → X.cell? ⟨b, o, none⟩ = w'.cell? ⟨b, o, none⟩ := fun b o hlt => (hb.cell (p := ⟨b, o, none⟩) hlt).trans (h8.cell (p := ⟨b, o, none⟩) hlt).symm
  exact ⟨(e _ _ l1).trans h0, (e _ _ l2).trans h1, (e _ _ l2).trans h2, (e _ _ l2).trans h3, (e _ _ l2).trans h4, (e _ _ l2).trans h5, (e _ _ l2).trans h6, (e _ _ l3).trans h7, hb⟩
theorem Sev.below {pb ob B i m : Nat} {k r s t a b : Int} {x : List UInt8} {w2 w' : World} (h : Sev pb ob B i m k r s t a b x w2 w') : Below w2.heap.size w2 w' := h.2.2.2.2.2.2.2.2
theorem bel_call {w2 X w' : World} (h : Below w2.heap.size w2 X) (hb : Below X.heap.size X w') : Below w2.heap.size w2 w' := h.trans (hb.mono h.size)
theorem bel_set {w2 X : World} (h : Below w2.heap.size w2 X) {p : Addr} (hp : w2.heap.size ≤ p.block) (v : Value) : Below w2.heap.size w2 (X.setCell p v) := h.setCell hp v
theorem sev_drew {pb ob B i m : Nat} {k r s t a b : Int} {x : List UInt8} {w2 X : World} (l1 : pb < w2.heap.size) (l2 : ob < w2.heap.size) (l3 : B < w2.heap.size) (h : Sev pb ob B i m k r s t a b x w2 X) : Sev pb ob B i m k r s t a b x w2 X.drew := sev_of l1 l2 l3 h (Sev.below h).drew
theorem sev_call {pb ob B i m : Nat} {k r s t a b : Int} {x : List UInt8} {w2 X : World} {w' : World} (l1 : pb < w2.heap.size) (l2 : ob < w2.heap.size) (l3 : B < w2.heap.size) (h : Sev pb ob B i m k r s t a b x w2 X) (hb : Below X.heap.size X w') : Sev pb ob B i m k r s t a b x w2 w' := sev_of l1 l2 l3 h (bel_call (Sev.below h) hb)
theorem sev_alloc {pb ob B i m : Nat} {k r s t a b : Int} {x : List UInt8} {w2 X : World} (l1 : pb < w2.heap.size) (l2 : ob < w2.heap.size) (l3 : B < w2.heap.size) (h : Sev pb ob B i m k r s t a b x w2 X) (o : Obj) : Sev pb ob B i m k r s t a b x w2 (X.alloc o) := sev_of l1 l2 l3 h ((Sev.below h).alloc (Sev.below h).size o)
theorem sev_set {pb ob B i m : Nat} {k r s t a b : Int} {x : List UInt8} {w2 X : World} (l1 : pb < w2.heap.size) (l2 : ob < w2.heap.size) (l3 : B < w2.heap.size) (h : Sev pb ob B i m k r s t a b x w2 X) {p : Addr} (hp : w2.heap.size ≤ p.block) (v : Value) : Sev pb ob B i m k r s t a b x w2 (X.setCell p v) := sev_of l1 l2 l3 h (bel_set (Sev.below h) hp v)
theorem sev_six {pb ob B i m : Nat} {k r s t a b : Int} {x : List UInt8} {w2 X : World} (l1 : pb < w2.heap.size) (l2 : ob < w2.heap.size) (l3 : B < w2.heap.size) (h : Sev pb ob B i m k r s t a b x w2 X) {nb : Nat} (hp : w2.heap.size ≤ nb) (v0 v1 v2 v3 v4 v5 : Value) : Sev pb ob B i m k r s t a b x w2 ((((((X.setCell ⟨nb, 0, none⟩ v0).setCell ⟨nb, 1, none⟩ v1).setCell ⟨nb, 2, none⟩ v2).setCell ⟨nb, 3, none⟩ v3).setCell ⟨nb, 4, none⟩ v4).setCell ⟨nb, 5, none⟩ v5) :=
  sev_set l1 l2 l3 (sev_set l1 l2 l3 (sev_set l1 l2 l3 (sev_set l1 l2 l3 (sev_set l1 l2 l3 (sev_set l1 l2 l3 h hp v0) hp v1) hp v2) hp v3) hp v4) hp v5
theorem sz_of {w wx : World} (h : Below w.drew.heap.size w.drew wx) : w.heap.size ≤ wx.heap.size := h.size
theorem sev_realloc {pb ob B i m : Nat} {k r s t a b : Int} {x : List UInt8} {w2 X : World} (l1 : pb < w2.heap.size) (l2 : ob < w2.heap.size) (l3 : B < w2.heap.size) {o : Obj} (h : Sev pb ob B i m k r s t a b x w2 (X.alloc o)) (hs : w2.heap.size ≤ X.heap.size) (o' : Obj) : Sev pb ob B i m k r s t a b x w2 (X.alloc o') := by
  have hb := Sev.below h
  refine sev_of l1 l2 l3 h ⟨hb.os, hb.tape, hb.output, by simp; omega, fun k hk => ?_⟩
  rw [← hb.block k hk, heap_old (by omega), heap_old (by omega)]
theorem nx_of {w wx : World} (h : Below (w.alloc (.cells #[.int .i64 0, .int .i64 0, .int .i64 0, .int .i64 0, .int .i64 0, .int .i64 0] 43)).drew.heap.size (w.alloc (.cells #[.int .i64 0, .int .i64 0, .int .i64 0, .int .i64 0, .int .i64 0, .int .i64 0] 43)).drew wx) :
    wx.cell? ⟨w.heap.size, 0, none⟩ = some (.int .i64 0) ∧ wx.cell? ⟨w.heap.size, 1, none⟩ = some (.int .i64 0) ∧ wx.cell? ⟨w.heap.size, 2, none⟩ = some (.int .i64 0) ∧ wx.cell? ⟨w.heap.size, 3, none⟩ = some (.int .i64 0) ∧ wx.cell? ⟨w.heap.size, 4, none⟩ = some (.int .i64 0) ∧ wx.cell? ⟨w.heap.size, 5, none⟩ = some (.int .i64 0) ∧ wx.frozen? ⟨w.heap.size, 0, none⟩ = false ∧ wx.frozen? ⟨w.heap.size, 1, none⟩ = false ∧ wx.frozen? ⟨w.heap.size, 2, none⟩ = false ∧ wx.frozen? ⟨w.heap.size, 3, none⟩ = false ∧ wx.frozen? ⟨w.heap.size, 4, none⟩ = false ∧ wx.frozen? ⟨w.heap.size, 5, none⟩ = false := by
  obtain ⟨hc, hf⟩ := bcell h
  exact ⟨by rw [hc _ _ (by simp)]; simp [go_sem], by rw [hc _ _ (by simp)]; simp [go_sem], by rw [hc _ _ (by simp)]; simp [go_sem], by rw [hc _ _ (by simp)]; simp [go_sem], by rw [hc _ _ (by simp)]; simp [go_sem], by rw [hc _ _ (by simp)]; simp [go_sem], by rw [hf _ _ (by simp)]; simp [go_sem], by rw [hf _ _ (by simp)]; simp [go_sem], by rw [hf _ _ (by simp)]; simp [go_sem], by rw [hf _ _ (by simp)]; simp [go_sem], by rw [hf _ _ (by simp)]; simp [go_sem], by rw [hf _ _ (by simp)]; simp [go_sem]⟩
theorem nx_of2 {w wx : World} (h : Below (w.alloc (.cells #[.int .i64 0, .int .i64 0, .int .i64 0, .int .i64 0, .int .i64 0, .int .i64 0] 43)).heap.size (w.alloc (.cells #[.int .i64 0, .int .i64 0, .int .i64 0, .int .i64 0, .int .i64 0, .int .i64 0] 43)) wx) :
    wx.cell? ⟨w.heap.size, 0, none⟩ = some (.int .i64 0) ∧ wx.cell? ⟨w.heap.size, 1, none⟩ = some (.int .i64 0) ∧ wx.cell? ⟨w.heap.size, 2, none⟩ = some (.int .i64 0) ∧ wx.cell? ⟨w.heap.size, 3, none⟩ = some (.int .i64 0) ∧ wx.cell? ⟨w.heap.size, 4, none⟩ = some (.int .i64 0) ∧ wx.cell? ⟨w.heap.size, 5, none⟩ = some (.int .i64 0) ∧ wx.frozen? ⟨w.heap.size, 0, none⟩ = false ∧ wx.frozen? ⟨w.heap.size, 1, none⟩ = false ∧ wx.frozen? ⟨w.heap.size, 2, none⟩ = false ∧ wx.frozen? ⟨w.heap.size, 3, none⟩ = false ∧ wx.frozen? ⟨w.heap.size, 4, none⟩ = false ∧ wx.frozen? ⟨w.heap.size, 5, none⟩ = false := by
  obtain ⟨hc, hf⟩ := bcell h
  exact ⟨by rw [hc _ _ (by simp)]; simp [go_sem], by rw [hc _ _ (by simp)]; simp [go_sem], by rw [hc _ _ (by simp)]; simp [go_sem], by rw [hc _ _ (by simp)]; simp [go_sem], by rw [hc _ _ (by simp)]; simp [go_sem], by rw [hc _ _ (by simp)]; simp [go_sem], by rw [hf _ _ (by simp)]; simp [go_sem], by rw [hf _ _ (by simp)]; simp [go_sem], by rw [hf _ _ (by simp)]; simp [go_sem], by rw [hf _ _ (by simp)]; simp [go_sem], by rw [hf _ _ (by simp)]; simp [go_sem], by rw [hf _ _ (by simp)]; simp [go_sem]⟩
end Go.Proofs.YtekmjgkjpdhedaaGreatDoor
