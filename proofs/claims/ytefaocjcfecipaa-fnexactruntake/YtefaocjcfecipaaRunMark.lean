/-
  Runs over this translation: what laws.markRun and heldRun answer.
-/
import Derived.Test.YtefaocjcfecipaaRunRow
namespace Go.Proofs.Ytefaocjcfecipaa
open Go.ChangeShapes Go.WideShapes Go.ChangeAt Go.RowKit Go.Joins
theorem OwnsV.block {w : World} {B : Nat} {v : Value} {L : List (Int × Int)} (h : OwnsV w B v L) (k : Nat) (e : v.ownBlock = some k) : B ≤ k := (World.ownsRow.lt h k e).1
theorem Owns.block {w : World} {B : Nat} {v : Value} {L : List Int} (h : Owns w B v L) (k : Nat) (e : v.ownBlock = some k) : B ≤ k := (World.ownsRow.lt h k e).1
/-- all blocks but those of a run's lists stay -/
def KeptBut (d : RunD) (p : RunP) (w w' : World) : Prop := ∀ k, k < w.heap.size → (d.v0 p).ownBlock ≠ some k → (d.v1 p).ownBlock ≠ some k → (d.v2 p).ownBlock ≠ some k → (d.v3 p).ownBlock ≠ some k → w'.heap[k]? = w.heap[k]?
theorem RunAt.same {w w' : World} {b : Nat} {d : RunD} {p : RunP} (h : RunAt w b d p) (e : w'.heap[b]? = w.heap[b]?) : RunAt w' b d p := by
  have k : ∀ i v, w.cell? ⟨b, i, none⟩ = some v → w'.cell? ⟨b, i, none⟩ = some v := fun i v hv => by
    rw [World.cell?_of_block (w := w) e]; exact hv
  exact ⟨k _ _ h.c0, k _ _ h.c1, k _ _ h.c2, k _ _ h.c3, k _ _ h.c4, k _ _ h.c5, k _ _ h.c6, k _ _ h.c7, k _ _ h.c8, k _ _ h.c9, k _ _ h.c10, k _ _ h.c11, k _ _ h.c12⟩
theorem RunAt.but {w w' : World} {b : Nat} {d : RunD} {p : RunP} {row : Option Nat} (h : RunAt w b d p) (hg : w.grownBy w' row) (hr : row ≠ some b) : RunAt w' b d p := by
  have k : ∀ i v, w.cell? ⟨b, i, none⟩ = some v → w'.cell? ⟨b, i, none⟩ = some v := fun i v hv => by
    rw [World.cell?_of_block (w := w) (hg.block b (World.block_lt_of_cell? _ _ hv) (fun e => hr e.symm))]; exact hv
  exact ⟨k _ _ h.c0, k _ _ h.c1, k _ _ h.c2, k _ _ h.c3, k _ _ h.c4, k _ _ h.c5, k _ _ h.c6, k _ _ h.c7, k _ _ h.c8, k _ _ h.c9, k _ _ h.c10, k _ _ h.c11, k _ _ h.c12⟩
set_option maxRecDepth 20000 in
set_option maxHeartbeats 4000000 in
theorem markRun_any (B : Nat) (d : RunD) (p : RunP) (w : World) (hB : B ≤ w.heap.size) (hs : d.Short) (h : OwnRun w B d p) :
    Calls Try.prog 22 #[d.val p, .int .i64 1] w fun e w' => e = .returned (.int .i64 (1 + d.marks)) ∧ OwnRun w' B (d.up 1) p ∧ Below B w w' ∧ KeptBut d p w w' := by
  have hlt := fun k e => (World.ownsRow.lt h.o0 k e).2
  have hlt1 := fun k e => (World.ownsRow.lt h.o1 k e).2
  have hlt2 := fun k e => (World.ownsRow.lt h.o2 k e).2
  have hlt3 := fun k e => (World.ownsRow.lt h.o3 k e).2
  obtain ⟨q0, q1, q2, q3⟩ := hs
  go_enter Try.func22, Try.ntmps22
  go_wp2_with fail
  have hB0 : Below B w (w.alloc (.cells (d.cells p) 30)) := (Below.refl _ _).alloc hB _
  have bp : RunAt (w.alloc (.cells (d.cells p) 30)) w.heap.size d p := runAt_new w d p 30
  have hz0 : w.heap.size < (w.alloc (.cells (d.cells p) 30)).heap.size := by simp
  replace h : OwnRun (w.alloc (.cells (d.cells p) 30)) B d p := h.below ((Below.refl _ _).alloc (Nat.le_refl _) _)
  have kb0 : KeptBut d p w (w.alloc (.cells (d.cells p) 30)) := fun k hk _ _ _ _ => ((Below.refl w.heap.size w).alloc (Nat.le_refl _) _).block k hk
  generalize (w.alloc (.cells (d.cells p) 30)) = W0 at *
  obtain ⟨o0, o1, o2, o3, x01, x02, x03, x12, x13, x23⟩ := h
  refine (markVals_from B 1 (by omega) (by omega) d.slots (d.v0 p) _ q0 o0).mono ?_
  rintro e W1 ⟨rfl, p0, gr⟩
  have hB1 : Below B w W1 := hB0.grown gr (by omega) (fun k e => OwnsV.block o0 k e)
  have hz1 : w.heap.size < W1.heap.size := Nat.lt_of_lt_of_le hz0 gr.size
  have kb1 : KeptBut d p w W1 := fun k hk n0 n1 n2 n3 => (gr.block k (by omega) (fun e => n0 e.symm)).trans (kb0 k hk n0 n1 n2 n3)
  replace o1 := OwnsV.apart o1 gr x01
  replace o2 := Owns.apart o2 gr x02
  replace o3 := Owns.apart o3 gr x03
  replace bp : RunAt W1 w.heap.size d p := bp.but gr (fun e => by have := hlt _ e; omega)
  clear gr hB0 hz0 kb0 o0
  obtain ⟨c0, c1, c2, c3, c4, c5, c6, c7, c8, c9, c10, c11, c12⟩ := id bp
  go_wp2_with fail
  refine (markVals_from B (1 + 2 * (d.slots.length : Int)) (by omega) (by omega) d.mail (d.v1 p) _ q1 o1).mono ?_
  rintro e W2 ⟨rfl, p1, gr⟩
  have hB2 : Below B w W2 := hB1.grown gr (by omega) (fun k e => OwnsV.block o1 k e)
  have hz2 : w.heap.size < W2.heap.size := Nat.lt_of_lt_of_le hz1 gr.size
  have kb2 : KeptBut d p w W2 := fun k hk n0 n1 n2 n3 => (gr.block k (by omega) (fun e => n1 e.symm)).trans (kb1 k hk n0 n1 n2 n3)
  replace p0 := OwnsV.apart p0 gr x01.symm
  replace o2 := Owns.apart o2 gr x12
  replace o3 := Owns.apart o3 gr x13
  replace bp : RunAt W2 w.heap.size d p := bp.but gr (fun e => by have := hlt1 _ e; omega)
  clear gr hB1 hz1 kb1 o1 c0 c1 c2 c3 c4 c5 c6 c7 c8 c9 c10 c11 c12
  obtain ⟨c0, c1, c2, c3, c4, c5, c6, c7, c8, c9, c10, c11, c12⟩ := id bp
  go_wp2_with fail
  refine (markInts_from B (1 + 2 * (d.slots.length : Int) + 2 * (d.mail.length : Int)) (by omega) (by omega) d.links (d.v2 p) _ q2 o2).mono ?_
  rintro e W3 ⟨rfl, p2, gr⟩
  have hB3 : Below B w W3 := hB2.grown gr (by omega) (fun k e => Owns.block o2 k e)
  have hz3 : w.heap.size < W3.heap.size := Nat.lt_of_lt_of_le hz2 gr.size
  have kb3 : KeptBut d p w W3 := fun k hk n0 n1 n2 n3 => (gr.block k (by omega) (fun e => n2 e.symm)).trans (kb2 k hk n0 n1 n2 n3)
  replace p0 := OwnsV.apart p0 gr x02.symm
  replace p1 := OwnsV.apart p1 gr x12.symm
  replace o3 := Owns.apart o3 gr x23
  replace bp : RunAt W3 w.heap.size d p := bp.but gr (fun e => by have := hlt2 _ e; omega)
  clear gr hB2 hz2 kb2 o2 c0 c1 c2 c3 c4 c5 c6 c7 c8 c9 c10 c11 c12
  obtain ⟨c0, c1, c2, c3, c4, c5, c6, c7, c8, c9, c10, c11, c12⟩ := id bp
  go_wp2_with fail
  refine (markInts_from B (1 + 2 * (d.slots.length : Int) + 2 * (d.mail.length : Int) + (d.links.length : Int)) (by omega) (by omega) d.wat (d.v3 p) _ q3 o3).mono ?_
  rintro e W4 ⟨rfl, p3, gr⟩
  have hB4 : Below B w W4 := hB3.grown gr (by omega) (fun k e => Owns.block o3 k e)
  have hz4 : w.heap.size < W4.heap.size := Nat.lt_of_lt_of_le hz3 gr.size
  have kb4 : KeptBut d p w W4 := fun k hk n0 n1 n2 n3 => (gr.block k (by omega) (fun e => n3 e.symm)).trans (kb3 k hk n0 n1 n2 n3)
  replace p0 := OwnsV.apart p0 gr x03.symm
  replace p1 := OwnsV.apart p1 gr x13.symm
  replace p2 := Owns.apart p2 gr x23.symm
  replace bp : RunAt W4 w.heap.size d p := bp.but gr (fun e => by have := hlt3 _ e; omega)
  clear gr hB3 hz3 kb3 o3 c0 c1 c2 c3 c4 c5 c6 c7 c8 c9 c10 c11 c12
  obtain ⟨c0, c1, c2, c3, c4, c5, c6, c7, c8, c9, c10, c11, c12⟩ := id bp
  go_wp2_with fail
  go_ret
  obtain ⟨u0, u1, u2, u3⟩ := d.up_v 1 p
  refine ⟨by rw [RunD.marks]; simp only [Int.add_assoc]; rfl, ⟨?_, ?_, ?_, ?_, ?_, ?_, ?_, ?_, ?_, ?_⟩, hB4, kb4⟩
  · rw [u0]; unfold OwnsV at p0 ⊢; rw [upsV_len] at p0; simpa [RunD.up, upsV_len] using p0
  · rw [u1]; unfold OwnsV at p1 ⊢; rw [upsV_len] at p1; simpa [RunD.up, upsV_len] using p1
  · rw [u2]; unfold Owns at p2 ⊢; rw [upsI_len] at p2; simpa [RunD.up, upsI_len] using p2
  · rw [u3]; unfold Owns at p3 ⊢; rw [upsI_len] at p3; simpa [RunD.up, upsI_len] using p3
  · rw [u0, u1]; exact x01
  · rw [u0, u2]; exact x02
  · rw [u0, u3]; exact x03
  · rw [u1, u2]; exact x12
  · rw [u1, u3]; exact x13
  · rw [u2, u3]; exact x23
set_option maxRecDepth 20000 in
set_option maxHeartbeats 4000000 in
theorem heldRun_any (S : Nat) (d : RunD) (p : RunP) (w : World) (hS : S ≤ w.heap.size) (hs : d.Short) (h : RunMem S w (d.up 1) p) :
    Calls Try.prog 23 #[d.val p, .int .i64 1] w fun e w' => e = .returned (.int .i64 (1 + d.marks)) ∧ Below w.heap.size w w' := by
  obtain ⟨q0, q1, q2, q3⟩ := hs
  obtain ⟨u0, u1, u2, u3⟩ := d.up_v 1 p
  obtain ⟨m0, m1, m2, m3⟩ := h
  rw [u0] at m0
  rw [u1] at m1
  rw [u2] at m2
  rw [u3] at m3
  clear u0 u1 u2 u3
  go_enter Try.func23, Try.ntmps23
  go_wp2_with fail
  have hB0 : Below w.heap.size w (w.alloc (.cells (d.cells p) 30)) := (Below.refl _ _).alloc (Nat.le_refl _) _
  obtain ⟨c0, c1, c2, c3, c4, c5, c6, c7, c8, c9, c10, c11, c12⟩ := runAt_new w d p 30
  generalize (w.alloc (.cells (d.cells p) 30)) = W0 at *
  refine (heldVals_from w.heap.size 1 (by omega) (by omega) d.slots.length (d.v0 p) _ q0 ((m0.mono hS).below hB0)).mono ?_
  rintro e W ⟨rfl, hw⟩
  subst hw
  go_wp2_with fail
  refine (heldVals_from w.heap.size (1 + 2 * (d.slots.length : Int)) (by omega) (by omega) d.mail.length (d.v1 p) _ q1 ((m1.mono hS).below hB0)).mono ?_
  rintro e W ⟨rfl, hw⟩
  subst hw
  go_wp2_with fail
  refine (heldInts_from w.heap.size (1 + 2 * (d.slots.length : Int) + 2 * (d.mail.length : Int)) (by omega) (by omega) d.links.length (d.v2 p) _ q2 ((m2.mono hS).below hB0)).mono ?_
  rintro e W ⟨rfl, hw⟩
  subst hw
  go_wp2_with fail
  refine (heldInts_from w.heap.size (1 + 2 * (d.slots.length : Int) + 2 * (d.mail.length : Int) + (d.links.length : Int)) (by omega) (by omega) d.wat.length (d.v3 p) _ q3 ((m3.mono hS).below hB0)).mono ?_
  rintro e W ⟨rfl, hw⟩
  subst hw
  go_wp2_with fail
  go_ret
  exact ⟨by rw [RunD.marks]; simp only [Int.add_assoc]; rfl, hB0⟩
end Go.Proofs.Ytefaocjcfecipaa
