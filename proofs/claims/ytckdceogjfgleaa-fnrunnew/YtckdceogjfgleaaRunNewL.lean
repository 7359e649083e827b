/-
  For every code, FnRunNew answers true: impl.RunNew is the specification's at what is drawn, and what it makes is ok, going, at its place, with the value in its first slot. No condition.
-/
import Derived.Test.YtckdceogjfgleaaRunNewS
import Derived.Test.YtckdceogjfgleaaRunOkI
import Derived.Test.YtckdceogjfgleaaLvRun
import Derived.Test.YtckdceogjfgleaaVal
import Derived.Deep.RegionHeld3
import Derived.Deep.CutRange
import Derived.Test.YtckdceogjfgleaaPlainFrame
namespace Go.Proofs.Ytckdceogjfgleaa
open Go.ChangeShapes Go.WideShapes Go.ChangeAt Go.RowKit Go.Joins
namespace RunNewL
section
attribute [local go_sem ↓] Go.wp_at_zero Go.wp_at_succ
set_option maxRecDepth 20000 in
set_option maxHeartbeats 2000000 in
theorem drawRunNew_any (p : Option Addr) (len cap : Nat) (w : World) (h : Code0 w p len cap) :
    Calls Try.prog 8 #[.slice p len cap] w fun e w' => ∃ i a k n, e = .returned (.tuple #[.int .i64 i, .int .i64 a, .agg #[.int .i64 k, .int .i64 n]]) ∧ Below w.heap.size w w' := by
  have hb0 : Below w.heap.size w (w.alloc (.cells #[.int .i64 0, .int .i64 0] 24)) := (Below.refl _ _).alloc (Nat.le_refl _) _
  have h0 := h.below hb0
  have z0 : (w.alloc (.cells #[.int .i64 0, .int .i64 0] 24)).cell? ⟨w.heap.size, 0, none⟩ = some (.int .i64 0) := by simp [go_sem]
  have z1 : (w.alloc (.cells #[.int .i64 0, .int .i64 0] 24)).cell? ⟨w.heap.size, 1, none⟩ = some (.int .i64 0) := by simp [go_sem]
  have f0 : (w.alloc (.cells #[.int .i64 0, .int .i64 0] 24)).frozen? ⟨w.heap.size, 0, none⟩ = false := by simp [go_sem]
  have f1 : (w.alloc (.cells #[.int .i64 0, .int .i64 0] 24)).frozen? ⟨w.heap.size, 1, none⟩ = false := by simp [go_sem]
  have hz0 : (w.alloc (.cells #[.int .i64 0, .int .i64 0] 24)).heap.size = w.heap.size + 1 := by simp
  go_enter Try.func8, Try.ntmps8
  go_wp2_with fail
  generalize (w.alloc (.cells #[.int .i64 0, .int .i64 0] 24)) = w0 at *
  replace hz0 : Hid (w0.heap.size = w.heap.size + 1) := hz0
  refine (open_any p len cap _ h0).mono ?_
  rintro e w1 ⟨rfl, hb1, hR1⟩
  have hz1 := hb1.size
  have hl1 := hR1.lt
  have hw0 := hz0.out
  obtain ⟨hc1, hf1⟩ := bcell hb1
  replace z0 : w1.cell? ⟨w.heap.size, 0, none⟩ = some (.int .i64 0) := by rw [hc1 _ _ (by omega)]; exact z0
  replace z1 : w1.cell? ⟨w.heap.size, 1, none⟩ = some (.int .i64 0) := by rw [hc1 _ _ (by omega)]; exact z1
  replace f0 : w1.frozen? ⟨w.heap.size, 0, none⟩ = false := by rw [hf1 _ _ (by omega)]; exact f0
  replace f1 : w1.frozen? ⟨w.heap.size, 1, none⟩ = false := by rw [hf1 _ _ (by omega)]; exact f1
  have hB1 : Below w.heap.size w w1 := hb0.trans (hb1.mono (by omega))
  have hle : w.heap.size < w0.heap.size := by omega
  clear hb1 hc1 hf1 hb0 hw0
  generalize w0.heap.size = R0 at *
  go_wp2_with fail
  refine (pick_any R0 0 8 _ hR1 (by omega) (by omega) (by omega)).mono ?_
  rintro e w2 ⟨i, rfl, hi, hb2, hR2⟩
  have hz2 := hb2.size
  go_wp2_with fail
  refine (pick_any R0 (0 + 1) 18 _ hR2 (by omega) (by omega) (by omega)).mono ?_
  rintro e w3 ⟨a, rfl, ha, hb3, hR3⟩
  have hz3 := hb3.size
  go_wp2_with fail
  refine (val_any R0 (0 + 1 + 1) _ hR3 (by omega)).mono ?_
  rintro e w4 ⟨k, n, p4, rfl, hkn, hb4, hp4, hR4⟩
  have hb : But R0 w1 w4 := (hb2.trans hb3).trans hb4
  replace z0 : w4.cell? ⟨w.heap.size, 0, none⟩ = some (.int .i64 0) := (hb.cell (p := ⟨w.heap.size, 0, none⟩) (by show w.heap.size < _; omega) (by show w.heap.size ≠ _; omega)).trans z0
  replace z1 : w4.cell? ⟨w.heap.size, 1, none⟩ = some (.int .i64 0) := (hb.cell (p := ⟨w.heap.size, 1, none⟩) (by show w.heap.size < _; omega) (by show w.heap.size ≠ _; omega)).trans z1
  replace f0 : w4.frozen? ⟨w.heap.size, 0, none⟩ = false := (hb.frozen (p := ⟨w.heap.size, 0, none⟩) (by show w.heap.size < _; omega) (by show w.heap.size ≠ _; omega)).trans f0
  replace f1 : w4.frozen? ⟨w.heap.size, 1, none⟩ = false := (hb.frozen (p := ⟨w.heap.size, 1, none⟩) (by show w.heap.size < _; omega) (by show w.heap.size ≠ _; omega)).trans f1
  have hB4 : Below w.heap.size w w4 := hB1.trans (hb.below (by omega) (by omega))
  clear hb hb2 hb3 hb4 hB1 hR1 hR2 hR3 hR4
  have ha' : a - 1 ≤ 100 := by omega
  go_wp2_with fail
  exact bodyPost_ret (v := .tuple #[.int .i64 i, .int .i64 (a - 1), .agg #[.int .i64 k, .int .i64 n]]) (by simp [results, Try.results8, go_sem, z0, z1]) rfl ⟨i, a - 1, k, n, rfl, (hB4.setCell (by dsimp only; omega) _).setCell (by dsimp only; omega) _⟩
end
/-- what the region reads, and that what was there stays -/
abbrev SevR (g gv sb so : Nat) (c0 c1 c2 c3 c4 c5 c6 c7 c8 c9 c10 c11 c12 : Value) (x y : Int) (W w' : World) : Prop :=
  w'.cell? ⟨g, 0, none⟩ = some c0 ∧ w'.cell? ⟨g, 1, none⟩ = some c1 ∧ w'.cell? ⟨g, 2, none⟩ = some c2 ∧ w'.cell? ⟨g, 3, none⟩ = some c3 ∧ w'.cell? ⟨g, 4, none⟩ = some c4 ∧ w'.cell? ⟨g, 5, none⟩ = some c5 ∧ w'.cell? ⟨g, 6, none⟩ = some c6 ∧ w'.cell? ⟨g, 7, none⟩ = some c7 ∧ w'.cell? ⟨g, 8, none⟩ = some c8 ∧ w'.cell? ⟨g, 9, none⟩ = some c9 ∧ w'.cell? ⟨g, 10, none⟩ = some c10 ∧ w'.cell? ⟨g, 11, none⟩ = some c11 ∧ w'.cell? ⟨g, 12, none⟩ = some c12 ∧ w'.cell? ⟨sb, so, none⟩ = some (.int .i64 x) ∧ w'.cell? ⟨sb, so + 1, none⟩ = some (.int .i64 y) ∧ w'.cell? ⟨gv, 0, none⟩ = some (.int .i64 x) ∧ w'.cell? ⟨gv, 1, none⟩ = some (.int .i64 y) ∧ Below W.heap.size W w'
theorem SevR.below {g gv sb so : Nat} {c0 c1 c2 c3 c4 c5 c6 c7 c8 c9 c10 c11 c12 : Value} {x y : Int} {W w' : World} (h : SevR g gv sb so c0 c1 c2 c3 c4 c5 c6 c7 c8 c9 c10 c11 c12 x y W w') : Below W.heap.size W w' := h.2.2.2.2.2.2.2.2.2.2.2.2.2.2.2.2.2
theorem sevR_of {g gv sb so : Nat} {c0 c1 c2 c3 c4 c5 c6 c7 c8 c9 c10 c11 c12 : Value} {x y : Int} {W w' X : World} (l1 : g < W.heap.size) (l2 : gv < W.heap.size) (l3 : sb < W.heap.size) (h : SevR g gv sb so c0 c1 c2 c3 c4 c5 c6 c7 c8 c9 c10 c11 c12 x y W w') (hb : Below W.heap.size W X) : SevR g gv sb so c0 c1 c2 c3 c4 c5 c6 c7 c8 c9 c10 c11 c12 x y W X := by
  obtain ⟨h0, h1, h2, h3, h4, h5, h6, h7, h8, h9, h10, h11, h12, h13, h14, h15, h16, h17⟩ := h
  have e : ∀ b o, b < W.heap.size → X.cell? ⟨b, o, none⟩ = w'.cell? ⟨b, o, none⟩ := fun b o hlt => (hb.cell (p := ⟨b, o, none⟩) hlt).trans (h17.cell (p := ⟨b, o, none⟩) hlt).symm
  exact ⟨(e _ _ l1).trans h0, (e _ _ l1).trans h1, (e _ _ l1).trans h2, (e _ _ l1).trans h3, (e _ _ l1).trans h4, (e _ _ l1).trans h5, (e _ _ l1).trans h6, (e _ _ l1).trans h7, (e _ _ l1).trans h8, (e _ _ l1).trans h9, (e _ _ l1).trans h10, (e _ _ l1).trans h11, (e _ _ l1).trans h12, (e _ _ l3).trans h13, (e _ _ l3).trans h14, (e _ _ l2).trans h15, (e _ _ l2).trans h16, hb⟩
theorem sevR_drew {g gv sb so : Nat} {c0 c1 c2 c3 c4 c5 c6 c7 c8 c9 c10 c11 c12 : Value} {x y : Int} {W X : World} (l1 : g < W.heap.size) (l2 : gv < W.heap.size) (l3 : sb < W.heap.size) (h : SevR g gv sb so c0 c1 c2 c3 c4 c5 c6 c7 c8 c9 c10 c11 c12 x y W X) : SevR g gv sb so c0 c1 c2 c3 c4 c5 c6 c7 c8 c9 c10 c11 c12 x y W X.drew := sevR_of l1 l2 l3 h (SevR.below h).drew
theorem sevR_call {g gv sb so : Nat} {c0 c1 c2 c3 c4 c5 c6 c7 c8 c9 c10 c11 c12 : Value} {x y : Int} {W X w' : World} (l1 : g < W.heap.size) (l2 : gv < W.heap.size) (l3 : sb < W.heap.size) (h : SevR g gv sb so c0 c1 c2 c3 c4 c5 c6 c7 c8 c9 c10 c11 c12 x y W X) (hb : Below X.heap.size X w') : SevR g gv sb so c0 c1 c2 c3 c4 c5 c6 c7 c8 c9 c10 c11 c12 x y W w' := sevR_of l1 l2 l3 h ((SevR.below h).trans (hb.mono (SevR.below h).size))
theorem newD_short (i a k n : Int) : (newD i a k n).Short := by
  unfold newD; split
  · exact ⟨by simp [newR], by simp [newR], by simp [newR], by simp [newR]⟩
  · exact ⟨by simp [runZ], by simp [runZ], by simp [runZ], by simp [runZ]⟩
theorem slots_new (k n : Int) (h : okB k n = true) : (List.range 4).all (slotQ 1 [(k, n), (0, 0), (0, 0), (0, 0)]) = true := by
  have e0 : hasF 1 0 = true := by decide +kernel
  have z : okB 0 0 = true := by decide
  simp [List.range, List.range.loop, slotQ, h, e0, z]
theorem newR_ok {i a k n : Int} (h : newB i a k n = true) : runB (newR i a k n) = true := by
  unfold newB at h
  rw [Bool.and_eq_true, Bool.and_eq_true] at h
  obtain ⟨h1, h2, h3⟩ := h
  have hs : slotsB (newR i a k n) = true := by
    unfold slotsB newR
    simp only [slots_new k n h3]
    rfl
  unfold runB
  rw [hs]
  simp [newR, h1, h2, mailB, allOk, countsB, idsB, endB]
set_option maxRecDepth 20000 in
set_option maxHeartbeats 8000000 in
theorem walk_in (a0 : Option Addr) (len0 cap0 : Nat) (w : World) (h0 : Code0 w a0 len0 cap0) (hl0 : len0 ≤ 1048576) :
    Calls Try.prog 3 #[.slice a0 len0 cap0] w fun e w' => e = .returned (.bool true) ∧ Below w.heap.size w w' := by
  have g0 : ¬ (1048576 : Int) < (len0 : Int) := by omega
  go_enter Try.func3, Try.ntmps3
  go_wp2_with fail
  refine (drawRunNew_any a0 len0 cap0 _ h0).mono ?_
  rintro e w1 ⟨i, a, k, n, rfl, hb1⟩
  have hs : Hid (newD i a k n).Short := newD_short i a k n
  have hyes : Hid (newB i a k n = true → newD i a k n = newR i a k n ∧ runB (newD i a k n) = true) := fun h => ⟨newD_yes h, by rw [newD_yes h]; exact newR_ok h⟩
  have hsp : Hid (∀ w, Calls Try.prog 9 #[.int .i64 i, .int .i64 a, .agg #[.int .i64 k, .int .i64 n]] w fun e w' => ∃ p, e = .returned (.tuple #[(newD i a k n).val p, .bool (newB i a k n)]) ∧ OwnRun w' w.heap.size (newD i a k n) p ∧ Below w.heap.size w w') := fun w => specNew_any i a k n w
  have him : Hid (∀ w, Calls Try.prog 10 #[.int .i64 i, .int .i64 a, .agg #[.int .i64 k, .int .i64 n]] w fun e w' => ∃ p, e = .returned (.tuple #[(newD i a k n).val p, .bool (newB i a k n)]) ∧ OwnRun w' w.heap.size (newD i a k n) p ∧ Below w.heap.size w w') := fun w => implNew_any i a k n w
  generalize newD i a k n = d at *
  generalize newB i a k n = b at *
  have hz1 := hb1.size
  have hB1 : Below w.heap.size w (w1.alloc (.cells #[.int .i64 k, .int .i64 n] 24)) := hb1.alloc hz1 _
  have v0 : (w1.alloc (.cells #[.int .i64 k, .int .i64 n] 24)).cell? ⟨w1.heap.size, 0, none⟩ = some (.int .i64 k) := by simp [go_sem]
  have v1 : (w1.alloc (.cells #[.int .i64 k, .int .i64 n] 24)).cell? ⟨w1.heap.size, 1, none⟩ = some (.int .i64 n) := by simp [go_sem]
  have hzv : w1.heap.size < (w1.alloc (.cells #[.int .i64 k, .int .i64 n] 24)).heap.size := by simp
  go_wp2_with fail
  generalize (w1.alloc (.cells #[.int .i64 k, .int .i64 n] 24)) = W1 at *
  generalize w1.heap.size = gv at *
  refine (hsp.out _).mono ?_
  rintro e w2 ⟨p, rfl, ho2, hb2⟩
  have hz2 := hb2.size
  have hr2 : RunAt (w2.alloc (.cells (d.cells p) 30)) w2.heap.size d p := runAt_new w2 d p 30
  have hx2 : Below w2.heap.size w2 (w2.alloc (.cells (d.cells p) 30)) := (Below.refl _ _).alloc (Nat.le_refl _) _
  have hy2 : w2.heap.size < (w2.alloc (.cells (d.cells p) 30)).heap.size := by simp
  have ho2' := ho2.below hx2
  have hB2 : Below w.heap.size w (w2.alloc (.cells (d.cells p) 30)) := (hB1.trans (hb2.mono (by omega))).trans (hx2.mono (by omega))
  replace v0 : (w2.alloc (.cells (d.cells p) 30)).cell? ⟨gv, 0, none⟩ = some (.int .i64 k) := (hx2.cell (p := ⟨gv, 0, none⟩) (by show gv < _; omega)).trans ((hb2.cell (p := ⟨gv, 0, none⟩) hzv).trans v0)
  replace v1 : (w2.alloc (.cells (d.cells p) 30)).cell? ⟨gv, 1, none⟩ = some (.int .i64 n) := (hx2.cell (p := ⟨gv, 1, none⟩) (by show gv < _; omega)).trans ((hb2.cell (p := ⟨gv, 1, none⟩) hzv).trans v1)
  have hzv2 : gv < (w2.alloc (.cells (d.cells p) 30)).heap.size := by omega
  clear hb2 hx2 ho2 hB1 hb1 h0
  go_wp2_with fail
  generalize (w2.alloc (.cells (d.cells p) 30)) = W2 at *
  generalize w2.heap.size = g2 at *
  refine (him.out _).mono ?_
  rintro e w3 ⟨q, rfl, ho3, hb3⟩
  have hz3 := hb3.size
  have hr3 : RunAt (w3.alloc (.cells (d.cells q) 30)) w3.heap.size d q := runAt_new w3 d q 30
  have hx3 : Below w3.heap.size w3 (w3.alloc (.cells (d.cells q) 30)) := (Below.refl _ _).alloc (Nat.le_refl _) _
  have hy3 : w3.heap.size < (w3.alloc (.cells (d.cells q) 30)).heap.size := by simp
  have ho3' := ho3.below hx3
  have hbx : Below W2.heap.size W2 (w3.alloc (.cells (d.cells q) 30)) := hb3.trans (hx3.mono (by omega))
  replace ho2' := ho2'.below hbx
  replace hr2 := hr2.below (S := W2.heap.size) hy2 hbx
  have hB3 : Below w.heap.size w (w3.alloc (.cells (d.cells q) 30)) := hB2.trans (hbx.mono (by omega))
  replace v0 : (w3.alloc (.cells (d.cells q) 30)).cell? ⟨gv, 0, none⟩ = some (.int .i64 k) := (hbx.cell (p := ⟨gv, 0, none⟩) hzv2).trans v0
  replace v1 : (w3.alloc (.cells (d.cells q) 30)).cell? ⟨gv, 1, none⟩ = some (.int .i64 n) := (hbx.cell (p := ⟨gv, 1, none⟩) hzv2).trans v1
  have hzv3 : gv < (w3.alloc (.cells (d.cells q) 30)).heap.size := by omega
  have hy2' : g2 < (w3.alloc (.cells (d.cells q) 30)).heap.size := by omega
  clear hb3 hx3 ho3 hB2 hbx hsp him
  obtain ⟨c0, c1, c2, c3, c4, c5, c6, c7, c8, c9, c10, c11, c12⟩ := id hr2
  go_wp2_with fail
  generalize (w3.alloc (.cells (d.cells q) 30)) = W3 at *
  generalize w3.heap.size = g3 at *
  clear c0 c1 c2 c3 c4 c5 c6 c7 c8 c9 c10 c11 c12
  refine (lvRun_same W3.heap.size d q p _ (Nat.le_refl _) hs.out ho3'.mem ho2'.mem).mono ?_
  rintro e w4 ⟨rfl, hb4⟩
  have hz4 := hb4.size
  replace hr2 := hr2.below (S := W3.heap.size) hy2' hb4
  replace hr3 := hr3.below (S := W3.heap.size) hy3 hb4
  replace ho2' := ho2'.below hb4
  replace ho3' := ho3'.below hb4
  replace v0 := (hb4.cell (p := ⟨gv, 0, none⟩) hzv3).trans v0
  replace v1 := (hb4.cell (p := ⟨gv, 1, none⟩) hzv3).trans v1
  have hB4 : Below w.heap.size w w4 := hB3.trans (hb4.mono (by omega))
  have hzv4 : gv < w4.heap.size := by omega
  have hy24 : g2 < w4.heap.size := by omega
  have hy34 : g3 < w4.heap.size := by omega
  clear hb4 hB3
  cases b with
  | false =>
    obtain ⟨c0, c1, c2, c3, c4, c5, c6, c7, c8, c9, c10, c11, c12⟩ := id hr2
    obtain ⟨e0, e1, e2, e3, e4, e5, e6, e7, e8, e9, e10, e11, e12⟩ := id hr3
    go_wp2_with fail
    refine (lvRun_same w4.heap.size d q p _ (Nat.le_refl _) hs.out ho3'.mem ho2'.mem).mono ?_
    rintro e w5 ⟨rfl, hb5⟩
    go_wp2_with fail
    go_ret
    exact ⟨by simp, hB4.trans (hb5.mono (by omega))⟩
  | true =>
    obtain ⟨hd, hok⟩ := hyes.out rfl
    subst hd
    have hmem := ho3'.mem
    obtain ⟨ao, cp, hv, hc⟩ := hmem.m0
    have hv' : Value.slice q.a0 4 q.k0 = .slice ao 4 cp := hv
    injection hv' with e1 _ e3
    rcases hc with hL0 | ⟨sb, so, rfl, hsb, hc⟩
    · simp [newR] at hL0
    obtain ⟨s0, s1⟩ := hc 0 (by simp [newR])
    have m0 : w4.cell? ⟨sb, so, none⟩ = some (.int .i64 k) := by simpa [newR] using s0
    have m1 : w4.cell? ⟨sb, so + 1, none⟩ = some (.int .i64 n) := by simpa [newR] using s1
    obtain ⟨t0, t1, t2, t3, t4, t5, t6, t7, t8, t9, t10, t11, t12⟩ := hr3
    have hS0 : SevR g3 gv sb so (.int .i64 i) (.int .i64 a) (.slice q.a0 4 q.k0) (.int .i64 1) (.slice q.a1 0 q.k1) (.int .i64 1) (.int .i64 0) (.slice q.a2 0 q.k2) (.slice q.a3 0 q.k3) (.bool false) (.int .i64 0) (.int .i64 0) (.int .i64 0) k n w4 w4 := ⟨t0, t1, t2, t3, t4, t5, t6, t7, t8, t9, t10, t11, t12, m0, m1, v0, v1, Below.refl _ _⟩
    have hcall : ∀ X, SevR g3 gv sb so (.int .i64 i) (.int .i64 a) (.slice q.a0 4 q.k0) (.int .i64 1) (.slice q.a1 0 q.k1) (.int .i64 1) (.int .i64 0) (.slice q.a2 0 q.k2) (.slice q.a3 0 q.k3) (.bool false) (.int .i64 0) (.int .i64 0) (.int .i64 0) k n w4 X → Calls Try.prog 12 #[.agg #[.int .i64 i, .int .i64 a, .slice q.a0 4 q.k0, .int .i64 1, .slice q.a1 0 q.k1, .int .i64 1, .int .i64 0, .slice q.a2 0 q.k2, .slice q.a3 0 q.k3, .bool false, .int .i64 0, .int .i64 0, .int .i64 0]] X fun e w' => e = .returned (.bool true) ∧ Below X.heap.size X w' := fun X hX => by
      have hb := SevR.below hX
      have c := implRunOk_any w4.heap.size (newR i a k n) q X hb.size hs.out (by simp [newR]) (by simp [newR]) (hmem.below hb)
      rw [hok] at c
      exact c
    have hsl : q.a0 = some ⟨sb, so, none⟩ := e1
    have hlb : sb < w4.heap.size := hsb
    have haa : (a == a) = true := by simp
    have hii : (i == i) = true := by simp
    have hkk : (k == k) = true := by simp
    have hnn : (n == n) = true := by simp
    clear hc s0 s1 hv e3 hr2 ho2' ho3' hmem hs hyes
    rw [hsl] at hS0 hcall t2
    obtain ⟨u0, u1, u2, u3, u4, u5, u6, u7, u8, u9, u10, u11, u12, _⟩ := id hS0
    clear t0 t1 t2 t3 t4 t5 t6 t7 t8 t9 t10 t11 t12
    go_wp2_with fail
    go_region_held3 (fun w' => w'.cell? ⟨g3, 0, none⟩ = some (.int .i64 i) ∧ w'.cell? ⟨g3, 1, none⟩ = some (.int .i64 a) ∧ w'.cell? ⟨g3, 2, none⟩ = some (.slice (some ⟨sb, so, none⟩) 4 q.k0) ∧ w'.cell? ⟨g3, 3, none⟩ = some (.int .i64 1) ∧ w'.cell? ⟨g3, 4, none⟩ = some (.slice q.a1 0 q.k1) ∧ w'.cell? ⟨g3, 5, none⟩ = some (.int .i64 1) ∧ w'.cell? ⟨g3, 6, none⟩ = some (.int .i64 0) ∧ w'.cell? ⟨g3, 7, none⟩ = some (.slice q.a2 0 q.k2) ∧ w'.cell? ⟨g3, 8, none⟩ = some (.slice q.a3 0 q.k3) ∧ w'.cell? ⟨g3, 9, none⟩ = some (.bool false) ∧ w'.cell? ⟨g3, 10, none⟩ = some (.int .i64 0) ∧ w'.cell? ⟨g3, 11, none⟩ = some (.int .i64 0) ∧ w'.cell? ⟨g3, 12, none⟩ = some (.int .i64 0) ∧ w'.cell? ⟨sb, so, none⟩ = some (.int .i64 k) ∧ w'.cell? ⟨sb, so + 1, none⟩ = some (.int .i64 n) ∧ w'.cell? ⟨gv, 0, none⟩ = some (.int .i64 k) ∧ w'.cell? ⟨gv, 1, none⟩ = some (.int .i64 n) ∧ Below w4.heap.size w4 w')
      (first | with_reducible exact sevR_drew hy34 hzv4 hlb (by with_reducible assumption) | with_reducible exact sevR_call hy34 hzv4 hlb (by with_reducible assumption) hbx)
      (first
        | (go_at_call 12; refine (hcall _ (by with_reducible assumption)).mono ?_; rintro e wx ⟨rfl, hbx⟩))
    all_goals go_wp2_with fail
    all_goals go_ret
    all_goals refine ⟨by rfl, hB4.trans (Below.mono (SevR.below (by with_reducible assumption)) (by omega))⟩
set_option maxHeartbeats 400000 in
theorem walk (a0 : Option Addr) (len0 cap0 : Nat) (w : World) (h0 : Code0 w a0 len0 cap0) :
    Calls Try.prog 3 #[.slice a0 len0 cap0] w fun e w' => e = .returned (.bool true) ∧ Below w.heap.size w w' := by
  by_cases hl0 : len0 ≤ 1048576
  · exact walk_in a0 len0 cap0 w h0 hl0
  · have g0 : (1048576 : Int) < (len0 : Int) := by omega
    go_enter Try.func3, Try.ntmps3
    go_wp2_with fail
    go_ret
    exact ⟨rfl, Below.refl _ _⟩

set_option maxRecDepth 100000 in
theorem lifted (os : Os) (started : os.Started) (H : Type) (enc : TypeId × Value → H) :
    ReturnsInHanded {} Try.checked os 3 .any (Rows.fnRunNewSpec.pre6 enc Try.prog Try.f3 Rows.fnRunNewRow.domain false) (Rows.fnRunNewSpec.post enc Try.prog Try.f3 false true false false) := by
  refine returnsInHanded_of_change (C := Try.checked) own started (by kernel_rfl) Try.func3
    (ChangeSpec.witness6 (enc := enc) (C := Try.checked) false ⟨#[], #[.slice none 0 0], []⟩ 8 (by kernel_rfl) (by kernel_rfl) (by kernel_rfl) (by kernel_rfl)) ?_
  intro W base args ds gs before hval0 hW hcnd _
  have hval : ∀ (j : Nat) t v, Try.f3.params[j]? = some t → args[j]? = some v → Value.okWide Try.prog W .any base t v := hval0
  have hW' := hW
  obtain ⟨p, q, hA0, hV, rfl, hfz, hnd⟩ := hW
  have hA : DataW.TrodAll enc Try.prog W 0 (fun _ => true) true Try.f3.params.toList args.toList ds p := hA0
  rw [Try.params3] at hA hval
  obtain ⟨v0, vs0, d0, ds0, p0, q0, hargs, rfl, rfl, h0, r0⟩ := trodAll_cons hA
  obtain ⟨rfl, rfl, rfl⟩ := trodAll_nil r0
  obtain rfl : args = #[v0] := by cases args; simp_all
  obtain ⟨rfl, rfl⟩ := trodVars_none hV
  obtain ⟨a0, len0, cap0, rfl⟩ := okWide_slice Try.underlying22 (hval 0 22 v0 rfl rfl)
  have k0 := h0
  have lt0 : ∀ x ∈ p0, x.block < W.heap.size := by obtain ⟨m, hm⟩ := k0; exact DataW.trod_lt m _ _ _ hm
  have w0 : Code0 W a0 len0 cap0 := by
    obtain ⟨fuel, hf⟩ := h0
    rcases open_ints Try.underlying22 Try.underlying5 (by kernel_rfl) hf with ⟨hcs, _⟩ | ⟨x, l, c, zs, hcs, _, hl, hm, hz, _, hcell, hwz⟩
    · simp [Value.cells] at hcs
      obtain ⟨rfl, rfl, rfl⟩ := hcs
      exact code_of_row (zs := []) (.inl ⟨rfl, rfl, rfl, rfl⟩)
    · simp [Value.cells] at hcs
      obtain ⟨rfl, rfl, rfl⟩ := hcs
      exact code_of_row (zs := zs) (.inr ⟨_, rfl, hl, hm, by simpa using hz, hcell, hwz⟩)
  clear hA0 hval0
  refine (walk a0 len0 cap0 W w0).mono fun e W' ⟨he, bel⟩ => ?_
  subst he
  exact ⟨_, rfl, _, _, _, [], _, [], hW', trodAll_mk1 (shut_bool Try.underlying4 _), (trodAll_cons_mk (Below.trod laidOut (by kernel_rfl) (of_decide_eq_true (by kernel_rfl)) k0 bel lt0) trodAll_mk0), rfl, bel.frame _, fun h => by cases h⟩

theorem over : Rows.fnRunNewRow.holds Try.pinned (OpenSpec.ofChange Rows.fnRunNewSpec) :=
  OpenClaim.holds_of_wide 3 Try.f3 rfl rfl rfl rfl rfl rfl rfl ⟨rfl, rfl, rfl, rfl, rfl⟩ rfl rfl rfl rfl rfl (by kernel_rfl) Try.func3 (by kernel_rfl)
    (of_decide_eq_true (by kernel_rfl)) (by unfold Func.isWrapper; first | (rw [if_pos (by decide +kernel)]; kernel_rfl) | (rw [if_neg (by decide +kernel)]; exact ⟨rfl, rfl⟩))
    (fun os started H enc _ => lifted os started H enc)
end RunNewL

/-- the given statement -/
theorem runNewL_holds : Rows.FnRunNewSaid := RunNewL.over
#print axioms runNewL_holds
end Go.Proofs.Ytckdceogjfgleaa
