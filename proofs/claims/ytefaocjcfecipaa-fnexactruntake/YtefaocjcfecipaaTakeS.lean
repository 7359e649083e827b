/-
  The value of a place taken out of a run's mail, over this translation: spec's l11Take.
-/
import Derived.Test.YtefaocjcfecipaaTakeI
import Derived.Deep.RegionHeld3
import Derived.Deep.RegionLaw
namespace Go.Proofs.Ytefaocjcfecipaa
open Go.ChangeShapes Go.WideShapes Go.ChangeAt Go.RowKit Go.Joins
set_option maxRecDepth 20000 in
set_option maxHeartbeats 4000000 in
theorem l11Take_any (B : Nat) (d : RunD) (q : RunP) (k : Nat) (w : World) (hs : d.Short) (hk : k < d.mail.length) (ho : OwnRun w B d q) :
    Calls Try.prog 55 #[d.val q, .int .i64 k] w fun e w' => ∃ p, e = .returned (.tuple #[({ d with mail := d.mail.take k ++ d.mail.drop (k + 1) } : RunD).val p, .agg #[.int .i64 d.mail[k].1, .int .i64 d.mail[k].2]]) ∧ OwnRun w' B { d with mail := d.mail.take k ++ d.mail.drop (k + 1) } p ∧ Below w.heap.size w w' := by
  replace hs : Hid d.Short := hs
  obtain ⟨a0, k0, a1, k1, a2, k2, a3, k3⟩ := q
  obtain ⟨g, rfl, hcap⟩ : ∃ g, a1 = some ⟨g, 0, none⟩ ∧ d.mail.length ≤ k1 := by
    rcases ho.o1.2 with ⟨h, hl⟩ | ⟨g, cap, cur, h, _, _, hnc, _⟩
    · omega
    · cases h; exact ⟨g, rfl, hnc⟩
  have hgw : B ≤ g ∧ g < w.heap.size := World.ownsRow.lt ho.o1 g rfl
  have hlen := hs.out.s1
  obtain ⟨m0, hmv⟩ : ∃ b : Nat, Hid (∀ i (h : i < d.mail.length), ValAt w g (0 + i * 2) d.mail[i]) := ⟨0, by
    obtain ⟨ao, cap, hv, hx⟩ := ho.mem.m1
    injection hv with e1 e2 e3
    rcases hx with h | ⟨b, o, h, _, hc⟩
    · rw [h] at hk; exact absurd hk (by simp)
    · rw [← e1] at h; cases h; exact hc⟩
  clear m0
  have hA : RunBoxF (w.alloc (.cells (d.cells ⟨a0, k0, some ⟨g, 0, none⟩, k1, a2, k2, a3, k3⟩) 30)) w.heap.size d ⟨a0, k0, some ⟨g, 0, none⟩, k1, a2, k2, a3, k3⟩ := RunBoxF.new w d _ 30
  have hR : RunBoxF ((w.alloc (.cells (d.cells ⟨a0, k0, some ⟨g, 0, none⟩, k1, a2, k2, a3, k3⟩) 30)).alloc (.cells #[.int .i64 0, .int .i64 0, .slice none 0 0, .int .i64 0, .slice none 0 0, .int .i64 0, .int .i64 0, .slice none 0 0, .slice none 0 0, .bool false, .int .i64 0, .int .i64 0, .int .i64 0] 30)) (w.heap.size + 1) runZ runPZ := RunBoxF.new' _ _ _ _ _ _ (by simp) rfl
  have hV : ValBoxF (((w.alloc (.cells (d.cells ⟨a0, k0, some ⟨g, 0, none⟩, k1, a2, k2, a3, k3⟩) 30)).alloc (.cells #[.int .i64 0, .int .i64 0, .slice none 0 0, .int .i64 0, .slice none 0 0, .int .i64 0, .int .i64 0, .slice none 0 0, .slice none 0 0, .bool false, .int .i64 0, .int .i64 0, .int .i64 0] 30)).alloc (.cells #[.int .i64 0, .int .i64 0] 24)) (w.heap.size + 1 + 1) (0, 0) := ValBoxF.new' _ (0, 0) _ _ (by simp)
  replace hA := (hA.below (S := w.heap.size + 1) (by omega) ((Below.refl _ _).alloc (by simp) (.cells #[.int .i64 0, .int .i64 0, .slice none 0 0, .int .i64 0, .slice none 0 0, .int .i64 0, .int .i64 0, .slice none 0 0, .slice none 0 0, .bool false, .int .i64 0, .int .i64 0, .int .i64 0] 30))).below (S := w.heap.size + 1) (by omega) ((Below.refl _ _).alloc (by simp <;> omega) (.cells #[.int .i64 0, .int .i64 0] 24))
  replace hR := hR.below (S := w.heap.size + 1 + 1) (by omega) ((Below.refl _ _).alloc (by simp) (.cells #[.int .i64 0, .int .i64 0] 24))
  have hB0 : Below w.heap.size w (((w.alloc (.cells (d.cells ⟨a0, k0, some ⟨g, 0, none⟩, k1, a2, k2, a3, k3⟩) 30)).alloc (.cells #[.int .i64 0, .int .i64 0, .slice none 0 0, .int .i64 0, .slice none 0 0, .int .i64 0, .int .i64 0, .slice none 0 0, .slice none 0 0, .bool false, .int .i64 0, .int .i64 0, .int .i64 0] 30)).alloc (.cells #[.int .i64 0, .int .i64 0] 24)) := (((Below.refl _ _).alloc (Nat.le_refl _) _).alloc (by simp) _).alloc (by simp; omega) _
  go_enter Try.func55, Try.ntmps55
  go_upto_region 1 with fail
  generalize (((w.alloc (.cells (d.cells ⟨a0, k0, some ⟨g, 0, none⟩, k1, a2, k2, a3, k3⟩) 30)).alloc (.cells #[.int .i64 0, .int .i64 0, .slice none 0 0, .int .i64 0, .slice none 0 0, .int .i64 0, .int .i64 0, .slice none 0 0, .slice none 0 0, .bool false, .int .i64 0, .int .i64 0, .int .i64 0] 30)).alloc (.cells #[.int .i64 0, .int .i64 0] 24)) = W0 at *
  have hz0 := hB0.size
  have hl0 := hV.lt
  have hmv0 : Hid (∀ i (h : i < d.mail.length), ValAt W0 g (0 + i * 2) d.mail[i]) := fun i h => (hmv.out i h).below hgw.2 hB0
  have hold : (∀ j, (d.v0 ⟨a0, k0, some ⟨g, 0, none⟩, k1, a2, k2, a3, k3⟩).ownBlock = some j → j < w.heap.size) ∧ (∀ j, (d.v2 ⟨a0, k0, some ⟨g, 0, none⟩, k1, a2, k2, a3, k3⟩).ownBlock = some j → j < w.heap.size) ∧ (∀ j, (d.v3 ⟨a0, k0, some ⟨g, 0, none⟩, k1, a2, k2, a3, k3⟩).ownBlock = some j → j < w.heap.size) := ⟨fun j e => (World.ownsRow.lt ho.o0 j e).2, fun j e => (World.ownsRow.lt ho.o2 j e).2, fun j e => (World.ownsRow.lt ho.o3 j e).2⟩
  have ho0 := ho.below hB0
  clear hmv ho
  have d0 := (hmv0.out k hk).1
  have d1 := (hmv0.out k hk).2
  rw [Nat.zero_add] at d0 d1
  generalize hxe : d.mail[k] = x at *
  replace hxe : Hid (d.mail[k] = x) := hxe
  have hi0 : (0 : Int) ≤ (k : Int) := by omega
  have hi1 : (k : Int) < (d.mail.length : Int) := by omega
  have c4 := hA.at_.c4
  go_wp2_with fail
  have hX : ValBoxF (W0.alloc (.cells #[.int .i64 x.1, .int .i64 x.2] 24)) W0.heap.size x := ValBoxF.new' _ _ _ _ rfl
  have hal : Below W0.heap.size W0 (W0.alloc (.cells #[.int .i64 x.1, .int .i64 x.2] 24)) := (Below.refl _ _).alloc (Nat.le_refl _) _
  replace hA := hA.below hA.lt hal
  replace hR := hR.below hR.lt hal
  replace hV := hV.below hV.lt hal
  have hlx := hX.lt
  have hmv1 : Hid (∀ i (h : i < d.mail.length), ValAt (W0.alloc (.cells #[.int .i64 x.1, .int .i64 x.2] 24)) g (0 + i * 2) d.mail[i]) := fun i h => (hmv0.out i h).below (by omega) hal
  have ho1 := ho0.below hal
  have hB1 : Below w.heap.size w (W0.alloc (.cells #[.int .i64 x.1, .int .i64 x.2] 24)) := hB0.trans (hal.mono (by omega))
  clear hmv0 ho0 hB0 d0 d1 c4 hal
  generalize hbx : W0.heap.size = bx at *
  generalize (W0.alloc (.cells #[.int .i64 x.1, .int .i64 x.2] 24)) = W at *
  clear hbx
  have c4 := hA.at_.c4
  have cf4 := hA.fr 4
  have hlA := hA.lt
  -- the region
  have hk1 : (k : Int) ≤ (k1 : Int) := by omega
  have hk2 : (k : Int) + 1 ≤ (d.mail.length : Int) := by omega
  have hk3 : (d.mail.length : Int) ≤ (k1 : Int) := by omega
  have hk4 : (0 : Int) ≤ (k : Int) + 1 := by omega
  have hw1 : IntKind.i64.wrap ((k : Int) + 1) = (k : Int) + 1 := by simp [IntKind.wrap, IntKind.bits, IntKind.signed]; omega
  obtain ⟨M', hM'⟩ : ∃ M', M' = d.mail.take k ++ d.mail.drop (k + 1) := ⟨_, rfl⟩
  have htk : (d.mail.take k).length = k := by rw [List.length_take]; omega
  have hal : Below W.heap.size W (W.alloc (.cells #[] 24)).drew := ((Below.refl _ _).alloc (Nat.le_refl _) _).drew
  have hem : Hid (OwnsV (W.alloc (.cells #[] 24)).drew W.heap.size (.slice (some ⟨W.heap.size, 0, none⟩) 0 0) []) := World.ownsRow.drew (World.ownsRow_lit W #[] 0 (Nat.le_refl _) (by unfold maxLen; omega) rfl)
  have hs1 : Hid (Vals W.heap.size (W.alloc (.cells #[] 24)).drew (.slice (some ⟨g, 0, none⟩) k k1) (d.mail.take k)) := ⟨some ⟨g, 0, none⟩, k1, by rw [htk], .inr ⟨g, 0, rfl, by omega, fun i hi => by
    have hi' : i < d.mail.length := by rw [htk] at hi; omega
    rw [List.getElem_take]
    exact (hmv1.out i hi').below (by omega) hal⟩⟩
  have hs2 : Hid (∀ W1, Below W.heap.size W W1 → Vals W.heap.size W1 (.slice (if k1 = k + 1 then some ⟨g, 0, none⟩ else some ⟨g, (k + 1) * 2, none⟩) (d.mail.length - (k + 1)) (k1 - (k + 1))) (d.mail.drop (k + 1))) := fun W1 hb => by
    refine ⟨_, k1 - (k + 1), by rw [List.length_drop], ?_⟩
    by_cases he : k1 = k + 1
    · exact .inl (by rw [List.drop_eq_nil_iff]; omega)
    · rw [if_neg he]
      refine .inr ⟨g, (k + 1) * 2, rfl, by omega, fun i hi => ?_⟩
      have hi' : k + 1 + i < d.mail.length := by rw [List.length_drop] at hi; omega
      rw [List.getElem_drop]
      have := (hmv1.out (k + 1 + i) hi').below (by omega) hb
      rw [show 0 + (k + 1 + i) * 2 = (k + 1) * 2 + i * 2 by omega] at this
      exact this
  have hn1 : ([] : List (Int × Int)).length + (d.mail.take k).length ≤ 16777216 := by rw [htk]; simp; omega
  have hn2 : (d.mail.take k).length + (d.mail.drop (k + 1)).length ≤ 16777216 := by rw [htk, List.length_drop]; omega
  have hb1 : W.heap.size ≤ (W.alloc (.cells #[] 24)).drew.heap.size := hal.size
  have htl : Hid ((d.mail.take k).length = k) := htk
  clear htk
  replace hM' : Hid (M' = d.mail.take k ++ d.mail.drop (k + 1)) := hM'
  replace hmv1 : Hid (∀ i (h : i < d.mail.length), ValAt W g (0 + i * 2) d.mail[i]) := hmv1
  go_region_law (first
    | (refine step_append_V _ rfl (.tmp 12) (.tmp 16) rfl (by rfl) (by rfl) hem.out hs1.out hn1 hb1 ?_; intro v1 W1 o1 q1 z1; rw [List.nil_append] at o1; have hw1b : Below W.heap.size W W1 := hal.grown q1 hb1 (by intro k e; cases e; exact Nat.le_refl _); have c41 : W1.cell? ⟨w.heap.size, 4, none⟩ = some (.slice (some ⟨g, 0, none⟩) d.mail.length k1) := (hw1b.cell (p := ⟨w.heap.size, 4, none⟩) hlA).trans c4)
    | (refine step_append_V _ rfl (.tmp 17) (.tmp 22) rfl (by rfl) (by rfl) o1 (hs2.out W1 hw1b) hn2 hw1b.size ?_; intro v2 W2 o2 q2 z2; rw [← hM'.out] at o2; have hw2b : Below W.heap.size W W2 := hw1b.grown q2 hw1b.size (fun k e => (World.ownsRow.lt o1 k e).1); have c42 : W2.cell? ⟨w.heap.size, 4, none⟩ = some (.slice (some ⟨g, 0, none⟩) d.mail.length k1) := (hw2b.cell (p := ⟨w.heap.size, 4, none⟩) hlA).trans c4; have f42 : W2.frozen? ⟨w.heap.size, 4, none⟩ = false := (hw2b.frozen (p := ⟨w.heap.size, 4, none⟩) hlA).trans cf4; obtain ⟨a9, k9, rfl⟩ := o2.form))
  all_goals
    clear hs2 hs1 hem
    generalize (if k1 = k + 1 then (some ⟨g, 0, none⟩ : Option Addr) else some ⟨g, (k + 1) * 2, none⟩) = ta at *
    go_step
    go_wp2_with fail
    have hs4 : But w.heap.size W2 (W2.setCell ⟨w.heap.size, 4, none⟩ (.slice a9 M'.length k9)) := (But.refl _ _).setCell (p := ⟨w.heap.size, 4, none⟩) rfl _
    have hzW := hw2b.size
    replace hA := (hA.below hA.lt hw2b).put4 M' a9 k9
    replace hR := (hR.below hR.lt hw2b).but (by omega) hs4
    replace hV := (hV.below hV.lt hw2b).but (by omega) hs4
    replace hX := (hX.below (by omega) hw2b).but (by omega) hs4
    have low0 : ∀ j, (d.v0 ⟨a0, k0, some ⟨g, 0, none⟩, k1, a2, k2, a3, k3⟩).ownBlock = some j → j < W.heap.size := fun j e => (World.ownsRow.lt ho1.o0 j e).2
    have low2 : ∀ j, (d.v2 ⟨a0, k0, some ⟨g, 0, none⟩, k1, a2, k2, a3, k3⟩).ownBlock = some j → j < W.heap.size := fun j e => (World.ownsRow.lt ho1.o2 j e).2
    have low3 : ∀ j, (d.v3 ⟨a0, k0, some ⟨g, 0, none⟩, k1, a2, k2, a3, k3⟩).ownBlock = some j → j < W.heap.size := fun j e => (World.ownsRow.lt ho1.o3 j e).2
    have hi : ∀ j, (Value.slice a9 M'.length k9).ownBlock = some j → W.heap.size ≤ j := fun j e => (World.ownsRow.lt o2 j e).1
    have ho2 := ho1.below hw2b
    clear hs4 z2 q2 z1 q1 o1 c41 c42 f42
    have y0 : Apart (d.v0 ⟨a0, k0, some ⟨g, 0, none⟩, k1, a2, k2, a3, k3⟩) (.slice a9 M'.length k9) := fun j e1 e2 => by have := low0 j e1; have := hi j e2; omega
    have y2 : Apart (d.v2 ⟨a0, k0, some ⟨g, 0, none⟩, k1, a2, k2, a3, k3⟩) (.slice a9 M'.length k9) := fun j e1 e2 => by have := low2 j e1; have := hi j e2; omega
    have y3 : Apart (d.v3 ⟨a0, k0, some ⟨g, 0, none⟩, k1, a2, k2, a3, k3⟩) (.slice a9 M'.length k9) := fun j e1 e2 => by have := low3 j e1; have := hi j e2; omega
    have ho9 : OwnRun W2 B { d with mail := M' } ⟨a0, k0, a9, k9, a2, k2, a3, k3⟩ := ⟨ho2.o0, o2.mono (by omega), ho2.o2, ho2.o3, y0, ho2.x02, ho2.x03, y2.symm, y3.symm, ho2.x23⟩
    have far : ∀ b, w.heap.size ≤ b → b < W.heap.size → ((({ d with mail := M' } : RunD).v0 ⟨a0, k0, a9, k9, a2, k2, a3, k3⟩).ownBlock ≠ some b ∧ (({ d with mail := M' } : RunD).v1 ⟨a0, k0, a9, k9, a2, k2, a3, k3⟩).ownBlock ≠ some b ∧ (({ d with mail := M' } : RunD).v2 ⟨a0, k0, a9, k9, a2, k2, a3, k3⟩).ownBlock ≠ some b ∧ (({ d with mail := M' } : RunD).v3 ⟨a0, k0, a9, k9, a2, k2, a3, k3⟩).ownBlock ≠ some b) := fun b h1 h2 => ⟨fun e => by have := hold.1 b e; omega, fun e => by have := hi b e; omega, fun e => by have := hold.2.1 b e; omega, fun e => by have := hold.2.2 b e; omega⟩
    have hs4 : But w.heap.size W2 (W2.setCell ⟨w.heap.size, 4, none⟩ (.slice a9 M'.length k9)) := (But.refl _ _).setCell (p := ⟨w.heap.size, 4, none⟩) rfl _
    have fA := far w.heap.size (Nat.le_refl _) hlA
    have f1 := far (w.heap.size + 1) (by omega) (by omega)
    have f2 := far (w.heap.size + 1 + 1) (by omega) (by omega)
    replace ho9 := ho9.but hs4 fA.1 fA.2.1 fA.2.2.1 fA.2.2.2
    have hB9 := (hB1.trans (hw2b.mono (by omega))).trans (hs4.below (B := w.heap.size) (Nat.le_refl _) (by omega))
    clear hs4 far y0 y2 y3 low0 low2 low3 hi ho2 fA
    generalize (W2.setCell ⟨w.heap.size, 4, none⟩ (.slice a9 M'.length k9)) = W9 at *
    obtain ⟨c0, c1, c2, c3, c4, c5, c6, c7, c8, c9, c10, c11, c12⟩ := id hA.at_
    obtain ⟨r0, r1, r2, r3, r4, r5, r6, r7, r8, r9, r10, r11, r12⟩ := id hR.at_
    obtain ⟨v0, v1⟩ := id hV.at_
    obtain ⟨x0, x1⟩ := id hX.at_
    have e0 := hR.fr 0
    have e1 := hR.fr 1
    have e2 := hR.fr 2
    have e3 := hR.fr 3
    have e4 := hR.fr 4
    have e5 := hR.fr 5
    have e6 := hR.fr 6
    have e7 := hR.fr 7
    have e8 := hR.fr 8
    have e9 := hR.fr 9
    have e10 := hR.fr 10
    have e11 := hR.fr 11
    have e12 := hR.fr 12
    have g0 := hV.fr 0
    have g1 := hV.fr 1
    have hq0 : w.heap.size + 1 < W9.heap.size := hR.lt
    have hq1 : w.heap.size + 1 + 1 < W9.heap.size := hV.lt
    have hq2 : w.heap.size < W9.heap.size := hA.lt
    have hq3 : bx < W9.heap.size := hX.lt
    have hq4 : w.heap.size + 1 ≠ bx := by omega
    have hq5 : w.heap.size + 1 + 1 ≠ bx := by omega
    go_region
    go_step
    go_wp2_with fail
    have h13 := set13_but W9 (w.heap.size + 1) { d with mail := M' } ⟨a0, k0, a9, k9, a2, k2, a3, k3⟩
    have h2 : But (w.heap.size + 1 + 1) (set13 W9 (w.heap.size + 1) { d with mail := M' } ⟨a0, k0, a9, k9, a2, k2, a3, k3⟩) (((set13 W9 (w.heap.size + 1) { d with mail := M' } ⟨a0, k0, a9, k9, a2, k2, a3, k3⟩).setCell ⟨w.heap.size + 1 + 1, 0, none⟩ (.int .i64 x.1)).setCell ⟨w.heap.size + 1 + 1, 1, none⟩ (.int .i64 x.2)) := ((But.refl _ _).setCell (p := ⟨w.heap.size + 1 + 1, 0, none⟩) rfl _).setCell (p := ⟨w.heap.size + 1 + 1, 1, none⟩) rfl _
    have h13z := h13.size
    have hfo := ((ho9.but h13 f1.1 f1.2.1 f1.2.2.1 f1.2.2.2).but h2 f2.1 f2.2.1 f2.2.2.1 f2.2.2.2).drew
    have hfB : Below w.heap.size w _ := ((hB9.trans (h13.below (B := w.heap.size) (by omega) (by omega))).trans (h2.below (B := w.heap.size) (by omega) (by omega))).drew
    exact bodyPost_ret (v := .tuple #[({ d with mail := M' } : RunD).val ⟨a0, k0, a9, k9, a2, k2, a3, k3⟩, .agg #[.int .i64 x.1, .int .i64 x.2]]) (by simp [results, Try.results55, go_sem, r0, r1, r2, r3, r4, r5, r6, r7, r8, r9, r10, r11, r12, v0, v1]) rfl ⟨⟨a0, k0, a9, k9, a2, k2, a3, k3⟩, by rw [← hM'.out, hxe.out], by rw [← hM'.out]; exact hfo, hfB⟩
end Go.Proofs.Ytefaocjcfecipaa
