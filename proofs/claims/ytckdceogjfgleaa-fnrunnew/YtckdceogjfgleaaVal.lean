/-
  What spec.l71Val draws, over this translation: whatever the code, some value; nothing turns but the reader's own place.
-/
import Derived.Test.YtckdceogjfgleaaOpen
import Derived.Deep.CutBlock
namespace Go.Proofs.Ytckdceogjfgleaa
open Go.ChangeShapes Go.WideShapes Go.ChangeAt Go.RowKit Go.Joins
attribute [local go_sem ↓] Go.wp_at_zero Go.wp_at_succ
/-- two boxes of two numbers each, of the walk's own, and a reader below them -/
structure VI (R c2 c : Nat) (w : World) (k n m o p : Int) (wc : World) : Prop where
  k : wc.cell? ⟨c, 0, none⟩ = some (.int .i64 k)
  n : wc.cell? ⟨c, 1, none⟩ = some (.int .i64 n)
  fk : wc.frozen? ⟨c, 0, none⟩ = false
  fn : wc.frozen? ⟨c, 1, none⟩ = false
  m : wc.cell? ⟨c2, 0, none⟩ = some (.int .i64 m)
  o : wc.cell? ⟨c2, 1, none⟩ = some (.int .i64 o)
  fm : wc.frozen? ⟨c2, 0, none⟩ = false
  fo : wc.frozen? ⟨c2, 1, none⟩ = false
  r2 : R < c2
  l2 : c2 < c
  lc : c < wc.heap.size
  new : w.heap.size ≤ c2
  but : But R w wc
  rd : Rd R p wc
theorem VI.go {R c2 c : Nat} {w wc w' : World} {k n m o p p' : Int} (h : VI R c2 c w k n m o p wc) (hb : But R wc w') (hr : Rd R p' w') : VI R c2 c w k n m o p' w' := by
  have h1 := h.r2
  have h2 := h.l2
  have h3 := h.lc
  obtain ⟨hc, hf⟩ := butcell hb
  exact ⟨by rw [hc _ _ (by omega) (by omega)]; exact h.k, by rw [hc _ _ (by omega) (by omega)]; exact h.n, by rw [hf _ _ (by omega) (by omega)]; exact h.fk, by rw [hf _ _ (by omega) (by omega)]; exact h.fn,
    by rw [hc _ _ (by omega) (by omega)]; exact h.m, by rw [hc _ _ (by omega) (by omega)]; exact h.o, by rw [hf _ _ (by omega) (by omega)]; exact h.fm, by rw [hf _ _ (by omega) (by omega)]; exact h.fo,
    h1, h2, Nat.lt_of_lt_of_le h3 hb.size, h.new, h.but.trans hb, hr⟩
theorem VI.alloc {R c2 c : Nat} {w wc : World} {k n m o p : Int} (h : VI R c2 c w k n m o p wc) (b : Obj) : VI R c2 c w k n m o p (wc.alloc b) :=
  h.go ((But.refl _ _).alloc _) (h.rd.below ((Below.refl _ _).alloc (Nat.le_refl _) _))
theorem VI.setN {R c2 c : Nat} {w wc : World} {k n m o p : Int} (h : VI R c2 c w k n m o p wc) (v : Int) : VI R c2 c w k v m o p (wc.setCell ⟨c, 1, none⟩ (.int .i64 v)) := by
  have h1 := h.r2
  have h2 := h.l2
  have hk := h.k; have hn := h.n; have hfk := h.fk; have hfn := h.fn; have hm := h.m; have ho := h.o; have hfm := h.fm; have hfo := h.fo; have hnew := h.new
  exact ⟨by simp [go_sem, hk], by simp [go_sem, hn], by simp [go_sem, hfk], by simp [go_sem, hfn], by simp [go_sem, hm], by simp [go_sem, ho], by simp [go_sem, hfm], by simp [go_sem, hfo],
    h1, h2, by simpa [World.setCell] using h.lc, hnew, h.but.setNew (by dsimp only; omega) _, h.rd.but (C := c) (But.setCell (R := c) (But.refl _ _) (p := ⟨c, 1, none⟩) rfl _) (by omega)⟩
theorem VI.setK {R c2 c : Nat} {w wc : World} {k n m o p : Int} (h : VI R c2 c w k n m o p wc) (v : Int) : VI R c2 c w v n m o p (wc.setCell ⟨c, 0, none⟩ (.int .i64 v)) := by
  have h1 := h.r2
  have h2 := h.l2
  have hk := h.k; have hn := h.n; have hfk := h.fk; have hfn := h.fn; have hm := h.m; have ho := h.o; have hfm := h.fm; have hfo := h.fo; have hnew := h.new
  exact ⟨by simp [go_sem, hk], by simp [go_sem, hn], by simp [go_sem, hfk], by simp [go_sem, hfn], by simp [go_sem, hm], by simp [go_sem, ho], by simp [go_sem, hfm], by simp [go_sem, hfo],
    h1, h2, by simpa [World.setCell] using h.lc, hnew, h.but.setNew (by dsimp only; omega) _, h.rd.but (C := c) (But.setCell (R := c) (But.refl _ _) (p := ⟨c, 0, none⟩) rfl _) (by omega)⟩
theorem nine_at (w : World) (r : Int) (h0 : 0 ≤ r) (h1 : r < 9) (t : TypeId) : ∃ v : Int, (w.alloc (.cells #[.int .i64 0, .int .i64 1, .int .i64 2, .int .i64 3, .int .i64 (-1), .int .i64 7, .int .i64 50, .int .i64 99, .int .i64 (-99)] t)).cell? ⟨w.heap.size, r.toNat, none⟩ = some (.int .i64 v) ∧ -100 ≤ v ∧ v ≤ 100 := by
  have : r = 0 ∨ r = 1 ∨ r = 2 ∨ r = 3 ∨ r = 4 ∨ r = 5 ∨ r = 6 ∨ r = 7 ∨ r = 8 := by omega
  rcases this with rfl | rfl | rfl | rfl | rfl | rfl | rfl | rfl | rfl <;> simp [go_sem]
theorem three_at (w : World) (r : Int) (h0 : 0 ≤ r) (h1 : r < 3) (t : TypeId) : ∃ v : Int, (w.alloc (.cells #[.int .i64 (-100), .int .i64 100, .int .i64 10] t)).cell? ⟨w.heap.size, r.toNat, none⟩ = some (.int .i64 v) ∧ -100 ≤ v ∧ v ≤ 100 := by
  have : r = 0 ∨ r = 1 ∨ r = 2 := by omega
  rcases this with rfl | rfl | rfl <;> simp [go_sem]

set_option maxHeartbeats 2000000 in
/-- a drawn value -/
theorem val_any (R : Nat) (p : Int) (w : World) (h : Rd R p w) (hp : p ≤ 900000) :
    Calls Try.prog 29 #[.pointer (some ⟨R, 0, none⟩)] w fun e w' => ∃ k n p', e = .returned (.agg #[.int .i64 k, .int .i64 n]) ∧ (-100 ≤ k ∧ k ≤ 100 ∧ -100 ≤ n ∧ n ≤ 100) ∧ But R w w' ∧ (p ≤ p' ∧ p' ≤ p + 5) ∧ Rd R p' w' := by
  have hlt := h.lt
  have hp0 := h.p0
  go_enter Try.func29, Try.ntmps29
  go_wp2_with fail
  refine (pick_any R p 4 _ (h.below ((Below.refl _ _).alloc (Nat.le_refl _) _)) (by omega) (by omega) (by omega)).mono ?_
  rintro e w1 ⟨k, rfl, hk, hb1, hR1⟩
  obtain ⟨hc1, hf1⟩ := butcell hb1
  have hz1 := hb1.size
  simp at hz1
  have hV0 : VI R w.heap.size w1.heap.size w k 0 0 0 (p + 1) (w1.alloc (.cells #[.int .i64 k, .int .i64 0] 24)) :=
    ⟨by simp [go_sem], by simp [go_sem], by simp [go_sem], by simp [go_sem],
     by rw [World.cell?_alloc_past _ _ _ (by omega), hc1 _ _ (by simp) (by omega)]; simp [go_sem], by rw [World.cell?_alloc_past _ _ _ (by omega), hc1 _ _ (by simp) (by omega)]; simp [go_sem],
     by rw [((Below.refl w1.heap.size w1).alloc (Nat.le_refl _) _).frozen (p := ⟨w.heap.size, 0, none⟩) (by dsimp only; omega), hf1 _ _ (by simp) (by omega)]; simp [go_sem],
     by rw [((Below.refl w1.heap.size w1).alloc (Nat.le_refl _) _).frozen (p := ⟨w.heap.size, 1, none⟩) (by dsimp only; omega), hf1 _ _ (by simp) (by omega)]; simp [go_sem],
     hlt, by omega, by simp, Nat.le_refl _, (((But.refl _ _).alloc _).trans hb1).alloc _, hR1.below ((Below.refl _ _).alloc (Nat.le_refl _) _)⟩
  clear hc1 hf1 hR1 hb1
  go_upto_block 0 with (fail)
  generalize (w1.alloc (.cells #[.int .i64 k, .int .i64 0] 24)) = W at *
  generalize w1.heap.size = c at *
  have g1 := hV0.n; have g2 := hV0.fn
  go_cut [] (fun wc => ∃ n p', (-100 ≤ n ∧ n ≤ 100 ∧ p + 1 ≤ p' ∧ p' ≤ p + 2) ∧ VI R w.heap.size c w k n 0 0 p' wc)
  case first =>
    have hks : k = 0 ∨ k = 1 ∨ k = 2 ∨ k = 3 := by omega
    rcases hks with rfl | rfl | rfl | rfl
    · go_wp2_with fail
      go_meet
      exact ⟨0, p + 1, by omega, hV0⟩
    · go_wp2_with fail
      refine (pick_any R (p + 1) 9 _ (hV0.alloc _).rd (by omega) (by omega) (by omega)).mono ?_
      rintro e w2 ⟨r, rfl, hr, hb2, hR2⟩
      obtain ⟨v, hv, hv1, hv2⟩ := nine_at W r hr.1 hr.2 3
      have hV2 := (hV0.alloc _).go hb2 hR2
      have hlc := hV0.lc
      have hl2 := hV0.l2
      have hr2 := hV0.r2
      have hv' : w2.cell? ⟨W.heap.size, r.toNat, none⟩ = some (.int .i64 v) := by rw [hb2.cell (p := ⟨W.heap.size, r.toNat, none⟩) (by simp) (by dsimp only; omega)]; exact hv
      have k1 := hV2.n; have k2 := hV2.fn
      have hr0 := hr.1
      have hr1 := hr.2
      clear hv hb2 hR2
      go_wp2_with fail
      go_meet
      exact ⟨v, p + 1 + 1, by omega, hV2.setN v⟩
    · go_wp2_with fail
      refine (pick_any R (p + 1) 5 _ hV0.rd (by omega) (by omega) (by omega)).mono ?_
      rintro e w2 ⟨r, rfl, hr, hb2, hR2⟩
      have hV2 := hV0.go hb2 hR2
      have k1 := hV2.n; have k2 := hV2.fn
      clear hb2 hR2
      go_wp2_with fail
      go_meet
      exact ⟨r, p + 1 + 1, by omega, hV2.setN r⟩
    · go_wp2_with fail
      refine (pick_any R (p + 1) 4 _ hV0.rd (by omega) (by omega) (by omega)).mono ?_
      rintro e w2 ⟨r, rfl, hr, hb2, hR2⟩
      have hV2 := hV0.go hb2 hR2
      have k1 := hV2.n; have k2 := hV2.fn
      clear hb2 hR2
      go_wp2_with fail
      go_meet
      exact ⟨1 + r, p + 1 + 1, by omega, hV2.setN (1 + r)⟩
  case rest =>
    obtain ⟨n, p', hn, hV⟩ := hcut
    clear hV0 g1 g2
    go_wp2_with fail
    refine (pick_any R p' 30 _ hV.rd (by omega) (by omega) (by omega)).mono ?_
    rintro e w2 ⟨s, rfl, hs, hb2, hR2⟩
    have hV2 := hV.go hb2 hR2
    clear hb2 hR2 hV
    by_cases s0 : s = 0
    · subst s0
      go_wp2_with fail
      refine (pick_any R (p' + 1) 3 _ (hV2.alloc _).rd (by omega) (by omega) (by omega)).mono ?_
      rintro e w3 ⟨r, rfl, hr, hb3, hR3⟩
      obtain ⟨v, hv, hv1, hv2⟩ := three_at w2 r hr.1 hr.2 3
      have hV3' := (hV2.alloc _).go hb3 hR3
      have hlc := hV2.lc
      have hl2 := hV2.l2
      have hr2 := hV2.r2
      have hv' : w3.cell? ⟨w2.heap.size, r.toNat, none⟩ = some (.int .i64 v) := by rw [hb3.cell (p := ⟨w2.heap.size, r.toNat, none⟩) (by simp) (by dsimp only; omega)]; exact hv
      have k1 := hV3'.n; have k2 := hV3'.fn
      have hr0 := hr.1
      have hr1 := hr.2
      have hV3 := hV3'.setN v
      clear hv hb3 hR3
      have e1 := hV3.k; have e2 := hV3.n; have e5 := hV3.m; have e6 := hV3.o; have e7 := hV3.fm; have e8 := hV3.fo
      have e9 := hV3.l2; have e10 := hV3.r2; have e11 := hV3.new
      have hne : c ≠ w.heap.size := by omega
      go_upto_region 14 with (fail)
      clear k1 k2 hv' hV3'
      generalize (w3.setCell ⟨c, 1, none⟩ (.int .i64 v)) = w4 at *
      go_wp2_with fail
      exact bodyPost_ret (v := .agg #[.int .i64 k, .int .i64 v]) (by simp [results, Try.results29, go_sem, e5, e6]) rfl
        ⟨k, v, p' + 1 + 1, rfl, by omega, (hV3.but.setNew (by dsimp only; omega) _).setNew (by dsimp only; omega) _, by omega, (hV3.rd.but (C := w.heap.size) ((But.setCell (R := w.heap.size) (But.refl _ _) (p := ⟨w.heap.size, 0, none⟩) rfl _).setCell (p := ⟨w.heap.size, 1, none⟩) rfl _) (by omega))⟩
    · by_cases s1 : s = 1
      · subst s1
        go_wp2_with fail
        refine (pick_any R (p' + 1) 6 _ hV2.rd (by omega) (by omega) (by omega)).mono ?_
        rintro e w3 ⟨r, rfl, hr, hb3, hR3⟩
        have hV3' := hV2.go hb3 hR3
        have k1 := hV3'.k; have k2 := hV3'.fk
        have hV3 := hV3'.setK r
        clear hb3 hR3
        have e1 := hV3.k; have e2 := hV3.n; have e5 := hV3.m; have e6 := hV3.o; have e7 := hV3.fm; have e8 := hV3.fo
        have e9 := hV3.l2; have e10 := hV3.r2; have e11 := hV3.new
        have hne : c ≠ w.heap.size := by omega
        go_upto_region 14 with (fail)
        clear k1 k2 hV3'
        generalize (w3.setCell ⟨c, 0, none⟩ (.int .i64 r)) = w4 at *
        go_wp2_with fail
        exact bodyPost_ret (v := .agg #[.int .i64 r, .int .i64 n]) (by simp [results, Try.results29, go_sem, e5, e6]) rfl
          ⟨r, n, p' + 1 + 1, rfl, by omega, (hV3.but.setNew (by dsimp only; omega) _).setNew (by dsimp only; omega) _, by omega, (hV3.rd.but (C := w.heap.size) ((But.setCell (R := w.heap.size) (But.refl _ _) (p := ⟨w.heap.size, 0, none⟩) rfl _).setCell (p := ⟨w.heap.size, 1, none⟩) rfl _) (by omega))⟩
      · have hV3 := hV2
        have q0 : (s == 0) = false := by simp [s0]
        have q1 : (s == 1) = false := by simp [s1]
        clear hV2
        have e1 := hV3.k; have e2 := hV3.n; have e5 := hV3.m; have e6 := hV3.o; have e7 := hV3.fm; have e8 := hV3.fo
        have e9 := hV3.l2; have e10 := hV3.r2; have e11 := hV3.new
        have hne : c ≠ w.heap.size := by omega
        go_wp2_with fail
        exact bodyPost_ret (v := .agg #[.int .i64 k, .int .i64 n]) (by simp [results, Try.results29, go_sem, e5, e6]) rfl
          ⟨k, n, p' + 1, rfl, by omega, (hV3.but.setNew (by dsimp only; omega) _).setNew (by dsimp only; omega) _, by omega, (hV3.rd.but (C := w.heap.size) ((But.setCell (R := w.heap.size) (But.refl _ _) (p := ⟨w.heap.size, 0, none⟩) rfl _).setCell (p := ⟨w.heap.size, 1, none⟩) rfl _) (by omega))⟩
end Go.Proofs.Ytckdceogjfgleaa
