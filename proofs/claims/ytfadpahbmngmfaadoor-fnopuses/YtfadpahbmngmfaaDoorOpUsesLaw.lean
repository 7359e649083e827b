/-
  For every code, FnOpUses answers true: impl.OpUses is the specification's at the drawn step; an ok step's are its first slot, its second one, both, or none, by its kind.
-/
import Derived.Test.YtfadpahbmngmfaaDoorOpUseAid
import Derived.Test.YtfadpahbmngmfaaDoorOpDrawnUses
import Derived.Test.YtfadpahbmngmfaaDoorOpFrame
namespace Go.Proofs.YtfadpahbmngmfaaDoor
open Go.ChangeShapes Go.WideShapes Go.ChangeAt Go.RowKit Go.Joins
namespace OpUsesL
theorem belowN {B : Nat} {a w : World} (h : Below B a w) (q : Nat) : Below B a (w.drewN q) := ⟨h.os, h.tape, h.output, h.size, h.block⟩
theorem kinds (k r s t a b : Int) : (usesOf k r s t a b = [] ∧ (opB k r s t a b = true → k = 1 ∨ k = 4 ∨ k = 5 ∨ k = 7 ∨ k = 8 ∨ k = 9 ∨ k = 13)) ∨ ((∃ u, usesOf k r s t a b = [u] ∧ (u = r ∨ u = s)) ∧ (opB k r s t a b = true → k = 2 ∨ k = 10 ∨ k = 11 ∨ k = 12 ∨ k = 14)) ∨ (usesOf k r s t a b = [r, s] ∧ (opB k r s t a b = true → k = 3 ∨ k = 6)) := by
  cases h : opB k r s t a b with
  | false => exact .inl ⟨usesOf_bad h, fun h => by cases h⟩
  | true =>
    have o := opIs_of h
    rw [usesOf_ok h]
    rcases kinds14 o.k1 o.k2 with rfl | rfl | rfl | rfl | rfl | rfl | rfl | rfl | rfl | rfl | rfl | rfl | rfl | rfl
    · exact .inl ⟨rfl, fun _ => by decide⟩
    · exact .inr (.inl ⟨⟨_, rfl, .inr rfl⟩, fun _ => by decide⟩)
    · exact .inr (.inr ⟨rfl, fun _ => by decide⟩)
    · exact .inl ⟨rfl, fun _ => by decide⟩
    · exact .inl ⟨rfl, fun _ => by decide⟩
    · exact .inr (.inr ⟨rfl, fun _ => by decide⟩)
    · exact .inl ⟨rfl, fun _ => by decide⟩
    · exact .inl ⟨rfl, fun _ => by decide⟩
    · exact .inl ⟨rfl, fun _ => by decide⟩
    · exact .inr (.inl ⟨⟨_, rfl, .inl rfl⟩, fun _ => by decide⟩)
    · exact .inr (.inl ⟨⟨_, rfl, .inl rfl⟩, fun _ => by decide⟩)
    · exact .inr (.inl ⟨⟨_, rfl, .inl rfl⟩, fun _ => by decide⟩)
    · exact .inl ⟨rfl, fun _ => by decide⟩
    · exact .inr (.inl ⟨⟨_, rfl, .inl rfl⟩, fun _ => by decide⟩)
set_option maxHeartbeats 8000000 in
theorem walk (p : Option Addr) (len cap : Nat) (w : World) (h : Code0 w p len cap) :
    Calls Tryd.prog 5 #[.slice p len cap] w fun e w' => e = .returned (.bool true) ∧ Below w.heap.size w w' := by
  by_cases hl : len ≤ 1048576
  · have g0 : ¬ (1048576 : Int) < (len : Int) := by omega
    go_enter Tryd.func5, Tryd.ntmps5
    go_wp2_with fail
    refine (drawOpUses_any p len cap _ h).mono ?_
    rintro e w1 ⟨k, r, s, t, a, b, rfl, hb1⟩
    have hz1 := hb1.size
    go_wp2_with fail
    rcases kinds k r s t a b with ⟨hL, hB⟩ | ⟨⟨u0, hL, hu⟩, hB⟩ | ⟨hL, hB⟩
    · refine (implUses_any _ _ _ _ _ _ _).mono ?_
      intro e w2 hO
      rw [hL] at hO
      obtain ⟨ao, c, rfl, hb2⟩ := hO.none
      obtain ⟨hc2, hf2⟩ := bcell hb2
      have hz2 := hb2.size
      try simp at hz2
      have x0 : w2.cell? ⟨w1.heap.size, 0, none⟩ = some (.int .i64 k) := by rw [hc2 _ _ (by (try simp) <;> omega)]; simp [go_sem]
      have x1 : w2.cell? ⟨w1.heap.size, 1, none⟩ = some (.int .i64 r) := by rw [hc2 _ _ (by (try simp) <;> omega)]; simp [go_sem]
      have x2 : w2.cell? ⟨w1.heap.size, 2, none⟩ = some (.int .i64 s) := by rw [hc2 _ _ (by (try simp) <;> omega)]; simp [go_sem]
      have x3 : w2.cell? ⟨w1.heap.size, 3, none⟩ = some (.int .i64 t) := by rw [hc2 _ _ (by (try simp) <;> omega)]; simp [go_sem]
      have x4 : w2.cell? ⟨w1.heap.size, 4, none⟩ = some (.int .i64 a) := by rw [hc2 _ _ (by (try simp) <;> omega)]; simp [go_sem]
      have x5 : w2.cell? ⟨w1.heap.size, 5, none⟩ = some (.int .i64 b) := by rw [hc2 _ _ (by (try simp) <;> omega)]; simp [go_sem]
      have hB2 : Below w.heap.size w w2 := (hb1.alloc (by omega) _).trans (hb2.mono (by (try simp) <;> omega))
      clear hc2 hf2 hb2
      go_wp2_with fail
      refine (specUses_any _ _ _ _ _ _ _).mono ?_
      intro e w3 hN
      rw [hL] at hN
      obtain ⟨bb, rfl, hbb1, hbb2, hbc, hb3⟩ := hN
      obtain ⟨hc3, hf3⟩ := bcell hb3
      have hz3 := hb3.size
      try simp at hz3
      replace x0 : w3.cell? ⟨w1.heap.size, 0, none⟩ = some (.int .i64 k) := by rw [hc3 _ _ (by (try simp) <;> omega)]; exact x0
      replace x1 : w3.cell? ⟨w1.heap.size, 1, none⟩ = some (.int .i64 r) := by rw [hc3 _ _ (by (try simp) <;> omega)]; exact x1
      replace x2 : w3.cell? ⟨w1.heap.size, 2, none⟩ = some (.int .i64 s) := by rw [hc3 _ _ (by (try simp) <;> omega)]; exact x2
      replace x3 : w3.cell? ⟨w1.heap.size, 3, none⟩ = some (.int .i64 t) := by rw [hc3 _ _ (by (try simp) <;> omega)]; exact x3
      replace x4 : w3.cell? ⟨w1.heap.size, 4, none⟩ = some (.int .i64 a) := by rw [hc3 _ _ (by (try simp) <;> omega)]; exact x4
      replace x5 : w3.cell? ⟨w1.heap.size, 5, none⟩ = some (.int .i64 b) := by rw [hc3 _ _ (by (try simp) <;> omega)]; exact x5
      have hB3 : Below w.heap.size w w3 := hB2.trans (hb3.mono (by (try simp) <;> omega))
      clear hc3 hf3 hb3 hbc
      go_wp2_with fail
      refine (specOpOk_any _ _ _ _ _ _ _).mono ?_
      rintro e w4 ⟨rfl, hb4⟩
      obtain ⟨hc4, hf4⟩ := bcell hb4
      have hz4 := hb4.size
      try simp at hz4
      replace x0 : w4.cell? ⟨w1.heap.size, 0, none⟩ = some (.int .i64 k) := by rw [hc4 _ _ (by (try simp) <;> omega)]; exact x0
      replace x1 : w4.cell? ⟨w1.heap.size, 1, none⟩ = some (.int .i64 r) := by rw [hc4 _ _ (by (try simp) <;> omega)]; exact x1
      replace x2 : w4.cell? ⟨w1.heap.size, 2, none⟩ = some (.int .i64 s) := by rw [hc4 _ _ (by (try simp) <;> omega)]; exact x2
      replace x3 : w4.cell? ⟨w1.heap.size, 3, none⟩ = some (.int .i64 t) := by rw [hc4 _ _ (by (try simp) <;> omega)]; exact x3
      replace x4 : w4.cell? ⟨w1.heap.size, 4, none⟩ = some (.int .i64 a) := by rw [hc4 _ _ (by (try simp) <;> omega)]; exact x4
      replace x5 : w4.cell? ⟨w1.heap.size, 5, none⟩ = some (.int .i64 b) := by rw [hc4 _ _ (by (try simp) <;> omega)]; exact x5
      have hB4 : Below w.heap.size w w4 := hB3.trans (hb4.mono (by (try simp) <;> omega))
      clear hc4 hf4 hb4
      cases hk : opB k r s t a b with
      | false =>
        go_wp2_with fail
        go_ret
        exact ⟨by simp, hB4⟩
      | true =>
      go_wp2_with fail
      refine wp_loop_rounds 4 ?_
      rw [rounds_succ]
      rcases hB hk with rfl | rfl | rfl | rfl | rfl | rfl | rfl <;>
      · go_wp2_with fail
        go_ret
        exact ⟨rfl, hB4⟩
    · refine (implUses_any _ _ _ _ _ _ _).mono ?_
      intro e w2 hO
      rw [hL] at hO
      obtain ⟨g, c, rfl, hg1, hg2, hgc, _, hb2⟩ := hO.some (by simp)
      obtain ⟨hc2, hf2⟩ := bcell hb2
      have hz2 := hb2.size
      try simp at hz2
      have x0 : w2.cell? ⟨w1.heap.size, 0, none⟩ = some (.int .i64 k) := by rw [hc2 _ _ (by (try simp) <;> omega)]; simp [go_sem]
      have x1 : w2.cell? ⟨w1.heap.size, 1, none⟩ = some (.int .i64 r) := by rw [hc2 _ _ (by (try simp) <;> omega)]; simp [go_sem]
      have x2 : w2.cell? ⟨w1.heap.size, 2, none⟩ = some (.int .i64 s) := by rw [hc2 _ _ (by (try simp) <;> omega)]; simp [go_sem]
      have x3 : w2.cell? ⟨w1.heap.size, 3, none⟩ = some (.int .i64 t) := by rw [hc2 _ _ (by (try simp) <;> omega)]; simp [go_sem]
      have x4 : w2.cell? ⟨w1.heap.size, 4, none⟩ = some (.int .i64 a) := by rw [hc2 _ _ (by (try simp) <;> omega)]; simp [go_sem]
      have x5 : w2.cell? ⟨w1.heap.size, 5, none⟩ = some (.int .i64 b) := by rw [hc2 _ _ (by (try simp) <;> omega)]; simp [go_sem]
      have hB2 : Below w.heap.size w w2 := (hb1.alloc (by omega) _).trans (hb2.mono (by (try simp) <;> omega))
      have z0 : w2.cell? ⟨g, 0, none⟩ = some (.int .i64 u0) := hgc 0 (by simp)
      clear hc2 hf2 hb2
      go_wp2_with fail
      refine (specUses_any _ _ _ _ _ _ _).mono ?_
      intro e w3 hN
      rw [hL] at hN
      obtain ⟨bb, rfl, hbb1, hbb2, hbc, hb3⟩ := hN
      obtain ⟨hc3, hf3⟩ := bcell hb3
      have hz3 := hb3.size
      try simp at hz3
      replace x0 : w3.cell? ⟨w1.heap.size, 0, none⟩ = some (.int .i64 k) := by rw [hc3 _ _ (by (try simp) <;> omega)]; exact x0
      replace x1 : w3.cell? ⟨w1.heap.size, 1, none⟩ = some (.int .i64 r) := by rw [hc3 _ _ (by (try simp) <;> omega)]; exact x1
      replace x2 : w3.cell? ⟨w1.heap.size, 2, none⟩ = some (.int .i64 s) := by rw [hc3 _ _ (by (try simp) <;> omega)]; exact x2
      replace x3 : w3.cell? ⟨w1.heap.size, 3, none⟩ = some (.int .i64 t) := by rw [hc3 _ _ (by (try simp) <;> omega)]; exact x3
      replace x4 : w3.cell? ⟨w1.heap.size, 4, none⟩ = some (.int .i64 a) := by rw [hc3 _ _ (by (try simp) <;> omega)]; exact x4
      replace x5 : w3.cell? ⟨w1.heap.size, 5, none⟩ = some (.int .i64 b) := by rw [hc3 _ _ (by (try simp) <;> omega)]; exact x5
      have hB3 : Below w.heap.size w w3 := hB2.trans (hb3.mono (by (try simp) <;> omega))
      replace z0 : w3.cell? ⟨g, 0, none⟩ = some (.int .i64 u0) := by rw [hc3 _ _ (by omega)]; exact z0
      have y0 : w3.cell? ⟨bb, 0, none⟩ = some (.int .i64 u0) := hbc 0 (by simp)
      clear hc3 hf3 hb3 hbc
      go_wp2_with fail
      refine (specOpOk_any _ _ _ _ _ _ _).mono ?_
      rintro e w4 ⟨rfl, hb4⟩
      obtain ⟨hc4, hf4⟩ := bcell hb4
      have hz4 := hb4.size
      try simp at hz4
      replace x0 : w4.cell? ⟨w1.heap.size, 0, none⟩ = some (.int .i64 k) := by rw [hc4 _ _ (by (try simp) <;> omega)]; exact x0
      replace x1 : w4.cell? ⟨w1.heap.size, 1, none⟩ = some (.int .i64 r) := by rw [hc4 _ _ (by (try simp) <;> omega)]; exact x1
      replace x2 : w4.cell? ⟨w1.heap.size, 2, none⟩ = some (.int .i64 s) := by rw [hc4 _ _ (by (try simp) <;> omega)]; exact x2
      replace x3 : w4.cell? ⟨w1.heap.size, 3, none⟩ = some (.int .i64 t) := by rw [hc4 _ _ (by (try simp) <;> omega)]; exact x3
      replace x4 : w4.cell? ⟨w1.heap.size, 4, none⟩ = some (.int .i64 a) := by rw [hc4 _ _ (by (try simp) <;> omega)]; exact x4
      replace x5 : w4.cell? ⟨w1.heap.size, 5, none⟩ = some (.int .i64 b) := by rw [hc4 _ _ (by (try simp) <;> omega)]; exact x5
      have hB4 : Below w.heap.size w w4 := hB3.trans (hb4.mono (by (try simp) <;> omega))
      replace z0 : w4.cell? ⟨g, 0, none⟩ = some (.int .i64 u0) := by rw [hc4 _ _ (by omega)]; exact z0
      replace y0 : w4.cell? ⟨bb, 0, none⟩ = some (.int .i64 u0) := by rw [hc4 _ _ (by omega)]; exact y0
      clear hc4 hf4 hb4
      cases hk : opB k r s t a b with
      | false =>
        go_wp2_with fail
        go_ret
        exact ⟨by simp, hB4⟩
      | true =>
      go_wp2_with fail
      refine wp_loop_rounds 4 ?_
      rcases hu with rfl | rfl
      · rw [rounds_succ]
        go_wp2_with fail
        go_quiet (fail)
        go_wp2_with fail
        rw [rounds_succ]
        rcases hB hk with rfl | rfl | rfl | rfl | rfl <;>
        · go_wp2_with fail
          go_ret
          exact ⟨rfl, (belowN hB4 _)⟩
      · by_cases hr : u0 = r
        · subst hr
          rw [rounds_succ]
          go_wp2_with fail
          go_quiet (fail)
          go_wp2_with fail
          rw [rounds_succ]
          rcases hB hk with rfl | rfl | rfl | rfl | rfl <;>
          · go_wp2_with fail
            go_ret
            exact ⟨rfl, (belowN hB4 _)⟩
        · have e1 : (u0 == r) = false := by simpa using hr
          rw [rounds_succ]
          go_wp2_with fail
          go_quiet (fail)
          go_wp2_with fail
          rw [rounds_succ]
          rcases hB hk with rfl | rfl | rfl | rfl | rfl <;>
          · go_wp2_with fail
            go_ret
            exact ⟨rfl, (belowN hB4 _)⟩
    · refine (implUses_any _ _ _ _ _ _ _).mono ?_
      intro e w2 hO
      rw [hL] at hO
      obtain ⟨g, c, rfl, hg1, hg2, hgc, _, hb2⟩ := hO.some (by simp)
      obtain ⟨hc2, hf2⟩ := bcell hb2
      have hz2 := hb2.size
      try simp at hz2
      have x0 : w2.cell? ⟨w1.heap.size, 0, none⟩ = some (.int .i64 k) := by rw [hc2 _ _ (by (try simp) <;> omega)]; simp [go_sem]
      have x1 : w2.cell? ⟨w1.heap.size, 1, none⟩ = some (.int .i64 r) := by rw [hc2 _ _ (by (try simp) <;> omega)]; simp [go_sem]
      have x2 : w2.cell? ⟨w1.heap.size, 2, none⟩ = some (.int .i64 s) := by rw [hc2 _ _ (by (try simp) <;> omega)]; simp [go_sem]
      have x3 : w2.cell? ⟨w1.heap.size, 3, none⟩ = some (.int .i64 t) := by rw [hc2 _ _ (by (try simp) <;> omega)]; simp [go_sem]
      have x4 : w2.cell? ⟨w1.heap.size, 4, none⟩ = some (.int .i64 a) := by rw [hc2 _ _ (by (try simp) <;> omega)]; simp [go_sem]
      have x5 : w2.cell? ⟨w1.heap.size, 5, none⟩ = some (.int .i64 b) := by rw [hc2 _ _ (by (try simp) <;> omega)]; simp [go_sem]
      have hB2 : Below w.heap.size w w2 := (hb1.alloc (by omega) _).trans (hb2.mono (by (try simp) <;> omega))
      have z0 : w2.cell? ⟨g, 0, none⟩ = some (.int .i64 r) := hgc 0 (by simp)
      have z1 : w2.cell? ⟨g, 1, none⟩ = some (.int .i64 s) := hgc 1 (by simp)
      clear hc2 hf2 hb2
      go_wp2_with fail
      refine (specUses_any _ _ _ _ _ _ _).mono ?_
      intro e w3 hN
      rw [hL] at hN
      obtain ⟨bb, rfl, hbb1, hbb2, hbc, hb3⟩ := hN
      obtain ⟨hc3, hf3⟩ := bcell hb3
      have hz3 := hb3.size
      try simp at hz3
      replace x0 : w3.cell? ⟨w1.heap.size, 0, none⟩ = some (.int .i64 k) := by rw [hc3 _ _ (by (try simp) <;> omega)]; exact x0
      replace x1 : w3.cell? ⟨w1.heap.size, 1, none⟩ = some (.int .i64 r) := by rw [hc3 _ _ (by (try simp) <;> omega)]; exact x1
      replace x2 : w3.cell? ⟨w1.heap.size, 2, none⟩ = some (.int .i64 s) := by rw [hc3 _ _ (by (try simp) <;> omega)]; exact x2
      replace x3 : w3.cell? ⟨w1.heap.size, 3, none⟩ = some (.int .i64 t) := by rw [hc3 _ _ (by (try simp) <;> omega)]; exact x3
      replace x4 : w3.cell? ⟨w1.heap.size, 4, none⟩ = some (.int .i64 a) := by rw [hc3 _ _ (by (try simp) <;> omega)]; exact x4
      replace x5 : w3.cell? ⟨w1.heap.size, 5, none⟩ = some (.int .i64 b) := by rw [hc3 _ _ (by (try simp) <;> omega)]; exact x5
      have hB3 : Below w.heap.size w w3 := hB2.trans (hb3.mono (by (try simp) <;> omega))
      replace z0 : w3.cell? ⟨g, 0, none⟩ = some (.int .i64 r) := by rw [hc3 _ _ (by omega)]; exact z0
      have y0 : w3.cell? ⟨bb, 0, none⟩ = some (.int .i64 r) := hbc 0 (by simp)
      replace z1 : w3.cell? ⟨g, 1, none⟩ = some (.int .i64 s) := by rw [hc3 _ _ (by omega)]; exact z1
      have y1 : w3.cell? ⟨bb, 1, none⟩ = some (.int .i64 s) := hbc 1 (by simp)
      clear hc3 hf3 hb3 hbc
      go_wp2_with fail
      refine (specOpOk_any _ _ _ _ _ _ _).mono ?_
      rintro e w4 ⟨rfl, hb4⟩
      obtain ⟨hc4, hf4⟩ := bcell hb4
      have hz4 := hb4.size
      try simp at hz4
      replace x0 : w4.cell? ⟨w1.heap.size, 0, none⟩ = some (.int .i64 k) := by rw [hc4 _ _ (by (try simp) <;> omega)]; exact x0
      replace x1 : w4.cell? ⟨w1.heap.size, 1, none⟩ = some (.int .i64 r) := by rw [hc4 _ _ (by (try simp) <;> omega)]; exact x1
      replace x2 : w4.cell? ⟨w1.heap.size, 2, none⟩ = some (.int .i64 s) := by rw [hc4 _ _ (by (try simp) <;> omega)]; exact x2
      replace x3 : w4.cell? ⟨w1.heap.size, 3, none⟩ = some (.int .i64 t) := by rw [hc4 _ _ (by (try simp) <;> omega)]; exact x3
      replace x4 : w4.cell? ⟨w1.heap.size, 4, none⟩ = some (.int .i64 a) := by rw [hc4 _ _ (by (try simp) <;> omega)]; exact x4
      replace x5 : w4.cell? ⟨w1.heap.size, 5, none⟩ = some (.int .i64 b) := by rw [hc4 _ _ (by (try simp) <;> omega)]; exact x5
      have hB4 : Below w.heap.size w w4 := hB3.trans (hb4.mono (by (try simp) <;> omega))
      replace z0 : w4.cell? ⟨g, 0, none⟩ = some (.int .i64 r) := by rw [hc4 _ _ (by omega)]; exact z0
      replace y0 : w4.cell? ⟨bb, 0, none⟩ = some (.int .i64 r) := by rw [hc4 _ _ (by omega)]; exact y0
      replace z1 : w4.cell? ⟨g, 1, none⟩ = some (.int .i64 s) := by rw [hc4 _ _ (by omega)]; exact z1
      replace y1 : w4.cell? ⟨bb, 1, none⟩ = some (.int .i64 s) := by rw [hc4 _ _ (by omega)]; exact y1
      clear hc4 hf4 hb4
      cases hk : opB k r s t a b with
      | false =>
        go_wp2_with fail
        go_ret
        exact ⟨by simp, hB4⟩
      | true =>
      go_wp2_with fail
      refine wp_loop_rounds 4 ?_
      rw [rounds_succ]
      go_wp2_with fail
      go_quiet (fail)
      go_wp2_with fail
      by_cases hr : s = r
      · subst hr
        rw [rounds_succ]
        go_wp2_with fail
        go_quiet (fail)
        go_wp2_with fail
        rw [rounds_succ]
        rcases hB hk with rfl | rfl <;>
        · go_wp2_with fail
          go_ret
          exact ⟨rfl, (belowN hB4 _)⟩
      · have e1 : (s == r) = false := by simpa using hr
        rw [rounds_succ]
        go_wp2_with fail
        go_quiet (fail)
        go_wp2_with fail
        rw [rounds_succ]
        rcases hB hk with rfl | rfl <;>
        · go_wp2_with fail
          go_ret
          exact ⟨rfl, (belowN hB4 _)⟩
  · have g0 : (1048576 : Int) < (len : Int) := by omega
    go_enter Tryd.func5, Tryd.ntmps5
    go_wp2_with fail
    go_ret
    exact ⟨rfl, Below.refl _ _⟩

set_option maxRecDepth 20000 in
theorem contract (H : Type) (enc : TypeId × Value → H) (W : World) (base : Nat) (args : Array Value) (ds gs : List (DataW H)) (before : List MemPlace)
    (hval : ∀ (j : Nat) t v, Tryd.f5.params[j]? = some t → args[j]? = some v → Value.okWide Tryd.prog W .any base t v)
    (hW : DataW.Whole enc Tryd.prog Tryd.f5.params.toList Rows.fnOpUsesSpec.vars false W args.toList ds gs before) (_hL : laidMetH Tryd.prog Rows.fnOpUsesRow.laid W) :
    Calls Tryd.prog 5 args W fun e W' => ∃ v, e = .returned v ∧ Rows.fnOpUsesSpec.post enc Tryd.prog Tryd.f5 false true false false W args v W' := by
  have hW' := hW
  obtain ⟨p, q, hA0, hV, rfl, hfz, hnd⟩ := hW
  have hA : DataW.TrodAll enc Tryd.prog W 0 (fun _ => true) true Tryd.f5.params.toList args.toList ds p := hA0
  rw [Tryd.params5] at hA hval
  obtain ⟨v0, vs0, d0, ds0, p0, q0, hargs, rfl, rfl, h0, r0⟩ := trodAll_cons hA
  obtain ⟨rfl, rfl, rfl⟩ := trodAll_nil r0
  obtain rfl : args = #[v0] := by cases args; simp_all
  obtain ⟨rfl, rfl⟩ := trodVars_none hV
  obtain ⟨a0, len0, cap0, rfl⟩ := okWide_slice Tryd.underlying22 (hval 0 22 v0 rfl rfl)
  have k0 := h0
  have lt0 : ∀ x ∈ p0, x.block < W.heap.size := by obtain ⟨m, hm⟩ := k0; exact DataW.trod_lt m _ _ _ hm
  have w0 : Code0 W a0 len0 cap0 := by
    obtain ⟨fuel, hf⟩ := h0
    rcases open_ints Tryd.underlying22 Tryd.underlying5 (by kernel_rfl) hf with ⟨hcs, _⟩ | ⟨x, l, c, zs, hcs, _, hl, hm, hz, _, hcell, hwz⟩
    · simp [Value.cells] at hcs
      obtain ⟨rfl, rfl, rfl⟩ := hcs
      exact code_of_row (zs := []) (.inl ⟨rfl, rfl, rfl, rfl⟩)
    · simp [Value.cells] at hcs
      obtain ⟨rfl, rfl, rfl⟩ := hcs
      exact code_of_row (zs := zs) (.inr ⟨_, rfl, hl, hm, by simpa using hz, hcell, hwz⟩)
  clear hA0
  refine (walk a0 len0 cap0 W w0).mono fun e W' ⟨he, bel⟩ => ?_
  subst he
  exact ⟨_, rfl, _, _, _, [], _, [], hW', trodAll_mk1 (shut_bool Tryd.underlying4 _), (trodAll_cons_mk (Below.trod laidOut (by kernel_rfl) (of_decide_eq_true (by kernel_rfl)) k0 bel lt0) trodAll_mk0), rfl, bel.frame _, fun h => by cases h⟩
theorem laid_met (os : Os) : laidMet Tryd.prog Rows.fnOpUsesRow.laid ((putAll (World.settled Tryd.prog os).heap.size (World.holding Tryd.prog os ⟨errBlocks, #[], []⟩)).forCall (fun _ _ => 0) ⟨#[], #[.slice none 0 0], []⟩).memory :=
  laidMet_of_run' 10 (by kernel_rfl) (by kernel_rfl)
theorem reads (os : Os) {H : Type} (enc : TypeId × Value → H) : ∃ places, DataW.whole enc Tryd.prog ((putAll (World.settled Tryd.prog os).heap.size (World.holding Tryd.prog os ⟨errBlocks, #[], []⟩)).forCall (fun _ _ => 0) ⟨#[], #[.slice none 0 0], []⟩).memory Tryd.f5.params.toList Rows.fnOpUsesSpec.vars false #[.slice none 0 0].toList 8 = some ([.nil], [], places) :=
  ⟨[], by kernel_rfl⟩
set_option maxRecDepth 100000 in
theorem lifted (os : Os) (started : os.Started) (H : Type) (enc : TypeId × Value → H) (F : Stop.Interp) :
    ReturnsInHanded {} Tryd.checked os 5 .any ((OpenSpec.ofChange Rows.fnOpUsesSpec).preRow enc Tryd.prog Tryd.f5 Rows.fnOpUsesRow.domain false Rows.fnOpUsesRow.laid) (((OpenSpec.ofChange Rows.fnOpUsesSpec).at F).post enc Tryd.prog Tryd.f5 false true false false) := by
  obtain ⟨places, hx⟩ := reads os enc
  refine returnsInHanded_of_row (C := Tryd.checked) (s := OpenSpec.ofChange Rows.fnOpUsesSpec) own started (by kernel_rfl) Tryd.func5
    (witness_row_atRef (enc := enc) (C := Tryd.checked) false (putAll (World.settled Tryd.prog os).heap.size (World.holding Tryd.prog os ⟨errBlocks, #[], []⟩)) #[.slice none 0 0] rfl (by kernel_rfl) (by kernel_rfl) (by kernel_rfl)
      (OpenSpec.preRow_of_cond 8 hx (by kernel_rfl) (fun k hk => by cases hk) (by kernel_rfl) (laid_met os))) ?_
  intro W base args ds gs before hval hW _ _ _ hL _ _
  exact contract H enc W base args ds gs before hval hW hL
theorem said : Rows.FnOpUsesSaid :=
  OpenClaim.holds_of_cond 5 Tryd.f5 rfl rfl rfl rfl rfl rfl rfl ⟨rfl, rfl, rfl, rfl, rfl⟩ rfl rfl rfl rfl rfl (by kernel_rfl) Tryd.func5 (by kernel_rfl)
    (of_decide_eq_true (by kernel_rfl)) (by unfold Func.isWrapper; first | (rw [if_pos (by decide +kernel)]; kernel_rfl) | (rw [if_neg (by decide +kernel)]; exact ⟨rfl, rfl⟩))
    (fun os started H enc _ F => by rw [OpenClaim.pre_eq_preRow]; exact lifted os started H enc F)
theorem plain (f : FuncId) (fn : Func) (hf : Tryd.pinned.checked.prog.funcNamed Rows.fnOpUsesRow.func = some f) (hfn : Tryd.pinned.checked.prog.funcs[f]? = some fn) :
    true = Tryd.pinned.checked.prog.looks [] ∧ ∀ (j : Nat) t, fn.params[j]? = some t → Tryd.pinned.checked.prog.wantsStandIn t = false := by
  obtain rfl : f = 5 := Option.some.inj ((show Tryd.prog.funcNamed Rows.fnOpUsesRow.func = some 5 by kernel_rfl).symm.trans hf) |>.symm
  obtain rfl : fn = Tryd.f5 := (Option.some.inj (Tryd.func5.symm.trans hfn)).symm
  refine ⟨by kernel_rfl, fun j t ht => ?_⟩
  rw [Tryd.params5] at ht
  obtain rfl : t = 22 := by simpa using Array.mem_of_getElem? ht
  exact (show Tryd.prog.wantsStandIn 22 = false by kernel_rfl)
theorem card : Rows.FnOpUsesCardSaid :=
  Claim7.holds_tied_plain_at .later [] _ _ _ _ said (fun _ h => by cases h) (by kernel_rfl) (fun _ h => by cases h) fnOpUses_row_tie rfl ⟨rfl, rfl⟩ (by kernel_rfl) rfl plain (by kernel_rfl)
end OpUsesL

/-- the given statement -/
theorem opUsesL_holds : Rows.FnOpUsesCardSaid := OpUsesL.card
#print axioms opUsesL_holds
end Go.Proofs.YtfadpahbmngmfaaDoor
