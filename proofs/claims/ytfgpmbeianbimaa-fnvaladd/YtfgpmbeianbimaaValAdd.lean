/-
  For every code, FnValAdd answers true: impl.ValAdd is the specification's at the drawn values, does not mind which is first, is the sum of two numbers where that is one, and false else. No condition.
-/
import Derived.Test.YtfgpmbeianbimaaSums
import Derived.Test.YtfgpmbeianbimaaDrawAdd
import Derived.Test.YtfgpmbeianbimaaFrame
namespace Go.Proofs.Ytfgpmbeianbimaa
open Go.ChangeShapes Go.WideShapes Go.ChangeAt Go.RowKit Go.Joins
attribute [local go_sem ↓] Go.wp_at_zero Go.wp_at_succ
namespace ValAdd
set_option maxHeartbeats 4000000 in
theorem walk_in (a0 : Option Addr) (len0 cap0 : Nat) (w : World) (h0 : Code0 w a0 len0 cap0) (hl0 : len0 ≤ 1048576) :
    Calls Try.prog 3 #[.slice a0 len0 cap0] w fun e w' => e = .returned (.bool true) ∧ Below w.heap.size w w' := by
  have g0 : ¬ (1048576 : Int) < (len0 : Int) := by omega
  go_enter Try.func3, Try.ntmps3
  go_wp2_with fail
  refine (drawAdd_any a0 len0 cap0 _ h0).mono ?_
  rintro e w1 ⟨k, n, l, m, rfl, hkn, hb1⟩
  have hz1 := hb1.size
  go_wp2_with fail
  refine (specSum _ _ _ _ _).mono ?_
  rintro e w2 ⟨rfl, hb2⟩
  obtain ⟨hcw2, hfw2⟩ := bcell hb2
  have hzw2 := hb2.size
  try simp at hzw2
  have x0w2 : w2.cell? ⟨w1.heap.size, 0, none⟩ = some (.int .i64 k) := by rw [hcw2 _ _ (by (try simp) <;> omega)]; first | assumption | (rw [World.cell?_alloc_past _ _ _ (by omega)]; assumption) | (rw [World.cell?_alloc_past _ _ _ (by (try simp) <;> omega), World.cell?_alloc_past _ _ _ (by omega)]; assumption) | (simp [go_sem]; done)
  have y0w2 : w2.cell? ⟨w1.heap.size, 1, none⟩ = some (.int .i64 n) := by rw [hcw2 _ _ (by (try simp) <;> omega)]; first | assumption | (rw [World.cell?_alloc_past _ _ _ (by omega)]; assumption) | (rw [World.cell?_alloc_past _ _ _ (by (try simp) <;> omega), World.cell?_alloc_past _ _ _ (by omega)]; assumption) | (simp [go_sem]; done)
  have x1w2 : w2.cell? ⟨w1.heap.size + 1, 0, none⟩ = some (.int .i64 l) := by rw [hcw2 _ _ (by (try simp) <;> omega)]; first | assumption | (rw [World.cell?_alloc_past _ _ _ (by omega)]; assumption) | (rw [World.cell?_alloc_past _ _ _ (by (try simp) <;> omega), World.cell?_alloc_past _ _ _ (by omega)]; assumption) | (simp [go_sem]; done)
  have y1w2 : w2.cell? ⟨w1.heap.size + 1, 1, none⟩ = some (.int .i64 m) := by rw [hcw2 _ _ (by (try simp) <;> omega)]; first | assumption | (rw [World.cell?_alloc_past _ _ _ (by omega)]; assumption) | (rw [World.cell?_alloc_past _ _ _ (by (try simp) <;> omega), World.cell?_alloc_past _ _ _ (by omega)]; assumption) | (simp [go_sem]; done)
  have l0w2 : w1.heap.size < w2.heap.size := by omega
  have l1w2 : w1.heap.size + 1 < w2.heap.size := by omega
  clear hcw2 hfw2
  have hB2 : Below w.heap.size w w2 := ((hb1.alloc hz1 _).alloc (by (try simp) <;> omega) _).trans (hb2.mono (by (try simp) <;> omega))
  clear hb1 hb2
  go_wp2_with fail
  refine (implSum _ _ _ _ _).mono ?_
  rintro e w3 ⟨rfl, hb3⟩
  obtain ⟨hcw3, hfw3⟩ := bcell hb3
  have hzw3 := hb3.size
  try simp at hzw3
  have x0w3 : w3.cell? ⟨w1.heap.size, 0, none⟩ = some (.int .i64 k) := by rw [hcw3 _ _ (by (try simp) <;> omega)]; first | assumption | (rw [World.cell?_alloc_past _ _ _ (by omega)]; assumption) | (rw [World.cell?_alloc_past _ _ _ (by (try simp) <;> omega), World.cell?_alloc_past _ _ _ (by omega)]; assumption) | (simp [go_sem]; done)
  have y0w3 : w3.cell? ⟨w1.heap.size, 1, none⟩ = some (.int .i64 n) := by rw [hcw3 _ _ (by (try simp) <;> omega)]; first | assumption | (rw [World.cell?_alloc_past _ _ _ (by omega)]; assumption) | (rw [World.cell?_alloc_past _ _ _ (by (try simp) <;> omega), World.cell?_alloc_past _ _ _ (by omega)]; assumption) | (simp [go_sem]; done)
  have x1w3 : w3.cell? ⟨w1.heap.size + 1, 0, none⟩ = some (.int .i64 l) := by rw [hcw3 _ _ (by (try simp) <;> omega)]; first | assumption | (rw [World.cell?_alloc_past _ _ _ (by omega)]; assumption) | (rw [World.cell?_alloc_past _ _ _ (by (try simp) <;> omega), World.cell?_alloc_past _ _ _ (by omega)]; assumption) | (simp [go_sem]; done)
  have y1w3 : w3.cell? ⟨w1.heap.size + 1, 1, none⟩ = some (.int .i64 m) := by rw [hcw3 _ _ (by (try simp) <;> omega)]; first | assumption | (rw [World.cell?_alloc_past _ _ _ (by omega)]; assumption) | (rw [World.cell?_alloc_past _ _ _ (by (try simp) <;> omega), World.cell?_alloc_past _ _ _ (by omega)]; assumption) | (simp [go_sem]; done)
  have x2w3 : w3.cell? ⟨w2.heap.size, 0, none⟩ = some (.int .i64 (sumK k n l m)) := by rw [hcw3 _ _ (by (try simp) <;> omega)]; first | assumption | (rw [World.cell?_alloc_past _ _ _ (by omega)]; assumption) | (rw [World.cell?_alloc_past _ _ _ (by (try simp) <;> omega), World.cell?_alloc_past _ _ _ (by omega)]; assumption) | (simp [go_sem]; done)
  have y2w3 : w3.cell? ⟨w2.heap.size, 1, none⟩ = some (.int .i64 (sumN k n l m)) := by rw [hcw3 _ _ (by (try simp) <;> omega)]; first | assumption | (rw [World.cell?_alloc_past _ _ _ (by omega)]; assumption) | (rw [World.cell?_alloc_past _ _ _ (by (try simp) <;> omega), World.cell?_alloc_past _ _ _ (by omega)]; assumption) | (simp [go_sem]; done)
  have l0w3 : w1.heap.size < w3.heap.size := by omega
  have l1w3 : w1.heap.size + 1 < w3.heap.size := by omega
  have l2w3 : w2.heap.size < w3.heap.size := by omega
  clear hcw3 hfw3
  have hB3 : Below w.heap.size w w3 := (hB2.alloc (by omega) _).trans (hb3.mono (by (try simp) <;> omega))
  clear hb3 hB2 x0w2 y0w2 x1w2 y1w2
  go_wp2_with fail
  refine (specOk_any _ _ _).mono ?_
  rintro e w4 ⟨rfl, hb4⟩
  obtain ⟨hcw4, hfw4⟩ := bcell hb4
  have hzw4 := hb4.size
  try simp at hzw4
  have x0w4 : w4.cell? ⟨w1.heap.size, 0, none⟩ = some (.int .i64 k) := by rw [hcw4 _ _ (by (try simp) <;> omega)]; first | assumption | (rw [World.cell?_alloc_past _ _ _ (by omega)]; assumption) | (rw [World.cell?_alloc_past _ _ _ (by (try simp) <;> omega), World.cell?_alloc_past _ _ _ (by omega)]; assumption) | (simp [go_sem]; done)
  have y0w4 : w4.cell? ⟨w1.heap.size, 1, none⟩ = some (.int .i64 n) := by rw [hcw4 _ _ (by (try simp) <;> omega)]; first | assumption | (rw [World.cell?_alloc_past _ _ _ (by omega)]; assumption) | (rw [World.cell?_alloc_past _ _ _ (by (try simp) <;> omega), World.cell?_alloc_past _ _ _ (by omega)]; assumption) | (simp [go_sem]; done)
  have x1w4 : w4.cell? ⟨w1.heap.size + 1, 0, none⟩ = some (.int .i64 l) := by rw [hcw4 _ _ (by (try simp) <;> omega)]; first | assumption | (rw [World.cell?_alloc_past _ _ _ (by omega)]; assumption) | (rw [World.cell?_alloc_past _ _ _ (by (try simp) <;> omega), World.cell?_alloc_past _ _ _ (by omega)]; assumption) | (simp [go_sem]; done)
  have y1w4 : w4.cell? ⟨w1.heap.size + 1, 1, none⟩ = some (.int .i64 m) := by rw [hcw4 _ _ (by (try simp) <;> omega)]; first | assumption | (rw [World.cell?_alloc_past _ _ _ (by omega)]; assumption) | (rw [World.cell?_alloc_past _ _ _ (by (try simp) <;> omega), World.cell?_alloc_past _ _ _ (by omega)]; assumption) | (simp [go_sem]; done)
  have x2w4 : w4.cell? ⟨w2.heap.size, 0, none⟩ = some (.int .i64 (sumK k n l m)) := by rw [hcw4 _ _ (by (try simp) <;> omega)]; first | assumption | (rw [World.cell?_alloc_past _ _ _ (by omega)]; assumption) | (rw [World.cell?_alloc_past _ _ _ (by (try simp) <;> omega), World.cell?_alloc_past _ _ _ (by omega)]; assumption) | (simp [go_sem]; done)
  have y2w4 : w4.cell? ⟨w2.heap.size, 1, none⟩ = some (.int .i64 (sumN k n l m)) := by rw [hcw4 _ _ (by (try simp) <;> omega)]; first | assumption | (rw [World.cell?_alloc_past _ _ _ (by omega)]; assumption) | (rw [World.cell?_alloc_past _ _ _ (by (try simp) <;> omega), World.cell?_alloc_past _ _ _ (by omega)]; assumption) | (simp [go_sem]; done)
  have x3w4 : w4.cell? ⟨w3.heap.size, 0, none⟩ = some (.int .i64 (sumK k n l m)) := by rw [hcw4 _ _ (by (try simp) <;> omega)]; first | assumption | (rw [World.cell?_alloc_past _ _ _ (by omega)]; assumption) | (rw [World.cell?_alloc_past _ _ _ (by (try simp) <;> omega), World.cell?_alloc_past _ _ _ (by omega)]; assumption) | (simp [go_sem]; done)
  have y3w4 : w4.cell? ⟨w3.heap.size, 1, none⟩ = some (.int .i64 (sumN k n l m)) := by rw [hcw4 _ _ (by (try simp) <;> omega)]; first | assumption | (rw [World.cell?_alloc_past _ _ _ (by omega)]; assumption) | (rw [World.cell?_alloc_past _ _ _ (by (try simp) <;> omega), World.cell?_alloc_past _ _ _ (by omega)]; assumption) | (simp [go_sem]; done)
  have l0w4 : w1.heap.size < w4.heap.size := by omega
  have l1w4 : w1.heap.size + 1 < w4.heap.size := by omega
  have l2w4 : w2.heap.size < w4.heap.size := by omega
  have l3w4 : w3.heap.size < w4.heap.size := by omega
  clear hcw4 hfw4
  have hB4 : Below w.heap.size w w4 := (hB3.alloc (by omega) _).trans (hb4.mono (by (try simp) <;> omega))
  clear hb4 hB3 x0w3 y0w3 x1w3 y1w3 x2w3 y2w3
  cases ha : okB k n with
  | false =>
    go_wp2_with fail
    go_ret
    exact ⟨rfl, hB4⟩
  | true =>
    go_wp2_with fail
    refine (specOk_any _ _ _).mono ?_
    rintro e w5 ⟨rfl, hb5⟩
    obtain ⟨hcw5, hfw5⟩ := bcell hb5
    have hzw5 := hb5.size
    try simp at hzw5
    have x0w5 : w5.cell? ⟨w1.heap.size, 0, none⟩ = some (.int .i64 k) := by rw [hcw5 _ _ (by (try simp) <;> omega)]; first | assumption | (rw [World.cell?_alloc_past _ _ _ (by omega)]; assumption) | (rw [World.cell?_alloc_past _ _ _ (by (try simp) <;> omega), World.cell?_alloc_past _ _ _ (by omega)]; assumption) | (simp [go_sem]; done)
    have y0w5 : w5.cell? ⟨w1.heap.size, 1, none⟩ = some (.int .i64 n) := by rw [hcw5 _ _ (by (try simp) <;> omega)]; first | assumption | (rw [World.cell?_alloc_past _ _ _ (by omega)]; assumption) | (rw [World.cell?_alloc_past _ _ _ (by (try simp) <;> omega), World.cell?_alloc_past _ _ _ (by omega)]; assumption) | (simp [go_sem]; done)
    have x1w5 : w5.cell? ⟨w1.heap.size + 1, 0, none⟩ = some (.int .i64 l) := by rw [hcw5 _ _ (by (try simp) <;> omega)]; first | assumption | (rw [World.cell?_alloc_past _ _ _ (by omega)]; assumption) | (rw [World.cell?_alloc_past _ _ _ (by (try simp) <;> omega), World.cell?_alloc_past _ _ _ (by omega)]; assumption) | (simp [go_sem]; done)
    have y1w5 : w5.cell? ⟨w1.heap.size + 1, 1, none⟩ = some (.int .i64 m) := by rw [hcw5 _ _ (by (try simp) <;> omega)]; first | assumption | (rw [World.cell?_alloc_past _ _ _ (by omega)]; assumption) | (rw [World.cell?_alloc_past _ _ _ (by (try simp) <;> omega), World.cell?_alloc_past _ _ _ (by omega)]; assumption) | (simp [go_sem]; done)
    have x2w5 : w5.cell? ⟨w2.heap.size, 0, none⟩ = some (.int .i64 (sumK k n l m)) := by rw [hcw5 _ _ (by (try simp) <;> omega)]; first | assumption | (rw [World.cell?_alloc_past _ _ _ (by omega)]; assumption) | (rw [World.cell?_alloc_past _ _ _ (by (try simp) <;> omega), World.cell?_alloc_past _ _ _ (by omega)]; assumption) | (simp [go_sem]; done)
    have y2w5 : w5.cell? ⟨w2.heap.size, 1, none⟩ = some (.int .i64 (sumN k n l m)) := by rw [hcw5 _ _ (by (try simp) <;> omega)]; first | assumption | (rw [World.cell?_alloc_past _ _ _ (by omega)]; assumption) | (rw [World.cell?_alloc_past _ _ _ (by (try simp) <;> omega), World.cell?_alloc_past _ _ _ (by omega)]; assumption) | (simp [go_sem]; done)
    have x3w5 : w5.cell? ⟨w3.heap.size, 0, none⟩ = some (.int .i64 (sumK k n l m)) := by rw [hcw5 _ _ (by (try simp) <;> omega)]; first | assumption | (rw [World.cell?_alloc_past _ _ _ (by omega)]; assumption) | (rw [World.cell?_alloc_past _ _ _ (by (try simp) <;> omega), World.cell?_alloc_past _ _ _ (by omega)]; assumption) | (simp [go_sem]; done)
    have y3w5 : w5.cell? ⟨w3.heap.size, 1, none⟩ = some (.int .i64 (sumN k n l m)) := by rw [hcw5 _ _ (by (try simp) <;> omega)]; first | assumption | (rw [World.cell?_alloc_past _ _ _ (by omega)]; assumption) | (rw [World.cell?_alloc_past _ _ _ (by (try simp) <;> omega), World.cell?_alloc_past _ _ _ (by omega)]; assumption) | (simp [go_sem]; done)
    have l0w5 : w1.heap.size < w5.heap.size := by omega
    have l1w5 : w1.heap.size + 1 < w5.heap.size := by omega
    have l2w5 : w2.heap.size < w5.heap.size := by omega
    have l3w5 : w3.heap.size < w5.heap.size := by omega
    clear hcw5 hfw5
    have hB5 : Below w.heap.size w w5 := hB4.trans (hb5.mono (by omega))
    clear hb5 hB4 x0w4 y0w4 x1w4 y1w4 x2w4 y2w4 x3w4 y3w4
    cases hbb : okB l m with
    | false =>
      go_wp2_with fail
      go_ret
      exact ⟨rfl, hB5⟩
    | true =>
      have c1 := sumK_comm k n l m
      have c2 := sumN_comm k n l m
      have c3 := addB_comm k n l m
      go_wp2_with fail
      refine (implSum _ _ _ _ _).mono ?_
      rw [c1, c2, c3]
      rintro e w6 ⟨rfl, hb6⟩
      clear c1 c2 c3
      obtain ⟨hcw6, hfw6⟩ := bcell hb6
      have hzw6 := hb6.size
      try simp at hzw6
      have x0w6 : w6.cell? ⟨w1.heap.size, 0, none⟩ = some (.int .i64 k) := by rw [hcw6 _ _ (by (try simp) <;> omega)]; first | assumption | (rw [World.cell?_alloc_past _ _ _ (by omega)]; assumption) | (rw [World.cell?_alloc_past _ _ _ (by (try simp) <;> omega), World.cell?_alloc_past _ _ _ (by omega)]; assumption) | (simp [go_sem]; done)
      have y0w6 : w6.cell? ⟨w1.heap.size, 1, none⟩ = some (.int .i64 n) := by rw [hcw6 _ _ (by (try simp) <;> omega)]; first | assumption | (rw [World.cell?_alloc_past _ _ _ (by omega)]; assumption) | (rw [World.cell?_alloc_past _ _ _ (by (try simp) <;> omega), World.cell?_alloc_past _ _ _ (by omega)]; assumption) | (simp [go_sem]; done)
      have x1w6 : w6.cell? ⟨w1.heap.size + 1, 0, none⟩ = some (.int .i64 l) := by rw [hcw6 _ _ (by (try simp) <;> omega)]; first | assumption | (rw [World.cell?_alloc_past _ _ _ (by omega)]; assumption) | (rw [World.cell?_alloc_past _ _ _ (by (try simp) <;> omega), World.cell?_alloc_past _ _ _ (by omega)]; assumption) | (simp [go_sem]; done)
      have y1w6 : w6.cell? ⟨w1.heap.size + 1, 1, none⟩ = some (.int .i64 m) := by rw [hcw6 _ _ (by (try simp) <;> omega)]; first | assumption | (rw [World.cell?_alloc_past _ _ _ (by omega)]; assumption) | (rw [World.cell?_alloc_past _ _ _ (by (try simp) <;> omega), World.cell?_alloc_past _ _ _ (by omega)]; assumption) | (simp [go_sem]; done)
      have x2w6 : w6.cell? ⟨w2.heap.size, 0, none⟩ = some (.int .i64 (sumK k n l m)) := by rw [hcw6 _ _ (by (try simp) <;> omega)]; first | assumption | (rw [World.cell?_alloc_past _ _ _ (by omega)]; assumption) | (rw [World.cell?_alloc_past _ _ _ (by (try simp) <;> omega), World.cell?_alloc_past _ _ _ (by omega)]; assumption) | (simp [go_sem]; done)
      have y2w6 : w6.cell? ⟨w2.heap.size, 1, none⟩ = some (.int .i64 (sumN k n l m)) := by rw [hcw6 _ _ (by (try simp) <;> omega)]; first | assumption | (rw [World.cell?_alloc_past _ _ _ (by omega)]; assumption) | (rw [World.cell?_alloc_past _ _ _ (by (try simp) <;> omega), World.cell?_alloc_past _ _ _ (by omega)]; assumption) | (simp [go_sem]; done)
      have x3w6 : w6.cell? ⟨w3.heap.size, 0, none⟩ = some (.int .i64 (sumK k n l m)) := by rw [hcw6 _ _ (by (try simp) <;> omega)]; first | assumption | (rw [World.cell?_alloc_past _ _ _ (by omega)]; assumption) | (rw [World.cell?_alloc_past _ _ _ (by (try simp) <;> omega), World.cell?_alloc_past _ _ _ (by omega)]; assumption) | (simp [go_sem]; done)
      have y3w6 : w6.cell? ⟨w3.heap.size, 1, none⟩ = some (.int .i64 (sumN k n l m)) := by rw [hcw6 _ _ (by (try simp) <;> omega)]; first | assumption | (rw [World.cell?_alloc_past _ _ _ (by omega)]; assumption) | (rw [World.cell?_alloc_past _ _ _ (by (try simp) <;> omega), World.cell?_alloc_past _ _ _ (by omega)]; assumption) | (simp [go_sem]; done)
      have l0w6 : w1.heap.size < w6.heap.size := by omega
      have l1w6 : w1.heap.size + 1 < w6.heap.size := by omega
      have l2w6 : w2.heap.size < w6.heap.size := by omega
      have l3w6 : w3.heap.size < w6.heap.size := by omega
      clear hcw6 hfw6
      have hB6 : Below w.heap.size w w6 := hB5.trans (hb6.mono (by omega))
      clear hb6 hB5 x0w5 y0w5 x1w5 y1w5 x2w5 y2w5 x3w5 y3w5
      have ba := okB_bd ha
      have bb := okB_bd hbb
      cases hs : addB k n l m with
      | false =>
        by_cases hk : k = 1
        · by_cases hl : l = 1
          · have hk' : (k != 1) = false := by simp [hk]
            have hl' : (l != 1) = false := by simp [hl]
            have hsum : 99 < n + m ∨ n + m < -99 := by
              rw [Bool.eq_false_iff] at hs
              rcases Decidable.em (99 < n + m) with h1 | h1
              · exact .inl h1
              · rcases Decidable.em (n + m < -99) with h2 | h2
                · exact .inr h2
                · exact absurd (addB_iff.2 ⟨⟨hk, ba.1, ba.2⟩, ⟨hl, bb.1, bb.2⟩, (by omega), (by omega)⟩) hs
            rcases hsum with h1 | h1
            · go_wp2_with fail
              go_ret
              exact ⟨rfl, hB6.alloc (by omega) _⟩
            · have h2 : ¬ 99 < n + m := by omega
              go_wp2_with fail
              go_ret
              exact ⟨rfl, hB6.alloc (by omega) _⟩
          · have hk' : (k != 1) = false := by simp [hk]
            have hl' : (l != 1) = true := by simp [hl]
            go_wp2_with fail
            go_ret
            exact ⟨rfl, hB6.alloc (by omega) _⟩
        · have hk' : (k != 1) = true := by simp [hk]
          go_wp2_with fail
          go_ret
          exact ⟨rfl, hB6.alloc (by omega) _⟩
      | true =>
        have t1 := sumN_yes hs
        have t2 := sumK_yes hs
        have q1 : okB 1 (n + m) = true := by have := addB_iff.1 hs; rw [okB_one]; simp; omega
        go_wp2_with fail
        refine (implOk_any _ _ _).mono ?_
        rintro e w7 ⟨rfl, hb7⟩
        go_wp2_with fail
        go_ret
        exact ⟨rfl, (hB6.alloc (by omega) _).trans (hb7.mono (by (try simp) <;> omega))⟩
set_option maxHeartbeats 400000 in
theorem walk (a0 : Option Addr) (len0 cap0 : Nat) (w : World) (h0 : Code0 w a0 len0 cap0) :
    Calls Try.prog 3 #[.slice a0 len0 cap0] w fun e w' => e = .returned (.bool true) ∧ Below w.heap.size w w' := by
  by_cases hl0 : len0 ≤ 1048576
  · exact walk_in a0 len0 cap0 w h0 hl0
  · have g0 : (1048576 : Int) < (len0 : Int) := by omega
    go_enter Try.func3, Try.ntmps3
    go_wp2_with fail
    go_ret
    exact ⟨rfl, Below.refl _ _⟩

set_option maxRecDepth 100000 in
theorem lifted (os : Os) (started : os.Started) (H : Type) (enc : TypeId × Value → H) :
    ReturnsInHanded {} Try.checked os 3 .any (Rows.fnValAddSpec.pre6 enc Try.prog Try.f3 Rows.fnValAddRow.domain false) (Rows.fnValAddSpec.post enc Try.prog Try.f3 false true false false) := by
  refine returnsInHanded_of_change (C := Try.checked) own started (by kernel_rfl) Try.func3
    (ChangeSpec.witness6 (enc := enc) (C := Try.checked) false ⟨#[], #[.slice none 0 0], []⟩ 8 (by kernel_rfl) (by kernel_rfl) (by kernel_rfl) (by kernel_rfl)) ?_
  intro W base args ds gs before hval0 hW hcnd _
  have hval : ∀ (j : Nat) t v, Try.f3.params[j]? = some t → args[j]? = some v → Value.okWide Try.prog W .any base t v := hval0
  have hW' := hW
  obtain ⟨p, q, hA0, hV, rfl, hfz, hnd⟩ := hW
  have hA : DataW.TrodAll enc Try.prog W 0 (fun _ => true) true Try.f3.params.toList args.toList ds p := hA0
  rw [Try.params3] at hA hval
  obtain ⟨v0, vs0, d0, ds0, p0, q0, hargs, rfl, rfl, h0, r0⟩ := trodAll_cons hA
  obtain ⟨rfl, rfl, rfl⟩ := trodAll_nil r0
  obtain rfl : args = #[v0] := by cases args; simp_all
  obtain ⟨rfl, rfl⟩ := trodVars_none hV
  obtain ⟨a0, len0, cap0, rfl⟩ := okWide_slice Try.underlying22 (hval 0 22 v0 rfl rfl)
  have k0 := h0
  have lt0 : ∀ x ∈ p0, x.block < W.heap.size := by obtain ⟨m, hm⟩ := k0; exact DataW.trod_lt m _ _ _ hm
  have w0 : Code0 W a0 len0 cap0 := by
    obtain ⟨fuel, hf⟩ := h0
    rcases open_ints Try.underlying22 Try.underlying5 (by kernel_rfl) hf with ⟨hcs, _⟩ | ⟨x, l, c, zs, hcs, _, hl, hm, hz, _, hcell, hwz⟩
    · simp [Value.cells] at hcs
      obtain ⟨rfl, rfl, rfl⟩ := hcs
      exact code_of_row (zs := []) (.inl ⟨rfl, rfl, rfl, rfl⟩)
    · simp [Value.cells] at hcs
      obtain ⟨rfl, rfl, rfl⟩ := hcs
      exact code_of_row (zs := zs) (.inr ⟨_, rfl, hl, hm, by simpa using hz, hcell, hwz⟩)
  clear hA0 hval0
  refine (walk a0 len0 cap0 W w0).mono fun e W' ⟨he, bel⟩ => ?_
  subst he
  exact ⟨_, rfl, _, _, _, [], _, [], hW', trodAll_mk1 (shut_bool Try.underlying4 _), (trodAll_cons_mk (Below.trod laidOut (by kernel_rfl) (of_decide_eq_true (by kernel_rfl)) k0 bel lt0) trodAll_mk0), rfl, bel.frame _, fun h => by cases h⟩

theorem over : Rows.fnValAddRow.holds Try.pinned (OpenSpec.ofChange Rows.fnValAddSpec) :=
  OpenClaim.holds_of_wide 3 Try.f3 rfl rfl rfl rfl rfl rfl rfl ⟨rfl, rfl, rfl, rfl, rfl⟩ rfl rfl rfl rfl rfl (by kernel_rfl) Try.func3 (by kernel_rfl)
    (of_decide_eq_true (by kernel_rfl)) (by unfold Func.isWrapper; first | (rw [if_pos (by decide +kernel)]; kernel_rfl) | (rw [if_neg (by decide +kernel)]; exact ⟨rfl, rfl⟩))
    (fun os started H enc _ => lifted os started H enc)
end ValAdd

/-- the given statement -/
theorem valAdd_holds : Rows.FnValAddSaid := ValAdd.over
#print axioms valAdd_holds
end Go.Proofs.Ytfgpmbeianbimaa
