/-
  For every two codes, FnValThree answers true: impl.ValAdd is the specification's at the drawn values; of three numbers both ways of adding come to the same where all are numbers; with 0 it is the number. No condition.
-/
import Derived.Test.YtfgpmbeianbimaaSums
import Derived.Test.YtfgpmbeianbimaaDrawAdd
import Derived.Test.YtfgpmbeianbimaaFrame
namespace Go.Proofs.Ytfgpmbeianbimaa
open Go.ChangeShapes Go.WideShapes Go.ChangeAt Go.RowKit Go.Joins
attribute [local go_sem ↓] Go.wp_at_zero Go.wp_at_succ
namespace ValThree
set_option maxHeartbeats 4000000 in
theorem walk_in (a0 : Option Addr) (len0 cap0 : Nat) (a1 : Option Addr) (len1 cap1 : Nat) (w : World) (h0 : Code0 w a0 len0 cap0) (hl0 : len0 ≤ 1048576) (hl1 : len1 ≤ 1048576) :
    Calls Try.prog 4 #[.slice a0 len0 cap0, .slice a1 len1 cap1] w fun e w' => e = .returned (.bool true) ∧ Below w.heap.size w w' := by
  have g0 : ¬ (1048576 : Int) < (len0 : Int) := by omega
  have g1 : ¬ (1048576 : Int) < (len1 : Int) := by omega
  go_enter Try.func4, Try.ntmps4
  go_wp2_with fail
  refine (drawAdd_any a0 len0 cap0 _ h0).mono ?_
  rintro e w1 ⟨k, n, l, m, rfl, hkn, hb1⟩
  have hz1 := hb1.size
  go_wp2_with fail
  refine (specSum _ _ _ _ _).mono ?_
  rintro e w2 ⟨rfl, hb2⟩
  obtain ⟨hcw2, hfw2⟩ := bcell hb2
  have hzw2 := hb2.size
  try simp at hzw2
  have x0w2 : w2.cell? ⟨w1.heap.size, 0, none⟩ = some (.int .i64 k) := by rw [hcw2 _ _ (by (try simp) <;> omega)]; first | assumption | (rw [World.cell?_alloc_past _ _ _ (by omega)]; assumption) | (rw [World.cell?_alloc_past _ _ _ (by (try simp) <;> omega), World.cell?_alloc_past _ _ _ (by omega)]; assumption) | (simp [go_sem]; done)
  have y0w2 : w2.cell? ⟨w1.heap.size, 1, none⟩ = some (.int .i64 n) := by rw [hcw2 _ _ (by (try simp) <;> omega)]; first | assumption | (rw [World.cell?_alloc_past _ _ _ (by omega)]; assumption) | (rw [World.cell?_alloc_past _ _ _ (by (try simp) <;> omega), World.cell?_alloc_past _ _ _ (by omega)]; assumption) | (simp [go_sem]; done)
  have x1w2 : w2.cell? ⟨w1.heap.size + 1, 0, none⟩ = some (.int .i64 l) := by rw [hcw2 _ _ (by (try simp) <;> omega)]; first | assumption | (rw [World.cell?_alloc_past _ _ _ (by omega)]; assumption) | (rw [World.cell?_alloc_past _ _ _ (by (try simp) <;> omega), World.cell?_alloc_past _ _ _ (by omega)]; assumption) | (simp [go_sem]; done)
  have y1w2 : w2.cell? ⟨w1.heap.size + 1, 1, none⟩ = some (.int .i64 m) := by rw [hcw2 _ _ (by (try simp) <;> omega)]; first | assumption | (rw [World.cell?_alloc_past _ _ _ (by omega)]; assumption) | (rw [World.cell?_alloc_past _ _ _ (by (try simp) <;> omega), World.cell?_alloc_past _ _ _ (by omega)]; assumption) | (simp [go_sem]; done)
  have l0w2 : w1.heap.size < w2.heap.size := by omega
  have l1w2 : w1.heap.size + 1 < w2.heap.size := by omega
  clear hcw2 hfw2
  have hB2 : Below w.heap.size w w2 := ((hb1.alloc hz1 _).alloc (by (try simp) <;> omega) _).trans (hb2.mono (by (try simp) <;> omega))
  clear hb1 hb2
  go_wp2_with fail
  refine (implSum _ _ _ _ _).mono ?_
  rintro e w3 ⟨rfl, hb3⟩
  obtain ⟨hcw3, hfw3⟩ := bcell hb3
  have hzw3 := hb3.size
  try simp at hzw3
  have x0w3 : w3.cell? ⟨w1.heap.size, 0, none⟩ = some (.int .i64 k) := by rw [hcw3 _ _ (by (try simp) <;> omega)]; first | assumption | (rw [World.cell?_alloc_past _ _ _ (by omega)]; assumption) | (rw [World.cell?_alloc_past _ _ _ (by (try simp) <;> omega), World.cell?_alloc_past _ _ _ (by omega)]; assumption) | (simp [go_sem]; done)
  have y0w3 : w3.cell? ⟨w1.heap.size, 1, none⟩ = some (.int .i64 n) := by rw [hcw3 _ _ (by (try simp) <;> omega)]; first | assumption | (rw [World.cell?_alloc_past _ _ _ (by omega)]; assumption) | (rw [World.cell?_alloc_past _ _ _ (by (try simp) <;> omega), World.cell?_alloc_past _ _ _ (by omega)]; assumption) | (simp [go_sem]; done)
  have x1w3 : w3.cell? ⟨w1.heap.size + 1, 0, none⟩ = some (.int .i64 l) := by rw [hcw3 _ _ (by (try simp) <;> omega)]; first | assumption | (rw [World.cell?_alloc_past _ _ _ (by omega)]; assumption) | (rw [World.cell?_alloc_past _ _ _ (by (try simp) <;> omega), World.cell?_alloc_past _ _ _ (by omega)]; assumption) | (simp [go_sem]; done)
  have y1w3 : w3.cell? ⟨w1.heap.size + 1, 1, none⟩ = some (.int .i64 m) := by rw [hcw3 _ _ (by (try simp) <;> omega)]; first | assumption | (rw [World.cell?_alloc_past _ _ _ (by omega)]; assumption) | (rw [World.cell?_alloc_past _ _ _ (by (try simp) <;> omega), World.cell?_alloc_past _ _ _ (by omega)]; assumption) | (simp [go_sem]; done)
  have x2w3 : w3.cell? ⟨w2.heap.size, 0, none⟩ = some (.int .i64 (sumK k n l m)) := by rw [hcw3 _ _ (by (try simp) <;> omega)]; first | assumption | (rw [World.cell?_alloc_past _ _ _ (by omega)]; assumption) | (rw [World.cell?_alloc_past _ _ _ (by (try simp) <;> omega), World.cell?_alloc_past _ _ _ (by omega)]; assumption) | (simp [go_sem]; done)
  have y2w3 : w3.cell? ⟨w2.heap.size, 1, none⟩ = some (.int .i64 (sumN k n l m)) := by rw [hcw3 _ _ (by (try simp) <;> omega)]; first | assumption | (rw [World.cell?_alloc_past _ _ _ (by omega)]; assumption) | (rw [World.cell?_alloc_past _ _ _ (by (try simp) <;> omega), World.cell?_alloc_past _ _ _ (by omega)]; assumption) | (simp [go_sem]; done)
  have l0w3 : w1.heap.size < w3.heap.size := by omega
  have l1w3 : w1.heap.size + 1 < w3.heap.size := by omega
  have l2w3 : w2.heap.size < w3.heap.size := by omega
  clear hcw3 hfw3
  have hB3 : Below w.heap.size w w3 := (hB2.alloc (by omega) _).trans (hb3.mono (by (try simp) <;> omega))
  clear hb3 hB2 x0w2 y0w2 x1w2 y1w2
  cases hs : addB k n l m with
  | false =>
    go_wp2_with fail
    go_ret
    exact ⟨rfl, hB3.alloc (by omega) _⟩
  | true =>
    obtain ⟨⟨rfl, hn1, hn2⟩, ⟨rfl, hm1, hm2⟩, hs1, hs2⟩ := addB_iff.1 hs
    have t1 := sumN_yes hs
    have t2 := sumK_yes hs
    have e1 : 0 ≤ (len1 : Int) % 60 := by omega
    have e2 : (len1 : Int) % 60 < 60 := by omega
    go_wp2_with fail
    have e3 : -30 ≤ (len1 : Int) % 60 - 30 := by omega
    have e4 : (len1 : Int) % 60 - 30 < 30 := by omega
    clear e1 e2
    generalize (len1 : Int) % 60 - 30 = c at *
    refine (implSum _ _ _ _ _).mono ?_
    rintro e w4 ⟨rfl, hb4⟩
    obtain ⟨hcw4, hfw4⟩ := bcell hb4
    have hzw4 := hb4.size
    try simp at hzw4
    have x0w4 : w4.cell? ⟨w1.heap.size, 0, none⟩ = some (.int .i64 1) := by rw [hcw4 _ _ (by (try simp) <;> omega)]; first | assumption | (rw [World.cell?_alloc_past _ _ _ (by omega)]; assumption) | (rw [World.cell?_alloc_past _ _ _ (by (try simp) <;> omega), World.cell?_alloc_past _ _ _ (by omega)]; assumption) | (simp [go_sem]; done)
    have y0w4 : w4.cell? ⟨w1.heap.size, 1, none⟩ = some (.int .i64 n) := by rw [hcw4 _ _ (by (try simp) <;> omega)]; first | assumption | (rw [World.cell?_alloc_past _ _ _ (by omega)]; assumption) | (rw [World.cell?_alloc_past _ _ _ (by (try simp) <;> omega), World.cell?_alloc_past _ _ _ (by omega)]; assumption) | (simp [go_sem]; done)
    have x1w4 : w4.cell? ⟨w1.heap.size + 1, 0, none⟩ = some (.int .i64 1) := by rw [hcw4 _ _ (by (try simp) <;> omega)]; first | assumption | (rw [World.cell?_alloc_past _ _ _ (by omega)]; assumption) | (rw [World.cell?_alloc_past _ _ _ (by (try simp) <;> omega), World.cell?_alloc_past _ _ _ (by omega)]; assumption) | (simp [go_sem]; done)
    have y1w4 : w4.cell? ⟨w1.heap.size + 1, 1, none⟩ = some (.int .i64 m) := by rw [hcw4 _ _ (by (try simp) <;> omega)]; first | assumption | (rw [World.cell?_alloc_past _ _ _ (by omega)]; assumption) | (rw [World.cell?_alloc_past _ _ _ (by (try simp) <;> omega), World.cell?_alloc_past _ _ _ (by omega)]; assumption) | (simp [go_sem]; done)
    have x2w4 : w4.cell? ⟨w3.heap.size, 0, none⟩ = some (.int .i64 1) := by rw [hcw4 _ _ (by (try simp) <;> omega)]; first | assumption | (rw [World.cell?_alloc_past _ _ _ (by omega)]; assumption) | (rw [World.cell?_alloc_past _ _ _ (by (try simp) <;> omega), World.cell?_alloc_past _ _ _ (by omega)]; assumption) | (simp [go_sem]; done)
    have y2w4 : w4.cell? ⟨w3.heap.size, 1, none⟩ = some (.int .i64 (n + m)) := by rw [hcw4 _ _ (by (try simp) <;> omega)]; first | assumption | (rw [World.cell?_alloc_past _ _ _ (by omega)]; assumption) | (rw [World.cell?_alloc_past _ _ _ (by (try simp) <;> omega), World.cell?_alloc_past _ _ _ (by omega)]; assumption) | (simp [go_sem]; done)
    have x3w4 : w4.cell? ⟨w3.heap.size + 1, 0, none⟩ = some (.int .i64 1) := by rw [hcw4 _ _ (by (try simp) <;> omega)]; first | assumption | (rw [World.cell?_alloc_past _ _ _ (by omega)]; assumption) | (rw [World.cell?_alloc_past _ _ _ (by (try simp) <;> omega), World.cell?_alloc_past _ _ _ (by omega)]; assumption) | (simp [go_sem]; done)
    have y3w4 : w4.cell? ⟨w3.heap.size + 1, 1, none⟩ = some (.int .i64 c) := by rw [hcw4 _ _ (by (try simp) <;> omega)]; first | assumption | (rw [World.cell?_alloc_past _ _ _ (by omega)]; assumption) | (rw [World.cell?_alloc_past _ _ _ (by (try simp) <;> omega), World.cell?_alloc_past _ _ _ (by omega)]; assumption) | (simp [go_sem]; done)
    have l0w4 : w1.heap.size < w4.heap.size := by omega
    have l1w4 : w1.heap.size + 1 < w4.heap.size := by omega
    have l2w4 : w3.heap.size < w4.heap.size := by omega
    have l3w4 : w3.heap.size + 1 < w4.heap.size := by omega
    clear hcw4 hfw4
    have hB4 : Below w.heap.size w w4 := ((hB3.alloc (by omega) _).alloc (by (try simp) <;> omega) _).trans (hb4.mono (by (try simp) <;> omega))
    clear hb4 hB3 x0w3 y0w3 x1w3 y1w3 x2w3 y2w3
    go_wp2_with fail
    refine (implSum _ _ _ _ _).mono ?_
    rintro e w5 ⟨rfl, hb5⟩
    obtain ⟨hcw5, hfw5⟩ := bcell hb5
    have hzw5 := hb5.size
    try simp at hzw5
    have x0w5 : w5.cell? ⟨w1.heap.size, 0, none⟩ = some (.int .i64 1) := by rw [hcw5 _ _ (by (try simp) <;> omega)]; first | assumption | (rw [World.cell?_alloc_past _ _ _ (by omega)]; assumption) | (rw [World.cell?_alloc_past _ _ _ (by (try simp) <;> omega), World.cell?_alloc_past _ _ _ (by omega)]; assumption) | (simp [go_sem]; done)
    have y0w5 : w5.cell? ⟨w1.heap.size, 1, none⟩ = some (.int .i64 n) := by rw [hcw5 _ _ (by (try simp) <;> omega)]; first | assumption | (rw [World.cell?_alloc_past _ _ _ (by omega)]; assumption) | (rw [World.cell?_alloc_past _ _ _ (by (try simp) <;> omega), World.cell?_alloc_past _ _ _ (by omega)]; assumption) | (simp [go_sem]; done)
    have x1w5 : w5.cell? ⟨w1.heap.size + 1, 0, none⟩ = some (.int .i64 1) := by rw [hcw5 _ _ (by (try simp) <;> omega)]; first | assumption | (rw [World.cell?_alloc_past _ _ _ (by omega)]; assumption) | (rw [World.cell?_alloc_past _ _ _ (by (try simp) <;> omega), World.cell?_alloc_past _ _ _ (by omega)]; assumption) | (simp [go_sem]; done)
    have y1w5 : w5.cell? ⟨w1.heap.size + 1, 1, none⟩ = some (.int .i64 m) := by rw [hcw5 _ _ (by (try simp) <;> omega)]; first | assumption | (rw [World.cell?_alloc_past _ _ _ (by omega)]; assumption) | (rw [World.cell?_alloc_past _ _ _ (by (try simp) <;> omega), World.cell?_alloc_past _ _ _ (by omega)]; assumption) | (simp [go_sem]; done)
    have x2w5 : w5.cell? ⟨w3.heap.size, 0, none⟩ = some (.int .i64 1) := by rw [hcw5 _ _ (by (try simp) <;> omega)]; first | assumption | (rw [World.cell?_alloc_past _ _ _ (by omega)]; assumption) | (rw [World.cell?_alloc_past _ _ _ (by (try simp) <;> omega), World.cell?_alloc_past _ _ _ (by omega)]; assumption) | (simp [go_sem]; done)
    have y2w5 : w5.cell? ⟨w3.heap.size, 1, none⟩ = some (.int .i64 (n + m)) := by rw [hcw5 _ _ (by (try simp) <;> omega)]; first | assumption | (rw [World.cell?_alloc_past _ _ _ (by omega)]; assumption) | (rw [World.cell?_alloc_past _ _ _ (by (try simp) <;> omega), World.cell?_alloc_past _ _ _ (by omega)]; assumption) | (simp [go_sem]; done)
    have x3w5 : w5.cell? ⟨w3.heap.size + 1, 0, none⟩ = some (.int .i64 1) := by rw [hcw5 _ _ (by (try simp) <;> omega)]; first | assumption | (rw [World.cell?_alloc_past _ _ _ (by omega)]; assumption) | (rw [World.cell?_alloc_past _ _ _ (by (try simp) <;> omega), World.cell?_alloc_past _ _ _ (by omega)]; assumption) | (simp [go_sem]; done)
    have y3w5 : w5.cell? ⟨w3.heap.size + 1, 1, none⟩ = some (.int .i64 c) := by rw [hcw5 _ _ (by (try simp) <;> omega)]; first | assumption | (rw [World.cell?_alloc_past _ _ _ (by omega)]; assumption) | (rw [World.cell?_alloc_past _ _ _ (by (try simp) <;> omega), World.cell?_alloc_past _ _ _ (by omega)]; assumption) | (simp [go_sem]; done)
    have x4w5 : w5.cell? ⟨w4.heap.size, 0, none⟩ = some (.int .i64 (sumK 1 (n + m) 1 c)) := by rw [hcw5 _ _ (by (try simp) <;> omega)]; first | assumption | (rw [World.cell?_alloc_past _ _ _ (by omega)]; assumption) | (rw [World.cell?_alloc_past _ _ _ (by (try simp) <;> omega), World.cell?_alloc_past _ _ _ (by omega)]; assumption) | (simp [go_sem]; done)
    have y4w5 : w5.cell? ⟨w4.heap.size, 1, none⟩ = some (.int .i64 (sumN 1 (n + m) 1 c)) := by rw [hcw5 _ _ (by (try simp) <;> omega)]; first | assumption | (rw [World.cell?_alloc_past _ _ _ (by omega)]; assumption) | (rw [World.cell?_alloc_past _ _ _ (by (try simp) <;> omega), World.cell?_alloc_past _ _ _ (by omega)]; assumption) | (simp [go_sem]; done)
    have l0w5 : w1.heap.size < w5.heap.size := by omega
    have l1w5 : w1.heap.size + 1 < w5.heap.size := by omega
    have l2w5 : w3.heap.size < w5.heap.size := by omega
    have l3w5 : w3.heap.size + 1 < w5.heap.size := by omega
    have l4w5 : w4.heap.size < w5.heap.size := by omega
    clear hcw5 hfw5
    have hB5 : Below w.heap.size w w5 := (hB4.alloc (by omega) _).trans (hb5.mono (by (try simp) <;> omega))
    clear hb5 hB4
    clear x0w4 y0w4 x1w4 y1w4 x2w4 y2w4 x3w4 y3w4
    go_wp2_with fail
    refine (implSum _ _ _ _ _).mono ?_
    rintro e w6 ⟨rfl, hb6⟩
    obtain ⟨hcw6, hfw6⟩ := bcell hb6
    have hzw6 := hb6.size
    try simp at hzw6
    have x0w6 : w6.cell? ⟨w1.heap.size, 0, none⟩ = some (.int .i64 1) := by rw [hcw6 _ _ (by (try simp) <;> omega)]; first | assumption | (rw [World.cell?_alloc_past _ _ _ (by omega)]; assumption) | (rw [World.cell?_alloc_past _ _ _ (by (try simp) <;> omega), World.cell?_alloc_past _ _ _ (by omega)]; assumption) | (simp [go_sem]; done)
    have y0w6 : w6.cell? ⟨w1.heap.size, 1, none⟩ = some (.int .i64 n) := by rw [hcw6 _ _ (by (try simp) <;> omega)]; first | assumption | (rw [World.cell?_alloc_past _ _ _ (by omega)]; assumption) | (rw [World.cell?_alloc_past _ _ _ (by (try simp) <;> omega), World.cell?_alloc_past _ _ _ (by omega)]; assumption) | (simp [go_sem]; done)
    have x1w6 : w6.cell? ⟨w1.heap.size + 1, 0, none⟩ = some (.int .i64 1) := by rw [hcw6 _ _ (by (try simp) <;> omega)]; first | assumption | (rw [World.cell?_alloc_past _ _ _ (by omega)]; assumption) | (rw [World.cell?_alloc_past _ _ _ (by (try simp) <;> omega), World.cell?_alloc_past _ _ _ (by omega)]; assumption) | (simp [go_sem]; done)
    have y1w6 : w6.cell? ⟨w1.heap.size + 1, 1, none⟩ = some (.int .i64 m) := by rw [hcw6 _ _ (by (try simp) <;> omega)]; first | assumption | (rw [World.cell?_alloc_past _ _ _ (by omega)]; assumption) | (rw [World.cell?_alloc_past _ _ _ (by (try simp) <;> omega), World.cell?_alloc_past _ _ _ (by omega)]; assumption) | (simp [go_sem]; done)
    have x2w6 : w6.cell? ⟨w3.heap.size, 0, none⟩ = some (.int .i64 1) := by rw [hcw6 _ _ (by (try simp) <;> omega)]; first | assumption | (rw [World.cell?_alloc_past _ _ _ (by omega)]; assumption) | (rw [World.cell?_alloc_past _ _ _ (by (try simp) <;> omega), World.cell?_alloc_past _ _ _ (by omega)]; assumption) | (simp [go_sem]; done)
    have y2w6 : w6.cell? ⟨w3.heap.size, 1, none⟩ = some (.int .i64 (n + m)) := by rw [hcw6 _ _ (by (try simp) <;> omega)]; first | assumption | (rw [World.cell?_alloc_past _ _ _ (by omega)]; assumption) | (rw [World.cell?_alloc_past _ _ _ (by (try simp) <;> omega), World.cell?_alloc_past _ _ _ (by omega)]; assumption) | (simp [go_sem]; done)
    have x3w6 : w6.cell? ⟨w3.heap.size + 1, 0, none⟩ = some (.int .i64 1) := by rw [hcw6 _ _ (by (try simp) <;> omega)]; first | assumption | (rw [World.cell?_alloc_past _ _ _ (by omega)]; assumption) | (rw [World.cell?_alloc_past _ _ _ (by (try simp) <;> omega), World.cell?_alloc_past _ _ _ (by omega)]; assumption) | (simp [go_sem]; done)
    have y3w6 : w6.cell? ⟨w3.heap.size + 1, 1, none⟩ = some (.int .i64 c) := by rw [hcw6 _ _ (by (try simp) <;> omega)]; first | assumption | (rw [World.cell?_alloc_past _ _ _ (by omega)]; assumption) | (rw [World.cell?_alloc_past _ _ _ (by (try simp) <;> omega), World.cell?_alloc_past _ _ _ (by omega)]; assumption) | (simp [go_sem]; done)
    have x4w6 : w6.cell? ⟨w4.heap.size, 0, none⟩ = some (.int .i64 (sumK 1 (n + m) 1 c)) := by rw [hcw6 _ _ (by (try simp) <;> omega)]; first | assumption | (rw [World.cell?_alloc_past _ _ _ (by omega)]; assumption) | (rw [World.cell?_alloc_past _ _ _ (by (try simp) <;> omega), World.cell?_alloc_past _ _ _ (by omega)]; assumption) | (simp [go_sem]; done)
    have y4w6 : w6.cell? ⟨w4.heap.size, 1, none⟩ = some (.int .i64 (sumN 1 (n + m) 1 c)) := by rw [hcw6 _ _ (by (try simp) <;> omega)]; first | assumption | (rw [World.cell?_alloc_past _ _ _ (by omega)]; assumption) | (rw [World.cell?_alloc_past _ _ _ (by (try simp) <;> omega), World.cell?_alloc_past _ _ _ (by omega)]; assumption) | (simp [go_sem]; done)
    have x5w6 : w6.cell? ⟨w5.heap.size, 0, none⟩ = some (.int .i64 (sumK 1 m 1 c)) := by rw [hcw6 _ _ (by (try simp) <;> omega)]; first | assumption | (rw [World.cell?_alloc_past _ _ _ (by omega)]; assumption) | (rw [World.cell?_alloc_past _ _ _ (by (try simp) <;> omega), World.cell?_alloc_past _ _ _ (by omega)]; assumption) | (simp [go_sem]; done)
    have y5w6 : w6.cell? ⟨w5.heap.size, 1, none⟩ = some (.int .i64 (sumN 1 m 1 c)) := by rw [hcw6 _ _ (by (try simp) <;> omega)]; first | assumption | (rw [World.cell?_alloc_past _ _ _ (by omega)]; assumption) | (rw [World.cell?_alloc_past _ _ _ (by (try simp) <;> omega), World.cell?_alloc_past _ _ _ (by omega)]; assumption) | (simp [go_sem]; done)
    have l0w6 : w1.heap.size < w6.heap.size := by omega
    have l1w6 : w1.heap.size + 1 < w6.heap.size := by omega
    have l2w6 : w3.heap.size < w6.heap.size := by omega
    have l3w6 : w3.heap.size + 1 < w6.heap.size := by omega
    have l4w6 : w4.heap.size < w6.heap.size := by omega
    have l5w6 : w5.heap.size < w6.heap.size := by omega
    clear hcw6 hfw6
    have hB6 : Below w.heap.size w w6 := (hB5.alloc (by omega) _).trans (hb6.mono (by (try simp) <;> omega))
    clear hb6 hB5
    clear x0w5 y0w5 x1w5 y1w5 x2w5 y2w5 x3w5 y3w5 x4w5 y4w5
    have q1 : addB 1 n 1 0 = true := addB_iff.2 (by omega)
    have q2 := sumK_yes q1
    have q3 : sumN 1 n 1 0 = n := by rw [sumN_yes q1]; omega
    go_wp2_with fail
    refine (implSum _ _ _ _ _).mono ?_
    rintro e w7 ⟨rfl, hb7⟩
    obtain ⟨hcw7, hfw7⟩ := bcell hb7
    have hzw7 := hb7.size
    try simp at hzw7
    have x0w7 : w7.cell? ⟨w1.heap.size, 0, none⟩ = some (.int .i64 1) := by rw [hcw7 _ _ (by (try simp) <;> omega)]; first | assumption | (rw [World.cell?_alloc_past _ _ _ (by omega)]; assumption) | (rw [World.cell?_alloc_past _ _ _ (by (try simp) <;> omega), World.cell?_alloc_past _ _ _ (by omega)]; assumption) | (simp [go_sem]; done)
    have y0w7 : w7.cell? ⟨w1.heap.size, 1, none⟩ = some (.int .i64 n) := by rw [hcw7 _ _ (by (try simp) <;> omega)]; first | assumption | (rw [World.cell?_alloc_past _ _ _ (by omega)]; assumption) | (rw [World.cell?_alloc_past _ _ _ (by (try simp) <;> omega), World.cell?_alloc_past _ _ _ (by omega)]; assumption) | (simp [go_sem]; done)
    have x1w7 : w7.cell? ⟨w1.heap.size + 1, 0, none⟩ = some (.int .i64 1) := by rw [hcw7 _ _ (by (try simp) <;> omega)]; first | assumption | (rw [World.cell?_alloc_past _ _ _ (by omega)]; assumption) | (rw [World.cell?_alloc_past _ _ _ (by (try simp) <;> omega), World.cell?_alloc_past _ _ _ (by omega)]; assumption) | (simp [go_sem]; done)
    have y1w7 : w7.cell? ⟨w1.heap.size + 1, 1, none⟩ = some (.int .i64 m) := by rw [hcw7 _ _ (by (try simp) <;> omega)]; first | assumption | (rw [World.cell?_alloc_past _ _ _ (by omega)]; assumption) | (rw [World.cell?_alloc_past _ _ _ (by (try simp) <;> omega), World.cell?_alloc_past _ _ _ (by omega)]; assumption) | (simp [go_sem]; done)
    have x2w7 : w7.cell? ⟨w3.heap.size, 0, none⟩ = some (.int .i64 1) := by rw [hcw7 _ _ (by (try simp) <;> omega)]; first | assumption | (rw [World.cell?_alloc_past _ _ _ (by omega)]; assumption) | (rw [World.cell?_alloc_past _ _ _ (by (try simp) <;> omega), World.cell?_alloc_past _ _ _ (by omega)]; assumption) | (simp [go_sem]; done)
    have y2w7 : w7.cell? ⟨w3.heap.size, 1, none⟩ = some (.int .i64 (n + m)) := by rw [hcw7 _ _ (by (try simp) <;> omega)]; first | assumption | (rw [World.cell?_alloc_past _ _ _ (by omega)]; assumption) | (rw [World.cell?_alloc_past _ _ _ (by (try simp) <;> omega), World.cell?_alloc_past _ _ _ (by omega)]; assumption) | (simp [go_sem]; done)
    have x3w7 : w7.cell? ⟨w3.heap.size + 1, 0, none⟩ = some (.int .i64 1) := by rw [hcw7 _ _ (by (try simp) <;> omega)]; first | assumption | (rw [World.cell?_alloc_past _ _ _ (by omega)]; assumption) | (rw [World.cell?_alloc_past _ _ _ (by (try simp) <;> omega), World.cell?_alloc_past _ _ _ (by omega)]; assumption) | (simp [go_sem]; done)
    have y3w7 : w7.cell? ⟨w3.heap.size + 1, 1, none⟩ = some (.int .i64 c) := by rw [hcw7 _ _ (by (try simp) <;> omega)]; first | assumption | (rw [World.cell?_alloc_past _ _ _ (by omega)]; assumption) | (rw [World.cell?_alloc_past _ _ _ (by (try simp) <;> omega), World.cell?_alloc_past _ _ _ (by omega)]; assumption) | (simp [go_sem]; done)
    have x4w7 : w7.cell? ⟨w4.heap.size, 0, none⟩ = some (.int .i64 (sumK 1 (n + m) 1 c)) := by rw [hcw7 _ _ (by (try simp) <;> omega)]; first | assumption | (rw [World.cell?_alloc_past _ _ _ (by omega)]; assumption) | (rw [World.cell?_alloc_past _ _ _ (by (try simp) <;> omega), World.cell?_alloc_past _ _ _ (by omega)]; assumption) | (simp [go_sem]; done)
    have y4w7 : w7.cell? ⟨w4.heap.size, 1, none⟩ = some (.int .i64 (sumN 1 (n + m) 1 c)) := by rw [hcw7 _ _ (by (try simp) <;> omega)]; first | assumption | (rw [World.cell?_alloc_past _ _ _ (by omega)]; assumption) | (rw [World.cell?_alloc_past _ _ _ (by (try simp) <;> omega), World.cell?_alloc_past _ _ _ (by omega)]; assumption) | (simp [go_sem]; done)
    have x5w7 : w7.cell? ⟨w5.heap.size, 0, none⟩ = some (.int .i64 (sumK 1 m 1 c)) := by rw [hcw7 _ _ (by (try simp) <;> omega)]; first | assumption | (rw [World.cell?_alloc_past _ _ _ (by omega)]; assumption) | (rw [World.cell?_alloc_past _ _ _ (by (try simp) <;> omega), World.cell?_alloc_past _ _ _ (by omega)]; assumption) | (simp [go_sem]; done)
    have y5w7 : w7.cell? ⟨w5.heap.size, 1, none⟩ = some (.int .i64 (sumN 1 m 1 c)) := by rw [hcw7 _ _ (by (try simp) <;> omega)]; first | assumption | (rw [World.cell?_alloc_past _ _ _ (by omega)]; assumption) | (rw [World.cell?_alloc_past _ _ _ (by (try simp) <;> omega), World.cell?_alloc_past _ _ _ (by omega)]; assumption) | (simp [go_sem]; done)
    have x6w7 : w7.cell? ⟨w6.heap.size, 0, none⟩ = some (.int .i64 (sumK 1 n (sumK 1 m 1 c) (sumN 1 m 1 c))) := by rw [hcw7 _ _ (by (try simp) <;> omega)]; first | assumption | (rw [World.cell?_alloc_past _ _ _ (by omega)]; assumption) | (rw [World.cell?_alloc_past _ _ _ (by (try simp) <;> omega), World.cell?_alloc_past _ _ _ (by omega)]; assumption) | (simp [go_sem]; done)
    have y6w7 : w7.cell? ⟨w6.heap.size, 1, none⟩ = some (.int .i64 (sumN 1 n (sumK 1 m 1 c) (sumN 1 m 1 c))) := by rw [hcw7 _ _ (by (try simp) <;> omega)]; first | assumption | (rw [World.cell?_alloc_past _ _ _ (by omega)]; assumption) | (rw [World.cell?_alloc_past _ _ _ (by (try simp) <;> omega), World.cell?_alloc_past _ _ _ (by omega)]; assumption) | (simp [go_sem]; done)
    have l0w7 : w1.heap.size < w7.heap.size := by omega
    have l1w7 : w1.heap.size + 1 < w7.heap.size := by omega
    have l2w7 : w3.heap.size < w7.heap.size := by omega
    have l3w7 : w3.heap.size + 1 < w7.heap.size := by omega
    have l4w7 : w4.heap.size < w7.heap.size := by omega
    have l5w7 : w5.heap.size < w7.heap.size := by omega
    have l6w7 : w6.heap.size < w7.heap.size := by omega
    clear hcw7 hfw7
    have hB7 : Below w.heap.size w w7 := (hB6.alloc (by omega) _).trans (hb7.mono (by (try simp) <;> omega))
    clear hb7 hB6
    clear x0w6 y0w6 x1w6 y1w6 x2w6 y2w6 x3w6 y3w6 x4w6 y4w6 x5w6 y5w6
    cases hx : addB 1 (n + m) 1 c with
    | false =>
      go_wp2_with fail
      go_ret
      exact ⟨rfl, hB7.alloc (by omega) _⟩
    | true =>
      cases hy : addB 1 m 1 c with
      | false =>
        go_wp2_with fail
        go_ret
        exact ⟨rfl, hB7.alloc (by omega) _⟩
      | true =>
        have y1 := sumK_yes hy
        have y2 := sumN_yes hy
        cases hz : addB 1 n 1 (m + c) with
        | false =>
          go_wp2_with fail
          go_ret
          exact ⟨rfl, hB7.alloc (by omega) _⟩
        | true =>
          have z1 := sumK_yes hz
          have z2 := sumN_yes hz
          have x1 := sumK_yes hx
          have x2 := sumN_yes hx
          have z3 : (n + m + c == n + (m + c)) = true := by simp; omega
          go_wp2_with fail
          go_ret
          exact ⟨rfl, hB7.alloc (by omega) _⟩
set_option maxHeartbeats 400000 in
theorem walk (a0 : Option Addr) (len0 cap0 : Nat) (a1 : Option Addr) (len1 cap1 : Nat) (w : World) (h0 : Code0 w a0 len0 cap0) :
    Calls Try.prog 4 #[.slice a0 len0 cap0, .slice a1 len1 cap1] w fun e w' => e = .returned (.bool true) ∧ Below w.heap.size w w' := by
  by_cases hl0 : len0 ≤ 1048576
  · by_cases hl1 : len1 ≤ 1048576
    · exact walk_in a0 len0 cap0 a1 len1 cap1 w h0 hl0 hl1
    · have g0 : ¬ (1048576 : Int) < (len0 : Int) := by omega
      have g1 : (1048576 : Int) < (len1 : Int) := by omega
      go_enter Try.func4, Try.ntmps4
      go_wp2_with fail
      go_ret
      exact ⟨rfl, Below.refl _ _⟩
  · have g0 : (1048576 : Int) < (len0 : Int) := by omega
    go_enter Try.func4, Try.ntmps4
    go_wp2_with fail
    go_ret
    exact ⟨rfl, Below.refl _ _⟩

set_option maxRecDepth 100000 in
theorem lifted (os : Os) (started : os.Started) (H : Type) (enc : TypeId × Value → H) :
    ReturnsInHanded {} Try.checked os 4 .any (Rows.fnValThreeSpec.pre6 enc Try.prog Try.f4 Rows.fnValThreeRow.domain false) (Rows.fnValThreeSpec.post enc Try.prog Try.f4 false true false false) := by
  refine returnsInHanded_of_change (C := Try.checked) own started (by kernel_rfl) Try.func4
    (ChangeSpec.witness6 (enc := enc) (C := Try.checked) false ⟨#[], #[.slice none 0 0, .slice none 0 0], []⟩ 8 (by kernel_rfl) (by kernel_rfl) (by kernel_rfl) (by kernel_rfl)) ?_
  intro W base args ds gs before hval0 hW hcnd _
  have hval : ∀ (j : Nat) t v, Try.f4.params[j]? = some t → args[j]? = some v → Value.okWide Try.prog W .any base t v := hval0
  have hW' := hW
  obtain ⟨p, q, hA0, hV, rfl, hfz, hnd⟩ := hW
  have hA : DataW.TrodAll enc Try.prog W 0 (fun _ => true) true Try.f4.params.toList args.toList ds p := hA0
  rw [Try.params4] at hA hval
  obtain ⟨v0, vs0, d0, ds0, p0, q0, hargs, rfl, rfl, h0, r0⟩ := trodAll_cons hA
  obtain ⟨v1, vs1, d1, ds1, p1, q1, rfl, rfl, rfl, h1, r1⟩ := trodAll_cons r0
  obtain ⟨rfl, rfl, rfl⟩ := trodAll_nil r1
  obtain rfl : args = #[v0, v1] := by cases args; simp_all
  obtain ⟨rfl, rfl⟩ := trodVars_none hV
  obtain ⟨a0, len0, cap0, rfl⟩ := okWide_slice Try.underlying22 (hval 0 22 v0 rfl rfl)
  have k0 := h0
  have lt0 : ∀ x ∈ p0, x.block < W.heap.size := by obtain ⟨m, hm⟩ := k0; exact DataW.trod_lt m _ _ _ hm
  have w0 : Code0 W a0 len0 cap0 := by
    obtain ⟨fuel, hf⟩ := h0
    rcases open_ints Try.underlying22 Try.underlying5 (by kernel_rfl) hf with ⟨hcs, _⟩ | ⟨x, l, c, zs, hcs, _, hl, hm, hz, _, hcell, hwz⟩
    · simp [Value.cells] at hcs
      obtain ⟨rfl, rfl, rfl⟩ := hcs
      exact code_of_row (zs := []) (.inl ⟨rfl, rfl, rfl, rfl⟩)
    · simp [Value.cells] at hcs
      obtain ⟨rfl, rfl, rfl⟩ := hcs
      exact code_of_row (zs := zs) (.inr ⟨_, rfl, hl, hm, by simpa using hz, hcell, hwz⟩)
  obtain ⟨a1, len1, cap1, rfl⟩ := okWide_slice Try.underlying22 (hval 1 22 v1 rfl rfl)
  have k1 := h1
  have lt1 : ∀ x ∈ p1, x.block < W.heap.size := by obtain ⟨m, hm⟩ := k1; exact DataW.trod_lt m _ _ _ hm
  have w1 : Code0 W a1 len1 cap1 := by
    obtain ⟨fuel, hf⟩ := h1
    rcases open_ints Try.underlying22 Try.underlying5 (by kernel_rfl) hf with ⟨hcs, _⟩ | ⟨x, l, c, zs, hcs, _, hl, hm, hz, _, hcell, hwz⟩
    · simp [Value.cells] at hcs
      obtain ⟨rfl, rfl, rfl⟩ := hcs
      exact code_of_row (zs := []) (.inl ⟨rfl, rfl, rfl, rfl⟩)
    · simp [Value.cells] at hcs
      obtain ⟨rfl, rfl, rfl⟩ := hcs
      exact code_of_row (zs := zs) (.inr ⟨_, rfl, hl, hm, by simpa using hz, hcell, hwz⟩)
  clear hA0 hval0
  refine (walk a0 len0 cap0 a1 len1 cap1 W w0).mono fun e W' ⟨he, bel⟩ => ?_
  subst he
  exact ⟨_, rfl, _, _, _, [], _, [], hW', trodAll_mk1 (shut_bool Try.underlying4 _), (trodAll_cons_mk (Below.trod laidOut (by kernel_rfl) (of_decide_eq_true (by kernel_rfl)) k0 bel lt0) (trodAll_cons_mk (Below.trod laidOut (by kernel_rfl) (of_decide_eq_true (by kernel_rfl)) k1 bel lt1) trodAll_mk0)), rfl, bel.frame _, fun h => by cases h⟩

theorem over : Rows.fnValThreeRow.holds Try.pinned (OpenSpec.ofChange Rows.fnValThreeSpec) :=
  OpenClaim.holds_of_wide 4 Try.f4 rfl rfl rfl rfl rfl rfl rfl ⟨rfl, rfl, rfl, rfl, rfl⟩ rfl rfl rfl rfl rfl (by kernel_rfl) Try.func4 (by kernel_rfl)
    (of_decide_eq_true (by kernel_rfl)) (by unfold Func.isWrapper; first | (rw [if_pos (by decide +kernel)]; kernel_rfl) | (rw [if_neg (by decide +kernel)]; exact ⟨rfl, rfl⟩))
    (fun os started H enc _ => lifted os started H enc)
end ValThree

/-- the given statement -/
theorem valThree_holds : Rows.FnValThreeSaid := ValThree.over
#print axioms valThree_holds
end Go.Proofs.Ytfgpmbeianbimaa
