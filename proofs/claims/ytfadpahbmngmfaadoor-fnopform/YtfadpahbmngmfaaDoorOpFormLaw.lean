/-
  For every code, FnOpForm answers true: impl.OpOk is the specification's at the drawn step, and one that is ok is not so with a slot, a place or a value beyond what there is; one that waits for a time waits 1 at least.
-/
import Derived.Test.YtfadpahbmngmfaaDoorOpDrawn
import Derived.Test.YtfadpahbmngmfaaDoorOpImplOk
import Derived.Test.YtfadpahbmngmfaaDoorOpSpec
import Derived.Test.YtfadpahbmngmfaaDoorOpFrame
namespace Go.Proofs.YtfadpahbmngmfaaDoor
open Go.ChangeShapes Go.WideShapes Go.ChangeAt Go.RowKit Go.Joins
namespace OpFormL
theorem bad_r (k s t a b : Int) : opB k 4 s t a b = false := by
  unfold opB; rw [show inB 4 0 3 = false from rfl, show ((4 : Int) == 0) = false from rfl]; simp
theorem bad_s (k r t a b : Int) : opB k r (-1) t a b = false := by
  unfold opB; rw [show inB (-1) 0 3 = false from rfl, show ((-1 : Int) == 0) = false from rfl]; simp
theorem bad_t (k r s a b : Int) : opB k r s 16 a b = false := by
  unfold opB; rw [show inB 16 0 15 = false from rfl, show ((16 : Int) == 0) = false from rfl]; simp
theorem bad_v (k r s t : Int) : opB k r s t 4 0 = false := by
  unfold opB; rw [show okB 4 0 = false from rfl]; simp
theorem bad_e : opB 8 0 0 0 1 0 = false := by decide
set_option maxHeartbeats 4000000 in
theorem walk (p : Option Addr) (len cap : Nat) (w : World) (h : Code0 w p len cap) :
    Calls Tryd.prog 4 #[.slice p len cap] w fun e w' => e = .returned (.bool true) ∧ Below w.heap.size w w' := by
  by_cases hl : len ≤ 1048576
  · have g0 : ¬ (1048576 : Int) < (len : Int) := by omega
    go_enter Tryd.func4, Tryd.ntmps4
    go_wp2_with fail
    refine (drawOpOk_any p len cap _ h).mono ?_
    rintro e w1 ⟨k, r, s, t, a, b, rfl, hb1⟩
    go_wp2_with fail
    refine (implOpOk_any k r s t a b _).mono ?_
    rintro e w2 ⟨rfl, hb2⟩
    obtain ⟨hc2, _⟩ := bcell hb2
    have hz1 := hb1.size
    have hz2 := hb2.size
    simp at hz2
    have yo_0 : w2.cell? ⟨w1.heap.size, 0, none⟩ = some (.int .i64 (k)) := by rw [hc2 _ _ (by (try simp) <;> omega)]; first | assumption | (simp [go_sem, xo_0, lo]; done) | (simp [go_sem]; done)
    have yo_1 : w2.cell? ⟨w1.heap.size, 1, none⟩ = some (.int .i64 (r)) := by rw [hc2 _ _ (by (try simp) <;> omega)]; first | assumption | (simp [go_sem, xo_1, lo]; done) | (simp [go_sem]; done)
    have yo_2 : w2.cell? ⟨w1.heap.size, 2, none⟩ = some (.int .i64 (s)) := by rw [hc2 _ _ (by (try simp) <;> omega)]; first | assumption | (simp [go_sem, xo_2, lo]; done) | (simp [go_sem]; done)
    have yo_3 : w2.cell? ⟨w1.heap.size, 3, none⟩ = some (.int .i64 (t)) := by rw [hc2 _ _ (by (try simp) <;> omega)]; first | assumption | (simp [go_sem, xo_3, lo]; done) | (simp [go_sem]; done)
    have yo_4 : w2.cell? ⟨w1.heap.size, 4, none⟩ = some (.int .i64 (a)) := by rw [hc2 _ _ (by (try simp) <;> omega)]; first | assumption | (simp [go_sem, xo_4, lo]; done) | (simp [go_sem]; done)
    have yo_5 : w2.cell? ⟨w1.heap.size, 5, none⟩ = some (.int .i64 (b)) := by rw [hc2 _ _ (by (try simp) <;> omega)]; first | assumption | (simp [go_sem, xo_5, lo]; done) | (simp [go_sem]; done)
    have mo : w1.heap.size < w2.heap.size := by omega
    have xo_0 := yo_0
    have xo_1 := yo_1
    have xo_2 := yo_2
    have xo_3 := yo_3
    have xo_4 := yo_4
    have xo_5 := yo_5
    have lo := mo
    clear mo yo_0 yo_1 yo_2 yo_3 yo_4 yo_5
    have hB2 : Below w.heap.size w w2 := (hb1.alloc (by omega) _).trans (hb2.mono (by (try simp) <;> omega))
    clear hc2 hb2
    go_wp2_with fail
    refine (specOpOk_any k r s t a b _).mono ?_
    rintro e w3 ⟨rfl, hb3⟩
    obtain ⟨hc3, _⟩ := bcell hb3
    have hz3 := hb3.size
    try simp at hz3
    have yo_0 : w3.cell? ⟨w1.heap.size, 0, none⟩ = some (.int .i64 (k)) := by rw [hc3 _ _ (by (try simp) <;> omega)]; first | assumption | (simp [go_sem, xo_0, lo]; done) | (simp [go_sem]; done)
    have yo_1 : w3.cell? ⟨w1.heap.size, 1, none⟩ = some (.int .i64 (r)) := by rw [hc3 _ _ (by (try simp) <;> omega)]; first | assumption | (simp [go_sem, xo_1, lo]; done) | (simp [go_sem]; done)
    have yo_2 : w3.cell? ⟨w1.heap.size, 2, none⟩ = some (.int .i64 (s)) := by rw [hc3 _ _ (by (try simp) <;> omega)]; first | assumption | (simp [go_sem, xo_2, lo]; done) | (simp [go_sem]; done)
    have yo_3 : w3.cell? ⟨w1.heap.size, 3, none⟩ = some (.int .i64 (t)) := by rw [hc3 _ _ (by (try simp) <;> omega)]; first | assumption | (simp [go_sem, xo_3, lo]; done) | (simp [go_sem]; done)
    have yo_4 : w3.cell? ⟨w1.heap.size, 4, none⟩ = some (.int .i64 (a)) := by rw [hc3 _ _ (by (try simp) <;> omega)]; first | assumption | (simp [go_sem, xo_4, lo]; done) | (simp [go_sem]; done)
    have yo_5 : w3.cell? ⟨w1.heap.size, 5, none⟩ = some (.int .i64 (b)) := by rw [hc3 _ _ (by (try simp) <;> omega)]; first | assumption | (simp [go_sem, xo_5, lo]; done) | (simp [go_sem]; done)
    have mo : w1.heap.size < w3.heap.size := by omega
    clear xo_0 xo_1 xo_2 xo_3 xo_4 xo_5 lo
    have xo_0 := yo_0
    have xo_1 := yo_1
    have xo_2 := yo_2
    have xo_3 := yo_3
    have xo_4 := yo_4
    have xo_5 := yo_5
    have lo := mo
    clear mo yo_0 yo_1 yo_2 yo_3 yo_4 yo_5
    have hB3 : Below w.heap.size w w3 := hB2.trans (hb3.mono (by (try simp) <;> omega))
    clear hc3 hb3
    cases hk : opB k r s t a b with
    | false =>
      go_wp2_with fail
      refine (specOpOk_any k r s t a b _).mono ?_
      rintro e w4 ⟨rfl, hb4⟩
      rw [hk]
      go_wp2_with fail
      go_ret
      exact ⟨rfl, hB3.trans (hb4.mono (by (try simp) <;> omega))⟩
    | true =>
      have lo1 : w1.heap.size < w3.heap.size + 1 := by omega
      have lo2 : w1.heap.size < w3.heap.size + 1 + 1 := by omega
      have lo3 : w1.heap.size < w3.heap.size + 1 + 1 + 1 := by omega
      go_wp2_with fail
      refine (implOpOk_any _ _ _ _ _ _ _).mono ?_
      rintro e w4 ⟨rfl, hb4⟩
      rw [bad_r]
      obtain ⟨hc4, _⟩ := bcell hb4
      have hz4 := hb4.size
      try simp at hz4
      have yB_0 : w4.cell? ⟨w3.heap.size + 1, 0, none⟩ = some (.int .i64 (k)) := by rw [hc4 _ _ (by (try simp) <;> omega)]; simp [go_sem]
      have yB_1 : w4.cell? ⟨w3.heap.size + 1, 1, none⟩ = some (.int .i64 (r)) := by rw [hc4 _ _ (by (try simp) <;> omega)]; simp [go_sem]
      have yB_2 : w4.cell? ⟨w3.heap.size + 1, 2, none⟩ = some (.int .i64 (-1)) := by rw [hc4 _ _ (by (try simp) <;> omega)]; simp [go_sem]
      have yB_3 : w4.cell? ⟨w3.heap.size + 1, 3, none⟩ = some (.int .i64 (t)) := by rw [hc4 _ _ (by (try simp) <;> omega)]; simp [go_sem]
      have yB_4 : w4.cell? ⟨w3.heap.size + 1, 4, none⟩ = some (.int .i64 (a)) := by rw [hc4 _ _ (by (try simp) <;> omega)]; simp [go_sem]
      have yB_5 : w4.cell? ⟨w3.heap.size + 1, 5, none⟩ = some (.int .i64 (b)) := by rw [hc4 _ _ (by (try simp) <;> omega)]; simp [go_sem]
      have yC_0 : w4.cell? ⟨w3.heap.size + 1 + 1, 0, none⟩ = some (.int .i64 (k)) := by rw [hc4 _ _ (by (try simp) <;> omega)]; simp [go_sem]
      have yC_1 : w4.cell? ⟨w3.heap.size + 1 + 1, 1, none⟩ = some (.int .i64 (r)) := by rw [hc4 _ _ (by (try simp) <;> omega)]; simp [go_sem]
      have yC_2 : w4.cell? ⟨w3.heap.size + 1 + 1, 2, none⟩ = some (.int .i64 (s)) := by rw [hc4 _ _ (by (try simp) <;> omega)]; simp [go_sem]
      have yC_3 : w4.cell? ⟨w3.heap.size + 1 + 1, 3, none⟩ = some (.int .i64 (16)) := by rw [hc4 _ _ (by (try simp) <;> omega)]; simp [go_sem]
      have yC_4 : w4.cell? ⟨w3.heap.size + 1 + 1, 4, none⟩ = some (.int .i64 (a)) := by rw [hc4 _ _ (by (try simp) <;> omega)]; simp [go_sem]
      have yC_5 : w4.cell? ⟨w3.heap.size + 1 + 1, 5, none⟩ = some (.int .i64 (b)) := by rw [hc4 _ _ (by (try simp) <;> omega)]; simp [go_sem]
      have yD_0 : w4.cell? ⟨w3.heap.size + 1 + 1 + 1, 0, none⟩ = some (.int .i64 (k)) := by rw [hc4 _ _ (by (try simp) <;> omega)]; simp [go_sem]
      have yD_1 : w4.cell? ⟨w3.heap.size + 1 + 1 + 1, 1, none⟩ = some (.int .i64 (r)) := by rw [hc4 _ _ (by (try simp) <;> omega)]; simp [go_sem]
      have yD_2 : w4.cell? ⟨w3.heap.size + 1 + 1 + 1, 2, none⟩ = some (.int .i64 (s)) := by rw [hc4 _ _ (by (try simp) <;> omega)]; simp [go_sem]
      have yD_3 : w4.cell? ⟨w3.heap.size + 1 + 1 + 1, 3, none⟩ = some (.int .i64 (t)) := by rw [hc4 _ _ (by (try simp) <;> omega)]; simp [go_sem]
      have yD_4 : w4.cell? ⟨w3.heap.size + 1 + 1 + 1, 4, none⟩ = some (.int .i64 (4)) := by rw [hc4 _ _ (by (try simp) <;> omega)]; simp [go_sem]
      have yD_5 : w4.cell? ⟨w3.heap.size + 1 + 1 + 1, 5, none⟩ = some (.int .i64 (0)) := by rw [hc4 _ _ (by (try simp) <;> omega)]; simp [go_sem]
      have yE_0 : w4.cell? ⟨w3.heap.size + 1 + 1 + 1 + 1, 0, none⟩ = some (.int .i64 (8)) := by rw [hc4 _ _ (by (try simp) <;> omega)]; simp [go_sem]
      have yE_1 : w4.cell? ⟨w3.heap.size + 1 + 1 + 1 + 1, 1, none⟩ = some (.int .i64 (0)) := by rw [hc4 _ _ (by (try simp) <;> omega)]; simp [go_sem]
      have yE_2 : w4.cell? ⟨w3.heap.size + 1 + 1 + 1 + 1, 2, none⟩ = some (.int .i64 (0)) := by rw [hc4 _ _ (by (try simp) <;> omega)]; simp [go_sem]
      have yE_3 : w4.cell? ⟨w3.heap.size + 1 + 1 + 1 + 1, 3, none⟩ = some (.int .i64 (0)) := by rw [hc4 _ _ (by (try simp) <;> omega)]; simp [go_sem]
      have yE_4 : w4.cell? ⟨w3.heap.size + 1 + 1 + 1 + 1, 4, none⟩ = some (.int .i64 (1)) := by rw [hc4 _ _ (by (try simp) <;> omega)]; simp [go_sem]
      have yE_5 : w4.cell? ⟨w3.heap.size + 1 + 1 + 1 + 1, 5, none⟩ = some (.int .i64 (0)) := by rw [hc4 _ _ (by (try simp) <;> omega)]; simp [go_sem]
      have xB_0 := yB_0
      have xB_1 := yB_1
      have xB_2 := yB_2
      have xB_3 := yB_3
      have xB_4 := yB_4
      have xB_5 := yB_5
      clear yB_0 yB_1 yB_2 yB_3 yB_4 yB_5
      have xC_0 := yC_0
      have xC_1 := yC_1
      have xC_2 := yC_2
      have xC_3 := yC_3
      have xC_4 := yC_4
      have xC_5 := yC_5
      clear yC_0 yC_1 yC_2 yC_3 yC_4 yC_5
      have xD_0 := yD_0
      have xD_1 := yD_1
      have xD_2 := yD_2
      have xD_3 := yD_3
      have xD_4 := yD_4
      have xD_5 := yD_5
      clear yD_0 yD_1 yD_2 yD_3 yD_4 yD_5
      have xE_0 := yE_0
      have xE_1 := yE_1
      have xE_2 := yE_2
      have xE_3 := yE_3
      have xE_4 := yE_4
      have xE_5 := yE_5
      clear yE_0 yE_1 yE_2 yE_3 yE_4 yE_5
      have hB4 : Below w.heap.size w w4 := (((((hB3.alloc (by (try simp) <;> omega) _).alloc (by (try simp) <;> omega) _).alloc (by (try simp) <;> omega) _).alloc (by (try simp) <;> omega) _).alloc (by (try simp) <;> omega) _).trans (hb4.mono (by (try simp) <;> omega))
      clear hc4 hb4
      go_wp2_with fail
      refine (implOpOk_any _ _ _ _ _ _ _).mono ?_
      rintro e w5 ⟨rfl, hb5⟩
      rw [bad_s]
      obtain ⟨hc5, _⟩ := bcell hb5
      have hz5 := hb5.size
      try simp at hz5
      have yC_0 : w5.cell? ⟨w3.heap.size + 1 + 1, 0, none⟩ = some (.int .i64 (k)) := by rw [hc5 _ _ (by (try simp) <;> omega)]; exact xC_0
      have yC_1 : w5.cell? ⟨w3.heap.size + 1 + 1, 1, none⟩ = some (.int .i64 (r)) := by rw [hc5 _ _ (by (try simp) <;> omega)]; exact xC_1
      have yC_2 : w5.cell? ⟨w3.heap.size + 1 + 1, 2, none⟩ = some (.int .i64 (s)) := by rw [hc5 _ _ (by (try simp) <;> omega)]; exact xC_2
      have yC_3 : w5.cell? ⟨w3.heap.size + 1 + 1, 3, none⟩ = some (.int .i64 (16)) := by rw [hc5 _ _ (by (try simp) <;> omega)]; exact xC_3
      have yC_4 : w5.cell? ⟨w3.heap.size + 1 + 1, 4, none⟩ = some (.int .i64 (a)) := by rw [hc5 _ _ (by (try simp) <;> omega)]; exact xC_4
      have yC_5 : w5.cell? ⟨w3.heap.size + 1 + 1, 5, none⟩ = some (.int .i64 (b)) := by rw [hc5 _ _ (by (try simp) <;> omega)]; exact xC_5
      have yD_0 : w5.cell? ⟨w3.heap.size + 1 + 1 + 1, 0, none⟩ = some (.int .i64 (k)) := by rw [hc5 _ _ (by (try simp) <;> omega)]; exact xD_0
      have yD_1 : w5.cell? ⟨w3.heap.size + 1 + 1 + 1, 1, none⟩ = some (.int .i64 (r)) := by rw [hc5 _ _ (by (try simp) <;> omega)]; exact xD_1
      have yD_2 : w5.cell? ⟨w3.heap.size + 1 + 1 + 1, 2, none⟩ = some (.int .i64 (s)) := by rw [hc5 _ _ (by (try simp) <;> omega)]; exact xD_2
      have yD_3 : w5.cell? ⟨w3.heap.size + 1 + 1 + 1, 3, none⟩ = some (.int .i64 (t)) := by rw [hc5 _ _ (by (try simp) <;> omega)]; exact xD_3
      have yD_4 : w5.cell? ⟨w3.heap.size + 1 + 1 + 1, 4, none⟩ = some (.int .i64 (4)) := by rw [hc5 _ _ (by (try simp) <;> omega)]; exact xD_4
      have yD_5 : w5.cell? ⟨w3.heap.size + 1 + 1 + 1, 5, none⟩ = some (.int .i64 (0)) := by rw [hc5 _ _ (by (try simp) <;> omega)]; exact xD_5
      have yE_0 : w5.cell? ⟨w3.heap.size + 1 + 1 + 1 + 1, 0, none⟩ = some (.int .i64 (8)) := by rw [hc5 _ _ (by (try simp) <;> omega)]; exact xE_0
      have yE_1 : w5.cell? ⟨w3.heap.size + 1 + 1 + 1 + 1, 1, none⟩ = some (.int .i64 (0)) := by rw [hc5 _ _ (by (try simp) <;> omega)]; exact xE_1
      have yE_2 : w5.cell? ⟨w3.heap.size + 1 + 1 + 1 + 1, 2, none⟩ = some (.int .i64 (0)) := by rw [hc5 _ _ (by (try simp) <;> omega)]; exact xE_2
      have yE_3 : w5.cell? ⟨w3.heap.size + 1 + 1 + 1 + 1, 3, none⟩ = some (.int .i64 (0)) := by rw [hc5 _ _ (by (try simp) <;> omega)]; exact xE_3
      have yE_4 : w5.cell? ⟨w3.heap.size + 1 + 1 + 1 + 1, 4, none⟩ = some (.int .i64 (1)) := by rw [hc5 _ _ (by (try simp) <;> omega)]; exact xE_4
      have yE_5 : w5.cell? ⟨w3.heap.size + 1 + 1 + 1 + 1, 5, none⟩ = some (.int .i64 (0)) := by rw [hc5 _ _ (by (try simp) <;> omega)]; exact xE_5
      clear xC_0 xC_1 xC_2 xC_3 xC_4 xC_5
      have xC_0 := yC_0
      have xC_1 := yC_1
      have xC_2 := yC_2
      have xC_3 := yC_3
      have xC_4 := yC_4
      have xC_5 := yC_5
      clear yC_0 yC_1 yC_2 yC_3 yC_4 yC_5
      clear xD_0 xD_1 xD_2 xD_3 xD_4 xD_5
      have xD_0 := yD_0
      have xD_1 := yD_1
      have xD_2 := yD_2
      have xD_3 := yD_3
      have xD_4 := yD_4
      have xD_5 := yD_5
      clear yD_0 yD_1 yD_2 yD_3 yD_4 yD_5
      clear xE_0 xE_1 xE_2 xE_3 xE_4 xE_5
      have xE_0 := yE_0
      have xE_1 := yE_1
      have xE_2 := yE_2
      have xE_3 := yE_3
      have xE_4 := yE_4
      have xE_5 := yE_5
      clear yE_0 yE_1 yE_2 yE_3 yE_4 yE_5
      clear xB_0 xB_1 xB_2 xB_3 xB_4 xB_5
      have hB5 : Below w.heap.size w w5 := hB4.trans (hb5.mono (by (try simp) <;> omega))
      clear hc5 hb5
      go_wp2_with fail
      refine (implOpOk_any _ _ _ _ _ _ _).mono ?_
      rintro e w6 ⟨rfl, hb6⟩
      rw [bad_t]
      obtain ⟨hc6, _⟩ := bcell hb6
      have hz6 := hb6.size
      try simp at hz6
      have yD_0 : w6.cell? ⟨w3.heap.size + 1 + 1 + 1, 0, none⟩ = some (.int .i64 (k)) := by rw [hc6 _ _ (by (try simp) <;> omega)]; exact xD_0
      have yD_1 : w6.cell? ⟨w3.heap.size + 1 + 1 + 1, 1, none⟩ = some (.int .i64 (r)) := by rw [hc6 _ _ (by (try simp) <;> omega)]; exact xD_1
      have yD_2 : w6.cell? ⟨w3.heap.size + 1 + 1 + 1, 2, none⟩ = some (.int .i64 (s)) := by rw [hc6 _ _ (by (try simp) <;> omega)]; exact xD_2
      have yD_3 : w6.cell? ⟨w3.heap.size + 1 + 1 + 1, 3, none⟩ = some (.int .i64 (t)) := by rw [hc6 _ _ (by (try simp) <;> omega)]; exact xD_3
      have yD_4 : w6.cell? ⟨w3.heap.size + 1 + 1 + 1, 4, none⟩ = some (.int .i64 (4)) := by rw [hc6 _ _ (by (try simp) <;> omega)]; exact xD_4
      have yD_5 : w6.cell? ⟨w3.heap.size + 1 + 1 + 1, 5, none⟩ = some (.int .i64 (0)) := by rw [hc6 _ _ (by (try simp) <;> omega)]; exact xD_5
      have yE_0 : w6.cell? ⟨w3.heap.size + 1 + 1 + 1 + 1, 0, none⟩ = some (.int .i64 (8)) := by rw [hc6 _ _ (by (try simp) <;> omega)]; exact xE_0
      have yE_1 : w6.cell? ⟨w3.heap.size + 1 + 1 + 1 + 1, 1, none⟩ = some (.int .i64 (0)) := by rw [hc6 _ _ (by (try simp) <;> omega)]; exact xE_1
      have yE_2 : w6.cell? ⟨w3.heap.size + 1 + 1 + 1 + 1, 2, none⟩ = some (.int .i64 (0)) := by rw [hc6 _ _ (by (try simp) <;> omega)]; exact xE_2
      have yE_3 : w6.cell? ⟨w3.heap.size + 1 + 1 + 1 + 1, 3, none⟩ = some (.int .i64 (0)) := by rw [hc6 _ _ (by (try simp) <;> omega)]; exact xE_3
      have yE_4 : w6.cell? ⟨w3.heap.size + 1 + 1 + 1 + 1, 4, none⟩ = some (.int .i64 (1)) := by rw [hc6 _ _ (by (try simp) <;> omega)]; exact xE_4
      have yE_5 : w6.cell? ⟨w3.heap.size + 1 + 1 + 1 + 1, 5, none⟩ = some (.int .i64 (0)) := by rw [hc6 _ _ (by (try simp) <;> omega)]; exact xE_5
      clear xD_0 xD_1 xD_2 xD_3 xD_4 xD_5
      have xD_0 := yD_0
      have xD_1 := yD_1
      have xD_2 := yD_2
      have xD_3 := yD_3
      have xD_4 := yD_4
      have xD_5 := yD_5
      clear yD_0 yD_1 yD_2 yD_3 yD_4 yD_5
      clear xE_0 xE_1 xE_2 xE_3 xE_4 xE_5
      have xE_0 := yE_0
      have xE_1 := yE_1
      have xE_2 := yE_2
      have xE_3 := yE_3
      have xE_4 := yE_4
      have xE_5 := yE_5
      clear yE_0 yE_1 yE_2 yE_3 yE_4 yE_5
      clear xC_0 xC_1 xC_2 xC_3 xC_4 xC_5
      have hB6 : Below w.heap.size w w6 := hB5.trans (hb6.mono (by (try simp) <;> omega))
      clear hc6 hb6
      go_wp2_with fail
      refine (implOpOk_any _ _ _ _ _ _ _).mono ?_
      rintro e w7 ⟨rfl, hb7⟩
      rw [bad_v]
      obtain ⟨hc7, _⟩ := bcell hb7
      have hz7 := hb7.size
      try simp at hz7
      have yE_0 : w7.cell? ⟨w3.heap.size + 1 + 1 + 1 + 1, 0, none⟩ = some (.int .i64 (8)) := by rw [hc7 _ _ (by (try simp) <;> omega)]; exact xE_0
      have yE_1 : w7.cell? ⟨w3.heap.size + 1 + 1 + 1 + 1, 1, none⟩ = some (.int .i64 (0)) := by rw [hc7 _ _ (by (try simp) <;> omega)]; exact xE_1
      have yE_2 : w7.cell? ⟨w3.heap.size + 1 + 1 + 1 + 1, 2, none⟩ = some (.int .i64 (0)) := by rw [hc7 _ _ (by (try simp) <;> omega)]; exact xE_2
      have yE_3 : w7.cell? ⟨w3.heap.size + 1 + 1 + 1 + 1, 3, none⟩ = some (.int .i64 (0)) := by rw [hc7 _ _ (by (try simp) <;> omega)]; exact xE_3
      have yE_4 : w7.cell? ⟨w3.heap.size + 1 + 1 + 1 + 1, 4, none⟩ = some (.int .i64 (1)) := by rw [hc7 _ _ (by (try simp) <;> omega)]; exact xE_4
      have yE_5 : w7.cell? ⟨w3.heap.size + 1 + 1 + 1 + 1, 5, none⟩ = some (.int .i64 (0)) := by rw [hc7 _ _ (by (try simp) <;> omega)]; exact xE_5
      clear xE_0 xE_1 xE_2 xE_3 xE_4 xE_5
      have xE_0 := yE_0
      have xE_1 := yE_1
      have xE_2 := yE_2
      have xE_3 := yE_3
      have xE_4 := yE_4
      have xE_5 := yE_5
      clear yE_0 yE_1 yE_2 yE_3 yE_4 yE_5
      clear xD_0 xD_1 xD_2 xD_3 xD_4 xD_5
      have hB7 : Below w.heap.size w w7 := hB6.trans (hb7.mono (by (try simp) <;> omega))
      clear hc7 hb7
      go_wp2_with fail
      refine (implOpOk_any _ _ _ _ _ _ _).mono ?_
      rintro e w8 ⟨rfl, hb8⟩
      rw [bad_e]
      obtain ⟨hc8, _⟩ := bcell hb8
      have hz8 := hb8.size
      try simp at hz8
      have hB8 : Below w.heap.size w w8 := hB7.trans (hb8.mono (by (try simp) <;> omega))
      clear hc8 hb8
      go_wp2_with fail
      go_ret
      exact ⟨rfl, hB8⟩
  · have g0 : (1048576 : Int) < (len : Int) := by omega
    go_enter Tryd.func4, Tryd.ntmps4
    go_wp2_with fail
    go_ret
    exact ⟨rfl, Below.refl _ _⟩

set_option maxRecDepth 20000 in
theorem contract (H : Type) (enc : TypeId × Value → H) (W : World) (base : Nat) (args : Array Value) (ds gs : List (DataW H)) (before : List MemPlace)
    (hval : ∀ (j : Nat) t v, Tryd.f4.params[j]? = some t → args[j]? = some v → Value.okWide Tryd.prog W .any base t v)
    (hW : DataW.Whole enc Tryd.prog Tryd.f4.params.toList Rows.fnOpFormSpec.vars false W args.toList ds gs before) (_hL : laidMetH Tryd.prog Rows.fnOpFormRow.laid W) :
    Calls Tryd.prog 4 args W fun e W' => ∃ v, e = .returned v ∧ Rows.fnOpFormSpec.post enc Tryd.prog Tryd.f4 false true false false W args v W' := by
  have hW' := hW
  obtain ⟨p, q, hA0, hV, rfl, hfz, hnd⟩ := hW
  have hA : DataW.TrodAll enc Tryd.prog W 0 (fun _ => true) true Tryd.f4.params.toList args.toList ds p := hA0
  rw [Tryd.params4] at hA hval
  obtain ⟨v0, vs0, d0, ds0, p0, q0, hargs, rfl, rfl, h0, r0⟩ := trodAll_cons hA
  obtain ⟨rfl, rfl, rfl⟩ := trodAll_nil r0
  obtain rfl : args = #[v0] := by cases args; simp_all
  obtain ⟨rfl, rfl⟩ := trodVars_none hV
  obtain ⟨a0, len0, cap0, rfl⟩ := okWide_slice Tryd.underlying22 (hval 0 22 v0 rfl rfl)
  have k0 := h0
  have lt0 : ∀ x ∈ p0, x.block < W.heap.size := by obtain ⟨m, hm⟩ := k0; exact DataW.trod_lt m _ _ _ hm
  have w0 : Code0 W a0 len0 cap0 := by
    obtain ⟨fuel, hf⟩ := h0
    rcases open_ints Tryd.underlying22 Tryd.underlying5 (by kernel_rfl) hf with ⟨hcs, _⟩ | ⟨x, l, c, zs, hcs, _, hl, hm, hz, _, hcell, hwz⟩
    · simp [Value.cells] at hcs
      obtain ⟨rfl, rfl, rfl⟩ := hcs
      exact code_of_row (zs := []) (.inl ⟨rfl, rfl, rfl, rfl⟩)
    · simp [Value.cells] at hcs
      obtain ⟨rfl, rfl, rfl⟩ := hcs
      exact code_of_row (zs := zs) (.inr ⟨_, rfl, hl, hm, by simpa using hz, hcell, hwz⟩)
  clear hA0
  refine (walk a0 len0 cap0 W w0).mono fun e W' ⟨he, bel⟩ => ?_
  subst he
  exact ⟨_, rfl, _, _, _, [], _, [], hW', trodAll_mk1 (shut_bool Tryd.underlying4 _), (trodAll_cons_mk (Below.trod laidOut (by kernel_rfl) (of_decide_eq_true (by kernel_rfl)) k0 bel lt0) trodAll_mk0), rfl, bel.frame _, fun h => by cases h⟩
theorem laid_met (os : Os) : laidMet Tryd.prog Rows.fnOpFormRow.laid ((putAll (World.settled Tryd.prog os).heap.size (World.holding Tryd.prog os ⟨errBlocks, #[], []⟩)).forCall (fun _ _ => 0) ⟨#[], #[.slice none 0 0], []⟩).memory :=
  laidMet_of_run' 10 (by kernel_rfl) (by kernel_rfl)
theorem reads (os : Os) {H : Type} (enc : TypeId × Value → H) : ∃ places, DataW.whole enc Tryd.prog ((putAll (World.settled Tryd.prog os).heap.size (World.holding Tryd.prog os ⟨errBlocks, #[], []⟩)).forCall (fun _ _ => 0) ⟨#[], #[.slice none 0 0], []⟩).memory Tryd.f4.params.toList Rows.fnOpFormSpec.vars false #[.slice none 0 0].toList 8 = some ([.nil], [], places) :=
  ⟨[], by kernel_rfl⟩
set_option maxRecDepth 100000 in
theorem lifted (os : Os) (started : os.Started) (H : Type) (enc : TypeId × Value → H) (F : Stop.Interp) :
    ReturnsInHanded {} Tryd.checked os 4 .any ((OpenSpec.ofChange Rows.fnOpFormSpec).preRow enc Tryd.prog Tryd.f4 Rows.fnOpFormRow.domain false Rows.fnOpFormRow.laid) (((OpenSpec.ofChange Rows.fnOpFormSpec).at F).post enc Tryd.prog Tryd.f4 false true false false) := by
  obtain ⟨places, hx⟩ := reads os enc
  refine returnsInHanded_of_row (C := Tryd.checked) (s := OpenSpec.ofChange Rows.fnOpFormSpec) own started (by kernel_rfl) Tryd.func4
    (witness_row_atRef (enc := enc) (C := Tryd.checked) false (putAll (World.settled Tryd.prog os).heap.size (World.holding Tryd.prog os ⟨errBlocks, #[], []⟩)) #[.slice none 0 0] rfl (by kernel_rfl) (by kernel_rfl) (by kernel_rfl)
      (OpenSpec.preRow_of_cond 8 hx (by kernel_rfl) (fun k hk => by cases hk) (by kernel_rfl) (laid_met os))) ?_
  intro W base args ds gs before hval hW _ _ _ hL _ _
  exact contract H enc W base args ds gs before hval hW hL
theorem said : Rows.FnOpFormSaid :=
  OpenClaim.holds_of_cond 4 Tryd.f4 rfl rfl rfl rfl rfl rfl rfl ⟨rfl, rfl, rfl, rfl, rfl⟩ rfl rfl rfl rfl rfl (by kernel_rfl) Tryd.func4 (by kernel_rfl)
    (of_decide_eq_true (by kernel_rfl)) (by unfold Func.isWrapper; first | (rw [if_pos (by decide +kernel)]; kernel_rfl) | (rw [if_neg (by decide +kernel)]; exact ⟨rfl, rfl⟩))
    (fun os started H enc _ F => by rw [OpenClaim.pre_eq_preRow]; exact lifted os started H enc F)
theorem plain (f : FuncId) (fn : Func) (hf : Tryd.pinned.checked.prog.funcNamed Rows.fnOpFormRow.func = some f) (hfn : Tryd.pinned.checked.prog.funcs[f]? = some fn) :
    true = Tryd.pinned.checked.prog.looks [] ∧ ∀ (j : Nat) t, fn.params[j]? = some t → Tryd.pinned.checked.prog.wantsStandIn t = false := by
  obtain rfl : f = 4 := Option.some.inj ((show Tryd.prog.funcNamed Rows.fnOpFormRow.func = some 4 by kernel_rfl).symm.trans hf) |>.symm
  obtain rfl : fn = Tryd.f4 := (Option.some.inj (Tryd.func4.symm.trans hfn)).symm
  refine ⟨by kernel_rfl, fun j t ht => ?_⟩
  rw [Tryd.params4] at ht
  obtain rfl : t = 22 := by simpa using Array.mem_of_getElem? ht
  exact (show Tryd.prog.wantsStandIn 22 = false by kernel_rfl)
theorem card : Rows.FnOpFormCardSaid :=
  Claim7.holds_tied_plain_at .later [] _ _ _ _ said (fun _ h => by cases h) (by kernel_rfl) (fun _ h => by cases h) fnOpForm_row_tie rfl ⟨rfl, rfl⟩ (by kernel_rfl) rfl plain (by kernel_rfl)
end OpFormL

/-- the given statement -/
theorem opFormL_holds : Rows.FnOpFormCardSaid := OpFormL.card
#print axioms opFormL_holds
end Go.Proofs.YtfadpahbmngmfaaDoor
