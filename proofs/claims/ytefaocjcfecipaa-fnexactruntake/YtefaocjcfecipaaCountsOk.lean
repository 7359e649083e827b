/-
  A run's counts over this translation: what impl's countsOk answers.
-/
import Derived.Test.YtefaocjcfecipaaRunRow
import Derived.Test.YtefaocjcfecipaaRunNewA
namespace Go.Proofs.Ytefaocjcfecipaa
open Go.ChangeShapes Go.WideShapes Go.ChangeAt Go.RowKit Go.Joins
def countsB (d : RunD) : Bool := decide (1 ≤ d.st) && (decide (d.st ≤ 3) && (decide (-1 ≤ d.due) && (decide (d.due ≤ 400) && (decide (0 ≤ d.tu) && decide (d.tu ≤ 9999)))))
set_option maxRecDepth 20000 in
set_option maxHeartbeats 4000000 in
theorem countsOk_any (d : RunD) (q : RunP) (w : World) :
    Calls Try.prog 41 #[d.val q] w fun e w' => e = .returned (.bool (countsB d)) ∧ Below w.heap.size w w' := by
  have hb0 : Below w.heap.size w (w.alloc (.cells (d.cells q) 30)) := (Below.refl _ _).alloc (Nat.le_refl _) _
  have c5 : (w.alloc (.cells (d.cells q) 30)).cell? ⟨w.heap.size, 5, none⟩ = some (.int .i64 d.st) := (runAt_new w d q 30).c5
  have c6 : (w.alloc (.cells (d.cells q) 30)).cell? ⟨w.heap.size, 6, none⟩ = some (.int .i64 d.due) := (runAt_new w d q 30).c6
  have c12 : (w.alloc (.cells (d.cells q) 30)).cell? ⟨w.heap.size, 12, none⟩ = some (.int .i64 d.tu) := (runAt_new w d q 30).c12
  by_cases h0 : 1 ≤ d.st
  case neg =>
    have e0 : decide ((1 : Int) ≤ d.st) = false := by simp; omega
    have hf : Hid (countsB d = false) := by show countsB d = false; simp only [countsB, e0]; rfl
    go_enter Try.func41, Try.ntmps41
    go_wp2_with fail
    go_ret
    exact ⟨by rw [hf.out]; rfl, hb0⟩
  have e0 : decide ((1 : Int) ≤ d.st) = true := decide_eq_true h0
  by_cases h1 : d.st ≤ 3
  case neg =>
    have e1 : decide (d.st ≤ 3) = false := by simp; omega
    have hf : Hid (countsB d = false) := by show countsB d = false; simp only [countsB, e0, e1]; rfl
    go_enter Try.func41, Try.ntmps41
    go_wp2_with fail
    go_ret
    exact ⟨by rw [hf.out]; rfl, hb0⟩
  have e1 : decide (d.st ≤ 3) = true := decide_eq_true h1
  by_cases h2 : -1 ≤ d.due
  case neg =>
    have e2 : decide ((-1 : Int) ≤ d.due) = false := by simp; omega
    have hf : Hid (countsB d = false) := by show countsB d = false; simp only [countsB, e0, e1, e2]; rfl
    go_enter Try.func41, Try.ntmps41
    go_wp2_with fail
    go_ret
    exact ⟨by rw [hf.out]; rfl, hb0⟩
  have e2 : decide ((-1 : Int) ≤ d.due) = true := decide_eq_true h2
  by_cases h3 : d.due ≤ 400
  case neg =>
    have e3 : decide (d.due ≤ 400) = false := by simp; omega
    have hf : Hid (countsB d = false) := by show countsB d = false; simp only [countsB, e0, e1, e2, e3]; rfl
    go_enter Try.func41, Try.ntmps41
    go_wp2_with fail
    go_ret
    exact ⟨by rw [hf.out]; rfl, hb0⟩
  have e3 : decide (d.due ≤ 400) = true := decide_eq_true h3
  by_cases h4 : 0 ≤ d.tu
  case neg =>
    have e4 : decide ((0 : Int) ≤ d.tu) = false := by simp; omega
    have hf : Hid (countsB d = false) := by show countsB d = false; simp only [countsB, e0, e1, e2, e3, e4]; rfl
    go_enter Try.func41, Try.ntmps41
    go_wp2_with fail
    go_ret
    exact ⟨by rw [hf.out]; rfl, hb0⟩
  have e4 : decide ((0 : Int) ≤ d.tu) = true := decide_eq_true h4
  by_cases h5 : d.tu ≤ 9999
  case neg =>
    have e5 : decide (d.tu ≤ 9999) = false := by simp; omega
    have hf : Hid (countsB d = false) := by show countsB d = false; simp only [countsB, e0, e1, e2, e3, e4, e5]; rfl
    go_enter Try.func41, Try.ntmps41
    go_wp2_with fail
    go_ret
    exact ⟨by rw [hf.out]; rfl, hb0⟩
  have e5 : decide (d.tu ≤ 9999) = true := decide_eq_true h5
  have hf : Hid (countsB d = true) := by show countsB d = true; simp only [countsB, e0, e1, e2, e3, e4, e5]; rfl
  go_enter Try.func41, Try.ntmps41
  go_wp2_with fail
  go_ret
  exact ⟨by rw [hf.out]; rfl, hb0⟩
end Go.Proofs.Ytefaocjcfecipaa
