/-
  A run's end over this translation: what impl's endOk answers.
-/
import Derived.Test.YtefaocjcfecipaaRunRow
import Derived.Test.YtefaocjcfecipaaRunNewA
namespace Go.Proofs.Ytefaocjcfecipaa
open Go.ChangeShapes Go.WideShapes Go.ChangeAt Go.RowKit Go.Joins
def endB (d : RunD) : Bool := if d.st = 3 then (d.mail.length == 0) && ((d.links.length == 0) && (d.wat.length == 0)) else (d.wk == 0) && (d.wn == 0)
set_option maxRecDepth 20000 in
set_option maxHeartbeats 4000000 in
theorem endOk_any (d : RunD) (q : RunP) (w : World) :
    Calls Try.prog 43 #[d.val q] w fun e w' => e = .returned (.bool (endB d)) ∧ Below w.heap.size w w' := by
  have hb0 : Below w.heap.size w (w.alloc (.cells (d.cells q) 30)) := (Below.refl _ _).alloc (Nat.le_refl _) _
  by_cases h3 : d.st = 3
  · have e3 : (d.st == 3) = true := by simp [h3]
    have hE : Hid (endB d = ((d.mail.length == 0) && ((d.links.length == 0) && (d.wat.length == 0)))) := by show endB d = _; unfold endB; rw [if_pos h3]
    clear h3
    cases hm : (d.mail.length == 0) with
    | false =>
      have hm' : ((d.mail.length : Int) == 0) = false := by simpa using hm
      have hf : Hid (endB d = false) := by show endB d = false; rw [hE.out, hm]; rfl
      go_enter Try.func43, Try.ntmps43
      go_wp2_with fail
      go_ret
      exact ⟨by rw [hf.out]; rfl, hb0⟩
    | true =>
      have hm' : ((d.mail.length : Int) == 0) = true := by simpa using hm
      cases hk : (d.links.length == 0) with
      | false =>
        have hk' : ((d.links.length : Int) == 0) = false := by simpa using hk
        have hf : Hid (endB d = false) := by show endB d = false; rw [hE.out, hm, hk]; rfl
        go_enter Try.func43, Try.ntmps43
        go_wp2_with fail
        go_ret
        exact ⟨by rw [hf.out]; rfl, hb0⟩
      | true =>
        have hk' : ((d.links.length : Int) == 0) = true := by simpa using hk
        cases hw : (d.wat.length == 0) with
        | false =>
          have hw' : ((d.wat.length : Int) == 0) = false := by simpa using hw
          have hf : Hid (endB d = false) := by show endB d = false; rw [hE.out, hm, hk, hw]; rfl
          go_enter Try.func43, Try.ntmps43
          go_wp2_with fail
          go_ret
          exact ⟨by rw [hf.out]; rfl, hb0⟩
        | true =>
          have hw' : ((d.wat.length : Int) == 0) = true := by simpa using hw
          have hf : Hid (endB d = true) := by show endB d = true; rw [hE.out, hm, hk, hw]; rfl
          go_enter Try.func43, Try.ntmps43
          go_wp2_with fail
          go_ret
          exact ⟨by rw [hf.out]; rfl, hb0⟩
  · have e3 : (d.st == 3) = false := by simp [h3]
    have hE : Hid (endB d = ((d.wk == 0) && (d.wn == 0))) := by show endB d = _; unfold endB; rw [if_neg h3]
    clear h3
    cases hm : (d.wk == 0) with
    | false =>
      have hf : Hid (endB d = false) := by show endB d = false; rw [hE.out, hm]; rfl
      go_enter Try.func43, Try.ntmps43
      go_wp2_with fail
      go_ret
      exact ⟨by rw [hf.out]; rfl, hb0⟩
    | true =>
      cases hk : (d.wn == 0) with
      | false =>
        have hf : Hid (endB d = false) := by show endB d = false; rw [hE.out, hm, hk]; rfl
        go_enter Try.func43, Try.ntmps43
        go_wp2_with fail
        go_ret
        exact ⟨by rw [hf.out]; rfl, hb0⟩
      | true =>
        have hf : Hid (endB d = true) := by show endB d = true; rw [hE.out, hm, hk]; rfl
        go_enter Try.func43, Try.ntmps43
        go_wp2_with fail
        go_ret
        exact ⟨by rw [hf.out]; rfl, hb0⟩
end Go.Proofs.Ytefaocjcfecipaa
