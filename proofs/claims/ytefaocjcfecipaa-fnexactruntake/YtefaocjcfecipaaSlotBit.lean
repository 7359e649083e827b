/-
  impl.slotBit over this translation.
-/
import Derived.Test.YtefaocjcfecipaaRunNewA
namespace Go.Proofs.Ytefaocjcfecipaa
open Go.ChangeShapes Go.WideShapes Go.ChangeAt Go.RowKit Go.Joins
/-- the bit of a slot, and of the one behind the last -/
def bit5 (r : Int) : Int := if r = 0 then 1 else if r = 1 then 2 else if r = 2 then 4 else if r = 3 then 8 else 16
theorem slotBit5_any (r : Int) (w : World) (h0 : 0 ≤ r) (h4 : r ≤ 4) : Calls Try.prog 67 #[.int .i64 r] w fun e w' => e = .returned (.int .i64 (bit5 r)) ∧ w' = w := by
  rcases (by omega : r = 0 ∨ r = 1 ∨ r = 2 ∨ r = 3 ∨ r = 4) with rfl | rfl | rfl | rfl | rfl <;>
  · go_enter Try.func67, Try.ntmps67
    go_wp2_with fail
    go_ret
    exact ⟨rfl, rfl⟩
end Go.Proofs.Ytefaocjcfecipaa
