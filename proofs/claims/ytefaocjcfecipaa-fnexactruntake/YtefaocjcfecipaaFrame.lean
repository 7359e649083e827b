/-
  What the proofs over this translation share: closed facts of the program, and how a value handed to an exact law is opened and shut.
-/
import Derived.Test.YtefaocjcfecipaaWalks
namespace Go.Proofs.Ytefaocjcfecipaa
open Go.ChangeShapes Go.WideShapes Go.ChangeAt Go.RowKit Go.Joins
theorem own : ownKnob Try.prog.godebug = none := by kernel_rfl
theorem laidOut : laidOutB Try.prog = true := by kernel_rfl
theorem cellsVal : Try.prog.cellsOf 37 = 2 := by kernel_rfl
theorem aggVal {H : Type} (enc : TypeId × Value → H) (k n : Int) (wk : (Lit.int .i64 k).wf = true) (wn : (Lit.int .i64 n).wf = true) (W : World) (base : Nat) (sp : Nat → Bool) :
    DataW.Trod enc Try.prog W base sp true 37 (.agg #[.int .i64 k, .int .i64 n]) (.agg [.lit (.int .i64 k), .lit (.int .i64 n)]) [] :=
  shut_agg2 (y0 := (.lit (.int .i64 k), [])) (y1 := (.lit (.int .i64 n), [])) Try.underlying37 (by kernel_rfl) cellsVal ⟨1, by simp [DataW.trod, Try.underlying3, wk]⟩ ⟨1, by simp [DataW.trod, Try.underlying3, wn]⟩
end Go.Proofs.Ytefaocjcfecipaa
