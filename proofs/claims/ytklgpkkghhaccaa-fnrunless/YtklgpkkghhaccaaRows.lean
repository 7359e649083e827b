/-
  No cell of these rows narrows 'for every input' (looked for: loops, veiled, ifaces, maps, wideKeys, modest, calm, conditions, laid).
  DERIVED. THE GIVEN ROWS OF THIS SEAT. 6 by the template 'for every input the law returns true; each argument reads behind the call as it read before'; 0 by the template 'total and deterministic' (their statements: YtklgpkkghhaccaaTotals.lean).
  GIVEN WITH THE SEED: the statements are not yours to turn. If you find one false, say at which input.
  Laid BY PROGRAM, IN A SANDBOX (cutbox-rows.mjs): the forced cells as the released guide's own fill.sh prints them over the translation a792dde480761377… (all of the seat's roots in one cut). By AI agents, Wed Nov 11 2026. No macro, syntax, notation, axiom, sorry.
-/
import Derived.Test.YtklgpkkghhaccaaChecked
import GoSem.Claim
import GoSem.ClaimJoined
import GoSem.ClaimMapViews
import Derived.JoinedTies
import Derived.KernelRfl
namespace Go.Proofs.Ytklgpkkghhaccaa
/- THE CELL 'sum', in the pinned program and in every row, IS THE sha256 OF THE DUMP (.gsa) THAT YtklgpkkghhaccaaProg.lean LOADS. Nothing in Lean hashes anything: it is a label: what it is worth is what the hold of that sum in a sandbox is worth. -/
noncomputable def Try.pinned : Pinned := { name := "ytklgpkkghhaccaa", sum := "a792dde4807613774d4738be3cb231ec2b54d34b9974e36f88a466a7d91bc2b9", checked := Try.checked }
namespace Rows
def none {H : Type} : Left H := { results := [], args := [] }

/-- 'laws.FnRunFirst': WHATEVER THE INPUT: true; the input reads as it did. -/
def fnRunFirstSpec : ChangeSpec := { name := "fnRunFirst", fn := fun _ => fun
  | [d] => { results := [.lit (.bool true)], args := [d] }
  | _ => none }
def fnRunFirstRow : OpenClaim := { program := "ytklgpkkghhaccaa", sum := "a792dde4807613774d4738be3cb231ec2b54d34b9974e36f88a466a7d91bc2b9", func := "loop.example/errandry/laws.FnRunFirst", spec := "fnRunFirst", unfollowed := true, recurses := true, apart := false }
def FnRunFirstSaid : Prop := fnRunFirstRow.holds Try.pinned (OpenSpec.ofChange fnRunFirstSpec)

/-- ITS FALSE NEIGHBOUR: 'it returns false'. Refute it at one input. -/
def fnRunFirstWrong : ChangeSpec := { name := "fnRunFirst", fn := fun _ => fun
  | [d] => { results := [.lit (.bool false)], args := [d] }
  | _ => none }
def FnRunFirstWrongFalsely : Prop := fnRunFirstRow.holds Try.pinned (OpenSpec.ofChange fnRunFirstWrong)

/-- 'laws.FnRunPut': WHATEVER THE INPUT: true; the input reads as it did. -/
def fnRunPutSpec : ChangeSpec := { name := "fnRunPut", fn := fun _ => fun
  | [d1, d2] => { results := [.lit (.bool true)], args := [d1, d2] }
  | _ => none }
def fnRunPutRow : OpenClaim := { program := "ytklgpkkghhaccaa", sum := "a792dde4807613774d4738be3cb231ec2b54d34b9974e36f88a466a7d91bc2b9", func := "loop.example/errandry/laws.FnRunPut", spec := "fnRunPut", unfollowed := true, recurses := true, apart := false }
def FnRunPutSaid : Prop := fnRunPutRow.holds Try.pinned (OpenSpec.ofChange fnRunPutSpec)

/-- ITS FALSE NEIGHBOUR: 'it returns false'. Refute it at one input. -/
def fnRunPutWrong : ChangeSpec := { name := "fnRunPut", fn := fun _ => fun
  | [d1, d2] => { results := [.lit (.bool false)], args := [d1, d2] }
  | _ => none }
def FnRunPutWrongFalsely : Prop := fnRunPutRow.holds Try.pinned (OpenSpec.ofChange fnRunPutWrong)

/-- 'laws.FnRunLess': WHATEVER THE INPUT: true; the input reads as it did. -/
def fnRunLessSpec : ChangeSpec := { name := "fnRunLess", fn := fun _ => fun
  | [d1, d2] => { results := [.lit (.bool true)], args := [d1, d2] }
  | _ => none }
def fnRunLessRow : OpenClaim := { program := "ytklgpkkghhaccaa", sum := "a792dde4807613774d4738be3cb231ec2b54d34b9974e36f88a466a7d91bc2b9", func := "loop.example/errandry/laws.FnRunLess", spec := "fnRunLess", unfollowed := true, recurses := true, apart := false }
def FnRunLessSaid : Prop := fnRunLessRow.holds Try.pinned (OpenSpec.ofChange fnRunLessSpec)

/-- ITS FALSE NEIGHBOUR: 'it returns false'. Refute it at one input. -/
def fnRunLessWrong : ChangeSpec := { name := "fnRunLess", fn := fun _ => fun
  | [d1, d2] => { results := [.lit (.bool false)], args := [d1, d2] }
  | _ => none }
def FnRunLessWrongFalsely : Prop := fnRunLessRow.holds Try.pinned (OpenSpec.ofChange fnRunLessWrong)

/-- 'laws.FnRunEnded': WHATEVER THE INPUT: true; the input reads as it did. -/
def fnRunEndedSpec : ChangeSpec := { name := "fnRunEnded", fn := fun _ => fun
  | [d] => { results := [.lit (.bool true)], args := [d] }
  | _ => none }
def fnRunEndedRow : OpenClaim := { program := "ytklgpkkghhaccaa", sum := "a792dde4807613774d4738be3cb231ec2b54d34b9974e36f88a466a7d91bc2b9", func := "loop.example/errandry/laws.FnRunEnded", spec := "fnRunEnded", unfollowed := true, recurses := true, apart := false }
def FnRunEndedSaid : Prop := fnRunEndedRow.holds Try.pinned (OpenSpec.ofChange fnRunEndedSpec)

/-- ITS FALSE NEIGHBOUR: 'it returns false'. Refute it at one input. -/
def fnRunEndedWrong : ChangeSpec := { name := "fnRunEnded", fn := fun _ => fun
  | [d] => { results := [.lit (.bool false)], args := [d] }
  | _ => none }
def FnRunEndedWrongFalsely : Prop := fnRunEndedRow.holds Try.pinned (OpenSpec.ofChange fnRunEndedWrong)

/-- 'laws.FnPutTwo': WHATEVER THE INPUT: true; the input reads as it did. -/
def fnPutTwoSpec : ChangeSpec := { name := "fnPutTwo", fn := fun _ => fun
  | [d1, d2] => { results := [.lit (.bool true)], args := [d1, d2] }
  | _ => none }
def fnPutTwoRow : OpenClaim := { program := "ytklgpkkghhaccaa", sum := "a792dde4807613774d4738be3cb231ec2b54d34b9974e36f88a466a7d91bc2b9", func := "loop.example/errandry/laws.FnPutTwo", spec := "fnPutTwo", unfollowed := true, recurses := true, apart := false }
def FnPutTwoSaid : Prop := fnPutTwoRow.holds Try.pinned (OpenSpec.ofChange fnPutTwoSpec)

/-- ITS FALSE NEIGHBOUR: 'it returns false'. Refute it at one input. -/
def fnPutTwoWrong : ChangeSpec := { name := "fnPutTwo", fn := fun _ => fun
  | [d1, d2] => { results := [.lit (.bool false)], args := [d1, d2] }
  | _ => none }
def FnPutTwoWrongFalsely : Prop := fnPutTwoRow.holds Try.pinned (OpenSpec.ofChange fnPutTwoWrong)

/-- 'laws.FnRunKeeps': WHATEVER THE INPUT: true; the input reads as it did. -/
def fnRunKeepsSpec : ChangeSpec := { name := "fnRunKeeps", fn := fun _ => fun
  | [d] => { results := [.lit (.bool true)], args := [d] }
  | _ => none }
def fnRunKeepsRow : OpenClaim := { program := "ytklgpkkghhaccaa", sum := "a792dde4807613774d4738be3cb231ec2b54d34b9974e36f88a466a7d91bc2b9", func := "loop.example/errandry/laws.FnRunKeeps", spec := "fnRunKeeps", unfollowed := true, recurses := true, apart := false }
def FnRunKeepsSaid : Prop := fnRunKeepsRow.holds Try.pinned (OpenSpec.ofChange fnRunKeepsSpec)

/-- ITS FALSE NEIGHBOUR: 'it returns false'. Refute it at one input. -/
def fnRunKeepsWrong : ChangeSpec := { name := "fnRunKeeps", fn := fun _ => fun
  | [d] => { results := [.lit (.bool false)], args := [d] }
  | _ => none }
def FnRunKeepsWrongFalsely : Prop := fnRunKeepsRow.holds Try.pinned (OpenSpec.ofChange fnRunKeepsWrong)

/- THE SECOND FORM. 'bulk': how many values and letters a reading holds, each counted each time it is reached (what is shared counts as often as it is met; a slice's spare places count too). A statement '..UptoSaid' is the law's where the arguments, and the package variables that the reading takes, are together of bulk at most 1048576: NARROWER than '..Said'. Prove '..Said' where nothing that the law and all that it calls make is longer than what came in: it says more and counts as full. Else prove '..UptoSaid'. A law counts once. -/
mutual
def uptoBulk {H : Type} : DataW H → Nat
  | .lit (.string bytes) => bytes.length + 1
  | .lit _ => 1
  | .nil => 1
  | .ptr d => uptoBulk d + 1
  | .slice elems spare => uptoBulkAll elems + uptoBulkAll spare + 1
  | .agg parts => uptoBulkAll parts + 1
  | .iface _ d => uptoBulk d + 1
  | .map entries => uptoBulkEntries entries + 1
  | .held _ => 1
def uptoBulkAll {H : Type} : List (DataW H) → Nat
  | [] => 0
  | d :: r => uptoBulk d + uptoBulkAll r
def uptoBulkEntries {H : Type} : List (Lit × DataW H) → Nat
  | [] => 0
  | x :: r => uptoBulkEntry x + uptoBulkEntries r
def uptoBulkEntry {H : Type} : Lit × DataW H → Nat
  | (.string bytes, d) => bytes.length + uptoBulk d + 1
  | (_, d) => uptoBulk d + 1
 end
def uptoSmall : (H : Type) → List (DataW H) → Bool := fun _ ds => decide (uptoBulkAll ds ≤ 1048576)
def OpenSpec.upto (s : _root_.Go.ChangeSpec) : _root_.Go.OpenSpec := { _root_.Go.OpenSpec.ofChange s with cond := some uptoSmall }

/-- 'laws.FnRunFirst', WHERE WHAT IT READS IS OF BULK AT MOST 1048576: true; the input reads as it did. -/
def fnRunFirstUptoRow : OpenClaim := { program := "ytklgpkkghhaccaa", sum := "a792dde4807613774d4738be3cb231ec2b54d34b9974e36f88a466a7d91bc2b9", func := "loop.example/errandry/laws.FnRunFirst", spec := "fnRunFirst", unfollowed := true, recurses := true, apart := false, narrowed := true }
def FnRunFirstUptoSaid : Prop := fnRunFirstUptoRow.holds Try.pinned (OpenSpec.upto fnRunFirstSpec)

/-- 'laws.FnRunPut', WHERE WHAT IT READS IS OF BULK AT MOST 1048576: true; the input reads as it did. -/
def fnRunPutUptoRow : OpenClaim := { program := "ytklgpkkghhaccaa", sum := "a792dde4807613774d4738be3cb231ec2b54d34b9974e36f88a466a7d91bc2b9", func := "loop.example/errandry/laws.FnRunPut", spec := "fnRunPut", unfollowed := true, recurses := true, apart := false, narrowed := true }
def FnRunPutUptoSaid : Prop := fnRunPutUptoRow.holds Try.pinned (OpenSpec.upto fnRunPutSpec)

/-- 'laws.FnRunLess', WHERE WHAT IT READS IS OF BULK AT MOST 1048576: true; the input reads as it did. -/
def fnRunLessUptoRow : OpenClaim := { program := "ytklgpkkghhaccaa", sum := "a792dde4807613774d4738be3cb231ec2b54d34b9974e36f88a466a7d91bc2b9", func := "loop.example/errandry/laws.FnRunLess", spec := "fnRunLess", unfollowed := true, recurses := true, apart := false, narrowed := true }
def FnRunLessUptoSaid : Prop := fnRunLessUptoRow.holds Try.pinned (OpenSpec.upto fnRunLessSpec)

/-- 'laws.FnRunEnded', WHERE WHAT IT READS IS OF BULK AT MOST 1048576: true; the input reads as it did. -/
def fnRunEndedUptoRow : OpenClaim := { program := "ytklgpkkghhaccaa", sum := "a792dde4807613774d4738be3cb231ec2b54d34b9974e36f88a466a7d91bc2b9", func := "loop.example/errandry/laws.FnRunEnded", spec := "fnRunEnded", unfollowed := true, recurses := true, apart := false, narrowed := true }
def FnRunEndedUptoSaid : Prop := fnRunEndedUptoRow.holds Try.pinned (OpenSpec.upto fnRunEndedSpec)

/-- 'laws.FnPutTwo', WHERE WHAT IT READS IS OF BULK AT MOST 1048576: true; the input reads as it did. -/
def fnPutTwoUptoRow : OpenClaim := { program := "ytklgpkkghhaccaa", sum := "a792dde4807613774d4738be3cb231ec2b54d34b9974e36f88a466a7d91bc2b9", func := "loop.example/errandry/laws.FnPutTwo", spec := "fnPutTwo", unfollowed := true, recurses := true, apart := false, narrowed := true }
def FnPutTwoUptoSaid : Prop := fnPutTwoUptoRow.holds Try.pinned (OpenSpec.upto fnPutTwoSpec)

/-- 'laws.FnRunKeeps', WHERE WHAT IT READS IS OF BULK AT MOST 1048576: true; the input reads as it did. -/
def fnRunKeepsUptoRow : OpenClaim := { program := "ytklgpkkghhaccaa", sum := "a792dde4807613774d4738be3cb231ec2b54d34b9974e36f88a466a7d91bc2b9", func := "loop.example/errandry/laws.FnRunKeeps", spec := "fnRunKeeps", unfollowed := true, recurses := true, apart := false, narrowed := true }
def FnRunKeepsUptoSaid : Prop := fnRunKeepsUptoRow.holds Try.pinned (OpenSpec.upto fnRunKeepsSpec)

end Rows
end Go.Proofs.Ytklgpkkghhaccaa
