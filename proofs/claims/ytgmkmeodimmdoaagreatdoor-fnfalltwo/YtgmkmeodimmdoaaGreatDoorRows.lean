/-
  NARROWER THAN 'FOR EVERY INPUT', by the rows' own cells (each row's printed sentence says how): FnIdle: laid · FnFallAll: laid · FnFallTold: laid · FnFallTwice: laid · FnFallNormal: laid · FnFallWith: laid · FnFallOthers: laid · FnFallTrap: laid · FnFallSum: laid · FnFallTwo: laid · FnTellNormal: laid.
  DERIVED. THE GIVEN ROWS OF THIS SEAT. 11 by the template 'for every input the law returns true; each argument reads behind the call as it read before'; 0 by the template 'total and deterministic' (their statements: YtgmkmeodimmdoaaGreatDoorTotals.lean).
  GIVEN WITH THE SEED: the statements are not yours to turn. If you find one false, say at which input.
  Laid BY PROGRAM, IN A SANDBOX (cutbox-rows.mjs): the forced cells as the released guide's own fill.sh prints them over the translation 0b4057e6a17b91cc… (all of the seat's roots in one cut). By AI agents, Wed Nov 11 2026. No macro, syntax, notation, axiom, sorry.
-/
import Derived.Test.YtgmkmeodimmdoaaGreatDoorChecked
import GoSem.Claim
import GoSem.ClaimJoined
import GoSem.ClaimMapViews
import Derived.JoinedTies
import Derived.KernelRfl
namespace Go.Proofs.YtgmkmeodimmdoaaGreatDoor
/- THE CELL 'sum', in the pinned program and in every row, IS THE sha256 OF THE DUMP (.gsa) THAT YtgmkmeodimmdoaaGreatDoorProg.lean LOADS. Nothing in Lean hashes anything: it is a label: what it is worth is what the hold of that sum in a sandbox is worth. -/
noncomputable def Tryz.pinned : Pinned := { name := "ytgmkmeodimmdoaagreatdoor", sum := "0b4057e6a17b91cc2f6e09db089ec31af0f0fe46df9c4f1ee1578c73c93e4b0f", checked := Tryz.checked }
namespace Rows
def none {H : Type} : Left H := { results := [], args := [] }

/- WHAT THE LISTED PACKAGE-LEVEL VARIABLES READ AS WHEN THE CALL BEGINS. Each datum BY PROGRAM (the guide's laid-datum.mjs) off the statement by which the dump's own 'gosem.cut.vars' lays the variable. In a bare row this is a premise. The card (YtgmkmeodimmdoaaGreatDoorCards.lean) ties it to the program's text. -/
def laid_math_bits_deBruijn32tab {H : Type} : DataW H := .agg [.lit (.int .u8 0), .lit (.int .u8 1), .lit (.int .u8 28), .lit (.int .u8 2), .lit (.int .u8 29), .lit (.int .u8 14), .lit (.int .u8 24), .lit (.int .u8 3), .lit (.int .u8 30), .lit (.int .u8 22), .lit (.int .u8 20), .lit (.int .u8 15), .lit (.int .u8 25), .lit (.int .u8 17), .lit (.int .u8 4), .lit (.int .u8 8), .lit (.int .u8 31), .lit (.int .u8 27), .lit (.int .u8 13), .lit (.int .u8 23), .lit (.int .u8 21), .lit (.int .u8 19), .lit (.int .u8 16), .lit (.int .u8 7), .lit (.int .u8 26), .lit (.int .u8 12), .lit (.int .u8 18), .lit (.int .u8 6), .lit (.int .u8 11), .lit (.int .u8 5), .lit (.int .u8 10), .lit (.int .u8 9)]
def laid_math_bits_deBruijn64tab {H : Type} : DataW H := .agg [.lit (.int .u8 0), .lit (.int .u8 1), .lit (.int .u8 56), .lit (.int .u8 2), .lit (.int .u8 57), .lit (.int .u8 49), .lit (.int .u8 28), .lit (.int .u8 3), .lit (.int .u8 61), .lit (.int .u8 58), .lit (.int .u8 42), .lit (.int .u8 50), .lit (.int .u8 38), .lit (.int .u8 29), .lit (.int .u8 17), .lit (.int .u8 4), .lit (.int .u8 62), .lit (.int .u8 47), .lit (.int .u8 59), .lit (.int .u8 36), .lit (.int .u8 45), .lit (.int .u8 43), .lit (.int .u8 51), .lit (.int .u8 22), .lit (.int .u8 53), .lit (.int .u8 39), .lit (.int .u8 33), .lit (.int .u8 30), .lit (.int .u8 24), .lit (.int .u8 18), .lit (.int .u8 12), .lit (.int .u8 5), .lit (.int .u8 63), .lit (.int .u8 55), .lit (.int .u8 48), .lit (.int .u8 27), .lit (.int .u8 60), .lit (.int .u8 41), .lit (.int .u8 37), .lit (.int .u8 16), .lit (.int .u8 46), .lit (.int .u8 35), .lit (.int .u8 44), .lit (.int .u8 21), .lit (.int .u8 52), .lit (.int .u8 32), .lit (.int .u8 23), .lit (.int .u8 11), .lit (.int .u8 54), .lit (.int .u8 26), .lit (.int .u8 40), .lit (.int .u8 15), .lit (.int .u8 34), .lit (.int .u8 20), .lit (.int .u8 31), .lit (.int .u8 10), .lit (.int .u8 25), .lit (.int .u8 14), .lit (.int .u8 19), .lit (.int .u8 9), .lit (.int .u8 13), .lit (.int .u8 8), .lit (.int .u8 7), .lit (.int .u8 6)]
def laid_internal_strconv_uint64pow10 {H : Type} : DataW H := .agg [.lit (.int .u64 1), .lit (.int .u64 10), .lit (.int .u64 100), .lit (.int .u64 1000), .lit (.int .u64 10000), .lit (.int .u64 100000), .lit (.int .u64 1000000), .lit (.int .u64 10000000), .lit (.int .u64 100000000), .lit (.int .u64 1000000000), .lit (.int .u64 10000000000), .lit (.int .u64 100000000000), .lit (.int .u64 1000000000000), .lit (.int .u64 10000000000000), .lit (.int .u64 100000000000000), .lit (.int .u64 1000000000000000), .lit (.int .u64 10000000000000000), .lit (.int .u64 100000000000000000), .lit (.int .u64 1000000000000000000), .lit (.int .u64 10000000000000000000)]
def laid_strconv_ErrRange {H : Type} : DataW H := .iface "*errors.errorString" (.ptr (.agg [.lit (.string [118, 97, 108, 117, 101, 32, 111, 117, 116, 32, 111, 102, 32, 114, 97, 110, 103, 101])]))
def laid_strconv_ErrSyntax {H : Type} : DataW H := .iface "*errors.errorString" (.ptr (.agg [.lit (.string [105, 110, 118, 97, 108, 105, 100, 32, 115, 121, 110, 116, 97, 120])]))

/-- 'laws.FnIdle': WHATEVER THE INPUT: true; the input reads as it did. -/
def fnIdleSpec : ChangeSpec := { name := "fnIdle", fn := fun _ => fun
  | [d] => { results := [.lit (.bool true)], args := [d] }
  | _ => none }
def fnIdleRow : OpenClaim := { program := "ytgmkmeodimmdoaagreatdoor", sum := "0b4057e6a17b91cc2f6e09db089ec31af0f0fe46df9c4f1ee1578c73c93e4b0f", func := "loop.example/errandry/laws.FnIdle", spec := "fnIdle", unfollowed := true, recurses := true, named := ["internal/strconv.uint64pow10", "math/bits.deBruijn32tab", "math/bits.deBruijn64tab", "strconv.ErrSyntax", "strconv.ErrRange"], apart := false, laid := [("math/bits.deBruijn32tab", laid_math_bits_deBruijn32tab), ("math/bits.deBruijn64tab", laid_math_bits_deBruijn64tab), ("internal/strconv.uint64pow10", laid_internal_strconv_uint64pow10), ("strconv.ErrRange", laid_strconv_ErrRange), ("strconv.ErrSyntax", laid_strconv_ErrSyntax)] }
def FnIdleSaid : Prop := fnIdleRow.holds Tryz.pinned (OpenSpec.ofChange fnIdleSpec)

/-- ITS FALSE NEIGHBOUR: 'it returns false'. Refute it at one input. -/
def fnIdleWrong : ChangeSpec := { name := "fnIdle", fn := fun _ => fun
  | [d] => { results := [.lit (.bool false)], args := [d] }
  | _ => none }
def FnIdleWrongFalsely : Prop := fnIdleRow.holds Tryz.pinned (OpenSpec.ofChange fnIdleWrong)

/-- 'laws.FnFallAll': WHATEVER THE INPUT: true; the input reads as it did. -/
def fnFallAllSpec : ChangeSpec := { name := "fnFallAll", fn := fun _ => fun
  | [d] => { results := [.lit (.bool true)], args := [d] }
  | _ => none }
def fnFallAllRow : OpenClaim := { program := "ytgmkmeodimmdoaagreatdoor", sum := "0b4057e6a17b91cc2f6e09db089ec31af0f0fe46df9c4f1ee1578c73c93e4b0f", func := "loop.example/errandry/laws.FnFallAll", spec := "fnFallAll", unfollowed := true, recurses := true, named := ["internal/strconv.uint64pow10", "math/bits.deBruijn32tab", "math/bits.deBruijn64tab", "strconv.ErrSyntax", "strconv.ErrRange"], apart := false, laid := [("math/bits.deBruijn32tab", laid_math_bits_deBruijn32tab), ("math/bits.deBruijn64tab", laid_math_bits_deBruijn64tab), ("internal/strconv.uint64pow10", laid_internal_strconv_uint64pow10), ("strconv.ErrRange", laid_strconv_ErrRange), ("strconv.ErrSyntax", laid_strconv_ErrSyntax)] }
def FnFallAllSaid : Prop := fnFallAllRow.holds Tryz.pinned (OpenSpec.ofChange fnFallAllSpec)

/-- ITS FALSE NEIGHBOUR: 'it returns false'. Refute it at one input. -/
def fnFallAllWrong : ChangeSpec := { name := "fnFallAll", fn := fun _ => fun
  | [d] => { results := [.lit (.bool false)], args := [d] }
  | _ => none }
def FnFallAllWrongFalsely : Prop := fnFallAllRow.holds Tryz.pinned (OpenSpec.ofChange fnFallAllWrong)

/-- 'laws.FnFallTold': WHATEVER THE INPUT: true; the input reads as it did. -/
def fnFallToldSpec : ChangeSpec := { name := "fnFallTold", fn := fun _ => fun
  | [d] => { results := [.lit (.bool true)], args := [d] }
  | _ => none }
def fnFallToldRow : OpenClaim := { program := "ytgmkmeodimmdoaagreatdoor", sum := "0b4057e6a17b91cc2f6e09db089ec31af0f0fe46df9c4f1ee1578c73c93e4b0f", func := "loop.example/errandry/laws.FnFallTold", spec := "fnFallTold", unfollowed := true, recurses := true, named := ["internal/strconv.uint64pow10", "math/bits.deBruijn32tab", "math/bits.deBruijn64tab", "strconv.ErrSyntax", "strconv.ErrRange"], apart := false, laid := [("math/bits.deBruijn32tab", laid_math_bits_deBruijn32tab), ("math/bits.deBruijn64tab", laid_math_bits_deBruijn64tab), ("internal/strconv.uint64pow10", laid_internal_strconv_uint64pow10), ("strconv.ErrRange", laid_strconv_ErrRange), ("strconv.ErrSyntax", laid_strconv_ErrSyntax)] }
def FnFallToldSaid : Prop := fnFallToldRow.holds Tryz.pinned (OpenSpec.ofChange fnFallToldSpec)

/-- ITS FALSE NEIGHBOUR: 'it returns false'. Refute it at one input. -/
def fnFallToldWrong : ChangeSpec := { name := "fnFallTold", fn := fun _ => fun
  | [d] => { results := [.lit (.bool false)], args := [d] }
  | _ => none }
def FnFallToldWrongFalsely : Prop := fnFallToldRow.holds Tryz.pinned (OpenSpec.ofChange fnFallToldWrong)

/-- 'laws.FnFallTwice': WHATEVER THE INPUT: true; the input reads as it did. -/
def fnFallTwiceSpec : ChangeSpec := { name := "fnFallTwice", fn := fun _ => fun
  | [d1, d2] => { results := [.lit (.bool true)], args := [d1, d2] }
  | _ => none }
def fnFallTwiceRow : OpenClaim := { program := "ytgmkmeodimmdoaagreatdoor", sum := "0b4057e6a17b91cc2f6e09db089ec31af0f0fe46df9c4f1ee1578c73c93e4b0f", func := "loop.example/errandry/laws.FnFallTwice", spec := "fnFallTwice", unfollowed := true, recurses := true, named := ["internal/strconv.uint64pow10", "math/bits.deBruijn32tab", "math/bits.deBruijn64tab", "strconv.ErrSyntax", "strconv.ErrRange"], apart := false, laid := [("math/bits.deBruijn32tab", laid_math_bits_deBruijn32tab), ("math/bits.deBruijn64tab", laid_math_bits_deBruijn64tab), ("internal/strconv.uint64pow10", laid_internal_strconv_uint64pow10), ("strconv.ErrRange", laid_strconv_ErrRange), ("strconv.ErrSyntax", laid_strconv_ErrSyntax)] }
def FnFallTwiceSaid : Prop := fnFallTwiceRow.holds Tryz.pinned (OpenSpec.ofChange fnFallTwiceSpec)

/-- ITS FALSE NEIGHBOUR: 'it returns false'. Refute it at one input. -/
def fnFallTwiceWrong : ChangeSpec := { name := "fnFallTwice", fn := fun _ => fun
  | [d1, d2] => { results := [.lit (.bool false)], args := [d1, d2] }
  | _ => none }
def FnFallTwiceWrongFalsely : Prop := fnFallTwiceRow.holds Tryz.pinned (OpenSpec.ofChange fnFallTwiceWrong)

/-- 'laws.FnFallNormal': WHATEVER THE INPUT: true; the input reads as it did. -/
def fnFallNormalSpec : ChangeSpec := { name := "fnFallNormal", fn := fun _ => fun
  | [d] => { results := [.lit (.bool true)], args := [d] }
  | _ => none }
def fnFallNormalRow : OpenClaim := { program := "ytgmkmeodimmdoaagreatdoor", sum := "0b4057e6a17b91cc2f6e09db089ec31af0f0fe46df9c4f1ee1578c73c93e4b0f", func := "loop.example/errandry/laws.FnFallNormal", spec := "fnFallNormal", unfollowed := true, recurses := true, named := ["internal/strconv.uint64pow10", "math/bits.deBruijn32tab", "math/bits.deBruijn64tab", "strconv.ErrSyntax", "strconv.ErrRange"], apart := false, laid := [("math/bits.deBruijn32tab", laid_math_bits_deBruijn32tab), ("math/bits.deBruijn64tab", laid_math_bits_deBruijn64tab), ("internal/strconv.uint64pow10", laid_internal_strconv_uint64pow10), ("strconv.ErrRange", laid_strconv_ErrRange), ("strconv.ErrSyntax", laid_strconv_ErrSyntax)] }
def FnFallNormalSaid : Prop := fnFallNormalRow.holds Tryz.pinned (OpenSpec.ofChange fnFallNormalSpec)

/-- ITS FALSE NEIGHBOUR: 'it returns false'. Refute it at one input. -/
def fnFallNormalWrong : ChangeSpec := { name := "fnFallNormal", fn := fun _ => fun
  | [d] => { results := [.lit (.bool false)], args := [d] }
  | _ => none }
def FnFallNormalWrongFalsely : Prop := fnFallNormalRow.holds Tryz.pinned (OpenSpec.ofChange fnFallNormalWrong)

/-- 'laws.FnFallWith': WHATEVER THE INPUT: true; the input reads as it did. -/
def fnFallWithSpec : ChangeSpec := { name := "fnFallWith", fn := fun _ => fun
  | [d] => { results := [.lit (.bool true)], args := [d] }
  | _ => none }
def fnFallWithRow : OpenClaim := { program := "ytgmkmeodimmdoaagreatdoor", sum := "0b4057e6a17b91cc2f6e09db089ec31af0f0fe46df9c4f1ee1578c73c93e4b0f", func := "loop.example/errandry/laws.FnFallWith", spec := "fnFallWith", unfollowed := true, recurses := true, named := ["internal/strconv.uint64pow10", "math/bits.deBruijn32tab", "math/bits.deBruijn64tab", "strconv.ErrSyntax", "strconv.ErrRange"], apart := false, laid := [("math/bits.deBruijn32tab", laid_math_bits_deBruijn32tab), ("math/bits.deBruijn64tab", laid_math_bits_deBruijn64tab), ("internal/strconv.uint64pow10", laid_internal_strconv_uint64pow10), ("strconv.ErrRange", laid_strconv_ErrRange), ("strconv.ErrSyntax", laid_strconv_ErrSyntax)] }
def FnFallWithSaid : Prop := fnFallWithRow.holds Tryz.pinned (OpenSpec.ofChange fnFallWithSpec)

/-- ITS FALSE NEIGHBOUR: 'it returns false'. Refute it at one input. -/
def fnFallWithWrong : ChangeSpec := { name := "fnFallWith", fn := fun _ => fun
  | [d] => { results := [.lit (.bool false)], args := [d] }
  | _ => none }
def FnFallWithWrongFalsely : Prop := fnFallWithRow.holds Tryz.pinned (OpenSpec.ofChange fnFallWithWrong)

/-- 'laws.FnFallOthers': WHATEVER THE INPUT: true; the input reads as it did. -/
def fnFallOthersSpec : ChangeSpec := { name := "fnFallOthers", fn := fun _ => fun
  | [d] => { results := [.lit (.bool true)], args := [d] }
  | _ => none }
def fnFallOthersRow : OpenClaim := { program := "ytgmkmeodimmdoaagreatdoor", sum := "0b4057e6a17b91cc2f6e09db089ec31af0f0fe46df9c4f1ee1578c73c93e4b0f", func := "loop.example/errandry/laws.FnFallOthers", spec := "fnFallOthers", unfollowed := true, recurses := true, named := ["internal/strconv.uint64pow10", "math/bits.deBruijn32tab", "math/bits.deBruijn64tab", "strconv.ErrSyntax", "strconv.ErrRange"], apart := false, laid := [("math/bits.deBruijn32tab", laid_math_bits_deBruijn32tab), ("math/bits.deBruijn64tab", laid_math_bits_deBruijn64tab), ("internal/strconv.uint64pow10", laid_internal_strconv_uint64pow10), ("strconv.ErrRange", laid_strconv_ErrRange), ("strconv.ErrSyntax", laid_strconv_ErrSyntax)] }
def FnFallOthersSaid : Prop := fnFallOthersRow.holds Tryz.pinned (OpenSpec.ofChange fnFallOthersSpec)

/-- ITS FALSE NEIGHBOUR: 'it returns false'. Refute it at one input. -/
def fnFallOthersWrong : ChangeSpec := { name := "fnFallOthers", fn := fun _ => fun
  | [d] => { results := [.lit (.bool false)], args := [d] }
  | _ => none }
def FnFallOthersWrongFalsely : Prop := fnFallOthersRow.holds Tryz.pinned (OpenSpec.ofChange fnFallOthersWrong)

/-- 'laws.FnFallTrap': WHATEVER THE INPUT: true; the input reads as it did. -/
def fnFallTrapSpec : ChangeSpec := { name := "fnFallTrap", fn := fun _ => fun
  | [d] => { results := [.lit (.bool true)], args := [d] }
  | _ => none }
def fnFallTrapRow : OpenClaim := { program := "ytgmkmeodimmdoaagreatdoor", sum := "0b4057e6a17b91cc2f6e09db089ec31af0f0fe46df9c4f1ee1578c73c93e4b0f", func := "loop.example/errandry/laws.FnFallTrap", spec := "fnFallTrap", unfollowed := true, recurses := true, named := ["internal/strconv.uint64pow10", "math/bits.deBruijn32tab", "math/bits.deBruijn64tab", "strconv.ErrSyntax", "strconv.ErrRange"], apart := false, laid := [("math/bits.deBruijn32tab", laid_math_bits_deBruijn32tab), ("math/bits.deBruijn64tab", laid_math_bits_deBruijn64tab), ("internal/strconv.uint64pow10", laid_internal_strconv_uint64pow10), ("strconv.ErrRange", laid_strconv_ErrRange), ("strconv.ErrSyntax", laid_strconv_ErrSyntax)] }
def FnFallTrapSaid : Prop := fnFallTrapRow.holds Tryz.pinned (OpenSpec.ofChange fnFallTrapSpec)

/-- ITS FALSE NEIGHBOUR: 'it returns false'. Refute it at one input. -/
def fnFallTrapWrong : ChangeSpec := { name := "fnFallTrap", fn := fun _ => fun
  | [d] => { results := [.lit (.bool false)], args := [d] }
  | _ => none }
def FnFallTrapWrongFalsely : Prop := fnFallTrapRow.holds Tryz.pinned (OpenSpec.ofChange fnFallTrapWrong)

/-- 'laws.FnFallSum': WHATEVER THE INPUT: true; the input reads as it did. -/
def fnFallSumSpec : ChangeSpec := { name := "fnFallSum", fn := fun _ => fun
  | [d] => { results := [.lit (.bool true)], args := [d] }
  | _ => none }
def fnFallSumRow : OpenClaim := { program := "ytgmkmeodimmdoaagreatdoor", sum := "0b4057e6a17b91cc2f6e09db089ec31af0f0fe46df9c4f1ee1578c73c93e4b0f", func := "loop.example/errandry/laws.FnFallSum", spec := "fnFallSum", unfollowed := true, recurses := true, named := ["internal/strconv.uint64pow10", "math/bits.deBruijn32tab", "math/bits.deBruijn64tab", "strconv.ErrSyntax", "strconv.ErrRange"], apart := false, laid := [("math/bits.deBruijn32tab", laid_math_bits_deBruijn32tab), ("math/bits.deBruijn64tab", laid_math_bits_deBruijn64tab), ("internal/strconv.uint64pow10", laid_internal_strconv_uint64pow10), ("strconv.ErrRange", laid_strconv_ErrRange), ("strconv.ErrSyntax", laid_strconv_ErrSyntax)] }
def FnFallSumSaid : Prop := fnFallSumRow.holds Tryz.pinned (OpenSpec.ofChange fnFallSumSpec)

/-- ITS FALSE NEIGHBOUR: 'it returns false'. Refute it at one input. -/
def fnFallSumWrong : ChangeSpec := { name := "fnFallSum", fn := fun _ => fun
  | [d] => { results := [.lit (.bool false)], args := [d] }
  | _ => none }
def FnFallSumWrongFalsely : Prop := fnFallSumRow.holds Tryz.pinned (OpenSpec.ofChange fnFallSumWrong)

/-- 'laws.FnFallTwo': WHATEVER THE INPUT: true; the input reads as it did. -/
def fnFallTwoSpec : ChangeSpec := { name := "fnFallTwo", fn := fun _ => fun
  | [d1, d2] => { results := [.lit (.bool true)], args := [d1, d2] }
  | _ => none }
def fnFallTwoRow : OpenClaim := { program := "ytgmkmeodimmdoaagreatdoor", sum := "0b4057e6a17b91cc2f6e09db089ec31af0f0fe46df9c4f1ee1578c73c93e4b0f", func := "loop.example/errandry/laws.FnFallTwo", spec := "fnFallTwo", unfollowed := true, recurses := true, named := ["internal/strconv.uint64pow10", "math/bits.deBruijn32tab", "math/bits.deBruijn64tab", "strconv.ErrSyntax", "strconv.ErrRange"], apart := false, laid := [("math/bits.deBruijn32tab", laid_math_bits_deBruijn32tab), ("math/bits.deBruijn64tab", laid_math_bits_deBruijn64tab), ("internal/strconv.uint64pow10", laid_internal_strconv_uint64pow10), ("strconv.ErrRange", laid_strconv_ErrRange), ("strconv.ErrSyntax", laid_strconv_ErrSyntax)] }
def FnFallTwoSaid : Prop := fnFallTwoRow.holds Tryz.pinned (OpenSpec.ofChange fnFallTwoSpec)

/-- ITS FALSE NEIGHBOUR: 'it returns false'. Refute it at one input. -/
def fnFallTwoWrong : ChangeSpec := { name := "fnFallTwo", fn := fun _ => fun
  | [d1, d2] => { results := [.lit (.bool false)], args := [d1, d2] }
  | _ => none }
def FnFallTwoWrongFalsely : Prop := fnFallTwoRow.holds Tryz.pinned (OpenSpec.ofChange fnFallTwoWrong)

/-- 'laws.FnTellNormal': WHATEVER THE INPUT: true; the input reads as it did. -/
def fnTellNormalSpec : ChangeSpec := { name := "fnTellNormal", fn := fun _ => fun
  | [d] => { results := [.lit (.bool true)], args := [d] }
  | _ => none }
def fnTellNormalRow : OpenClaim := { program := "ytgmkmeodimmdoaagreatdoor", sum := "0b4057e6a17b91cc2f6e09db089ec31af0f0fe46df9c4f1ee1578c73c93e4b0f", func := "loop.example/errandry/laws.FnTellNormal", spec := "fnTellNormal", unfollowed := true, recurses := true, named := ["internal/strconv.uint64pow10", "math/bits.deBruijn32tab", "math/bits.deBruijn64tab", "strconv.ErrSyntax", "strconv.ErrRange"], apart := false, laid := [("math/bits.deBruijn32tab", laid_math_bits_deBruijn32tab), ("math/bits.deBruijn64tab", laid_math_bits_deBruijn64tab), ("internal/strconv.uint64pow10", laid_internal_strconv_uint64pow10), ("strconv.ErrRange", laid_strconv_ErrRange), ("strconv.ErrSyntax", laid_strconv_ErrSyntax)] }
def FnTellNormalSaid : Prop := fnTellNormalRow.holds Tryz.pinned (OpenSpec.ofChange fnTellNormalSpec)

/-- ITS FALSE NEIGHBOUR: 'it returns false'. Refute it at one input. -/
def fnTellNormalWrong : ChangeSpec := { name := "fnTellNormal", fn := fun _ => fun
  | [d] => { results := [.lit (.bool false)], args := [d] }
  | _ => none }
def FnTellNormalWrongFalsely : Prop := fnTellNormalRow.holds Tryz.pinned (OpenSpec.ofChange fnTellNormalWrong)

/- THE SECOND FORM. 'bulk': how many values and letters a reading holds, each counted each time it is reached (what is shared counts as often as it is met; a slice's spare places count too). A statement '..UptoSaid' is the law's where the arguments, and the package variables that the reading takes, are together of bulk at most 1048576: NARROWER than '..Said'. Prove '..Said' where nothing that the law and all that it calls make is longer than what came in: it says more and counts as full. Else prove '..UptoSaid'. A law counts once. -/
mutual
def uptoBulk {H : Type} : DataW H → Nat
  | .lit (.string bytes) => bytes.length + 1
  | .lit _ => 1
  | .nil => 1
  | .ptr d => uptoBulk d + 1
  | .slice elems spare => uptoBulkAll elems + uptoBulkAll spare + 1
  | .agg parts => uptoBulkAll parts + 1
  | .iface _ d => uptoBulk d + 1
  | .map entries => uptoBulkEntries entries + 1
  | .held _ => 1
def uptoBulkAll {H : Type} : List (DataW H) → Nat
  | [] => 0
  | d :: r => uptoBulk d + uptoBulkAll r
def uptoBulkEntries {H : Type} : List (Lit × DataW H) → Nat
  | [] => 0
  | x :: r => uptoBulkEntry x + uptoBulkEntries r
def uptoBulkEntry {H : Type} : Lit × DataW H → Nat
  | (.string bytes, d) => bytes.length + uptoBulk d + 1
  | (_, d) => uptoBulk d + 1
 end
def uptoSmall : (H : Type) → List (DataW H) → Bool := fun _ ds => decide (uptoBulkAll ds ≤ 1048576)
def OpenSpec.upto (s : _root_.Go.ChangeSpec) : _root_.Go.OpenSpec := { _root_.Go.OpenSpec.ofChange s with cond := some uptoSmall }

/-- 'laws.FnIdle', WHERE WHAT IT READS IS OF BULK AT MOST 1048576: true; the input reads as it did. -/
def fnIdleUptoRow : OpenClaim := { program := "ytgmkmeodimmdoaagreatdoor", sum := "0b4057e6a17b91cc2f6e09db089ec31af0f0fe46df9c4f1ee1578c73c93e4b0f", func := "loop.example/errandry/laws.FnIdle", spec := "fnIdle", unfollowed := true, recurses := true, named := ["internal/strconv.uint64pow10", "math/bits.deBruijn32tab", "math/bits.deBruijn64tab", "strconv.ErrSyntax", "strconv.ErrRange"], apart := false, laid := [("math/bits.deBruijn32tab", laid_math_bits_deBruijn32tab), ("math/bits.deBruijn64tab", laid_math_bits_deBruijn64tab), ("internal/strconv.uint64pow10", laid_internal_strconv_uint64pow10), ("strconv.ErrRange", laid_strconv_ErrRange), ("strconv.ErrSyntax", laid_strconv_ErrSyntax)], narrowed := true }
def FnIdleUptoSaid : Prop := fnIdleUptoRow.holds Tryz.pinned (OpenSpec.upto fnIdleSpec)

/-- 'laws.FnFallAll', WHERE WHAT IT READS IS OF BULK AT MOST 1048576: true; the input reads as it did. -/
def fnFallAllUptoRow : OpenClaim := { program := "ytgmkmeodimmdoaagreatdoor", sum := "0b4057e6a17b91cc2f6e09db089ec31af0f0fe46df9c4f1ee1578c73c93e4b0f", func := "loop.example/errandry/laws.FnFallAll", spec := "fnFallAll", unfollowed := true, recurses := true, named := ["internal/strconv.uint64pow10", "math/bits.deBruijn32tab", "math/bits.deBruijn64tab", "strconv.ErrSyntax", "strconv.ErrRange"], apart := false, laid := [("math/bits.deBruijn32tab", laid_math_bits_deBruijn32tab), ("math/bits.deBruijn64tab", laid_math_bits_deBruijn64tab), ("internal/strconv.uint64pow10", laid_internal_strconv_uint64pow10), ("strconv.ErrRange", laid_strconv_ErrRange), ("strconv.ErrSyntax", laid_strconv_ErrSyntax)], narrowed := true }
def FnFallAllUptoSaid : Prop := fnFallAllUptoRow.holds Tryz.pinned (OpenSpec.upto fnFallAllSpec)

/-- 'laws.FnFallTold', WHERE WHAT IT READS IS OF BULK AT MOST 1048576: true; the input reads as it did. -/
def fnFallToldUptoRow : OpenClaim := { program := "ytgmkmeodimmdoaagreatdoor", sum := "0b4057e6a17b91cc2f6e09db089ec31af0f0fe46df9c4f1ee1578c73c93e4b0f", func := "loop.example/errandry/laws.FnFallTold", spec := "fnFallTold", unfollowed := true, recurses := true, named := ["internal/strconv.uint64pow10", "math/bits.deBruijn32tab", "math/bits.deBruijn64tab", "strconv.ErrSyntax", "strconv.ErrRange"], apart := false, laid := [("math/bits.deBruijn32tab", laid_math_bits_deBruijn32tab), ("math/bits.deBruijn64tab", laid_math_bits_deBruijn64tab), ("internal/strconv.uint64pow10", laid_internal_strconv_uint64pow10), ("strconv.ErrRange", laid_strconv_ErrRange), ("strconv.ErrSyntax", laid_strconv_ErrSyntax)], narrowed := true }
def FnFallToldUptoSaid : Prop := fnFallToldUptoRow.holds Tryz.pinned (OpenSpec.upto fnFallToldSpec)

/-- 'laws.FnFallTwice', WHERE WHAT IT READS IS OF BULK AT MOST 1048576: true; the input reads as it did. -/
def fnFallTwiceUptoRow : OpenClaim := { program := "ytgmkmeodimmdoaagreatdoor", sum := "0b4057e6a17b91cc2f6e09db089ec31af0f0fe46df9c4f1ee1578c73c93e4b0f", func := "loop.example/errandry/laws.FnFallTwice", spec := "fnFallTwice", unfollowed := true, recurses := true, named := ["internal/strconv.uint64pow10", "math/bits.deBruijn32tab", "math/bits.deBruijn64tab", "strconv.ErrSyntax", "strconv.ErrRange"], apart := false, laid := [("math/bits.deBruijn32tab", laid_math_bits_deBruijn32tab), ("math/bits.deBruijn64tab", laid_math_bits_deBruijn64tab), ("internal/strconv.uint64pow10", laid_internal_strconv_uint64pow10), ("strconv.ErrRange", laid_strconv_ErrRange), ("strconv.ErrSyntax", laid_strconv_ErrSyntax)], narrowed := true }
def FnFallTwiceUptoSaid : Prop := fnFallTwiceUptoRow.holds Tryz.pinned (OpenSpec.upto fnFallTwiceSpec)

/-- 'laws.FnFallNormal', WHERE WHAT IT READS IS OF BULK AT MOST 1048576: true; the input reads as it did. -/
def fnFallNormalUptoRow : OpenClaim := { program := "ytgmkmeodimmdoaagreatdoor", sum := "0b4057e6a17b91cc2f6e09db089ec31af0f0fe46df9c4f1ee1578c73c93e4b0f", func := "loop.example/errandry/laws.FnFallNormal", spec := "fnFallNormal", unfollowed := true, recurses := true, named := ["internal/strconv.uint64pow10", "math/bits.deBruijn32tab", "math/bits.deBruijn64tab", "strconv.ErrSyntax", "strconv.ErrRange"], apart := false, laid := [("math/bits.deBruijn32tab", laid_math_bits_deBruijn32tab), ("math/bits.deBruijn64tab", laid_math_bits_deBruijn64tab), ("internal/strconv.uint64pow10", laid_internal_strconv_uint64pow10), ("strconv.ErrRange", laid_strconv_ErrRange), ("strconv.ErrSyntax", laid_strconv_ErrSyntax)], narrowed := true }
def FnFallNormalUptoSaid : Prop := fnFallNormalUptoRow.holds Tryz.pinned (OpenSpec.upto fnFallNormalSpec)

/-- 'laws.FnFallWith', WHERE WHAT IT READS IS OF BULK AT MOST 1048576: true; the input reads as it did. -/
def fnFallWithUptoRow : OpenClaim := { program := "ytgmkmeodimmdoaagreatdoor", sum := "0b4057e6a17b91cc2f6e09db089ec31af0f0fe46df9c4f1ee1578c73c93e4b0f", func := "loop.example/errandry/laws.FnFallWith", spec := "fnFallWith", unfollowed := true, recurses := true, named := ["internal/strconv.uint64pow10", "math/bits.deBruijn32tab", "math/bits.deBruijn64tab", "strconv.ErrSyntax", "strconv.ErrRange"], apart := false, laid := [("math/bits.deBruijn32tab", laid_math_bits_deBruijn32tab), ("math/bits.deBruijn64tab", laid_math_bits_deBruijn64tab), ("internal/strconv.uint64pow10", laid_internal_strconv_uint64pow10), ("strconv.ErrRange", laid_strconv_ErrRange), ("strconv.ErrSyntax", laid_strconv_ErrSyntax)], narrowed := true }
def FnFallWithUptoSaid : Prop := fnFallWithUptoRow.holds Tryz.pinned (OpenSpec.upto fnFallWithSpec)

/-- 'laws.FnFallOthers', WHERE WHAT IT READS IS OF BULK AT MOST 1048576: true; the input reads as it did. -/
def fnFallOthersUptoRow : OpenClaim := { program := "ytgmkmeodimmdoaagreatdoor", sum := "0b4057e6a17b91cc2f6e09db089ec31af0f0fe46df9c4f1ee1578c73c93e4b0f", func := "loop.example/errandry/laws.FnFallOthers", spec := "fnFallOthers", unfollowed := true, recurses := true, named := ["internal/strconv.uint64pow10", "math/bits.deBruijn32tab", "math/bits.deBruijn64tab", "strconv.ErrSyntax", "strconv.ErrRange"], apart := false, laid := [("math/bits.deBruijn32tab", laid_math_bits_deBruijn32tab), ("math/bits.deBruijn64tab", laid_math_bits_deBruijn64tab), ("internal/strconv.uint64pow10", laid_internal_strconv_uint64pow10), ("strconv.ErrRange", laid_strconv_ErrRange), ("strconv.ErrSyntax", laid_strconv_ErrSyntax)], narrowed := true }
def FnFallOthersUptoSaid : Prop := fnFallOthersUptoRow.holds Tryz.pinned (OpenSpec.upto fnFallOthersSpec)

/-- 'laws.FnFallTrap', WHERE WHAT IT READS IS OF BULK AT MOST 1048576: true; the input reads as it did. -/
def fnFallTrapUptoRow : OpenClaim := { program := "ytgmkmeodimmdoaagreatdoor", sum := "0b4057e6a17b91cc2f6e09db089ec31af0f0fe46df9c4f1ee1578c73c93e4b0f", func := "loop.example/errandry/laws.FnFallTrap", spec := "fnFallTrap", unfollowed := true, recurses := true, named := ["internal/strconv.uint64pow10", "math/bits.deBruijn32tab", "math/bits.deBruijn64tab", "strconv.ErrSyntax", "strconv.ErrRange"], apart := false, laid := [("math/bits.deBruijn32tab", laid_math_bits_deBruijn32tab), ("math/bits.deBruijn64tab", laid_math_bits_deBruijn64tab), ("internal/strconv.uint64pow10", laid_internal_strconv_uint64pow10), ("strconv.ErrRange", laid_strconv_ErrRange), ("strconv.ErrSyntax", laid_strconv_ErrSyntax)], narrowed := true }
def FnFallTrapUptoSaid : Prop := fnFallTrapUptoRow.holds Tryz.pinned (OpenSpec.upto fnFallTrapSpec)

/-- 'laws.FnFallSum', WHERE WHAT IT READS IS OF BULK AT MOST 1048576: true; the input reads as it did. -/
def fnFallSumUptoRow : OpenClaim := { program := "ytgmkmeodimmdoaagreatdoor", sum := "0b4057e6a17b91cc2f6e09db089ec31af0f0fe46df9c4f1ee1578c73c93e4b0f", func := "loop.example/errandry/laws.FnFallSum", spec := "fnFallSum", unfollowed := true, recurses := true, named := ["internal/strconv.uint64pow10", "math/bits.deBruijn32tab", "math/bits.deBruijn64tab", "strconv.ErrSyntax", "strconv.ErrRange"], apart := false, laid := [("math/bits.deBruijn32tab", laid_math_bits_deBruijn32tab), ("math/bits.deBruijn64tab", laid_math_bits_deBruijn64tab), ("internal/strconv.uint64pow10", laid_internal_strconv_uint64pow10), ("strconv.ErrRange", laid_strconv_ErrRange), ("strconv.ErrSyntax", laid_strconv_ErrSyntax)], narrowed := true }
def FnFallSumUptoSaid : Prop := fnFallSumUptoRow.holds Tryz.pinned (OpenSpec.upto fnFallSumSpec)

/-- 'laws.FnFallTwo', WHERE WHAT IT READS IS OF BULK AT MOST 1048576: true; the input reads as it did. -/
def fnFallTwoUptoRow : OpenClaim := { program := "ytgmkmeodimmdoaagreatdoor", sum := "0b4057e6a17b91cc2f6e09db089ec31af0f0fe46df9c4f1ee1578c73c93e4b0f", func := "loop.example/errandry/laws.FnFallTwo", spec := "fnFallTwo", unfollowed := true, recurses := true, named := ["internal/strconv.uint64pow10", "math/bits.deBruijn32tab", "math/bits.deBruijn64tab", "strconv.ErrSyntax", "strconv.ErrRange"], apart := false, laid := [("math/bits.deBruijn32tab", laid_math_bits_deBruijn32tab), ("math/bits.deBruijn64tab", laid_math_bits_deBruijn64tab), ("internal/strconv.uint64pow10", laid_internal_strconv_uint64pow10), ("strconv.ErrRange", laid_strconv_ErrRange), ("strconv.ErrSyntax", laid_strconv_ErrSyntax)], narrowed := true }
def FnFallTwoUptoSaid : Prop := fnFallTwoUptoRow.holds Tryz.pinned (OpenSpec.upto fnFallTwoSpec)

/-- 'laws.FnTellNormal', WHERE WHAT IT READS IS OF BULK AT MOST 1048576: true; the input reads as it did. -/
def fnTellNormalUptoRow : OpenClaim := { program := "ytgmkmeodimmdoaagreatdoor", sum := "0b4057e6a17b91cc2f6e09db089ec31af0f0fe46df9c4f1ee1578c73c93e4b0f", func := "loop.example/errandry/laws.FnTellNormal", spec := "fnTellNormal", unfollowed := true, recurses := true, named := ["internal/strconv.uint64pow10", "math/bits.deBruijn32tab", "math/bits.deBruijn64tab", "strconv.ErrSyntax", "strconv.ErrRange"], apart := false, laid := [("math/bits.deBruijn32tab", laid_math_bits_deBruijn32tab), ("math/bits.deBruijn64tab", laid_math_bits_deBruijn64tab), ("internal/strconv.uint64pow10", laid_internal_strconv_uint64pow10), ("strconv.ErrRange", laid_strconv_ErrRange), ("strconv.ErrSyntax", laid_strconv_ErrSyntax)], narrowed := true }
def FnTellNormalUptoSaid : Prop := fnTellNormalUptoRow.holds Tryz.pinned (OpenSpec.upto fnTellNormalSpec)

end Rows
end Go.Proofs.YtgmkmeodimmdoaaGreatDoor
