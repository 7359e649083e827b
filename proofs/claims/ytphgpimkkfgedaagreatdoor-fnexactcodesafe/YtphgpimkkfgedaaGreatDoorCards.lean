/-
  DERIVED. GIVEN WITH THE SEED: THE CARDS: each row of YtphgpimkkfgedaaGreatDoorRows.lean that lists a variable, with what it lists TIED to the program's text (the seventh form; the later family's looks); each row that meets fmt, with fmt's text TOLD by the authors' own Lean function (tested against real Go, not proved from fmt's source: count such statements apart). THE CARD IS WHAT COUNTS. Prove the row's statement (the work); the ties are given (YtphgpimkkfgedaaGreatDoorTie.lean); close each card by the builder's one call (the guide's Derived/Test/ToyasCard.lean, 'card_holds'). Laid BY PROGRAM, IN A SANDBOX (cutbox-door.mjs). By AI agents, Wed Nov 11 2026. No macro, syntax, notation, axiom, sorry.
-/
import Derived.Test.YtphgpimkkfgedaaGreatDoorRows
import GoSem.ClaimSeven
namespace Go.Proofs.YtphgpimkkfgedaaGreatDoor
namespace Rows

/-- THE TIED CARD OF 'laws.FnExactCodeFull'. -/
def fnExactCodeFullCard : Claim7 := { stood := { row := fnExactCodeFullRow, standIns := [], harness := (true, "38bdea0f6ce6fbf97ac606bea6c590a5f52956500713b0605728ba8383956890"), looks := true }, kinds := [], alts := [], laidByText := true, laidKinds := [.data, .data, .data, .sentinel, .sentinel], laidTests := true, laidLooks := .later }
def FnExactCodeFullCardSaid : Prop := Claim7.holds Tryz.pinned (.plain (OpenSpec.ofChange fnExactCodeFullSpec)) fnExactCodeFullCard

/-- THE TIED CARD OF 'laws.FnExactCodeNext'. -/
def fnExactCodeNextCard : Claim7 := { stood := { row := fnExactCodeNextRow, standIns := [], harness := (true, "38bdea0f6ce6fbf97ac606bea6c590a5f52956500713b0605728ba8383956890"), looks := true }, kinds := [], alts := [], laidByText := true, laidKinds := [.data, .data, .data, .sentinel, .sentinel], laidTests := true, laidLooks := .later }
def FnExactCodeNextCardSaid : Prop := Claim7.holds Tryz.pinned (.plain (OpenSpec.ofChange fnExactCodeNextSpec)) fnExactCodeNextCard

/-- THE TIED CARD OF 'laws.FnExactCodeReach'. -/
def fnExactCodeReachCard : Claim7 := { stood := { row := fnExactCodeReachRow, standIns := [], harness := (true, "38bdea0f6ce6fbf97ac606bea6c590a5f52956500713b0605728ba8383956890"), looks := true }, kinds := [], alts := [], laidByText := true, laidKinds := [.data, .data, .data, .sentinel, .sentinel], laidTests := true, laidLooks := .later }
def FnExactCodeReachCardSaid : Prop := Claim7.holds Tryz.pinned (.plain (OpenSpec.ofChange fnExactCodeReachSpec)) fnExactCodeReachCard

/-- THE TIED CARD OF 'laws.FnExactCodeSafe'. -/
def fnExactCodeSafeCard : Claim7 := { stood := { row := fnExactCodeSafeRow, standIns := [], harness := (true, "38bdea0f6ce6fbf97ac606bea6c590a5f52956500713b0605728ba8383956890"), looks := true }, kinds := [], alts := [], laidByText := true, laidKinds := [.data, .data, .data, .sentinel, .sentinel], laidTests := true, laidLooks := .later }
def FnExactCodeSafeCardSaid : Prop := Claim7.holds Tryz.pinned (.plain (OpenSpec.ofChange fnExactCodeSafeSpec)) fnExactCodeSafeCard

/-- THE SECOND FORM's CARD OF 'laws.FnExactCodeFull'. -/
def fnExactCodeFullUptoCard : Claim7 := { stood := { row := fnExactCodeFullUptoRow, standIns := [], harness := (true, "38bdea0f6ce6fbf97ac606bea6c590a5f52956500713b0605728ba8383956890"), looks := true }, kinds := [], alts := [], laidByText := true, laidKinds := [.data, .data, .data, .sentinel, .sentinel], laidTests := true, laidLooks := .later }
def FnExactCodeFullUptoCardSaid : Prop := Claim7.holds Tryz.pinned (.plain (OpenSpec.upto fnExactCodeFullSpec)) fnExactCodeFullUptoCard

/-- THE SECOND FORM's CARD OF 'laws.FnExactCodeNext'. -/
def fnExactCodeNextUptoCard : Claim7 := { stood := { row := fnExactCodeNextUptoRow, standIns := [], harness := (true, "38bdea0f6ce6fbf97ac606bea6c590a5f52956500713b0605728ba8383956890"), looks := true }, kinds := [], alts := [], laidByText := true, laidKinds := [.data, .data, .data, .sentinel, .sentinel], laidTests := true, laidLooks := .later }
def FnExactCodeNextUptoCardSaid : Prop := Claim7.holds Tryz.pinned (.plain (OpenSpec.upto fnExactCodeNextSpec)) fnExactCodeNextUptoCard

/-- THE SECOND FORM's CARD OF 'laws.FnExactCodeReach'. -/
def fnExactCodeReachUptoCard : Claim7 := { stood := { row := fnExactCodeReachUptoRow, standIns := [], harness := (true, "38bdea0f6ce6fbf97ac606bea6c590a5f52956500713b0605728ba8383956890"), looks := true }, kinds := [], alts := [], laidByText := true, laidKinds := [.data, .data, .data, .sentinel, .sentinel], laidTests := true, laidLooks := .later }
def FnExactCodeReachUptoCardSaid : Prop := Claim7.holds Tryz.pinned (.plain (OpenSpec.upto fnExactCodeReachSpec)) fnExactCodeReachUptoCard

/-- THE SECOND FORM's CARD OF 'laws.FnExactCodeSafe'. -/
def fnExactCodeSafeUptoCard : Claim7 := { stood := { row := fnExactCodeSafeUptoRow, standIns := [], harness := (true, "38bdea0f6ce6fbf97ac606bea6c590a5f52956500713b0605728ba8383956890"), looks := true }, kinds := [], alts := [], laidByText := true, laidKinds := [.data, .data, .data, .sentinel, .sentinel], laidTests := true, laidLooks := .later }
def FnExactCodeSafeUptoCardSaid : Prop := Claim7.holds Tryz.pinned (.plain (OpenSpec.upto fnExactCodeSafeSpec)) fnExactCodeSafeUptoCard
end Rows
end Go.Proofs.YtphgpimkkfgedaaGreatDoor
