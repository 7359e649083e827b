/-
  DERIVED. GIVEN WITH THE SEED: THE CARDS: each row of YtekmjgkjpdhedaaGreatDoorRows.lean that lists a variable, with what it lists TIED to the program's text (the seventh form; the later family's looks); each row that meets fmt, with fmt's text TOLD by the authors' own Lean function (tested against real Go, not proved from fmt's source: count such statements apart). THE CARD IS WHAT COUNTS. Prove the row's statement (the work); the ties are given (YtekmjgkjpdhedaaGreatDoorTie.lean); close each card by the builder's one call (the guide's Derived/Test/ToyasCard.lean, 'card_holds'). Laid BY PROGRAM, IN A SANDBOX (cutbox-door.mjs). By AI agents, Wed Nov 11 2026. No macro, syntax, notation, axiom, sorry.
-/
import Derived.Test.YtekmjgkjpdhedaaGreatDoorRows
import GoSem.ClaimSeven
namespace Go.Proofs.YtekmjgkjpdhedaaGreatDoor
namespace Rows

/-- THE TIED CARD OF 'laws.FnCodeBack'. -/
def fnCodeBackCard : Claim7 := { stood := { row := fnCodeBackRow, standIns := [], harness := (true, "ba3ee9d74545ae6ec54a0547b9c2c76c80ed5d6bde8deddca537807e5168b8e7"), looks := true }, kinds := [], alts := [], laidByText := true, laidKinds := [.data, .data, .data, .data, .handle, .sentinel, .sentinel, .pinned], laidTests := true, laidLooks := .later }
def FnCodeBackCardSaid : Prop := Claim7.holds Tryz.pinned (.plain (OpenSpec.ofChange fnCodeBackSpec)) fnCodeBackCard

/-- THE TIED CARD OF 'laws.FnCodeStrict'. -/
def fnCodeStrictCard : Claim7 := { stood := { row := fnCodeStrictRow, standIns := [], harness := (true, "ba3ee9d74545ae6ec54a0547b9c2c76c80ed5d6bde8deddca537807e5168b8e7"), looks := true }, kinds := [], alts := [], laidByText := true, laidKinds := [.data, .data, .data, .data, .handle, .sentinel, .sentinel, .pinned], laidTests := true, laidLooks := .later }
def FnCodeStrictCardSaid : Prop := Claim7.holds Tryz.pinned (.plain (OpenSpec.ofChange fnCodeStrictSpec)) fnCodeStrictCard

/-- THE TIED CARD OF 'laws.FnSafeText'. -/
def fnSafeTextCard : Claim7 := { stood := { row := fnSafeTextRow, standIns := [], harness := (true, "ba3ee9d74545ae6ec54a0547b9c2c76c80ed5d6bde8deddca537807e5168b8e7"), looks := true }, kinds := [], alts := [], laidByText := true, laidKinds := [.data, .data, .data, .data, .handle, .sentinel, .sentinel, .pinned], laidTests := true, laidLooks := .later }
def FnSafeTextCardSaid : Prop := Claim7.holds Tryz.pinned (.plain (OpenSpec.ofChange fnSafeTextSpec)) fnSafeTextCard

/-- THE TIED CARD OF 'laws.FnExactCodeRead'. -/
def fnExactCodeReadCard : Claim7 := { stood := { row := fnExactCodeReadRow, standIns := [], harness := (true, "ba3ee9d74545ae6ec54a0547b9c2c76c80ed5d6bde8deddca537807e5168b8e7"), looks := true }, kinds := [], alts := [], laidByText := true, laidKinds := [.data, .data, .data, .data, .handle, .sentinel, .sentinel, .pinned], laidTests := true, laidLooks := .later }
def FnExactCodeReadCardSaid : Prop := Claim7.holds Tryz.pinned (.plain (OpenSpec.ofChange fnExactCodeReadSpec)) fnExactCodeReadCard

/-- THE SECOND FORM's CARD OF 'laws.FnCodeBack'. -/
def fnCodeBackUptoCard : Claim7 := { stood := { row := fnCodeBackUptoRow, standIns := [], harness := (true, "ba3ee9d74545ae6ec54a0547b9c2c76c80ed5d6bde8deddca537807e5168b8e7"), looks := true }, kinds := [], alts := [], laidByText := true, laidKinds := [.data, .data, .data, .data, .handle, .sentinel, .sentinel, .pinned], laidTests := true, laidLooks := .later }
def FnCodeBackUptoCardSaid : Prop := Claim7.holds Tryz.pinned (.plain (OpenSpec.upto fnCodeBackSpec)) fnCodeBackUptoCard

/-- THE SECOND FORM's CARD OF 'laws.FnCodeStrict'. -/
def fnCodeStrictUptoCard : Claim7 := { stood := { row := fnCodeStrictUptoRow, standIns := [], harness := (true, "ba3ee9d74545ae6ec54a0547b9c2c76c80ed5d6bde8deddca537807e5168b8e7"), looks := true }, kinds := [], alts := [], laidByText := true, laidKinds := [.data, .data, .data, .data, .handle, .sentinel, .sentinel, .pinned], laidTests := true, laidLooks := .later }
def FnCodeStrictUptoCardSaid : Prop := Claim7.holds Tryz.pinned (.plain (OpenSpec.upto fnCodeStrictSpec)) fnCodeStrictUptoCard

/-- THE SECOND FORM's CARD OF 'laws.FnSafeText'. -/
def fnSafeTextUptoCard : Claim7 := { stood := { row := fnSafeTextUptoRow, standIns := [], harness := (true, "ba3ee9d74545ae6ec54a0547b9c2c76c80ed5d6bde8deddca537807e5168b8e7"), looks := true }, kinds := [], alts := [], laidByText := true, laidKinds := [.data, .data, .data, .data, .handle, .sentinel, .sentinel, .pinned], laidTests := true, laidLooks := .later }
def FnSafeTextUptoCardSaid : Prop := Claim7.holds Tryz.pinned (.plain (OpenSpec.upto fnSafeTextSpec)) fnSafeTextUptoCard

/-- THE SECOND FORM's CARD OF 'laws.FnExactCodeRead'. -/
def fnExactCodeReadUptoCard : Claim7 := { stood := { row := fnExactCodeReadUptoRow, standIns := [], harness := (true, "ba3ee9d74545ae6ec54a0547b9c2c76c80ed5d6bde8deddca537807e5168b8e7"), looks := true }, kinds := [], alts := [], laidByText := true, laidKinds := [.data, .data, .data, .data, .handle, .sentinel, .sentinel, .pinned], laidTests := true, laidLooks := .later }
def FnExactCodeReadUptoCardSaid : Prop := Claim7.holds Tryz.pinned (.plain (OpenSpec.upto fnExactCodeReadSpec)) fnExactCodeReadUptoCard
end Rows
end Go.Proofs.YtekmjgkjpdhedaaGreatDoor
