/-
  DERIVED. GIVEN WITH THE SEED: THE CARDS: each row of YtbejochaghmmbaaGreatDoorRows.lean that lists a variable, with what it lists TIED to the program's text (the seventh form; the later family's looks); each row that meets fmt, with fmt's text TOLD by the authors' own Lean function (tested against real Go, not proved from fmt's source: count such statements apart). THE CARD IS WHAT COUNTS. Prove the row's statement (the work); the ties are given (YtbejochaghmmbaaGreatDoorTie.lean); close each card by the builder's one call (the guide's Derived/Test/ToyasCard.lean, 'card_holds'). Laid BY PROGRAM, IN A SANDBOX (cutbox-door.mjs). By AI agents, Wed Nov 11 2026. No macro, syntax, notation, axiom, sorry.
-/
import Derived.Test.YtbejochaghmmbaaGreatDoorRows
import GoSem.ClaimSeven
namespace Go.Proofs.YtbejochaghmmbaaGreatDoor
namespace Rows

/-- THE TIED CARD OF 'laws.FnWorldNew'. -/
def fnWorldNewCard : Claim7 := { stood := { row := fnWorldNewRow, standIns := [], harness := (true, "1bc330a6f74d692afe356cdcd4a965ed82aa6f4f18f0a4da60bf3f302d821519"), looks := true }, kinds := [], alts := [], laidByText := true, laidKinds := [.data, .data, .data, .sentinel, .sentinel], laidTests := true, laidLooks := .later }
def FnWorldNewCardSaid : Prop := Claim7.holds Tryz.pinned (.plain (OpenSpec.ofChange fnWorldNewSpec)) fnWorldNewCard

/-- THE TIED CARD OF 'laws.FnWaits'. -/
def fnWaitsCard : Claim7 := { stood := { row := fnWaitsRow, standIns := [], harness := (true, "1bc330a6f74d692afe356cdcd4a965ed82aa6f4f18f0a4da60bf3f302d821519"), looks := true }, kinds := [], alts := [], laidByText := true, laidKinds := [.data, .data, .data, .sentinel, .sentinel], laidTests := true, laidLooks := .later }
def FnWaitsCardSaid : Prop := Claim7.holds Tryz.pinned (.plain (OpenSpec.ofChange fnWaitsSpec)) fnWaitsCard

/-- THE TIED CARD OF 'laws.FnWorldGoes'. -/
def fnWorldGoesCard : Claim7 := { stood := { row := fnWorldGoesRow, standIns := [], harness := (true, "1bc330a6f74d692afe356cdcd4a965ed82aa6f4f18f0a4da60bf3f302d821519"), looks := true }, kinds := [], alts := [], laidByText := true, laidKinds := [.data, .data, .data, .sentinel, .sentinel], laidTests := true, laidLooks := .later }
def FnWorldGoesCardSaid : Prop := Claim7.holds Tryz.pinned (.plain (OpenSpec.ofChange fnWorldGoesSpec)) fnWorldGoesCard

/-- THE TIED CARD OF 'laws.FnWorldWaits'. -/
def fnWorldWaitsCard : Claim7 := { stood := { row := fnWorldWaitsRow, standIns := [], harness := (true, "1bc330a6f74d692afe356cdcd4a965ed82aa6f4f18f0a4da60bf3f302d821519"), looks := true }, kinds := [], alts := [], laidByText := true, laidKinds := [.data, .data, .data, .sentinel, .sentinel], laidTests := true, laidLooks := .later }
def FnWorldWaitsCardSaid : Prop := Claim7.holds Tryz.pinned (.plain (OpenSpec.ofChange fnWorldWaitsSpec)) fnWorldWaitsCard

/-- THE TIED CARD OF 'laws.FnWorldLinks'. -/
def fnWorldLinksCard : Claim7 := { stood := { row := fnWorldLinksRow, standIns := [], harness := (true, "1bc330a6f74d692afe356cdcd4a965ed82aa6f4f18f0a4da60bf3f302d821519"), looks := true }, kinds := [], alts := [], laidByText := true, laidKinds := [.data, .data, .data, .sentinel, .sentinel], laidTests := true, laidLooks := .later }
def FnWorldLinksCardSaid : Prop := Claim7.holds Tryz.pinned (.plain (OpenSpec.ofChange fnWorldLinksSpec)) fnWorldLinksCard

/-- THE TIED CARD OF 'laws.FnWorldFull'. -/
def fnWorldFullCard : Claim7 := { stood := { row := fnWorldFullRow, standIns := [], harness := (true, "1bc330a6f74d692afe356cdcd4a965ed82aa6f4f18f0a4da60bf3f302d821519"), looks := true }, kinds := [], alts := [], laidByText := true, laidKinds := [.data, .data, .data, .sentinel, .sentinel], laidTests := true, laidLooks := .later }
def FnWorldFullCardSaid : Prop := Claim7.holds Tryz.pinned (.plain (OpenSpec.ofChange fnWorldFullSpec)) fnWorldFullCard

/-- THE TIED CARD OF 'laws.FnAlive'. -/
def fnAliveCard : Claim7 := { stood := { row := fnAliveRow, standIns := [], harness := (true, "1bc330a6f74d692afe356cdcd4a965ed82aa6f4f18f0a4da60bf3f302d821519"), looks := true }, kinds := [], alts := [], laidByText := true, laidKinds := [.data, .data, .data, .sentinel, .sentinel], laidTests := true, laidLooks := .later }
def FnAliveCardSaid : Prop := Claim7.holds Tryz.pinned (.plain (OpenSpec.ofChange fnAliveSpec)) fnAliveCard

/-- THE TIED CARD OF 'laws.FnIdle'. -/
def fnIdleCard : Claim7 := { stood := { row := fnIdleRow, standIns := [], harness := (true, "1bc330a6f74d692afe356cdcd4a965ed82aa6f4f18f0a4da60bf3f302d821519"), looks := true }, kinds := [], alts := [], laidByText := true, laidKinds := [.data, .data, .data, .sentinel, .sentinel], laidTests := true, laidLooks := .later }
def FnIdleCardSaid : Prop := Claim7.holds Tryz.pinned (.plain (OpenSpec.ofChange fnIdleSpec)) fnIdleCard

/-- THE TIED CARD OF 'laws.FnWorldCode'. -/
def fnWorldCodeCard : Claim7 := { stood := { row := fnWorldCodeRow, standIns := [], harness := (true, "1bc330a6f74d692afe356cdcd4a965ed82aa6f4f18f0a4da60bf3f302d821519"), looks := true }, kinds := [], alts := [], laidByText := true, laidKinds := [.data, .data, .data, .sentinel, .sentinel], laidTests := true, laidLooks := .later }
def FnWorldCodeCardSaid : Prop := Claim7.holds Tryz.pinned (.plain (OpenSpec.ofChange fnWorldCodeSpec)) fnWorldCodeCard

/-- THE SECOND FORM's CARD OF 'laws.FnWorldNew'. -/
def fnWorldNewUptoCard : Claim7 := { stood := { row := fnWorldNewUptoRow, standIns := [], harness := (true, "1bc330a6f74d692afe356cdcd4a965ed82aa6f4f18f0a4da60bf3f302d821519"), looks := true }, kinds := [], alts := [], laidByText := true, laidKinds := [.data, .data, .data, .sentinel, .sentinel], laidTests := true, laidLooks := .later }
def FnWorldNewUptoCardSaid : Prop := Claim7.holds Tryz.pinned (.plain (OpenSpec.upto fnWorldNewSpec)) fnWorldNewUptoCard

/-- THE SECOND FORM's CARD OF 'laws.FnWaits'. -/
def fnWaitsUptoCard : Claim7 := { stood := { row := fnWaitsUptoRow, standIns := [], harness := (true, "1bc330a6f74d692afe356cdcd4a965ed82aa6f4f18f0a4da60bf3f302d821519"), looks := true }, kinds := [], alts := [], laidByText := true, laidKinds := [.data, .data, .data, .sentinel, .sentinel], laidTests := true, laidLooks := .later }
def FnWaitsUptoCardSaid : Prop := Claim7.holds Tryz.pinned (.plain (OpenSpec.upto fnWaitsSpec)) fnWaitsUptoCard

/-- THE SECOND FORM's CARD OF 'laws.FnWorldGoes'. -/
def fnWorldGoesUptoCard : Claim7 := { stood := { row := fnWorldGoesUptoRow, standIns := [], harness := (true, "1bc330a6f74d692afe356cdcd4a965ed82aa6f4f18f0a4da60bf3f302d821519"), looks := true }, kinds := [], alts := [], laidByText := true, laidKinds := [.data, .data, .data, .sentinel, .sentinel], laidTests := true, laidLooks := .later }
def FnWorldGoesUptoCardSaid : Prop := Claim7.holds Tryz.pinned (.plain (OpenSpec.upto fnWorldGoesSpec)) fnWorldGoesUptoCard

/-- THE SECOND FORM's CARD OF 'laws.FnWorldWaits'. -/
def fnWorldWaitsUptoCard : Claim7 := { stood := { row := fnWorldWaitsUptoRow, standIns := [], harness := (true, "1bc330a6f74d692afe356cdcd4a965ed82aa6f4f18f0a4da60bf3f302d821519"), looks := true }, kinds := [], alts := [], laidByText := true, laidKinds := [.data, .data, .data, .sentinel, .sentinel], laidTests := true, laidLooks := .later }
def FnWorldWaitsUptoCardSaid : Prop := Claim7.holds Tryz.pinned (.plain (OpenSpec.upto fnWorldWaitsSpec)) fnWorldWaitsUptoCard

/-- THE SECOND FORM's CARD OF 'laws.FnWorldLinks'. -/
def fnWorldLinksUptoCard : Claim7 := { stood := { row := fnWorldLinksUptoRow, standIns := [], harness := (true, "1bc330a6f74d692afe356cdcd4a965ed82aa6f4f18f0a4da60bf3f302d821519"), looks := true }, kinds := [], alts := [], laidByText := true, laidKinds := [.data, .data, .data, .sentinel, .sentinel], laidTests := true, laidLooks := .later }
def FnWorldLinksUptoCardSaid : Prop := Claim7.holds Tryz.pinned (.plain (OpenSpec.upto fnWorldLinksSpec)) fnWorldLinksUptoCard

/-- THE SECOND FORM's CARD OF 'laws.FnWorldFull'. -/
def fnWorldFullUptoCard : Claim7 := { stood := { row := fnWorldFullUptoRow, standIns := [], harness := (true, "1bc330a6f74d692afe356cdcd4a965ed82aa6f4f18f0a4da60bf3f302d821519"), looks := true }, kinds := [], alts := [], laidByText := true, laidKinds := [.data, .data, .data, .sentinel, .sentinel], laidTests := true, laidLooks := .later }
def FnWorldFullUptoCardSaid : Prop := Claim7.holds Tryz.pinned (.plain (OpenSpec.upto fnWorldFullSpec)) fnWorldFullUptoCard

/-- THE SECOND FORM's CARD OF 'laws.FnAlive'. -/
def fnAliveUptoCard : Claim7 := { stood := { row := fnAliveUptoRow, standIns := [], harness := (true, "1bc330a6f74d692afe356cdcd4a965ed82aa6f4f18f0a4da60bf3f302d821519"), looks := true }, kinds := [], alts := [], laidByText := true, laidKinds := [.data, .data, .data, .sentinel, .sentinel], laidTests := true, laidLooks := .later }
def FnAliveUptoCardSaid : Prop := Claim7.holds Tryz.pinned (.plain (OpenSpec.upto fnAliveSpec)) fnAliveUptoCard

/-- THE SECOND FORM's CARD OF 'laws.FnIdle'. -/
def fnIdleUptoCard : Claim7 := { stood := { row := fnIdleUptoRow, standIns := [], harness := (true, "1bc330a6f74d692afe356cdcd4a965ed82aa6f4f18f0a4da60bf3f302d821519"), looks := true }, kinds := [], alts := [], laidByText := true, laidKinds := [.data, .data, .data, .sentinel, .sentinel], laidTests := true, laidLooks := .later }
def FnIdleUptoCardSaid : Prop := Claim7.holds Tryz.pinned (.plain (OpenSpec.upto fnIdleSpec)) fnIdleUptoCard

/-- THE SECOND FORM's CARD OF 'laws.FnWorldCode'. -/
def fnWorldCodeUptoCard : Claim7 := { stood := { row := fnWorldCodeUptoRow, standIns := [], harness := (true, "1bc330a6f74d692afe356cdcd4a965ed82aa6f4f18f0a4da60bf3f302d821519"), looks := true }, kinds := [], alts := [], laidByText := true, laidKinds := [.data, .data, .data, .sentinel, .sentinel], laidTests := true, laidLooks := .later }
def FnWorldCodeUptoCardSaid : Prop := Claim7.holds Tryz.pinned (.plain (OpenSpec.upto fnWorldCodeSpec)) fnWorldCodeUptoCard
end Rows
end Go.Proofs.YtbejochaghmmbaaGreatDoor
