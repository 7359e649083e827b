/-
  DERIVED. GIVEN WITH THE SEED: THE CARDS: each row of YtllbeifcipefjaaGreatDoorRows.lean that lists a variable, with what it lists TIED to the program's text (the seventh form; the later family's looks); each row that meets fmt, with fmt's text TOLD by the authors' own Lean function (tested against real Go, not proved from fmt's source: count such statements apart). THE CARD IS WHAT COUNTS. Prove the row's statement (the work); the ties are given (YtllbeifcipefjaaGreatDoorTie.lean); close each card by the builder's one call (the guide's Derived/Test/ToyasCard.lean, 'card_holds'). Laid BY PROGRAM, IN A SANDBOX (cutbox-door.mjs). By AI agents, Wed Nov 11 2026. No macro, syntax, notation, axiom, sorry.
-/
import Derived.Test.YtllbeifcipefjaaGreatDoorRows
import GoSem.ClaimSeven
namespace Go.Proofs.YtllbeifcipefjaaGreatDoor
namespace Rows

/-- THE TIED CARD OF 'laws.FnGive'. -/
def fnGiveCard : Claim7 := { stood := { row := fnGiveRow, standIns := [], harness := (true, "1b49dabcbec0b0e95761d8fb9810c7e376875e6b5a2cb20de660ec5e62b91c99"), looks := true }, kinds := [], alts := [], laidByText := true, laidKinds := [.data, .data, .data, .sentinel, .sentinel], laidTests := true, laidLooks := .later }
def FnGiveCardSaid : Prop := Claim7.holds Tryz.pinned (.plain (OpenSpec.ofChange fnGiveSpec)) fnGiveCard

/-- THE TIED CARD OF 'laws.FnGiveWakes'. -/
def fnGiveWakesCard : Claim7 := { stood := { row := fnGiveWakesRow, standIns := [], harness := (true, "1b49dabcbec0b0e95761d8fb9810c7e376875e6b5a2cb20de660ec5e62b91c99"), looks := true }, kinds := [], alts := [], laidByText := true, laidKinds := [.data, .data, .data, .sentinel, .sentinel], laidTests := true, laidLooks := .later }
def FnGiveWakesCardSaid : Prop := Claim7.holds Tryz.pinned (.plain (OpenSpec.ofChange fnGiveWakesSpec)) fnGiveWakesCard

/-- THE TIED CARD OF 'laws.FnGiveTwo'. -/
def fnGiveTwoCard : Claim7 := { stood := { row := fnGiveTwoRow, standIns := [], harness := (true, "1b49dabcbec0b0e95761d8fb9810c7e376875e6b5a2cb20de660ec5e62b91c99"), looks := true }, kinds := [], alts := [], laidByText := true, laidKinds := [.data, .data, .data, .sentinel, .sentinel], laidTests := true, laidLooks := .later }
def FnGiveTwoCardSaid : Prop := Claim7.holds Tryz.pinned (.plain (OpenSpec.ofChange fnGiveTwoSpec)) fnGiveTwoCard

/-- THE TIED CARD OF 'laws.FnGiveFull'. -/
def fnGiveFullCard : Claim7 := { stood := { row := fnGiveFullRow, standIns := [], harness := (true, "1b49dabcbec0b0e95761d8fb9810c7e376875e6b5a2cb20de660ec5e62b91c99"), looks := true }, kinds := [], alts := [], laidByText := true, laidKinds := [.data, .data, .data, .sentinel, .sentinel], laidTests := true, laidLooks := .later }
def FnGiveFullCardSaid : Prop := Claim7.holds Tryz.pinned (.plain (OpenSpec.ofChange fnGiveFullSpec)) fnGiveFullCard

/-- THE SECOND FORM's CARD OF 'laws.FnGive'. -/
def fnGiveUptoCard : Claim7 := { stood := { row := fnGiveUptoRow, standIns := [], harness := (true, "1b49dabcbec0b0e95761d8fb9810c7e376875e6b5a2cb20de660ec5e62b91c99"), looks := true }, kinds := [], alts := [], laidByText := true, laidKinds := [.data, .data, .data, .sentinel, .sentinel], laidTests := true, laidLooks := .later }
def FnGiveUptoCardSaid : Prop := Claim7.holds Tryz.pinned (.plain (OpenSpec.upto fnGiveSpec)) fnGiveUptoCard

/-- THE SECOND FORM's CARD OF 'laws.FnGiveWakes'. -/
def fnGiveWakesUptoCard : Claim7 := { stood := { row := fnGiveWakesUptoRow, standIns := [], harness := (true, "1b49dabcbec0b0e95761d8fb9810c7e376875e6b5a2cb20de660ec5e62b91c99"), looks := true }, kinds := [], alts := [], laidByText := true, laidKinds := [.data, .data, .data, .sentinel, .sentinel], laidTests := true, laidLooks := .later }
def FnGiveWakesUptoCardSaid : Prop := Claim7.holds Tryz.pinned (.plain (OpenSpec.upto fnGiveWakesSpec)) fnGiveWakesUptoCard

/-- THE SECOND FORM's CARD OF 'laws.FnGiveTwo'. -/
def fnGiveTwoUptoCard : Claim7 := { stood := { row := fnGiveTwoUptoRow, standIns := [], harness := (true, "1b49dabcbec0b0e95761d8fb9810c7e376875e6b5a2cb20de660ec5e62b91c99"), looks := true }, kinds := [], alts := [], laidByText := true, laidKinds := [.data, .data, .data, .sentinel, .sentinel], laidTests := true, laidLooks := .later }
def FnGiveTwoUptoCardSaid : Prop := Claim7.holds Tryz.pinned (.plain (OpenSpec.upto fnGiveTwoSpec)) fnGiveTwoUptoCard

/-- THE SECOND FORM's CARD OF 'laws.FnGiveFull'. -/
def fnGiveFullUptoCard : Claim7 := { stood := { row := fnGiveFullUptoRow, standIns := [], harness := (true, "1b49dabcbec0b0e95761d8fb9810c7e376875e6b5a2cb20de660ec5e62b91c99"), looks := true }, kinds := [], alts := [], laidByText := true, laidKinds := [.data, .data, .data, .sentinel, .sentinel], laidTests := true, laidLooks := .later }
def FnGiveFullUptoCardSaid : Prop := Claim7.holds Tryz.pinned (.plain (OpenSpec.upto fnGiveFullSpec)) fnGiveFullUptoCard
end Rows
end Go.Proofs.YtllbeifcipefjaaGreatDoor
