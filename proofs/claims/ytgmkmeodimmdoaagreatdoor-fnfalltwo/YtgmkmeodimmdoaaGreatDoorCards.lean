/-
  DERIVED. GIVEN WITH THE SEED: THE CARDS: each row of YtgmkmeodimmdoaaGreatDoorRows.lean that lists a variable, with what it lists TIED to the program's text (the seventh form; the later family's looks); each row that meets fmt, with fmt's text TOLD by the authors' own Lean function (tested against real Go, not proved from fmt's source: count such statements apart). THE CARD IS WHAT COUNTS. Prove the row's statement (the work); the ties are given (YtgmkmeodimmdoaaGreatDoorTie.lean); close each card by the builder's one call (the guide's Derived/Test/ToyasCard.lean, 'card_holds'). Laid BY PROGRAM, IN A SANDBOX (cutbox-door.mjs). By AI agents, Wed Nov 11 2026. No macro, syntax, notation, axiom, sorry.
-/
import Derived.Test.YtgmkmeodimmdoaaGreatDoorRows
import GoSem.ClaimSeven
namespace Go.Proofs.YtgmkmeodimmdoaaGreatDoor
namespace Rows

/-- THE TIED CARD OF 'laws.FnIdle'. -/
def fnIdleCard : Claim7 := { stood := { row := fnIdleRow, standIns := [], harness := (true, "1afe310e63a74168e6ec5042af57de8858d3841fd73b4280645ebdb9b20bd0c2"), looks := true }, kinds := [], alts := [], laidByText := true, laidKinds := [.data, .data, .data, .sentinel, .sentinel], laidTests := true, laidLooks := .later }
def FnIdleCardSaid : Prop := Claim7.holds Tryz.pinned (.plain (OpenSpec.ofChange fnIdleSpec)) fnIdleCard

/-- THE TIED CARD OF 'laws.FnFallAll'. -/
def fnFallAllCard : Claim7 := { stood := { row := fnFallAllRow, standIns := [], harness := (true, "1afe310e63a74168e6ec5042af57de8858d3841fd73b4280645ebdb9b20bd0c2"), looks := true }, kinds := [], alts := [], laidByText := true, laidKinds := [.data, .data, .data, .sentinel, .sentinel], laidTests := true, laidLooks := .later }
def FnFallAllCardSaid : Prop := Claim7.holds Tryz.pinned (.plain (OpenSpec.ofChange fnFallAllSpec)) fnFallAllCard

/-- THE TIED CARD OF 'laws.FnFallTold'. -/
def fnFallToldCard : Claim7 := { stood := { row := fnFallToldRow, standIns := [], harness := (true, "1afe310e63a74168e6ec5042af57de8858d3841fd73b4280645ebdb9b20bd0c2"), looks := true }, kinds := [], alts := [], laidByText := true, laidKinds := [.data, .data, .data, .sentinel, .sentinel], laidTests := true, laidLooks := .later }
def FnFallToldCardSaid : Prop := Claim7.holds Tryz.pinned (.plain (OpenSpec.ofChange fnFallToldSpec)) fnFallToldCard

/-- THE TIED CARD OF 'laws.FnFallTwice'. -/
def fnFallTwiceCard : Claim7 := { stood := { row := fnFallTwiceRow, standIns := [], harness := (true, "1afe310e63a74168e6ec5042af57de8858d3841fd73b4280645ebdb9b20bd0c2"), looks := true }, kinds := [], alts := [], laidByText := true, laidKinds := [.data, .data, .data, .sentinel, .sentinel], laidTests := true, laidLooks := .later }
def FnFallTwiceCardSaid : Prop := Claim7.holds Tryz.pinned (.plain (OpenSpec.ofChange fnFallTwiceSpec)) fnFallTwiceCard

/-- THE TIED CARD OF 'laws.FnFallNormal'. -/
def fnFallNormalCard : Claim7 := { stood := { row := fnFallNormalRow, standIns := [], harness := (true, "1afe310e63a74168e6ec5042af57de8858d3841fd73b4280645ebdb9b20bd0c2"), looks := true }, kinds := [], alts := [], laidByText := true, laidKinds := [.data, .data, .data, .sentinel, .sentinel], laidTests := true, laidLooks := .later }
def FnFallNormalCardSaid : Prop := Claim7.holds Tryz.pinned (.plain (OpenSpec.ofChange fnFallNormalSpec)) fnFallNormalCard

/-- THE TIED CARD OF 'laws.FnFallWith'. -/
def fnFallWithCard : Claim7 := { stood := { row := fnFallWithRow, standIns := [], harness := (true, "1afe310e63a74168e6ec5042af57de8858d3841fd73b4280645ebdb9b20bd0c2"), looks := true }, kinds := [], alts := [], laidByText := true, laidKinds := [.data, .data, .data, .sentinel, .sentinel], laidTests := true, laidLooks := .later }
def FnFallWithCardSaid : Prop := Claim7.holds Tryz.pinned (.plain (OpenSpec.ofChange fnFallWithSpec)) fnFallWithCard

/-- THE TIED CARD OF 'laws.FnFallOthers'. -/
def fnFallOthersCard : Claim7 := { stood := { row := fnFallOthersRow, standIns := [], harness := (true, "1afe310e63a74168e6ec5042af57de8858d3841fd73b4280645ebdb9b20bd0c2"), looks := true }, kinds := [], alts := [], laidByText := true, laidKinds := [.data, .data, .data, .sentinel, .sentinel], laidTests := true, laidLooks := .later }
def FnFallOthersCardSaid : Prop := Claim7.holds Tryz.pinned (.plain (OpenSpec.ofChange fnFallOthersSpec)) fnFallOthersCard

/-- THE TIED CARD OF 'laws.FnFallTrap'. -/
def fnFallTrapCard : Claim7 := { stood := { row := fnFallTrapRow, standIns := [], harness := (true, "1afe310e63a74168e6ec5042af57de8858d3841fd73b4280645ebdb9b20bd0c2"), looks := true }, kinds := [], alts := [], laidByText := true, laidKinds := [.data, .data, .data, .sentinel, .sentinel], laidTests := true, laidLooks := .later }
def FnFallTrapCardSaid : Prop := Claim7.holds Tryz.pinned (.plain (OpenSpec.ofChange fnFallTrapSpec)) fnFallTrapCard

/-- THE TIED CARD OF 'laws.FnFallSum'. -/
def fnFallSumCard : Claim7 := { stood := { row := fnFallSumRow, standIns := [], harness := (true, "1afe310e63a74168e6ec5042af57de8858d3841fd73b4280645ebdb9b20bd0c2"), looks := true }, kinds := [], alts := [], laidByText := true, laidKinds := [.data, .data, .data, .sentinel, .sentinel], laidTests := true, laidLooks := .later }
def FnFallSumCardSaid : Prop := Claim7.holds Tryz.pinned (.plain (OpenSpec.ofChange fnFallSumSpec)) fnFallSumCard

/-- THE TIED CARD OF 'laws.FnFallTwo'. -/
def fnFallTwoCard : Claim7 := { stood := { row := fnFallTwoRow, standIns := [], harness := (true, "1afe310e63a74168e6ec5042af57de8858d3841fd73b4280645ebdb9b20bd0c2"), looks := true }, kinds := [], alts := [], laidByText := true, laidKinds := [.data, .data, .data, .sentinel, .sentinel], laidTests := true, laidLooks := .later }
def FnFallTwoCardSaid : Prop := Claim7.holds Tryz.pinned (.plain (OpenSpec.ofChange fnFallTwoSpec)) fnFallTwoCard

/-- THE TIED CARD OF 'laws.FnTellNormal'. -/
def fnTellNormalCard : Claim7 := { stood := { row := fnTellNormalRow, standIns := [], harness := (true, "1afe310e63a74168e6ec5042af57de8858d3841fd73b4280645ebdb9b20bd0c2"), looks := true }, kinds := [], alts := [], laidByText := true, laidKinds := [.data, .data, .data, .sentinel, .sentinel], laidTests := true, laidLooks := .later }
def FnTellNormalCardSaid : Prop := Claim7.holds Tryz.pinned (.plain (OpenSpec.ofChange fnTellNormalSpec)) fnTellNormalCard

/-- THE SECOND FORM's CARD OF 'laws.FnIdle'. -/
def fnIdleUptoCard : Claim7 := { stood := { row := fnIdleUptoRow, standIns := [], harness := (true, "1afe310e63a74168e6ec5042af57de8858d3841fd73b4280645ebdb9b20bd0c2"), looks := true }, kinds := [], alts := [], laidByText := true, laidKinds := [.data, .data, .data, .sentinel, .sentinel], laidTests := true, laidLooks := .later }
def FnIdleUptoCardSaid : Prop := Claim7.holds Tryz.pinned (.plain (OpenSpec.upto fnIdleSpec)) fnIdleUptoCard

/-- THE SECOND FORM's CARD OF 'laws.FnFallAll'. -/
def fnFallAllUptoCard : Claim7 := { stood := { row := fnFallAllUptoRow, standIns := [], harness := (true, "1afe310e63a74168e6ec5042af57de8858d3841fd73b4280645ebdb9b20bd0c2"), looks := true }, kinds := [], alts := [], laidByText := true, laidKinds := [.data, .data, .data, .sentinel, .sentinel], laidTests := true, laidLooks := .later }
def FnFallAllUptoCardSaid : Prop := Claim7.holds Tryz.pinned (.plain (OpenSpec.upto fnFallAllSpec)) fnFallAllUptoCard

/-- THE SECOND FORM's CARD OF 'laws.FnFallTold'. -/
def fnFallToldUptoCard : Claim7 := { stood := { row := fnFallToldUptoRow, standIns := [], harness := (true, "1afe310e63a74168e6ec5042af57de8858d3841fd73b4280645ebdb9b20bd0c2"), looks := true }, kinds := [], alts := [], laidByText := true, laidKinds := [.data, .data, .data, .sentinel, .sentinel], laidTests := true, laidLooks := .later }
def FnFallToldUptoCardSaid : Prop := Claim7.holds Tryz.pinned (.plain (OpenSpec.upto fnFallToldSpec)) fnFallToldUptoCard

/-- THE SECOND FORM's CARD OF 'laws.FnFallTwice'. -/
def fnFallTwiceUptoCard : Claim7 := { stood := { row := fnFallTwiceUptoRow, standIns := [], harness := (true, "1afe310e63a74168e6ec5042af57de8858d3841fd73b4280645ebdb9b20bd0c2"), looks := true }, kinds := [], alts := [], laidByText := true, laidKinds := [.data, .data, .data, .sentinel, .sentinel], laidTests := true, laidLooks := .later }
def FnFallTwiceUptoCardSaid : Prop := Claim7.holds Tryz.pinned (.plain (OpenSpec.upto fnFallTwiceSpec)) fnFallTwiceUptoCard

/-- THE SECOND FORM's CARD OF 'laws.FnFallNormal'. -/
def fnFallNormalUptoCard : Claim7 := { stood := { row := fnFallNormalUptoRow, standIns := [], harness := (true, "1afe310e63a74168e6ec5042af57de8858d3841fd73b4280645ebdb9b20bd0c2"), looks := true }, kinds := [], alts := [], laidByText := true, laidKinds := [.data, .data, .data, .sentinel, .sentinel], laidTests := true, laidLooks := .later }
def FnFallNormalUptoCardSaid : Prop := Claim7.holds Tryz.pinned (.plain (OpenSpec.upto fnFallNormalSpec)) fnFallNormalUptoCard

/-- THE SECOND FORM's CARD OF 'laws.FnFallWith'. -/
def fnFallWithUptoCard : Claim7 := { stood := { row := fnFallWithUptoRow, standIns := [], harness := (true, "1afe310e63a74168e6ec5042af57de8858d3841fd73b4280645ebdb9b20bd0c2"), looks := true }, kinds := [], alts := [], laidByText := true, laidKinds := [.data, .data, .data, .sentinel, .sentinel], laidTests := true, laidLooks := .later }
def FnFallWithUptoCardSaid : Prop := Claim7.holds Tryz.pinned (.plain (OpenSpec.upto fnFallWithSpec)) fnFallWithUptoCard

/-- THE SECOND FORM's CARD OF 'laws.FnFallOthers'. -/
def fnFallOthersUptoCard : Claim7 := { stood := { row := fnFallOthersUptoRow, standIns := [], harness := (true, "1afe310e63a74168e6ec5042af57de8858d3841fd73b4280645ebdb9b20bd0c2"), looks := true }, kinds := [], alts := [], laidByText := true, laidKinds := [.data, .data, .data, .sentinel, .sentinel], laidTests := true, laidLooks := .later }
def FnFallOthersUptoCardSaid : Prop := Claim7.holds Tryz.pinned (.plain (OpenSpec.upto fnFallOthersSpec)) fnFallOthersUptoCard

/-- THE SECOND FORM's CARD OF 'laws.FnFallTrap'. -/
def fnFallTrapUptoCard : Claim7 := { stood := { row := fnFallTrapUptoRow, standIns := [], harness := (true, "1afe310e63a74168e6ec5042af57de8858d3841fd73b4280645ebdb9b20bd0c2"), looks := true }, kinds := [], alts := [], laidByText := true, laidKinds := [.data, .data, .data, .sentinel, .sentinel], laidTests := true, laidLooks := .later }
def FnFallTrapUptoCardSaid : Prop := Claim7.holds Tryz.pinned (.plain (OpenSpec.upto fnFallTrapSpec)) fnFallTrapUptoCard

/-- THE SECOND FORM's CARD OF 'laws.FnFallSum'. -/
def fnFallSumUptoCard : Claim7 := { stood := { row := fnFallSumUptoRow, standIns := [], harness := (true, "1afe310e63a74168e6ec5042af57de8858d3841fd73b4280645ebdb9b20bd0c2"), looks := true }, kinds := [], alts := [], laidByText := true, laidKinds := [.data, .data, .data, .sentinel, .sentinel], laidTests := true, laidLooks := .later }
def FnFallSumUptoCardSaid : Prop := Claim7.holds Tryz.pinned (.plain (OpenSpec.upto fnFallSumSpec)) fnFallSumUptoCard

/-- THE SECOND FORM's CARD OF 'laws.FnFallTwo'. -/
def fnFallTwoUptoCard : Claim7 := { stood := { row := fnFallTwoUptoRow, standIns := [], harness := (true, "1afe310e63a74168e6ec5042af57de8858d3841fd73b4280645ebdb9b20bd0c2"), looks := true }, kinds := [], alts := [], laidByText := true, laidKinds := [.data, .data, .data, .sentinel, .sentinel], laidTests := true, laidLooks := .later }
def FnFallTwoUptoCardSaid : Prop := Claim7.holds Tryz.pinned (.plain (OpenSpec.upto fnFallTwoSpec)) fnFallTwoUptoCard

/-- THE SECOND FORM's CARD OF 'laws.FnTellNormal'. -/
def fnTellNormalUptoCard : Claim7 := { stood := { row := fnTellNormalUptoRow, standIns := [], harness := (true, "1afe310e63a74168e6ec5042af57de8858d3841fd73b4280645ebdb9b20bd0c2"), looks := true }, kinds := [], alts := [], laidByText := true, laidKinds := [.data, .data, .data, .sentinel, .sentinel], laidTests := true, laidLooks := .later }
def FnTellNormalUptoCardSaid : Prop := Claim7.holds Tryz.pinned (.plain (OpenSpec.upto fnTellNormalSpec)) fnTellNormalUptoCard
end Rows
end Go.Proofs.YtgmkmeodimmdoaaGreatDoor
