/-
  DERIVED. GIVEN WITH THE SEED: THE CARDS: each row of YtjhpaoadpcnlnaaGreatDoorRows.lean that lists a variable, with what it lists TIED to the program's text (the seventh form; the later family's looks); each row that meets fmt, with fmt's text TOLD by the authors' own Lean function (tested against real Go, not proved from fmt's source: count such statements apart). THE CARD IS WHAT COUNTS. Prove the row's statement (the work); the ties are given (YtjhpaoadpcnlnaaGreatDoorTie.lean); close each card by the builder's one call (the guide's Derived/Test/ToyasCard.lean, 'card_holds'). Laid BY PROGRAM, IN A SANDBOX (cutbox-door.mjs). By AI agents, Wed Nov 11 2026. No macro, syntax, notation, axiom, sorry.
-/
import Derived.Test.YtjhpaoadpcnlnaaGreatDoorRows
import GoSem.ClaimSeven
namespace Go.Proofs.YtjhpaoadpcnlnaaGreatDoor
namespace Rows

/-- THE TIED CARD OF 'laws.FnOpBack'. -/
def fnOpBackCard : Claim7 := { stood := { row := fnOpBackRow, standIns := [], harness := (true, "9ddf3bf8261d44f11a83e63cd5a96b63bf83c294983eaa64d2350e954e1f5910"), looks := true }, kinds := [], alts := [], laidByText := true, laidKinds := [.data, .data, .data, .data, .sentinel, .sentinel, .pinned], laidTests := true, laidLooks := .later }
def FnOpBackCardSaid : Prop := Claim7.holds Tryz.pinned (.plain (OpenSpec.ofChange fnOpBackSpec)) fnOpBackCard

/-- THE TIED CARD OF 'laws.FnOpStrict'. -/
def fnOpStrictCard : Claim7 := { stood := { row := fnOpStrictRow, standIns := [], harness := (true, "9ddf3bf8261d44f11a83e63cd5a96b63bf83c294983eaa64d2350e954e1f5910"), looks := true }, kinds := [], alts := [], laidByText := true, laidKinds := [.data, .data, .data, .data, .sentinel, .sentinel, .pinned], laidTests := true, laidLooks := .later }
def FnOpStrictCardSaid : Prop := Claim7.holds Tryz.pinned (.plain (OpenSpec.ofChange fnOpStrictSpec)) fnOpStrictCard

/-- THE TIED CARD OF 'laws.FnOpCut'. -/
def fnOpCutCard : Claim7 := { stood := { row := fnOpCutRow, standIns := [], harness := (true, "9ddf3bf8261d44f11a83e63cd5a96b63bf83c294983eaa64d2350e954e1f5910"), looks := true }, kinds := [], alts := [], laidByText := true, laidKinds := [.data, .data, .data, .data, .sentinel, .sentinel, .pinned], laidTests := true, laidLooks := .later }
def FnOpCutCardSaid : Prop := Claim7.holds Tryz.pinned (.plain (OpenSpec.ofChange fnOpCutSpec)) fnOpCutCard

/-- THE TIED CARD OF 'laws.FnCodeGoes'. -/
def fnCodeGoesCard : Claim7 := { stood := { row := fnCodeGoesRow, standIns := [], harness := (true, "9ddf3bf8261d44f11a83e63cd5a96b63bf83c294983eaa64d2350e954e1f5910"), looks := true }, kinds := [], alts := [], laidByText := true, laidKinds := [.data, .data, .data, .sentinel, .sentinel], laidTests := true, laidLooks := .later }
def FnCodeGoesCardSaid : Prop := Claim7.holds Tryz.pinned (.plain (OpenSpec.ofChange fnCodeGoesSpec)) fnCodeGoesCard

/-- THE TIED CARD OF 'laws.FnFullFirst'. -/
def fnFullFirstCard : Claim7 := { stood := { row := fnFullFirstRow, standIns := [], harness := (true, "9ddf3bf8261d44f11a83e63cd5a96b63bf83c294983eaa64d2350e954e1f5910"), looks := true }, kinds := [], alts := [], laidByText := true, laidKinds := [.data, .data, .data, .sentinel, .sentinel], laidTests := true, laidLooks := .later }
def FnFullFirstCardSaid : Prop := Claim7.holds Tryz.pinned (.plain (OpenSpec.ofChange fnFullFirstSpec)) fnFullFirstCard

/-- THE TIED CARD OF 'laws.FnFullStep'. -/
def fnFullStepCard : Claim7 := { stood := { row := fnFullStepRow, standIns := [], harness := (true, "9ddf3bf8261d44f11a83e63cd5a96b63bf83c294983eaa64d2350e954e1f5910"), looks := true }, kinds := [], alts := [], laidByText := true, laidKinds := [.data, .data, .data, .sentinel, .sentinel], laidTests := true, laidLooks := .later }
def FnFullStepCardSaid : Prop := Claim7.holds Tryz.pinned (.plain (OpenSpec.ofChange fnFullStepSpec)) fnFullStepCard

/-- THE TIED CARD OF 'laws.FnFullReach'. -/
def fnFullReachCard : Claim7 := { stood := { row := fnFullReachRow, standIns := [], harness := (true, "9ddf3bf8261d44f11a83e63cd5a96b63bf83c294983eaa64d2350e954e1f5910"), looks := true }, kinds := [], alts := [], laidByText := true, laidKinds := [.data, .data, .data, .sentinel, .sentinel], laidTests := true, laidLooks := .later }
def FnFullReachCardSaid : Prop := Claim7.holds Tryz.pinned (.plain (OpenSpec.ofChange fnFullReachSpec)) fnFullReachCard

/-- THE TIED CARD OF 'laws.FnNextReach'. -/
def fnNextReachCard : Claim7 := { stood := { row := fnNextReachRow, standIns := [], harness := (true, "9ddf3bf8261d44f11a83e63cd5a96b63bf83c294983eaa64d2350e954e1f5910"), looks := true }, kinds := [], alts := [], laidByText := true, laidKinds := [.data, .data, .data, .sentinel, .sentinel], laidTests := true, laidLooks := .later }
def FnNextReachCardSaid : Prop := Claim7.holds Tryz.pinned (.plain (OpenSpec.ofChange fnNextReachSpec)) fnNextReachCard

/-- THE TIED CARD OF 'laws.FnNext'. -/
def fnNextCard : Claim7 := { stood := { row := fnNextRow, standIns := [], harness := (true, "9ddf3bf8261d44f11a83e63cd5a96b63bf83c294983eaa64d2350e954e1f5910"), looks := true }, kinds := [], alts := [], laidByText := true, laidKinds := [.data, .data, .data, .sentinel, .sentinel], laidTests := true, laidLooks := .later }
def FnNextCardSaid : Prop := Claim7.holds Tryz.pinned (.plain (OpenSpec.ofChange fnNextSpec)) fnNextCard

/-- THE TIED CARD OF 'laws.FnSafe'. -/
def fnSafeCard : Claim7 := { stood := { row := fnSafeRow, standIns := [], harness := (true, "9ddf3bf8261d44f11a83e63cd5a96b63bf83c294983eaa64d2350e954e1f5910"), looks := true }, kinds := [], alts := [], laidByText := true, laidKinds := [.data, .data, .data, .sentinel, .sentinel], laidTests := true, laidLooks := .later }
def FnSafeCardSaid : Prop := Claim7.holds Tryz.pinned (.plain (OpenSpec.ofChange fnSafeSpec)) fnSafeCard

/-- THE TIED CARD OF 'laws.FnSafeMore'. -/
def fnSafeMoreCard : Claim7 := { stood := { row := fnSafeMoreRow, standIns := [], harness := (true, "9ddf3bf8261d44f11a83e63cd5a96b63bf83c294983eaa64d2350e954e1f5910"), looks := true }, kinds := [], alts := [], laidByText := true, laidKinds := [.data, .data, .data, .sentinel, .sentinel], laidTests := true, laidLooks := .later }
def FnSafeMoreCardSaid : Prop := Claim7.holds Tryz.pinned (.plain (OpenSpec.ofChange fnSafeMoreSpec)) fnSafeMoreCard

/-- THE TIED CARD OF 'laws.FnReachAll'. -/
def fnReachAllCard : Claim7 := { stood := { row := fnReachAllRow, standIns := [], harness := (true, "9ddf3bf8261d44f11a83e63cd5a96b63bf83c294983eaa64d2350e954e1f5910"), looks := true }, kinds := [], alts := [], laidByText := true, laidKinds := [.data, .data, .data, .sentinel, .sentinel], laidTests := true, laidLooks := .later }
def FnReachAllCardSaid : Prop := Claim7.holds Tryz.pinned (.plain (OpenSpec.ofChange fnReachAllSpec)) fnReachAllCard

/-- THE TIED CARD OF 'laws.FnSafeEmpty'. -/
def fnSafeEmptyCard : Claim7 := { stood := { row := fnSafeEmptyRow, standIns := [], harness := (true, "9ddf3bf8261d44f11a83e63cd5a96b63bf83c294983eaa64d2350e954e1f5910"), looks := true }, kinds := [], alts := [], laidByText := true, laidKinds := [.data, .data, .data, .sentinel, .sentinel], laidTests := true, laidLooks := .later }
def FnSafeEmptyCardSaid : Prop := Claim7.holds Tryz.pinned (.plain (OpenSpec.ofChange fnSafeEmptySpec)) fnSafeEmptyCard

/-- THE TIED CARD OF 'laws.FnNextTo'. -/
def fnNextToCard : Claim7 := { stood := { row := fnNextToRow, standIns := [], harness := (true, "9ddf3bf8261d44f11a83e63cd5a96b63bf83c294983eaa64d2350e954e1f5910"), looks := true }, kinds := [], alts := [], laidByText := true, laidKinds := [.data, .data, .data, .sentinel, .sentinel], laidTests := true, laidLooks := .later }
def FnNextToCardSaid : Prop := Claim7.holds Tryz.pinned (.plain (OpenSpec.ofChange fnNextToSpec)) fnNextToCard

/-- THE TIED CARD OF 'laws.FnExactOpRead'. -/
def fnExactOpReadCard : Claim7 := { stood := { row := fnExactOpReadRow, standIns := [], harness := (true, "9ddf3bf8261d44f11a83e63cd5a96b63bf83c294983eaa64d2350e954e1f5910"), looks := true }, kinds := [], alts := [], laidByText := true, laidKinds := [.data, .data, .data, .data, .sentinel, .sentinel, .pinned], laidTests := true, laidLooks := .later }
def FnExactOpReadCardSaid : Prop := Claim7.holds Tryz.pinned (.plain (OpenSpec.ofChange fnExactOpReadSpec)) fnExactOpReadCard

/-- THE SECOND FORM's CARD OF 'laws.FnOpBack'. -/
def fnOpBackUptoCard : Claim7 := { stood := { row := fnOpBackUptoRow, standIns := [], harness := (true, "9ddf3bf8261d44f11a83e63cd5a96b63bf83c294983eaa64d2350e954e1f5910"), looks := true }, kinds := [], alts := [], laidByText := true, laidKinds := [.data, .data, .data, .data, .sentinel, .sentinel, .pinned], laidTests := true, laidLooks := .later }
def FnOpBackUptoCardSaid : Prop := Claim7.holds Tryz.pinned (.plain (OpenSpec.upto fnOpBackSpec)) fnOpBackUptoCard

/-- THE SECOND FORM's CARD OF 'laws.FnOpStrict'. -/
def fnOpStrictUptoCard : Claim7 := { stood := { row := fnOpStrictUptoRow, standIns := [], harness := (true, "9ddf3bf8261d44f11a83e63cd5a96b63bf83c294983eaa64d2350e954e1f5910"), looks := true }, kinds := [], alts := [], laidByText := true, laidKinds := [.data, .data, .data, .data, .sentinel, .sentinel, .pinned], laidTests := true, laidLooks := .later }
def FnOpStrictUptoCardSaid : Prop := Claim7.holds Tryz.pinned (.plain (OpenSpec.upto fnOpStrictSpec)) fnOpStrictUptoCard

/-- THE SECOND FORM's CARD OF 'laws.FnOpCut'. -/
def fnOpCutUptoCard : Claim7 := { stood := { row := fnOpCutUptoRow, standIns := [], harness := (true, "9ddf3bf8261d44f11a83e63cd5a96b63bf83c294983eaa64d2350e954e1f5910"), looks := true }, kinds := [], alts := [], laidByText := true, laidKinds := [.data, .data, .data, .data, .sentinel, .sentinel, .pinned], laidTests := true, laidLooks := .later }
def FnOpCutUptoCardSaid : Prop := Claim7.holds Tryz.pinned (.plain (OpenSpec.upto fnOpCutSpec)) fnOpCutUptoCard

/-- THE SECOND FORM's CARD OF 'laws.FnCodeGoes'. -/
def fnCodeGoesUptoCard : Claim7 := { stood := { row := fnCodeGoesUptoRow, standIns := [], harness := (true, "9ddf3bf8261d44f11a83e63cd5a96b63bf83c294983eaa64d2350e954e1f5910"), looks := true }, kinds := [], alts := [], laidByText := true, laidKinds := [.data, .data, .data, .sentinel, .sentinel], laidTests := true, laidLooks := .later }
def FnCodeGoesUptoCardSaid : Prop := Claim7.holds Tryz.pinned (.plain (OpenSpec.upto fnCodeGoesSpec)) fnCodeGoesUptoCard

/-- THE SECOND FORM's CARD OF 'laws.FnFullFirst'. -/
def fnFullFirstUptoCard : Claim7 := { stood := { row := fnFullFirstUptoRow, standIns := [], harness := (true, "9ddf3bf8261d44f11a83e63cd5a96b63bf83c294983eaa64d2350e954e1f5910"), looks := true }, kinds := [], alts := [], laidByText := true, laidKinds := [.data, .data, .data, .sentinel, .sentinel], laidTests := true, laidLooks := .later }
def FnFullFirstUptoCardSaid : Prop := Claim7.holds Tryz.pinned (.plain (OpenSpec.upto fnFullFirstSpec)) fnFullFirstUptoCard

/-- THE SECOND FORM's CARD OF 'laws.FnFullStep'. -/
def fnFullStepUptoCard : Claim7 := { stood := { row := fnFullStepUptoRow, standIns := [], harness := (true, "9ddf3bf8261d44f11a83e63cd5a96b63bf83c294983eaa64d2350e954e1f5910"), looks := true }, kinds := [], alts := [], laidByText := true, laidKinds := [.data, .data, .data, .sentinel, .sentinel], laidTests := true, laidLooks := .later }
def FnFullStepUptoCardSaid : Prop := Claim7.holds Tryz.pinned (.plain (OpenSpec.upto fnFullStepSpec)) fnFullStepUptoCard

/-- THE SECOND FORM's CARD OF 'laws.FnFullReach'. -/
def fnFullReachUptoCard : Claim7 := { stood := { row := fnFullReachUptoRow, standIns := [], harness := (true, "9ddf3bf8261d44f11a83e63cd5a96b63bf83c294983eaa64d2350e954e1f5910"), looks := true }, kinds := [], alts := [], laidByText := true, laidKinds := [.data, .data, .data, .sentinel, .sentinel], laidTests := true, laidLooks := .later }
def FnFullReachUptoCardSaid : Prop := Claim7.holds Tryz.pinned (.plain (OpenSpec.upto fnFullReachSpec)) fnFullReachUptoCard

/-- THE SECOND FORM's CARD OF 'laws.FnNextReach'. -/
def fnNextReachUptoCard : Claim7 := { stood := { row := fnNextReachUptoRow, standIns := [], harness := (true, "9ddf3bf8261d44f11a83e63cd5a96b63bf83c294983eaa64d2350e954e1f5910"), looks := true }, kinds := [], alts := [], laidByText := true, laidKinds := [.data, .data, .data, .sentinel, .sentinel], laidTests := true, laidLooks := .later }
def FnNextReachUptoCardSaid : Prop := Claim7.holds Tryz.pinned (.plain (OpenSpec.upto fnNextReachSpec)) fnNextReachUptoCard

/-- THE SECOND FORM's CARD OF 'laws.FnNext'. -/
def fnNextUptoCard : Claim7 := { stood := { row := fnNextUptoRow, standIns := [], harness := (true, "9ddf3bf8261d44f11a83e63cd5a96b63bf83c294983eaa64d2350e954e1f5910"), looks := true }, kinds := [], alts := [], laidByText := true, laidKinds := [.data, .data, .data, .sentinel, .sentinel], laidTests := true, laidLooks := .later }
def FnNextUptoCardSaid : Prop := Claim7.holds Tryz.pinned (.plain (OpenSpec.upto fnNextSpec)) fnNextUptoCard

/-- THE SECOND FORM's CARD OF 'laws.FnSafe'. -/
def fnSafeUptoCard : Claim7 := { stood := { row := fnSafeUptoRow, standIns := [], harness := (true, "9ddf3bf8261d44f11a83e63cd5a96b63bf83c294983eaa64d2350e954e1f5910"), looks := true }, kinds := [], alts := [], laidByText := true, laidKinds := [.data, .data, .data, .sentinel, .sentinel], laidTests := true, laidLooks := .later }
def FnSafeUptoCardSaid : Prop := Claim7.holds Tryz.pinned (.plain (OpenSpec.upto fnSafeSpec)) fnSafeUptoCard

/-- THE SECOND FORM's CARD OF 'laws.FnSafeMore'. -/
def fnSafeMoreUptoCard : Claim7 := { stood := { row := fnSafeMoreUptoRow, standIns := [], harness := (true, "9ddf3bf8261d44f11a83e63cd5a96b63bf83c294983eaa64d2350e954e1f5910"), looks := true }, kinds := [], alts := [], laidByText := true, laidKinds := [.data, .data, .data, .sentinel, .sentinel], laidTests := true, laidLooks := .later }
def FnSafeMoreUptoCardSaid : Prop := Claim7.holds Tryz.pinned (.plain (OpenSpec.upto fnSafeMoreSpec)) fnSafeMoreUptoCard

/-- THE SECOND FORM's CARD OF 'laws.FnReachAll'. -/
def fnReachAllUptoCard : Claim7 := { stood := { row := fnReachAllUptoRow, standIns := [], harness := (true, "9ddf3bf8261d44f11a83e63cd5a96b63bf83c294983eaa64d2350e954e1f5910"), looks := true }, kinds := [], alts := [], laidByText := true, laidKinds := [.data, .data, .data, .sentinel, .sentinel], laidTests := true, laidLooks := .later }
def FnReachAllUptoCardSaid : Prop := Claim7.holds Tryz.pinned (.plain (OpenSpec.upto fnReachAllSpec)) fnReachAllUptoCard

/-- THE SECOND FORM's CARD OF 'laws.FnSafeEmpty'. -/
def fnSafeEmptyUptoCard : Claim7 := { stood := { row := fnSafeEmptyUptoRow, standIns := [], harness := (true, "9ddf3bf8261d44f11a83e63cd5a96b63bf83c294983eaa64d2350e954e1f5910"), looks := true }, kinds := [], alts := [], laidByText := true, laidKinds := [.data, .data, .data, .sentinel, .sentinel], laidTests := true, laidLooks := .later }
def FnSafeEmptyUptoCardSaid : Prop := Claim7.holds Tryz.pinned (.plain (OpenSpec.upto fnSafeEmptySpec)) fnSafeEmptyUptoCard

/-- THE SECOND FORM's CARD OF 'laws.FnNextTo'. -/
def fnNextToUptoCard : Claim7 := { stood := { row := fnNextToUptoRow, standIns := [], harness := (true, "9ddf3bf8261d44f11a83e63cd5a96b63bf83c294983eaa64d2350e954e1f5910"), looks := true }, kinds := [], alts := [], laidByText := true, laidKinds := [.data, .data, .data, .sentinel, .sentinel], laidTests := true, laidLooks := .later }
def FnNextToUptoCardSaid : Prop := Claim7.holds Tryz.pinned (.plain (OpenSpec.upto fnNextToSpec)) fnNextToUptoCard

/-- THE SECOND FORM's CARD OF 'laws.FnExactOpRead'. -/
def fnExactOpReadUptoCard : Claim7 := { stood := { row := fnExactOpReadUptoRow, standIns := [], harness := (true, "9ddf3bf8261d44f11a83e63cd5a96b63bf83c294983eaa64d2350e954e1f5910"), looks := true }, kinds := [], alts := [], laidByText := true, laidKinds := [.data, .data, .data, .data, .sentinel, .sentinel, .pinned], laidTests := true, laidLooks := .later }
def FnExactOpReadUptoCardSaid : Prop := Claim7.holds Tryz.pinned (.plain (OpenSpec.upto fnExactOpReadSpec)) fnExactOpReadUptoCard
end Rows
end Go.Proofs.YtjhpaoadpcnlnaaGreatDoor
