/-
  DERIVED. GIVEN WITH THE SEED: THE CARDS: each row of YtfadpahbmngmfaaDoorRows.lean that lists a variable, with what it lists TIED to the program's text (the seventh form; the later family's looks); each row that meets fmt, with fmt's text TOLD by the authors' own Lean function (tested against real Go, not proved from fmt's source: count such statements apart). THE CARD IS WHAT COUNTS. Prove the row's statement (the work); the ties are given (YtfadpahbmngmfaaDoorTie.lean); close each card by the builder's one call (the guide's Derived/Test/ToyasCard.lean, 'card_holds'). Laid BY PROGRAM, IN A SANDBOX (cutbox-door.mjs). By AI agents, Wed Nov 11 2026. No macro, syntax, notation, axiom, sorry.
-/
import Derived.Test.YtfadpahbmngmfaaDoorRows
import GoSem.ClaimSeven
namespace Go.Proofs.YtfadpahbmngmfaaDoor
namespace Rows

/-- THE TIED CARD OF 'laws.FnOpOne'. -/
def fnOpOneCard : Claim7 := { stood := { row := fnOpOneRow, standIns := [], harness := (true, "7a2763aa29706cd218e19355ead6865f15d839dacbbe5937ce3ddcad37548a04"), looks := true }, kinds := [], alts := [], laidByText := true, laidKinds := [.data, .data, .data, .sentinel, .sentinel], laidTests := true, laidLooks := .later }
def FnOpOneCardSaid : Prop := Claim7.holds Tryd.pinned (.plain (OpenSpec.ofChange fnOpOneSpec)) fnOpOneCard

/-- THE TIED CARD OF 'laws.FnOpForm'. -/
def fnOpFormCard : Claim7 := { stood := { row := fnOpFormRow, standIns := [], harness := (true, "7a2763aa29706cd218e19355ead6865f15d839dacbbe5937ce3ddcad37548a04"), looks := true }, kinds := [], alts := [], laidByText := true, laidKinds := [.data, .data, .data, .sentinel, .sentinel], laidTests := true, laidLooks := .later }
def FnOpFormCardSaid : Prop := Claim7.holds Tryd.pinned (.plain (OpenSpec.ofChange fnOpFormSpec)) fnOpFormCard

/-- THE TIED CARD OF 'laws.FnOpUses'. -/
def fnOpUsesCard : Claim7 := { stood := { row := fnOpUsesRow, standIns := [], harness := (true, "7a2763aa29706cd218e19355ead6865f15d839dacbbe5937ce3ddcad37548a04"), looks := true }, kinds := [], alts := [], laidByText := true, laidKinds := [.data, .data, .data, .sentinel, .sentinel], laidTests := true, laidLooks := .later }
def FnOpUsesCardSaid : Prop := Claim7.holds Tryd.pinned (.plain (OpenSpec.ofChange fnOpUsesSpec)) fnOpUsesCard

/-- THE TIED CARD OF 'laws.FnOpWords'. -/
def fnOpWordsCard : Claim7 := { stood := { row := fnOpWordsRow, standIns := [], harness := (true, "7a2763aa29706cd218e19355ead6865f15d839dacbbe5937ce3ddcad37548a04"), looks := true }, kinds := [], alts := [], laidByText := true, laidKinds := [.data, .data, .data, .sentinel, .sentinel], laidTests := true, laidLooks := .later }
def FnOpWordsCardSaid : Prop := Claim7.holds Tryd.pinned (.plain (OpenSpec.ofChange fnOpWordsSpec)) fnOpWordsCard

/-- THE TIED CARD OF 'laws.FnExactOpOk'. -/
def fnExactOpOkCard : Claim7 := { stood := { row := fnExactOpOkRow, standIns := [], harness := (true, "7a2763aa29706cd218e19355ead6865f15d839dacbbe5937ce3ddcad37548a04"), looks := true }, kinds := [], alts := [], laidByText := true, laidKinds := [.data, .data, .data, .sentinel, .sentinel], laidTests := true, laidLooks := .later }
def FnExactOpOkCardSaid : Prop := Claim7.holds Tryd.pinned (.plain (OpenSpec.ofChange fnExactOpOkSpec)) fnExactOpOkCard

/-- THE TIED CARD OF 'laws.FnExactOpText'. -/
def fnExactOpTextCard : Claim7 := { stood := { row := fnExactOpTextRow, standIns := [], harness := (true, "7a2763aa29706cd218e19355ead6865f15d839dacbbe5937ce3ddcad37548a04"), looks := true }, kinds := [], alts := [], laidByText := true, laidKinds := [.data, .data, .data, .sentinel, .sentinel], laidTests := true, laidLooks := .later }
def FnExactOpTextCardSaid : Prop := Claim7.holds Tryd.pinned (.plain (OpenSpec.ofChange fnExactOpTextSpec)) fnExactOpTextCard

/-- THE TIED CARD OF 'laws.FnExactOpUses'. -/
def fnExactOpUsesCard : Claim7 := { stood := { row := fnExactOpUsesRow, standIns := [], harness := (true, "7a2763aa29706cd218e19355ead6865f15d839dacbbe5937ce3ddcad37548a04"), looks := true }, kinds := [], alts := [], laidByText := true, laidKinds := [.data, .data, .data, .sentinel, .sentinel], laidTests := true, laidLooks := .later }
def FnExactOpUsesCardSaid : Prop := Claim7.holds Tryd.pinned (.plain (OpenSpec.ofChange fnExactOpUsesSpec)) fnExactOpUsesCard

/-- THE SECOND FORM's CARD OF 'laws.FnOpOne'. -/
def fnOpOneUptoCard : Claim7 := { stood := { row := fnOpOneUptoRow, standIns := [], harness := (true, "7a2763aa29706cd218e19355ead6865f15d839dacbbe5937ce3ddcad37548a04"), looks := true }, kinds := [], alts := [], laidByText := true, laidKinds := [.data, .data, .data, .sentinel, .sentinel], laidTests := true, laidLooks := .later }
def FnOpOneUptoCardSaid : Prop := Claim7.holds Tryd.pinned (.plain (OpenSpec.upto fnOpOneSpec)) fnOpOneUptoCard

/-- THE SECOND FORM's CARD OF 'laws.FnOpForm'. -/
def fnOpFormUptoCard : Claim7 := { stood := { row := fnOpFormUptoRow, standIns := [], harness := (true, "7a2763aa29706cd218e19355ead6865f15d839dacbbe5937ce3ddcad37548a04"), looks := true }, kinds := [], alts := [], laidByText := true, laidKinds := [.data, .data, .data, .sentinel, .sentinel], laidTests := true, laidLooks := .later }
def FnOpFormUptoCardSaid : Prop := Claim7.holds Tryd.pinned (.plain (OpenSpec.upto fnOpFormSpec)) fnOpFormUptoCard

/-- THE SECOND FORM's CARD OF 'laws.FnOpUses'. -/
def fnOpUsesUptoCard : Claim7 := { stood := { row := fnOpUsesUptoRow, standIns := [], harness := (true, "7a2763aa29706cd218e19355ead6865f15d839dacbbe5937ce3ddcad37548a04"), looks := true }, kinds := [], alts := [], laidByText := true, laidKinds := [.data, .data, .data, .sentinel, .sentinel], laidTests := true, laidLooks := .later }
def FnOpUsesUptoCardSaid : Prop := Claim7.holds Tryd.pinned (.plain (OpenSpec.upto fnOpUsesSpec)) fnOpUsesUptoCard

/-- THE SECOND FORM's CARD OF 'laws.FnOpWords'. -/
def fnOpWordsUptoCard : Claim7 := { stood := { row := fnOpWordsUptoRow, standIns := [], harness := (true, "7a2763aa29706cd218e19355ead6865f15d839dacbbe5937ce3ddcad37548a04"), looks := true }, kinds := [], alts := [], laidByText := true, laidKinds := [.data, .data, .data, .sentinel, .sentinel], laidTests := true, laidLooks := .later }
def FnOpWordsUptoCardSaid : Prop := Claim7.holds Tryd.pinned (.plain (OpenSpec.upto fnOpWordsSpec)) fnOpWordsUptoCard

/-- THE SECOND FORM's CARD OF 'laws.FnExactOpOk'. -/
def fnExactOpOkUptoCard : Claim7 := { stood := { row := fnExactOpOkUptoRow, standIns := [], harness := (true, "7a2763aa29706cd218e19355ead6865f15d839dacbbe5937ce3ddcad37548a04"), looks := true }, kinds := [], alts := [], laidByText := true, laidKinds := [.data, .data, .data, .sentinel, .sentinel], laidTests := true, laidLooks := .later }
def FnExactOpOkUptoCardSaid : Prop := Claim7.holds Tryd.pinned (.plain (OpenSpec.upto fnExactOpOkSpec)) fnExactOpOkUptoCard

/-- THE SECOND FORM's CARD OF 'laws.FnExactOpText'. -/
def fnExactOpTextUptoCard : Claim7 := { stood := { row := fnExactOpTextUptoRow, standIns := [], harness := (true, "7a2763aa29706cd218e19355ead6865f15d839dacbbe5937ce3ddcad37548a04"), looks := true }, kinds := [], alts := [], laidByText := true, laidKinds := [.data, .data, .data, .sentinel, .sentinel], laidTests := true, laidLooks := .later }
def FnExactOpTextUptoCardSaid : Prop := Claim7.holds Tryd.pinned (.plain (OpenSpec.upto fnExactOpTextSpec)) fnExactOpTextUptoCard

/-- THE SECOND FORM's CARD OF 'laws.FnExactOpUses'. -/
def fnExactOpUsesUptoCard : Claim7 := { stood := { row := fnExactOpUsesUptoRow, standIns := [], harness := (true, "7a2763aa29706cd218e19355ead6865f15d839dacbbe5937ce3ddcad37548a04"), looks := true }, kinds := [], alts := [], laidByText := true, laidKinds := [.data, .data, .data, .sentinel, .sentinel], laidTests := true, laidLooks := .later }
def FnExactOpUsesUptoCardSaid : Prop := Claim7.holds Tryd.pinned (.plain (OpenSpec.upto fnExactOpUsesSpec)) fnExactOpUsesUptoCard
end Rows
end Go.Proofs.YtfadpahbmngmfaaDoor
