/-
  DERIVED. GIVEN WITH THE SEED: THE CARDS: each row of YtfgpmbeianbimaaDoorRows.lean that lists a variable, with what it lists TIED to the program's text (the seventh form; the later family's looks); each row that meets fmt, with fmt's text TOLD by the authors' own Lean function (tested against real Go, not proved from fmt's source: count such statements apart). THE CARD IS WHAT COUNTS. Prove the row's statement (the work); the ties are given (YtfgpmbeianbimaaDoorTie.lean); close each card by the builder's one call (the guide's Derived/Test/ToyasCard.lean, 'card_holds'). Laid BY PROGRAM, IN A SANDBOX (cutbox-door.mjs). By AI agents, Wed Nov 11 2026. No macro, syntax, notation, axiom, sorry.
-/
import Derived.Test.YtfgpmbeianbimaaDoorRows
import GoSem.ClaimSeven
namespace Go.Proofs.YtfgpmbeianbimaaDoor
namespace Rows

/-- THE TIED CARD OF 'laws.FnValBack'. -/
def fnValBackCard : Claim7 := { stood := { row := fnValBackRow, standIns := [], harness := (true, "d8c09ba46ef18cc390bc7fbf954b6cd7b96624a6b76d8f97e94a768e3ca690f4"), looks := true }, kinds := [], alts := [], laidByText := true, laidKinds := [.data, .data, .data, .sentinel, .sentinel], laidTests := true, laidLooks := .later }
def FnValBackCardSaid : Prop := Claim7.holds Tryd.pinned (.plain (OpenSpec.ofChange fnValBackSpec)) fnValBackCard

/-- THE TIED CARD OF 'laws.FnValStrict'. -/
def fnValStrictCard : Claim7 := { stood := { row := fnValStrictRow, standIns := [], harness := (true, "d8c09ba46ef18cc390bc7fbf954b6cd7b96624a6b76d8f97e94a768e3ca690f4"), looks := true }, kinds := [], alts := [], laidByText := true, laidKinds := [.data, .data, .data, .sentinel, .sentinel], laidTests := true, laidLooks := .later }
def FnValStrictCardSaid : Prop := Claim7.holds Tryd.pinned (.plain (OpenSpec.ofChange fnValStrictSpec)) fnValStrictCard

/-- THE TIED CARD OF 'laws.FnValOne'. -/
def fnValOneCard : Claim7 := { stood := { row := fnValOneRow, standIns := [], harness := (true, "d8c09ba46ef18cc390bc7fbf954b6cd7b96624a6b76d8f97e94a768e3ca690f4"), looks := true }, kinds := [], alts := [], laidByText := true, laidKinds := [.data, .data, .data], laidTests := true, laidLooks := .later }
def FnValOneCardSaid : Prop := Claim7.holds Tryd.pinned (.plain (OpenSpec.ofChange fnValOneSpec)) fnValOneCard

/-- THE TIED CARD OF 'laws.FnValCut'. -/
def fnValCutCard : Claim7 := { stood := { row := fnValCutRow, standIns := [], harness := (true, "d8c09ba46ef18cc390bc7fbf954b6cd7b96624a6b76d8f97e94a768e3ca690f4"), looks := true }, kinds := [], alts := [], laidByText := true, laidKinds := [.data, .data, .data, .sentinel, .sentinel], laidTests := true, laidLooks := .later }
def FnValCutCardSaid : Prop := Claim7.holds Tryd.pinned (.plain (OpenSpec.ofChange fnValCutSpec)) fnValCutCard

/-- THE TIED CARD OF 'laws.FnExactValText'. -/
def fnExactValTextCard : Claim7 := { stood := { row := fnExactValTextRow, standIns := [], harness := (true, "d8c09ba46ef18cc390bc7fbf954b6cd7b96624a6b76d8f97e94a768e3ca690f4"), looks := true }, kinds := [], alts := [], laidByText := true, laidKinds := [.data, .data, .data], laidTests := true, laidLooks := .later }
def FnExactValTextCardSaid : Prop := Claim7.holds Tryd.pinned (.plain (OpenSpec.ofChange fnExactValTextSpec)) fnExactValTextCard

/-- THE TIED CARD OF 'laws.FnExactValRead'. -/
def fnExactValReadCard : Claim7 := { stood := { row := fnExactValReadRow, standIns := [], harness := (true, "d8c09ba46ef18cc390bc7fbf954b6cd7b96624a6b76d8f97e94a768e3ca690f4"), looks := true }, kinds := [], alts := [], laidByText := true, laidKinds := [.data, .data, .data, .sentinel, .sentinel], laidTests := true, laidLooks := .later }
def FnExactValReadCardSaid : Prop := Claim7.holds Tryd.pinned (.plain (OpenSpec.ofChange fnExactValReadSpec)) fnExactValReadCard

/-- THE SECOND FORM's CARD OF 'laws.FnValBack'. -/
def fnValBackUptoCard : Claim7 := { stood := { row := fnValBackUptoRow, standIns := [], harness := (true, "d8c09ba46ef18cc390bc7fbf954b6cd7b96624a6b76d8f97e94a768e3ca690f4"), looks := true }, kinds := [], alts := [], laidByText := true, laidKinds := [.data, .data, .data, .sentinel, .sentinel], laidTests := true, laidLooks := .later }
def FnValBackUptoCardSaid : Prop := Claim7.holds Tryd.pinned (.plain (OpenSpec.upto fnValBackSpec)) fnValBackUptoCard

/-- THE SECOND FORM's CARD OF 'laws.FnValStrict'. -/
def fnValStrictUptoCard : Claim7 := { stood := { row := fnValStrictUptoRow, standIns := [], harness := (true, "d8c09ba46ef18cc390bc7fbf954b6cd7b96624a6b76d8f97e94a768e3ca690f4"), looks := true }, kinds := [], alts := [], laidByText := true, laidKinds := [.data, .data, .data, .sentinel, .sentinel], laidTests := true, laidLooks := .later }
def FnValStrictUptoCardSaid : Prop := Claim7.holds Tryd.pinned (.plain (OpenSpec.upto fnValStrictSpec)) fnValStrictUptoCard

/-- THE SECOND FORM's CARD OF 'laws.FnValOne'. -/
def fnValOneUptoCard : Claim7 := { stood := { row := fnValOneUptoRow, standIns := [], harness := (true, "d8c09ba46ef18cc390bc7fbf954b6cd7b96624a6b76d8f97e94a768e3ca690f4"), looks := true }, kinds := [], alts := [], laidByText := true, laidKinds := [.data, .data, .data], laidTests := true, laidLooks := .later }
def FnValOneUptoCardSaid : Prop := Claim7.holds Tryd.pinned (.plain (OpenSpec.upto fnValOneSpec)) fnValOneUptoCard

/-- THE SECOND FORM's CARD OF 'laws.FnValCut'. -/
def fnValCutUptoCard : Claim7 := { stood := { row := fnValCutUptoRow, standIns := [], harness := (true, "d8c09ba46ef18cc390bc7fbf954b6cd7b96624a6b76d8f97e94a768e3ca690f4"), looks := true }, kinds := [], alts := [], laidByText := true, laidKinds := [.data, .data, .data, .sentinel, .sentinel], laidTests := true, laidLooks := .later }
def FnValCutUptoCardSaid : Prop := Claim7.holds Tryd.pinned (.plain (OpenSpec.upto fnValCutSpec)) fnValCutUptoCard

/-- THE SECOND FORM's CARD OF 'laws.FnExactValText'. -/
def fnExactValTextUptoCard : Claim7 := { stood := { row := fnExactValTextUptoRow, standIns := [], harness := (true, "d8c09ba46ef18cc390bc7fbf954b6cd7b96624a6b76d8f97e94a768e3ca690f4"), looks := true }, kinds := [], alts := [], laidByText := true, laidKinds := [.data, .data, .data], laidTests := true, laidLooks := .later }
def FnExactValTextUptoCardSaid : Prop := Claim7.holds Tryd.pinned (.plain (OpenSpec.upto fnExactValTextSpec)) fnExactValTextUptoCard

/-- THE SECOND FORM's CARD OF 'laws.FnExactValRead'. -/
def fnExactValReadUptoCard : Claim7 := { stood := { row := fnExactValReadUptoRow, standIns := [], harness := (true, "d8c09ba46ef18cc390bc7fbf954b6cd7b96624a6b76d8f97e94a768e3ca690f4"), looks := true }, kinds := [], alts := [], laidByText := true, laidKinds := [.data, .data, .data, .sentinel, .sentinel], laidTests := true, laidLooks := .later }
def FnExactValReadUptoCardSaid : Prop := Claim7.holds Tryd.pinned (.plain (OpenSpec.upto fnExactValReadSpec)) fnExactValReadUptoCard
end Rows
end Go.Proofs.YtfgpmbeianbimaaDoor
