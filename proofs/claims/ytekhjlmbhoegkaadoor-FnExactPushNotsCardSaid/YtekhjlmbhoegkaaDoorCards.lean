/-
  DERIVED. GIVEN WITH THE SEED: THE CARDS: each row of YtekhjlmbhoegkaaDoorRows.lean that lists a variable, with what it lists TIED to the program's text (the seventh form; the later family's looks); each row that meets fmt, with fmt's text TOLD by the authors' own Lean function (tested against real Go, not proved from fmt's source: count such statements apart). THE CARD IS WHAT COUNTS. Prove the row's statement (the work); the ties are given (YtekhjlmbhoegkaaDoorTie.lean); close each card by the builder's one call (the guide's Derived/Test/ToyasCard.lean, 'card_holds'). Laid BY PROGRAM, IN A SANDBOX (cutbox-door.mjs). By AI agents, Wed Nov 11 2026. No macro, syntax, notation, axiom, sorry.
-/
import Derived.Test.YtekhjlmbhoegkaaDoorRows
import GoSem.ClaimSeven
namespace Go.Proofs.YtekhjlmbhoegkaaDoor
namespace Rows

/-- THE TIED CARD OF 'laws.FnExactElemValid'. -/
def fnExactElemValidCard : Claim7 := { stood := { row := fnExactElemValidRow, standIns := [], harness := (true, "609bcbbbf788aaf762247ececcaf1d64c42231216faf1b1d7acdabad56da0204"), looks := true }, kinds := [], alts := [], laidByText := true, laidKinds := [.data, .data, .data, .sentinel, .sentinel], laidTests := true, laidLooks := .later }
def FnExactElemValidCardSaid : Prop := Claim7.holds Tryd.pinned (.plain (OpenSpec.ofChange fnExactElemValidSpec)) fnExactElemValidCard

/-- THE TIED CARD OF 'laws.FnExactNodeFits'. -/
def fnExactNodeFitsCard : Claim7 := { stood := { row := fnExactNodeFitsRow, standIns := [], harness := (true, "609bcbbbf788aaf762247ececcaf1d64c42231216faf1b1d7acdabad56da0204"), looks := true }, kinds := [], alts := [], laidByText := true, laidKinds := [.data, .data, .data, .sentinel, .sentinel], laidTests := true, laidLooks := .later }
def FnExactNodeFitsCardSaid : Prop := Claim7.holds Tryd.pinned (.plain (OpenSpec.ofChange fnExactNodeFitsSpec)) fnExactNodeFitsCard

/-- THE TIED CARD OF 'laws.FnExactEdgeFits'. -/
def fnExactEdgeFitsCard : Claim7 := { stood := { row := fnExactEdgeFitsRow, standIns := [], harness := (true, "609bcbbbf788aaf762247ececcaf1d64c42231216faf1b1d7acdabad56da0204"), looks := true }, kinds := [], alts := [], laidByText := true, laidKinds := [.data, .data, .data, .sentinel, .sentinel], laidTests := true, laidLooks := .later }
def FnExactEdgeFitsCardSaid : Prop := Claim7.holds Tryd.pinned (.plain (OpenSpec.ofChange fnExactEdgeFitsSpec)) fnExactEdgeFitsCard

/-- THE TIED CARD OF 'laws.FnExactTurnElem'. -/
def fnExactTurnElemCard : Claim7 := { stood := { row := fnExactTurnElemRow, standIns := [], harness := (true, "609bcbbbf788aaf762247ececcaf1d64c42231216faf1b1d7acdabad56da0204"), looks := true }, kinds := [], alts := [], laidByText := true, laidKinds := [.data, .data, .data, .sentinel, .sentinel], laidTests := true, laidLooks := .later }
def FnExactTurnElemCardSaid : Prop := Claim7.holds Tryd.pinned (.plain (OpenSpec.ofChange fnExactTurnElemSpec)) fnExactTurnElemCard

/-- THE TIED CARD OF 'laws.FnExactFormatElem'. -/
def fnExactFormatElemCard : Claim7 := { stood := { row := fnExactFormatElemRow, standIns := [], harness := (true, "609bcbbbf788aaf762247ececcaf1d64c42231216faf1b1d7acdabad56da0204"), looks := true }, kinds := [], alts := [], laidByText := true, laidKinds := [.data, .data, .data, .sentinel, .sentinel, .data], laidTests := true, laidLooks := .later }
def FnExactFormatElemCardSaid : Prop := Claim7.holds Tryd.pinned (.plain (OpenSpec.ofChange fnExactFormatElemSpec)) fnExactFormatElemCard

/-- THE TIED CARD OF 'laws.FnExactPushNots'. -/
def fnExactPushNotsCard : Claim7 := { stood := { row := fnExactPushNotsRow, standIns := [], harness := (true, "609bcbbbf788aaf762247ececcaf1d64c42231216faf1b1d7acdabad56da0204"), looks := true }, kinds := [], alts := [], laidByText := true, laidKinds := [.data, .data, .data, .sentinel, .sentinel], laidTests := true, laidLooks := .later }
def FnExactPushNotsCardSaid : Prop := Claim7.holds Tryd.pinned (.plain (OpenSpec.ofChange fnExactPushNotsSpec)) fnExactPushNotsCard

/-- THE SECOND FORM's CARD OF 'laws.FnExactElemValid'. -/
def fnExactElemValidUptoCard : Claim7 := { stood := { row := fnExactElemValidUptoRow, standIns := [], harness := (true, "609bcbbbf788aaf762247ececcaf1d64c42231216faf1b1d7acdabad56da0204"), looks := true }, kinds := [], alts := [], laidByText := true, laidKinds := [.data, .data, .data, .sentinel, .sentinel], laidTests := true, laidLooks := .later }
def FnExactElemValidUptoCardSaid : Prop := Claim7.holds Tryd.pinned (.plain (OpenSpec.upto fnExactElemValidSpec)) fnExactElemValidUptoCard

/-- THE SECOND FORM's CARD OF 'laws.FnExactNodeFits'. -/
def fnExactNodeFitsUptoCard : Claim7 := { stood := { row := fnExactNodeFitsUptoRow, standIns := [], harness := (true, "609bcbbbf788aaf762247ececcaf1d64c42231216faf1b1d7acdabad56da0204"), looks := true }, kinds := [], alts := [], laidByText := true, laidKinds := [.data, .data, .data, .sentinel, .sentinel], laidTests := true, laidLooks := .later }
def FnExactNodeFitsUptoCardSaid : Prop := Claim7.holds Tryd.pinned (.plain (OpenSpec.upto fnExactNodeFitsSpec)) fnExactNodeFitsUptoCard

/-- THE SECOND FORM's CARD OF 'laws.FnExactEdgeFits'. -/
def fnExactEdgeFitsUptoCard : Claim7 := { stood := { row := fnExactEdgeFitsUptoRow, standIns := [], harness := (true, "609bcbbbf788aaf762247ececcaf1d64c42231216faf1b1d7acdabad56da0204"), looks := true }, kinds := [], alts := [], laidByText := true, laidKinds := [.data, .data, .data, .sentinel, .sentinel], laidTests := true, laidLooks := .later }
def FnExactEdgeFitsUptoCardSaid : Prop := Claim7.holds Tryd.pinned (.plain (OpenSpec.upto fnExactEdgeFitsSpec)) fnExactEdgeFitsUptoCard

/-- THE SECOND FORM's CARD OF 'laws.FnExactTurnElem'. -/
def fnExactTurnElemUptoCard : Claim7 := { stood := { row := fnExactTurnElemUptoRow, standIns := [], harness := (true, "609bcbbbf788aaf762247ececcaf1d64c42231216faf1b1d7acdabad56da0204"), looks := true }, kinds := [], alts := [], laidByText := true, laidKinds := [.data, .data, .data, .sentinel, .sentinel], laidTests := true, laidLooks := .later }
def FnExactTurnElemUptoCardSaid : Prop := Claim7.holds Tryd.pinned (.plain (OpenSpec.upto fnExactTurnElemSpec)) fnExactTurnElemUptoCard

/-- THE SECOND FORM's CARD OF 'laws.FnExactFormatElem'. -/
def fnExactFormatElemUptoCard : Claim7 := { stood := { row := fnExactFormatElemUptoRow, standIns := [], harness := (true, "609bcbbbf788aaf762247ececcaf1d64c42231216faf1b1d7acdabad56da0204"), looks := true }, kinds := [], alts := [], laidByText := true, laidKinds := [.data, .data, .data, .sentinel, .sentinel, .data], laidTests := true, laidLooks := .later }
def FnExactFormatElemUptoCardSaid : Prop := Claim7.holds Tryd.pinned (.plain (OpenSpec.upto fnExactFormatElemSpec)) fnExactFormatElemUptoCard

/-- THE SECOND FORM's CARD OF 'laws.FnExactPushNots'. -/
def fnExactPushNotsUptoCard : Claim7 := { stood := { row := fnExactPushNotsUptoRow, standIns := [], harness := (true, "609bcbbbf788aaf762247ececcaf1d64c42231216faf1b1d7acdabad56da0204"), looks := true }, kinds := [], alts := [], laidByText := true, laidKinds := [.data, .data, .data, .sentinel, .sentinel], laidTests := true, laidLooks := .later }
def FnExactPushNotsUptoCardSaid : Prop := Claim7.holds Tryd.pinned (.plain (OpenSpec.upto fnExactPushNotsSpec)) fnExactPushNotsUptoCard
end Rows
end Go.Proofs.YtekhjlmbhoegkaaDoor
