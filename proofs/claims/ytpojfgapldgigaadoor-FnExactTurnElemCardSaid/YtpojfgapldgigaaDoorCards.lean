/-
  DERIVED. GIVEN WITH THE SEED: THE CARDS: each row of YtpojfgapldgigaaDoorRows.lean that lists a variable, with what it lists TIED to the program's text (the seventh form; the later family's looks); each row that meets fmt, with fmt's text TOLD by the authors' own Lean function (tested against real Go, not proved from fmt's source: count such statements apart). THE CARD IS WHAT COUNTS. Prove the row's statement (the work); the ties are given (YtpojfgapldgigaaDoorTie.lean); close each card by the builder's one call (the guide's Derived/Test/ToyasCard.lean, 'card_holds'). Laid BY PROGRAM, IN A SANDBOX (cutbox-door.mjs). By AI agents, Wed Nov 11 2026. No macro, syntax, notation, axiom, sorry.
-/
import Derived.Test.YtpojfgapldgigaaDoorRows
import GoSem.ClaimSeven
namespace Go.Proofs.YtpojfgapldgigaaDoor
namespace Rows

/-- THE TIED CARD OF 'laws.FnExactTurnElem'. -/
def fnExactTurnElemCard : Claim7 := { stood := { row := fnExactTurnElemRow, standIns := [], harness := (true, "4be840c2f78fbe5eb7038c54a7ca2512ef4f25ddff3179c0eff1c7199f8a373d"), looks := true }, kinds := [], alts := [], laidByText := true, laidKinds := [.data, .data, .data, .sentinel, .sentinel], laidTests := true, laidLooks := .later }
def FnExactTurnElemCardSaid : Prop := Claim7.holds Tryd.pinned (.plain (OpenSpec.ofChange fnExactTurnElemSpec)) fnExactTurnElemCard

/-- THE SECOND FORM's CARD OF 'laws.FnExactTurnElem'. -/
def fnExactTurnElemUptoCard : Claim7 := { stood := { row := fnExactTurnElemUptoRow, standIns := [], harness := (true, "4be840c2f78fbe5eb7038c54a7ca2512ef4f25ddff3179c0eff1c7199f8a373d"), looks := true }, kinds := [], alts := [], laidByText := true, laidKinds := [.data, .data, .data, .sentinel, .sentinel], laidTests := true, laidLooks := .later }
def FnExactTurnElemUptoCardSaid : Prop := Claim7.holds Tryd.pinned (.plain (OpenSpec.upto fnExactTurnElemSpec)) fnExactTurnElemUptoCard
end Rows
end Go.Proofs.YtpojfgapldgigaaDoor
