/-
  DERIVED. GIVEN WITH THE SEED: THE CARDS: each row of YtnncifemfhmkfaaDoorRows.lean that lists a variable, with what it lists TIED to the program's text (the seventh form; the later family's looks); each row that meets fmt, with fmt's text TOLD by the authors' own Lean function (tested against real Go, not proved from fmt's source: count such statements apart). THE CARD IS WHAT COUNTS. Prove the row's statement (the work); the ties are given (YtnncifemfhmkfaaDoorTie.lean); close each card by the builder's one call (the guide's Derived/Test/ToyasCard.lean, 'card_holds'). Laid BY PROGRAM, IN A SANDBOX (cutbox-door.mjs). By AI agents, Wed Nov 11 2026. No macro, syntax, notation, axiom, sorry.
-/
import Derived.Test.YtnncifemfhmkfaaDoorRows
import GoSem.ClaimSeven
namespace Go.Proofs.YtnncifemfhmkfaaDoor
namespace Rows

/-- THE TIED CARD OF 'laws.FnExactMergeElems'. -/
def fnExactMergeElemsCard : Claim7 := { stood := { row := fnExactMergeElemsRow, standIns := [], harness := (true, "610eabb829734ca2d41b3edb87bd03a971ad511753c97ba9f13058dd9dc29876"), looks := true }, kinds := [], alts := [], laidByText := true, laidKinds := [.data, .data, .data, .sentinel, .sentinel], laidTests := true, laidLooks := .later }
def FnExactMergeElemsCardSaid : Prop := Claim7.holds Tryd.pinned (.plain (OpenSpec.ofChange fnExactMergeElemsSpec)) fnExactMergeElemsCard

/-- THE TIED CARD OF 'laws.FnExactTurnElem'. -/
def fnExactTurnElemCard : Claim7 := { stood := { row := fnExactTurnElemRow, standIns := [], harness := (true, "610eabb829734ca2d41b3edb87bd03a971ad511753c97ba9f13058dd9dc29876"), looks := true }, kinds := [], alts := [], laidByText := true, laidKinds := [.data, .data, .data, .sentinel, .sentinel], laidTests := true, laidLooks := .later }
def FnExactTurnElemCardSaid : Prop := Claim7.holds Tryd.pinned (.plain (OpenSpec.ofChange fnExactTurnElemSpec)) fnExactTurnElemCard

/-- THE SECOND FORM's CARD OF 'laws.FnExactMergeElems'. -/
def fnExactMergeElemsUptoCard : Claim7 := { stood := { row := fnExactMergeElemsUptoRow, standIns := [], harness := (true, "610eabb829734ca2d41b3edb87bd03a971ad511753c97ba9f13058dd9dc29876"), looks := true }, kinds := [], alts := [], laidByText := true, laidKinds := [.data, .data, .data, .sentinel, .sentinel], laidTests := true, laidLooks := .later }
def FnExactMergeElemsUptoCardSaid : Prop := Claim7.holds Tryd.pinned (.plain (OpenSpec.upto fnExactMergeElemsSpec)) fnExactMergeElemsUptoCard

/-- THE SECOND FORM's CARD OF 'laws.FnExactTurnElem'. -/
def fnExactTurnElemUptoCard : Claim7 := { stood := { row := fnExactTurnElemUptoRow, standIns := [], harness := (true, "610eabb829734ca2d41b3edb87bd03a971ad511753c97ba9f13058dd9dc29876"), looks := true }, kinds := [], alts := [], laidByText := true, laidKinds := [.data, .data, .data, .sentinel, .sentinel], laidTests := true, laidLooks := .later }
def FnExactTurnElemUptoCardSaid : Prop := Claim7.holds Tryd.pinned (.plain (OpenSpec.upto fnExactTurnElemSpec)) fnExactTurnElemUptoCard
end Rows
end Go.Proofs.YtnncifemfhmkfaaDoor
