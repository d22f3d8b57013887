/-
  DERIVED. GIVEN WITH THE SEED: THE CARDS: each row of YtbkndmjdjgccbaaDoorRows.lean that lists a variable, with what it lists TIED to the program's text (the seventh form; the later family's looks); each row that meets fmt, with fmt's text TOLD by the authors' own Lean function (tested against real Go, not proved from fmt's source: count such statements apart). THE CARD IS WHAT COUNTS. Prove the row's statement (the work); the ties are given (YtbkndmjdjgccbaaDoorTie.lean); close each card by the builder's one call (the guide's Derived/Test/ToyasCard.lean, 'card_holds'). Laid BY PROGRAM, IN A SANDBOX (cutbox-door.mjs). By AI agents, Wed Nov 11 2026. No macro, syntax, notation, axiom, sorry.
-/
import Derived.Test.YtbkndmjdjgccbaaDoorRows
import GoSem.ClaimSeven
namespace Go.Proofs.YtbkndmjdjgccbaaDoor
namespace Rows

/-- THE TIED CARD OF 'laws.FnLabelHolds'. -/
def fnLabelHoldsCard : Claim7 := { stood := { row := fnLabelHoldsRow, standIns := [], harness := (true, "4c34fc933b426397c815019a24cb48daa742dd58b6dc1a25dfcb5bccd8f1610a"), looks := true }, kinds := [], alts := [], laidByText := true, laidKinds := [.data, .data, .data, .sentinel, .sentinel], laidTests := true, laidLooks := .later }
def FnLabelHoldsCardSaid : Prop := Claim7.holds Tryd.pinned (.plain (OpenSpec.ofChange fnLabelHoldsSpec)) fnLabelHoldsCard

/-- THE TIED CARD OF 'laws.FnNumHolds'. -/
def fnNumHoldsCard : Claim7 := { stood := { row := fnNumHoldsRow, standIns := [], harness := (true, "4c34fc933b426397c815019a24cb48daa742dd58b6dc1a25dfcb5bccd8f1610a"), looks := true }, kinds := [], alts := [], laidByText := true, laidKinds := [.data, .data, .data, .sentinel, .sentinel], laidTests := true, laidLooks := .later }
def FnNumHoldsCardSaid : Prop := Claim7.holds Tryd.pinned (.plain (OpenSpec.ofChange fnNumHoldsSpec)) fnNumHoldsCard

/-- THE TIED CARD OF 'laws.FnExprAnd'. -/
def fnExprAndCard : Claim7 := { stood := { row := fnExprAndRow, standIns := [], harness := (true, "4c34fc933b426397c815019a24cb48daa742dd58b6dc1a25dfcb5bccd8f1610a"), looks := true }, kinds := [], alts := [], laidByText := true, laidKinds := [.data, .data, .data, .sentinel, .sentinel], laidTests := true, laidLooks := .later }
def FnExprAndCardSaid : Prop := Claim7.holds Tryd.pinned (.plain (OpenSpec.ofChange fnExprAndSpec)) fnExprAndCard

/-- THE TIED CARD OF 'laws.FnExprMorgan'. -/
def fnExprMorganCard : Claim7 := { stood := { row := fnExprMorganRow, standIns := [], harness := (true, "4c34fc933b426397c815019a24cb48daa742dd58b6dc1a25dfcb5bccd8f1610a"), looks := true }, kinds := [], alts := [], laidByText := true, laidKinds := [.data, .data, .data, .sentinel, .sentinel], laidTests := true, laidLooks := .later }
def FnExprMorganCardSaid : Prop := Claim7.holds Tryd.pinned (.plain (OpenSpec.ofChange fnExprMorganSpec)) fnExprMorganCard

/-- THE TIED CARD OF 'laws.FnExprAny'. -/
def fnExprAnyCard : Claim7 := { stood := { row := fnExprAnyRow, standIns := [], harness := (true, "4c34fc933b426397c815019a24cb48daa742dd58b6dc1a25dfcb5bccd8f1610a"), looks := true }, kinds := [], alts := [], laidByText := true, laidKinds := [.data, .data, .data, .sentinel, .sentinel], laidTests := true, laidLooks := .later }
def FnExprAnyCardSaid : Prop := Claim7.holds Tryd.pinned (.plain (OpenSpec.ofChange fnExprAnySpec)) fnExprAnyCard

/-- THE TIED CARD OF 'laws.FnExactExprValid'. -/
def fnExactExprValidCard : Claim7 := { stood := { row := fnExactExprValidRow, standIns := [], harness := (true, "4c34fc933b426397c815019a24cb48daa742dd58b6dc1a25dfcb5bccd8f1610a"), looks := true }, kinds := [], alts := [], laidByText := true, laidKinds := [.data, .data, .data, .sentinel, .sentinel], laidTests := true, laidLooks := .later }
def FnExactExprValidCardSaid : Prop := Claim7.holds Tryd.pinned (.plain (OpenSpec.ofChange fnExactExprValidSpec)) fnExactExprValidCard

/-- THE TIED CARD OF 'laws.FnExactLabelHolds'. -/
def fnExactLabelHoldsCard : Claim7 := { stood := { row := fnExactLabelHoldsRow, standIns := [], harness := (true, "4c34fc933b426397c815019a24cb48daa742dd58b6dc1a25dfcb5bccd8f1610a"), looks := true }, kinds := [], alts := [], laidByText := true, laidKinds := [.data, .data, .data, .sentinel, .sentinel], laidTests := true, laidLooks := .later }
def FnExactLabelHoldsCardSaid : Prop := Claim7.holds Tryd.pinned (.plain (OpenSpec.ofChange fnExactLabelHoldsSpec)) fnExactLabelHoldsCard

/-- THE TIED CARD OF 'laws.FnExactNumHolds'. -/
def fnExactNumHoldsCard : Claim7 := { stood := { row := fnExactNumHoldsRow, standIns := [], harness := (true, "4c34fc933b426397c815019a24cb48daa742dd58b6dc1a25dfcb5bccd8f1610a"), looks := true }, kinds := [], alts := [], laidByText := true, laidKinds := [.data, .data, .data, .sentinel, .sentinel], laidTests := true, laidLooks := .later }
def FnExactNumHoldsCardSaid : Prop := Claim7.holds Tryd.pinned (.plain (OpenSpec.ofChange fnExactNumHoldsSpec)) fnExactNumHoldsCard

/-- THE TIED CARD OF 'laws.FnExactPushNots'. -/
def fnExactPushNotsCard : Claim7 := { stood := { row := fnExactPushNotsRow, standIns := [], harness := (true, "4c34fc933b426397c815019a24cb48daa742dd58b6dc1a25dfcb5bccd8f1610a"), looks := true }, kinds := [], alts := [], laidByText := true, laidKinds := [.data, .data, .data, .sentinel, .sentinel], laidTests := true, laidLooks := .later }
def FnExactPushNotsCardSaid : Prop := Claim7.holds Tryd.pinned (.plain (OpenSpec.ofChange fnExactPushNotsSpec)) fnExactPushNotsCard

/-- THE SECOND FORM's CARD OF 'laws.FnLabelHolds'. -/
def fnLabelHoldsUptoCard : Claim7 := { stood := { row := fnLabelHoldsUptoRow, standIns := [], harness := (true, "4c34fc933b426397c815019a24cb48daa742dd58b6dc1a25dfcb5bccd8f1610a"), looks := true }, kinds := [], alts := [], laidByText := true, laidKinds := [.data, .data, .data, .sentinel, .sentinel], laidTests := true, laidLooks := .later }
def FnLabelHoldsUptoCardSaid : Prop := Claim7.holds Tryd.pinned (.plain (OpenSpec.upto fnLabelHoldsSpec)) fnLabelHoldsUptoCard

/-- THE SECOND FORM's CARD OF 'laws.FnNumHolds'. -/
def fnNumHoldsUptoCard : Claim7 := { stood := { row := fnNumHoldsUptoRow, standIns := [], harness := (true, "4c34fc933b426397c815019a24cb48daa742dd58b6dc1a25dfcb5bccd8f1610a"), looks := true }, kinds := [], alts := [], laidByText := true, laidKinds := [.data, .data, .data, .sentinel, .sentinel], laidTests := true, laidLooks := .later }
def FnNumHoldsUptoCardSaid : Prop := Claim7.holds Tryd.pinned (.plain (OpenSpec.upto fnNumHoldsSpec)) fnNumHoldsUptoCard

/-- THE SECOND FORM's CARD OF 'laws.FnExprAnd'. -/
def fnExprAndUptoCard : Claim7 := { stood := { row := fnExprAndUptoRow, standIns := [], harness := (true, "4c34fc933b426397c815019a24cb48daa742dd58b6dc1a25dfcb5bccd8f1610a"), looks := true }, kinds := [], alts := [], laidByText := true, laidKinds := [.data, .data, .data, .sentinel, .sentinel], laidTests := true, laidLooks := .later }
def FnExprAndUptoCardSaid : Prop := Claim7.holds Tryd.pinned (.plain (OpenSpec.upto fnExprAndSpec)) fnExprAndUptoCard

/-- THE SECOND FORM's CARD OF 'laws.FnExprMorgan'. -/
def fnExprMorganUptoCard : Claim7 := { stood := { row := fnExprMorganUptoRow, standIns := [], harness := (true, "4c34fc933b426397c815019a24cb48daa742dd58b6dc1a25dfcb5bccd8f1610a"), looks := true }, kinds := [], alts := [], laidByText := true, laidKinds := [.data, .data, .data, .sentinel, .sentinel], laidTests := true, laidLooks := .later }
def FnExprMorganUptoCardSaid : Prop := Claim7.holds Tryd.pinned (.plain (OpenSpec.upto fnExprMorganSpec)) fnExprMorganUptoCard

/-- THE SECOND FORM's CARD OF 'laws.FnExprAny'. -/
def fnExprAnyUptoCard : Claim7 := { stood := { row := fnExprAnyUptoRow, standIns := [], harness := (true, "4c34fc933b426397c815019a24cb48daa742dd58b6dc1a25dfcb5bccd8f1610a"), looks := true }, kinds := [], alts := [], laidByText := true, laidKinds := [.data, .data, .data, .sentinel, .sentinel], laidTests := true, laidLooks := .later }
def FnExprAnyUptoCardSaid : Prop := Claim7.holds Tryd.pinned (.plain (OpenSpec.upto fnExprAnySpec)) fnExprAnyUptoCard

/-- THE SECOND FORM's CARD OF 'laws.FnExactExprValid'. -/
def fnExactExprValidUptoCard : Claim7 := { stood := { row := fnExactExprValidUptoRow, standIns := [], harness := (true, "4c34fc933b426397c815019a24cb48daa742dd58b6dc1a25dfcb5bccd8f1610a"), looks := true }, kinds := [], alts := [], laidByText := true, laidKinds := [.data, .data, .data, .sentinel, .sentinel], laidTests := true, laidLooks := .later }
def FnExactExprValidUptoCardSaid : Prop := Claim7.holds Tryd.pinned (.plain (OpenSpec.upto fnExactExprValidSpec)) fnExactExprValidUptoCard

/-- THE SECOND FORM's CARD OF 'laws.FnExactLabelHolds'. -/
def fnExactLabelHoldsUptoCard : Claim7 := { stood := { row := fnExactLabelHoldsUptoRow, standIns := [], harness := (true, "4c34fc933b426397c815019a24cb48daa742dd58b6dc1a25dfcb5bccd8f1610a"), looks := true }, kinds := [], alts := [], laidByText := true, laidKinds := [.data, .data, .data, .sentinel, .sentinel], laidTests := true, laidLooks := .later }
def FnExactLabelHoldsUptoCardSaid : Prop := Claim7.holds Tryd.pinned (.plain (OpenSpec.upto fnExactLabelHoldsSpec)) fnExactLabelHoldsUptoCard

/-- THE SECOND FORM's CARD OF 'laws.FnExactNumHolds'. -/
def fnExactNumHoldsUptoCard : Claim7 := { stood := { row := fnExactNumHoldsUptoRow, standIns := [], harness := (true, "4c34fc933b426397c815019a24cb48daa742dd58b6dc1a25dfcb5bccd8f1610a"), looks := true }, kinds := [], alts := [], laidByText := true, laidKinds := [.data, .data, .data, .sentinel, .sentinel], laidTests := true, laidLooks := .later }
def FnExactNumHoldsUptoCardSaid : Prop := Claim7.holds Tryd.pinned (.plain (OpenSpec.upto fnExactNumHoldsSpec)) fnExactNumHoldsUptoCard

/-- THE SECOND FORM's CARD OF 'laws.FnExactPushNots'. -/
def fnExactPushNotsUptoCard : Claim7 := { stood := { row := fnExactPushNotsUptoRow, standIns := [], harness := (true, "4c34fc933b426397c815019a24cb48daa742dd58b6dc1a25dfcb5bccd8f1610a"), looks := true }, kinds := [], alts := [], laidByText := true, laidKinds := [.data, .data, .data, .sentinel, .sentinel], laidTests := true, laidLooks := .later }
def FnExactPushNotsUptoCardSaid : Prop := Claim7.holds Tryd.pinned (.plain (OpenSpec.upto fnExactPushNotsSpec)) fnExactPushNotsUptoCard
end Rows
end Go.Proofs.YtbkndmjdjgccbaaDoor
