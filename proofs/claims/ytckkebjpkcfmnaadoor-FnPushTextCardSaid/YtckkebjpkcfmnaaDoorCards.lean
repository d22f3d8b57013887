/-
  DERIVED. GIVEN WITH THE SEED: THE CARDS: each row of YtckkebjpkcfmnaaDoorRows.lean that lists a variable, with what it lists TIED to the program's text (the seventh form; the later family's looks); each row that meets fmt, with fmt's text TOLD by the authors' own Lean function (tested against real Go, not proved from fmt's source: count such statements apart). THE CARD IS WHAT COUNTS. Prove the row's statement (the work); the ties are given (YtckkebjpkcfmnaaDoorTie.lean); close each card by the builder's one call (the guide's Derived/Test/ToyasCard.lean, 'card_holds'). Laid BY PROGRAM, IN A SANDBOX (cutbox-door.mjs). By AI agents, Wed Nov 11 2026. No macro, syntax, notation, axiom, sorry.
-/
import Derived.Test.YtckkebjpkcfmnaaDoorRows
import GoSem.ClaimSeven
namespace Go.Proofs.YtckkebjpkcfmnaaDoor
namespace Rows

/-- THE TIED CARD OF 'laws.FnExprKids'. -/
def fnExprKidsCard : Claim7 := { stood := { row := fnExprKidsRow, standIns := [], harness := (true, "cd1a0c61760a985e6c45c47d4632e5378f71c944e9195858ac616038756130b7"), looks := true }, kinds := [], alts := [], laidByText := true, laidKinds := [.data, .data, .data, .sentinel, .sentinel], laidTests := true, laidLooks := .later }
def FnExprKidsCardSaid : Prop := Claim7.holds Tryd.pinned (.plain (OpenSpec.ofChange fnExprKidsSpec)) fnExprKidsCard

/-- THE TIED CARD OF 'laws.FnExprAny'. -/
def fnExprAnyCard : Claim7 := { stood := { row := fnExprAnyRow, standIns := [], harness := (true, "cd1a0c61760a985e6c45c47d4632e5378f71c944e9195858ac616038756130b7"), looks := true }, kinds := [], alts := [], laidByText := true, laidKinds := [.data, .data, .data, .sentinel, .sentinel], laidTests := true, laidLooks := .later }
def FnExprAnyCardSaid : Prop := Claim7.holds Tryd.pinned (.plain (OpenSpec.ofChange fnExprAnySpec)) fnExprAnyCard

/-- THE TIED CARD OF 'laws.FnExprSame'. -/
def fnExprSameCard : Claim7 := { stood := { row := fnExprSameRow, standIns := [], harness := (true, "cd1a0c61760a985e6c45c47d4632e5378f71c944e9195858ac616038756130b7"), looks := true }, kinds := [], alts := [], laidByText := true, laidKinds := [.data, .data, .data, .sentinel, .sentinel], laidTests := true, laidLooks := .later }
def FnExprSameCardSaid : Prop := Claim7.holds Tryd.pinned (.plain (OpenSpec.ofChange fnExprSameSpec)) fnExprSameCard

/-- THE TIED CARD OF 'laws.FnLabelHolds'. -/
def fnLabelHoldsCard : Claim7 := { stood := { row := fnLabelHoldsRow, standIns := [], harness := (true, "cd1a0c61760a985e6c45c47d4632e5378f71c944e9195858ac616038756130b7"), looks := true }, kinds := [], alts := [], laidByText := true, laidKinds := [.data, .data, .data, .sentinel, .sentinel], laidTests := true, laidLooks := .later }
def FnLabelHoldsCardSaid : Prop := Claim7.holds Tryd.pinned (.plain (OpenSpec.ofChange fnLabelHoldsSpec)) fnLabelHoldsCard

/-- THE TIED CARD OF 'laws.FnNumHolds'. -/
def fnNumHoldsCard : Claim7 := { stood := { row := fnNumHoldsRow, standIns := [], harness := (true, "cd1a0c61760a985e6c45c47d4632e5378f71c944e9195858ac616038756130b7"), looks := true }, kinds := [], alts := [], laidByText := true, laidKinds := [.data, .data, .data, .sentinel, .sentinel], laidTests := true, laidLooks := .later }
def FnNumHoldsCardSaid : Prop := Claim7.holds Tryd.pinned (.plain (OpenSpec.ofChange fnNumHoldsSpec)) fnNumHoldsCard

/-- THE TIED CARD OF 'laws.FnExprAnd'. -/
def fnExprAndCard : Claim7 := { stood := { row := fnExprAndRow, standIns := [], harness := (true, "cd1a0c61760a985e6c45c47d4632e5378f71c944e9195858ac616038756130b7"), looks := true }, kinds := [], alts := [], laidByText := true, laidKinds := [.data, .data, .data, .sentinel, .sentinel], laidTests := true, laidLooks := .later }
def FnExprAndCardSaid : Prop := Claim7.holds Tryd.pinned (.plain (OpenSpec.ofChange fnExprAndSpec)) fnExprAndCard

/-- THE TIED CARD OF 'laws.FnExprMorgan'. -/
def fnExprMorganCard : Claim7 := { stood := { row := fnExprMorganRow, standIns := [], harness := (true, "cd1a0c61760a985e6c45c47d4632e5378f71c944e9195858ac616038756130b7"), looks := true }, kinds := [], alts := [], laidByText := true, laidKinds := [.data, .data, .data, .sentinel, .sentinel], laidTests := true, laidLooks := .later }
def FnExprMorganCardSaid : Prop := Claim7.holds Tryd.pinned (.plain (OpenSpec.ofChange fnExprMorganSpec)) fnExprMorganCard

/-- THE TIED CARD OF 'laws.FnPushText'. -/
def fnPushTextCard : Claim7 := { stood := { row := fnPushTextRow, standIns := [], harness := (true, "cd1a0c61760a985e6c45c47d4632e5378f71c944e9195858ac616038756130b7"), looks := true }, kinds := [], alts := [], laidByText := true, laidKinds := [.data, .data, .data, .sentinel, .sentinel], laidTests := true, laidLooks := .later }
def FnPushTextCardSaid : Prop := Claim7.holds Tryd.pinned (.plain (OpenSpec.ofChange fnPushTextSpec)) fnPushTextCard

/-- THE SECOND FORM's CARD OF 'laws.FnExprKids'. -/
def fnExprKidsUptoCard : Claim7 := { stood := { row := fnExprKidsUptoRow, standIns := [], harness := (true, "cd1a0c61760a985e6c45c47d4632e5378f71c944e9195858ac616038756130b7"), looks := true }, kinds := [], alts := [], laidByText := true, laidKinds := [.data, .data, .data, .sentinel, .sentinel], laidTests := true, laidLooks := .later }
def FnExprKidsUptoCardSaid : Prop := Claim7.holds Tryd.pinned (.plain (OpenSpec.upto fnExprKidsSpec)) fnExprKidsUptoCard

/-- THE SECOND FORM's CARD OF 'laws.FnExprAny'. -/
def fnExprAnyUptoCard : Claim7 := { stood := { row := fnExprAnyUptoRow, standIns := [], harness := (true, "cd1a0c61760a985e6c45c47d4632e5378f71c944e9195858ac616038756130b7"), looks := true }, kinds := [], alts := [], laidByText := true, laidKinds := [.data, .data, .data, .sentinel, .sentinel], laidTests := true, laidLooks := .later }
def FnExprAnyUptoCardSaid : Prop := Claim7.holds Tryd.pinned (.plain (OpenSpec.upto fnExprAnySpec)) fnExprAnyUptoCard

/-- THE SECOND FORM's CARD OF 'laws.FnExprSame'. -/
def fnExprSameUptoCard : Claim7 := { stood := { row := fnExprSameUptoRow, standIns := [], harness := (true, "cd1a0c61760a985e6c45c47d4632e5378f71c944e9195858ac616038756130b7"), looks := true }, kinds := [], alts := [], laidByText := true, laidKinds := [.data, .data, .data, .sentinel, .sentinel], laidTests := true, laidLooks := .later }
def FnExprSameUptoCardSaid : Prop := Claim7.holds Tryd.pinned (.plain (OpenSpec.upto fnExprSameSpec)) fnExprSameUptoCard

/-- THE SECOND FORM's CARD OF 'laws.FnLabelHolds'. -/
def fnLabelHoldsUptoCard : Claim7 := { stood := { row := fnLabelHoldsUptoRow, standIns := [], harness := (true, "cd1a0c61760a985e6c45c47d4632e5378f71c944e9195858ac616038756130b7"), looks := true }, kinds := [], alts := [], laidByText := true, laidKinds := [.data, .data, .data, .sentinel, .sentinel], laidTests := true, laidLooks := .later }
def FnLabelHoldsUptoCardSaid : Prop := Claim7.holds Tryd.pinned (.plain (OpenSpec.upto fnLabelHoldsSpec)) fnLabelHoldsUptoCard

/-- THE SECOND FORM's CARD OF 'laws.FnNumHolds'. -/
def fnNumHoldsUptoCard : Claim7 := { stood := { row := fnNumHoldsUptoRow, standIns := [], harness := (true, "cd1a0c61760a985e6c45c47d4632e5378f71c944e9195858ac616038756130b7"), looks := true }, kinds := [], alts := [], laidByText := true, laidKinds := [.data, .data, .data, .sentinel, .sentinel], laidTests := true, laidLooks := .later }
def FnNumHoldsUptoCardSaid : Prop := Claim7.holds Tryd.pinned (.plain (OpenSpec.upto fnNumHoldsSpec)) fnNumHoldsUptoCard

/-- THE SECOND FORM's CARD OF 'laws.FnExprAnd'. -/
def fnExprAndUptoCard : Claim7 := { stood := { row := fnExprAndUptoRow, standIns := [], harness := (true, "cd1a0c61760a985e6c45c47d4632e5378f71c944e9195858ac616038756130b7"), looks := true }, kinds := [], alts := [], laidByText := true, laidKinds := [.data, .data, .data, .sentinel, .sentinel], laidTests := true, laidLooks := .later }
def FnExprAndUptoCardSaid : Prop := Claim7.holds Tryd.pinned (.plain (OpenSpec.upto fnExprAndSpec)) fnExprAndUptoCard

/-- THE SECOND FORM's CARD OF 'laws.FnExprMorgan'. -/
def fnExprMorganUptoCard : Claim7 := { stood := { row := fnExprMorganUptoRow, standIns := [], harness := (true, "cd1a0c61760a985e6c45c47d4632e5378f71c944e9195858ac616038756130b7"), looks := true }, kinds := [], alts := [], laidByText := true, laidKinds := [.data, .data, .data, .sentinel, .sentinel], laidTests := true, laidLooks := .later }
def FnExprMorganUptoCardSaid : Prop := Claim7.holds Tryd.pinned (.plain (OpenSpec.upto fnExprMorganSpec)) fnExprMorganUptoCard

/-- THE SECOND FORM's CARD OF 'laws.FnPushText'. -/
def fnPushTextUptoCard : Claim7 := { stood := { row := fnPushTextUptoRow, standIns := [], harness := (true, "cd1a0c61760a985e6c45c47d4632e5378f71c944e9195858ac616038756130b7"), looks := true }, kinds := [], alts := [], laidByText := true, laidKinds := [.data, .data, .data, .sentinel, .sentinel], laidTests := true, laidLooks := .later }
def FnPushTextUptoCardSaid : Prop := Claim7.holds Tryd.pinned (.plain (OpenSpec.upto fnPushTextSpec)) fnPushTextUptoCard
end Rows
end Go.Proofs.YtckkebjpkcfmnaaDoor
