/-
  DERIVED. GIVEN WITH THE SEED: THE CARDS: each row of YtghhabailgfelaaDoorRows.lean that lists a variable, with what it lists TIED to the program's text (the seventh form; the later family's looks); each row that meets fmt, with fmt's text TOLD by the authors' own Lean function (tested against real Go, not proved from fmt's source: count such statements apart). THE CARD IS WHAT COUNTS. Prove the row's statement (the work); the ties are given (YtghhabailgfelaaDoorTie.lean); close each card by the builder's one call (the guide's Derived/Test/ToyasCard.lean, 'card_holds'). Laid BY PROGRAM, IN A SANDBOX (cutbox-door.mjs). By AI agents, Wed Nov 11 2026. No macro, syntax, notation, axiom, sorry.
-/
import Derived.Test.YtghhabailgfelaaDoorRows
import GoSem.ClaimSeven
namespace Go.Proofs.YtghhabailgfelaaDoor
namespace Rows

/-- THE TIED CARD OF 'laws.FnHopsFrom'. -/
def fnHopsFromCard : Claim7 := { stood := { row := fnHopsFromRow, standIns := [], harness := (true, "9bfe4f8a333000fdb15a159ac801022086dc4d0b70a8e1cf540d803533657a74"), looks := true }, kinds := [], alts := [], laidByText := true, laidKinds := [.data, .data, .data, .sentinel, .sentinel], laidTests := true, laidLooks := .later }
def FnHopsFromCardSaid : Prop := Claim7.holds Tryd.pinned (.plain (OpenSpec.ofChange fnHopsFromSpec)) fnHopsFromCard

/-- THE TIED CARD OF 'laws.FnTurnElem'. -/
def fnTurnElemCard : Claim7 := { stood := { row := fnTurnElemRow, standIns := [], harness := (true, "9bfe4f8a333000fdb15a159ac801022086dc4d0b70a8e1cf540d803533657a74"), looks := true }, kinds := [], alts := [], laidByText := true, laidKinds := [.data, .data, .data, .sentinel, .sentinel], laidTests := true, laidLooks := .later }
def FnTurnElemCardSaid : Prop := Claim7.holds Tryd.pinned (.plain (OpenSpec.ofChange fnTurnElemSpec)) fnTurnElemCard

/-- THE TIED CARD OF 'laws.FnEdgeFits'. -/
def fnEdgeFitsCard : Claim7 := { stood := { row := fnEdgeFitsRow, standIns := [], harness := (true, "9bfe4f8a333000fdb15a159ac801022086dc4d0b70a8e1cf540d803533657a74"), looks := true }, kinds := [], alts := [], laidByText := true, laidKinds := [.data, .data, .data, .sentinel, .sentinel], laidTests := true, laidLooks := .later }
def FnEdgeFitsCardSaid : Prop := Claim7.holds Tryd.pinned (.plain (OpenSpec.ofChange fnEdgeFitsSpec)) fnEdgeFitsCard

/-- THE TIED CARD OF 'laws.FnElemEmpty'. -/
def fnElemEmptyCard : Claim7 := { stood := { row := fnElemEmptyRow, standIns := [], harness := (true, "9bfe4f8a333000fdb15a159ac801022086dc4d0b70a8e1cf540d803533657a74"), looks := true }, kinds := [], alts := [], laidByText := true, laidKinds := [.data, .data, .data, .sentinel, .sentinel], laidTests := true, laidLooks := .later }
def FnElemEmptyCardSaid : Prop := Claim7.holds Tryd.pinned (.plain (OpenSpec.ofChange fnElemEmptySpec)) fnElemEmptyCard

/-- THE TIED CARD OF 'laws.FnHopsAny'. -/
def fnHopsAnyCard : Claim7 := { stood := { row := fnHopsAnyRow, standIns := [], harness := (true, "9bfe4f8a333000fdb15a159ac801022086dc4d0b70a8e1cf540d803533657a74"), looks := true }, kinds := [], alts := [], laidByText := true, laidKinds := [.data, .data, .data, .sentinel, .sentinel], laidTests := true, laidLooks := .later }
def FnHopsAnyCardSaid : Prop := Claim7.holds Tryd.pinned (.plain (OpenSpec.ofChange fnHopsAnySpec)) fnHopsAnyCard

/-- THE TIED CARD OF 'laws.FnTurnHops'. -/
def fnTurnHopsCard : Claim7 := { stood := { row := fnTurnHopsRow, standIns := [], harness := (true, "9bfe4f8a333000fdb15a159ac801022086dc4d0b70a8e1cf540d803533657a74"), looks := true }, kinds := [], alts := [], laidByText := true, laidKinds := [.data, .data, .data, .sentinel, .sentinel], laidTests := true, laidLooks := .later }
def FnTurnHopsCardSaid : Prop := Claim7.holds Tryd.pinned (.plain (OpenSpec.ofChange fnTurnHopsSpec)) fnTurnHopsCard

/-- THE SECOND FORM's CARD OF 'laws.FnHopsFrom'. -/
def fnHopsFromUptoCard : Claim7 := { stood := { row := fnHopsFromUptoRow, standIns := [], harness := (true, "9bfe4f8a333000fdb15a159ac801022086dc4d0b70a8e1cf540d803533657a74"), looks := true }, kinds := [], alts := [], laidByText := true, laidKinds := [.data, .data, .data, .sentinel, .sentinel], laidTests := true, laidLooks := .later }
def FnHopsFromUptoCardSaid : Prop := Claim7.holds Tryd.pinned (.plain (OpenSpec.upto fnHopsFromSpec)) fnHopsFromUptoCard

/-- THE SECOND FORM's CARD OF 'laws.FnTurnElem'. -/
def fnTurnElemUptoCard : Claim7 := { stood := { row := fnTurnElemUptoRow, standIns := [], harness := (true, "9bfe4f8a333000fdb15a159ac801022086dc4d0b70a8e1cf540d803533657a74"), looks := true }, kinds := [], alts := [], laidByText := true, laidKinds := [.data, .data, .data, .sentinel, .sentinel], laidTests := true, laidLooks := .later }
def FnTurnElemUptoCardSaid : Prop := Claim7.holds Tryd.pinned (.plain (OpenSpec.upto fnTurnElemSpec)) fnTurnElemUptoCard

/-- THE SECOND FORM's CARD OF 'laws.FnEdgeFits'. -/
def fnEdgeFitsUptoCard : Claim7 := { stood := { row := fnEdgeFitsUptoRow, standIns := [], harness := (true, "9bfe4f8a333000fdb15a159ac801022086dc4d0b70a8e1cf540d803533657a74"), looks := true }, kinds := [], alts := [], laidByText := true, laidKinds := [.data, .data, .data, .sentinel, .sentinel], laidTests := true, laidLooks := .later }
def FnEdgeFitsUptoCardSaid : Prop := Claim7.holds Tryd.pinned (.plain (OpenSpec.upto fnEdgeFitsSpec)) fnEdgeFitsUptoCard

/-- THE SECOND FORM's CARD OF 'laws.FnElemEmpty'. -/
def fnElemEmptyUptoCard : Claim7 := { stood := { row := fnElemEmptyUptoRow, standIns := [], harness := (true, "9bfe4f8a333000fdb15a159ac801022086dc4d0b70a8e1cf540d803533657a74"), looks := true }, kinds := [], alts := [], laidByText := true, laidKinds := [.data, .data, .data, .sentinel, .sentinel], laidTests := true, laidLooks := .later }
def FnElemEmptyUptoCardSaid : Prop := Claim7.holds Tryd.pinned (.plain (OpenSpec.upto fnElemEmptySpec)) fnElemEmptyUptoCard

/-- THE SECOND FORM's CARD OF 'laws.FnHopsAny'. -/
def fnHopsAnyUptoCard : Claim7 := { stood := { row := fnHopsAnyUptoRow, standIns := [], harness := (true, "9bfe4f8a333000fdb15a159ac801022086dc4d0b70a8e1cf540d803533657a74"), looks := true }, kinds := [], alts := [], laidByText := true, laidKinds := [.data, .data, .data, .sentinel, .sentinel], laidTests := true, laidLooks := .later }
def FnHopsAnyUptoCardSaid : Prop := Claim7.holds Tryd.pinned (.plain (OpenSpec.upto fnHopsAnySpec)) fnHopsAnyUptoCard

/-- THE SECOND FORM's CARD OF 'laws.FnTurnHops'. -/
def fnTurnHopsUptoCard : Claim7 := { stood := { row := fnTurnHopsUptoRow, standIns := [], harness := (true, "9bfe4f8a333000fdb15a159ac801022086dc4d0b70a8e1cf540d803533657a74"), looks := true }, kinds := [], alts := [], laidByText := true, laidKinds := [.data, .data, .data, .sentinel, .sentinel], laidTests := true, laidLooks := .later }
def FnTurnHopsUptoCardSaid : Prop := Claim7.holds Tryd.pinned (.plain (OpenSpec.upto fnTurnHopsSpec)) fnTurnHopsUptoCard
end Rows
end Go.Proofs.YtghhabailgfelaaDoor
