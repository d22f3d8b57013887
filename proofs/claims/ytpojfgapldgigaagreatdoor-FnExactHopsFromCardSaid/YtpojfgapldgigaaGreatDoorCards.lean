/-
  DERIVED. GIVEN WITH THE SEED: THE CARDS: each row of YtpojfgapldgigaaGreatDoorRows.lean that lists a variable, with what it lists TIED to the program's text (the seventh form; the later family's looks); each row that meets fmt, with fmt's text TOLD by the authors' own Lean function (tested against real Go, not proved from fmt's source: count such statements apart). THE CARD IS WHAT COUNTS. Prove the row's statement (the work); the ties are given (YtpojfgapldgigaaGreatDoorTie.lean); close each card by the builder's one call (the guide's Derived/Test/ToyasCard.lean, 'card_holds'). Laid BY PROGRAM, IN A SANDBOX (cutbox-door.mjs). By AI agents, Wed Nov 11 2026. No macro, syntax, notation, axiom, sorry.
-/
import Derived.Test.YtpojfgapldgigaaGreatDoorRows
import GoSem.ClaimSeven
namespace Go.Proofs.YtpojfgapldgigaaGreatDoor
namespace Rows

/-- THE TIED CARD OF 'laws.FnExactHopsFrom'. -/
def fnExactHopsFromCard : Claim7 := { stood := { row := fnExactHopsFromRow, standIns := [], harness := (true, "c3c04914d593f4d42a53b678384bf63535f464ab42b8ee4bea30d83915a02285"), looks := true }, kinds := [], alts := [], laidByText := true, laidKinds := [.data, .data, .data, .sentinel, .sentinel], laidTests := true, laidLooks := .later }
def FnExactHopsFromCardSaid : Prop := Claim7.holds Tryz.pinned (.plain (OpenSpec.ofChange fnExactHopsFromSpec)) fnExactHopsFromCard

/-- THE SECOND FORM's CARD OF 'laws.FnExactHopsFrom'. -/
def fnExactHopsFromUptoCard : Claim7 := { stood := { row := fnExactHopsFromUptoRow, standIns := [], harness := (true, "c3c04914d593f4d42a53b678384bf63535f464ab42b8ee4bea30d83915a02285"), looks := true }, kinds := [], alts := [], laidByText := true, laidKinds := [.data, .data, .data, .sentinel, .sentinel], laidTests := true, laidLooks := .later }
def FnExactHopsFromUptoCardSaid : Prop := Claim7.holds Tryz.pinned (.plain (OpenSpec.upto fnExactHopsFromSpec)) fnExactHopsFromUptoCard
end Rows
end Go.Proofs.YtpojfgapldgigaaGreatDoor
