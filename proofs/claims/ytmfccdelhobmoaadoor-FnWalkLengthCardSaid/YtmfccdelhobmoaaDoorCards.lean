/-
  DERIVED. GIVEN WITH THE SEED: THE CARDS: each row of YtmfccdelhobmoaaDoorRows.lean that lists a variable, with what it lists TIED to the program's text (the seventh form; the later family's looks); each row that meets fmt, with fmt's text TOLD by the authors' own Lean function (tested against real Go, not proved from fmt's source: count such statements apart). THE CARD IS WHAT COUNTS. Prove the row's statement (the work); the ties are given (YtmfccdelhobmoaaDoorTie.lean); close each card by the builder's one call (the guide's Derived/Test/ToyasCard.lean, 'card_holds'). Laid BY PROGRAM, IN A SANDBOX (cutbox-door.mjs). By AI agents, Wed Nov 11 2026. No macro, syntax, notation, axiom, sorry.
-/
import Derived.Test.YtmfccdelhobmoaaDoorRows
import GoSem.ClaimSeven
namespace Go.Proofs.YtmfccdelhobmoaaDoor
namespace Rows

/-- THE TIED CARD OF 'laws.FnWalkLength'. -/
def fnWalkLengthCard : Claim7 := { stood := { row := fnWalkLengthRow, standIns := [], harness := (true, "56a335cfaf5b5f607434aebbc3157aac4b9b94025692dd6c48e93759b626ef23"), looks := false }, kinds := [], alts := [], laidByText := true, laidKinds := [.data, .data, .data], laidTests := true, laidLooks := .later }
def FnWalkLengthCardSaid : Prop := Claim7.holds Tryd.pinned (.plain (OpenSpec.ofChange fnWalkLengthSpec)) fnWalkLengthCard

/-- THE SECOND FORM's CARD OF 'laws.FnWalkLength'. -/
def fnWalkLengthUptoCard : Claim7 := { stood := { row := fnWalkLengthUptoRow, standIns := [], harness := (true, "56a335cfaf5b5f607434aebbc3157aac4b9b94025692dd6c48e93759b626ef23"), looks := false }, kinds := [], alts := [], laidByText := true, laidKinds := [.data, .data, .data], laidTests := true, laidLooks := .later }
def FnWalkLengthUptoCardSaid : Prop := Claim7.holds Tryd.pinned (.plain (OpenSpec.upto fnWalkLengthSpec)) fnWalkLengthUptoCard
end Rows
end Go.Proofs.YtmfccdelhobmoaaDoor
