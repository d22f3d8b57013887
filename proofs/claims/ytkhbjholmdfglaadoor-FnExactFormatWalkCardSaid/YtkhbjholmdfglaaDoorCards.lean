/-
  DERIVED. GIVEN WITH THE SEED: THE CARDS: each row of YtkhbjholmdfglaaDoorRows.lean that lists a variable, with what it lists TIED to the program's text (the seventh form; the later family's looks); each row that meets fmt, with fmt's text TOLD by the authors' own Lean function (tested against real Go, not proved from fmt's source: count such statements apart). THE CARD IS WHAT COUNTS. Prove the row's statement (the work); the ties are given (YtkhbjholmdfglaaDoorTie.lean); close each card by the builder's one call (the guide's Derived/Test/ToyasCard.lean, 'card_holds'). Laid BY PROGRAM, IN A SANDBOX (cutbox-door.mjs). By AI agents, Wed Nov 11 2026. No macro, syntax, notation, axiom, sorry.
-/
import Derived.Test.YtkhbjholmdfglaaDoorRows
import GoSem.ClaimSeven
namespace Go.Proofs.YtkhbjholmdfglaaDoor
namespace Rows

/-- THE TIED CARD OF 'laws.FnExactEdgeFits'. -/
def fnExactEdgeFitsCard : Claim7 := { stood := { row := fnExactEdgeFitsRow, standIns := [], harness := (true, "9d22303c3f2fb367bc0e8b01125a9aa9135a3bfb94ddbb015651d9e71c020d56"), looks := true }, kinds := [], alts := [], laidByText := true, laidKinds := [.data, .data, .data, .sentinel, .sentinel], laidTests := true, laidLooks := .later }
def FnExactEdgeFitsCardSaid : Prop := Claim7.holds Tryd.pinned (.plain (OpenSpec.ofChange fnExactEdgeFitsSpec)) fnExactEdgeFitsCard

/-- THE TIED CARD OF 'laws.FnExactFormatWalk'. -/
def fnExactFormatWalkCard : Claim7 := { stood := { row := fnExactFormatWalkRow, standIns := [], harness := (true, "9d22303c3f2fb367bc0e8b01125a9aa9135a3bfb94ddbb015651d9e71c020d56"), looks := true }, kinds := [], alts := [], laidByText := true, laidKinds := [.data, .data, .data], laidTests := true, laidLooks := .later }
def FnExactFormatWalkCardSaid : Prop := Claim7.holds Tryd.pinned (.plain (OpenSpec.ofChange fnExactFormatWalkSpec)) fnExactFormatWalkCard

/-- THE TIED CARD OF 'laws.FnExactParseWalk'. -/
def fnExactParseWalkCard : Claim7 := { stood := { row := fnExactParseWalkRow, standIns := [], harness := (true, "9d22303c3f2fb367bc0e8b01125a9aa9135a3bfb94ddbb015651d9e71c020d56"), looks := true }, kinds := [], alts := [], laidByText := true, laidKinds := [.data, .data, .data, .sentinel, .sentinel], laidTests := true, laidLooks := .later }
def FnExactParseWalkCardSaid : Prop := Claim7.holds Tryd.pinned (.plain (OpenSpec.ofChange fnExactParseWalkSpec)) fnExactParseWalkCard

/-- THE SECOND FORM's CARD OF 'laws.FnExactEdgeFits'. -/
def fnExactEdgeFitsUptoCard : Claim7 := { stood := { row := fnExactEdgeFitsUptoRow, standIns := [], harness := (true, "9d22303c3f2fb367bc0e8b01125a9aa9135a3bfb94ddbb015651d9e71c020d56"), looks := true }, kinds := [], alts := [], laidByText := true, laidKinds := [.data, .data, .data, .sentinel, .sentinel], laidTests := true, laidLooks := .later }
def FnExactEdgeFitsUptoCardSaid : Prop := Claim7.holds Tryd.pinned (.plain (OpenSpec.upto fnExactEdgeFitsSpec)) fnExactEdgeFitsUptoCard

/-- THE SECOND FORM's CARD OF 'laws.FnExactFormatWalk'. -/
def fnExactFormatWalkUptoCard : Claim7 := { stood := { row := fnExactFormatWalkUptoRow, standIns := [], harness := (true, "9d22303c3f2fb367bc0e8b01125a9aa9135a3bfb94ddbb015651d9e71c020d56"), looks := true }, kinds := [], alts := [], laidByText := true, laidKinds := [.data, .data, .data], laidTests := true, laidLooks := .later }
def FnExactFormatWalkUptoCardSaid : Prop := Claim7.holds Tryd.pinned (.plain (OpenSpec.upto fnExactFormatWalkSpec)) fnExactFormatWalkUptoCard

/-- THE SECOND FORM's CARD OF 'laws.FnExactParseWalk'. -/
def fnExactParseWalkUptoCard : Claim7 := { stood := { row := fnExactParseWalkUptoRow, standIns := [], harness := (true, "9d22303c3f2fb367bc0e8b01125a9aa9135a3bfb94ddbb015651d9e71c020d56"), looks := true }, kinds := [], alts := [], laidByText := true, laidKinds := [.data, .data, .data, .sentinel, .sentinel], laidTests := true, laidLooks := .later }
def FnExactParseWalkUptoCardSaid : Prop := Claim7.holds Tryd.pinned (.plain (OpenSpec.upto fnExactParseWalkSpec)) fnExactParseWalkUptoCard
end Rows
end Go.Proofs.YtkhbjholmdfglaaDoor
