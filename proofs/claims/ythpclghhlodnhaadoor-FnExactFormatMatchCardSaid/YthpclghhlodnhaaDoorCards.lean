/-
  DERIVED. GIVEN WITH THE SEED: THE CARDS: each row of YthpclghhlodnhaaDoorRows.lean that lists a variable, with what it lists TIED to the program's text (the seventh form; the later family's looks); each row that meets fmt, with fmt's text TOLD by the authors' own Lean function (tested against real Go, not proved from fmt's source: count such statements apart). THE CARD IS WHAT COUNTS. Prove the row's statement (the work); the ties are given (YthpclghhlodnhaaDoorTie.lean); close each card by the builder's one call (the guide's Derived/Test/ToyasCard.lean, 'card_holds'). Laid BY PROGRAM, IN A SANDBOX (cutbox-door.mjs). By AI agents, Wed Nov 11 2026. No macro, syntax, notation, axiom, sorry.
-/
import Derived.Test.YthpclghhlodnhaaDoorRows
import GoSem.ClaimSeven
namespace Go.Proofs.YthpclghhlodnhaaDoor
namespace Rows

/-- THE TIED CARD OF 'laws.FnExactEdgeFits'. -/
def fnExactEdgeFitsCard : Claim7 := { stood := { row := fnExactEdgeFitsRow, standIns := [], harness := (true, "6cbeb3f6d2729bcf5673059862b5e0ef22e4b78dd28641dce36a54a26ffaa231"), looks := true }, kinds := [], alts := [], laidByText := true, laidKinds := [.data, .data, .data, .sentinel, .sentinel], laidTests := true, laidLooks := .later }
def FnExactEdgeFitsCardSaid : Prop := Claim7.holds Tryd.pinned (.plain (OpenSpec.ofChange fnExactEdgeFitsSpec)) fnExactEdgeFitsCard

/-- THE TIED CARD OF 'laws.FnExactFormatMatch'. -/
def fnExactFormatMatchCard : Claim7 := { stood := { row := fnExactFormatMatchRow, standIns := [], harness := (true, "6cbeb3f6d2729bcf5673059862b5e0ef22e4b78dd28641dce36a54a26ffaa231"), looks := true }, kinds := [], alts := [], laidByText := true, laidKinds := [.data, .data, .data], laidTests := true, laidLooks := .later }
def FnExactFormatMatchCardSaid : Prop := Claim7.holds Tryd.pinned (.plain (OpenSpec.ofChange fnExactFormatMatchSpec)) fnExactFormatMatchCard

/-- THE SECOND FORM's CARD OF 'laws.FnExactEdgeFits'. -/
def fnExactEdgeFitsUptoCard : Claim7 := { stood := { row := fnExactEdgeFitsUptoRow, standIns := [], harness := (true, "6cbeb3f6d2729bcf5673059862b5e0ef22e4b78dd28641dce36a54a26ffaa231"), looks := true }, kinds := [], alts := [], laidByText := true, laidKinds := [.data, .data, .data, .sentinel, .sentinel], laidTests := true, laidLooks := .later }
def FnExactEdgeFitsUptoCardSaid : Prop := Claim7.holds Tryd.pinned (.plain (OpenSpec.upto fnExactEdgeFitsSpec)) fnExactEdgeFitsUptoCard

/-- THE SECOND FORM's CARD OF 'laws.FnExactFormatMatch'. -/
def fnExactFormatMatchUptoCard : Claim7 := { stood := { row := fnExactFormatMatchUptoRow, standIns := [], harness := (true, "6cbeb3f6d2729bcf5673059862b5e0ef22e4b78dd28641dce36a54a26ffaa231"), looks := true }, kinds := [], alts := [], laidByText := true, laidKinds := [.data, .data, .data], laidTests := true, laidLooks := .later }
def FnExactFormatMatchUptoCardSaid : Prop := Claim7.holds Tryd.pinned (.plain (OpenSpec.upto fnExactFormatMatchSpec)) fnExactFormatMatchUptoCard
end Rows
end Go.Proofs.YthpclghhlodnhaaDoor
