/-
  DERIVED. GIVEN WITH THE SEED: THE CARDS: each row of YthephdglianipaaDoorRows.lean that lists a variable, with what it lists TIED to the program's text (the seventh form; the later family's looks); each row that meets fmt, with fmt's text TOLD by the authors' own Lean function (tested against real Go, not proved from fmt's source: count such statements apart). THE CARD IS WHAT COUNTS. Prove the row's statement (the work); the ties are given (YthephdglianipaaDoorTie.lean); close each card by the builder's one call (the guide's Derived/Test/ToyasCard.lean, 'card_holds'). Laid BY PROGRAM, IN A SANDBOX (cutbox-door.mjs). By AI agents, Wed Nov 11 2026. No macro, syntax, notation, axiom, sorry.
-/
import Derived.Test.YthephdglianipaaDoorRows
import GoSem.ClaimSeven
namespace Go.Proofs.YthephdglianipaaDoor
namespace Rows

/-- THE TIED CARD OF 'laws.FnGraphNode'. -/
def fnGraphNodeCard : Claim7 := { stood := { row := fnGraphNodeRow, standIns := [], harness := (true, "ac972c3037512fa09741ceb43316ad49da0b342e3078a4a9c2a3758eacf4f0a8"), looks := false }, kinds := [], alts := [], laidByText := true, laidKinds := [.data, .data, .data], laidTests := true, laidLooks := .later }
def FnGraphNodeCardSaid : Prop := Claim7.holds Tryd.pinned (.plain (OpenSpec.ofChange fnGraphNodeSpec)) fnGraphNodeCard

/-- THE SECOND FORM's CARD OF 'laws.FnGraphNode'. -/
def fnGraphNodeUptoCard : Claim7 := { stood := { row := fnGraphNodeUptoRow, standIns := [], harness := (true, "ac972c3037512fa09741ceb43316ad49da0b342e3078a4a9c2a3758eacf4f0a8"), looks := false }, kinds := [], alts := [], laidByText := true, laidKinds := [.data, .data, .data], laidTests := true, laidLooks := .later }
def FnGraphNodeUptoCardSaid : Prop := Claim7.holds Tryd.pinned (.plain (OpenSpec.upto fnGraphNodeSpec)) fnGraphNodeUptoCard
end Rows
end Go.Proofs.YthephdglianipaaDoor
