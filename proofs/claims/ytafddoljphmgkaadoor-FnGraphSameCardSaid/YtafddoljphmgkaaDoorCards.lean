/-
  DERIVED. GIVEN WITH THE SEED: THE CARDS: each row of YtafddoljphmgkaaDoorRows.lean that lists a variable, with what it lists TIED to the program's text (the seventh form; the later family's looks); each row that meets fmt, with fmt's text TOLD by the authors' own Lean function (tested against real Go, not proved from fmt's source: count such statements apart). THE CARD IS WHAT COUNTS. Prove the row's statement (the work); the ties are given (YtafddoljphmgkaaDoorTie.lean); close each card by the builder's one call (the guide's Derived/Test/ToyasCard.lean, 'card_holds'). Laid BY PROGRAM, IN A SANDBOX (cutbox-door.mjs). By AI agents, Wed Nov 11 2026. No macro, syntax, notation, axiom, sorry.
-/
import Derived.Test.YtafddoljphmgkaaDoorRows
import GoSem.ClaimSeven
namespace Go.Proofs.YtafddoljphmgkaaDoor
namespace Rows

/-- THE TIED CARD OF 'laws.FnGraphSame'. -/
def fnGraphSameCard : Claim7 := { stood := { row := fnGraphSameRow, standIns := [], harness := (true, "979b2b747c6472c47739584376b84741cab39b291c368c917b94d412c57cf5fd"), looks := false }, kinds := [], alts := [], laidByText := true, laidKinds := [.data, .data, .data], laidTests := true, laidLooks := .later }
def FnGraphSameCardSaid : Prop := Claim7.holds Tryd.pinned (.plain (OpenSpec.ofChange fnGraphSameSpec)) fnGraphSameCard

/-- THE SECOND FORM's CARD OF 'laws.FnGraphSame'. -/
def fnGraphSameUptoCard : Claim7 := { stood := { row := fnGraphSameUptoRow, standIns := [], harness := (true, "979b2b747c6472c47739584376b84741cab39b291c368c917b94d412c57cf5fd"), looks := false }, kinds := [], alts := [], laidByText := true, laidKinds := [.data, .data, .data], laidTests := true, laidLooks := .later }
def FnGraphSameUptoCardSaid : Prop := Claim7.holds Tryd.pinned (.plain (OpenSpec.upto fnGraphSameSpec)) fnGraphSameUptoCard
end Rows
end Go.Proofs.YtafddoljphmgkaaDoor
