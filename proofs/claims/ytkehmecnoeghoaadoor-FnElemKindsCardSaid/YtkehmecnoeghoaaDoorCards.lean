/-
  DERIVED. GIVEN WITH THE SEED: THE CARDS: each row of YtkehmecnoeghoaaDoorRows.lean that lists a variable, with what it lists TIED to the program's text (the seventh form; the later family's looks); each row that meets fmt, with fmt's text TOLD by the authors' own Lean function (tested against real Go, not proved from fmt's source: count such statements apart). THE CARD IS WHAT COUNTS. Prove the row's statement (the work); the ties are given (YtkehmecnoeghoaaDoorTie.lean); close each card by the builder's one call (the guide's Derived/Test/ToyasCard.lean, 'card_holds'). Laid BY PROGRAM, IN A SANDBOX (cutbox-door.mjs). By AI agents, Wed Nov 11 2026. No macro, syntax, notation, axiom, sorry.
-/
import Derived.Test.YtkehmecnoeghoaaDoorRows
import GoSem.ClaimSeven
namespace Go.Proofs.YtkehmecnoeghoaaDoor
namespace Rows

/-- THE TIED CARD OF 'laws.FnElemKinds'. -/
def fnElemKindsCard : Claim7 := { stood := { row := fnElemKindsRow, standIns := [], harness := (true, "e53da5d8608330fb27f395c6b2a9b229ef5adafeb02c8943f9e430251cabafad"), looks := true }, kinds := [], alts := [], laidByText := true, laidKinds := [.data, .data, .data, .sentinel, .sentinel, .data], laidTests := true, laidLooks := .later }
def FnElemKindsCardSaid : Prop := Claim7.holds Tryd.pinned (.plain (OpenSpec.ofChange fnElemKindsSpec)) fnElemKindsCard

/-- THE TIED CARD OF 'laws.FnNodeFits'. -/
def fnNodeFitsCard : Claim7 := { stood := { row := fnNodeFitsRow, standIns := [], harness := (true, "e53da5d8608330fb27f395c6b2a9b229ef5adafeb02c8943f9e430251cabafad"), looks := true }, kinds := [], alts := [], laidByText := true, laidKinds := [.data, .data, .data, .sentinel, .sentinel], laidTests := true, laidLooks := .later }
def FnNodeFitsCardSaid : Prop := Claim7.holds Tryd.pinned (.plain (OpenSpec.ofChange fnNodeFitsSpec)) fnNodeFitsCard

/-- THE TIED CARD OF 'laws.FnElemVar'. -/
def fnElemVarCard : Claim7 := { stood := { row := fnElemVarRow, standIns := [], harness := (true, "e53da5d8608330fb27f395c6b2a9b229ef5adafeb02c8943f9e430251cabafad"), looks := true }, kinds := [], alts := [], laidByText := true, laidKinds := [.data, .data, .data, .sentinel, .sentinel], laidTests := true, laidLooks := .later }
def FnElemVarCardSaid : Prop := Claim7.holds Tryd.pinned (.plain (OpenSpec.ofChange fnElemVarSpec)) fnElemVarCard

/-- THE TIED CARD OF 'laws.FnEdgeCond'. -/
def fnEdgeCondCard : Claim7 := { stood := { row := fnEdgeCondRow, standIns := [], harness := (true, "e53da5d8608330fb27f395c6b2a9b229ef5adafeb02c8943f9e430251cabafad"), looks := true }, kinds := [], alts := [], laidByText := true, laidKinds := [.data, .data, .data, .sentinel, .sentinel], laidTests := true, laidLooks := .later }
def FnEdgeCondCardSaid : Prop := Claim7.holds Tryd.pinned (.plain (OpenSpec.ofChange fnEdgeCondSpec)) fnEdgeCondCard

/-- THE SECOND FORM's CARD OF 'laws.FnElemKinds'. -/
def fnElemKindsUptoCard : Claim7 := { stood := { row := fnElemKindsUptoRow, standIns := [], harness := (true, "e53da5d8608330fb27f395c6b2a9b229ef5adafeb02c8943f9e430251cabafad"), looks := true }, kinds := [], alts := [], laidByText := true, laidKinds := [.data, .data, .data, .sentinel, .sentinel, .data], laidTests := true, laidLooks := .later }
def FnElemKindsUptoCardSaid : Prop := Claim7.holds Tryd.pinned (.plain (OpenSpec.upto fnElemKindsSpec)) fnElemKindsUptoCard

/-- THE SECOND FORM's CARD OF 'laws.FnNodeFits'. -/
def fnNodeFitsUptoCard : Claim7 := { stood := { row := fnNodeFitsUptoRow, standIns := [], harness := (true, "e53da5d8608330fb27f395c6b2a9b229ef5adafeb02c8943f9e430251cabafad"), looks := true }, kinds := [], alts := [], laidByText := true, laidKinds := [.data, .data, .data, .sentinel, .sentinel], laidTests := true, laidLooks := .later }
def FnNodeFitsUptoCardSaid : Prop := Claim7.holds Tryd.pinned (.plain (OpenSpec.upto fnNodeFitsSpec)) fnNodeFitsUptoCard

/-- THE SECOND FORM's CARD OF 'laws.FnElemVar'. -/
def fnElemVarUptoCard : Claim7 := { stood := { row := fnElemVarUptoRow, standIns := [], harness := (true, "e53da5d8608330fb27f395c6b2a9b229ef5adafeb02c8943f9e430251cabafad"), looks := true }, kinds := [], alts := [], laidByText := true, laidKinds := [.data, .data, .data, .sentinel, .sentinel], laidTests := true, laidLooks := .later }
def FnElemVarUptoCardSaid : Prop := Claim7.holds Tryd.pinned (.plain (OpenSpec.upto fnElemVarSpec)) fnElemVarUptoCard

/-- THE SECOND FORM's CARD OF 'laws.FnEdgeCond'. -/
def fnEdgeCondUptoCard : Claim7 := { stood := { row := fnEdgeCondUptoRow, standIns := [], harness := (true, "e53da5d8608330fb27f395c6b2a9b229ef5adafeb02c8943f9e430251cabafad"), looks := true }, kinds := [], alts := [], laidByText := true, laidKinds := [.data, .data, .data, .sentinel, .sentinel], laidTests := true, laidLooks := .later }
def FnEdgeCondUptoCardSaid : Prop := Claim7.holds Tryd.pinned (.plain (OpenSpec.upto fnEdgeCondSpec)) fnEdgeCondUptoCard
end Rows
end Go.Proofs.YtkehmecnoeghoaaDoor
