/-
  DERIVED. GIVEN WITH THE SEED: THE CARDS: each row of YtbbemeaojmfndaaDoorRows.lean that lists a variable, with what it lists TIED to the program's text (the seventh form; the later family's looks); each row that meets fmt, with fmt's text TOLD by the authors' own Lean function (tested against real Go, not proved from fmt's source: count such statements apart). THE CARD IS WHAT COUNTS. Prove the row's statement (the work); the ties are given (YtbbemeaojmfndaaDoorTie.lean); close each card by the builder's one call (the guide's Derived/Test/ToyasCard.lean, 'card_holds'). Laid BY PROGRAM, IN A SANDBOX (cutbox-door.mjs). By AI agents, Wed Nov 11 2026. No macro, syntax, notation, axiom, sorry.
-/
import Derived.Test.YtbbemeaojmfndaaDoorRows
import GoSem.ClaimSeven
namespace Go.Proofs.YtbbemeaojmfndaaDoor
namespace Rows

/-- THE TIED CARD OF 'laws.FnMergeElems'. -/
def fnMergeElemsCard : Claim7 := { stood := { row := fnMergeElemsRow, standIns := [], harness := (true, "7305b2d1da8b34db79d700ed4d43b7de7bed0824f880554a4439691aba70886f"), looks := true }, kinds := [], alts := [], laidByText := true, laidKinds := [.data, .data, .data, .sentinel, .sentinel], laidTests := true, laidLooks := .later }
def FnMergeElemsCardSaid : Prop := Claim7.holds Tryd.pinned (.plain (OpenSpec.ofChange fnMergeElemsSpec)) fnMergeElemsCard

/-- THE TIED CARD OF 'laws.FnMergeSame'. -/
def fnMergeSameCard : Claim7 := { stood := { row := fnMergeSameRow, standIns := [], harness := (true, "7305b2d1da8b34db79d700ed4d43b7de7bed0824f880554a4439691aba70886f"), looks := true }, kinds := [], alts := [], laidByText := true, laidKinds := [.data, .data, .data, .sentinel, .sentinel], laidTests := true, laidLooks := .later }
def FnMergeSameCardSaid : Prop := Claim7.holds Tryd.pinned (.plain (OpenSpec.ofChange fnMergeSameSpec)) fnMergeSameCard

/-- THE TIED CARD OF 'laws.FnExactMergeElems'. -/
def fnExactMergeElemsCard : Claim7 := { stood := { row := fnExactMergeElemsRow, standIns := [], harness := (true, "7305b2d1da8b34db79d700ed4d43b7de7bed0824f880554a4439691aba70886f"), looks := true }, kinds := [], alts := [], laidByText := true, laidKinds := [.data, .data, .data, .sentinel, .sentinel], laidTests := true, laidLooks := .later }
def FnExactMergeElemsCardSaid : Prop := Claim7.holds Tryd.pinned (.plain (OpenSpec.ofChange fnExactMergeElemsSpec)) fnExactMergeElemsCard

/-- THE TIED CARD OF 'laws.FnExactAutoValid'. -/
def fnExactAutoValidCard : Claim7 := { stood := { row := fnExactAutoValidRow, standIns := [], harness := (true, "7305b2d1da8b34db79d700ed4d43b7de7bed0824f880554a4439691aba70886f"), looks := true }, kinds := [], alts := [], laidByText := true, laidKinds := [.data, .data, .data, .sentinel, .sentinel], laidTests := true, laidLooks := .later }
def FnExactAutoValidCardSaid : Prop := Claim7.holds Tryd.pinned (.plain (OpenSpec.ofChange fnExactAutoValidSpec)) fnExactAutoValidCard

/-- THE SECOND FORM's CARD OF 'laws.FnMergeElems'. -/
def fnMergeElemsUptoCard : Claim7 := { stood := { row := fnMergeElemsUptoRow, standIns := [], harness := (true, "7305b2d1da8b34db79d700ed4d43b7de7bed0824f880554a4439691aba70886f"), looks := true }, kinds := [], alts := [], laidByText := true, laidKinds := [.data, .data, .data, .sentinel, .sentinel], laidTests := true, laidLooks := .later }
def FnMergeElemsUptoCardSaid : Prop := Claim7.holds Tryd.pinned (.plain (OpenSpec.upto fnMergeElemsSpec)) fnMergeElemsUptoCard

/-- THE SECOND FORM's CARD OF 'laws.FnMergeSame'. -/
def fnMergeSameUptoCard : Claim7 := { stood := { row := fnMergeSameUptoRow, standIns := [], harness := (true, "7305b2d1da8b34db79d700ed4d43b7de7bed0824f880554a4439691aba70886f"), looks := true }, kinds := [], alts := [], laidByText := true, laidKinds := [.data, .data, .data, .sentinel, .sentinel], laidTests := true, laidLooks := .later }
def FnMergeSameUptoCardSaid : Prop := Claim7.holds Tryd.pinned (.plain (OpenSpec.upto fnMergeSameSpec)) fnMergeSameUptoCard

/-- THE SECOND FORM's CARD OF 'laws.FnExactMergeElems'. -/
def fnExactMergeElemsUptoCard : Claim7 := { stood := { row := fnExactMergeElemsUptoRow, standIns := [], harness := (true, "7305b2d1da8b34db79d700ed4d43b7de7bed0824f880554a4439691aba70886f"), looks := true }, kinds := [], alts := [], laidByText := true, laidKinds := [.data, .data, .data, .sentinel, .sentinel], laidTests := true, laidLooks := .later }
def FnExactMergeElemsUptoCardSaid : Prop := Claim7.holds Tryd.pinned (.plain (OpenSpec.upto fnExactMergeElemsSpec)) fnExactMergeElemsUptoCard

/-- THE SECOND FORM's CARD OF 'laws.FnExactAutoValid'. -/
def fnExactAutoValidUptoCard : Claim7 := { stood := { row := fnExactAutoValidUptoRow, standIns := [], harness := (true, "7305b2d1da8b34db79d700ed4d43b7de7bed0824f880554a4439691aba70886f"), looks := true }, kinds := [], alts := [], laidByText := true, laidKinds := [.data, .data, .data, .sentinel, .sentinel], laidTests := true, laidLooks := .later }
def FnExactAutoValidUptoCardSaid : Prop := Claim7.holds Tryd.pinned (.plain (OpenSpec.upto fnExactAutoValidSpec)) fnExactAutoValidUptoCard
end Rows
end Go.Proofs.YtbbemeaojmfndaaDoor
