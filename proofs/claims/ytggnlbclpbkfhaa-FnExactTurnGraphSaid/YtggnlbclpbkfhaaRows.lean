/-
  No cell of these rows narrows 'for every input' (looked for: loops, veiled, ifaces, maps, wideKeys, modest, calm, conditions, laid).
  DERIVED. THE GIVEN ROWS OF THIS SEAT. 10 by the template 'for every input the law returns true; each argument reads behind the call as it read before'; 0 by the template 'total and deterministic' (their statements: YtggnlbclpbkfhaaTotals.lean).
  GIVEN WITH THE SEED: the statements are not yours to turn. If you find one false, say at which input.
  Laid BY PROGRAM, IN A SANDBOX (cutbox-rows.mjs): the forced cells as the released guide's own fill.sh prints them over the translation 6e0dc6b63b84c67c… (all of the seat's roots in one cut). By AI agents, Wed Nov 11 2026. No macro, syntax, notation, axiom, sorry.
-/
import Derived.Test.YtggnlbclpbkfhaaChecked
import GoSem.Claim
import GoSem.ClaimJoined
import GoSem.ClaimMapViews
import Derived.JoinedTies
import Derived.KernelRfl
namespace Go.Proofs.Ytggnlbclpbkfhaa
/- THE CELL 'sum', in the pinned program and in every row, IS THE sha256 OF THE DUMP (.gsa) THAT YtggnlbclpbkfhaaProg.lean LOADS. Nothing in Lean hashes anything: it is a label: what it is worth is what the hold of that sum in a sandbox is worth. -/
noncomputable def Try.pinned : Pinned := { name := "ytggnlbclpbkfhaa", sum := "6e0dc6b63b84c67c287859cbf92ca72112bc97f13702125c9cdfc264e23818c2", checked := Try.checked }
namespace Rows
def none {H : Type} : Left H := { results := [], args := [] }

/-- 'laws.FnAddOrder': WHATEVER THE INPUT: true; the input reads as it did. -/
def fnAddOrderSpec : ChangeSpec := { name := "fnAddOrder", fn := fun _ => fun
  | [d] => { results := [.lit (.bool true)], args := [d] }
  | _ => none }
def fnAddOrderRow : OpenClaim := { program := "ytggnlbclpbkfhaa", sum := "6e0dc6b63b84c67c287859cbf92ca72112bc97f13702125c9cdfc264e23818c2", func := "loop.example/graphpatterns/laws.FnAddOrder", spec := "fnAddOrder", apart := false }
def FnAddOrderSaid : Prop := fnAddOrderRow.holds Try.pinned (OpenSpec.ofChange fnAddOrderSpec)

/-- ITS FALSE NEIGHBOUR: 'it returns false'. Refute it at one input. -/
def fnAddOrderWrong : ChangeSpec := { name := "fnAddOrder", fn := fun _ => fun
  | [d] => { results := [.lit (.bool false)], args := [d] }
  | _ => none }
def FnAddOrderWrongFalsely : Prop := fnAddOrderRow.holds Try.pinned (OpenSpec.ofChange fnAddOrderWrong)

/-- 'laws.FnLabelValid': WHATEVER THE INPUT: true; the input reads as it did. -/
def fnLabelValidSpec : ChangeSpec := { name := "fnLabelValid", fn := fun _ => fun
  | [d] => { results := [.lit (.bool true)], args := [d] }
  | _ => none }
def fnLabelValidRow : OpenClaim := { program := "ytggnlbclpbkfhaa", sum := "6e0dc6b63b84c67c287859cbf92ca72112bc97f13702125c9cdfc264e23818c2", func := "loop.example/graphpatterns/laws.FnLabelValid", spec := "fnLabelValid", apart := false }
def FnLabelValidSaid : Prop := fnLabelValidRow.holds Try.pinned (OpenSpec.ofChange fnLabelValidSpec)

/-- ITS FALSE NEIGHBOUR: 'it returns false'. Refute it at one input. -/
def fnLabelValidWrong : ChangeSpec := { name := "fnLabelValid", fn := fun _ => fun
  | [d] => { results := [.lit (.bool false)], args := [d] }
  | _ => none }
def FnLabelValidWrongFalsely : Prop := fnLabelValidRow.holds Try.pinned (OpenSpec.ofChange fnLabelValidWrong)

/-- 'laws.FnExactLabelValid': WHATEVER THE INPUT: true; the input reads as it did. -/
def fnExactLabelValidSpec : ChangeSpec := { name := "fnExactLabelValid", fn := fun _ => fun
  | [d] => { results := [.lit (.bool true)], args := [d] }
  | _ => none }
def fnExactLabelValidRow : OpenClaim := { program := "ytggnlbclpbkfhaa", sum := "6e0dc6b63b84c67c287859cbf92ca72112bc97f13702125c9cdfc264e23818c2", func := "loop.example/graphpatterns/laws.FnExactLabelValid", spec := "fnExactLabelValid", apart := false }
def FnExactLabelValidSaid : Prop := fnExactLabelValidRow.holds Try.pinned (OpenSpec.ofChange fnExactLabelValidSpec)

/-- ITS FALSE NEIGHBOUR: 'it returns false'. Refute it at one input. -/
def fnExactLabelValidWrong : ChangeSpec := { name := "fnExactLabelValid", fn := fun _ => fun
  | [d] => { results := [.lit (.bool false)], args := [d] }
  | _ => none }
def FnExactLabelValidWrongFalsely : Prop := fnExactLabelValidRow.holds Try.pinned (OpenSpec.ofChange fnExactLabelValidWrong)

/-- 'laws.FnExactGraphValid': WHATEVER THE INPUT: true; the input reads as it did. -/
def fnExactGraphValidSpec : ChangeSpec := { name := "fnExactGraphValid", fn := fun _ => fun
  | [d] => { results := [.lit (.bool true)], args := [d] }
  | _ => none }
def fnExactGraphValidRow : OpenClaim := { program := "ytggnlbclpbkfhaa", sum := "6e0dc6b63b84c67c287859cbf92ca72112bc97f13702125c9cdfc264e23818c2", func := "loop.example/graphpatterns/laws.FnExactGraphValid", spec := "fnExactGraphValid", apart := false }
def FnExactGraphValidSaid : Prop := fnExactGraphValidRow.holds Try.pinned (OpenSpec.ofChange fnExactGraphValidSpec)

/-- ITS FALSE NEIGHBOUR: 'it returns false'. Refute it at one input. -/
def fnExactGraphValidWrong : ChangeSpec := { name := "fnExactGraphValid", fn := fun _ => fun
  | [d] => { results := [.lit (.bool false)], args := [d] }
  | _ => none }
def FnExactGraphValidWrongFalsely : Prop := fnExactGraphValidRow.holds Try.pinned (OpenSpec.ofChange fnExactGraphValidWrong)

/-- 'laws.FnExactGraphSame': WHATEVER THE INPUT: true; the input reads as it did. -/
def fnExactGraphSameSpec : ChangeSpec := { name := "fnExactGraphSame", fn := fun _ => fun
  | [d1, d2] => { results := [.lit (.bool true)], args := [d1, d2] }
  | _ => none }
def fnExactGraphSameRow : OpenClaim := { program := "ytggnlbclpbkfhaa", sum := "6e0dc6b63b84c67c287859cbf92ca72112bc97f13702125c9cdfc264e23818c2", func := "loop.example/graphpatterns/laws.FnExactGraphSame", spec := "fnExactGraphSame", apart := false }
def FnExactGraphSameSaid : Prop := fnExactGraphSameRow.holds Try.pinned (OpenSpec.ofChange fnExactGraphSameSpec)

/-- ITS FALSE NEIGHBOUR: 'it returns false'. Refute it at one input. -/
def fnExactGraphSameWrong : ChangeSpec := { name := "fnExactGraphSame", fn := fun _ => fun
  | [d1, d2] => { results := [.lit (.bool false)], args := [d1, d2] }
  | _ => none }
def FnExactGraphSameWrongFalsely : Prop := fnExactGraphSameRow.holds Try.pinned (OpenSpec.ofChange fnExactGraphSameWrong)

/-- 'laws.FnExactAddNode': WHATEVER THE INPUT: true; the input reads as it did. -/
def fnExactAddNodeSpec : ChangeSpec := { name := "fnExactAddNode", fn := fun _ => fun
  | [d1, d2] => { results := [.lit (.bool true)], args := [d1, d2] }
  | _ => none }
def fnExactAddNodeRow : OpenClaim := { program := "ytggnlbclpbkfhaa", sum := "6e0dc6b63b84c67c287859cbf92ca72112bc97f13702125c9cdfc264e23818c2", func := "loop.example/graphpatterns/laws.FnExactAddNode", spec := "fnExactAddNode", apart := false }
def FnExactAddNodeSaid : Prop := fnExactAddNodeRow.holds Try.pinned (OpenSpec.ofChange fnExactAddNodeSpec)

/-- ITS FALSE NEIGHBOUR: 'it returns false'. Refute it at one input. -/
def fnExactAddNodeWrong : ChangeSpec := { name := "fnExactAddNode", fn := fun _ => fun
  | [d1, d2] => { results := [.lit (.bool false)], args := [d1, d2] }
  | _ => none }
def FnExactAddNodeWrongFalsely : Prop := fnExactAddNodeRow.holds Try.pinned (OpenSpec.ofChange fnExactAddNodeWrong)

/-- 'laws.FnExactAddEdge': WHATEVER THE INPUT: true; the input reads as it did. -/
def fnExactAddEdgeSpec : ChangeSpec := { name := "fnExactAddEdge", fn := fun _ => fun
  | [d1, d2] => { results := [.lit (.bool true)], args := [d1, d2] }
  | _ => none }
def fnExactAddEdgeRow : OpenClaim := { program := "ytggnlbclpbkfhaa", sum := "6e0dc6b63b84c67c287859cbf92ca72112bc97f13702125c9cdfc264e23818c2", func := "loop.example/graphpatterns/laws.FnExactAddEdge", spec := "fnExactAddEdge", apart := false }
def FnExactAddEdgeSaid : Prop := fnExactAddEdgeRow.holds Try.pinned (OpenSpec.ofChange fnExactAddEdgeSpec)

/-- ITS FALSE NEIGHBOUR: 'it returns false'. Refute it at one input. -/
def fnExactAddEdgeWrong : ChangeSpec := { name := "fnExactAddEdge", fn := fun _ => fun
  | [d1, d2] => { results := [.lit (.bool false)], args := [d1, d2] }
  | _ => none }
def FnExactAddEdgeWrongFalsely : Prop := fnExactAddEdgeRow.holds Try.pinned (OpenSpec.ofChange fnExactAddEdgeWrong)

/-- 'laws.FnExactOutEdges': WHATEVER THE INPUT: true; the input reads as it did. -/
def fnExactOutEdgesSpec : ChangeSpec := { name := "fnExactOutEdges", fn := fun _ => fun
  | [d1, d2] => { results := [.lit (.bool true)], args := [d1, d2] }
  | _ => none }
def fnExactOutEdgesRow : OpenClaim := { program := "ytggnlbclpbkfhaa", sum := "6e0dc6b63b84c67c287859cbf92ca72112bc97f13702125c9cdfc264e23818c2", func := "loop.example/graphpatterns/laws.FnExactOutEdges", spec := "fnExactOutEdges", unfollowed := true, recurses := true, apart := false }
def FnExactOutEdgesSaid : Prop := fnExactOutEdgesRow.holds Try.pinned (OpenSpec.ofChange fnExactOutEdgesSpec)

/-- ITS FALSE NEIGHBOUR: 'it returns false'. Refute it at one input. -/
def fnExactOutEdgesWrong : ChangeSpec := { name := "fnExactOutEdges", fn := fun _ => fun
  | [d1, d2] => { results := [.lit (.bool false)], args := [d1, d2] }
  | _ => none }
def FnExactOutEdgesWrongFalsely : Prop := fnExactOutEdgesRow.holds Try.pinned (OpenSpec.ofChange fnExactOutEdgesWrong)

/-- 'laws.FnExactInEdges': WHATEVER THE INPUT: true; the input reads as it did. -/
def fnExactInEdgesSpec : ChangeSpec := { name := "fnExactInEdges", fn := fun _ => fun
  | [d1, d2] => { results := [.lit (.bool true)], args := [d1, d2] }
  | _ => none }
def fnExactInEdgesRow : OpenClaim := { program := "ytggnlbclpbkfhaa", sum := "6e0dc6b63b84c67c287859cbf92ca72112bc97f13702125c9cdfc264e23818c2", func := "loop.example/graphpatterns/laws.FnExactInEdges", spec := "fnExactInEdges", unfollowed := true, recurses := true, apart := false }
def FnExactInEdgesSaid : Prop := fnExactInEdgesRow.holds Try.pinned (OpenSpec.ofChange fnExactInEdgesSpec)

/-- ITS FALSE NEIGHBOUR: 'it returns false'. Refute it at one input. -/
def fnExactInEdgesWrong : ChangeSpec := { name := "fnExactInEdges", fn := fun _ => fun
  | [d1, d2] => { results := [.lit (.bool false)], args := [d1, d2] }
  | _ => none }
def FnExactInEdgesWrongFalsely : Prop := fnExactInEdgesRow.holds Try.pinned (OpenSpec.ofChange fnExactInEdgesWrong)

/-- 'laws.FnExactTurnGraph': WHATEVER THE INPUT: true; the input reads as it did. -/
def fnExactTurnGraphSpec : ChangeSpec := { name := "fnExactTurnGraph", fn := fun _ => fun
  | [d] => { results := [.lit (.bool true)], args := [d] }
  | _ => none }
def fnExactTurnGraphRow : OpenClaim := { program := "ytggnlbclpbkfhaa", sum := "6e0dc6b63b84c67c287859cbf92ca72112bc97f13702125c9cdfc264e23818c2", func := "loop.example/graphpatterns/laws.FnExactTurnGraph", spec := "fnExactTurnGraph", apart := false }
def FnExactTurnGraphSaid : Prop := fnExactTurnGraphRow.holds Try.pinned (OpenSpec.ofChange fnExactTurnGraphSpec)

/-- ITS FALSE NEIGHBOUR: 'it returns false'. Refute it at one input. -/
def fnExactTurnGraphWrong : ChangeSpec := { name := "fnExactTurnGraph", fn := fun _ => fun
  | [d] => { results := [.lit (.bool false)], args := [d] }
  | _ => none }
def FnExactTurnGraphWrongFalsely : Prop := fnExactTurnGraphRow.holds Try.pinned (OpenSpec.ofChange fnExactTurnGraphWrong)

/- THE SECOND FORM. 'bulk': how many values and letters a reading holds, each counted each time it is reached (what is shared counts as often as it is met; a slice's spare places count too). A statement '..UptoSaid' is the law's where the arguments, and the package variables that the reading takes, are together of bulk at most 1048576: NARROWER than '..Said'. Prove '..Said' where nothing that the law and all that it calls make is longer than what came in: it says more and counts as full. Else prove '..UptoSaid'. A law counts once. -/
mutual
def uptoBulk {H : Type} : DataW H → Nat
  | .lit (.string bytes) => bytes.length + 1
  | .lit _ => 1
  | .nil => 1
  | .ptr d => uptoBulk d + 1
  | .slice elems spare => uptoBulkAll elems + uptoBulkAll spare + 1
  | .agg parts => uptoBulkAll parts + 1
  | .iface _ d => uptoBulk d + 1
  | .map entries => uptoBulkEntries entries + 1
  | .held _ => 1
def uptoBulkAll {H : Type} : List (DataW H) → Nat
  | [] => 0
  | d :: r => uptoBulk d + uptoBulkAll r
def uptoBulkEntries {H : Type} : List (Lit × DataW H) → Nat
  | [] => 0
  | x :: r => uptoBulkEntry x + uptoBulkEntries r
def uptoBulkEntry {H : Type} : Lit × DataW H → Nat
  | (.string bytes, d) => bytes.length + uptoBulk d + 1
  | (_, d) => uptoBulk d + 1
 end
def uptoSmall : (H : Type) → List (DataW H) → Bool := fun _ ds => decide (uptoBulkAll ds ≤ 1048576)
def OpenSpec.upto (s : _root_.Go.ChangeSpec) : _root_.Go.OpenSpec := { _root_.Go.OpenSpec.ofChange s with cond := some uptoSmall }

/-- 'laws.FnAddOrder', WHERE WHAT IT READS IS OF BULK AT MOST 1048576: true; the input reads as it did. -/
def fnAddOrderUptoRow : OpenClaim := { program := "ytggnlbclpbkfhaa", sum := "6e0dc6b63b84c67c287859cbf92ca72112bc97f13702125c9cdfc264e23818c2", func := "loop.example/graphpatterns/laws.FnAddOrder", spec := "fnAddOrder", apart := false, narrowed := true }
def FnAddOrderUptoSaid : Prop := fnAddOrderUptoRow.holds Try.pinned (OpenSpec.upto fnAddOrderSpec)

/-- 'laws.FnLabelValid', WHERE WHAT IT READS IS OF BULK AT MOST 1048576: true; the input reads as it did. -/
def fnLabelValidUptoRow : OpenClaim := { program := "ytggnlbclpbkfhaa", sum := "6e0dc6b63b84c67c287859cbf92ca72112bc97f13702125c9cdfc264e23818c2", func := "loop.example/graphpatterns/laws.FnLabelValid", spec := "fnLabelValid", apart := false, narrowed := true }
def FnLabelValidUptoSaid : Prop := fnLabelValidUptoRow.holds Try.pinned (OpenSpec.upto fnLabelValidSpec)

/-- 'laws.FnExactLabelValid', WHERE WHAT IT READS IS OF BULK AT MOST 1048576: true; the input reads as it did. -/
def fnExactLabelValidUptoRow : OpenClaim := { program := "ytggnlbclpbkfhaa", sum := "6e0dc6b63b84c67c287859cbf92ca72112bc97f13702125c9cdfc264e23818c2", func := "loop.example/graphpatterns/laws.FnExactLabelValid", spec := "fnExactLabelValid", apart := false, narrowed := true }
def FnExactLabelValidUptoSaid : Prop := fnExactLabelValidUptoRow.holds Try.pinned (OpenSpec.upto fnExactLabelValidSpec)

/-- 'laws.FnExactGraphValid', WHERE WHAT IT READS IS OF BULK AT MOST 1048576: true; the input reads as it did. -/
def fnExactGraphValidUptoRow : OpenClaim := { program := "ytggnlbclpbkfhaa", sum := "6e0dc6b63b84c67c287859cbf92ca72112bc97f13702125c9cdfc264e23818c2", func := "loop.example/graphpatterns/laws.FnExactGraphValid", spec := "fnExactGraphValid", apart := false, narrowed := true }
def FnExactGraphValidUptoSaid : Prop := fnExactGraphValidUptoRow.holds Try.pinned (OpenSpec.upto fnExactGraphValidSpec)

/-- 'laws.FnExactGraphSame', WHERE WHAT IT READS IS OF BULK AT MOST 1048576: true; the input reads as it did. -/
def fnExactGraphSameUptoRow : OpenClaim := { program := "ytggnlbclpbkfhaa", sum := "6e0dc6b63b84c67c287859cbf92ca72112bc97f13702125c9cdfc264e23818c2", func := "loop.example/graphpatterns/laws.FnExactGraphSame", spec := "fnExactGraphSame", apart := false, narrowed := true }
def FnExactGraphSameUptoSaid : Prop := fnExactGraphSameUptoRow.holds Try.pinned (OpenSpec.upto fnExactGraphSameSpec)

/-- 'laws.FnExactAddNode', WHERE WHAT IT READS IS OF BULK AT MOST 1048576: true; the input reads as it did. -/
def fnExactAddNodeUptoRow : OpenClaim := { program := "ytggnlbclpbkfhaa", sum := "6e0dc6b63b84c67c287859cbf92ca72112bc97f13702125c9cdfc264e23818c2", func := "loop.example/graphpatterns/laws.FnExactAddNode", spec := "fnExactAddNode", apart := false, narrowed := true }
def FnExactAddNodeUptoSaid : Prop := fnExactAddNodeUptoRow.holds Try.pinned (OpenSpec.upto fnExactAddNodeSpec)

/-- 'laws.FnExactAddEdge', WHERE WHAT IT READS IS OF BULK AT MOST 1048576: true; the input reads as it did. -/
def fnExactAddEdgeUptoRow : OpenClaim := { program := "ytggnlbclpbkfhaa", sum := "6e0dc6b63b84c67c287859cbf92ca72112bc97f13702125c9cdfc264e23818c2", func := "loop.example/graphpatterns/laws.FnExactAddEdge", spec := "fnExactAddEdge", apart := false, narrowed := true }
def FnExactAddEdgeUptoSaid : Prop := fnExactAddEdgeUptoRow.holds Try.pinned (OpenSpec.upto fnExactAddEdgeSpec)

/-- 'laws.FnExactOutEdges', WHERE WHAT IT READS IS OF BULK AT MOST 1048576: true; the input reads as it did. -/
def fnExactOutEdgesUptoRow : OpenClaim := { program := "ytggnlbclpbkfhaa", sum := "6e0dc6b63b84c67c287859cbf92ca72112bc97f13702125c9cdfc264e23818c2", func := "loop.example/graphpatterns/laws.FnExactOutEdges", spec := "fnExactOutEdges", unfollowed := true, recurses := true, apart := false, narrowed := true }
def FnExactOutEdgesUptoSaid : Prop := fnExactOutEdgesUptoRow.holds Try.pinned (OpenSpec.upto fnExactOutEdgesSpec)

/-- 'laws.FnExactInEdges', WHERE WHAT IT READS IS OF BULK AT MOST 1048576: true; the input reads as it did. -/
def fnExactInEdgesUptoRow : OpenClaim := { program := "ytggnlbclpbkfhaa", sum := "6e0dc6b63b84c67c287859cbf92ca72112bc97f13702125c9cdfc264e23818c2", func := "loop.example/graphpatterns/laws.FnExactInEdges", spec := "fnExactInEdges", unfollowed := true, recurses := true, apart := false, narrowed := true }
def FnExactInEdgesUptoSaid : Prop := fnExactInEdgesUptoRow.holds Try.pinned (OpenSpec.upto fnExactInEdgesSpec)

/-- 'laws.FnExactTurnGraph', WHERE WHAT IT READS IS OF BULK AT MOST 1048576: true; the input reads as it did. -/
def fnExactTurnGraphUptoRow : OpenClaim := { program := "ytggnlbclpbkfhaa", sum := "6e0dc6b63b84c67c287859cbf92ca72112bc97f13702125c9cdfc264e23818c2", func := "loop.example/graphpatterns/laws.FnExactTurnGraph", spec := "fnExactTurnGraph", apart := false, narrowed := true }
def FnExactTurnGraphUptoSaid : Prop := fnExactTurnGraphUptoRow.holds Try.pinned (OpenSpec.upto fnExactTurnGraphSpec)

end Rows
end Go.Proofs.Ytggnlbclpbkfhaa
