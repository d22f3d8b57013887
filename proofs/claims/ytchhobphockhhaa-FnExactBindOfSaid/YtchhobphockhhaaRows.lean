/-
  No cell of these rows narrows 'for every input' (looked for: loops, veiled, ifaces, maps, wideKeys, modest, calm, conditions, laid).
  DERIVED. THE GIVEN ROWS OF THIS SEAT. 12 by the template 'for every input the law returns true; each argument reads behind the call as it read before'; 0 by the template 'total and deterministic' (their statements: YtchhobphockhhaaTotals.lean).
  GIVEN WITH THE SEED: the statements are not yours to turn. If you find one false, say at which input.
  Laid BY PROGRAM, IN A SANDBOX (cutbox-rows.mjs): the forced cells as the released guide's own fill.sh prints them over the translation b5c5da2cda67372a… (all of the seat's roots in one cut). By AI agents, Wed Nov 11 2026. No macro, syntax, notation, axiom, sorry.
-/
import Derived.Test.YtchhobphockhhaaChecked
import GoSem.Claim
import GoSem.ClaimJoined
import GoSem.ClaimMapViews
import Derived.JoinedTies
import Derived.KernelRfl
namespace Go.Proofs.Ytchhobphockhhaa
/- THE CELL 'sum', in the pinned program and in every row, IS THE sha256 OF THE DUMP (.gsa) THAT YtchhobphockhhaaProg.lean LOADS. Nothing in Lean hashes anything: it is a label: what it is worth is what the hold of that sum in a sandbox is worth. -/
noncomputable def Try.pinned : Pinned := { name := "ytchhobphockhhaa", sum := "b5c5da2cda67372ac3d7d70d1d03eabc4aabfc5ddaacddadaa51ea8f7070825a", checked := Try.checked }
namespace Rows
def none {H : Type} : Left H := { results := [], args := [] }

/-- 'laws.FnJoinWalks': WHATEVER THE INPUT: true; the input reads as it did. -/
def fnJoinWalksSpec : ChangeSpec := { name := "fnJoinWalks", fn := fun _ => fun
  | [d] => { results := [.lit (.bool true)], args := [d] }
  | _ => none }
def fnJoinWalksRow : OpenClaim := { program := "ytchhobphockhhaa", sum := "b5c5da2cda67372ac3d7d70d1d03eabc4aabfc5ddaacddadaa51ea8f7070825a", func := "loop.example/graphpatterns/laws.FnJoinWalks", spec := "fnJoinWalks", recurses := true, apart := false }
def FnJoinWalksSaid : Prop := fnJoinWalksRow.holds Try.pinned (OpenSpec.ofChange fnJoinWalksSpec)

/-- ITS FALSE NEIGHBOUR: 'it returns false'. Refute it at one input. -/
def fnJoinWalksWrong : ChangeSpec := { name := "fnJoinWalks", fn := fun _ => fun
  | [d] => { results := [.lit (.bool false)], args := [d] }
  | _ => none }
def FnJoinWalksWrongFalsely : Prop := fnJoinWalksRow.holds Try.pinned (OpenSpec.ofChange fnJoinWalksWrong)

/-- 'laws.FnJoinGroups': WHATEVER THE INPUT: true; the input reads as it did. -/
def fnJoinGroupsSpec : ChangeSpec := { name := "fnJoinGroups", fn := fun _ => fun
  | [d] => { results := [.lit (.bool true)], args := [d] }
  | _ => none }
def fnJoinGroupsRow : OpenClaim := { program := "ytchhobphockhhaa", sum := "b5c5da2cda67372ac3d7d70d1d03eabc4aabfc5ddaacddadaa51ea8f7070825a", func := "loop.example/graphpatterns/laws.FnJoinGroups", spec := "fnJoinGroups", recurses := true, apart := false }
def FnJoinGroupsSaid : Prop := fnJoinGroupsRow.holds Try.pinned (OpenSpec.ofChange fnJoinGroupsSpec)

/-- ITS FALSE NEIGHBOUR: 'it returns false'. Refute it at one input. -/
def fnJoinGroupsWrong : ChangeSpec := { name := "fnJoinGroups", fn := fun _ => fun
  | [d] => { results := [.lit (.bool false)], args := [d] }
  | _ => none }
def FnJoinGroupsWrongFalsely : Prop := fnJoinGroupsRow.holds Try.pinned (OpenSpec.ofChange fnJoinGroupsWrong)

/-- 'laws.FnWalkOne': WHATEVER THE INPUT: true; the input reads as it did. -/
def fnWalkOneSpec : ChangeSpec := { name := "fnWalkOne", fn := fun _ => fun
  | [d] => { results := [.lit (.bool true)], args := [d] }
  | _ => none }
def fnWalkOneRow : OpenClaim := { program := "ytchhobphockhhaa", sum := "b5c5da2cda67372ac3d7d70d1d03eabc4aabfc5ddaacddadaa51ea8f7070825a", func := "loop.example/graphpatterns/laws.FnWalkOne", spec := "fnWalkOne", recurses := true, apart := false }
def FnWalkOneSaid : Prop := fnWalkOneRow.holds Try.pinned (OpenSpec.ofChange fnWalkOneSpec)

/-- ITS FALSE NEIGHBOUR: 'it returns false'. Refute it at one input. -/
def fnWalkOneWrong : ChangeSpec := { name := "fnWalkOne", fn := fun _ => fun
  | [d] => { results := [.lit (.bool false)], args := [d] }
  | _ => none }
def FnWalkOneWrongFalsely : Prop := fnWalkOneRow.holds Try.pinned (OpenSpec.ofChange fnWalkOneWrong)

/-- 'laws.FnExactMatchSame': WHATEVER THE INPUT: true; the input reads as it did. -/
def fnExactMatchSameSpec : ChangeSpec := { name := "fnExactMatchSame", fn := fun _ => fun
  | [d1, d2] => { results := [.lit (.bool true)], args := [d1, d2] }
  | _ => none }
def fnExactMatchSameRow : OpenClaim := { program := "ytchhobphockhhaa", sum := "b5c5da2cda67372ac3d7d70d1d03eabc4aabfc5ddaacddadaa51ea8f7070825a", func := "loop.example/graphpatterns/laws.FnExactMatchSame", spec := "fnExactMatchSame", unfollowed := true, recurses := true, apart := false }
def FnExactMatchSameSaid : Prop := fnExactMatchSameRow.holds Try.pinned (OpenSpec.ofChange fnExactMatchSameSpec)

/-- ITS FALSE NEIGHBOUR: 'it returns false'. Refute it at one input. -/
def fnExactMatchSameWrong : ChangeSpec := { name := "fnExactMatchSame", fn := fun _ => fun
  | [d1, d2] => { results := [.lit (.bool false)], args := [d1, d2] }
  | _ => none }
def FnExactMatchSameWrongFalsely : Prop := fnExactMatchSameRow.holds Try.pinned (OpenSpec.ofChange fnExactMatchSameWrong)

/-- 'laws.FnExactBindOf': WHATEVER THE INPUT: true; the input reads as it did. -/
def fnExactBindOfSpec : ChangeSpec := { name := "fnExactBindOf", fn := fun _ => fun
  | [d1, d2] => { results := [.lit (.bool true)], args := [d1, d2] }
  | _ => none }
def fnExactBindOfRow : OpenClaim := { program := "ytchhobphockhhaa", sum := "b5c5da2cda67372ac3d7d70d1d03eabc4aabfc5ddaacddadaa51ea8f7070825a", func := "loop.example/graphpatterns/laws.FnExactBindOf", spec := "fnExactBindOf", unfollowed := true, recurses := true, apart := false }
def FnExactBindOfSaid : Prop := fnExactBindOfRow.holds Try.pinned (OpenSpec.ofChange fnExactBindOfSpec)

/-- ITS FALSE NEIGHBOUR: 'it returns false'. Refute it at one input. -/
def fnExactBindOfWrong : ChangeSpec := { name := "fnExactBindOf", fn := fun _ => fun
  | [d1, d2] => { results := [.lit (.bool false)], args := [d1, d2] }
  | _ => none }
def FnExactBindOfWrongFalsely : Prop := fnExactBindOfRow.holds Try.pinned (OpenSpec.ofChange fnExactBindOfWrong)

/-- 'laws.FnAddOrder': WHATEVER THE INPUT: true; the input reads as it did. -/
def fnAddOrderSpec : ChangeSpec := { name := "fnAddOrder", fn := fun _ => fun
  | [d] => { results := [.lit (.bool true)], args := [d] }
  | _ => none }
def fnAddOrderRow : OpenClaim := { program := "ytchhobphockhhaa", sum := "b5c5da2cda67372ac3d7d70d1d03eabc4aabfc5ddaacddadaa51ea8f7070825a", func := "loop.example/graphpatterns/laws.FnAddOrder", spec := "fnAddOrder", apart := false }
def FnAddOrderSaid : Prop := fnAddOrderRow.holds Try.pinned (OpenSpec.ofChange fnAddOrderSpec)

/-- ITS FALSE NEIGHBOUR: 'it returns false'. Refute it at one input. -/
def fnAddOrderWrong : ChangeSpec := { name := "fnAddOrder", fn := fun _ => fun
  | [d] => { results := [.lit (.bool false)], args := [d] }
  | _ => none }
def FnAddOrderWrongFalsely : Prop := fnAddOrderRow.holds Try.pinned (OpenSpec.ofChange fnAddOrderWrong)

/-- 'laws.FnTurnGraph': WHATEVER THE INPUT: true; the input reads as it did. -/
def fnTurnGraphSpec : ChangeSpec := { name := "fnTurnGraph", fn := fun _ => fun
  | [d] => { results := [.lit (.bool true)], args := [d] }
  | _ => none }
def fnTurnGraphRow : OpenClaim := { program := "ytchhobphockhhaa", sum := "b5c5da2cda67372ac3d7d70d1d03eabc4aabfc5ddaacddadaa51ea8f7070825a", func := "loop.example/graphpatterns/laws.FnTurnGraph", spec := "fnTurnGraph", unfollowed := true, recurses := true, apart := false }
def FnTurnGraphSaid : Prop := fnTurnGraphRow.holds Try.pinned (OpenSpec.ofChange fnTurnGraphSpec)

/-- ITS FALSE NEIGHBOUR: 'it returns false'. Refute it at one input. -/
def fnTurnGraphWrong : ChangeSpec := { name := "fnTurnGraph", fn := fun _ => fun
  | [d] => { results := [.lit (.bool false)], args := [d] }
  | _ => none }
def FnTurnGraphWrongFalsely : Prop := fnTurnGraphRow.holds Try.pinned (OpenSpec.ofChange fnTurnGraphWrong)

/-- 'laws.FnGraphPrefix': WHATEVER THE INPUT: true; the input reads as it did. -/
def fnGraphPrefixSpec : ChangeSpec := { name := "fnGraphPrefix", fn := fun _ => fun
  | [d] => { results := [.lit (.bool true)], args := [d] }
  | _ => none }
def fnGraphPrefixRow : OpenClaim := { program := "ytchhobphockhhaa", sum := "b5c5da2cda67372ac3d7d70d1d03eabc4aabfc5ddaacddadaa51ea8f7070825a", func := "loop.example/graphpatterns/laws.FnGraphPrefix", spec := "fnGraphPrefix", apart := false }
def FnGraphPrefixSaid : Prop := fnGraphPrefixRow.holds Try.pinned (OpenSpec.ofChange fnGraphPrefixSpec)

/-- ITS FALSE NEIGHBOUR: 'it returns false'. Refute it at one input. -/
def fnGraphPrefixWrong : ChangeSpec := { name := "fnGraphPrefix", fn := fun _ => fun
  | [d] => { results := [.lit (.bool false)], args := [d] }
  | _ => none }
def FnGraphPrefixWrongFalsely : Prop := fnGraphPrefixRow.holds Try.pinned (OpenSpec.ofChange fnGraphPrefixWrong)

/-- 'laws.FnAddNode': WHATEVER THE INPUT: true; the input reads as it did. -/
def fnAddNodeSpec : ChangeSpec := { name := "fnAddNode", fn := fun _ => fun
  | [d] => { results := [.lit (.bool true)], args := [d] }
  | _ => none }
def fnAddNodeRow : OpenClaim := { program := "ytchhobphockhhaa", sum := "b5c5da2cda67372ac3d7d70d1d03eabc4aabfc5ddaacddadaa51ea8f7070825a", func := "loop.example/graphpatterns/laws.FnAddNode", spec := "fnAddNode", unfollowed := true, recurses := true, apart := false }
def FnAddNodeSaid : Prop := fnAddNodeRow.holds Try.pinned (OpenSpec.ofChange fnAddNodeSpec)

/-- ITS FALSE NEIGHBOUR: 'it returns false'. Refute it at one input. -/
def fnAddNodeWrong : ChangeSpec := { name := "fnAddNode", fn := fun _ => fun
  | [d] => { results := [.lit (.bool false)], args := [d] }
  | _ => none }
def FnAddNodeWrongFalsely : Prop := fnAddNodeRow.holds Try.pinned (OpenSpec.ofChange fnAddNodeWrong)

/-- 'laws.FnAddEdge': WHATEVER THE INPUT: true; the input reads as it did. -/
def fnAddEdgeSpec : ChangeSpec := { name := "fnAddEdge", fn := fun _ => fun
  | [d] => { results := [.lit (.bool true)], args := [d] }
  | _ => none }
def fnAddEdgeRow : OpenClaim := { program := "ytchhobphockhhaa", sum := "b5c5da2cda67372ac3d7d70d1d03eabc4aabfc5ddaacddadaa51ea8f7070825a", func := "loop.example/graphpatterns/laws.FnAddEdge", spec := "fnAddEdge", unfollowed := true, recurses := true, apart := false }
def FnAddEdgeSaid : Prop := fnAddEdgeRow.holds Try.pinned (OpenSpec.ofChange fnAddEdgeSpec)

/-- ITS FALSE NEIGHBOUR: 'it returns false'. Refute it at one input. -/
def fnAddEdgeWrong : ChangeSpec := { name := "fnAddEdge", fn := fun _ => fun
  | [d] => { results := [.lit (.bool false)], args := [d] }
  | _ => none }
def FnAddEdgeWrongFalsely : Prop := fnAddEdgeRow.holds Try.pinned (OpenSpec.ofChange fnAddEdgeWrong)

/-- 'laws.FnOutEdges': WHATEVER THE INPUT: true; the input reads as it did. -/
def fnOutEdgesSpec : ChangeSpec := { name := "fnOutEdges", fn := fun _ => fun
  | [d] => { results := [.lit (.bool true)], args := [d] }
  | _ => none }
def fnOutEdgesRow : OpenClaim := { program := "ytchhobphockhhaa", sum := "b5c5da2cda67372ac3d7d70d1d03eabc4aabfc5ddaacddadaa51ea8f7070825a", func := "loop.example/graphpatterns/laws.FnOutEdges", spec := "fnOutEdges", unfollowed := true, recurses := true, apart := false }
def FnOutEdgesSaid : Prop := fnOutEdgesRow.holds Try.pinned (OpenSpec.ofChange fnOutEdgesSpec)

/-- ITS FALSE NEIGHBOUR: 'it returns false'. Refute it at one input. -/
def fnOutEdgesWrong : ChangeSpec := { name := "fnOutEdges", fn := fun _ => fun
  | [d] => { results := [.lit (.bool false)], args := [d] }
  | _ => none }
def FnOutEdgesWrongFalsely : Prop := fnOutEdgesRow.holds Try.pinned (OpenSpec.ofChange fnOutEdgesWrong)

/-- 'laws.FnInEdges': WHATEVER THE INPUT: true; the input reads as it did. -/
def fnInEdgesSpec : ChangeSpec := { name := "fnInEdges", fn := fun _ => fun
  | [d] => { results := [.lit (.bool true)], args := [d] }
  | _ => none }
def fnInEdgesRow : OpenClaim := { program := "ytchhobphockhhaa", sum := "b5c5da2cda67372ac3d7d70d1d03eabc4aabfc5ddaacddadaa51ea8f7070825a", func := "loop.example/graphpatterns/laws.FnInEdges", spec := "fnInEdges", unfollowed := true, recurses := true, apart := false }
def FnInEdgesSaid : Prop := fnInEdgesRow.holds Try.pinned (OpenSpec.ofChange fnInEdgesSpec)

/-- ITS FALSE NEIGHBOUR: 'it returns false'. Refute it at one input. -/
def fnInEdgesWrong : ChangeSpec := { name := "fnInEdges", fn := fun _ => fun
  | [d] => { results := [.lit (.bool false)], args := [d] }
  | _ => none }
def FnInEdgesWrongFalsely : Prop := fnInEdgesRow.holds Try.pinned (OpenSpec.ofChange fnInEdgesWrong)

/- THE SECOND FORM. 'bulk': how many values and letters a reading holds, each counted each time it is reached (what is shared counts as often as it is met; a slice's spare places count too). A statement '..UptoSaid' is the law's where the arguments, and the package variables that the reading takes, are together of bulk at most 1048576: NARROWER than '..Said'. Prove '..Said' where nothing that the law and all that it calls make is longer than what came in: it says more and counts as full. Else prove '..UptoSaid'. A law counts once. -/
mutual
def uptoBulk {H : Type} : DataW H → Nat
  | .lit (.string bytes) => bytes.length + 1
  | .lit _ => 1
  | .nil => 1
  | .ptr d => uptoBulk d + 1
  | .slice elems spare => uptoBulkAll elems + uptoBulkAll spare + 1
  | .agg parts => uptoBulkAll parts + 1
  | .iface _ d => uptoBulk d + 1
  | .map entries => uptoBulkEntries entries + 1
  | .held _ => 1
def uptoBulkAll {H : Type} : List (DataW H) → Nat
  | [] => 0
  | d :: r => uptoBulk d + uptoBulkAll r
def uptoBulkEntries {H : Type} : List (Lit × DataW H) → Nat
  | [] => 0
  | x :: r => uptoBulkEntry x + uptoBulkEntries r
def uptoBulkEntry {H : Type} : Lit × DataW H → Nat
  | (.string bytes, d) => bytes.length + uptoBulk d + 1
  | (_, d) => uptoBulk d + 1
 end
def uptoSmall : (H : Type) → List (DataW H) → Bool := fun _ ds => decide (uptoBulkAll ds ≤ 1048576)
def OpenSpec.upto (s : _root_.Go.ChangeSpec) : _root_.Go.OpenSpec := { _root_.Go.OpenSpec.ofChange s with cond := some uptoSmall }

/-- 'laws.FnJoinWalks', WHERE WHAT IT READS IS OF BULK AT MOST 1048576: true; the input reads as it did. -/
def fnJoinWalksUptoRow : OpenClaim := { program := "ytchhobphockhhaa", sum := "b5c5da2cda67372ac3d7d70d1d03eabc4aabfc5ddaacddadaa51ea8f7070825a", func := "loop.example/graphpatterns/laws.FnJoinWalks", spec := "fnJoinWalks", recurses := true, apart := false, narrowed := true }
def FnJoinWalksUptoSaid : Prop := fnJoinWalksUptoRow.holds Try.pinned (OpenSpec.upto fnJoinWalksSpec)

/-- 'laws.FnJoinGroups', WHERE WHAT IT READS IS OF BULK AT MOST 1048576: true; the input reads as it did. -/
def fnJoinGroupsUptoRow : OpenClaim := { program := "ytchhobphockhhaa", sum := "b5c5da2cda67372ac3d7d70d1d03eabc4aabfc5ddaacddadaa51ea8f7070825a", func := "loop.example/graphpatterns/laws.FnJoinGroups", spec := "fnJoinGroups", recurses := true, apart := false, narrowed := true }
def FnJoinGroupsUptoSaid : Prop := fnJoinGroupsUptoRow.holds Try.pinned (OpenSpec.upto fnJoinGroupsSpec)

/-- 'laws.FnWalkOne', WHERE WHAT IT READS IS OF BULK AT MOST 1048576: true; the input reads as it did. -/
def fnWalkOneUptoRow : OpenClaim := { program := "ytchhobphockhhaa", sum := "b5c5da2cda67372ac3d7d70d1d03eabc4aabfc5ddaacddadaa51ea8f7070825a", func := "loop.example/graphpatterns/laws.FnWalkOne", spec := "fnWalkOne", recurses := true, apart := false, narrowed := true }
def FnWalkOneUptoSaid : Prop := fnWalkOneUptoRow.holds Try.pinned (OpenSpec.upto fnWalkOneSpec)

/-- 'laws.FnExactMatchSame', WHERE WHAT IT READS IS OF BULK AT MOST 1048576: true; the input reads as it did. -/
def fnExactMatchSameUptoRow : OpenClaim := { program := "ytchhobphockhhaa", sum := "b5c5da2cda67372ac3d7d70d1d03eabc4aabfc5ddaacddadaa51ea8f7070825a", func := "loop.example/graphpatterns/laws.FnExactMatchSame", spec := "fnExactMatchSame", unfollowed := true, recurses := true, apart := false, narrowed := true }
def FnExactMatchSameUptoSaid : Prop := fnExactMatchSameUptoRow.holds Try.pinned (OpenSpec.upto fnExactMatchSameSpec)

/-- 'laws.FnExactBindOf', WHERE WHAT IT READS IS OF BULK AT MOST 1048576: true; the input reads as it did. -/
def fnExactBindOfUptoRow : OpenClaim := { program := "ytchhobphockhhaa", sum := "b5c5da2cda67372ac3d7d70d1d03eabc4aabfc5ddaacddadaa51ea8f7070825a", func := "loop.example/graphpatterns/laws.FnExactBindOf", spec := "fnExactBindOf", unfollowed := true, recurses := true, apart := false, narrowed := true }
def FnExactBindOfUptoSaid : Prop := fnExactBindOfUptoRow.holds Try.pinned (OpenSpec.upto fnExactBindOfSpec)

/-- 'laws.FnAddOrder', WHERE WHAT IT READS IS OF BULK AT MOST 1048576: true; the input reads as it did. -/
def fnAddOrderUptoRow : OpenClaim := { program := "ytchhobphockhhaa", sum := "b5c5da2cda67372ac3d7d70d1d03eabc4aabfc5ddaacddadaa51ea8f7070825a", func := "loop.example/graphpatterns/laws.FnAddOrder", spec := "fnAddOrder", apart := false, narrowed := true }
def FnAddOrderUptoSaid : Prop := fnAddOrderUptoRow.holds Try.pinned (OpenSpec.upto fnAddOrderSpec)

/-- 'laws.FnTurnGraph', WHERE WHAT IT READS IS OF BULK AT MOST 1048576: true; the input reads as it did. -/
def fnTurnGraphUptoRow : OpenClaim := { program := "ytchhobphockhhaa", sum := "b5c5da2cda67372ac3d7d70d1d03eabc4aabfc5ddaacddadaa51ea8f7070825a", func := "loop.example/graphpatterns/laws.FnTurnGraph", spec := "fnTurnGraph", unfollowed := true, recurses := true, apart := false, narrowed := true }
def FnTurnGraphUptoSaid : Prop := fnTurnGraphUptoRow.holds Try.pinned (OpenSpec.upto fnTurnGraphSpec)

/-- 'laws.FnGraphPrefix', WHERE WHAT IT READS IS OF BULK AT MOST 1048576: true; the input reads as it did. -/
def fnGraphPrefixUptoRow : OpenClaim := { program := "ytchhobphockhhaa", sum := "b5c5da2cda67372ac3d7d70d1d03eabc4aabfc5ddaacddadaa51ea8f7070825a", func := "loop.example/graphpatterns/laws.FnGraphPrefix", spec := "fnGraphPrefix", apart := false, narrowed := true }
def FnGraphPrefixUptoSaid : Prop := fnGraphPrefixUptoRow.holds Try.pinned (OpenSpec.upto fnGraphPrefixSpec)

/-- 'laws.FnAddNode', WHERE WHAT IT READS IS OF BULK AT MOST 1048576: true; the input reads as it did. -/
def fnAddNodeUptoRow : OpenClaim := { program := "ytchhobphockhhaa", sum := "b5c5da2cda67372ac3d7d70d1d03eabc4aabfc5ddaacddadaa51ea8f7070825a", func := "loop.example/graphpatterns/laws.FnAddNode", spec := "fnAddNode", unfollowed := true, recurses := true, apart := false, narrowed := true }
def FnAddNodeUptoSaid : Prop := fnAddNodeUptoRow.holds Try.pinned (OpenSpec.upto fnAddNodeSpec)

/-- 'laws.FnAddEdge', WHERE WHAT IT READS IS OF BULK AT MOST 1048576: true; the input reads as it did. -/
def fnAddEdgeUptoRow : OpenClaim := { program := "ytchhobphockhhaa", sum := "b5c5da2cda67372ac3d7d70d1d03eabc4aabfc5ddaacddadaa51ea8f7070825a", func := "loop.example/graphpatterns/laws.FnAddEdge", spec := "fnAddEdge", unfollowed := true, recurses := true, apart := false, narrowed := true }
def FnAddEdgeUptoSaid : Prop := fnAddEdgeUptoRow.holds Try.pinned (OpenSpec.upto fnAddEdgeSpec)

/-- 'laws.FnOutEdges', WHERE WHAT IT READS IS OF BULK AT MOST 1048576: true; the input reads as it did. -/
def fnOutEdgesUptoRow : OpenClaim := { program := "ytchhobphockhhaa", sum := "b5c5da2cda67372ac3d7d70d1d03eabc4aabfc5ddaacddadaa51ea8f7070825a", func := "loop.example/graphpatterns/laws.FnOutEdges", spec := "fnOutEdges", unfollowed := true, recurses := true, apart := false, narrowed := true }
def FnOutEdgesUptoSaid : Prop := fnOutEdgesUptoRow.holds Try.pinned (OpenSpec.upto fnOutEdgesSpec)

/-- 'laws.FnInEdges', WHERE WHAT IT READS IS OF BULK AT MOST 1048576: true; the input reads as it did. -/
def fnInEdgesUptoRow : OpenClaim := { program := "ytchhobphockhhaa", sum := "b5c5da2cda67372ac3d7d70d1d03eabc4aabfc5ddaacddadaa51ea8f7070825a", func := "loop.example/graphpatterns/laws.FnInEdges", spec := "fnInEdges", unfollowed := true, recurses := true, apart := false, narrowed := true }
def FnInEdgesUptoSaid : Prop := fnInEdgesUptoRow.holds Try.pinned (OpenSpec.upto fnInEdgesSpec)

end Rows
end Go.Proofs.Ytchhobphockhhaa
