/-
  No cell of these rows narrows 'for every input' (looked for: loops, veiled, ifaces, maps, wideKeys, modest, calm, conditions, laid).
  DERIVED. THE GIVEN ROWS OF THIS SEAT. 12 by the template 'for every input the law returns true; each argument reads behind the call as it read before'; 0 by the template 'total and deterministic' (their statements: YtckmganhabgbfaaTotals.lean).
  GIVEN WITH THE SEED: the statements are not yours to turn. If you find one false, say at which input.
  Laid BY PROGRAM, IN A SANDBOX (cutbox-rows.mjs): the forced cells as the released guide's own fill.sh prints them over the translation 8cfeb2a88ad5780d… (all of the seat's roots in one cut). By AI agents, Wed Nov 11 2026. No macro, syntax, notation, axiom, sorry.
-/
import Derived.Test.YtckmganhabgbfaaChecked
import GoSem.Claim
import GoSem.ClaimJoined
import GoSem.ClaimMapViews
import Derived.JoinedTies
import Derived.KernelRfl
namespace Go.Proofs.Ytckmganhabgbfaa
/- THE CELL 'sum', in the pinned program and in every row, IS THE sha256 OF THE DUMP (.gsa) THAT YtckmganhabgbfaaProg.lean LOADS. Nothing in Lean hashes anything: it is a label: what it is worth is what the hold of that sum in a sandbox is worth. -/
noncomputable def Try.pinned : Pinned := { name := "ytckmganhabgbfaa", sum := "8cfeb2a88ad5780df107bbc46ee7c78b566c6fdaa899ab084c315a8edfbcc415", checked := Try.checked }
namespace Rows
def none {H : Type} : Left H := { results := [], args := [] }

/-- 'laws.FnJoinWalks': WHATEVER THE INPUT: true; the input reads as it did. -/
def fnJoinWalksSpec : ChangeSpec := { name := "fnJoinWalks", fn := fun _ => fun
  | [d] => { results := [.lit (.bool true)], args := [d] }
  | _ => none }
def fnJoinWalksRow : OpenClaim := { program := "ytckmganhabgbfaa", sum := "8cfeb2a88ad5780df107bbc46ee7c78b566c6fdaa899ab084c315a8edfbcc415", func := "loop.example/graphpatterns/laws.FnJoinWalks", spec := "fnJoinWalks", recurses := true, apart := false }
def FnJoinWalksSaid : Prop := fnJoinWalksRow.holds Try.pinned (OpenSpec.ofChange fnJoinWalksSpec)

/-- ITS FALSE NEIGHBOUR: 'it returns false'. Refute it at one input. -/
def fnJoinWalksWrong : ChangeSpec := { name := "fnJoinWalks", fn := fun _ => fun
  | [d] => { results := [.lit (.bool false)], args := [d] }
  | _ => none }
def FnJoinWalksWrongFalsely : Prop := fnJoinWalksRow.holds Try.pinned (OpenSpec.ofChange fnJoinWalksWrong)

/-- 'laws.FnTurnWalk': WHATEVER THE INPUT: true; the input reads as it did. -/
def fnTurnWalkSpec : ChangeSpec := { name := "fnTurnWalk", fn := fun _ => fun
  | [d] => { results := [.lit (.bool true)], args := [d] }
  | _ => none }
def fnTurnWalkRow : OpenClaim := { program := "ytckmganhabgbfaa", sum := "8cfeb2a88ad5780df107bbc46ee7c78b566c6fdaa899ab084c315a8edfbcc415", func := "loop.example/graphpatterns/laws.FnTurnWalk", spec := "fnTurnWalk", recurses := true, apart := false }
def FnTurnWalkSaid : Prop := fnTurnWalkRow.holds Try.pinned (OpenSpec.ofChange fnTurnWalkSpec)

/-- ITS FALSE NEIGHBOUR: 'it returns false'. Refute it at one input. -/
def fnTurnWalkWrong : ChangeSpec := { name := "fnTurnWalk", fn := fun _ => fun
  | [d] => { results := [.lit (.bool false)], args := [d] }
  | _ => none }
def FnTurnWalkWrongFalsely : Prop := fnTurnWalkRow.holds Try.pinned (OpenSpec.ofChange fnTurnWalkWrong)

/-- 'laws.FnWalkValid': WHATEVER THE INPUT: true; the input reads as it did. -/
def fnWalkValidSpec : ChangeSpec := { name := "fnWalkValid", fn := fun _ => fun
  | [d] => { results := [.lit (.bool true)], args := [d] }
  | _ => none }
def fnWalkValidRow : OpenClaim := { program := "ytckmganhabgbfaa", sum := "8cfeb2a88ad5780df107bbc46ee7c78b566c6fdaa899ab084c315a8edfbcc415", func := "loop.example/graphpatterns/laws.FnWalkValid", spec := "fnWalkValid", recurses := true, apart := false }
def FnWalkValidSaid : Prop := fnWalkValidRow.holds Try.pinned (OpenSpec.ofChange fnWalkValidSpec)

/-- ITS FALSE NEIGHBOUR: 'it returns false'. Refute it at one input. -/
def fnWalkValidWrong : ChangeSpec := { name := "fnWalkValid", fn := fun _ => fun
  | [d] => { results := [.lit (.bool false)], args := [d] }
  | _ => none }
def FnWalkValidWrongFalsely : Prop := fnWalkValidRow.holds Try.pinned (OpenSpec.ofChange fnWalkValidWrong)

/-- 'laws.FnWalkMode': WHATEVER THE INPUT: true; the input reads as it did. -/
def fnWalkModeSpec : ChangeSpec := { name := "fnWalkMode", fn := fun _ => fun
  | [d] => { results := [.lit (.bool true)], args := [d] }
  | _ => none }
def fnWalkModeRow : OpenClaim := { program := "ytckmganhabgbfaa", sum := "8cfeb2a88ad5780df107bbc46ee7c78b566c6fdaa899ab084c315a8edfbcc415", func := "loop.example/graphpatterns/laws.FnWalkMode", spec := "fnWalkMode", recurses := true, apart := false }
def FnWalkModeSaid : Prop := fnWalkModeRow.holds Try.pinned (OpenSpec.ofChange fnWalkModeSpec)

/-- ITS FALSE NEIGHBOUR: 'it returns false'. Refute it at one input. -/
def fnWalkModeWrong : ChangeSpec := { name := "fnWalkMode", fn := fun _ => fun
  | [d] => { results := [.lit (.bool false)], args := [d] }
  | _ => none }
def FnWalkModeWrongFalsely : Prop := fnWalkModeRow.holds Try.pinned (OpenSpec.ofChange fnWalkModeWrong)

/-- 'laws.FnWalkBefore': WHATEVER THE INPUT: true; the input reads as it did. -/
def fnWalkBeforeSpec : ChangeSpec := { name := "fnWalkBefore", fn := fun _ => fun
  | [d] => { results := [.lit (.bool true)], args := [d] }
  | _ => none }
def fnWalkBeforeRow : OpenClaim := { program := "ytckmganhabgbfaa", sum := "8cfeb2a88ad5780df107bbc46ee7c78b566c6fdaa899ab084c315a8edfbcc415", func := "loop.example/graphpatterns/laws.FnWalkBefore", spec := "fnWalkBefore", recurses := true, apart := false }
def FnWalkBeforeSaid : Prop := fnWalkBeforeRow.holds Try.pinned (OpenSpec.ofChange fnWalkBeforeSpec)

/-- ITS FALSE NEIGHBOUR: 'it returns false'. Refute it at one input. -/
def fnWalkBeforeWrong : ChangeSpec := { name := "fnWalkBefore", fn := fun _ => fun
  | [d] => { results := [.lit (.bool false)], args := [d] }
  | _ => none }
def FnWalkBeforeWrongFalsely : Prop := fnWalkBeforeRow.holds Try.pinned (OpenSpec.ofChange fnWalkBeforeWrong)

/-- 'laws.FnJoinGroups': WHATEVER THE INPUT: true; the input reads as it did. -/
def fnJoinGroupsSpec : ChangeSpec := { name := "fnJoinGroups", fn := fun _ => fun
  | [d] => { results := [.lit (.bool true)], args := [d] }
  | _ => none }
def fnJoinGroupsRow : OpenClaim := { program := "ytckmganhabgbfaa", sum := "8cfeb2a88ad5780df107bbc46ee7c78b566c6fdaa899ab084c315a8edfbcc415", func := "loop.example/graphpatterns/laws.FnJoinGroups", spec := "fnJoinGroups", recurses := true, apart := false }
def FnJoinGroupsSaid : Prop := fnJoinGroupsRow.holds Try.pinned (OpenSpec.ofChange fnJoinGroupsSpec)

/-- ITS FALSE NEIGHBOUR: 'it returns false'. Refute it at one input. -/
def fnJoinGroupsWrong : ChangeSpec := { name := "fnJoinGroups", fn := fun _ => fun
  | [d] => { results := [.lit (.bool false)], args := [d] }
  | _ => none }
def FnJoinGroupsWrongFalsely : Prop := fnJoinGroupsRow.holds Try.pinned (OpenSpec.ofChange fnJoinGroupsWrong)

/-- 'laws.FnWalkTrans': WHATEVER THE INPUT: true; the input reads as it did. -/
def fnWalkTransSpec : ChangeSpec := { name := "fnWalkTrans", fn := fun _ => fun
  | [d1, d2] => { results := [.lit (.bool true)], args := [d1, d2] }
  | _ => none }
def fnWalkTransRow : OpenClaim := { program := "ytckmganhabgbfaa", sum := "8cfeb2a88ad5780df107bbc46ee7c78b566c6fdaa899ab084c315a8edfbcc415", func := "loop.example/graphpatterns/laws.FnWalkTrans", spec := "fnWalkTrans", recurses := true, apart := false }
def FnWalkTransSaid : Prop := fnWalkTransRow.holds Try.pinned (OpenSpec.ofChange fnWalkTransSpec)

/-- ITS FALSE NEIGHBOUR: 'it returns false'. Refute it at one input. -/
def fnWalkTransWrong : ChangeSpec := { name := "fnWalkTrans", fn := fun _ => fun
  | [d1, d2] => { results := [.lit (.bool false)], args := [d1, d2] }
  | _ => none }
def FnWalkTransWrongFalsely : Prop := fnWalkTransRow.holds Try.pinned (OpenSpec.ofChange fnWalkTransWrong)

/-- 'laws.FnModeParts': WHATEVER THE INPUT: true; the input reads as it did. -/
def fnModePartsSpec : ChangeSpec := { name := "fnModeParts", fn := fun _ => fun
  | [d] => { results := [.lit (.bool true)], args := [d] }
  | _ => none }
def fnModePartsRow : OpenClaim := { program := "ytckmganhabgbfaa", sum := "8cfeb2a88ad5780df107bbc46ee7c78b566c6fdaa899ab084c315a8edfbcc415", func := "loop.example/graphpatterns/laws.FnModeParts", spec := "fnModeParts", recurses := true, apart := false }
def FnModePartsSaid : Prop := fnModePartsRow.holds Try.pinned (OpenSpec.ofChange fnModePartsSpec)

/-- ITS FALSE NEIGHBOUR: 'it returns false'. Refute it at one input. -/
def fnModePartsWrong : ChangeSpec := { name := "fnModeParts", fn := fun _ => fun
  | [d] => { results := [.lit (.bool false)], args := [d] }
  | _ => none }
def FnModePartsWrongFalsely : Prop := fnModePartsRow.holds Try.pinned (OpenSpec.ofChange fnModePartsWrong)

/-- 'laws.FnWalkOne': WHATEVER THE INPUT: true; the input reads as it did. -/
def fnWalkOneSpec : ChangeSpec := { name := "fnWalkOne", fn := fun _ => fun
  | [d] => { results := [.lit (.bool true)], args := [d] }
  | _ => none }
def fnWalkOneRow : OpenClaim := { program := "ytckmganhabgbfaa", sum := "8cfeb2a88ad5780df107bbc46ee7c78b566c6fdaa899ab084c315a8edfbcc415", func := "loop.example/graphpatterns/laws.FnWalkOne", spec := "fnWalkOne", recurses := true, apart := false }
def FnWalkOneSaid : Prop := fnWalkOneRow.holds Try.pinned (OpenSpec.ofChange fnWalkOneSpec)

/-- ITS FALSE NEIGHBOUR: 'it returns false'. Refute it at one input. -/
def fnWalkOneWrong : ChangeSpec := { name := "fnWalkOne", fn := fun _ => fun
  | [d] => { results := [.lit (.bool false)], args := [d] }
  | _ => none }
def FnWalkOneWrongFalsely : Prop := fnWalkOneRow.holds Try.pinned (OpenSpec.ofChange fnWalkOneWrong)

/-- 'laws.FnAddOrder': WHATEVER THE INPUT: true; the input reads as it did. -/
def fnAddOrderSpec : ChangeSpec := { name := "fnAddOrder", fn := fun _ => fun
  | [d] => { results := [.lit (.bool true)], args := [d] }
  | _ => none }
def fnAddOrderRow : OpenClaim := { program := "ytckmganhabgbfaa", sum := "8cfeb2a88ad5780df107bbc46ee7c78b566c6fdaa899ab084c315a8edfbcc415", func := "loop.example/graphpatterns/laws.FnAddOrder", spec := "fnAddOrder", apart := false }
def FnAddOrderSaid : Prop := fnAddOrderRow.holds Try.pinned (OpenSpec.ofChange fnAddOrderSpec)

/-- ITS FALSE NEIGHBOUR: 'it returns false'. Refute it at one input. -/
def fnAddOrderWrong : ChangeSpec := { name := "fnAddOrder", fn := fun _ => fun
  | [d] => { results := [.lit (.bool false)], args := [d] }
  | _ => none }
def FnAddOrderWrongFalsely : Prop := fnAddOrderRow.holds Try.pinned (OpenSpec.ofChange fnAddOrderWrong)

/-- 'laws.FnTurnGraph': WHATEVER THE INPUT: true; the input reads as it did. -/
def fnTurnGraphSpec : ChangeSpec := { name := "fnTurnGraph", fn := fun _ => fun
  | [d] => { results := [.lit (.bool true)], args := [d] }
  | _ => none }
def fnTurnGraphRow : OpenClaim := { program := "ytckmganhabgbfaa", sum := "8cfeb2a88ad5780df107bbc46ee7c78b566c6fdaa899ab084c315a8edfbcc415", func := "loop.example/graphpatterns/laws.FnTurnGraph", spec := "fnTurnGraph", unfollowed := true, recurses := true, apart := false }
def FnTurnGraphSaid : Prop := fnTurnGraphRow.holds Try.pinned (OpenSpec.ofChange fnTurnGraphSpec)

/-- ITS FALSE NEIGHBOUR: 'it returns false'. Refute it at one input. -/
def fnTurnGraphWrong : ChangeSpec := { name := "fnTurnGraph", fn := fun _ => fun
  | [d] => { results := [.lit (.bool false)], args := [d] }
  | _ => none }
def FnTurnGraphWrongFalsely : Prop := fnTurnGraphRow.holds Try.pinned (OpenSpec.ofChange fnTurnGraphWrong)

/-- 'laws.FnGraphPrefix': WHATEVER THE INPUT: true; the input reads as it did. -/
def fnGraphPrefixSpec : ChangeSpec := { name := "fnGraphPrefix", fn := fun _ => fun
  | [d] => { results := [.lit (.bool true)], args := [d] }
  | _ => none }
def fnGraphPrefixRow : OpenClaim := { program := "ytckmganhabgbfaa", sum := "8cfeb2a88ad5780df107bbc46ee7c78b566c6fdaa899ab084c315a8edfbcc415", func := "loop.example/graphpatterns/laws.FnGraphPrefix", spec := "fnGraphPrefix", apart := false }
def FnGraphPrefixSaid : Prop := fnGraphPrefixRow.holds Try.pinned (OpenSpec.ofChange fnGraphPrefixSpec)

/-- ITS FALSE NEIGHBOUR: 'it returns false'. Refute it at one input. -/
def fnGraphPrefixWrong : ChangeSpec := { name := "fnGraphPrefix", fn := fun _ => fun
  | [d] => { results := [.lit (.bool false)], args := [d] }
  | _ => none }
def FnGraphPrefixWrongFalsely : Prop := fnGraphPrefixRow.holds Try.pinned (OpenSpec.ofChange fnGraphPrefixWrong)

/- THE SECOND FORM. 'bulk': how many values and letters a reading holds, each counted each time it is reached (what is shared counts as often as it is met; a slice's spare places count too). A statement '..UptoSaid' is the law's where the arguments, and the package variables that the reading takes, are together of bulk at most 1048576: NARROWER than '..Said'. Prove '..Said' where nothing that the law and all that it calls make is longer than what came in: it says more and counts as full. Else prove '..UptoSaid'. A law counts once. -/
mutual
def uptoBulk {H : Type} : DataW H → Nat
  | .lit (.string bytes) => bytes.length + 1
  | .lit _ => 1
  | .nil => 1
  | .ptr d => uptoBulk d + 1
  | .slice elems spare => uptoBulkAll elems + uptoBulkAll spare + 1
  | .agg parts => uptoBulkAll parts + 1
  | .iface _ d => uptoBulk d + 1
  | .map entries => uptoBulkEntries entries + 1
  | .held _ => 1
def uptoBulkAll {H : Type} : List (DataW H) → Nat
  | [] => 0
  | d :: r => uptoBulk d + uptoBulkAll r
def uptoBulkEntries {H : Type} : List (Lit × DataW H) → Nat
  | [] => 0
  | x :: r => uptoBulkEntry x + uptoBulkEntries r
def uptoBulkEntry {H : Type} : Lit × DataW H → Nat
  | (.string bytes, d) => bytes.length + uptoBulk d + 1
  | (_, d) => uptoBulk d + 1
 end
def uptoSmall : (H : Type) → List (DataW H) → Bool := fun _ ds => decide (uptoBulkAll ds ≤ 1048576)
def OpenSpec.upto (s : _root_.Go.ChangeSpec) : _root_.Go.OpenSpec := { _root_.Go.OpenSpec.ofChange s with cond := some uptoSmall }

/-- 'laws.FnJoinWalks', WHERE WHAT IT READS IS OF BULK AT MOST 1048576: true; the input reads as it did. -/
def fnJoinWalksUptoRow : OpenClaim := { program := "ytckmganhabgbfaa", sum := "8cfeb2a88ad5780df107bbc46ee7c78b566c6fdaa899ab084c315a8edfbcc415", func := "loop.example/graphpatterns/laws.FnJoinWalks", spec := "fnJoinWalks", recurses := true, apart := false, narrowed := true }
def FnJoinWalksUptoSaid : Prop := fnJoinWalksUptoRow.holds Try.pinned (OpenSpec.upto fnJoinWalksSpec)

/-- 'laws.FnTurnWalk', WHERE WHAT IT READS IS OF BULK AT MOST 1048576: true; the input reads as it did. -/
def fnTurnWalkUptoRow : OpenClaim := { program := "ytckmganhabgbfaa", sum := "8cfeb2a88ad5780df107bbc46ee7c78b566c6fdaa899ab084c315a8edfbcc415", func := "loop.example/graphpatterns/laws.FnTurnWalk", spec := "fnTurnWalk", recurses := true, apart := false, narrowed := true }
def FnTurnWalkUptoSaid : Prop := fnTurnWalkUptoRow.holds Try.pinned (OpenSpec.upto fnTurnWalkSpec)

/-- 'laws.FnWalkValid', WHERE WHAT IT READS IS OF BULK AT MOST 1048576: true; the input reads as it did. -/
def fnWalkValidUptoRow : OpenClaim := { program := "ytckmganhabgbfaa", sum := "8cfeb2a88ad5780df107bbc46ee7c78b566c6fdaa899ab084c315a8edfbcc415", func := "loop.example/graphpatterns/laws.FnWalkValid", spec := "fnWalkValid", recurses := true, apart := false, narrowed := true }
def FnWalkValidUptoSaid : Prop := fnWalkValidUptoRow.holds Try.pinned (OpenSpec.upto fnWalkValidSpec)

/-- 'laws.FnWalkMode', WHERE WHAT IT READS IS OF BULK AT MOST 1048576: true; the input reads as it did. -/
def fnWalkModeUptoRow : OpenClaim := { program := "ytckmganhabgbfaa", sum := "8cfeb2a88ad5780df107bbc46ee7c78b566c6fdaa899ab084c315a8edfbcc415", func := "loop.example/graphpatterns/laws.FnWalkMode", spec := "fnWalkMode", recurses := true, apart := false, narrowed := true }
def FnWalkModeUptoSaid : Prop := fnWalkModeUptoRow.holds Try.pinned (OpenSpec.upto fnWalkModeSpec)

/-- 'laws.FnWalkBefore', WHERE WHAT IT READS IS OF BULK AT MOST 1048576: true; the input reads as it did. -/
def fnWalkBeforeUptoRow : OpenClaim := { program := "ytckmganhabgbfaa", sum := "8cfeb2a88ad5780df107bbc46ee7c78b566c6fdaa899ab084c315a8edfbcc415", func := "loop.example/graphpatterns/laws.FnWalkBefore", spec := "fnWalkBefore", recurses := true, apart := false, narrowed := true }
def FnWalkBeforeUptoSaid : Prop := fnWalkBeforeUptoRow.holds Try.pinned (OpenSpec.upto fnWalkBeforeSpec)

/-- 'laws.FnJoinGroups', WHERE WHAT IT READS IS OF BULK AT MOST 1048576: true; the input reads as it did. -/
def fnJoinGroupsUptoRow : OpenClaim := { program := "ytckmganhabgbfaa", sum := "8cfeb2a88ad5780df107bbc46ee7c78b566c6fdaa899ab084c315a8edfbcc415", func := "loop.example/graphpatterns/laws.FnJoinGroups", spec := "fnJoinGroups", recurses := true, apart := false, narrowed := true }
def FnJoinGroupsUptoSaid : Prop := fnJoinGroupsUptoRow.holds Try.pinned (OpenSpec.upto fnJoinGroupsSpec)

/-- 'laws.FnWalkTrans', WHERE WHAT IT READS IS OF BULK AT MOST 1048576: true; the input reads as it did. -/
def fnWalkTransUptoRow : OpenClaim := { program := "ytckmganhabgbfaa", sum := "8cfeb2a88ad5780df107bbc46ee7c78b566c6fdaa899ab084c315a8edfbcc415", func := "loop.example/graphpatterns/laws.FnWalkTrans", spec := "fnWalkTrans", recurses := true, apart := false, narrowed := true }
def FnWalkTransUptoSaid : Prop := fnWalkTransUptoRow.holds Try.pinned (OpenSpec.upto fnWalkTransSpec)

/-- 'laws.FnModeParts', WHERE WHAT IT READS IS OF BULK AT MOST 1048576: true; the input reads as it did. -/
def fnModePartsUptoRow : OpenClaim := { program := "ytckmganhabgbfaa", sum := "8cfeb2a88ad5780df107bbc46ee7c78b566c6fdaa899ab084c315a8edfbcc415", func := "loop.example/graphpatterns/laws.FnModeParts", spec := "fnModeParts", recurses := true, apart := false, narrowed := true }
def FnModePartsUptoSaid : Prop := fnModePartsUptoRow.holds Try.pinned (OpenSpec.upto fnModePartsSpec)

/-- 'laws.FnWalkOne', WHERE WHAT IT READS IS OF BULK AT MOST 1048576: true; the input reads as it did. -/
def fnWalkOneUptoRow : OpenClaim := { program := "ytckmganhabgbfaa", sum := "8cfeb2a88ad5780df107bbc46ee7c78b566c6fdaa899ab084c315a8edfbcc415", func := "loop.example/graphpatterns/laws.FnWalkOne", spec := "fnWalkOne", recurses := true, apart := false, narrowed := true }
def FnWalkOneUptoSaid : Prop := fnWalkOneUptoRow.holds Try.pinned (OpenSpec.upto fnWalkOneSpec)

/-- 'laws.FnAddOrder', WHERE WHAT IT READS IS OF BULK AT MOST 1048576: true; the input reads as it did. -/
def fnAddOrderUptoRow : OpenClaim := { program := "ytckmganhabgbfaa", sum := "8cfeb2a88ad5780df107bbc46ee7c78b566c6fdaa899ab084c315a8edfbcc415", func := "loop.example/graphpatterns/laws.FnAddOrder", spec := "fnAddOrder", apart := false, narrowed := true }
def FnAddOrderUptoSaid : Prop := fnAddOrderUptoRow.holds Try.pinned (OpenSpec.upto fnAddOrderSpec)

/-- 'laws.FnTurnGraph', WHERE WHAT IT READS IS OF BULK AT MOST 1048576: true; the input reads as it did. -/
def fnTurnGraphUptoRow : OpenClaim := { program := "ytckmganhabgbfaa", sum := "8cfeb2a88ad5780df107bbc46ee7c78b566c6fdaa899ab084c315a8edfbcc415", func := "loop.example/graphpatterns/laws.FnTurnGraph", spec := "fnTurnGraph", unfollowed := true, recurses := true, apart := false, narrowed := true }
def FnTurnGraphUptoSaid : Prop := fnTurnGraphUptoRow.holds Try.pinned (OpenSpec.upto fnTurnGraphSpec)

/-- 'laws.FnGraphPrefix', WHERE WHAT IT READS IS OF BULK AT MOST 1048576: true; the input reads as it did. -/
def fnGraphPrefixUptoRow : OpenClaim := { program := "ytckmganhabgbfaa", sum := "8cfeb2a88ad5780df107bbc46ee7c78b566c6fdaa899ab084c315a8edfbcc415", func := "loop.example/graphpatterns/laws.FnGraphPrefix", spec := "fnGraphPrefix", apart := false, narrowed := true }
def FnGraphPrefixUptoSaid : Prop := fnGraphPrefixUptoRow.holds Try.pinned (OpenSpec.upto fnGraphPrefixSpec)

end Rows
end Go.Proofs.Ytckmganhabgbfaa
