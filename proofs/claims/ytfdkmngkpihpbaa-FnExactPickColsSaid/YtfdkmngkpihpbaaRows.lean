/-
  No cell of these rows narrows 'for every input' (looked for: loops, veiled, ifaces, maps, wideKeys, modest, calm, conditions, laid).
  DERIVED. THE GIVEN ROWS OF THIS SEAT. 12 by the template 'for every input the law returns true; each argument reads behind the call as it read before'; 0 by the template 'total and deterministic' (their statements: YtfdkmngkpihpbaaTotals.lean).
  GIVEN WITH THE SEED: the statements are not yours to turn. If you find one false, say at which input.
  Laid BY PROGRAM, IN A SANDBOX (cutbox-rows.mjs): the forced cells as the released guide's own fill.sh prints them over the translation ea2d73e6b021da65… (all of the seat's roots in one cut). By AI agents, Wed Nov 11 2026. No macro, syntax, notation, axiom, sorry.
-/
import Derived.Test.YtfdkmngkpihpbaaChecked
import GoSem.Claim
import GoSem.ClaimJoined
import GoSem.ClaimMapViews
import Derived.JoinedTies
import Derived.KernelRfl
namespace Go.Proofs.Ytfdkmngkpihpbaa
/- THE CELL 'sum', in the pinned program and in every row, IS THE sha256 OF THE DUMP (.gsa) THAT YtfdkmngkpihpbaaProg.lean LOADS. Nothing in Lean hashes anything: it is a label: what it is worth is what the hold of that sum in a sandbox is worth. -/
noncomputable def Try.pinned : Pinned := { name := "ytfdkmngkpihpbaa", sum := "ea2d73e6b021da655d56c81ccc7bb67c834711e23c8db8d215e01a110544a45d", checked := Try.checked }
namespace Rows
def none {H : Type} : Left H := { results := [], args := [] }

/-- 'laws.FnWalkMode': WHATEVER THE INPUT: true; the input reads as it did. -/
def fnWalkModeSpec : ChangeSpec := { name := "fnWalkMode", fn := fun _ => fun
  | [d] => { results := [.lit (.bool true)], args := [d] }
  | _ => none }
def fnWalkModeRow : OpenClaim := { program := "ytfdkmngkpihpbaa", sum := "ea2d73e6b021da655d56c81ccc7bb67c834711e23c8db8d215e01a110544a45d", func := "loop.example/graphpatterns/laws.FnWalkMode", spec := "fnWalkMode", recurses := true, plainKeys := false, apart := false }
def FnWalkModeSaid : Prop := fnWalkModeRow.holds Try.pinned (OpenSpec.ofChange fnWalkModeSpec)

/-- ITS FALSE NEIGHBOUR: 'it returns false'. Refute it at one input. -/
def fnWalkModeWrong : ChangeSpec := { name := "fnWalkMode", fn := fun _ => fun
  | [d] => { results := [.lit (.bool false)], args := [d] }
  | _ => none }
def FnWalkModeWrongFalsely : Prop := fnWalkModeRow.holds Try.pinned (OpenSpec.ofChange fnWalkModeWrong)

/-- 'laws.FnModeParts': WHATEVER THE INPUT: true; the input reads as it did. -/
def fnModePartsSpec : ChangeSpec := { name := "fnModeParts", fn := fun _ => fun
  | [d] => { results := [.lit (.bool true)], args := [d] }
  | _ => none }
def fnModePartsRow : OpenClaim := { program := "ytfdkmngkpihpbaa", sum := "ea2d73e6b021da655d56c81ccc7bb67c834711e23c8db8d215e01a110544a45d", func := "loop.example/graphpatterns/laws.FnModeParts", spec := "fnModeParts", recurses := true, plainKeys := false, apart := false }
def FnModePartsSaid : Prop := fnModePartsRow.holds Try.pinned (OpenSpec.ofChange fnModePartsSpec)

/-- ITS FALSE NEIGHBOUR: 'it returns false'. Refute it at one input. -/
def fnModePartsWrong : ChangeSpec := { name := "fnModeParts", fn := fun _ => fun
  | [d] => { results := [.lit (.bool false)], args := [d] }
  | _ => none }
def FnModePartsWrongFalsely : Prop := fnModePartsRow.holds Try.pinned (OpenSpec.ofChange fnModePartsWrong)

/-- 'laws.FnDistinctRows': WHATEVER THE INPUT: true; the input reads as it did. -/
def fnDistinctRowsSpec : ChangeSpec := { name := "fnDistinctRows", fn := fun _ => fun
  | [d] => { results := [.lit (.bool true)], args := [d] }
  | _ => none }
def fnDistinctRowsRow : OpenClaim := { program := "ytfdkmngkpihpbaa", sum := "ea2d73e6b021da655d56c81ccc7bb67c834711e23c8db8d215e01a110544a45d", func := "loop.example/graphpatterns/laws.FnDistinctRows", spec := "fnDistinctRows", unfollowed := true, recurses := true, plainKeys := false, apart := false }
def FnDistinctRowsSaid : Prop := fnDistinctRowsRow.holds Try.pinned (OpenSpec.ofChange fnDistinctRowsSpec)

/-- ITS FALSE NEIGHBOUR: 'it returns false'. Refute it at one input. -/
def fnDistinctRowsWrong : ChangeSpec := { name := "fnDistinctRows", fn := fun _ => fun
  | [d] => { results := [.lit (.bool false)], args := [d] }
  | _ => none }
def FnDistinctRowsWrongFalsely : Prop := fnDistinctRowsRow.holds Try.pinned (OpenSpec.ofChange fnDistinctRowsWrong)

/-- 'laws.FnSliceRows': WHATEVER THE INPUT: true; the input reads as it did. -/
def fnSliceRowsSpec : ChangeSpec := { name := "fnSliceRows", fn := fun _ => fun
  | [d] => { results := [.lit (.bool true)], args := [d] }
  | _ => none }
def fnSliceRowsRow : OpenClaim := { program := "ytfdkmngkpihpbaa", sum := "ea2d73e6b021da655d56c81ccc7bb67c834711e23c8db8d215e01a110544a45d", func := "loop.example/graphpatterns/laws.FnSliceRows", spec := "fnSliceRows", unfollowed := true, recurses := true, plainKeys := false, apart := false }
def FnSliceRowsSaid : Prop := fnSliceRowsRow.holds Try.pinned (OpenSpec.ofChange fnSliceRowsSpec)

/-- ITS FALSE NEIGHBOUR: 'it returns false'. Refute it at one input. -/
def fnSliceRowsWrong : ChangeSpec := { name := "fnSliceRows", fn := fun _ => fun
  | [d] => { results := [.lit (.bool false)], args := [d] }
  | _ => none }
def FnSliceRowsWrongFalsely : Prop := fnSliceRowsRow.holds Try.pinned (OpenSpec.ofChange fnSliceRowsWrong)

/-- 'laws.FnDistinctTwice': WHATEVER THE INPUT: true; the input reads as it did. -/
def fnDistinctTwiceSpec : ChangeSpec := { name := "fnDistinctTwice", fn := fun _ => fun
  | [d] => { results := [.lit (.bool true)], args := [d] }
  | _ => none }
def fnDistinctTwiceRow : OpenClaim := { program := "ytfdkmngkpihpbaa", sum := "ea2d73e6b021da655d56c81ccc7bb67c834711e23c8db8d215e01a110544a45d", func := "loop.example/graphpatterns/laws.FnDistinctTwice", spec := "fnDistinctTwice", unfollowed := true, recurses := true, plainKeys := false, apart := false }
def FnDistinctTwiceSaid : Prop := fnDistinctTwiceRow.holds Try.pinned (OpenSpec.ofChange fnDistinctTwiceSpec)

/-- ITS FALSE NEIGHBOUR: 'it returns false'. Refute it at one input. -/
def fnDistinctTwiceWrong : ChangeSpec := { name := "fnDistinctTwice", fn := fun _ => fun
  | [d] => { results := [.lit (.bool false)], args := [d] }
  | _ => none }
def FnDistinctTwiceWrongFalsely : Prop := fnDistinctTwiceRow.holds Try.pinned (OpenSpec.ofChange fnDistinctTwiceWrong)

/-- 'laws.FnSliceSlice': WHATEVER THE INPUT: true; the input reads as it did. -/
def fnSliceSliceSpec : ChangeSpec := { name := "fnSliceSlice", fn := fun _ => fun
  | [d] => { results := [.lit (.bool true)], args := [d] }
  | _ => none }
def fnSliceSliceRow : OpenClaim := { program := "ytfdkmngkpihpbaa", sum := "ea2d73e6b021da655d56c81ccc7bb67c834711e23c8db8d215e01a110544a45d", func := "loop.example/graphpatterns/laws.FnSliceSlice", spec := "fnSliceSlice", unfollowed := true, recurses := true, plainKeys := false, apart := false }
def FnSliceSliceSaid : Prop := fnSliceSliceRow.holds Try.pinned (OpenSpec.ofChange fnSliceSliceSpec)

/-- ITS FALSE NEIGHBOUR: 'it returns false'. Refute it at one input. -/
def fnSliceSliceWrong : ChangeSpec := { name := "fnSliceSlice", fn := fun _ => fun
  | [d] => { results := [.lit (.bool false)], args := [d] }
  | _ => none }
def FnSliceSliceWrongFalsely : Prop := fnSliceSliceRow.holds Try.pinned (OpenSpec.ofChange fnSliceSliceWrong)

/-- 'laws.FnExactTableValid': WHATEVER THE INPUT: true; the input reads as it did. -/
def fnExactTableValidSpec : ChangeSpec := { name := "fnExactTableValid", fn := fun _ => fun
  | [d] => { results := [.lit (.bool true)], args := [d] }
  | _ => none }
def fnExactTableValidRow : OpenClaim := { program := "ytfdkmngkpihpbaa", sum := "ea2d73e6b021da655d56c81ccc7bb67c834711e23c8db8d215e01a110544a45d", func := "loop.example/graphpatterns/laws.FnExactTableValid", spec := "fnExactTableValid", unfollowed := true, recurses := true, plainKeys := false, apart := false }
def FnExactTableValidSaid : Prop := fnExactTableValidRow.holds Try.pinned (OpenSpec.ofChange fnExactTableValidSpec)

/-- ITS FALSE NEIGHBOUR: 'it returns false'. Refute it at one input. -/
def fnExactTableValidWrong : ChangeSpec := { name := "fnExactTableValid", fn := fun _ => fun
  | [d] => { results := [.lit (.bool false)], args := [d] }
  | _ => none }
def FnExactTableValidWrongFalsely : Prop := fnExactTableValidRow.holds Try.pinned (OpenSpec.ofChange fnExactTableValidWrong)

/-- 'laws.FnExactTableOf': WHATEVER THE INPUT: true; the input reads as it did. -/
def fnExactTableOfSpec : ChangeSpec := { name := "fnExactTableOf", fn := fun _ => fun
  | [d1, d2] => { results := [.lit (.bool true)], args := [d1, d2] }
  | _ => none }
def fnExactTableOfRow : OpenClaim := { program := "ytfdkmngkpihpbaa", sum := "ea2d73e6b021da655d56c81ccc7bb67c834711e23c8db8d215e01a110544a45d", func := "loop.example/graphpatterns/laws.FnExactTableOf", spec := "fnExactTableOf", unfollowed := true, recurses := true, plainKeys := false, apart := false }
def FnExactTableOfSaid : Prop := fnExactTableOfRow.holds Try.pinned (OpenSpec.ofChange fnExactTableOfSpec)

/-- ITS FALSE NEIGHBOUR: 'it returns false'. Refute it at one input. -/
def fnExactTableOfWrong : ChangeSpec := { name := "fnExactTableOf", fn := fun _ => fun
  | [d1, d2] => { results := [.lit (.bool false)], args := [d1, d2] }
  | _ => none }
def FnExactTableOfWrongFalsely : Prop := fnExactTableOfRow.holds Try.pinned (OpenSpec.ofChange fnExactTableOfWrong)

/-- 'laws.FnExactPickCols': WHATEVER THE INPUT: true; the input reads as it did. -/
def fnExactPickColsSpec : ChangeSpec := { name := "fnExactPickCols", fn := fun _ => fun
  | [d1, d2] => { results := [.lit (.bool true)], args := [d1, d2] }
  | _ => none }
def fnExactPickColsRow : OpenClaim := { program := "ytfdkmngkpihpbaa", sum := "ea2d73e6b021da655d56c81ccc7bb67c834711e23c8db8d215e01a110544a45d", func := "loop.example/graphpatterns/laws.FnExactPickCols", spec := "fnExactPickCols", unfollowed := true, recurses := true, plainKeys := false, apart := false }
def FnExactPickColsSaid : Prop := fnExactPickColsRow.holds Try.pinned (OpenSpec.ofChange fnExactPickColsSpec)

/-- ITS FALSE NEIGHBOUR: 'it returns false'. Refute it at one input. -/
def fnExactPickColsWrong : ChangeSpec := { name := "fnExactPickCols", fn := fun _ => fun
  | [d1, d2] => { results := [.lit (.bool false)], args := [d1, d2] }
  | _ => none }
def FnExactPickColsWrongFalsely : Prop := fnExactPickColsRow.holds Try.pinned (OpenSpec.ofChange fnExactPickColsWrong)

/-- 'laws.FnExactDistinctRows': WHATEVER THE INPUT: true; the input reads as it did. -/
def fnExactDistinctRowsSpec : ChangeSpec := { name := "fnExactDistinctRows", fn := fun _ => fun
  | [d] => { results := [.lit (.bool true)], args := [d] }
  | _ => none }
def fnExactDistinctRowsRow : OpenClaim := { program := "ytfdkmngkpihpbaa", sum := "ea2d73e6b021da655d56c81ccc7bb67c834711e23c8db8d215e01a110544a45d", func := "loop.example/graphpatterns/laws.FnExactDistinctRows", spec := "fnExactDistinctRows", unfollowed := true, recurses := true, plainKeys := false, apart := false }
def FnExactDistinctRowsSaid : Prop := fnExactDistinctRowsRow.holds Try.pinned (OpenSpec.ofChange fnExactDistinctRowsSpec)

/-- ITS FALSE NEIGHBOUR: 'it returns false'. Refute it at one input. -/
def fnExactDistinctRowsWrong : ChangeSpec := { name := "fnExactDistinctRows", fn := fun _ => fun
  | [d] => { results := [.lit (.bool false)], args := [d] }
  | _ => none }
def FnExactDistinctRowsWrongFalsely : Prop := fnExactDistinctRowsRow.holds Try.pinned (OpenSpec.ofChange fnExactDistinctRowsWrong)

/-- 'laws.FnExactSliceRows': WHATEVER THE INPUT: true; the input reads as it did. -/
def fnExactSliceRowsSpec : ChangeSpec := { name := "fnExactSliceRows", fn := fun _ => fun
  | [d1, d2, d3] => { results := [.lit (.bool true)], args := [d1, d2, d3] }
  | _ => none }
def fnExactSliceRowsRow : OpenClaim := { program := "ytfdkmngkpihpbaa", sum := "ea2d73e6b021da655d56c81ccc7bb67c834711e23c8db8d215e01a110544a45d", func := "loop.example/graphpatterns/laws.FnExactSliceRows", spec := "fnExactSliceRows", unfollowed := true, recurses := true, plainKeys := false, apart := false }
def FnExactSliceRowsSaid : Prop := fnExactSliceRowsRow.holds Try.pinned (OpenSpec.ofChange fnExactSliceRowsSpec)

/-- ITS FALSE NEIGHBOUR: 'it returns false'. Refute it at one input. -/
def fnExactSliceRowsWrong : ChangeSpec := { name := "fnExactSliceRows", fn := fun _ => fun
  | [d1, d2, d3] => { results := [.lit (.bool false)], args := [d1, d2, d3] }
  | _ => none }
def FnExactSliceRowsWrongFalsely : Prop := fnExactSliceRowsRow.holds Try.pinned (OpenSpec.ofChange fnExactSliceRowsWrong)

/-- 'laws.FnExactWalkMode': WHATEVER THE INPUT: true; the input reads as it did. -/
def fnExactWalkModeSpec : ChangeSpec := { name := "fnExactWalkMode", fn := fun _ => fun
  | [d1, d2] => { results := [.lit (.bool true)], args := [d1, d2] }
  | _ => none }
def fnExactWalkModeRow : OpenClaim := { program := "ytfdkmngkpihpbaa", sum := "ea2d73e6b021da655d56c81ccc7bb67c834711e23c8db8d215e01a110544a45d", func := "loop.example/graphpatterns/laws.FnExactWalkMode", spec := "fnExactWalkMode", plainKeys := false, apart := false }
def FnExactWalkModeSaid : Prop := fnExactWalkModeRow.holds Try.pinned (OpenSpec.ofChange fnExactWalkModeSpec)

/-- ITS FALSE NEIGHBOUR: 'it returns false'. Refute it at one input. -/
def fnExactWalkModeWrong : ChangeSpec := { name := "fnExactWalkMode", fn := fun _ => fun
  | [d1, d2] => { results := [.lit (.bool false)], args := [d1, d2] }
  | _ => none }
def FnExactWalkModeWrongFalsely : Prop := fnExactWalkModeRow.holds Try.pinned (OpenSpec.ofChange fnExactWalkModeWrong)

/- THE SECOND FORM. 'bulk': how many values and letters a reading holds, each counted each time it is reached (what is shared counts as often as it is met; a slice's spare places count too). A statement '..UptoSaid' is the law's where the arguments, and the package variables that the reading takes, are together of bulk at most 1048576: NARROWER than '..Said'. Prove '..Said' where nothing that the law and all that it calls make is longer than what came in: it says more and counts as full. Else prove '..UptoSaid'. A law counts once. -/
mutual
def uptoBulk {H : Type} : DataW H → Nat
  | .lit (.string bytes) => bytes.length + 1
  | .lit _ => 1
  | .nil => 1
  | .ptr d => uptoBulk d + 1
  | .slice elems spare => uptoBulkAll elems + uptoBulkAll spare + 1
  | .agg parts => uptoBulkAll parts + 1
  | .iface _ d => uptoBulk d + 1
  | .map entries => uptoBulkEntries entries + 1
  | .held _ => 1
def uptoBulkAll {H : Type} : List (DataW H) → Nat
  | [] => 0
  | d :: r => uptoBulk d + uptoBulkAll r
def uptoBulkEntries {H : Type} : List (Lit × DataW H) → Nat
  | [] => 0
  | x :: r => uptoBulkEntry x + uptoBulkEntries r
def uptoBulkEntry {H : Type} : Lit × DataW H → Nat
  | (.string bytes, d) => bytes.length + uptoBulk d + 1
  | (_, d) => uptoBulk d + 1
 end
def uptoSmall : (H : Type) → List (DataW H) → Bool := fun _ ds => decide (uptoBulkAll ds ≤ 1048576)
def OpenSpec.upto (s : _root_.Go.ChangeSpec) : _root_.Go.OpenSpec := { _root_.Go.OpenSpec.ofChange s with cond := some uptoSmall }

/-- 'laws.FnWalkMode', WHERE WHAT IT READS IS OF BULK AT MOST 1048576: true; the input reads as it did. -/
def fnWalkModeUptoRow : OpenClaim := { program := "ytfdkmngkpihpbaa", sum := "ea2d73e6b021da655d56c81ccc7bb67c834711e23c8db8d215e01a110544a45d", func := "loop.example/graphpatterns/laws.FnWalkMode", spec := "fnWalkMode", recurses := true, plainKeys := false, apart := false, narrowed := true }
def FnWalkModeUptoSaid : Prop := fnWalkModeUptoRow.holds Try.pinned (OpenSpec.upto fnWalkModeSpec)

/-- 'laws.FnModeParts', WHERE WHAT IT READS IS OF BULK AT MOST 1048576: true; the input reads as it did. -/
def fnModePartsUptoRow : OpenClaim := { program := "ytfdkmngkpihpbaa", sum := "ea2d73e6b021da655d56c81ccc7bb67c834711e23c8db8d215e01a110544a45d", func := "loop.example/graphpatterns/laws.FnModeParts", spec := "fnModeParts", recurses := true, plainKeys := false, apart := false, narrowed := true }
def FnModePartsUptoSaid : Prop := fnModePartsUptoRow.holds Try.pinned (OpenSpec.upto fnModePartsSpec)

/-- 'laws.FnDistinctRows', WHERE WHAT IT READS IS OF BULK AT MOST 1048576: true; the input reads as it did. -/
def fnDistinctRowsUptoRow : OpenClaim := { program := "ytfdkmngkpihpbaa", sum := "ea2d73e6b021da655d56c81ccc7bb67c834711e23c8db8d215e01a110544a45d", func := "loop.example/graphpatterns/laws.FnDistinctRows", spec := "fnDistinctRows", unfollowed := true, recurses := true, plainKeys := false, apart := false, narrowed := true }
def FnDistinctRowsUptoSaid : Prop := fnDistinctRowsUptoRow.holds Try.pinned (OpenSpec.upto fnDistinctRowsSpec)

/-- 'laws.FnSliceRows', WHERE WHAT IT READS IS OF BULK AT MOST 1048576: true; the input reads as it did. -/
def fnSliceRowsUptoRow : OpenClaim := { program := "ytfdkmngkpihpbaa", sum := "ea2d73e6b021da655d56c81ccc7bb67c834711e23c8db8d215e01a110544a45d", func := "loop.example/graphpatterns/laws.FnSliceRows", spec := "fnSliceRows", unfollowed := true, recurses := true, plainKeys := false, apart := false, narrowed := true }
def FnSliceRowsUptoSaid : Prop := fnSliceRowsUptoRow.holds Try.pinned (OpenSpec.upto fnSliceRowsSpec)

/-- 'laws.FnDistinctTwice', WHERE WHAT IT READS IS OF BULK AT MOST 1048576: true; the input reads as it did. -/
def fnDistinctTwiceUptoRow : OpenClaim := { program := "ytfdkmngkpihpbaa", sum := "ea2d73e6b021da655d56c81ccc7bb67c834711e23c8db8d215e01a110544a45d", func := "loop.example/graphpatterns/laws.FnDistinctTwice", spec := "fnDistinctTwice", unfollowed := true, recurses := true, plainKeys := false, apart := false, narrowed := true }
def FnDistinctTwiceUptoSaid : Prop := fnDistinctTwiceUptoRow.holds Try.pinned (OpenSpec.upto fnDistinctTwiceSpec)

/-- 'laws.FnSliceSlice', WHERE WHAT IT READS IS OF BULK AT MOST 1048576: true; the input reads as it did. -/
def fnSliceSliceUptoRow : OpenClaim := { program := "ytfdkmngkpihpbaa", sum := "ea2d73e6b021da655d56c81ccc7bb67c834711e23c8db8d215e01a110544a45d", func := "loop.example/graphpatterns/laws.FnSliceSlice", spec := "fnSliceSlice", unfollowed := true, recurses := true, plainKeys := false, apart := false, narrowed := true }
def FnSliceSliceUptoSaid : Prop := fnSliceSliceUptoRow.holds Try.pinned (OpenSpec.upto fnSliceSliceSpec)

/-- 'laws.FnExactTableValid', WHERE WHAT IT READS IS OF BULK AT MOST 1048576: true; the input reads as it did. -/
def fnExactTableValidUptoRow : OpenClaim := { program := "ytfdkmngkpihpbaa", sum := "ea2d73e6b021da655d56c81ccc7bb67c834711e23c8db8d215e01a110544a45d", func := "loop.example/graphpatterns/laws.FnExactTableValid", spec := "fnExactTableValid", unfollowed := true, recurses := true, plainKeys := false, apart := false, narrowed := true }
def FnExactTableValidUptoSaid : Prop := fnExactTableValidUptoRow.holds Try.pinned (OpenSpec.upto fnExactTableValidSpec)

/-- 'laws.FnExactTableOf', WHERE WHAT IT READS IS OF BULK AT MOST 1048576: true; the input reads as it did. -/
def fnExactTableOfUptoRow : OpenClaim := { program := "ytfdkmngkpihpbaa", sum := "ea2d73e6b021da655d56c81ccc7bb67c834711e23c8db8d215e01a110544a45d", func := "loop.example/graphpatterns/laws.FnExactTableOf", spec := "fnExactTableOf", unfollowed := true, recurses := true, plainKeys := false, apart := false, narrowed := true }
def FnExactTableOfUptoSaid : Prop := fnExactTableOfUptoRow.holds Try.pinned (OpenSpec.upto fnExactTableOfSpec)

/-- 'laws.FnExactPickCols', WHERE WHAT IT READS IS OF BULK AT MOST 1048576: true; the input reads as it did. -/
def fnExactPickColsUptoRow : OpenClaim := { program := "ytfdkmngkpihpbaa", sum := "ea2d73e6b021da655d56c81ccc7bb67c834711e23c8db8d215e01a110544a45d", func := "loop.example/graphpatterns/laws.FnExactPickCols", spec := "fnExactPickCols", unfollowed := true, recurses := true, plainKeys := false, apart := false, narrowed := true }
def FnExactPickColsUptoSaid : Prop := fnExactPickColsUptoRow.holds Try.pinned (OpenSpec.upto fnExactPickColsSpec)

/-- 'laws.FnExactDistinctRows', WHERE WHAT IT READS IS OF BULK AT MOST 1048576: true; the input reads as it did. -/
def fnExactDistinctRowsUptoRow : OpenClaim := { program := "ytfdkmngkpihpbaa", sum := "ea2d73e6b021da655d56c81ccc7bb67c834711e23c8db8d215e01a110544a45d", func := "loop.example/graphpatterns/laws.FnExactDistinctRows", spec := "fnExactDistinctRows", unfollowed := true, recurses := true, plainKeys := false, apart := false, narrowed := true }
def FnExactDistinctRowsUptoSaid : Prop := fnExactDistinctRowsUptoRow.holds Try.pinned (OpenSpec.upto fnExactDistinctRowsSpec)

/-- 'laws.FnExactSliceRows', WHERE WHAT IT READS IS OF BULK AT MOST 1048576: true; the input reads as it did. -/
def fnExactSliceRowsUptoRow : OpenClaim := { program := "ytfdkmngkpihpbaa", sum := "ea2d73e6b021da655d56c81ccc7bb67c834711e23c8db8d215e01a110544a45d", func := "loop.example/graphpatterns/laws.FnExactSliceRows", spec := "fnExactSliceRows", unfollowed := true, recurses := true, plainKeys := false, apart := false, narrowed := true }
def FnExactSliceRowsUptoSaid : Prop := fnExactSliceRowsUptoRow.holds Try.pinned (OpenSpec.upto fnExactSliceRowsSpec)

/-- 'laws.FnExactWalkMode', WHERE WHAT IT READS IS OF BULK AT MOST 1048576: true; the input reads as it did. -/
def fnExactWalkModeUptoRow : OpenClaim := { program := "ytfdkmngkpihpbaa", sum := "ea2d73e6b021da655d56c81ccc7bb67c834711e23c8db8d215e01a110544a45d", func := "loop.example/graphpatterns/laws.FnExactWalkMode", spec := "fnExactWalkMode", plainKeys := false, apart := false, narrowed := true }
def FnExactWalkModeUptoSaid : Prop := fnExactWalkModeUptoRow.holds Try.pinned (OpenSpec.upto fnExactWalkModeSpec)

end Rows
end Go.Proofs.Ytfdkmngkpihpbaa
