/-
  No cell of these rows narrows 'for every input' (looked for: loops, veiled, ifaces, maps, wideKeys, modest, calm, conditions, laid).
  DERIVED. THE GIVEN ROWS OF THIS SEAT. 5 by the template 'for every input the law returns true; each argument reads behind the call as it read before'; 0 by the template 'total and deterministic' (their statements: YtbpihiholbidlaaTotals.lean).
  GIVEN WITH THE SEED: the statements are not yours to turn. If you find one false, say at which input.
  Laid BY PROGRAM, IN A SANDBOX (cutbox-rows.mjs): the forced cells as the released guide's own fill.sh prints them over the translation a4387edbda5ce520… (all of the seat's roots in one cut). By AI agents, Wed Nov 11 2026. No macro, syntax, notation, axiom, sorry.
-/
import Derived.Test.YtbpihiholbidlaaChecked
import GoSem.Claim
import GoSem.ClaimJoined
import GoSem.ClaimMapViews
import Derived.JoinedTies
import Derived.KernelRfl
namespace Go.Proofs.Ytbpihiholbidlaa
/- THE CELL 'sum', in the pinned program and in every row, IS THE sha256 OF THE DUMP (.gsa) THAT YtbpihiholbidlaaProg.lean LOADS. Nothing in Lean hashes anything: it is a label: what it is worth is what the hold of that sum in a sandbox is worth. -/
noncomputable def Try.pinned : Pinned := { name := "ytbpihiholbidlaa", sum := "a4387edbda5ce52069dcef082bba93cf02043470e18dce1fbc6f7d32f770321c", checked := Try.checked }
namespace Rows
def none {H : Type} : Left H := { results := [], args := [] }

/-- 'laws.FnExactChooseMatches': WHATEVER THE INPUT: true; the input reads as it did. -/
def fnExactChooseMatchesSpec : ChangeSpec := { name := "fnExactChooseMatches", fn := fun _ => fun
  | [d1, d2] => { results := [.lit (.bool true)], args := [d1, d2] }
  | _ => none }
def fnExactChooseMatchesRow : OpenClaim := { program := "ytbpihiholbidlaa", sum := "a4387edbda5ce52069dcef082bba93cf02043470e18dce1fbc6f7d32f770321c", func := "loop.example/graphpatterns/laws.FnExactChooseMatches", spec := "fnExactChooseMatches", unfollowed := true, recurses := true, plainKeys := false, apart := false }
def FnExactChooseMatchesSaid : Prop := fnExactChooseMatchesRow.holds Try.pinned (OpenSpec.ofChange fnExactChooseMatchesSpec)

/-- ITS FALSE NEIGHBOUR: 'it returns false'. Refute it at one input. -/
def fnExactChooseMatchesWrong : ChangeSpec := { name := "fnExactChooseMatches", fn := fun _ => fun
  | [d1, d2] => { results := [.lit (.bool false)], args := [d1, d2] }
  | _ => none }
def FnExactChooseMatchesWrongFalsely : Prop := fnExactChooseMatchesRow.holds Try.pinned (OpenSpec.ofChange fnExactChooseMatchesWrong)

/-- 'laws.FnExactFirstMatches': WHATEVER THE INPUT: true; the input reads as it did. -/
def fnExactFirstMatchesSpec : ChangeSpec := { name := "fnExactFirstMatches", fn := fun _ => fun
  | [d1, d2] => { results := [.lit (.bool true)], args := [d1, d2] }
  | _ => none }
def fnExactFirstMatchesRow : OpenClaim := { program := "ytbpihiholbidlaa", sum := "a4387edbda5ce52069dcef082bba93cf02043470e18dce1fbc6f7d32f770321c", func := "loop.example/graphpatterns/laws.FnExactFirstMatches", spec := "fnExactFirstMatches", unfollowed := true, recurses := true, plainKeys := false, apart := false }
def FnExactFirstMatchesSaid : Prop := fnExactFirstMatchesRow.holds Try.pinned (OpenSpec.ofChange fnExactFirstMatchesSpec)

/-- ITS FALSE NEIGHBOUR: 'it returns false'. Refute it at one input. -/
def fnExactFirstMatchesWrong : ChangeSpec := { name := "fnExactFirstMatches", fn := fun _ => fun
  | [d1, d2] => { results := [.lit (.bool false)], args := [d1, d2] }
  | _ => none }
def FnExactFirstMatchesWrongFalsely : Prop := fnExactFirstMatchesRow.holds Try.pinned (OpenSpec.ofChange fnExactFirstMatchesWrong)

/-- 'laws.FnExactShortestGroups': WHATEVER THE INPUT: true; the input reads as it did. -/
def fnExactShortestGroupsSpec : ChangeSpec := { name := "fnExactShortestGroups", fn := fun _ => fun
  | [d1, d2] => { results := [.lit (.bool true)], args := [d1, d2] }
  | _ => none }
def fnExactShortestGroupsRow : OpenClaim := { program := "ytbpihiholbidlaa", sum := "a4387edbda5ce52069dcef082bba93cf02043470e18dce1fbc6f7d32f770321c", func := "loop.example/graphpatterns/laws.FnExactShortestGroups", spec := "fnExactShortestGroups", unfollowed := true, recurses := true, plainKeys := false, apart := false }
def FnExactShortestGroupsSaid : Prop := fnExactShortestGroupsRow.holds Try.pinned (OpenSpec.ofChange fnExactShortestGroupsSpec)

/-- ITS FALSE NEIGHBOUR: 'it returns false'. Refute it at one input. -/
def fnExactShortestGroupsWrong : ChangeSpec := { name := "fnExactShortestGroups", fn := fun _ => fun
  | [d1, d2] => { results := [.lit (.bool false)], args := [d1, d2] }
  | _ => none }
def FnExactShortestGroupsWrongFalsely : Prop := fnExactShortestGroupsRow.holds Try.pinned (OpenSpec.ofChange fnExactShortestGroupsWrong)

/-- 'laws.FnExactCountEnds': WHATEVER THE INPUT: true; the input reads as it did. -/
def fnExactCountEndsSpec : ChangeSpec := { name := "fnExactCountEnds", fn := fun _ => fun
  | [d] => { results := [.lit (.bool true)], args := [d] }
  | _ => none }
def fnExactCountEndsRow : OpenClaim := { program := "ytbpihiholbidlaa", sum := "a4387edbda5ce52069dcef082bba93cf02043470e18dce1fbc6f7d32f770321c", func := "loop.example/graphpatterns/laws.FnExactCountEnds", spec := "fnExactCountEnds", unfollowed := true, recurses := true, plainKeys := false, apart := false }
def FnExactCountEndsSaid : Prop := fnExactCountEndsRow.holds Try.pinned (OpenSpec.ofChange fnExactCountEndsSpec)

/-- ITS FALSE NEIGHBOUR: 'it returns false'. Refute it at one input. -/
def fnExactCountEndsWrong : ChangeSpec := { name := "fnExactCountEnds", fn := fun _ => fun
  | [d] => { results := [.lit (.bool false)], args := [d] }
  | _ => none }
def FnExactCountEndsWrongFalsely : Prop := fnExactCountEndsRow.holds Try.pinned (OpenSpec.ofChange fnExactCountEndsWrong)

/-- 'laws.FnExactMatchesFrom': WHATEVER THE INPUT: true; the input reads as it did. -/
def fnExactMatchesFromSpec : ChangeSpec := { name := "fnExactMatchesFrom", fn := fun _ => fun
  | [d1, d2] => { results := [.lit (.bool true)], args := [d1, d2] }
  | _ => none }
def fnExactMatchesFromRow : OpenClaim := { program := "ytbpihiholbidlaa", sum := "a4387edbda5ce52069dcef082bba93cf02043470e18dce1fbc6f7d32f770321c", func := "loop.example/graphpatterns/laws.FnExactMatchesFrom", spec := "fnExactMatchesFrom", unfollowed := true, recurses := true, plainKeys := false, apart := false }
def FnExactMatchesFromSaid : Prop := fnExactMatchesFromRow.holds Try.pinned (OpenSpec.ofChange fnExactMatchesFromSpec)

/-- ITS FALSE NEIGHBOUR: 'it returns false'. Refute it at one input. -/
def fnExactMatchesFromWrong : ChangeSpec := { name := "fnExactMatchesFrom", fn := fun _ => fun
  | [d1, d2] => { results := [.lit (.bool false)], args := [d1, d2] }
  | _ => none }
def FnExactMatchesFromWrongFalsely : Prop := fnExactMatchesFromRow.holds Try.pinned (OpenSpec.ofChange fnExactMatchesFromWrong)

/- THE SECOND FORM. 'bulk': how many values and letters a reading holds, each counted each time it is reached (what is shared counts as often as it is met; a slice's spare places count too). A statement '..UptoSaid' is the law's where the arguments, and the package variables that the reading takes, are together of bulk at most 1048576: NARROWER than '..Said'. Prove '..Said' where nothing that the law and all that it calls make is longer than what came in: it says more and counts as full. Else prove '..UptoSaid'. A law counts once. -/
mutual
def uptoBulk {H : Type} : DataW H → Nat
  | .lit (.string bytes) => bytes.length + 1
  | .lit _ => 1
  | .nil => 1
  | .ptr d => uptoBulk d + 1
  | .slice elems spare => uptoBulkAll elems + uptoBulkAll spare + 1
  | .agg parts => uptoBulkAll parts + 1
  | .iface _ d => uptoBulk d + 1
  | .map entries => uptoBulkEntries entries + 1
  | .held _ => 1
def uptoBulkAll {H : Type} : List (DataW H) → Nat
  | [] => 0
  | d :: r => uptoBulk d + uptoBulkAll r
def uptoBulkEntries {H : Type} : List (Lit × DataW H) → Nat
  | [] => 0
  | x :: r => uptoBulkEntry x + uptoBulkEntries r
def uptoBulkEntry {H : Type} : Lit × DataW H → Nat
  | (.string bytes, d) => bytes.length + uptoBulk d + 1
  | (_, d) => uptoBulk d + 1
 end
def uptoSmall : (H : Type) → List (DataW H) → Bool := fun _ ds => decide (uptoBulkAll ds ≤ 1048576)
def OpenSpec.upto (s : _root_.Go.ChangeSpec) : _root_.Go.OpenSpec := { _root_.Go.OpenSpec.ofChange s with cond := some uptoSmall }

/-- 'laws.FnExactChooseMatches', WHERE WHAT IT READS IS OF BULK AT MOST 1048576: true; the input reads as it did. -/
def fnExactChooseMatchesUptoRow : OpenClaim := { program := "ytbpihiholbidlaa", sum := "a4387edbda5ce52069dcef082bba93cf02043470e18dce1fbc6f7d32f770321c", func := "loop.example/graphpatterns/laws.FnExactChooseMatches", spec := "fnExactChooseMatches", unfollowed := true, recurses := true, plainKeys := false, apart := false, narrowed := true }
def FnExactChooseMatchesUptoSaid : Prop := fnExactChooseMatchesUptoRow.holds Try.pinned (OpenSpec.upto fnExactChooseMatchesSpec)

/-- 'laws.FnExactFirstMatches', WHERE WHAT IT READS IS OF BULK AT MOST 1048576: true; the input reads as it did. -/
def fnExactFirstMatchesUptoRow : OpenClaim := { program := "ytbpihiholbidlaa", sum := "a4387edbda5ce52069dcef082bba93cf02043470e18dce1fbc6f7d32f770321c", func := "loop.example/graphpatterns/laws.FnExactFirstMatches", spec := "fnExactFirstMatches", unfollowed := true, recurses := true, plainKeys := false, apart := false, narrowed := true }
def FnExactFirstMatchesUptoSaid : Prop := fnExactFirstMatchesUptoRow.holds Try.pinned (OpenSpec.upto fnExactFirstMatchesSpec)

/-- 'laws.FnExactShortestGroups', WHERE WHAT IT READS IS OF BULK AT MOST 1048576: true; the input reads as it did. -/
def fnExactShortestGroupsUptoRow : OpenClaim := { program := "ytbpihiholbidlaa", sum := "a4387edbda5ce52069dcef082bba93cf02043470e18dce1fbc6f7d32f770321c", func := "loop.example/graphpatterns/laws.FnExactShortestGroups", spec := "fnExactShortestGroups", unfollowed := true, recurses := true, plainKeys := false, apart := false, narrowed := true }
def FnExactShortestGroupsUptoSaid : Prop := fnExactShortestGroupsUptoRow.holds Try.pinned (OpenSpec.upto fnExactShortestGroupsSpec)

/-- 'laws.FnExactCountEnds', WHERE WHAT IT READS IS OF BULK AT MOST 1048576: true; the input reads as it did. -/
def fnExactCountEndsUptoRow : OpenClaim := { program := "ytbpihiholbidlaa", sum := "a4387edbda5ce52069dcef082bba93cf02043470e18dce1fbc6f7d32f770321c", func := "loop.example/graphpatterns/laws.FnExactCountEnds", spec := "fnExactCountEnds", unfollowed := true, recurses := true, plainKeys := false, apart := false, narrowed := true }
def FnExactCountEndsUptoSaid : Prop := fnExactCountEndsUptoRow.holds Try.pinned (OpenSpec.upto fnExactCountEndsSpec)

/-- 'laws.FnExactMatchesFrom', WHERE WHAT IT READS IS OF BULK AT MOST 1048576: true; the input reads as it did. -/
def fnExactMatchesFromUptoRow : OpenClaim := { program := "ytbpihiholbidlaa", sum := "a4387edbda5ce52069dcef082bba93cf02043470e18dce1fbc6f7d32f770321c", func := "loop.example/graphpatterns/laws.FnExactMatchesFrom", spec := "fnExactMatchesFrom", unfollowed := true, recurses := true, plainKeys := false, apart := false, narrowed := true }
def FnExactMatchesFromUptoSaid : Prop := fnExactMatchesFromUptoRow.holds Try.pinned (OpenSpec.upto fnExactMatchesFromSpec)

end Rows
end Go.Proofs.Ytbpihiholbidlaa
