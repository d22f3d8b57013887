/-
  NARROWER THAN 'FOR EVERY INPUT', by the rows' own cells (each row's printed sentence says how): FnExactQuerySame: loops.
  DERIVED. THE GIVEN ROWS OF THIS SEAT. 6 by the template 'for every input the law returns true; each argument reads behind the call as it read before'; 0 by the template 'total and deterministic' (their statements: YtggpnnoldjpmcaaTotals.lean).
  GIVEN WITH THE SEED: the statements are not yours to turn. If you find one false, say at which input.
  Laid BY PROGRAM, IN A SANDBOX (cutbox-rows.mjs): the forced cells as the released guide's own fill.sh prints them over the translation 58e64ef77ef62c0b… (all of the seat's roots in one cut). By AI agents, Wed Nov 11 2026. No macro, syntax, notation, axiom, sorry.
-/
import Derived.Test.YtggpnnoldjpmcaaChecked
import GoSem.Claim
import GoSem.ClaimJoined
import GoSem.ClaimMapViews
import Derived.JoinedTies
import Derived.KernelRfl
namespace Go.Proofs.Ytggpnnoldjpmcaa
/- THE CELL 'sum', in the pinned program and in every row, IS THE sha256 OF THE DUMP (.gsa) THAT YtggpnnoldjpmcaaProg.lean LOADS. Nothing in Lean hashes anything: it is a label: what it is worth is what the hold of that sum in a sandbox is worth. -/
noncomputable def Try.pinned : Pinned := { name := "ytggpnnoldjpmcaa", sum := "58e64ef77ef62c0b9f7b1563a96c6432544a851cb931724d3ab6c9f3d7e9d459", checked := Try.checked }
namespace Rows
def none {H : Type} : Left H := { results := [], args := [] }

/-- 'laws.FnExactQuerySame': WHATEVER THE INPUT: true; the input reads as it did. -/
def fnExactQuerySameSpec : ChangeSpec := { name := "fnExactQuerySame", fn := fun _ => fun
  | [d1, d2] => { results := [.lit (.bool true)], args := [d1, d2] }
  | _ => none }
def fnExactQuerySameRow : OpenClaim := { program := "ytggpnnoldjpmcaa", sum := "58e64ef77ef62c0b9f7b1563a96c6432544a851cb931724d3ab6c9f3d7e9d459", func := "loop.example/graphpatterns/laws.FnExactQuerySame", spec := "fnExactQuerySame", unfollowed := true, recurses := true, loops := true, plainKeys := false, apart := false }
def FnExactQuerySameSaid : Prop := fnExactQuerySameRow.holds Try.pinned (OpenSpec.ofChange fnExactQuerySameSpec)

/-- ITS FALSE NEIGHBOUR: 'it returns false'. Refute it at one input. -/
def fnExactQuerySameWrong : ChangeSpec := { name := "fnExactQuerySame", fn := fun _ => fun
  | [d1, d2] => { results := [.lit (.bool false)], args := [d1, d2] }
  | _ => none }
def FnExactQuerySameWrongFalsely : Prop := fnExactQuerySameRow.holds Try.pinned (OpenSpec.ofChange fnExactQuerySameWrong)

/-- 'laws.FnExactJoinBinds': WHATEVER THE INPUT: true; the input reads as it did. -/
def fnExactJoinBindsSpec : ChangeSpec := { name := "fnExactJoinBinds", fn := fun _ => fun
  | [d1, d2] => { results := [.lit (.bool true)], args := [d1, d2] }
  | _ => none }
def fnExactJoinBindsRow : OpenClaim := { program := "ytggpnnoldjpmcaa", sum := "58e64ef77ef62c0b9f7b1563a96c6432544a851cb931724d3ab6c9f3d7e9d459", func := "loop.example/graphpatterns/laws.FnExactJoinBinds", spec := "fnExactJoinBinds", inPlace := ["internal/bytealg.abigen_runtime_cmpstring"], unfollowed := true, recurses := true, plainKeys := false, apart := false }
def FnExactJoinBindsSaid : Prop := fnExactJoinBindsRow.holds Try.pinned (OpenSpec.ofChange fnExactJoinBindsSpec)

/-- ITS FALSE NEIGHBOUR: 'it returns false'. Refute it at one input. -/
def fnExactJoinBindsWrong : ChangeSpec := { name := "fnExactJoinBinds", fn := fun _ => fun
  | [d1, d2] => { results := [.lit (.bool false)], args := [d1, d2] }
  | _ => none }
def FnExactJoinBindsWrongFalsely : Prop := fnExactJoinBindsRow.holds Try.pinned (OpenSpec.ofChange fnExactJoinBindsWrong)

/-- 'laws.FnExactMatchSame': WHATEVER THE INPUT: true; the input reads as it did. -/
def fnExactMatchSameSpec : ChangeSpec := { name := "fnExactMatchSame", fn := fun _ => fun
  | [d1, d2] => { results := [.lit (.bool true)], args := [d1, d2] }
  | _ => none }
def fnExactMatchSameRow : OpenClaim := { program := "ytggpnnoldjpmcaa", sum := "58e64ef77ef62c0b9f7b1563a96c6432544a851cb931724d3ab6c9f3d7e9d459", func := "loop.example/graphpatterns/laws.FnExactMatchSame", spec := "fnExactMatchSame", unfollowed := true, recurses := true, plainKeys := false, apart := false }
def FnExactMatchSameSaid : Prop := fnExactMatchSameRow.holds Try.pinned (OpenSpec.ofChange fnExactMatchSameSpec)

/-- ITS FALSE NEIGHBOUR: 'it returns false'. Refute it at one input. -/
def fnExactMatchSameWrong : ChangeSpec := { name := "fnExactMatchSame", fn := fun _ => fun
  | [d1, d2] => { results := [.lit (.bool false)], args := [d1, d2] }
  | _ => none }
def FnExactMatchSameWrongFalsely : Prop := fnExactMatchSameRow.holds Try.pinned (OpenSpec.ofChange fnExactMatchSameWrong)

/-- 'laws.FnExactChooseMatches': WHATEVER THE INPUT: true; the input reads as it did. -/
def fnExactChooseMatchesSpec : ChangeSpec := { name := "fnExactChooseMatches", fn := fun _ => fun
  | [d1, d2] => { results := [.lit (.bool true)], args := [d1, d2] }
  | _ => none }
def fnExactChooseMatchesRow : OpenClaim := { program := "ytggpnnoldjpmcaa", sum := "58e64ef77ef62c0b9f7b1563a96c6432544a851cb931724d3ab6c9f3d7e9d459", func := "loop.example/graphpatterns/laws.FnExactChooseMatches", spec := "fnExactChooseMatches", unfollowed := true, recurses := true, plainKeys := false, apart := false }
def FnExactChooseMatchesSaid : Prop := fnExactChooseMatchesRow.holds Try.pinned (OpenSpec.ofChange fnExactChooseMatchesSpec)

/-- ITS FALSE NEIGHBOUR: 'it returns false'. Refute it at one input. -/
def fnExactChooseMatchesWrong : ChangeSpec := { name := "fnExactChooseMatches", fn := fun _ => fun
  | [d1, d2] => { results := [.lit (.bool false)], args := [d1, d2] }
  | _ => none }
def FnExactChooseMatchesWrongFalsely : Prop := fnExactChooseMatchesRow.holds Try.pinned (OpenSpec.ofChange fnExactChooseMatchesWrong)

/-- 'laws.FnExactShortestGroups': WHATEVER THE INPUT: true; the input reads as it did. -/
def fnExactShortestGroupsSpec : ChangeSpec := { name := "fnExactShortestGroups", fn := fun _ => fun
  | [d1, d2] => { results := [.lit (.bool true)], args := [d1, d2] }
  | _ => none }
def fnExactShortestGroupsRow : OpenClaim := { program := "ytggpnnoldjpmcaa", sum := "58e64ef77ef62c0b9f7b1563a96c6432544a851cb931724d3ab6c9f3d7e9d459", func := "loop.example/graphpatterns/laws.FnExactShortestGroups", spec := "fnExactShortestGroups", unfollowed := true, recurses := true, plainKeys := false, apart := false }
def FnExactShortestGroupsSaid : Prop := fnExactShortestGroupsRow.holds Try.pinned (OpenSpec.ofChange fnExactShortestGroupsSpec)

/-- ITS FALSE NEIGHBOUR: 'it returns false'. Refute it at one input. -/
def fnExactShortestGroupsWrong : ChangeSpec := { name := "fnExactShortestGroups", fn := fun _ => fun
  | [d1, d2] => { results := [.lit (.bool false)], args := [d1, d2] }
  | _ => none }
def FnExactShortestGroupsWrongFalsely : Prop := fnExactShortestGroupsRow.holds Try.pinned (OpenSpec.ofChange fnExactShortestGroupsWrong)

/-- 'laws.FnExactCountEnds': WHATEVER THE INPUT: true; the input reads as it did. -/
def fnExactCountEndsSpec : ChangeSpec := { name := "fnExactCountEnds", fn := fun _ => fun
  | [d] => { results := [.lit (.bool true)], args := [d] }
  | _ => none }
def fnExactCountEndsRow : OpenClaim := { program := "ytggpnnoldjpmcaa", sum := "58e64ef77ef62c0b9f7b1563a96c6432544a851cb931724d3ab6c9f3d7e9d459", func := "loop.example/graphpatterns/laws.FnExactCountEnds", spec := "fnExactCountEnds", unfollowed := true, recurses := true, plainKeys := false, apart := false }
def FnExactCountEndsSaid : Prop := fnExactCountEndsRow.holds Try.pinned (OpenSpec.ofChange fnExactCountEndsSpec)

/-- ITS FALSE NEIGHBOUR: 'it returns false'. Refute it at one input. -/
def fnExactCountEndsWrong : ChangeSpec := { name := "fnExactCountEnds", fn := fun _ => fun
  | [d] => { results := [.lit (.bool false)], args := [d] }
  | _ => none }
def FnExactCountEndsWrongFalsely : Prop := fnExactCountEndsRow.holds Try.pinned (OpenSpec.ofChange fnExactCountEndsWrong)

/- THE SECOND FORM. 'bulk': how many values and letters a reading holds, each counted each time it is reached (what is shared counts as often as it is met; a slice's spare places count too). A statement '..UptoSaid' is the law's where the arguments, and the package variables that the reading takes, are together of bulk at most 1048576: NARROWER than '..Said'. Prove '..Said' where nothing that the law and all that it calls make is longer than what came in: it says more and counts as full. Else prove '..UptoSaid'. A law counts once. -/
mutual
def uptoBulk {H : Type} : DataW H → Nat
  | .lit (.string bytes) => bytes.length + 1
  | .lit _ => 1
  | .nil => 1
  | .ptr d => uptoBulk d + 1
  | .slice elems spare => uptoBulkAll elems + uptoBulkAll spare + 1
  | .agg parts => uptoBulkAll parts + 1
  | .iface _ d => uptoBulk d + 1
  | .map entries => uptoBulkEntries entries + 1
  | .held _ => 1
def uptoBulkAll {H : Type} : List (DataW H) → Nat
  | [] => 0
  | d :: r => uptoBulk d + uptoBulkAll r
def uptoBulkEntries {H : Type} : List (Lit × DataW H) → Nat
  | [] => 0
  | x :: r => uptoBulkEntry x + uptoBulkEntries r
def uptoBulkEntry {H : Type} : Lit × DataW H → Nat
  | (.string bytes, d) => bytes.length + uptoBulk d + 1
  | (_, d) => uptoBulk d + 1
 end
def uptoSmall : (H : Type) → List (DataW H) → Bool := fun _ ds => decide (uptoBulkAll ds ≤ 1048576)
def OpenSpec.upto (s : _root_.Go.ChangeSpec) : _root_.Go.OpenSpec := { _root_.Go.OpenSpec.ofChange s with cond := some uptoSmall }

/-- 'laws.FnExactQuerySame', WHERE WHAT IT READS IS OF BULK AT MOST 1048576: true; the input reads as it did. -/
def fnExactQuerySameUptoRow : OpenClaim := { program := "ytggpnnoldjpmcaa", sum := "58e64ef77ef62c0b9f7b1563a96c6432544a851cb931724d3ab6c9f3d7e9d459", func := "loop.example/graphpatterns/laws.FnExactQuerySame", spec := "fnExactQuerySame", unfollowed := true, recurses := true, loops := true, plainKeys := false, apart := false, narrowed := true }
def FnExactQuerySameUptoSaid : Prop := fnExactQuerySameUptoRow.holds Try.pinned (OpenSpec.upto fnExactQuerySameSpec)

/-- 'laws.FnExactJoinBinds', WHERE WHAT IT READS IS OF BULK AT MOST 1048576: true; the input reads as it did. -/
def fnExactJoinBindsUptoRow : OpenClaim := { program := "ytggpnnoldjpmcaa", sum := "58e64ef77ef62c0b9f7b1563a96c6432544a851cb931724d3ab6c9f3d7e9d459", func := "loop.example/graphpatterns/laws.FnExactJoinBinds", spec := "fnExactJoinBinds", inPlace := ["internal/bytealg.abigen_runtime_cmpstring"], unfollowed := true, recurses := true, plainKeys := false, apart := false, narrowed := true }
def FnExactJoinBindsUptoSaid : Prop := fnExactJoinBindsUptoRow.holds Try.pinned (OpenSpec.upto fnExactJoinBindsSpec)

/-- 'laws.FnExactMatchSame', WHERE WHAT IT READS IS OF BULK AT MOST 1048576: true; the input reads as it did. -/
def fnExactMatchSameUptoRow : OpenClaim := { program := "ytggpnnoldjpmcaa", sum := "58e64ef77ef62c0b9f7b1563a96c6432544a851cb931724d3ab6c9f3d7e9d459", func := "loop.example/graphpatterns/laws.FnExactMatchSame", spec := "fnExactMatchSame", unfollowed := true, recurses := true, plainKeys := false, apart := false, narrowed := true }
def FnExactMatchSameUptoSaid : Prop := fnExactMatchSameUptoRow.holds Try.pinned (OpenSpec.upto fnExactMatchSameSpec)

/-- 'laws.FnExactChooseMatches', WHERE WHAT IT READS IS OF BULK AT MOST 1048576: true; the input reads as it did. -/
def fnExactChooseMatchesUptoRow : OpenClaim := { program := "ytggpnnoldjpmcaa", sum := "58e64ef77ef62c0b9f7b1563a96c6432544a851cb931724d3ab6c9f3d7e9d459", func := "loop.example/graphpatterns/laws.FnExactChooseMatches", spec := "fnExactChooseMatches", unfollowed := true, recurses := true, plainKeys := false, apart := false, narrowed := true }
def FnExactChooseMatchesUptoSaid : Prop := fnExactChooseMatchesUptoRow.holds Try.pinned (OpenSpec.upto fnExactChooseMatchesSpec)

/-- 'laws.FnExactShortestGroups', WHERE WHAT IT READS IS OF BULK AT MOST 1048576: true; the input reads as it did. -/
def fnExactShortestGroupsUptoRow : OpenClaim := { program := "ytggpnnoldjpmcaa", sum := "58e64ef77ef62c0b9f7b1563a96c6432544a851cb931724d3ab6c9f3d7e9d459", func := "loop.example/graphpatterns/laws.FnExactShortestGroups", spec := "fnExactShortestGroups", unfollowed := true, recurses := true, plainKeys := false, apart := false, narrowed := true }
def FnExactShortestGroupsUptoSaid : Prop := fnExactShortestGroupsUptoRow.holds Try.pinned (OpenSpec.upto fnExactShortestGroupsSpec)

/-- 'laws.FnExactCountEnds', WHERE WHAT IT READS IS OF BULK AT MOST 1048576: true; the input reads as it did. -/
def fnExactCountEndsUptoRow : OpenClaim := { program := "ytggpnnoldjpmcaa", sum := "58e64ef77ef62c0b9f7b1563a96c6432544a851cb931724d3ab6c9f3d7e9d459", func := "loop.example/graphpatterns/laws.FnExactCountEnds", spec := "fnExactCountEnds", unfollowed := true, recurses := true, plainKeys := false, apart := false, narrowed := true }
def FnExactCountEndsUptoSaid : Prop := fnExactCountEndsUptoRow.holds Try.pinned (OpenSpec.upto fnExactCountEndsSpec)

end Rows
end Go.Proofs.Ytggpnnoldjpmcaa
