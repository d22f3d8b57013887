/-
  NARROWER THAN 'FOR EVERY INPUT', by the rows' own cells (each row's printed sentence says how): FnExactExprSame: loops · FnExactAtomsOf: loops · FnExactElemSame: loops · FnExactPatSame: loops.
  DERIVED. THE GIVEN ROWS OF THIS SEAT. 4 by the template 'for every input the law returns true; each argument reads behind the call as it read before'; 0 by the template 'total and deterministic' (their statements: YtlplbfbbdjaklaaTotals.lean).
  GIVEN WITH THE SEED: the statements are not yours to turn. If you find one false, say at which input.
  Laid BY PROGRAM, IN A SANDBOX (cutbox-rows.mjs): the forced cells as the released guide's own fill.sh prints them over the translation 28883e53bb7a7502… (all of the seat's roots in one cut). By AI agents, Wed Nov 11 2026. No macro, syntax, notation, axiom, sorry.
-/
import Derived.Test.YtlplbfbbdjaklaaChecked
import GoSem.Claim
import GoSem.ClaimJoined
import GoSem.ClaimMapViews
import Derived.JoinedTies
import Derived.KernelRfl
namespace Go.Proofs.Ytlplbfbbdjaklaa
/- THE CELL 'sum', in the pinned program and in every row, IS THE sha256 OF THE DUMP (.gsa) THAT YtlplbfbbdjaklaaProg.lean LOADS. Nothing in Lean hashes anything: it is a label: what it is worth is what the hold of that sum in a sandbox is worth. -/
noncomputable def Try.pinned : Pinned := { name := "ytlplbfbbdjaklaa", sum := "28883e53bb7a750242390cc06df9f25824b4ee9c033727a49554f50e1a591d85", checked := Try.checked }
namespace Rows
def none {H : Type} : Left H := { results := [], args := [] }

/-- 'laws.FnExactExprSame': WHATEVER THE INPUT: true; the input reads as it did. -/
def fnExactExprSameSpec : ChangeSpec := { name := "fnExactExprSame", fn := fun _ => fun
  | [d1, d2] => { results := [.lit (.bool true)], args := [d1, d2] }
  | _ => none }
def fnExactExprSameRow : OpenClaim := { program := "ytlplbfbbdjaklaa", sum := "28883e53bb7a750242390cc06df9f25824b4ee9c033727a49554f50e1a591d85", func := "loop.example/graphpatterns/laws.FnExactExprSame", spec := "fnExactExprSame", unfollowed := true, recurses := true, loops := true, plainKeys := false, apart := false }
def FnExactExprSameSaid : Prop := fnExactExprSameRow.holds Try.pinned (OpenSpec.ofChange fnExactExprSameSpec)

/-- ITS FALSE NEIGHBOUR: 'it returns false'. Refute it at one input. -/
def fnExactExprSameWrong : ChangeSpec := { name := "fnExactExprSame", fn := fun _ => fun
  | [d1, d2] => { results := [.lit (.bool false)], args := [d1, d2] }
  | _ => none }
def FnExactExprSameWrongFalsely : Prop := fnExactExprSameRow.holds Try.pinned (OpenSpec.ofChange fnExactExprSameWrong)

/-- 'laws.FnExactAtomsOf': WHATEVER THE INPUT: true; the input reads as it did. -/
def fnExactAtomsOfSpec : ChangeSpec := { name := "fnExactAtomsOf", fn := fun _ => fun
  | [d] => { results := [.lit (.bool true)], args := [d] }
  | _ => none }
def fnExactAtomsOfRow : OpenClaim := { program := "ytlplbfbbdjaklaa", sum := "28883e53bb7a750242390cc06df9f25824b4ee9c033727a49554f50e1a591d85", func := "loop.example/graphpatterns/laws.FnExactAtomsOf", spec := "fnExactAtomsOf", recurses := true, loops := true, plainKeys := false, apart := false }
def FnExactAtomsOfSaid : Prop := fnExactAtomsOfRow.holds Try.pinned (OpenSpec.ofChange fnExactAtomsOfSpec)

/-- ITS FALSE NEIGHBOUR: 'it returns false'. Refute it at one input. -/
def fnExactAtomsOfWrong : ChangeSpec := { name := "fnExactAtomsOf", fn := fun _ => fun
  | [d] => { results := [.lit (.bool false)], args := [d] }
  | _ => none }
def FnExactAtomsOfWrongFalsely : Prop := fnExactAtomsOfRow.holds Try.pinned (OpenSpec.ofChange fnExactAtomsOfWrong)

/-- 'laws.FnExactElemSame': WHATEVER THE INPUT: true; the input reads as it did. -/
def fnExactElemSameSpec : ChangeSpec := { name := "fnExactElemSame", fn := fun _ => fun
  | [d1, d2] => { results := [.lit (.bool true)], args := [d1, d2] }
  | _ => none }
def fnExactElemSameRow : OpenClaim := { program := "ytlplbfbbdjaklaa", sum := "28883e53bb7a750242390cc06df9f25824b4ee9c033727a49554f50e1a591d85", func := "loop.example/graphpatterns/laws.FnExactElemSame", spec := "fnExactElemSame", unfollowed := true, recurses := true, loops := true, plainKeys := false, apart := false }
def FnExactElemSameSaid : Prop := fnExactElemSameRow.holds Try.pinned (OpenSpec.ofChange fnExactElemSameSpec)

/-- ITS FALSE NEIGHBOUR: 'it returns false'. Refute it at one input. -/
def fnExactElemSameWrong : ChangeSpec := { name := "fnExactElemSame", fn := fun _ => fun
  | [d1, d2] => { results := [.lit (.bool false)], args := [d1, d2] }
  | _ => none }
def FnExactElemSameWrongFalsely : Prop := fnExactElemSameRow.holds Try.pinned (OpenSpec.ofChange fnExactElemSameWrong)

/-- 'laws.FnExactPatSame': WHATEVER THE INPUT: true; the input reads as it did. -/
def fnExactPatSameSpec : ChangeSpec := { name := "fnExactPatSame", fn := fun _ => fun
  | [d1, d2] => { results := [.lit (.bool true)], args := [d1, d2] }
  | _ => none }
def fnExactPatSameRow : OpenClaim := { program := "ytlplbfbbdjaklaa", sum := "28883e53bb7a750242390cc06df9f25824b4ee9c033727a49554f50e1a591d85", func := "loop.example/graphpatterns/laws.FnExactPatSame", spec := "fnExactPatSame", unfollowed := true, recurses := true, loops := true, plainKeys := false, apart := false }
def FnExactPatSameSaid : Prop := fnExactPatSameRow.holds Try.pinned (OpenSpec.ofChange fnExactPatSameSpec)

/-- ITS FALSE NEIGHBOUR: 'it returns false'. Refute it at one input. -/
def fnExactPatSameWrong : ChangeSpec := { name := "fnExactPatSame", fn := fun _ => fun
  | [d1, d2] => { results := [.lit (.bool false)], args := [d1, d2] }
  | _ => none }
def FnExactPatSameWrongFalsely : Prop := fnExactPatSameRow.holds Try.pinned (OpenSpec.ofChange fnExactPatSameWrong)

/- THE SECOND FORM. 'bulk': how many values and letters a reading holds, each counted each time it is reached (what is shared counts as often as it is met; a slice's spare places count too). A statement '..UptoSaid' is the law's where the arguments, and the package variables that the reading takes, are together of bulk at most 1048576: NARROWER than '..Said'. Prove '..Said' where nothing that the law and all that it calls make is longer than what came in: it says more and counts as full. Else prove '..UptoSaid'. A law counts once. -/
mutual
def uptoBulk {H : Type} : DataW H → Nat
  | .lit (.string bytes) => bytes.length + 1
  | .lit _ => 1
  | .nil => 1
  | .ptr d => uptoBulk d + 1
  | .slice elems spare => uptoBulkAll elems + uptoBulkAll spare + 1
  | .agg parts => uptoBulkAll parts + 1
  | .iface _ d => uptoBulk d + 1
  | .map entries => uptoBulkEntries entries + 1
  | .held _ => 1
def uptoBulkAll {H : Type} : List (DataW H) → Nat
  | [] => 0
  | d :: r => uptoBulk d + uptoBulkAll r
def uptoBulkEntries {H : Type} : List (Lit × DataW H) → Nat
  | [] => 0
  | x :: r => uptoBulkEntry x + uptoBulkEntries r
def uptoBulkEntry {H : Type} : Lit × DataW H → Nat
  | (.string bytes, d) => bytes.length + uptoBulk d + 1
  | (_, d) => uptoBulk d + 1
 end
def uptoSmall : (H : Type) → List (DataW H) → Bool := fun _ ds => decide (uptoBulkAll ds ≤ 1048576)
def OpenSpec.upto (s : _root_.Go.ChangeSpec) : _root_.Go.OpenSpec := { _root_.Go.OpenSpec.ofChange s with cond := some uptoSmall }

/-- 'laws.FnExactExprSame', WHERE WHAT IT READS IS OF BULK AT MOST 1048576: true; the input reads as it did. -/
def fnExactExprSameUptoRow : OpenClaim := { program := "ytlplbfbbdjaklaa", sum := "28883e53bb7a750242390cc06df9f25824b4ee9c033727a49554f50e1a591d85", func := "loop.example/graphpatterns/laws.FnExactExprSame", spec := "fnExactExprSame", unfollowed := true, recurses := true, loops := true, plainKeys := false, apart := false, narrowed := true }
def FnExactExprSameUptoSaid : Prop := fnExactExprSameUptoRow.holds Try.pinned (OpenSpec.upto fnExactExprSameSpec)

/-- 'laws.FnExactAtomsOf', WHERE WHAT IT READS IS OF BULK AT MOST 1048576: true; the input reads as it did. -/
def fnExactAtomsOfUptoRow : OpenClaim := { program := "ytlplbfbbdjaklaa", sum := "28883e53bb7a750242390cc06df9f25824b4ee9c033727a49554f50e1a591d85", func := "loop.example/graphpatterns/laws.FnExactAtomsOf", spec := "fnExactAtomsOf", recurses := true, loops := true, plainKeys := false, apart := false, narrowed := true }
def FnExactAtomsOfUptoSaid : Prop := fnExactAtomsOfUptoRow.holds Try.pinned (OpenSpec.upto fnExactAtomsOfSpec)

/-- 'laws.FnExactElemSame', WHERE WHAT IT READS IS OF BULK AT MOST 1048576: true; the input reads as it did. -/
def fnExactElemSameUptoRow : OpenClaim := { program := "ytlplbfbbdjaklaa", sum := "28883e53bb7a750242390cc06df9f25824b4ee9c033727a49554f50e1a591d85", func := "loop.example/graphpatterns/laws.FnExactElemSame", spec := "fnExactElemSame", unfollowed := true, recurses := true, loops := true, plainKeys := false, apart := false, narrowed := true }
def FnExactElemSameUptoSaid : Prop := fnExactElemSameUptoRow.holds Try.pinned (OpenSpec.upto fnExactElemSameSpec)

/-- 'laws.FnExactPatSame', WHERE WHAT IT READS IS OF BULK AT MOST 1048576: true; the input reads as it did. -/
def fnExactPatSameUptoRow : OpenClaim := { program := "ytlplbfbbdjaklaa", sum := "28883e53bb7a750242390cc06df9f25824b4ee9c033727a49554f50e1a591d85", func := "loop.example/graphpatterns/laws.FnExactPatSame", spec := "fnExactPatSame", unfollowed := true, recurses := true, loops := true, plainKeys := false, apart := false, narrowed := true }
def FnExactPatSameUptoSaid : Prop := fnExactPatSameUptoRow.holds Try.pinned (OpenSpec.upto fnExactPatSameSpec)

end Rows
end Go.Proofs.Ytlplbfbbdjaklaa
