/-
  NARROWER THAN 'FOR EVERY INPUT', by the rows' own cells (each row's printed sentence says how): FnExactAtomsOf: loops.
  DERIVED. THE GIVEN ROWS OF THIS SEAT. 8 by the template 'for every input the law returns true; each argument reads behind the call as it read before'; 0 by the template 'total and deterministic' (their statements: YtajjidkondchkaaTotals.lean).
  GIVEN WITH THE SEED: the statements are not yours to turn. If you find one false, say at which input.
  Laid BY PROGRAM, IN A SANDBOX (cutbox-rows.mjs): the forced cells as the released guide's own fill.sh prints them over the translation e150fae7043363df… (all of the seat's roots in one cut). By AI agents, Wed Nov 11 2026. No macro, syntax, notation, axiom, sorry.
-/
import Derived.Test.YtajjidkondchkaaChecked
import GoSem.Claim
import GoSem.ClaimJoined
import GoSem.ClaimMapViews
import Derived.JoinedTies
import Derived.KernelRfl
namespace Go.Proofs.Ytajjidkondchkaa
/- THE CELL 'sum', in the pinned program and in every row, IS THE sha256 OF THE DUMP (.gsa) THAT YtajjidkondchkaaProg.lean LOADS. Nothing in Lean hashes anything: it is a label: what it is worth is what the hold of that sum in a sandbox is worth. -/
noncomputable def Try.pinned : Pinned := { name := "ytajjidkondchkaa", sum := "e150fae7043363dfe4782263df585941cc182e86fca73cabd3f71adcee6a1404", checked := Try.checked }
namespace Rows
def none {H : Type} : Left H := { results := [], args := [] }

/-- 'laws.FnExactWalkValid': WHATEVER THE INPUT: true; the input reads as it did. -/
def fnExactWalkValidSpec : ChangeSpec := { name := "fnExactWalkValid", fn := fun _ => fun
  | [d1, d2] => { results := [.lit (.bool true)], args := [d1, d2] }
  | _ => none }
def fnExactWalkValidRow : OpenClaim := { program := "ytajjidkondchkaa", sum := "e150fae7043363dfe4782263df585941cc182e86fca73cabd3f71adcee6a1404", func := "loop.example/graphpatterns/laws.FnExactWalkValid", spec := "fnExactWalkValid", apart := false }
def FnExactWalkValidSaid : Prop := fnExactWalkValidRow.holds Try.pinned (OpenSpec.ofChange fnExactWalkValidSpec)

/-- ITS FALSE NEIGHBOUR: 'it returns false'. Refute it at one input. -/
def fnExactWalkValidWrong : ChangeSpec := { name := "fnExactWalkValid", fn := fun _ => fun
  | [d1, d2] => { results := [.lit (.bool false)], args := [d1, d2] }
  | _ => none }
def FnExactWalkValidWrongFalsely : Prop := fnExactWalkValidRow.holds Try.pinned (OpenSpec.ofChange fnExactWalkValidWrong)

/-- 'laws.FnExactWalkSame': WHATEVER THE INPUT: true; the input reads as it did. -/
def fnExactWalkSameSpec : ChangeSpec := { name := "fnExactWalkSame", fn := fun _ => fun
  | [d1, d2] => { results := [.lit (.bool true)], args := [d1, d2] }
  | _ => none }
def fnExactWalkSameRow : OpenClaim := { program := "ytajjidkondchkaa", sum := "e150fae7043363dfe4782263df585941cc182e86fca73cabd3f71adcee6a1404", func := "loop.example/graphpatterns/laws.FnExactWalkSame", spec := "fnExactWalkSame", apart := false }
def FnExactWalkSameSaid : Prop := fnExactWalkSameRow.holds Try.pinned (OpenSpec.ofChange fnExactWalkSameSpec)

/-- ITS FALSE NEIGHBOUR: 'it returns false'. Refute it at one input. -/
def fnExactWalkSameWrong : ChangeSpec := { name := "fnExactWalkSame", fn := fun _ => fun
  | [d1, d2] => { results := [.lit (.bool false)], args := [d1, d2] }
  | _ => none }
def FnExactWalkSameWrongFalsely : Prop := fnExactWalkSameRow.holds Try.pinned (OpenSpec.ofChange fnExactWalkSameWrong)

/-- 'laws.FnExactJoinWalks': WHATEVER THE INPUT: true; the input reads as it did. -/
def fnExactJoinWalksSpec : ChangeSpec := { name := "fnExactJoinWalks", fn := fun _ => fun
  | [d1, d2] => { results := [.lit (.bool true)], args := [d1, d2] }
  | _ => none }
def fnExactJoinWalksRow : OpenClaim := { program := "ytajjidkondchkaa", sum := "e150fae7043363dfe4782263df585941cc182e86fca73cabd3f71adcee6a1404", func := "loop.example/graphpatterns/laws.FnExactJoinWalks", spec := "fnExactJoinWalks", apart := false }
def FnExactJoinWalksSaid : Prop := fnExactJoinWalksRow.holds Try.pinned (OpenSpec.ofChange fnExactJoinWalksSpec)

/-- ITS FALSE NEIGHBOUR: 'it returns false'. Refute it at one input. -/
def fnExactJoinWalksWrong : ChangeSpec := { name := "fnExactJoinWalks", fn := fun _ => fun
  | [d1, d2] => { results := [.lit (.bool false)], args := [d1, d2] }
  | _ => none }
def FnExactJoinWalksWrongFalsely : Prop := fnExactJoinWalksRow.holds Try.pinned (OpenSpec.ofChange fnExactJoinWalksWrong)

/-- 'laws.FnExactTurnWalk': WHATEVER THE INPUT: true; the input reads as it did. -/
def fnExactTurnWalkSpec : ChangeSpec := { name := "fnExactTurnWalk", fn := fun _ => fun
  | [d] => { results := [.lit (.bool true)], args := [d] }
  | _ => none }
def fnExactTurnWalkRow : OpenClaim := { program := "ytajjidkondchkaa", sum := "e150fae7043363dfe4782263df585941cc182e86fca73cabd3f71adcee6a1404", func := "loop.example/graphpatterns/laws.FnExactTurnWalk", spec := "fnExactTurnWalk", apart := false }
def FnExactTurnWalkSaid : Prop := fnExactTurnWalkRow.holds Try.pinned (OpenSpec.ofChange fnExactTurnWalkSpec)

/-- ITS FALSE NEIGHBOUR: 'it returns false'. Refute it at one input. -/
def fnExactTurnWalkWrong : ChangeSpec := { name := "fnExactTurnWalk", fn := fun _ => fun
  | [d] => { results := [.lit (.bool false)], args := [d] }
  | _ => none }
def FnExactTurnWalkWrongFalsely : Prop := fnExactTurnWalkRow.holds Try.pinned (OpenSpec.ofChange fnExactTurnWalkWrong)

/-- 'laws.FnExactWalkMode': WHATEVER THE INPUT: true; the input reads as it did. -/
def fnExactWalkModeSpec : ChangeSpec := { name := "fnExactWalkMode", fn := fun _ => fun
  | [d1, d2] => { results := [.lit (.bool true)], args := [d1, d2] }
  | _ => none }
def fnExactWalkModeRow : OpenClaim := { program := "ytajjidkondchkaa", sum := "e150fae7043363dfe4782263df585941cc182e86fca73cabd3f71adcee6a1404", func := "loop.example/graphpatterns/laws.FnExactWalkMode", spec := "fnExactWalkMode", apart := false }
def FnExactWalkModeSaid : Prop := fnExactWalkModeRow.holds Try.pinned (OpenSpec.ofChange fnExactWalkModeSpec)

/-- ITS FALSE NEIGHBOUR: 'it returns false'. Refute it at one input. -/
def fnExactWalkModeWrong : ChangeSpec := { name := "fnExactWalkMode", fn := fun _ => fun
  | [d1, d2] => { results := [.lit (.bool false)], args := [d1, d2] }
  | _ => none }
def FnExactWalkModeWrongFalsely : Prop := fnExactWalkModeRow.holds Try.pinned (OpenSpec.ofChange fnExactWalkModeWrong)

/-- 'laws.FnExactWalkBefore': WHATEVER THE INPUT: true; the input reads as it did. -/
def fnExactWalkBeforeSpec : ChangeSpec := { name := "fnExactWalkBefore", fn := fun _ => fun
  | [d1, d2] => { results := [.lit (.bool true)], args := [d1, d2] }
  | _ => none }
def fnExactWalkBeforeRow : OpenClaim := { program := "ytajjidkondchkaa", sum := "e150fae7043363dfe4782263df585941cc182e86fca73cabd3f71adcee6a1404", func := "loop.example/graphpatterns/laws.FnExactWalkBefore", spec := "fnExactWalkBefore", apart := false }
def FnExactWalkBeforeSaid : Prop := fnExactWalkBeforeRow.holds Try.pinned (OpenSpec.ofChange fnExactWalkBeforeSpec)

/-- ITS FALSE NEIGHBOUR: 'it returns false'. Refute it at one input. -/
def fnExactWalkBeforeWrong : ChangeSpec := { name := "fnExactWalkBefore", fn := fun _ => fun
  | [d1, d2] => { results := [.lit (.bool false)], args := [d1, d2] }
  | _ => none }
def FnExactWalkBeforeWrongFalsely : Prop := fnExactWalkBeforeRow.holds Try.pinned (OpenSpec.ofChange fnExactWalkBeforeWrong)

/-- 'laws.FnExactAtomsOf': WHATEVER THE INPUT: true; the input reads as it did. -/
def fnExactAtomsOfSpec : ChangeSpec := { name := "fnExactAtomsOf", fn := fun _ => fun
  | [d] => { results := [.lit (.bool true)], args := [d] }
  | _ => none }
def fnExactAtomsOfRow : OpenClaim := { program := "ytajjidkondchkaa", sum := "e150fae7043363dfe4782263df585941cc182e86fca73cabd3f71adcee6a1404", func := "loop.example/graphpatterns/laws.FnExactAtomsOf", spec := "fnExactAtomsOf", recurses := true, loops := true, apart := false }
def FnExactAtomsOfSaid : Prop := fnExactAtomsOfRow.holds Try.pinned (OpenSpec.ofChange fnExactAtomsOfSpec)

/-- ITS FALSE NEIGHBOUR: 'it returns false'. Refute it at one input. -/
def fnExactAtomsOfWrong : ChangeSpec := { name := "fnExactAtomsOf", fn := fun _ => fun
  | [d] => { results := [.lit (.bool false)], args := [d] }
  | _ => none }
def FnExactAtomsOfWrongFalsely : Prop := fnExactAtomsOfRow.holds Try.pinned (OpenSpec.ofChange fnExactAtomsOfWrong)

/-- 'laws.FnAddOrder': WHATEVER THE INPUT: true; the input reads as it did. -/
def fnAddOrderSpec : ChangeSpec := { name := "fnAddOrder", fn := fun _ => fun
  | [d] => { results := [.lit (.bool true)], args := [d] }
  | _ => none }
def fnAddOrderRow : OpenClaim := { program := "ytajjidkondchkaa", sum := "e150fae7043363dfe4782263df585941cc182e86fca73cabd3f71adcee6a1404", func := "loop.example/graphpatterns/laws.FnAddOrder", spec := "fnAddOrder", apart := false }
def FnAddOrderSaid : Prop := fnAddOrderRow.holds Try.pinned (OpenSpec.ofChange fnAddOrderSpec)

/-- ITS FALSE NEIGHBOUR: 'it returns false'. Refute it at one input. -/
def fnAddOrderWrong : ChangeSpec := { name := "fnAddOrder", fn := fun _ => fun
  | [d] => { results := [.lit (.bool false)], args := [d] }
  | _ => none }
def FnAddOrderWrongFalsely : Prop := fnAddOrderRow.holds Try.pinned (OpenSpec.ofChange fnAddOrderWrong)

/- THE SECOND FORM. 'bulk': how many values and letters a reading holds, each counted each time it is reached (what is shared counts as often as it is met; a slice's spare places count too). A statement '..UptoSaid' is the law's where the arguments, and the package variables that the reading takes, are together of bulk at most 1048576: NARROWER than '..Said'. Prove '..Said' where nothing that the law and all that it calls make is longer than what came in: it says more and counts as full. Else prove '..UptoSaid'. A law counts once. -/
mutual
def uptoBulk {H : Type} : DataW H → Nat
  | .lit (.string bytes) => bytes.length + 1
  | .lit _ => 1
  | .nil => 1
  | .ptr d => uptoBulk d + 1
  | .slice elems spare => uptoBulkAll elems + uptoBulkAll spare + 1
  | .agg parts => uptoBulkAll parts + 1
  | .iface _ d => uptoBulk d + 1
  | .map entries => uptoBulkEntries entries + 1
  | .held _ => 1
def uptoBulkAll {H : Type} : List (DataW H) → Nat
  | [] => 0
  | d :: r => uptoBulk d + uptoBulkAll r
def uptoBulkEntries {H : Type} : List (Lit × DataW H) → Nat
  | [] => 0
  | x :: r => uptoBulkEntry x + uptoBulkEntries r
def uptoBulkEntry {H : Type} : Lit × DataW H → Nat
  | (.string bytes, d) => bytes.length + uptoBulk d + 1
  | (_, d) => uptoBulk d + 1
 end
def uptoSmall : (H : Type) → List (DataW H) → Bool := fun _ ds => decide (uptoBulkAll ds ≤ 1048576)
def OpenSpec.upto (s : _root_.Go.ChangeSpec) : _root_.Go.OpenSpec := { _root_.Go.OpenSpec.ofChange s with cond := some uptoSmall }

/-- 'laws.FnExactWalkValid', WHERE WHAT IT READS IS OF BULK AT MOST 1048576: true; the input reads as it did. -/
def fnExactWalkValidUptoRow : OpenClaim := { program := "ytajjidkondchkaa", sum := "e150fae7043363dfe4782263df585941cc182e86fca73cabd3f71adcee6a1404", func := "loop.example/graphpatterns/laws.FnExactWalkValid", spec := "fnExactWalkValid", apart := false, narrowed := true }
def FnExactWalkValidUptoSaid : Prop := fnExactWalkValidUptoRow.holds Try.pinned (OpenSpec.upto fnExactWalkValidSpec)

/-- 'laws.FnExactWalkSame', WHERE WHAT IT READS IS OF BULK AT MOST 1048576: true; the input reads as it did. -/
def fnExactWalkSameUptoRow : OpenClaim := { program := "ytajjidkondchkaa", sum := "e150fae7043363dfe4782263df585941cc182e86fca73cabd3f71adcee6a1404", func := "loop.example/graphpatterns/laws.FnExactWalkSame", spec := "fnExactWalkSame", apart := false, narrowed := true }
def FnExactWalkSameUptoSaid : Prop := fnExactWalkSameUptoRow.holds Try.pinned (OpenSpec.upto fnExactWalkSameSpec)

/-- 'laws.FnExactJoinWalks', WHERE WHAT IT READS IS OF BULK AT MOST 1048576: true; the input reads as it did. -/
def fnExactJoinWalksUptoRow : OpenClaim := { program := "ytajjidkondchkaa", sum := "e150fae7043363dfe4782263df585941cc182e86fca73cabd3f71adcee6a1404", func := "loop.example/graphpatterns/laws.FnExactJoinWalks", spec := "fnExactJoinWalks", apart := false, narrowed := true }
def FnExactJoinWalksUptoSaid : Prop := fnExactJoinWalksUptoRow.holds Try.pinned (OpenSpec.upto fnExactJoinWalksSpec)

/-- 'laws.FnExactTurnWalk', WHERE WHAT IT READS IS OF BULK AT MOST 1048576: true; the input reads as it did. -/
def fnExactTurnWalkUptoRow : OpenClaim := { program := "ytajjidkondchkaa", sum := "e150fae7043363dfe4782263df585941cc182e86fca73cabd3f71adcee6a1404", func := "loop.example/graphpatterns/laws.FnExactTurnWalk", spec := "fnExactTurnWalk", apart := false, narrowed := true }
def FnExactTurnWalkUptoSaid : Prop := fnExactTurnWalkUptoRow.holds Try.pinned (OpenSpec.upto fnExactTurnWalkSpec)

/-- 'laws.FnExactWalkMode', WHERE WHAT IT READS IS OF BULK AT MOST 1048576: true; the input reads as it did. -/
def fnExactWalkModeUptoRow : OpenClaim := { program := "ytajjidkondchkaa", sum := "e150fae7043363dfe4782263df585941cc182e86fca73cabd3f71adcee6a1404", func := "loop.example/graphpatterns/laws.FnExactWalkMode", spec := "fnExactWalkMode", apart := false, narrowed := true }
def FnExactWalkModeUptoSaid : Prop := fnExactWalkModeUptoRow.holds Try.pinned (OpenSpec.upto fnExactWalkModeSpec)

/-- 'laws.FnExactWalkBefore', WHERE WHAT IT READS IS OF BULK AT MOST 1048576: true; the input reads as it did. -/
def fnExactWalkBeforeUptoRow : OpenClaim := { program := "ytajjidkondchkaa", sum := "e150fae7043363dfe4782263df585941cc182e86fca73cabd3f71adcee6a1404", func := "loop.example/graphpatterns/laws.FnExactWalkBefore", spec := "fnExactWalkBefore", apart := false, narrowed := true }
def FnExactWalkBeforeUptoSaid : Prop := fnExactWalkBeforeUptoRow.holds Try.pinned (OpenSpec.upto fnExactWalkBeforeSpec)

/-- 'laws.FnExactAtomsOf', WHERE WHAT IT READS IS OF BULK AT MOST 1048576: true; the input reads as it did. -/
def fnExactAtomsOfUptoRow : OpenClaim := { program := "ytajjidkondchkaa", sum := "e150fae7043363dfe4782263df585941cc182e86fca73cabd3f71adcee6a1404", func := "loop.example/graphpatterns/laws.FnExactAtomsOf", spec := "fnExactAtomsOf", recurses := true, loops := true, apart := false, narrowed := true }
def FnExactAtomsOfUptoSaid : Prop := fnExactAtomsOfUptoRow.holds Try.pinned (OpenSpec.upto fnExactAtomsOfSpec)

/-- 'laws.FnAddOrder', WHERE WHAT IT READS IS OF BULK AT MOST 1048576: true; the input reads as it did. -/
def fnAddOrderUptoRow : OpenClaim := { program := "ytajjidkondchkaa", sum := "e150fae7043363dfe4782263df585941cc182e86fca73cabd3f71adcee6a1404", func := "loop.example/graphpatterns/laws.FnAddOrder", spec := "fnAddOrder", apart := false, narrowed := true }
def FnAddOrderUptoSaid : Prop := fnAddOrderUptoRow.holds Try.pinned (OpenSpec.upto fnAddOrderSpec)

end Rows
end Go.Proofs.Ytajjidkondchkaa
