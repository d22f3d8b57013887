/- Two closed facts of the loaded program. -/
import Derived.Test.YtekhjlmbhoegkaaDoorRows
import Derived.ProofKit
namespace Go.Proofs.YtekhjlmbhoegkaaDoor
theorem Tryd.own : ownKnob Tryd.prog.godebug = none := by kernel_rfl
theorem Tryd.laidOut : laidOutB Tryd.prog = true := by kernel_rfl
end Go.Proofs.YtekhjlmbhoegkaaDoor
