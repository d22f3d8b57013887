/- Two closed facts of the loaded program. -/
import Derived.Test.YtbbemeaojmfndaaDoorRows
import Derived.ProofKit
namespace Go.Proofs.YtbbemeaojmfndaaDoor
theorem Tryd.own : ownKnob Tryd.prog.godebug = none := by kernel_rfl
theorem Tryd.laidOut : laidOutB Tryd.prog = true := by kernel_rfl
end Go.Proofs.YtbbemeaojmfndaaDoor
