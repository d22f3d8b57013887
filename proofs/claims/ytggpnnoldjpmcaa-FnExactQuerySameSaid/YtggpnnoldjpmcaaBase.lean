/- Two closed facts of the loaded program. -/
import Derived.Test.YtggpnnoldjpmcaaRows
import Derived.ProofKit
namespace Go.Proofs.Ytggpnnoldjpmcaa
theorem Try.own : ownKnob Try.prog.godebug = none := by kernel_rfl
theorem Try.laidOut : laidOutB Try.prog = true := by kernel_rfl
end Go.Proofs.Ytggpnnoldjpmcaa
