/- Two closed facts of the loaded program. -/
import Derived.Test.YtfdkmngkpihpbaaRows
import Derived.ProofKit
namespace Go.Proofs.Ytfdkmngkpihpbaa
theorem Try.own : ownKnob Try.prog.godebug = none := by kernel_rfl
theorem Try.laidOut : laidOutB Try.prog = true := by kernel_rfl
end Go.Proofs.Ytfdkmngkpihpbaa
