/- Two closed facts of the loaded program. -/
import Derived.Test.YtpojfgapldgigaaGreatDoorRows
import Derived.ProofKit
namespace Go.Proofs.YtpojfgapldgigaaGreatDoor
theorem Tryz.own : ownKnob Tryz.prog.godebug = none := by kernel_rfl
theorem Tryz.laidOut : laidOutB Tryz.prog = true := by kernel_rfl
end Go.Proofs.YtpojfgapldgigaaGreatDoor
