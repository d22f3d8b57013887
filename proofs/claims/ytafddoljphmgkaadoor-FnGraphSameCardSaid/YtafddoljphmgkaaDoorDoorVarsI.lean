/- What the listed package-level variables give a walk. -/
import Derived.Test.YtafddoljphmgkaaDoorItoa
import Derived.Test.YtafddoljphmgkaaDoorBase
import Derived.ProofKit
import Derived.LaidMore
import Derived.LaidHandle
import Derived.MakeChecks
import Derived.Stop.LaidErr
import Derived.Stop.Joined
import Derived.Lib.LaidTab
namespace Go.Proofs.YtafddoljphmgkaaDoor
open Go.RowKit

theorem tPTi : (Tryd.prog.globals[0]?).map (·.type) = some 76 := by kernel_rfl
end Go.Proofs.YtafddoljphmgkaaDoor
