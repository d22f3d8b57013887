/- Contracts of the laws' equality on graphs, for equal data: it answers true. -/
import Derived.Test.YtggpnnoldjpmcaaGHelp
import Derived.StillTailTactics
namespace Go.Proofs.Ytggpnnoldjpmcaa
open Go.RowKit

end Go.Proofs.Ytggpnnoldjpmcaa
