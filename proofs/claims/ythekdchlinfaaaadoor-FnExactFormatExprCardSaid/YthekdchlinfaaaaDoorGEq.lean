/- Contracts of the laws' equality on graphs, for equal data: it answers true. -/
import Derived.Test.YthekdchlinfaaaaDoorGHelp
import Derived.StillTailTactics
namespace Go.Proofs.YthekdchlinfaaaaDoor
open Go.RowKit

end Go.Proofs.YthekdchlinfaaaaDoor
