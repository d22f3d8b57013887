/- Contracts of the laws' equality on graphs, for equal data: it answers true. -/
import Derived.Test.YtnncifemfhmkfaaDoorGHelp
import Derived.StillTailTactics
namespace Go.Proofs.YtnncifemfhmkfaaDoor
open Go.RowKit

end Go.Proofs.YtnncifemfhmkfaaDoor
