/- Contracts of the laws' equality on graphs, for equal data: it answers true. -/
import Derived.Test.YtbbemeaojmfndaaDoorGHelp
import Derived.StillTailTactics
namespace Go.Proofs.YtbbemeaojmfndaaDoor
open Go.RowKit

end Go.Proofs.YtbbemeaojmfndaaDoor
