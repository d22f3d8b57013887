/- Contracts of the laws' equality on graphs, for equal data: it answers true. -/
import Derived.Test.YtbkndmjdjgccbaaDoorGHelp
import Derived.StillTailTactics
namespace Go.Proofs.YtbkndmjdjgccbaaDoor
open Go.RowKit

end Go.Proofs.YtbkndmjdjgccbaaDoor
