/- spec.FormatExpr. -/
import Derived.Test.YtkehmecnoeghoaaDoorM4p1
import Derived.Deep.RegionHeld3
namespace Go.Proofs.YtkehmecnoeghoaaDoor
open Go.RowKit

end Go.Proofs.YtkehmecnoeghoaaDoor
