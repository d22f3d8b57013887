/- Patterns among the kinds of data. -/
import Derived.Test.YtggpnnoldjpmcaaKindsP
import Derived.Test.YtggpnnoldjpmcaaPtTo
namespace Go.Proofs.Ytggpnnoldjpmcaa
open Go.RowKit

theorem Pt.goes (x : Pt) : Goes x.Has := fun _ _ _ _ _ h hc hd => h.chg hc hd
end Go.Proofs.Ytggpnnoldjpmcaa
