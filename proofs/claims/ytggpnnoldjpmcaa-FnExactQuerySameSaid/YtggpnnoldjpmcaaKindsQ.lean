/- Queries among the kinds of data. -/
import Derived.Test.YtggpnnoldjpmcaaKindsPt
import Derived.Test.YtggpnnoldjpmcaaQy
namespace Go.Proofs.Ytggpnnoldjpmcaa
open Go.RowKit

theorem Qy.goes (x : Qy) : Goes x.Has := fun _ _ _ _ _ h hc hd => h.chg hc hd
end Go.Proofs.Ytggpnnoldjpmcaa
