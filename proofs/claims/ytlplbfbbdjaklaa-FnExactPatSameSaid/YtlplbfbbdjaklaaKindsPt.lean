/- Patterns among the kinds of data. -/
import Derived.Test.YtlplbfbbdjaklaaKindsP
import Derived.Test.YtlplbfbbdjaklaaPtTo
namespace Go.Proofs.Ytlplbfbbdjaklaa
open Go.RowKit

theorem Pt.goes (x : Pt) : Goes x.Has := fun _ _ _ _ _ h hc hd => h.chg hc hd
end Go.Proofs.Ytlplbfbbdjaklaa
