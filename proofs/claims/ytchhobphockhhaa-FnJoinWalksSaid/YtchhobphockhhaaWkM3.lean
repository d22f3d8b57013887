/- WalkMode, on the model's side. -/
import Derived.Test.YtchhobphockhhaaWkM2
import Derived.WalkSmall
namespace Go.Proofs.Ytchhobphockhhaa
open Go.RowKit

end Go.Proofs.Ytchhobphockhhaa
