/- Contracts of the model's functions that ask whether a graph is valid. -/
import Derived.Test.YtfdkmngkpihpbaaGValid
namespace Go.Proofs.Ytfdkmngkpihpbaa
open Go.RowKit

def lbl (s : ByteArray) : Bool := decide (s.size = 0) || lv s
def nm (n : Int) : Bool := decide (0 ≤ n) && decide (n ≤ 99)
theorem pv_eq (s : ByteArray) (n : Int) : pv s n = (lbl s && nm n) := rfl

end Go.Proofs.Ytfdkmngkpihpbaa
