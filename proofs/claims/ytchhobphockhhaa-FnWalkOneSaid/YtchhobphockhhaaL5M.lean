/- DrawWalkMode, DrawWalkValid. -/
import Derived.Test.YtchhobphockhhaaL5K
import Derived.Test.YtchhobphockhhaaReg
namespace Go.Proofs.Ytchhobphockhhaa
open Go.RowKit

def CaseWM (w : World) (e : Ending) (w' : World) : Prop :=
  ∃ (x : Wk) (vx : Value) (Fx : List Nat) (z : Int), e = .returned (.tuple #[vx, .int .i64 z]) ∧ WD x vx Fx w.heap.size w' ∧ Below w.heap.size w w'

end Go.Proofs.Ytchhobphockhhaa
