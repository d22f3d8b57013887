/- l5Two and the draws of two walks. -/
import Derived.Test.YtchhobphockhhaaL5K
namespace Go.Proofs.Ytchhobphockhhaa
open Go.RowKit

/-- Two drawn walks. -/
def CaseWW (w : World) (e : Ending) (w' : World) : Prop :=
  ∃ (x : Wk) (vx : Value) (Fx : List Nat) (y : Wk) (vy : Value) (Fy : List Nat), e = .returned (.tuple #[vx, vy]) ∧ WD x vx Fx w.heap.size w' ∧ WD y vy Fy w.heap.size w' ∧ Below w.heap.size w w'

end Go.Proofs.Ytchhobphockhhaa
