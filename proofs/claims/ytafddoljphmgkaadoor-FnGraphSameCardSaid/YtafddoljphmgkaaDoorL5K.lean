/- l5Case and the draws of one walk. -/
import Derived.Test.YtafddoljphmgkaaDoorL5W
namespace Go.Proofs.YtafddoljphmgkaaDoor
open Go.RowKit

/-- A drawn graph and a drawn walk. -/
def CaseGW (w : World) (e : Ending) (w' : World) : Prop :=
  ∃ (g : Gr) (vg : Value) (Fg : List Nat) (x : Wk) (vx : Value) (Fx : List Nat), e = .returned (.tuple #[vg, vx]) ∧ GD g vg Fg w.heap.size w' ∧ WD x vx Fx w.heap.size w' ∧ Below w.heap.size w w'
def CaseW (w : World) (e : Ending) (w' : World) : Prop :=
  ∃ (x : Wk) (vx : Value) (Fx : List Nat), e = .returned vx ∧ WD x vx Fx w.heap.size w' ∧ Below w.heap.size w w'
theorem Chg.of0 {a b : World} (h : Chg [] a b) : Below a.heap.size a b := h.below (Nat.le_refl _) (by simp)

end Go.Proofs.YtafddoljphmgkaaDoor
