/- Lemmas on the data and the memory of this program's values: several texts in one. -/
import Derived.Test.YtbbemeaojmfndaaDoorL1W
import Derived.Test.YtbbemeaojmfndaaDoorM1q1p1
namespace Go.Proofs.YtbbemeaojmfndaaDoor
open Go.RowKit

/-- A drawn graph, in memory of the call's own. -/
def GX (g : Gr) (v : Value) (F : List Nat) (lo : Nat) (w : World) : Prop := g.Has v F w ∧ (∀ y ∈ F, lo ≤ y) ∧ g.Ok ∧ g.ns.length ≤ 1010 ∧ g.es.length ≤ 1010
theorem GX.chg {g : Gr} {v : Value} {F G : List Nat} {lo : Nat} {w w' : World} (h : GX g v F lo w) (hc : Chg G w w') (hG : ∀ x ∈ G, x < lo) : GX g v F lo w' :=
  ⟨h.1.chg hc (fun y hy hm => by have := hG y hm; have := h.2.1 y hy; omega), h.2⟩
theorem GX.lo {g : Gr} {v : Value} {F : List Nat} {lo lo' : Nat} {w : World} (h : GX g v F lo w) (hl : lo' ≤ lo) : GX g v F lo' w := ⟨h.1, fun y hy => Nat.le_trans hl (h.2.1 y hy), h.2.2⟩
def CaseG (w : World) (e : Ending) (w' : World) : Prop :=
  ∃ (g : Gr) (vg : Value) (Fg : List Nat), e = .returned vg ∧ GX g vg Fg w.heap.size w' ∧ Below w.heap.size w w'

end Go.Proofs.YtbbemeaojmfndaaDoor
