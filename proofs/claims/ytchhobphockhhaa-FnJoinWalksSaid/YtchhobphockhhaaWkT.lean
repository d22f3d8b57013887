/- TurnWalk, on both sides. -/
import Derived.Test.YtchhobphockhhaaInts
import Derived.Test.YtchhobphockhhaaWkB
import Derived.Test.YtchhobphockhhaaConcatI
import Derived.Deep.RegionHeld3
import Derived.Deep.DeepCutAuto
namespace Go.Proofs.Ytchhobphockhhaa
open Go.RowKit

/-- A new walk, laid into a variable. -/
theorem wk_end {x : Wk} {B k : Nat} {wk : World} {s1 s2 : Value} {F1 F2 : List Nat} (h1 : OwnSl 1 intCells wk s1 x.ns F1) (h2 : OwnSl 1 intCells wk s2 x.es F2) (g1 : ∀ y ∈ F1, B ≤ y) (g2 : ∀ y ∈ F2, B ≤ y) (hk : k < B) (hd : ∀ y ∈ F1, y ∉ F2) :
    x.Has (.agg #[s1, s2]) (F1 ++ F2) ((wk.setCell ⟨k, 0, none⟩ s1).setCell ⟨k, 1, none⟩ s2) :=
  ⟨s1, s2, F1, F2, rfl, rfl, h1.chg (G := [k]) (((Chg.refl _ _).setCell (by simp) _).setCell (by simp) _) (fun y hy => by have := g1 y hy; simp; omega), h2.chg (G := [k]) (((Chg.refl _ _).setCell (by simp) _).setCell (by simp) _) (fun y hy => by have := g2 y hy; simp; omega), hd⟩

end Go.Proofs.Ytchhobphockhhaa
