/- WalkMode, on both sides. -/
import Derived.Test.YtchhobphockhhaaWkM
import Derived.WalkSmall
namespace Go.Proofs.Ytchhobphockhhaa
open Go.RowKit

theorem modeB_two (x : Wk) : modeB x 2 = onceB x.es := by simp [modeB]
theorem modeB_three (x : Wk) : modeB x 3 = onceB x.ns := by simp [modeB]
theorem modeB_four (x : Wk) : modeB x 4 = (onceB (x.ns.drop 1) && onceB (x.ns.take x.es.length)) := by simp [modeB]
theorem modeB_other (x : Wk) (m : Int) (h2 : m ≠ 2) (h3 : m ≠ 3) (h4 : m ≠ 4) : modeB x m = (m == 1) := by
  unfold modeB
  by_cases h : m = 1
  · subst h; rfl
  · rw [if_neg h, if_neg h2, if_neg h3, if_neg h4]; symm; simpa using h

end Go.Proofs.Ytchhobphockhhaa
