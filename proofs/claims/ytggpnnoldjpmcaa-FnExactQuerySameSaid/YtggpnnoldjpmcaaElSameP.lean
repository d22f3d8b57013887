/- When two elements are equal. -/
import Derived.Test.YtggpnnoldjpmcaaExL
import Derived.Test.YtggpnnoldjpmcaaSExSame
import Derived.Test.YtggpnnoldjpmcaaElem
namespace Go.Proofs.Ytggpnnoldjpmcaa
open Go.RowKit

noncomputable def elEq (a b : El) : Bool := @decide (a = b) (Classical.propDecidable _)
theorem elEq_true {a b : El} (h : a = b) : elEq a b = true := by unfold elEq; simp [h]
theorem elEq_false {a b : El} (h : a ≠ b) : elEq a b = false := by unfold elEq; simp [h]
theorem elEq_iff {a b : El} : elEq a b = true ↔ a = b := by unfold elEq; simp
def El.Liv (e : El) (B : Nat) (w : World) (u : Value) : Prop := ∃ k k', u = .agg #[.bool e.n, .string e.v, .int .i64 e.l.op, .string e.l.a, k, .int .i64 e.c.op, .string e.c.a, k', .int .i64 e.d] ∧ e.l.ks.Live B w k ∧ e.c.ks.Live B w k'
theorem El.Has.liv {e : El} {u : Value} {F : List Nat} {w : World} (h : e.Has u F w) : e.Liv w.heap.size w u := by
  obtain ⟨k, k', F1, F2, h1, _, _, h2, h3⟩ := h; exact ⟨k, k', h1, h2.live, h3.live⟩
theorem El.Liv.below {e : El} {B B' : Nat} {w w' : World} {u : Value} (h : e.Liv B w u) (hb : Below B w w') (hB : B ≤ B') : e.Liv B' w' u := by
  obtain ⟨k, k', h1, h2, h3⟩ := h; exact ⟨k, k', h1, h2.below hb hB, h3.below hb hB⟩
theorem El.Liv.at {e : El} {B : Nat} {w : World} {u : Value} (h : e.Liv B w u) : e.At B w u := by
  obtain ⟨k, k', h1, h2, h3⟩ := h; exact ⟨k, k', h1, h2.in, h3.in⟩
end Go.Proofs.Ytggpnnoldjpmcaa
