/- impl.hasEdge. -/
import Derived.Test.YtckmganhabgbfaaGValid
namespace Go.Proofs.Ytckmganhabgbfaa
open Go.RowKit

set_option maxHeartbeats 400000 in
theorem hasEdge_any (g : Gr) (v : Value) (n : Int) (B : Nat) (w : World) (hg : g.At B w v) :
    Calls Try.prog 61 #[v, .int .i64 n] w fun e w' => e = .returned (.bool (hn g.es.length n)) ∧ Below w.heap.size w w' := by
  obtain ⟨a, b, rfl, h1, h2⟩ := hg
  obtain ⟨p, cap, rfl⟩ := h1.form
  obtain ⟨p', cap', rfl⟩ := h2.form
  have hm := h2.max
  unfold maxLen at hm
  go_enter Try.func61, Try.ntmps61
  go_wp2
  all_goals
    go_ret
    refine ⟨ret_bool ?_, (Below.refl _ _).alloc (Nat.le_refl _) _⟩
    unfold hn
    rw [Bool.eq_iff_iff]
    simp [*]
    try omega
end Go.Proofs.Ytckmganhabgbfaa
