/- impl.hasEdge. -/
import Derived.Test.YthpclghhlodnhaaDoorGValid
namespace Go.Proofs.YthpclghhlodnhaaDoor
open Go.RowKit

set_option maxHeartbeats 400000 in
theorem hasEdge_any (g : Gr) (v : Value) (n : Int) (B : Nat) (w : World) (hg : g.At B w v) :
    Calls Tryd.prog 28 #[v, .int .i64 n] w fun e w' => e = .returned (.bool (hn g.es.length n)) ∧ Below w.heap.size w w' := by
  obtain ⟨a, b, rfl, h1, h2⟩ := hg
  obtain ⟨p, cap, rfl⟩ := h1.form
  obtain ⟨p', cap', rfl⟩ := h2.form
  have hm := h2.max
  unfold maxLen at hm
  go_enter Tryd.func28, Tryd.ntmps28
  go_wp2
  all_goals
    go_ret
    refine ⟨ret_bool ?_, (Below.refl _ _).alloc (Nat.le_refl _) _⟩
    unfold hn
    rw [Bool.eq_iff_iff]
    simp [*]
    try omega
end Go.Proofs.YthpclghhlodnhaaDoor
