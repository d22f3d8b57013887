/- spec.LabelHolds, spec.NumHolds. -/
import Derived.Test.YtbbemeaojmfndaaDoorHolds
namespace Go.Proofs.YtbbemeaojmfndaaDoor
open Go.RowKit

theorem condB_some {a : ByteArray} (h : condB a = true) : ∃ s n, condOf a.data.toList = some (s, n) ∧ 2 ≤ a.size ∧ isS s = true ∧ num14 a.data.toList.tail = some (n : Int) ∧ ∀ hh : 0 < a.size, a[0] = s := by
  unfold condB at h
  obtain ⟨⟨s, n⟩, hc⟩ := Option.isSome_iff_exists.1 h
  have hS := condOf_sign hc
  have hc2 := hc
  rw [cond_of] at hc2
  cases hl : a.data.toList with
  | nil => rw [hl] at hc2; cases hc2
  | cons c r =>
    rw [hl] at hc2
    by_cases hcs : isS c = true
    · simp only [hcs, if_true] at hc2
      obtain ⟨m, hm, e⟩ := Option.map_eq_some_iff.1 hc2
      cases e
      have h14 := ((num14_99 r (n : Int)).2 ⟨by simpa using hm, by omega⟩).1
      have hlen : a.size = 1 + r.length := size_of hl
      refine ⟨s, n, by rw [← hl]; exact hc, ?_, hS, h14, fun hh => ?_⟩
      · rcases num99_cases hm with ⟨d, rfl, _⟩ | ⟨d, e, rfl, _⟩ <;> simp at hlen <;> omega
      · have := head_at hh
        rw [hl] at this
        exact (List.cons.inj this).1.symm
    · simp [hcs] at hc2

end Go.Proofs.YtbbemeaojmfndaaDoor
