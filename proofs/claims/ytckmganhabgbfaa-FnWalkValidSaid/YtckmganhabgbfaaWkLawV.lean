/- Walks of a graph: parts and turned walks; no program. -/
import Derived.Test.YtckmganhabgbfaaWkV
import Derived.Test.YtckmganhabgbfaaWkLaw
namespace Go.Proofs.Ytckmganhabgbfaa
open Go.RowKit

theorem edgeB_swap (e : Ed) (a b : Int) : edgeB e a b = edgeB e b a := by unfold edgeB; exact Bool.or_comm _ _
theorem stepB_iff {g : Gr} {x : Wk} {j : Nat} : stepB g x j = true ↔ ∃ z a b e, x.es[j]? = some z ∧ x.ns[j]? = some a ∧ x.ns[j + 1]? = some b ∧ 0 ≤ z ∧ g.es[z.toNat]? = some e ∧ edgeB e a b = true := by
  unfold stepB
  cases h1 : x.es[j]? with
  | none => simp
  | some z =>
    cases h2 : x.ns[j]? with
    | none => simp
    | some a =>
      cases h3 : x.ns[j + 1]? with
      | none => simp
      | some b =>
        cases h4 : g.es[z.toNat]? with
        | none => simp [h4]
        | some e => simp [h4]
theorem wkValid_iff {g : Gr} {x : Wk} : wkValid g x = true ↔ gv g = true ∧ wkShape x = true ∧ (∃ z, x.ns[0]? = some z ∧ hn g.ns.length z = true) ∧ ∀ j, j < x.es.length → stepB g x j = true := by
  unfold wkValid stepsB
  simp only [Bool.and_eq_true, List.all_eq_true, List.mem_range]
  refine and_congr Iff.rfl (and_congr Iff.rfl (and_congr ?_ Iff.rfl))
  cases x.ns[0]? with
  | none => simp
  | some z => simp
theorem hn_end {g : Gr} {e : Ed} {a b : Int} (hg : gv g = true) {k : Nat} (he : g.es[k]? = some e) (h : edgeB e a b = true) : hn g.ns.length b = true := by
  have hm : e ∈ g.es := List.mem_of_getElem? he
  unfold gv at hg
  simp only [Bool.and_eq_true, List.all_eq_true] at hg
  have hv := hg.2.2 e hm
  unfold edV at hv
  simp only [Bool.and_eq_true] at hv
  unfold edgeB at h
  simp only [Bool.or_eq_true, Bool.and_eq_true, beq_iff_eq] at h
  rcases h with ⟨_, h⟩ | ⟨h, _⟩
  · rw [← h]; exact hv.2.1
  · rw [← h]; exact hv.1
theorem valid_nodes {g : Gr} {x : Wk} (h : wkValid g x = true) {k : Nat} {z : Int} (hz : x.ns[k]? = some z) : hn g.ns.length z = true := by
  obtain ⟨hg, hs, ⟨y, hy, hny⟩, hst⟩ := wkValid_iff.1 h
  cases k with
  | zero => rw [hy] at hz; cases hz; exact hny
  | succ k =>
    have hk : k + 1 < x.ns.length := (List.getElem?_eq_some_iff.1 hz).1
    obtain ⟨h1, _⟩ := wkShape_iff.1 hs
    obtain ⟨q, a, b, e, e1, e2, e3, e4, e5, e6⟩ := stepB_iff.1 (hst k (by omega))
    rw [hz] at e3; cases e3
    exact hn_end hg e5 e6
theorem partA_valid {g : Gr} {x : Wk} {k : Nat} (h : wkValid g x = true) (hk : k < x.ns.length) : wkValid g (partA x k) = true := by
  obtain ⟨hg, hs, ⟨y, hy, hny⟩, hst⟩ := wkValid_iff.1 h
  refine wkValid_iff.2 ⟨hg, (part_shapes hs hk).1, ⟨y, ?_, hny⟩, fun j hj => ?_⟩
  · show (x.ns.take (k + 1))[0]? = some y
    rw [List.getElem?_take_of_lt (by omega)]; exact hy
  · have hj' : j < k ∧ j < x.es.length := by simp [partA] at hj; omega
    obtain ⟨z, a, b, e, e1, e2, e3, e4, e5, e6⟩ := stepB_iff.1 (hst j hj'.2)
    refine stepB_iff.2 ⟨z, a, b, e, ?_, ?_, ?_, e4, e5, e6⟩
    · show (x.es.take k)[j]? = some z
      rw [List.getElem?_take_of_lt hj'.1]; exact e1
    · show (x.ns.take (k + 1))[j]? = some a
      rw [List.getElem?_take_of_lt (by omega)]; exact e2
    · show (x.ns.take (k + 1))[j + 1]? = some b
      rw [List.getElem?_take_of_lt (by omega)]; exact e3
theorem partB_valid {g : Gr} {x : Wk} {k : Nat} (h : wkValid g x = true) (hk : k < x.ns.length) : wkValid g (partB x k) = true := by
  obtain ⟨hg, hs, _, hst⟩ := wkValid_iff.1 h
  refine wkValid_iff.2 ⟨hg, (part_shapes hs hk).2, ⟨x.ns[k], ?_, valid_nodes h (List.getElem?_eq_getElem hk)⟩, fun j hj => ?_⟩
  · show (x.ns.drop k)[0]? = some x.ns[k]
    rw [List.getElem?_drop]; exact List.getElem?_eq_getElem hk
  · have hj' : k + j < x.es.length := by simp [partB] at hj; omega
    obtain ⟨z, a, b, e, e1, e2, e3, e4, e5, e6⟩ := stepB_iff.1 (hst (k + j) hj')
    refine stepB_iff.2 ⟨z, a, b, e, ?_, ?_, ?_, e4, e5, e6⟩
    · show (x.es.drop k)[j]? = some z
      rw [List.getElem?_drop]; exact e1
    · show (x.ns.drop k)[j]? = some a
      rw [List.getElem?_drop]; exact e2
    · show (x.ns.drop k)[j + 1]? = some b
      rw [List.getElem?_drop]; exact e3
theorem turn_valid {g : Gr} {x : Wk} (h : wkValid g x = true) : wkValid g (wkTurn x) = true := by
  obtain ⟨hg, hs, _, hst⟩ := wkValid_iff.1 h
  obtain ⟨h1, h2⟩ := wkShape_iff.1 hs
  have hl : x.ns.length - 1 < x.ns.length := by omega
  refine wkValid_iff.2 ⟨hg, (wkShape_turn x).trans hs, ⟨x.ns[x.ns.length - 1], ?_, valid_nodes h (List.getElem?_eq_getElem hl)⟩, fun j hj => ?_⟩
  · show x.ns.reverse[0]? = some x.ns[x.ns.length - 1]
    rw [List.getElem?_reverse (by omega)]; exact List.getElem?_eq_getElem _
  · have hj' : j < x.es.length := by simpa [wkTurn] using hj
    obtain ⟨z, a, b, e, e1, e2, e3, e4, e5, e6⟩ := stepB_iff.1 (hst (x.es.length - 1 - j) (by omega))
    refine stepB_iff.2 ⟨z, b, a, e, ?_, ?_, ?_, e4, e5, by rw [edgeB_swap]; exact e6⟩
    · show x.es.reverse[j]? = some z
      rw [List.getElem?_reverse hj']; exact e1
    · show x.ns.reverse[j]? = some b
      rw [List.getElem?_reverse (by omega), ← e3]; congr 1; omega
    · show x.ns.reverse[j + 1]? = some a
      rw [List.getElem?_reverse (by omega), ← e2]; congr 1; omega
end Go.Proofs.Ytckmganhabgbfaa
