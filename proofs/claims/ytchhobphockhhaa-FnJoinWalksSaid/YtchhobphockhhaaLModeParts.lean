/- The walk of FnModeParts. -/
import Derived.Test.YtchhobphockhhaaL5M
import Derived.Test.YtchhobphockhhaaWkLaw
import Derived.Test.YtchhobphockhhaaWkM3
import Derived.Test.YtchhobphockhhaaWkM2
import Derived.Test.YtchhobphockhhaaReg
namespace Go.Proofs.Ytchhobphockhhaa
open Go.RowKit

theorem map_add (b off k : Nat) : (some (⟨b, off, none⟩ : Addr)).map (fun a => a.add k) = some ⟨b, off + k, none⟩ := by simp [Addr.add]
theorem Sl.dropm {α : Type} {enc : α → List Value} {B : Nat} {w : World} {p : Option Addr} {len cap : Nat} {xs : List α} (h : Sl 1 enc B w (.slice p len cap) xs) {k : Nat} (hk : k ≤ xs.length) : Sl 1 enc B w (.slice (p.map (fun a => a.add k)) (xs.length - k) (cap - k)) (xs.drop k) := by
  obtain ⟨p', len', cap', h1, h2, h3, h4, h5⟩ := h
  cases h1
  refine ⟨_, _, _, rfl, by simp, by omega, by omega, fun i hi => ?_⟩
  have hi' : k + i < xs.length := by simp at hi; omega
  obtain ⟨b', off', rfl, e2, e3⟩ := h5 (k + i) hi'
  refine ⟨b', off' + k, map_add _ _ _, e2, fun j y hy => ?_⟩
  rw [List.getElem_drop] at hy
  have := e3 j y hy
  rw [Nat.mul_one] at this ⊢
  rw [show off' + k + i + j = off' + (k + i) + j by omega]
  exact this
theorem partA_at {x : Wk} {B k n c l d : Nat} {E : World} {p q : Option Addr} (h : x.At B E (.agg #[.slice p n c, .slice q l d])) (h1 : k + 1 ≤ x.ns.length) (h2 : k ≤ x.es.length) : (partA x k).At B E (.agg #[.slice p (k + 1) c, .slice q k d]) := by
  obtain ⟨v0, v1, e, a1, a2⟩ := h
  cases e
  exact ⟨_, _, rfl, Sl.take a1 h1, Sl.take a2 h2⟩
theorem partB_at {x : Wk} {B k n c l d : Nat} {E : World} {p q : Option Addr} (h : x.At B E (.agg #[.slice p n c, .slice q l d])) (h1 : k ≤ x.ns.length) (h2 : k ≤ x.es.length) : (partB x k).At B E (.agg #[.slice (p.map (fun a => a.add k)) (x.ns.length - k) (c - k), .slice (q.map (fun a => a.add k)) (x.es.length - k) (d - k)]) := by
  obtain ⟨v0, v1, e, a1, a2⟩ := h
  cases e
  exact ⟨_, _, rfl, Sl.dropm a1 h1, Sl.dropm a2 h2⟩
theorem partB_at0 {x : Wk} {B k n c l d : Nat} {E : World} {p q : Option Addr} (h : x.At B E (.agg #[.slice p n c, .slice q l d])) (h1 : k ≤ x.ns.length) (h2 : x.es.length ≤ k) : (partB x k).At B E (.agg #[.slice (p.map (fun a => a.add k)) (x.ns.length - k) (c - k), .slice q 0 0]) := by
  obtain ⟨v0, v1, e, a1, a2⟩ := h
  cases e
  refine ⟨_, _, rfl, Sl.dropm a1 h1, ?_⟩
  show Sl 1 intCells B E (.slice q 0 0) (x.es.drop k)
  rw [List.drop_of_length_le h2]
  exact ⟨q, 0, 0, rfl, rfl, Nat.le_refl _, Nat.zero_le _, fun i hi => by simp at hi⟩

end Go.Proofs.Ytchhobphockhhaa
