/- The modes of walks, on both sides. -/
import Derived.Test.YtchhobphockhhaaWkB
import Derived.BigQuiet
namespace Go.Proofs.Ytchhobphockhhaa
open Go.RowKit

theorem Sl.take {α : Type} {sz : Nat} {enc : α → List Value} {B : Nat} {w : World} {p : Option Addr} {len cap : Nat} {xs : List α} (h : Sl sz enc B w (.slice p len cap) xs) {k : Nat} (hk : k ≤ xs.length) : Sl sz enc B w (.slice p k cap) (xs.take k) := by
  obtain ⟨p', len', cap', h1, h2, h3, h4, h5⟩ := h
  cases h1
  refine ⟨_, _, _, rfl, by simp; omega, by omega, h4, fun i hi => ?_⟩
  simp only [List.length_take] at hi
  obtain ⟨b, off, e1, e2, e3⟩ := h5 i (by omega)
  exact ⟨b, off, e1, e2, fun j x hx => e3 j x (by rwa [List.getElem_take] at hx)⟩
theorem Sl.drop1 {α : Type} {enc : α → List Value} {B : Nat} {w : World} {b off len cap : Nat} {xs : List α} (h : Sl 1 enc B w (.slice (some ⟨b, off, none⟩) len cap) xs) (h0 : 0 < xs.length) : Sl 1 enc B w (.slice (some ⟨b, off + 1, none⟩) (xs.length - 1) (cap - 1)) (xs.drop 1) := by
  obtain ⟨p', len', cap', h1, h2, h3, h4, h5⟩ := h
  cases h1
  refine ⟨_, _, _, rfl, by simp, by omega, by omega, fun i hi => ?_⟩
  simp only [List.length_drop] at hi
  obtain ⟨b', off', e1, e2, e3⟩ := h5 (1 + i) (by omega)
  cases e1
  refine ⟨b, off + 1, rfl, e2, fun j x hx => ?_⟩
  rw [List.getElem_drop] at hx
  have := e3 j x hx
  rwa [show off + 1 + i * 1 + j = off + (1 + i) * 1 + j by omega]

theorem Sl.drop1_last {α : Type} {enc : α → List Value} {B : Nat} {w : World} {p : Option Addr} {len : Nat} {xs : List α} (h : Sl 1 enc B w (.slice p len 1) xs) : Sl 1 enc B w (.slice p 0 0) (xs.drop 1) := by
  obtain ⟨p', len', cap', h1, h2, h3, h4, h5⟩ := h
  cases h1
  exact ⟨_, _, _, rfl, by simp; omega, by omega, by omega, fun i hi => by simp only [List.length_drop] at hi; omega⟩

end Go.Proofs.Ytchhobphockhhaa
