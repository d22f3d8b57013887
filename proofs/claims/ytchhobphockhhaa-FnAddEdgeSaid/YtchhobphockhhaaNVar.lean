/- A new variable of two slices, and what is stored into it when a region has run in any order. -/
import Derived.Test.YtchhobphockhhaaDr
import Derived.Test.YtchhobphockhhaaGLaw
namespace Go.Proofs.Ytchhobphockhhaa
open Go.RowKit

/-- A new variable of two slices, empty. -/
def NVar (b : Nat) (w : World) : Prop := b < w.heap.size ∧ w.cell? ⟨b, 0, none⟩ = some (.slice none 0 0) ∧ w.cell? ⟨b, 1, none⟩ = some (.slice none 0 0) ∧ w.frozen? ⟨b, 0, none⟩ = false ∧ w.frozen? ⟨b, 1, none⟩ = false
theorem NVar.below {b : Nat} {w w' : World} (h : NVar b w) (hb : Below w.heap.size w w') : NVar b w' :=
  ⟨Nat.lt_of_lt_of_le h.1 hb.size, keepc hb h.1 h.2.1, keepc hb h.1 h.2.2.1, (hb.frozen (p := ⟨b, 0, none⟩) h.1).trans h.2.2.2.1, (hb.frozen (p := ⟨b, 1, none⟩) h.1).trans h.2.2.2.2⟩
theorem madeNVar {K : Act → World → Prop} {A : Act} {E : World} {T : TypeId} (hk : ∀ w1, Below E.heap.size E w1 → NVar E.heap.size w1 → K A w1) : K A (E.alloc (.cells #[.slice none 0 0, .slice none 0 0] T)) :=
  hk _ ((Below.refl _ _).alloc (Nat.le_refl _) _) ⟨by simp, by simp [go_sem], by simp [go_sem], by simp [go_sem], by simp [go_sem]⟩
/-- A variable that holds a graph that reads as g. -/
def VarG (g : Gr) (b lo : Nat) (w : World) : Prop :=
  ∃ p c q d, (w.cell? ⟨b, 0, none⟩ = some (.slice p g.ns.length c) ∧ w.cell? ⟨b, 1, none⟩ = some (.slice q g.es.length d)) ∧ g.At w.heap.size w (.agg #[.slice p g.ns.length c, .slice q g.es.length d]) ∧ lo ≤ b ∧ b < w.heap.size
theorem VarG.mk {g : Gr} {b lo : Nat} {c d : Nat} {U : World} {p q : Option Addr} {F : List Nat} (nv : NVar b U) (o : g.Has (.agg #[.slice p g.ns.length c, .slice q g.es.length d]) F U) (n : ∀ z ∈ F, z ≠ b) (hb : lo ≤ b) :
    VarG g b lo ((U.setCell ⟨b, 0, none⟩ (.slice p g.ns.length c)).setCell ⟨b, 1, none⟩ (.slice q g.es.length d)) := by
  have hs : Chg [b] U ((U.setCell ⟨b, 0, none⟩ (.slice p g.ns.length c)).setCell ⟨b, 1, none⟩ (.slice q g.es.length d)) := ((Chg.refl _ _).setCell (by simp) _).setCell (by simp) _
  refine ⟨p, c, q, d, ⟨?_, ?_⟩, (o.chg hs (fun z hz hm => n z hz (by simpa using hm))).at, hb, by simpa using nv.1⟩
  · rw [set_near _ _ _ _ _ (by omega)]; exact set_same _ _ _ _ _ nv.2.1
  · exact set_same _ _ _ (.slice none 0 0) _ ((set_near _ _ _ _ _ (by omega)).trans nv.2.2.1)
/-- The first k edges of a graph. -/
theorem pre_at {g : Gr} {B k n c l d : Nat} {E : World} {p q : Option Addr} (h : g.At B E (.agg #[.slice p n c, .slice q l d])) (h2 : k ≤ g.es.length) : (⟨g.ns, g.es.take k⟩ : Gr).At B E (.agg #[.slice p n c, .slice q k d]) := by
  obtain ⟨v0, v1, e, a1, a2⟩ := h
  cases e
  refine ⟨_, _, rfl, a1, ?_⟩
  obtain ⟨p', len', cap', h1, h2', h3, h4, h5⟩ := a2
  cases h1
  refine ⟨_, _, _, rfl, by simp; omega, by omega, h4, fun i hi => ?_⟩
  simp only [List.length_take] at hi
  obtain ⟨b, off, e1, e2, e3⟩ := h5 i (by omega)
  exact ⟨b, off, e1, e2, fun j x hx => e3 j x (by simpa [List.getElem_take] using hx)⟩
/-- The first k nodes of a graph. -/
theorem preN_at {g : Gr} {B k n c l d : Nat} {E : World} {p q : Option Addr} (h : g.At B E (.agg #[.slice p n c, .slice q l d])) (h2 : k ≤ g.ns.length) : (⟨g.ns.take k, g.es⟩ : Gr).At B E (.agg #[.slice p k c, .slice q l d]) := by
  obtain ⟨v0, v1, e, a1, a2⟩ := h
  cases e
  refine ⟨_, _, rfl, ?_, a2⟩
  obtain ⟨p', len', cap', h1, h2', h3, h4, h5⟩ := a1
  cases h1
  refine ⟨_, _, _, rfl, by simp; omega, by omega, h4, fun i hi => ?_⟩
  simp only [List.length_take] at hi
  obtain ⟨b, off, e1, e2, e3⟩ := h5 i (by omega)
  exact ⟨b, off, e1, e2, fun j x hx => e3 j x (by simpa [List.getElem_take] using hx)⟩
end Go.Proofs.Ytchhobphockhhaa
