/- Contracts of szGraph, toGraph, eqGraph. -/
import Derived.Test.YtfdkmngkpihpbaaGEq
namespace Go.Proofs.Ytfdkmngkpihpbaa
open Go.RowKit

def Gr.need (g : Gr) : Nat := g.ns.length + sumNode g.ns + (g.es.length + sumEdge g.es)
/-- The value of a struct Graph in memory of the call's own, from block lo on; its two slices share none. -/
def Gr.Own (g : Gr) (lo : Nat) (w : World) (v : Value) (F1 F2 : List Nat) : Prop :=
  ∃ a b, v = .agg #[a, b] ∧ OwnSl 2 Nd.cells w a g.ns F1 ∧ OwnSl 4 Ed.cells w b g.es F2 ∧ (∀ x ∈ F1, lo ≤ x) ∧ (∀ x ∈ F2, lo ≤ x) ∧ (∀ x ∈ F1, x ∉ F2)
theorem Gr.Own.at {g : Gr} {lo : Nat} {w : World} {v : Value} {F1 F2 : List Nat} (h : g.Own lo w v F1 F2) : g.At w.heap.size w v := by
  obtain ⟨a, b, h1, h2, h3, _⟩ := h
  exact ⟨a, b, h1, h2.sl, h3.sl⟩
theorem Gr.Own.chg {g : Gr} {lo : Nat} {w w' : World} {v : Value} {F1 F2 G : List Nat} (h : g.Own lo w v F1 F2) (hc : Chg G w w') (h1 : ∀ x ∈ F1, x ∉ G) (h2 : ∀ x ∈ F2, x ∉ G) : g.Own lo w' v F1 F2 := by
  obtain ⟨a, b, e1, e2, e3, e4, e5, e6⟩ := h
  exact ⟨a, b, e1, e2.chg hc h1, e3.chg hc h2, e4, e5, e6⟩
theorem Gr.Own.below {g : Gr} {lo : Nat} {w w' : World} {v : Value} {F1 F2 : List Nat} (h : g.Own lo w v F1 F2) (hc : Below w.heap.size w w') : g.Own lo w' v F1 F2 :=
  h.chg (Chg.of_below hc []) (by simp) (by simp)
theorem Gr.Own.mono {g : Gr} {lo lo' : Nat} {w : World} {v : Value} {F1 F2 : List Nat} (h : g.Own lo w v F1 F2) (hl : lo' ≤ lo) : g.Own lo' w v F1 F2 := by
  obtain ⟨a, b, e1, e2, e3, e4, e5, e6⟩ := h
  exact ⟨a, b, e1, e2, e3, fun x hx => Nat.le_trans hl (e4 x hx), fun x hx => Nat.le_trans hl (e5 x hx), e6⟩
theorem Gr.Own.lt {g : Gr} {lo : Nat} {w : World} {v : Value} {F1 F2 : List Nat} (h : g.Own lo w v F1 F2) : (∀ x ∈ F1, x < w.heap.size) ∧ (∀ x ∈ F2, x < w.heap.size) := by
  obtain ⟨a, b, e1, e2, e3, e4, e5, e6⟩ := h
  exact ⟨e2.lt, e3.lt⟩

end Go.Proofs.Ytfdkmngkpihpbaa
