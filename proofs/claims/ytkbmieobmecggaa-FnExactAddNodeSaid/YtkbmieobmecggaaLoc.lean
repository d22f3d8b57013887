/- What the laws on graphs with one more node or edge keep of their variables. -/
import Derived.Test.YtkbmieobmecggaaMarkG
import Derived.Test.YtkbmieobmecggaaSAdd
import Derived.Deep.RegionHeld3
import Derived.Deep.DeepCutAuto
namespace Go.Proofs.Ytkbmieobmecggaa
open Go.RowKit

/-- A variable in block k that holds the graph R, in memory of the call's own. -/
def Loc (R : Gr) (k : Nat) (a b : Value) (F : List Nat) (u : World) : Prop :=
  k < u.heap.size ∧ u.cell? ⟨k, 0, none⟩ = some a ∧ u.cell? ⟨k, 1, none⟩ = some b ∧ R.Has (.agg #[a, b]) F u
theorem Gr.Has.lt {R : Gr} {v : Value} {F : List Nat} {w : World} (h : R.Has v F w) : ∀ x ∈ F, x < w.heap.size := by
  obtain ⟨F1, F2, rfl, h⟩ := h
  intro x hx
  rcases List.mem_append.1 hx with hx | hx
  · exact h.lt.1 x hx
  · exact h.lt.2 x hx
theorem Gr.Has.below {R : Gr} {v : Value} {F : List Nat} {w w' : World} (h : R.Has v F w) (hb : Below w.heap.size w w') : R.Has v F w' := Box.grHas h w' hb
theorem Loc.below {R : Gr} {k : Nat} {a b : Value} {F : List Nat} {w w' : World} (h : Loc R k a b F w) (hb : Below w.heap.size w w') : Loc R k a b F w' :=
  ⟨Nat.lt_of_lt_of_le h.1 hb.size, keepc hb h.1 h.2.1, keepc hb h.1 h.2.2.1, h.2.2.2.below hb⟩
theorem Loc.chg {R : Gr} {k : Nat} {a b : Value} {F G : List Nat} {w w' : World} (h : Loc R k a b F w) (hc : Chg G w w') (hk : k ∉ G) (hF : ∀ x ∈ F, x ∉ G) : Loc R k a b F w' :=
  ⟨Nat.lt_of_lt_of_le h.1 hc.size, chgc hc hk h.2.1, chgc hc hk h.2.2.1, h.2.2.2.chg hc hF⟩
theorem Loc.lt {R : Gr} {k : Nat} {a b : Value} {F : List Nat} {w : World} (h : Loc R k a b F w) : k < w.heap.size ∧ ∀ x ∈ F, x < w.heap.size := ⟨h.1, h.2.2.2.lt⟩
theorem Loc.at {R : Gr} {k : Nat} {a b : Value} {F : List Nat} {w : World} (h : Loc R k a b F w) : R.At w.heap.size w (.agg #[a, b]) := h.2.2.2.at
/-- A variable that is filled with a graph. -/
theorem Loc.filled {R : Gr} {k : Nat} {a b : Value} {F : List Nat} {w : World} (hk : k < w.heap.size) (h0 : ∃ x, w.cell? ⟨k, 0, none⟩ = some x) (h1 : ∃ x, w.cell? ⟨k, 1, none⟩ = some x) (h : R.Has (.agg #[a, b]) F w) (hF : k ∉ F) :
    Loc R k a b F ((w.setCell ⟨k, 0, none⟩ a).setCell ⟨k, 1, none⟩ b) := by
  obtain ⟨x, h0⟩ := h0
  obtain ⟨y, h1⟩ := h1
  refine ⟨by simpa using hk, (set_near _ _ _ _ _ (by decide)).trans (set_same _ _ _ _ _ h0), set_same _ _ _ _ _ ((set_near _ _ _ _ _ (by decide)).trans h1), h.chg (G := [k]) (((Chg.refl _ _).setCell (by simp) _).setCell (by simp) _) fun x hx => ?_⟩
  simp; rintro rfl; exact hF hx
/-- A new variable that is made with a graph. -/
theorem Loc.fresh {R : Gr} {a b : Value} {F : List Nat} {T : TypeId} {w : World} (h : R.Has (.agg #[a, b]) F w) : Loc R w.heap.size a b F (w.alloc (.cells #[a, b] T)) :=
  ⟨by simp, by simp [go_sem], by simp [go_sem], h.below ((Below.refl _ _).alloc (Nat.le_refl _) _)⟩
theorem early {E w' : World} {a b : Value} {T : TypeId} (hb : Below (E.alloc (.cells #[a, b] T)).heap.size (E.alloc (.cells #[a, b] T)) w') :
    E.heap.size < w'.heap.size ∧ w'.cell? ⟨E.heap.size, 0, none⟩ = some a ∧ w'.cell? ⟨E.heap.size, 1, none⟩ = some b ∧ w'.frozen? ⟨E.heap.size, 0, none⟩ = false ∧ w'.frozen? ⟨E.heap.size, 1, none⟩ = false :=
  ⟨by have := hb.size; simp at this; omega, keepc hb (by simp) (by simp [go_sem]), keepc hb (by simp) (by simp [go_sem]), keepf hb (by simp) (by simp [go_sem]), keepf hb (by simp) (by simp [go_sem])⟩
theorem earlyD {E w' : World} {a b : Value} {T : TypeId} (hb : Below (E.alloc (.cells #[a, b] T)).drew.heap.size (E.alloc (.cells #[a, b] T)).drew w') :
    E.heap.size < w'.heap.size ∧ w'.cell? ⟨E.heap.size, 0, none⟩ = some a ∧ w'.cell? ⟨E.heap.size, 1, none⟩ = some b ∧ w'.frozen? ⟨E.heap.size, 0, none⟩ = false ∧ w'.frozen? ⟨E.heap.size, 1, none⟩ = false :=
  early (((Below.refl _ _).drew).trans hb)
theorem later {E w' : World} {k : Nat} {a b : Value} (hb : Below E.heap.size E w') (h : k < E.heap.size ∧ E.cell? ⟨k, 0, none⟩ = some a ∧ E.cell? ⟨k, 1, none⟩ = some b ∧ E.frozen? ⟨k, 0, none⟩ = false ∧ E.frozen? ⟨k, 1, none⟩ = false) :
    k < w'.heap.size ∧ w'.cell? ⟨k, 0, none⟩ = some a ∧ w'.cell? ⟨k, 1, none⟩ = some b ∧ w'.frozen? ⟨k, 0, none⟩ = false ∧ w'.frozen? ⟨k, 1, none⟩ = false :=
  ⟨Nat.lt_of_lt_of_le h.1 hb.size, keepc hb h.1 h.2.1, keepc hb h.1 h.2.2.1, keepf hb h.1 h.2.2.2.1, keepf hb h.1 h.2.2.2.2⟩
theorem markHas (g : Gr) (v : Value) (F : List Nat) (w : World) (hg : g.Has v F w) (hb : 2 * g.ns.length + 4 * g.es.length ≤ 90000000) :
    Calls Try.prog 19 #[v, .int .i64 1] w fun e w' => e = .returned (.int .i64 (1 + 2 * g.ns.length + 4 * g.es.length)) ∧ (g.marked 1).Has v F w' ∧ Chg F w w' := by
  obtain ⟨F1, F2, rfl, ho⟩ := hg
  refine (markGraph_any g v 0 F1 F2 1 w ho (by omega) (by omega)).mono ?_
  rintro e w' ⟨he, ho', hc⟩
  exact ⟨he, ⟨F1, F2, rfl, ho'⟩, hc⟩
/-- What the filling of a new variable by a call's answer leaves. -/
def Filled (R : Gr) (T : Bool) (lo : Nat) (W0 : World) (s t : Value) (wx : World) : Prop :=
  ∃ k p c q d F, s = .pointer (some ⟨k, 0, none⟩) ∧ t = .bool T ∧ lo ≤ k ∧ Loc R k (.slice p R.ns.length c) (.slice q R.es.length d) F wx ∧ (∀ x ∈ F, lo ≤ x) ∧ k ∉ F ∧ Below lo W0 wx
theorem filled_of {R : Gr} {T : Bool} {lo : Nat} {W0 wz : World} {k : Nat} {p q : Option Addr} {c d : Nat} {F : List Nat} (hlo : lo ≤ k) (hk : k < wz.heap.size) (h0 : ∃ x, wz.cell? ⟨k, 0, none⟩ = some x) (h1 : ∃ x, wz.cell? ⟨k, 1, none⟩ = some x)
    (h : R.Has (.agg #[.slice p R.ns.length c, .slice q R.es.length d]) F wz) (hF : ∀ x ∈ F, lo ≤ x) (hne : k ∉ F) (hb : Below lo W0 wz) :
    Filled R T lo W0 (.pointer (some ⟨k, 0, none⟩)) (.bool T) ((wz.setCell ⟨k, 0, none⟩ (.slice p R.ns.length c)).setCell ⟨k, 1, none⟩ (.slice q R.es.length d)) :=
  ⟨k, p, c, q, d, F, rfl, rfl, hlo, Loc.filled hk h0 h1 h hne, hF, hne, (hb.setCell hlo _).setCell hlo _⟩
end Go.Proofs.Ytkbmieobmecggaa
