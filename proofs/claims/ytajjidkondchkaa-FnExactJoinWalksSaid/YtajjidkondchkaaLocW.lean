/- What a region leaves that lays a call's answer, a walk, into a new variable. -/
import Derived.Test.YtajjidkondchkaaKindsG
namespace Go.Proofs.Ytajjidkondchkaa
open Go.RowKit

theorem keepfw {B b o : Nat} {w w' : World} (hb : Below B w w') (h : b < B) (hc : w.frozen? ⟨b, o, none⟩ = false) : w'.frozen? ⟨b, o, none⟩ = false := (hb.frozen (p := ⟨b, o, none⟩) h).trans hc
theorem wearly {E w' : World} {a b : Value} {T : TypeId} (hb : Below (E.alloc (.cells #[a, b] T)).heap.size (E.alloc (.cells #[a, b] T)) w') :
    E.heap.size < w'.heap.size ∧ w'.cell? ⟨E.heap.size, 0, none⟩ = some a ∧ w'.cell? ⟨E.heap.size, 1, none⟩ = some b ∧ w'.frozen? ⟨E.heap.size, 0, none⟩ = false ∧ w'.frozen? ⟨E.heap.size, 1, none⟩ = false :=
  ⟨by have := hb.size; simp at this; omega, keepc hb (by simp) (by simp [go_sem]), keepc hb (by simp) (by simp [go_sem]), keepfw hb (by simp) (by simp [go_sem]), keepfw hb (by simp) (by simp [go_sem])⟩
theorem wearlyD {E w' : World} {a b : Value} {T : TypeId} (hb : Below (E.alloc (.cells #[a, b] T)).drew.heap.size (E.alloc (.cells #[a, b] T)).drew w') :
    E.heap.size < w'.heap.size ∧ w'.cell? ⟨E.heap.size, 0, none⟩ = some a ∧ w'.cell? ⟨E.heap.size, 1, none⟩ = some b ∧ w'.frozen? ⟨E.heap.size, 0, none⟩ = false ∧ w'.frozen? ⟨E.heap.size, 1, none⟩ = false :=
  wearly (((Below.refl _ _).drew).trans hb)
theorem wlater {E w' : World} {k : Nat} {a b : Value} (hb : Below E.heap.size E w') (h : k < E.heap.size ∧ E.cell? ⟨k, 0, none⟩ = some a ∧ E.cell? ⟨k, 1, none⟩ = some b ∧ E.frozen? ⟨k, 0, none⟩ = false ∧ E.frozen? ⟨k, 1, none⟩ = false) :
    k < w'.heap.size ∧ w'.cell? ⟨k, 0, none⟩ = some a ∧ w'.cell? ⟨k, 1, none⟩ = some b ∧ w'.frozen? ⟨k, 0, none⟩ = false ∧ w'.frozen? ⟨k, 1, none⟩ = false :=
  ⟨Nat.lt_of_lt_of_le h.1 hb.size, keepc hb h.1 h.2.1, keepc hb h.1 h.2.2.1, keepfw hb h.1 h.2.2.2.1, keepfw hb h.1 h.2.2.2.2⟩
/-- What the filling of a new variable by a call's answer leaves. -/
def FilledW (R : Wk) (T : Bool) (lo : Nat) (W0 : World) (s t : Value) (wx : World) : Prop :=
  ∃ k p c q d F, s = .pointer (some ⟨k, 0, none⟩) ∧ t = .bool T ∧ lo ≤ k ∧ LocV R.Has k #[.slice p R.ns.length c, .slice q R.es.length d] F wx ∧ (∀ x ∈ F, lo ≤ x) ∧ k ∉ F ∧ Below lo W0 wx
theorem wfilled_of {R : Wk} {T : Bool} {lo : Nat} {W0 wz : World} {k : Nat} {p q : Option Addr} {c d : Nat} {F : List Nat} (hlo : lo ≤ k) (hk : k < wz.heap.size) (h0 : ∃ x, wz.cell? ⟨k, 0, none⟩ = some x) (h1 : ∃ x, wz.cell? ⟨k, 1, none⟩ = some x)
    (h : R.Has (.agg #[.slice p R.ns.length c, .slice q R.es.length d]) F wz) (hF : ∀ x ∈ F, lo ≤ x) (hne : k ∉ F) (hb : Below lo W0 wz) :
    FilledW R T lo W0 (.pointer (some ⟨k, 0, none⟩)) (.bool T) ((wz.setCell ⟨k, 0, none⟩ (.slice p R.ns.length c)).setCell ⟨k, 1, none⟩ (.slice q R.es.length d)) := by
  obtain ⟨x, h0⟩ := h0
  obtain ⟨y, h1⟩ := h1
  refine ⟨k, p, c, q, d, F, rfl, rfl, hlo, ⟨by simpa using hk, fun i v hv => ?_, h.chg (G := [k]) (((Chg.refl _ _).setCell (by simp) _).setCell (by simp) _) (fun y hy => ?_)⟩, hF, hne, (hb.setCell hlo _).setCell hlo _⟩
  · match i, hv with
    | 0, hv => simp at hv; subst hv; exact (set_near _ _ _ _ _ (by decide)).trans (set_same _ _ _ _ _ h0)
    | 1, hv => simp at hv; subst hv; exact set_same _ _ _ _ _ ((set_near _ _ _ _ _ (by decide)).trans h1)
    | i + 2, hv => simp at hv
  · simp; rintro rfl; exact hne hy
theorem wfresh_of {R : Wk} {T : Bool} {lo : Nat} {W0 wz : World} {p q : Option Addr} {c d : Nat} {F : List Nat} {TT : TypeId} (hlo : lo ≤ wz.heap.size)
    (h : R.Has (.agg #[.slice p R.ns.length c, .slice q R.es.length d]) F wz) (hF : ∀ x ∈ F, lo ≤ x) (hb : Below lo W0 wz) :
    FilledW R T lo W0 (.pointer (some ⟨wz.heap.size, 0, none⟩)) (.bool T) (wz.alloc (.cells #[.slice p R.ns.length c, .slice q R.es.length d] TT)) :=
  ⟨wz.heap.size, p, c, q, d, F, rfl, rfl, hlo, LocV.fresh (Wk.goes R) h, hF, fun hx => by have := h.lt _ hx; omega, hb.alloc hlo _⟩
end Go.Proofs.Ytajjidkondchkaa
