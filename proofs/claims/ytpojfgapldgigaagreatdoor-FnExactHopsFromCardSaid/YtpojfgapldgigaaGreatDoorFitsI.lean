/- Which nodes and edges fit an element: NodeFits, EdgeFits, on both sides. -/
import Derived.Test.YtpojfgapldgigaaGreatDoorFits
import Derived.Test.YtpojfgapldgigaaGreatDoorGEq
import Derived.Deep.RegionHeld3
import Derived.Deep.DeepCutAuto
import Derived.StillTailTactics
namespace Go.Proofs.YtpojfgapldgigaaGreatDoor
open Go.RowKit

def ndAt (g : Gr) (n : Int) : Nd := g.ns.getD n.toNat ⟨⟨#[]⟩, 0⟩
def edAt (g : Gr) (n : Int) : Ed := g.es.getD n.toNat ⟨0, 0, ⟨#[]⟩, 0⟩
def nodeF (g : Gr) (n : Int) (e : El) : Bool := gv g && (hn g.ns.length n && (elemV e && (e.n && elemF e (ndAt g n).l (ndAt g n).n)))
def edgeF (g : Gr) (n : Int) (e : El) : Bool := gv g && (hn g.es.length n && (elemV e && (!e.n && elemF e (edAt g n).l (edAt g n).n)))
theorem ndAt_eq {g : Gr} {k : Nat} (h : k < g.ns.length) : ndAt g (k : Int) = g.ns[k] := by unfold ndAt; simp [List.getD_eq_getElem?_getD, h]
theorem edAt_eq {g : Gr} {k : Nat} (h : k < g.es.length) : edAt g (k : Int) = g.es[k] := by unfold edAt; simp [List.getD_eq_getElem?_getD, h]
theorem hn_at {k n : Nat} (h : k < n) : hn n (k : Int) = true := by unfold hn; simp; omega
theorem hn_neg {n : Nat} {i : Int} (h : i < 0) : hn n i = false := by unfold hn; rw [decide_eq_false (p := 0 ≤ i) (by omega)]; rfl
theorem hn_big {n : Nat} {i : Int} (h : (n : Int) ≤ i) : hn n i = false := by unfold hn; rw [decide_eq_false (p := i < (n : Int)) (by omega)]; simp
theorem pv_parts {s : ByteArray} {n : Int} (h : pv s n = true) : lbl s = true ∧ nm n = true ∧ s.size ≤ 1048576 := by
  rw [pv_eq] at h
  simp only [Bool.and_eq_true] at h
  refine ⟨h.1, h.2, ?_⟩
  have h1 := h.1
  unfold lbl at h1
  simp only [Bool.or_eq_true, decide_eq_true_eq] at h1
  rcases h1 with h1 | h1
  · omega
  · unfold lv lvL at h1
    simp only [Bool.and_eq_true, decide_eq_true_eq] at h1
    have := h1.1.2
    rw [len_toList] at this; omega
theorem gv_nd {g : Gr} (h : gv g = true) {k : Nat} (hk : k < g.ns.length) : pv g.ns[k].l g.ns[k].n = true := by
  unfold gv at h
  simp only [Bool.and_eq_true, List.all_eq_true] at h
  exact h.2.1 _ (List.getElem_mem hk)
theorem gv_ed {g : Gr} (h : gv g = true) {k : Nat} (hk : k < g.es.length) : pv g.es[k].l g.es[k].n = true := by
  unfold gv at h
  simp only [Bool.and_eq_true, List.all_eq_true] at h
  have := h.2.2 _ (List.getElem_mem hk)
  unfold edV at this
  simp only [Bool.and_eq_true] at this
  exact this.2.2

end Go.Proofs.YtpojfgapldgigaaGreatDoor
