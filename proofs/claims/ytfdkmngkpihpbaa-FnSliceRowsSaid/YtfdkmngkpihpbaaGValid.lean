/- Contracts of the functions that ask whether a graph is valid. -/
import Derived.Test.YtfdkmngkpihpbaaLabel
import Derived.Test.YtfdkmngkpihpbaaMem
namespace Go.Proofs.Ytfdkmngkpihpbaa
open Go.RowKit

def pv (s : ByteArray) (n : Int) : Bool := (decide (s.size = 0) || lv s) && (decide (0 ≤ n) && decide (n ≤ 99))
def hn (k : Nat) (n : Int) : Bool := decide (0 ≤ n) && decide (n < k)
def ndV (x : Nd) : Bool := pv x.l x.n
def edV (k : Nat) (e : Ed) : Bool := hn k e.f && (hn k e.t && pv e.l e.n)
def gv (g : Gr) : Bool := (decide (1 ≤ g.ns.length) && (decide (g.ns.length ≤ 8) && decide (g.es.length ≤ 14))) && (g.ns.all ndV && g.es.all (edV g.ns.length))

theorem pv_neg {s : ByteArray} {n : Int} (h : n < 0) : pv s n = false := by unfold pv; rw [decide_eq_false (p := 0 ≤ n) (by omega)]; simp
theorem pv_big {s : ByteArray} {n : Int} (h : 99 < n) : pv s n = false := by unfold pv; rw [decide_eq_false (p := n ≤ 99) (by omega)]; simp
theorem pv_empty {s : ByteArray} {n : Int} (hs : s.size = 0) (h : 0 ≤ n) (h' : n ≤ 99) : pv s n = true := by unfold pv; rw [decide_eq_true hs, decide_eq_true h, decide_eq_true h']; rfl
theorem pv_lv {s : ByteArray} {n : Int} (hs : 0 < s.size) (h : 0 ≤ n) (h' : n ≤ 99) : pv s n = lv s := by unfold pv; rw [decide_eq_false (p := s.size = 0) (by omega), decide_eq_true h, decide_eq_true h']; simp
theorem str_empty' {s : ByteArray} (h : s.size = 0) : s.toList.isEmpty = true := by rw [str_empty h]; rfl
theorem str_nonempty'' {s : ByteArray} (h : 0 < s.size) : s.toList.isEmpty = false := by
  have := str_nonempty' h
  revert this; cases s.toList.isEmpty <;> simp

/-- The first k elements answer yes. -/
def AllP {α : Type} (f : α → Bool) (xs : List α) (k : Nat) : Prop := (xs.take k).all f = true
theorem AllP.zero {α : Type} (f : α → Bool) (xs : List α) : AllP f xs 0 := rfl
theorem AllP.succ {α : Type} {f : α → Bool} {xs : List α} {k : Nat} (h : AllP f xs k) (hk : k < xs.length) (hc : f xs[k] = true) : AllP f xs (k + 1) := by
  unfold AllP at *
  rw [List.take_succ_eq_append_getElem hk, List.all_append, h]
  simp only [List.all_cons, List.all_nil, Bool.and_true, Bool.true_and]; exact hc
theorem AllP.full {α : Type} {f : α → Bool} {xs : List α} (h : AllP f xs xs.length) : xs.all f = true := by
  unfold AllP at h; rwa [List.take_of_length_le (Nat.le_refl _)] at h
theorem all_bad {α : Type} {f : α → Bool} {xs : List α} {k : Nat} (hk : k < xs.length) (hc : f xs[k] = false) : xs.all f = false := by
  rw [List.all_eq_false]
  exact ⟨xs[k], List.getElem_mem hk, by rw [hc]; simp⟩
theorem gv_size {g : Gr} (h : ¬ (1 ≤ g.ns.length ∧ g.ns.length ≤ 8 ∧ g.es.length ≤ 14)) : gv g = false := by
  unfold gv
  by_cases a : 1 ≤ g.ns.length
  · by_cases b : g.ns.length ≤ 8
    · rw [decide_eq_false (p := g.es.length ≤ 14) (by omega)]; simp
    · rw [decide_eq_false (p := g.ns.length ≤ 8) b]; simp
  · rw [decide_eq_false (p := 1 ≤ g.ns.length) a]; simp
theorem gv_in {g : Gr} (h : 1 ≤ g.ns.length ∧ g.ns.length ≤ 8 ∧ g.es.length ≤ 14) : gv g = (g.ns.all ndV && g.es.all (edV g.ns.length)) := by
  unfold gv; rw [decide_eq_true h.1, decide_eq_true h.2.1, decide_eq_true h.2.2]; rfl

end Go.Proofs.Ytfdkmngkpihpbaa
