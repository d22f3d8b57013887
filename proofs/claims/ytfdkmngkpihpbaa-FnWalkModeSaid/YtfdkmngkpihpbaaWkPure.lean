/- Walks: what the functions of chapter 5 answer; no program. -/
import Derived.Test.YtfdkmngkpihpbaaWk
import Derived.Test.YtfdkmngkpihpbaaGSame
import Derived.Test.YtfdkmngkpihpbaaGValid
namespace Go.Proofs.Ytfdkmngkpihpbaa
open Go.RowKit

def intE (x y : Int) : Bool := x == y
def wkShape (x : Wk) : Bool := decide (x.ns.length = x.es.length + 1) && decide (x.es.length ≤ 8)
theorem wkShape_iff {x : Wk} : wkShape x = true ↔ x.ns.length = x.es.length + 1 ∧ x.es.length ≤ 8 := by simp [wkShape]
theorem wkShape_not {x : Wk} : wkShape x = false ↔ ¬ (x.ns.length = x.es.length + 1 ∧ x.es.length ≤ 8) := by rw [← wkShape_iff]; simp
def wkEq (a b : Wk) : Bool := eqL intE a.ns b.ns && eqL intE a.es b.es

/-- None of the first k numbers stands further ahead in the list. -/
def Once (xs : List Int) (k : Nat) : Prop := ∀ (i j : Nat) (hi : i < xs.length) (hj : j < i), i < k → xs[j] ≠ xs[i]
theorem Once.zero (xs : List Int) : Once xs 0 := fun _ _ _ _ h => by omega
theorem Once.succ {xs : List Int} {k : Nat} (h : Once xs k) (hn : ∀ (j : Nat) (hk : k < xs.length) (hj : j < k), xs[j] ≠ xs[k]) : Once xs (k + 1) := by
  intro i j hi hj hik
  by_cases e : i = k
  · subst e; exact hn j hi hj
  · exact h i j hi hj (by omega)
def onceB (xs : List Int) : Bool := decide xs.Nodup
theorem onceB_yes {xs : List Int} {k : Nat} (h : Once xs k) (hk : xs.length ≤ k) : onceB xs = true := by
  unfold onceB
  rw [decide_eq_true_iff, List.Nodup, List.pairwise_iff_getElem]
  intro i j hi hj hij
  exact h j i hj hij (by omega)
theorem onceB_no {xs : List Int} {i j : Nat} (hi : i < xs.length) (hj : j < i) (h : xs[j] = xs[i]) : onceB xs = false := by
  unfold onceB
  rw [decide_eq_false_iff_not, List.Nodup, List.pairwise_iff_getElem]
  intro hn
  exact hn j i (by omega) hi hj h

def modeB (x : Wk) (m : Int) : Bool :=
  if m = 1 then true else if m = 2 then onceB x.es else if m = 3 then onceB x.ns else if m = 4 then onceB (x.ns.drop 1) && onceB (x.ns.take x.es.length) else false
def wkMode (x : Wk) (m : Int) : Bool := wkShape x && modeB x m
/-- A walk's nodes, but for the first one and the last one, are there once: both readings. -/
theorem simple_iff {x : Wk} (h : wkShape x = true) (h0 : 0 < x.ns.length) (h1 : x.ns.length - 1 < x.ns.length) : (onceB (x.ns.drop 1) && onceB (x.ns.take x.es.length)) = if 1 < x.ns.length ∧ x.ns[0] = x.ns[x.ns.length - 1] then onceB (x.ns.drop 1) else onceB x.ns := by
  obtain ⟨hs, _⟩ := wkShape_iff.1 h
  obtain ⟨ns, es⟩ := x
  simp only at *
  unfold onceB
  have key : es.length = ns.length - 1 := by omega
  rw [key]
  have hnd : ∀ l : List Int, l.Nodup ↔ ∀ (i j : Nat) (hi : i < l.length) (hj : j < l.length), i < j → l[i] ≠ l[j] := fun l => by rw [List.Nodup, List.pairwise_iff_getElem]
  by_cases hc : 1 < ns.length ∧ ns[0] = ns[ns.length - 1]
  · rw [if_pos hc]
    by_cases ht : (ns.drop 1).Nodup
    · have hi : (ns.take (ns.length - 1)).Nodup := by
        rw [hnd] at ht ⊢
        intro i j hi hj hij
        simp only [List.length_take, List.length_drop] at hi hj ht
        rw [List.getElem_take, List.getElem_take]
        by_cases e : i = 0
        · subst e
          have := ht (j - 1) (ns.length - 2) (by omega) (by omega) (by omega)
          rw [List.getElem_drop, List.getElem_drop] at this
          simp only [show 1 + (j - 1) = j by omega, show 1 + (ns.length - 2) = ns.length - 1 by omega] at this
          rw [hc.2]; exact fun e => this e.symm
        · have := ht (i - 1) (j - 1) (by omega) (by omega) (by omega)
          rw [List.getElem_drop, List.getElem_drop] at this
          simp only [show 1 + (j - 1) = j by omega, show 1 + (i - 1) = i by omega] at this
          exact this
      rw [decide_eq_true ht, decide_eq_true hi]; rfl
    · rw [decide_eq_false ht]; rfl
  · rw [if_neg hc]
    by_cases ha : ns.Nodup
    · have h1 : (ns.drop 1).Nodup := ha.sublist (List.drop_sublist 1 ns)
      have h2 : (ns.take (ns.length - 1)).Nodup := ha.sublist (List.take_sublist _ ns)
      rw [decide_eq_true ha, decide_eq_true h1, decide_eq_true h2]; rfl
    · have : ¬ ((ns.drop 1).Nodup ∧ (ns.take (ns.length - 1)).Nodup) := by
        rintro ⟨ht, hi⟩
        apply ha
        rw [hnd] at ht hi ⊢
        intro i j hli hlj hij
        simp only [List.length_take, List.length_drop] at ht hi
        by_cases e : i = 0
        · subst e
          by_cases e2 : j = ns.length - 1
          · subst e2; exact fun e => hc ⟨by omega, e⟩
          · have := hi 0 j (by omega) (by omega) hij
            rw [List.getElem_take, List.getElem_take] at this
            exact this
        · have := ht (i - 1) (j - 1) (by omega) (by omega) (by omega)
          rw [List.getElem_drop, List.getElem_drop] at this
          simp only [show 1 + (j - 1) = j by omega, show 1 + (i - 1) = i by omega] at this
          exact this
      rw [decide_eq_false ha]
      exact Bool.eq_false_iff.2 fun hh => this (by simpa only [Bool.and_eq_true, decide_eq_true_eq] using hh)

/-- The order of two lists: -1, 0, 1. -/
def cmpL : List Int → List Int → Int
  | [], [] => 0
  | [], _ :: _ => -1
  | _ :: _, [] => 1
  | x :: xs, y :: ys => if x < y then -1 else if y < x then 1 else cmpL xs ys
theorem cmpL_cases : ∀ xs ys, cmpL xs ys = -1 ∨ cmpL xs ys = 0 ∨ cmpL xs ys = 1
  | [], [] => by simp [cmpL]
  | [], _ :: _ => by simp [cmpL]
  | _ :: _, [] => by simp [cmpL]
  | x :: xs, y :: ys => by
    unfold cmpL
    split
    · simp
    · split
      · simp
      · exact cmpL_cases xs ys
/-- The first k places agree. -/
def Alike (xs ys : List Int) (k : Nat) : Prop := cmpL xs ys = cmpL (xs.drop k) (ys.drop k)
theorem Alike.zero (xs ys : List Int) : Alike xs ys 0 := by simp [Alike]
theorem Alike.step {xs ys : List Int} {k : Nat} (h : Alike xs ys k) (h1 : k < xs.length) (h2 : k < ys.length) :
    cmpL xs ys = if xs[k] < ys[k] then -1 else if ys[k] < xs[k] then 1 else cmpL (xs.drop (k + 1)) (ys.drop (k + 1)) := by
  unfold Alike at h
  rw [h, List.drop_eq_getElem_cons h1, List.drop_eq_getElem_cons h2]
  rfl
theorem Alike.lt {xs ys : List Int} {k : Nat} (h : Alike xs ys k) (h1 : k < xs.length) (h2 : k < ys.length) (hc : xs[k] < ys[k]) : cmpL xs ys = -1 := by rw [h.step h1 h2, if_pos hc]
theorem Alike.gt {xs ys : List Int} {k : Nat} (h : Alike xs ys k) (h1 : k < xs.length) (h2 : k < ys.length) (hc : ys[k] < xs[k]) : cmpL xs ys = 1 := by rw [h.step h1 h2, if_neg (by omega), if_pos hc]
theorem Alike.eq {xs ys : List Int} {k : Nat} (h : Alike xs ys k) (h1 : k < xs.length) (h2 : k < ys.length) (hc : ¬ xs[k] < ys[k]) (hd : ¬ ys[k] < xs[k]) : Alike xs ys (k + 1) := by
  unfold Alike; rw [h.step h1 h2, if_neg hc, if_neg hd]
theorem Alike.long {xs ys : List Int} {k : Nat} (h : Alike xs ys k) (h1 : k < xs.length) (h2 : ys.length ≤ k) : cmpL xs ys = 1 := by
  unfold Alike at h
  rw [h, List.drop_eq_getElem_cons h1, List.drop_of_length_le h2]; rfl
theorem Alike.short {xs ys : List Int} {k : Nat} (h : Alike xs ys k) (h1 : xs.length ≤ k) (h2 : k < ys.length) : cmpL xs ys = -1 := by
  unfold Alike at h
  rw [h, List.drop_eq_getElem_cons h2, List.drop_of_length_le h1]; rfl
theorem Alike.same {xs ys : List Int} {k : Nat} (h : Alike xs ys k) (h1 : xs.length ≤ k) (h2 : ys.length ≤ k) : cmpL xs ys = 0 := by
  unfold Alike at h
  rw [h, List.drop_of_length_le h1, List.drop_of_length_le h2]; rfl
def cmpI (a b : Int) : Int := if a < b then -1 else if b < a then 1 else 0
/-- The order of two walks: -1, 0, 1. -/
def cmpW (a b : Wk) : Int :=
  if cmpI a.es.length b.es.length ≠ 0 then cmpI a.es.length b.es.length else if cmpL a.ns b.ns ≠ 0 then cmpL a.ns b.ns else cmpL a.es b.es
def wkBefore (a b : Wk) : Bool := decide (cmpW a b < 0)

def wkTurn (x : Wk) : Wk := ⟨x.ns.reverse, x.es.reverse⟩
def joinOk (a b : Wk) : Bool := wkShape a && wkShape b && (a.ns.getLast? == b.ns.head?) && decide (a.es.length + b.es.length ≤ 8)
def wkJoin (a b : Wk) : Wk := if joinOk a b then ⟨a.ns ++ b.ns.drop 1, a.es ++ b.es⟩ else ⟨[], []⟩
end Go.Proofs.Ytfdkmngkpihpbaa
