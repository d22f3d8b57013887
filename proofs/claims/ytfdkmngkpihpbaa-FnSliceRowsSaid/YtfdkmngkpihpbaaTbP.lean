/- Tables that are valid, and places of columns: pure. -/
import Derived.Test.YtfdkmngkpihpbaaTb
import Derived.Test.YtfdkmngkpihpbaaLabel
namespace Go.Proofs.Ytfdkmngkpihpbaa
open Go.RowKit

theorem bytes_of {a b : ByteArray} (h : a.toList = b.toList) : a = b := by
  rw [ByteArray.toList_eq, ByteArray.toList_eq] at h
  exact ByteArray.ext (Array.toList_inj.1 h)
theorem str_same {a b : ByteArray} (h : a = b) : (a.toList == b.toList) = true := by subst h; simp
theorem str_diff {a b : ByteArray} (h : a ≠ b) : (a.toList == b.toList) = false := beq_eq_false_iff_ne.2 fun e => h (bytes_of e)
/-- The first k of a row have p. -/
def AllTo {α : Type} (p : α → Bool) (xs : List α) (k : Nat) : Prop := (xs.take k).all p = true
theorem AllTo.zero {α : Type} (p : α → Bool) (xs : List α) : AllTo p xs 0 := rfl
theorem AllTo.succ {α : Type} {p : α → Bool} {xs : List α} {k : Nat} (h : AllTo p xs k) (hk : k < xs.length) (hp : p xs[k] = true) : AllTo p xs (k + 1) := by
  unfold AllTo at *
  rw [List.take_succ_eq_append_getElem hk, List.all_append, h]
  simp only [List.all_cons, List.all_nil, Bool.and_true, Bool.true_and]; exact hp
theorem AllTo.full {α : Type} {p : α → Bool} {xs : List α} (h : AllTo p xs xs.length) : xs.all p = true := by unfold AllTo at h; rwa [List.take_length] at h
theorem all_no {α : Type} {p : α → Bool} {xs : List α} {k : Nat} (hk : k < xs.length) (hp : p xs[k] = false) : xs.all p = false := by
  rw [List.all_eq_false]; exact ⟨_, List.getElem_mem hk, by rw [hp]; exact Bool.false_ne_true⟩
/-- The first k of a row are there once. -/
def OnceA {α : Type} (xs : List α) (k : Nat) : Prop := (xs.take k).Nodup
theorem OnceA.zero {α : Type} (xs : List α) : OnceA xs 0 := by simp [OnceA]
theorem OnceA.succ {α : Type} {xs : List α} {k : Nat} (h : OnceA xs k) (hk : k < xs.length) (hn : xs[k] ∉ xs.take k) : OnceA xs (k + 1) := by
  unfold OnceA at *
  rw [List.take_succ_eq_append_getElem hk, List.nodup_append]
  refine ⟨h, by simp, fun a ha b hb => ?_⟩
  simp only [List.mem_singleton] at hb
  subst hb
  rintro rfl
  exact hn ha
theorem OnceA.full {α : Type} {xs : List α} (h : OnceA xs xs.length) : xs.Nodup := by unfold OnceA at h; rwa [List.take_length] at h
theorem once_bad {α : Type} {xs : List α} {k : Nat} (hk : k < xs.length) (hn : xs[k] ∈ xs.take k) : ¬ xs.Nodup := fun h => by
  have h2 : (xs.take (k + 1)).Nodup := h.sublist (List.take_sublist _ _)
  rw [List.take_succ_eq_append_getElem hk, List.nodup_append] at h2
  exact h2.2.2 _ hn _ (by simp) rfl
def okNum (n : Int) : Bool := decide (-1 ≤ n) && decide (n ≤ 1000)
def rowOk (k : Nat) (r : List Int) : Bool := decide (r.length = k) && r.all okNum
def onceS (cs : List ByteArray) : Bool := decide cs.Nodup
def tbNames (cs : List ByteArray) : Bool := decide (1 ≤ cs.length) && decide (cs.length ≤ 6) && onceS cs && cs.all lv
def Tb.ok (x : Tb) : Bool := tbNames x.cs && decide (x.rs.length ≤ 400) && x.rs.all (rowOk x.cs.length)
/-- The place of a column, or -1. -/
def colAt : List ByteArray → ByteArray → Int
  | [], _ => -1
  | s :: r, z => if s = z then 0 else if colAt r z < 0 then -1 else colAt r z + 1
theorem colAt_miss : ∀ {xs : List ByteArray} {z : ByteArray}, z ∉ xs → colAt xs z = -1
  | [], _, _ => rfl
  | s :: r, z, h => by
    have h1 : s ≠ z := fun e => h (by simp [e])
    have h2 : colAt r z = -1 := colAt_miss fun e => h (by simp [e])
    unfold colAt; rw [if_neg h1, h2]; rfl
theorem colAt_hit : ∀ {xs : List ByteArray} {z : ByteArray} {k : Nat} (hk : k < xs.length), xs[k] = z → z ∉ xs.take k → colAt xs z = k
  | s :: r, z, 0, _, h, _ => by
    unfold colAt; rw [if_pos (by simpa using h)]; rfl
  | s :: r, z, k + 1, hk, h, hn => by
    have h1 : s ≠ z := fun e => hn (by simp [e])
    have h2 : colAt r z = k := colAt_hit (by simpa using hk) (by simpa using h) (fun e => hn (by simp [e]))
    unfold colAt; rw [if_neg h1, h2, if_neg (by omega)]; push_cast; rfl
theorem colAt_range (xs : List ByteArray) (z : ByteArray) : -1 ≤ colAt xs z ∧ colAt xs z < xs.length := by
  induction xs with
  | nil => simp [colAt]
  | cons s r ih =>
    unfold colAt
    split
    · first | (simp; done) | (simp; omega)
    · split
      · first | (simp; done) | (simp; omega)
      · rw [List.length_cons]; push_cast; omega
theorem colAt_mem {xs : List ByteArray} {z : ByteArray} : 0 ≤ colAt xs z ↔ z ∈ xs := by
  induction xs with
  | nil => simp [colAt]
  | cons s r ih =>
    unfold colAt
    split
    · rename_i h; simp [h]
    · rename_i h
      have h' : ¬ z = s := fun e => h e.symm
      split
      · rename_i h2
        have : z ∉ r := fun hm => by have := ih.2 hm; omega
        simp [h', this]
      · rename_i h2
        have : z ∈ r := ih.1 (by omega)
        simp [this]; omega
/-- Whether a text is in a row. -/
def hasS (xs : List ByteArray) (z : ByteArray) : Bool := decide (0 ≤ colAt xs z)
theorem hasS_yes {xs : List ByteArray} {z : ByteArray} (h : z ∈ xs) : hasS xs z = true := decide_eq_true (colAt_mem.2 h)
theorem hasS_no {xs : List ByteArray} {z : ByteArray} (h : z ∉ xs) : hasS xs z = false := decide_eq_false fun h2 => h (colAt_mem.1 h2)
namespace Kd
variable {α : Type}
theorem Rd.take {K : Kd α} {B : Nat} {w : World} {p : Option Addr} {n cap : Nat} {xs : List α} (h : K.Rd B w (.slice p n cap) xs) {k : Nat} (hk : k ≤ xs.length) : K.Rd B w (.slice p k cap) (xs.take k) := by
  obtain ⟨p', cap', h1, h2, h3, h4⟩ := h
  cases h1
  refine ⟨_, _, by rw [List.length_take, Nat.min_eq_left hk], by rw [List.length_take]; omega, h3, fun i hi => ?_⟩
  rw [List.length_take] at hi
  obtain ⟨b, off, cs, e, hl, hc, hr⟩ := h4 i (by omega)
  exact ⟨b, off, cs, e, hl, hc, by rwa [List.getElem_take]⟩
theorem at_add (b off k : Nat) : (some (⟨b, off, none⟩ : Addr)).map (fun a => a.add k) = some ⟨b, off + k, none⟩ := by simp [Addr.add]
theorem Rd.drop {K : Kd α} (hs : K.sz = 1) {B : Nat} {w : World} {p : Option Addr} {n cap : Nat} {xs : List α} (h : K.Rd B w (.slice p n cap) xs) {k : Nat} (hk : k ≤ xs.length) : K.Rd B w (.slice (p.map (fun a => a.add k)) (xs.length - k) (cap - k)) (xs.drop k) := by
  obtain ⟨p', cap', h1, h2, h3, h4⟩ := h
  cases h1
  refine ⟨_, _, by rw [List.length_drop], by rw [List.length_drop]; omega, by omega, fun i hi => ?_⟩
  rw [List.length_drop] at hi
  obtain ⟨b, off, cs, rfl, hl, hc, hr⟩ := h4 (k + i) (by omega)
  refine ⟨b, off + k, cs, at_add _ _ _, hl, fun j u hu => ?_, by rwa [List.getElem_drop]⟩
  have := hc j u hu
  rw [hs, Nat.mul_one] at this ⊢
  rw [show off + k + i + j = off + (k + i) + j by omega]; exact this
end Kd
end Go.Proofs.Ytfdkmngkpihpbaa
