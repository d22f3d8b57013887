/- SliceRows: pure; what both sides keep. -/
import Derived.Test.YtfdkmngkpihpbaaTbB
import Derived.Test.YtfdkmngkpihpbaaTbVs
namespace Go.Proofs.Ytfdkmngkpihpbaa
open Go.RowKit

def cutB (x : Tb) (s c : Int) : Bool := x.ok && decide (0 ≤ s) && decide (s ≤ 400) && decide (0 ≤ c) && decide (c ≤ 400)
def cutFrom (x : Tb) (s : Int) : Nat := min s.toNat x.rs.length
def cutTo (x : Tb) (s c : Int) : Nat := min (cutFrom x s + c.toNat) x.rs.length
def cutRows (x : Tb) (s c : Int) : List (List Int) := (x.rs.take (cutTo x s c)).drop (cutFrom x s)
def cutR (x : Tb) (s c : Int) : Tb := if cutB x s c = true then ⟨x.cs, cutRows x s c⟩ else noTb
theorem sumR_drop (xs : List (List Int)) (k : Nat) : sumR (xs.drop k) ≤ sumR xs := by
  unfold sumR
  have := congrArg (fun l => (l.map List.length).sum) (List.take_append_drop k xs)
  simp only [List.map_append, List.sum_append] at this; omega
theorem cutRows_need (x : Tb) (s c : Int) : (cutRows x s c).length + sumR (cutRows x s c) ≤ x.rs.length + sumR x.rs := by
  unfold cutRows
  have h1 := sumR_drop (x.rs.take (cutTo x s c)) (cutFrom x s)
  have h2 := sumR_le x.rs (cutTo x s c)
  rw [List.length_drop, List.length_take]
  omega
theorem sub_ok {x : Tb} {ys : List (List Int)} (h : x.ok = true) (hl : ys.length ≤ x.rs.length) (hs : ∀ y ∈ ys, y ∈ x.rs) : (Tb.mk x.cs ys).ok = true := by
  unfold Tb.ok at h ⊢
  simp only [Bool.and_eq_true, decide_eq_true_eq, List.all_eq_true] at h ⊢
  exact ⟨⟨h.1.1, by omega⟩, fun y hy => h.2 y (hs y hy)⟩
theorem cut_ok {x : Tb} {s c : Int} (h : x.ok = true) : (Tb.mk x.cs (cutRows x s c)).ok = true :=
  sub_ok h (by unfold cutRows; rw [List.length_drop, List.length_take]; omega) fun y hy => List.mem_of_mem_take (List.mem_of_mem_drop hy)
theorem cutB_ok {x : Tb} {s c : Int} (h : x.ok = false) : cutB x s c = false := by unfold cutB; rw [h]; rfl
theorem cutB_1 {x : Tb} {s c : Int} (h : s < 0) : cutB x s c = false := by unfold cutB; rw [decide_eq_false (p := 0 ≤ s) (by omega)]; simp
theorem cutB_2 {x : Tb} {s c : Int} (h : 400 < s) : cutB x s c = false := by unfold cutB; rw [decide_eq_false (p := s ≤ 400) (by omega)]; simp
theorem cutB_3 {x : Tb} {s c : Int} (h : c < 0) : cutB x s c = false := by unfold cutB; rw [decide_eq_false (p := 0 ≤ c) (by omega)]; simp
theorem cutB_4 {x : Tb} {s c : Int} (h : 400 < c) : cutB x s c = false := by unfold cutB; rw [decide_eq_false (p := c ≤ 400) (by omega)]; simp
theorem cutB_yes {x : Tb} {s c : Int} (h : x.ok = true) (h1 : ¬ s < 0) (h2 : ¬ 400 < s) (h3 : ¬ c < 0) (h4 : ¬ 400 < c) : cutB x s c = true := by
  unfold cutB; rw [h, decide_eq_true (p := 0 ≤ s) (by omega), decide_eq_true (p := s ≤ 400) (by omega), decide_eq_true (p := 0 ≤ c) (by omega), decide_eq_true (p := c ≤ 400) (by omega)]; rfl
theorem cutR_no {x : Tb} {s c : Int} (h : cutB x s c = false) : cutR x s c = noTb := by unfold cutR; rw [h]; rfl
theorem cutR_yes {x : Tb} {s c : Int} (h : cutB x s c = true) : cutR x s c = ⟨x.cs, cutRows x s c⟩ := by unfold cutR; rw [h]; rfl
/-- The part of the rows as a slice: behind the capacity, or not. -/
theorem cut_at {x : Tb} {B : Nat} {E : World} {q : Option Addr} {n d : Nat} {s c : Int} {f t : Nat} (h : kRow.Rd B E (.slice q n d) x.rs) (hf : f = cutFrom x s) (ht : t = cutTo x s c) : kRow.Rd B E (.slice (q.map (fun a => a.add f)) (t - f) (d - f)) (cutRows x s c) := by
  have hl : t ≤ x.rs.length := by rw [ht]; unfold cutTo; omega
  have hft : f ≤ t := by rw [hf, ht]; unfold cutTo cutFrom; omega
  have h1 := (Kd.Rd.take h hl).drop rfl (k := f) (by rw [List.length_take]; omega)
  rw [List.length_take, Nat.min_eq_left hl] at h1
  unfold cutRows
  rw [← hf, ← ht]
  exact h1
theorem cut_at0 {x : Tb} {B : Nat} {E : World} {q : Option Addr} {n d : Nat} {s c : Int} {f : Nat} (h : kRow.Rd B E (.slice q n d) x.rs) (hf : f = cutFrom x s) (hd : d = f) : kRow.Rd B E (.slice q 0 0) (cutRows x s c) := by
  have hm := h.max
  have hl : cutTo x s c ≤ f := by unfold cutTo; omega
  have he : cutRows x s c = [] := List.eq_nil_of_length_eq_zero (by unfold cutRows; rw [List.length_drop, List.length_take]; omega)
  rw [he]
  exact Kd.Rd.nil (Nat.zero_le _)
/-- What a call of SliceRows keeps: the variable of the table and the result's cells. -/
def Kept (x : Tb) (p : Option Addr) (c : Nat) (q : Option Addr) (d : Nat) (w E : World) : Prop :=
  (w.heap.size + 2 ≤ E.heap.size ∧ (E.cell? ⟨w.heap.size, 0, none⟩ = some (.slice p x.cs.length c) ∧ E.cell? ⟨w.heap.size, 1, none⟩ = some (.slice q x.rs.length d))) ∧ (E.cell? ⟨w.heap.size + 1, 0, none⟩ = some (.slice none 0 0) ∧ E.cell? ⟨w.heap.size + 1, 1, none⟩ = some (.slice none 0 0)) ∧ E.frozen? ⟨w.heap.size + 1, 0, none⟩ = false ∧ E.frozen? ⟨w.heap.size + 1, 1, none⟩ = false
theorem kept_of {x : Tb} {p : Option Addr} {c : Nat} {q : Option Addr} {d : Nat} {w E : World} {t t' : TypeId} (hE : Below (w.heap.size + 2) ((w.alloc (.cells #[.slice p x.cs.length c, .slice q x.rs.length d] t)).alloc (.cells #[.slice none 0 0, .slice none 0 0] t')) E) : Kept x p c q d w E :=
  ⟨⟨by have := hE.size; simp at this; omega, keepc hE (by omega) (by simp [go_sem]), keepc hE (by omega) (by simp [go_sem])⟩, ⟨keepc hE (by omega) (by simp [go_sem]), keepc hE (by omega) (by simp [go_sem])⟩, (hE.frozen (p := ⟨w.heap.size + 1, 0, none⟩) (by show w.heap.size + 1 < w.heap.size + 2; omega)).trans (by simp [go_sem]), (hE.frozen (p := ⟨w.heap.size + 1, 1, none⟩) (by show w.heap.size + 1 < w.heap.size + 2; omega)).trans (by simp [go_sem])⟩
theorem tw_yes {cs : List ByteArray} {rs : List (List Int)} {va vb : Value} {w : World} (h : (Tb.mk cs rs).ok = true) (hc : Calls Try.prog 57 #[va, vb] w (TbPost (twR ⟨cs, rs⟩) (Tb.ok ⟨cs, rs⟩) w)) : Calls Try.prog 57 #[va, vb] w (TbPost ⟨cs, rs⟩ true w) := by
  rw [h, show twR ⟨cs, rs⟩ = ⟨cs, rs⟩ by unfold twR; rw [if_pos h]] at hc
  exact hc
theorem cutR_small {x : Tb} {s c : Int} (h : x.need ≤ 1048576) : (cutR x s c).cs.length + sumR (cutR x s c).rs ≤ 1048576 := by
  unfold Tb.need at h
  unfold cutR
  split
  · have h1 := cutRows_need x s c
    have h2 : sumR (cutRows x s c) ≤ sumR x.rs := by
      unfold cutRows
      exact Nat.le_trans (sumR_drop _ _) (sumR_le _ _)
    show x.cs.length + sumR (cutRows x s c) ≤ 1048576
    omega
  · simp [noTb, sumR]
end Go.Proofs.Ytfdkmngkpihpbaa
