/- slices.Grow of nil and slices.Concat at nodes and edges. -/
import Derived.Test.YtfdkmngkpihpbaaEdges
import Derived.Lib.AppendZeros
import Derived.Lib.AppendZerosOnto
namespace Go.Proofs.Ytfdkmngkpihpbaa
open Go.RowKit

/-- The cells of flat elements, one behind the other. -/
def flat {α : Type} (enc : α → List Value) (xs : List α) : List Value := xs.flatMap enc
theorem flat_length {α : Type} {enc : α → List Value} {sz : Nat} (h : ∀ x, (enc x).length = sz) : ∀ xs : List α, (flat enc xs).length = xs.length * sz
  | [] => by simp [flat]
  | x :: xs => by
    have := flat_length h xs
    simp only [flat, List.flatMap_cons, List.length_append, List.length_cons] at *
    rw [h, this, Nat.succ_mul]; omega
theorem flat_append {α : Type} (enc : α → List Value) (xs ys : List α) : flat enc (xs ++ ys) = flat enc xs ++ flat enc ys := by simp [flat]
theorem flat_at {α : Type} {enc : α → List Value} {sz : Nat} (h : ∀ x, (enc x).length = sz) : ∀ (xs : List α) (i : Nat) (hi : i < xs.length) (j : Nat) (x : Value), (enc xs[i])[j]? = some x → (flat enc xs)[i * sz + j]? = some x
  | x :: xs, 0, _, j, v, hv => by
    have hj : j < (enc x).length := (List.getElem?_eq_some_iff.1 hv).1
    simp only [flat, List.flatMap_cons, Nat.zero_mul, Nat.zero_add]
    rw [List.getElem?_append_left hj]; exact hv
  | x :: xs, i + 1, hi, j, v, hv => by
    have := flat_at h xs i (by simpa using hi) j v (by simpa using hv)
    simp only [flat, List.flatMap_cons]
    rw [List.getElem?_append_right (by rw [h, Nat.succ_mul]; omega), h]
    rw [show (i + 1) * sz + j - sz = i * sz + j by rw [Nat.succ_mul]; omega]; exact this
theorem flat_back {α : Type} {enc : α → List Value} {sz : Nat} (h : ∀ x, (enc x).length = sz) : ∀ (xs : List α) (q : Nat) (v : Value), (flat enc xs)[q]? = some v → ∃ i, ∃ hi : i < xs.length, ∃ j, q = i * sz + j ∧ (enc xs[i])[j]? = some v
  | [], q, v, hv => by simp [flat] at hv
  | x :: xs, q, v, hv => by
    simp only [flat, List.flatMap_cons] at hv
    by_cases hq : q < sz
    · rw [List.getElem?_append_left (by rw [h]; exact hq)] at hv
      exact ⟨0, by simp, q, by simp, by simpa using hv⟩
    · rw [List.getElem?_append_right (by rw [h]; omega), h] at hv
      obtain ⟨i, hi, j, e, hj⟩ := flat_back h xs (q - sz) v hv
      exact ⟨i + 1, by simpa using hi, j, by rw [Nat.succ_mul]; omega, by simpa using hj⟩
/-- A slice's cells, for a law on append. -/
theorem Sl.cells {α : Type} {enc : α → List Value} {sz : Nat} (h : ∀ x, (enc x).length = sz) {B : Nat} {w : World} {p : Option Addr} {len cap : Nat} {xs : List α} (hs : Sl sz enc B w (.slice p len cap) xs) :
    ∀ ad, p = some ad → ∀ j u, (flat enc xs)[j]? = some u → w.cell? (ad.add j) = some u := by
  intro ad hp j u hu
  obtain ⟨p', len', cap', h1, h2, h3, h4, h5⟩ := hs
  cases h1
  obtain ⟨i, hi, k, rfl, hk⟩ := flat_back h xs j u hu
  obtain ⟨b, off, e1, e2, e3⟩ := h5 i hi
  rw [e1] at hp
  cases hp
  rw [WideShapes.add_plain, ← Nat.add_assoc]
  exact e3 k u hk
theorem Sl.atNone {α : Type} {enc : α → List Value} {sz : Nat} {B : Nat} {w : World} {len cap : Nat} {xs : List α} (hs : Sl sz enc B w (.slice none len cap) xs) : len = 0 := by
  obtain ⟨p', len', cap', h1, h2, h3, h4, h5⟩ := hs
  cases h1
  rw [h2]
  cases xs with
  | nil => rfl
  | cons x xs => obtain ⟨b, off, e1, _⟩ := h5 0 (by simp); cases e1
/-- A row of the call's own, as owned elements. -/
theorem own_of_flat {α : Type} {enc : α → List Value} {sz : Nat} (hen : ∀ x, (enc x).length = sz) {w : World} {base : Nat} {e : TypeId} {v : Value} {n : Nat} {xs : List α} (hn : n = xs.length) (h : w.ownsRow base e sz v n (flat enc xs)) : ∃ F, OwnSl sz enc w v xs F ∧ ∀ x ∈ F, base ≤ x := by
  subst hn
  obtain ⟨hl, h⟩ := h
  rcases h with ⟨rfl, h0⟩ | ⟨g, cap, cur, rfl, hb, hg, hn, hc, hs, ht⟩
  · exact ⟨[], ⟨none, 0, 0, rfl, h0.symm, Nat.le_refl _, Nat.zero_le _, .inl ⟨List.eq_nil_of_length_eq_zero h0, rfl⟩⟩, by simp⟩
  · refine ⟨[g], ⟨_, _, _, rfl, rfl, hn, hc, .inr ⟨g, 0, rfl, rfl, (Array.getElem?_eq_some_iff.1 hg).1, fun o => by simp [World.frozen?, hg], fun i hi j x hx => ?_⟩⟩, by simpa using hb⟩
    have e1 := flat_at hen xs i hi j x hx
    have hj : j < sz := by rw [← hen xs[i]]; exact (List.getElem?_eq_some_iff.1 hx).1
    have hle : i * sz + sz ≤ xs.length * sz := by rw [← Nat.succ_mul]; exact Nat.mul_le_mul_right _ hi
    rw [← ht, List.getElem?_take_of_lt (by omega)] at e1
    simp only [World.cell?, hg, Nat.zero_add]
    rw [← e1]; simp

/-- The lengths of the first k parts, together. -/
def upTo {α : Type} (L : List (Value × List α)) (k : Nat) : Nat := ((L.take k).map fun x => x.2.length).sum
def joined {α : Type} (L : List (Value × List α)) (k : Nat) : List α := (L.take k).flatMap (·.2)
theorem upTo_succ {α : Type} (L : List (Value × List α)) {k : Nat} (h : k < L.length) : upTo L (k + 1) = upTo L k + L[k].2.length := by
  unfold upTo; rw [List.take_succ_eq_append_getElem h, List.map_append, List.sum_append]; simp
theorem joined_succ {α : Type} (L : List (Value × List α)) {k : Nat} (h : k < L.length) : joined L (k + 1) = joined L k ++ L[k].2 := by
  unfold joined; rw [List.take_succ_eq_append_getElem h, List.flatMap_append]; simp
theorem upTo_le {α : Type} (L : List (Value × List α)) (k : Nat) : upTo L k ≤ upTo L L.length := by
  unfold upTo
  have := congrArg (fun l => (l.map fun x : Value × List α => x.2.length).sum) (List.take_append_drop k L)
  simp only [List.map_append, List.sum_append] at this
  rw [List.take_of_length_le (Nat.le_refl _)]; omega
theorem joined_length {α : Type} (L : List (Value × List α)) : ∀ k, (joined L k).length = upTo L k
  | k => by unfold joined upTo; rw [List.length_flatMap]
theorem run_append_nil0 (w : World) (t ty e : TypeId) (i : TypeInfo) (ht : Try.prog.underlying t = some (.slice e)) (hi : Try.prog.info? e = some i) (p : Option Addr) (c : Nat) :
    (Builtin.append_ #[t, t] ty #[.slice none 0 0, .slice p 0 c]).run Try.prog w = .ok (.slice none 0 0) w := by
  have hf : (Builtin.firstCells i.size 0 (.slice p 0 c)).run Try.prog w = .ok #[] w := by
    cases p with
    | none => exact run_firstCells_none w i.size 0 0 c
    | some a => exact run_firstCells_some w i.size 0 a 0 c [] (by simp) (by simp)
  simp [Builtin.append_, run_underlying ht, sizeOf, typeInfo, hi, Builtin.lenOf, hf]
theorem run_append_room0 (w : World) (t ty e : TypeId) (i : TypeInfo) (ht : Try.prog.underlying t = some (.slice e)) (hi : Try.prog.info? e = some i) (a : Addr) (n gc c : Nat) (hn : n ≤ gc) :
    (Builtin.append_ #[t, t] ty #[.slice (some a) n gc, .slice none 0 c]).run Try.prog w = .ok (.slice (some a) n gc) w := by
  have hf := run_firstCells_none (P := Try.prog) w i.size 0 0 c
  simp [Builtin.append_, run_underlying ht, sizeOf, typeInfo, hi, Builtin.lenOf, hf, hn, storeCells]

theorem flat_oneNode (xs : List Nd) : ∀ u ∈ flat Nd.cells xs, u.oneCell' = true := by
  intro u hu
  obtain ⟨x, _, hx⟩ := List.mem_flatMap.1 hu
  simp [Nd.cells] at hx
  rcases hx with rfl | rfl <;> rfl

theorem flat_oneEdge (xs : List Ed) : ∀ u ∈ flat Ed.cells xs, u.oneCell' = true := by
  intro u hu
  obtain ⟨x, _, hx⟩ := List.mem_flatMap.1 hu
  simp [Ed.cells] at hx
  rcases hx with rfl | rfl | rfl | rfl <;> rfl

end Go.Proofs.Ytfdkmngkpihpbaa
