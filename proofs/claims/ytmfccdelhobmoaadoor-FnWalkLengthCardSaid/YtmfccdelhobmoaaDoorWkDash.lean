/- The signs in a walk's text: two for each edge; no program. -/
import Derived.Test.YtmfccdelhobmoaaDoorWkF
namespace Go.Proofs.YtmfccdelhobmoaaDoor
open Go.RowKit

/-- How many of the first k bytes are signs. -/
def dash (s : ByteArray) (k : Nat) : Nat := (s.data.toList.take k).count 45
theorem dash_zero (s : ByteArray) : dash s 0 = 0 := by simp [dash]
theorem dash_le (s : ByteArray) (k : Nat) : dash s k ≤ k := by
  unfold dash
  refine Nat.le_trans List.count_le_length ?_
  simp; omega
theorem dash_succ {s : ByteArray} {k : Nat} (h : k < s.size) : dash s (k + 1) = dash s k + if s[k] = 45 then 1 else 0 := by
  have hl : k < s.data.toList.length := by simpa using h
  have e : s.data.toList[k] = s[k] := by simp [ByteArray.getElem_eq_getElem_data]
  unfold dash
  rw [List.take_succ_eq_append_getElem hl, List.count_append, e]
  congr 1
  by_cases hs : s[k] = 45 <;> simp [hs]
theorem dash_full (s : ByteArray) : dash s s.size = s.data.toList.count 45 := by
  unfold dash
  rw [List.take_of_length_le (by simp)]
theorem data_app (a b : ByteArray) : (a ++ b).data.toList = a.data.toList ++ b.data.toList := by
  rw [ByteArray.data_append, Array.toList_append]
theorem dec_signs {n : Int} (h0 : 0 ≤ n) (h1 : n ≤ 99) : (dec n).data.toList.count 45 = 0 := by
  obtain ⟨k, rfl⟩ : ∃ k : Nat, n = k := ⟨n.toNat, by omega⟩
  have hk : k < 100 := by omega
  clear h0 h1
  unfold dec
  by_cases h : k < 10
  · rw [itoa_one k h]
    have : ∀ j : Nat, j < 10 → ([UInt8.ofNat (48 + j)] : List UInt8).count 45 = 0 := by decide
    exact this k h
  · rw [itoa_two k (by omega) (by omega)]
    have : ∀ j : Nat, j < 100 → ([UInt8.ofNat (48 + j / 10), UInt8.ofNat (48 + j % 10)] : List UInt8).count 45 = 0 := by decide
    exact this k hk
theorem dec_pos {n : Int} (h0 : 0 ≤ n) (h1 : n ≤ 99) : 0 < (dec n).size := by
  obtain ⟨k, rfl⟩ : ∃ k : Nat, n = k := ⟨n.toNat, by omega⟩
  unfold dec
  by_cases h : k < 10
  · rw [itoa_one k h]; exact Nat.zero_lt_one
  · rw [itoa_two k (by omega) (by omega)]; exact Nat.zero_lt_succ _
theorem wkTx_signs {x : Wk} (hn : ∀ n ∈ x.ns, 0 ≤ n ∧ n ≤ 99) (he : ∀ n ∈ x.es, 0 ≤ n ∧ n ≤ 99) : ∀ k, k < x.ns.length → k ≤ x.es.length → (wkTx x k).data.toList.count 45 = 2 * k
  | 0, h0, _ => by
    unfold wkTx
    have h := hn _ (List.getElem_mem h0)
    rw [getD_at _ h0]
    exact dec_signs h.1 h.2
  | k + 1, h1, h2 => by
    unfold wkTx
    have ih := wkTx_signs hn he k (by omega) (by omega)
    have a := hn _ (List.getElem_mem h1)
    have b := he _ (List.getElem_mem (show k < x.es.length by omega))
    have sa := dec_signs a.1 a.2
    have sb := dec_signs b.1 b.2
    rw [getD_at _ h1, getD_at _ (show k < x.es.length by omega)]
    have h1 : (⟨#[45]⟩ : ByteArray).data.toList.count 45 = 1 := rfl
    simp only [data_app, List.count_append, ih, sa, sb, h1]
    omega
theorem wkTx_pos {x : Wk} (hn : ∀ n ∈ x.ns, 0 ≤ n ∧ n ≤ 99) (h0 : 0 < x.ns.length) : ∀ k, 0 < (wkTx x k).size
  | 0 => by
    unfold wkTx
    have h := hn _ (List.getElem_mem h0)
    rw [getD_at _ h0]
    exact dec_pos h.1 h.2
  | k + 1 => by
    unfold wkTx
    have ih := wkTx_pos hn h0 k
    rw [ByteArray.size_append]
    omega
/-- A walk's text that is not empty: two signs for each edge. -/
theorem fmtW_signs {x : Wk} (h : wkText x = true) : dash (fmtW x) (fmtW x).size = 2 * x.es.length ∧ 0 < (fmtW x).size ∧ (fmtW x).size ≤ 50 := by
  have e : fmtW x = wkTx x x.es.length := by unfold fmtW; rw [h]; rfl
  obtain ⟨hn, he⟩ := wkText_all h
  have hs : wkShape x = true := by unfold wkText at h; simp only [Bool.and_eq_true] at h; exact h.1
  obtain ⟨h1, h2⟩ := wkShape_iff.1 hs
  rw [e]
  refine ⟨by rw [dash_full]; exact wkTx_signs hn he _ (by omega) (Nat.le_refl _), wkTx_pos hn (by omega) _, ?_⟩
  have := wkTx_size hn he x.es.length (by omega) (Nat.le_refl _)
  omega
end Go.Proofs.YtmfccdelhobmoaaDoor
