/- The brackets in a graph's text. -/
import Derived.Test.YthephdglianipaaDoorFG
namespace Go.Proofs.YthephdglianipaaDoor
open Go.RowKit

/-- How many of the first k bytes are c. -/
def bcnt (c : UInt8) (s : ByteArray) (k : Nat) : Nat := (s.data.toList.take k).count c
theorem bcnt_zero (c : UInt8) (s : ByteArray) : bcnt c s 0 = 0 := by simp [bcnt]
theorem bcnt_le (c : UInt8) (s : ByteArray) (k : Nat) : bcnt c s k ≤ k := by
  unfold bcnt
  refine Nat.le_trans List.count_le_length ?_
  simp; omega
theorem bcnt_succ (c : UInt8) {s : ByteArray} {k : Nat} (h : k < s.size) : bcnt c s (k + 1) = bcnt c s k + if s[k] = c then 1 else 0 := by
  have hl : k < s.data.toList.length := by simpa using h
  have e : s.data.toList[k] = s[k] := by simp [ByteArray.getElem_eq_getElem_data]
  unfold bcnt
  rw [List.take_succ_eq_append_getElem hl, List.count_append, e]
  congr 1
  by_cases hs : s[k] = c <;> simp [hs]
/-- How many of all bytes are c. -/
def ball (c : UInt8) (s : ByteArray) : Nat := s.data.toList.count c
theorem bcnt_full (c : UInt8) (s : ByteArray) : bcnt c s s.size = ball c s := by
  unfold bcnt ball
  rw [List.take_of_length_le (by simp)]
theorem ball_app (c : UInt8) (a b : ByteArray) : ball c (a ++ b) = ball c a + ball c b := by
  unfold ball
  rw [ByteArray.data_append, Array.toList_append, List.count_append]
theorem dec_plain {n : Int} (h0 : 0 ≤ n) (h1 : n ≤ 99) : ball 40 (dec n) = 0 ∧ ball 91 (dec n) = 0 := by
  obtain ⟨k, rfl⟩ : ∃ k : Nat, n = k := ⟨n.toNat, by omega⟩
  have hk : k < 100 := by omega
  clear h0 h1
  unfold ball dec
  by_cases h : k < 10
  · rw [itoa_one k h]
    have : ∀ j : Nat, j < 10 → ([UInt8.ofNat (48 + j)] : List UInt8).count 40 = 0 ∧ ([UInt8.ofNat (48 + j)] : List UInt8).count 91 = 0 := by decide
    exact this k h
  · rw [itoa_two k (by omega) (by omega)]
    have : ∀ j : Nat, j < 100 → ([UInt8.ofNat (48 + j / 10), UInt8.ofNat (48 + j % 10)] : List UInt8).count 40 = 0 ∧ ([UInt8.ofNat (48 + j / 10), UInt8.ofNat (48 + j % 10)] : List UInt8).count 91 = 0 := by decide
    exact this k hk
theorem label_plain {s : ByteArray} {n : Int} (h : pv s n = true) : ball 40 s = 0 ∧ ball 91 s = 0 := by
  have hall : ∀ c ∈ s.data.toList, isL c = true := by
    unfold pv at h
    simp only [Bool.and_eq_true, Bool.or_eq_true, decide_eq_true_eq] at h
    rcases h.1 with h1 | h1
    · intro c hc
      have e : s.data.toList.length = s.size := rfl
      have : s.data.toList = [] := List.eq_nil_of_length_eq_zero (by omega)
      rw [this] at hc
      cases hc
    · unfold lv lvL at h1
      simp only [Bool.and_eq_true] at h1
      exact List.all_eq_true.1 h1.2
  have no : ∀ c : UInt8, isL c = false → ball c s = 0 := fun c hc => List.count_eq_zero.2 fun hm => by
    have := hall c hm
    rw [hc] at this
    cases this
  exact ⟨no 40 (by decide), no 91 (by decide)⟩
theorem propT_plain {l : ByteArray} {n : Int} (h : pv l n = true) : ball 40 (propT l n) = 0 ∧ ball 91 (propT l n) = 0 := by
  have h1 := label_plain h
  have h2 := pv_small h
  have h3 := dec_plain h2.2.1 h2.2.2
  have e1 : ball 40 (⟨#[32]⟩ : ByteArray) = 0 := rfl
  have e2 : ball 91 (⟨#[32]⟩ : ByteArray) = 0 := rfl
  unfold propT b1
  simp only [ball_app]
  omega
theorem ndT_ball {x : Nd} (h : pv x.l x.n = true) : ball 40 (ndT x) = 1 ∧ ball 91 (ndT x) = 0 ∧ 0 < (ndT x).size := by
  have h1 := propT_plain h
  have e1 : ball 40 (⟨#[40]⟩ : ByteArray) = 1 := rfl
  have e2 : ball 91 (⟨#[40]⟩ : ByteArray) = 0 := rfl
  have e3 : ball 40 (⟨#[41]⟩ : ByteArray) = 0 := rfl
  have e4 : ball 91 (⟨#[41]⟩ : ByteArray) = 0 := rfl
  have e5 : (⟨#[40]⟩ : ByteArray).size = 1 := rfl
  unfold ndT
  simp only [ball_app, ByteArray.size_append]
  omega
theorem edT_ball {x : Ed} (h : pv x.l x.n = true) (hf : 0 ≤ x.f ∧ x.f ≤ 99) (ht : 0 ≤ x.t ∧ x.t ≤ 99) : ball 40 (edT x) = 0 ∧ ball 91 (edT x) = 1 := by
  have h1 := propT_plain h
  have h2 := dec_plain hf.1 hf.2
  have h3 := dec_plain ht.1 ht.2
  have e1 : ball 40 (⟨#[91]⟩ : ByteArray) = 0 := rfl
  have e2 : ball 91 (⟨#[91]⟩ : ByteArray) = 1 := rfl
  have e3 : ball 40 (⟨#[93]⟩ : ByteArray) = 0 := rfl
  have e4 : ball 91 (⟨#[93]⟩ : ByteArray) = 0 := rfl
  have e5 : ball 40 (⟨#[62]⟩ : ByteArray) = 0 := rfl
  have e6 : ball 91 (⟨#[62]⟩ : ByteArray) = 0 := rfl
  have e7 : ball 40 (⟨#[32]⟩ : ByteArray) = 0 := rfl
  have e8 : ball 91 (⟨#[32]⟩ : ByteArray) = 0 := rfl
  unfold edT
  simp only [ball_app]
  omega
theorem nsT_ball {xs : List Nd} (hx : ∀ x ∈ xs, pv x.l x.n = true) : ∀ k, k ≤ xs.length → ball 40 (nsT xs k) = k ∧ ball 91 (nsT xs k) = 0 ∧ k ≤ (nsT xs k).size
  | 0, _ => ⟨rfl, rfl, Nat.zero_le _⟩
  | k + 1, h => by
    have ih := nsT_ball hx k (by omega)
    have a := ndT_ball (hx _ (List.getElem_mem (show k < xs.length by omega)))
    unfold nsT
    rw [getD_nd _ (show k < xs.length by omega), ball_app, ball_app, ByteArray.size_append]
    omega
theorem esT_ball {T0 : ByteArray} {xs : List Ed} (hx : ∀ x ∈ xs, pv x.l x.n = true ∧ (0 ≤ x.f ∧ x.f ≤ 99) ∧ (0 ≤ x.t ∧ x.t ≤ 99)) : ∀ k, k ≤ xs.length → ball 40 (esT T0 xs k) = ball 40 T0 ∧ ball 91 (esT T0 xs k) = ball 91 T0 + k ∧ T0.size ≤ (esT T0 xs k).size
  | 0, _ => ⟨rfl, rfl, Nat.le_refl _⟩
  | k + 1, h => by
    have ih := esT_ball (T0 := T0) hx k (by omega)
    obtain ⟨a1, a2, a3⟩ := hx _ (List.getElem_mem (show k < xs.length by omega))
    have a := edT_ball a1 a2 a3
    unfold esT
    rw [getD_ed _ (show k < xs.length by omega), ball_app, ball_app, ByteArray.size_append]
    omega
theorem gv_all {g : Gr} (h : gv g = true) : 1 ≤ g.ns.length ∧ (∀ x ∈ g.ns, pv x.l x.n = true) ∧ (∀ x ∈ g.es, pv x.l x.n = true ∧ (0 ≤ x.f ∧ x.f ≤ 99) ∧ (0 ≤ x.t ∧ x.t ≤ 99)) := by
  have hp := gvf_parts h
  unfold gv at h
  simp only [Bool.and_eq_true, List.all_eq_true, decide_eq_true_eq] at h
  obtain ⟨⟨h1, h2, h3⟩, h4, h5⟩ := h
  refine ⟨h1, fun x hx => h4 x hx, fun x hx => ?_⟩
  have h6 := h5 x hx
  have h7 := hp.2.2.2 x hx
  unfold edV at h6
  simp only [Bool.and_eq_true] at h6
  exact ⟨h6.2.2, h7.1, h7.2.1⟩
theorem fmtG_no {g : Gr} (h : gv g = false) : fmtG g = ⟨#[]⟩ := by unfold fmtG; rw [h]; rfl
/-- A valid graph's text: a bracket for each node, and one for each edge. -/
theorem fmtG_brackets {g : Gr} (h : gv g = true) : bcnt 40 (fmtG g) (fmtG g).size = g.ns.length ∧ bcnt 91 (fmtG g) (fmtG g).size = g.es.length ∧ 0 < (fmtG g).size ∧ (fmtG g).size ≤ 400 := by
  have e : fmtG g = esT (nsT g.ns g.ns.length) g.es g.es.length := by unfold fmtG; rw [h]; rfl
  obtain ⟨h1, h2, h3⟩ := gv_all h
  have hp := gvf_parts h
  have a := nsT_ball h2 g.ns.length (Nat.le_refl _)
  have b := esT_ball (T0 := nsT g.ns g.ns.length) h3 g.es.length (Nat.le_refl _)
  have c := nsT_size hp.2.2.1 g.ns.length (Nat.le_refl _)
  have d := esT_size (T0 := nsT g.ns g.ns.length) hp.2.2.2 g.es.length (Nat.le_refl _)
  rw [bcnt_full, bcnt_full, e]
  have := hp.1
  have := hp.2.1
  refine ⟨?_, ?_, ?_, ?_⟩ <;> omega
end Go.Proofs.YthephdglianipaaDoor
