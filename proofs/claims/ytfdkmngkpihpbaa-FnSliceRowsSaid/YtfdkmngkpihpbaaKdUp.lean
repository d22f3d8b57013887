/- Rows of a kind in memory of a call's own: an element is changed. -/
import Derived.Test.YtfdkmngkpihpbaaKd
namespace Go.Proofs.Ytfdkmngkpihpbaa
open Go.RowKit
namespace Kd
variable {α : Type}
theorem ORow.upd {K : Kd α} {w : World} : ∀ {xs : List α} {c : Nat → Option Value} {F : List Nat}, K.ORow w xs c F → ∀ (k : Nat) (hk : k < xs.length), ∃ cs F1, (∀ y ∈ F1, y ∈ F) ∧ (∀ j u, cs[j]? = some u → c (k * K.sz + j) = some u) ∧ K.ow w xs[k] cs F1 ∧
    ∀ (w' : World) (x' : α) (cs' : List Value) (c' : Nat → Option Value) (G : List Nat), Chg (G ++ F1) w w' → (∀ y ∈ G, y ∉ F) → K.ow w' x' cs' F1 → (∀ j u, cs'[j]? = some u → c' (k * K.sz + j) = some u) → (∀ i, (i < k * K.sz ∨ (k + 1) * K.sz ≤ i) → c' i = c i) → K.ORow w' (xs.set k x') c' F
  | [], _, _, _, k, hk => by simp at hk
  | x :: xs, c, F, h, k, hk => by
    obtain ⟨cs, F1, F2, rfl, hdj, h0, h1, h2⟩ := h
    have hl := K.rd_len (K.ow_rd h1)
    cases k with
    | zero =>
      refine ⟨cs, F1, fun y hy => List.mem_append_left _ hy, fun j u hu => by rw [Nat.zero_mul, Nat.zero_add]; exact h0 j u hu, h1, fun w' x' cs' c' G hc hG ho hcs hcc => ?_⟩
      refine ⟨cs', F1, F2, rfl, hdj, fun j u hu => by have := hcs j u hu; rwa [Nat.zero_mul, Nat.zero_add] at this, ho, h2.chg hc (fun y hy hm => ?_) fun i _ => hcc (i + K.sz) (.inr (by rw [Nat.zero_add, Nat.one_mul]; omega))⟩
      rcases List.mem_append.1 hm with hm | hm
      · exact hG y hm (List.mem_append_right _ hy)
      · exact hdj y hm hy
    | succ k =>
      obtain ⟨cs1, F3, g1, g2, g3, g4⟩ := h2.upd k (by simpa using hk)
      refine ⟨cs1, F3, fun y hy => List.mem_append_right _ (g1 y hy), fun j u hu => ?_, by simpa using g3, fun w' x' cs' c' G hc hG ho hcs hcc => ?_⟩
      · have := g2 j u hu
        rw [show (k + 1) * K.sz + j = k * K.sz + j + K.sz by rw [Nat.add_mul]; omega]
        exact this
      · refine ⟨cs, F1, F2, rfl, hdj, fun j u hu => ?_, K.ow_chg h1 hc (fun y hy hm => ?_), g4 w' x' cs' (fun i => c' (i + K.sz)) G hc (fun y hy hm => hG y hy (List.mem_append_right _ hm)) ho (fun j u hu => ?_) fun i hi => ?_⟩
        · have : j < cs.length := (List.getElem?_eq_some_iff.1 hu).1
          rw [hcc j (.inl (by rw [Nat.add_mul]; omega))]
          exact h0 j u hu
        · rcases List.mem_append.1 hm with hm | hm
          · exact hG y hm (List.mem_append_left _ hy)
          · exact hdj y hy (g1 y hm)
        · have := hcs j u hu
          rw [show (k + 1) * K.sz + j = k * K.sz + j + K.sz by rw [Nat.add_mul]; omega] at this
          exact this
        · refine hcc (i + K.sz) ?_
          rw [Nat.add_mul, Nat.add_mul (k + 1)]
          rcases hi with hi | hi
          · left; omega
          · right; rw [Nat.add_mul] at hi ⊢; omega
/-- An element of a row, and what is left of the row when it has changed. -/
theorem Ow.upd {K : Kd α} {w : World} {p : Option Addr} {n cap : Nat} {xs : List α} {F : List Nat} (h : K.Ow w (.slice p n cap) xs F) {k : Nat} (hk : k < xs.length) :
    ∃ b off cs F1, p = some ⟨b, off, none⟩ ∧ b ∈ F ∧ b ∉ F1 ∧ (∀ y ∈ F1, y ∈ F) ∧ b < w.heap.size ∧ (∀ o, w.frozen? ⟨b, o, none⟩ = false) ∧ (∀ j u, cs[j]? = some u → w.cell? ⟨b, off + k * K.sz + j, none⟩ = some u) ∧ K.ow w xs[k] cs F1 ∧
      ∀ (w' : World) (x' : α) (cs' : List Value), Chg (b :: F1) w w' → (∀ o, w'.frozen? ⟨b, o, none⟩ = false) → K.ow w' x' cs' F1 → (∀ j u, cs'[j]? = some u → w'.cell? ⟨b, off + k * K.sz + j, none⟩ = some u) →
        (∀ o, (o < off + k * K.sz ∨ off + (k + 1) * K.sz ≤ o) → w'.cell? ⟨b, o, none⟩ = w.cell? ⟨b, o, none⟩) → K.Ow w' (.slice p n cap) (xs.set k x') F := by
  obtain ⟨p', cap', h1, h2, h3, h4⟩ := h
  cases h1
  rcases h4 with ⟨rfl, _⟩ | ⟨b, off, F', rfl, rfl, hn, hlt, hf, ho⟩
  · simp at hk
  · obtain ⟨cs, F1, g1, g2, g3, g4⟩ := ho.upd k hk
    refine ⟨b, off, cs, F1, rfl, by simp, fun hm => hn (g1 b hm), fun y hy => List.mem_cons_of_mem _ (g1 y hy), hlt, hf, fun j u hu => by rw [Nat.add_assoc]; exact g2 j u hu, g3, fun w' x' cs' hc hfr ho' hcs hcc => ?_⟩
    refine ⟨some ⟨b, off, none⟩, cap, by simp, by simpa using h2, h3, .inr ⟨b, off, F', rfl, rfl, hn, Nat.lt_of_lt_of_le hlt hc.size, hfr, ?_⟩⟩
    refine g4 w' x' cs' _ [b] hc (by simpa using hn) ho' (fun j u hu => ?_) fun i hi => ?_
    · have := hcs j u hu
      rwa [Nat.add_assoc] at this
    · refine hcc (off + i) ?_
      rcases hi with hi | hi
      · left; omega
      · right; omega
end Kd
end Go.Proofs.Ytfdkmngkpihpbaa
