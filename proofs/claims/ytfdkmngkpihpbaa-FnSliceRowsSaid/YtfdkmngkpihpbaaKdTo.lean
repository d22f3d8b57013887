/- Rows of a kind that are copied, one element after the other, into a block of the call's own. -/
import Derived.Test.YtfdkmngkpihpbaaKd
namespace Go.Proofs.Ytfdkmngkpihpbaa
open Go.RowKit

/-- The first k of a row lie in the block b. -/
def KInv {α : Type} (K : Kd α) (xs : List α) (T : TypeId) (b : Nat) (k : Nat) (wr : World) : Prop :=
  ∃ (L : List Value) (F : List Nat), L.length = xs.length * K.sz ∧ K.ORow wr (xs.take k) (fun i => L[i]?) F ∧ (∀ y ∈ F, b < y) ∧ Blk wr b T L
section
variable {α : Type} {K : Kd α} {xs : List α} {T : TypeId} {b k : Nat} {wr w1 w2 : World}
theorem KInv.zero {L : List Value} (hL : L.length = xs.length * K.sz) (hb : Blk wr b T L) : KInv K xs T b 0 wr := ⟨L, [], hL, by simp [Kd.ORow], by simp, hb⟩
theorem KInv.lt (h : KInv K xs T b k wr) : b < wr.heap.size := by
  obtain ⟨L, F, _, _, _, h6⟩ := h; exact h6.lt
theorem KInv.cells (h : KInv K xs T b k wr) (i : Nat) (hi : i < xs.length * K.sz) : (∃ x, wr.cell? ⟨b, i, none⟩ = some x) ∧ wr.frozen? ⟨b, i, none⟩ = false := by
  obtain ⟨L, F, h3, _, _, h6⟩ := h
  exact ⟨⟨_, (h6.cell i).trans (List.getElem?_eq_getElem (by omega))⟩, h6.frozen i⟩
/-- What a store of an element does to the block: its cells, and the others stay. -/
def Stores (T : TypeId) (b o n : Nat) (cs : List Value) (w1 w2 : World) : Prop :=
  Chg [b] w1 w2 ∧ ∀ L, Blk w1 b T L → o + n ≤ L.length → ∃ L', Blk w2 b T L' ∧ L'.length = L.length ∧ (∀ i, i < o ∨ o + n ≤ i → L'[i]? = L[i]?) ∧ ∀ j u, cs[j]? = some u → L'[o + j]? = some u
theorem KInv.step (h : KInv K xs T b k wr) (hk : k < xs.length) (hb : Below wr.heap.size wr w1) {cs : List Value} {F' : List Nat} (ho : K.ow w1 xs[k] cs F') (hF : ∀ y ∈ F', wr.heap.size ≤ y) (hs : Stores T b (k * K.sz) K.sz cs w1 w2) :
    KInv K xs T b (k + 1) w2 := by
  have hlt := h.lt
  obtain ⟨L, F, h1, h2, h3, h4⟩ := h
  have hsz : k * K.sz + K.sz ≤ xs.length * K.sz := by rw [← Nat.succ_mul]; exact Nat.mul_le_mul_right _ hk
  obtain ⟨L', g1, g2, g3, g4⟩ := hs.2 L (h4.below hb hlt) (by omega)
  have hch0 : Chg [b] wr w2 := (Chg.of_below hb _).trans hs.1
  refine ⟨L', F ++ F', by omega, ?_, ?_, g1⟩
  · rw [List.take_succ_eq_append_getElem hk]
    have htl : (xs.take k).length = k := by simp; omega
    refine Kd.orow_app.2 ⟨F, F', rfl, fun y hy hy2 => ?_, h2.chg hch0 (fun y hy => by have := h3 y hy; simp; omega) fun i hi => ?_, ?_⟩
    · have := h2.lt y hy; have := hF y hy2; omega
    · rw [htl] at hi
      exact g3 i (.inl hi)
    · rw [htl]
      refine ⟨cs, F', [], by simp, by simp, fun j u hu => ?_, K.ow_chg ho hs.1 (fun y hy => by have := hF y hy; simp; omega), rfl⟩
      show L'[j + k * K.sz]? = some u
      rw [Nat.add_comm]
      exact g4 j u hu
  · intro y hy
    rcases List.mem_append.1 hy with hy | hy
    · exact h3 y hy
    · have := hF y hy; omega
theorem KInv.done (h : KInv K xs T b xs.length wr) (hm : xs.length ≤ maxLen) : ∃ F, K.Ow wr (.slice (some ⟨b, 0, none⟩) xs.length xs.length) xs F ∧ ∀ y ∈ F, b ≤ y := by
  obtain ⟨L, F, h1, h2, h3, h4⟩ := h
  rw [List.take_length] at h2
  by_cases he : xs = []
  · exact ⟨[], ⟨_, _, rfl, Nat.le_refl _, hm, .inl ⟨he, rfl⟩⟩, by simp⟩
  · refine ⟨b :: F, ⟨_, _, rfl, Nat.le_refl _, hm, .inr ⟨b, 0, F, rfl, rfl, fun hx => by have := h3 b hx; omega, h4.lt, fun o => h4.frozen o, h2.chg (Chg.refl [] wr) (by simp) fun i _ => by rw [Nat.zero_add]; exact h4.cell i⟩⟩, ?_⟩
    intro y hy
    rcases List.mem_cons.1 hy with rfl | hy
    · exact Nat.le_refl _
    · exact Nat.le_of_lt (h3 y hy)
end
/-- Stores of three cells. -/
theorem stores3 {T : TypeId} {b o : Nat} {x y z : Value} {w : World} : Stores T b o 3 [x, y, z] w (((w.setCell ⟨b, o, none⟩ x).setCell ⟨b, o + 1, none⟩ y).setCell ⟨b, o + 2, none⟩ z) := by
  refine ⟨(((Chg.refl _ w).setCell (by simp) _).setCell (by simp) _).setCell (by simp) _, fun L hL hl => ⟨((L.set o x).set (o + 1) y).set (o + 2) z, ((hL.set _ _).set _ _).set _ _, by simp, fun i hi => ?_, fun j u hu => ?_⟩⟩
  · rw [List.getElem?_set_ne (by omega), List.getElem?_set_ne (by omega), List.getElem?_set_ne (by omega)]
  · match j, hu with
    | 0, hu =>
      simp at hu; subst hu
      rw [List.getElem?_set_ne (by omega), List.getElem?_set_ne (by omega), Nat.add_zero, List.getElem?_set_self (by omega)]
    | 1, hu =>
      simp at hu; subst hu
      rw [List.getElem?_set_ne (by omega), List.getElem?_set_self (by simp; omega)]
    | 2, hu =>
      simp at hu; subst hu
      rw [List.getElem?_set_self (by simp; omega)]
    | j + 3, hu => simp at hu
end Go.Proofs.Ytfdkmngkpihpbaa
