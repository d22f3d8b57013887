/- Opening rows of elements of any number of cells. -/
import Derived.Test.YtfdkmngkpihpbaaOpenE
import Derived.Test.YtfdkmngkpihpbaaKd
namespace Go.Proofs.Ytfdkmngkpihpbaa
open Go.ChangeShapes Go.WideShapes Go.Deep Go.RowKit Go.Joins

section
variable {H : Type} {enc : TypeId × Value → H} {w : World} {base : Nat} {spare : Nat → Bool} {held : Bool}
/-- From a fact at each index to a row of a kind. -/
theorem Kd.rd_of {α : Type} (K : Kd α) {B : Nat} {w : World} {p : Option Addr} {len cap : Nat} (hl : len ≤ cap) (hm : cap ≤ maxLen) (Ok : α → Prop)
    (h : ∀ i, i < len → ∃ x : α, (∃ b off cs, p = some ⟨b, off, none⟩ ∧ b < B ∧ (∀ j u, cs[j]? = some u → w.cell? ⟨b, off + i * K.sz + j, none⟩ = some u) ∧ K.rd B w x cs) ∧ Ok x) :
    ∃ xs : List α, K.Rd B w (.slice p len cap) xs ∧ ∀ x ∈ xs, Ok x := by
  refine ⟨List.ofFn fun i : Fin len => Classical.choose (h i.1 i.2), ⟨p, cap, by simp, by simpa using hl, hm, fun i hi => ?_⟩, fun x hx => ?_⟩
  · rw [List.getElem_ofFn]
    exact (Classical.choose_spec (h i (by simpa using hi))).1
  · obtain ⟨i, rfl⟩ := List.mem_ofFn.1 hx
    exact (Classical.choose_spec (h i.1 i.2)).2
theorem open_cells {P : Program} {t e : TypeId} {c fuel : Nat} {v : Value} {y : DataW H × List MemPlace} (ht : P.underlying t = some (.slice e)) (hC : P.cellsOf e = c) (hpos : 0 < c) (h : DataW.trod enc P w base spare held fuel t [v] = some y) :
    ∃ (p : Option Addr) (len cap : Nat), v = .slice p len cap ∧ len ≤ cap ∧ cap ≤ maxLen ∧ ∀ i, i < len → ∃ (b off n : Nat) (cs : List Value) (z : DataW H × List MemPlace), p = some ⟨b, off, none⟩ ∧ b < w.heap.size ∧ cs.length = c ∧ (∀ j u, cs[j]? = some u → w.cell? ⟨b, off + i * c + j, none⟩ = some u) ∧ DataW.trod enc P w base spare held n e cs = some z := by
  rcases DataW.trod_slice ht h with ⟨h0, _⟩ | ⟨a, len, cap, elems, rest, n, hfu, hcs, _, hb, hl, hm, hlen, hel, _, _⟩
  · simp at h0
    exact ⟨none, 0, 0, h0, Nat.le_refl _, Nat.zero_le _, fun i hi => by omega⟩
  · simp at hcs
    subst hcs
    rw [hC] at hel
    refine ⟨some a, len, cap, rfl, hl, hm, fun i him => ?_⟩
    have k1 := hel i him
    rw [List.getElem?_eq_getElem (by omega)] at k1
    obtain ⟨cs', hc, ht'⟩ := Option.bind_eq_some_iff.1 k1
    obtain ⟨_, hcl, hat⟩ := World.cells?_some hc
    have hcell : ∀ j, j < c → w.cell? (a.add (i * c + j)) = cs'[j]? := fun j hj => by rw [← Go.Deep.add_add]; exact hat j hj
    have c00 := (hcell 0 hpos).trans (List.getElem?_eq_getElem (show 0 < cs'.length by omega))
    obtain ⟨b, off, spot⟩ := a
    have hs : spot = none := by
      have := World.cell?_spot c00
      unfold Addr.add at this
      split at this
      · simpa using this
      · rename_i hne
        have h2 := hel 0 (by omega)
        rw [List.getElem?_eq_getElem (by omega)] at h2
        obtain ⟨cs2, hc2, _⟩ := Option.bind_eq_some_iff.1 h2
        obtain ⟨_, hcl2, hat2⟩ := World.cells?_some hc2
        simpa [Addr.add] using World.cell?_spot ((hat2 0 hpos).trans (List.getElem?_eq_getElem (show 0 < cs2.length by omega)))
    subst hs
    have hb0 : b < w.heap.size := by have h := World.block_lt_of_cell? w _ c00; rw [add_plain] at h; exact h
    refine ⟨b, off, n, cs', _, rfl, hb0, hcl, fun j u hu => ?_, ht'⟩
    have hj : j < c := by have := (List.getElem?_eq_some_iff.1 hu).1; omega
    have := hcell j hj
    rw [add_plain, hu] at this
    rw [Nat.add_assoc]; exact this
end
end Go.Proofs.Ytfdkmngkpihpbaa
