/- Opening the arguments of the laws on graphs: what is read as data is a list in memory. -/
import Derived.Test.YtfdkmngkpihpbaaMem
import Derived.Deep.Slices
import Derived.Deep.Fields
import Derived.ChangeSame
import Derived.Lib.SmallJoins
namespace Go.Proofs.Ytfdkmngkpihpbaa
open Go.ChangeShapes Go.WideShapes Go.Deep Go.RowKit

section
variable {H : Type} {enc : TypeId × Value → H} {P : Program} {w : World} {base : Nat} {spare : Nat → Bool} {held : Bool}
/-- A slice of structs of one-cell fields that is read: each field's cell, and its own reading. -/
theorem open_struct_rows {t e : TypeId} {fs : Array Field} {fuel : Nat} {v : Value} {x : DataW H × List MemPlace} (ht : P.underlying t = some (.slice e)) (he : P.underlying e = some (.struct fs))
    (hone : oneCellFields P fs = true) (hC : P.cellsOf e = fs.size) (hpos : 0 < fs.size) (h : DataW.trod enc P w base spare held fuel t [v] = some x) :
    ∃ (p : Option Addr) (len cap : Nat), v = .slice p len cap ∧ len ≤ cap ∧ cap ≤ maxLen ∧
      ∀ i, i < len → ∃ (b off : Nat) (n : Nat), p = some ⟨b, off, none⟩ ∧ b < w.heap.size ∧ ∀ (j : Nat) (f : Field), fs[j]? = some f → ∃ (u : Value) (y : DataW H × List MemPlace), w.cell? ⟨b, off + i * fs.size + j, none⟩ = some u ∧ DataW.trod enc P w base spare held n f.type [u] = some y := by
  rcases open_slice ht h with ⟨h0, _⟩ | ⟨a, len, cap, m, n, D, Pl, hcs, hb, hl, hm, hmm, hx, hi⟩
  · simp at h0
    exact ⟨none, 0, 0, h0, Nat.le_refl _, Nat.zero_le _, fun i hi => by omega⟩
  · simp at hcs
    have hlm : len ≤ m := by rw [hmm]; split <;> omega
    have key : ∀ i, i < len → ∃ n : Nat, ∀ (j : Nat) (f : Field), fs[j]? = some f → ∃ (u : Value) (y : DataW H × List MemPlace), w.cell? (a.add (i * fs.size + j)) = some u ∧ DataW.trod enc P w base spare held n f.type [u] = some y := by
      intro i him
      obtain ⟨cs', hc, ht'⟩ := hi i (by omega)
      rw [hC] at hc
      obtain ⟨ys, n', hn', hy, hlen, hyl, hf⟩ := DataW.trod_struct he ht'
      obtain ⟨_, hcl, hat⟩ := World.cells?_some hc
      refine ⟨n', fun j f hj => ?_⟩
      obtain ⟨ho, hk⟩ := hone_of hone j f hj
      have hjl : j < fs.size := (Array.getElem?_eq_some_iff.1 hj).1
      have hcell := hat j hjl
      have hv : cs'[j]? = some (cs'[j]'(by omega)) := List.getElem?_eq_getElem (by omega)
      have h1 := hf j f hj
      rw [ho, hk] at h1
      have hone' : (cs'.drop j).take 1 = [cs'[j]'(by omega)] := by
        rw [List.drop_eq_getElem_cons (by omega)]
        rfl
      rw [hone'] at h1
      have hys : ys[j]? = some (ys[j]'(by omega)) := List.getElem?_eq_getElem (by omega)
      refine ⟨_, _, ?_, h1.trans hys⟩
      rw [← Go.Deep.add_add, hcell, hv]
    refine ⟨some a, len, cap, hcs, hl, hm, fun i him => ?_⟩
    obtain ⟨n0, k0⟩ := key 0 (by omega)
    obtain ⟨u0, y0, c0, _⟩ := k0 0 _ (Array.getElem?_eq_getElem hpos)
    rw [Nat.zero_mul, Nat.add_zero] at c0
    obtain ⟨b, off, spot⟩ := a
    have hs : spot = none := by simpa [Addr.add] using World.cell?_spot c0
    subst hs
    obtain ⟨n, hn⟩ := key i him
    refine ⟨b, off, n, rfl, by simpa [Addr.add] using World.block_lt_of_cell? w _ c0, fun j f hj => ?_⟩
    obtain ⟨u, y, h1, h2⟩ := hn j f hj
    rw [add_plain, ← Nat.add_assoc] at h1
    exact ⟨u, y, h1, h2⟩
end

/-- From a fact at each index to a list. -/
theorem sl_of {α : Type} {sz : Nat} {enc : α → List Value} {w : World} {p : Option Addr} {len cap : Nat} (hl : len ≤ cap) (hm : cap ≤ maxLen) (Ok : α → Prop)
    (h : ∀ i, i < len → ∃ x : α, (∃ b off, p = some ⟨b, off, none⟩ ∧ b < w.heap.size ∧ ∀ j v, (enc x)[j]? = some v → w.cell? ⟨b, off + i * sz + j, none⟩ = some v) ∧ Ok x) :
    ∃ xs : List α, Sl sz enc w.heap.size w (.slice p len cap) xs ∧ ∀ x ∈ xs, Ok x := by
  refine ⟨List.ofFn fun i : Fin len => Classical.choose (h i.1 i.2), ⟨p, len, cap, rfl, by simp, hl, hm, fun i hi => ?_⟩, fun x hx => ?_⟩
  · rw [List.getElem_ofFn]
    exact (Classical.choose_spec (h i (by simpa using hi))).1
  · obtain ⟨i, rfl⟩ := List.mem_ofFn.1 hx
    exact (Classical.choose_spec (h i.1 i.2)).2
end Go.Proofs.Ytfdkmngkpihpbaa
