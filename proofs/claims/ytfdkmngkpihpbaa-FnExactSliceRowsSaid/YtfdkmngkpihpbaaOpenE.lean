/- Opening expressions that came in. -/
import Derived.Test.YtfdkmngkpihpbaaOpenG
import Derived.Test.YtfdkmngkpihpbaaEx
namespace Go.Proofs.Ytfdkmngkpihpbaa
open Go.ChangeShapes Go.WideShapes Go.Deep Go.RowKit Go.Joins

section
variable {H : Type} {enc : TypeId × Value → H} {w : World} {base : Nat} {spare : Nat → Bool} {held : Bool}
/-- As open_struct_rows, with how deep the fields are read. -/
theorem open_struct_rows_lt {P : Program} {t e : TypeId} {fs : Array Field} {fuel : Nat} {v : Value} {x : DataW H × List MemPlace} (ht : P.underlying t = some (.slice e)) (he : P.underlying e = some (.struct fs))
    (hone : oneCellFields P fs = true) (hC : P.cellsOf e = fs.size) (hpos : 0 < fs.size) (h : DataW.trod enc P w base spare held fuel t [v] = some x) :
    ∃ (p : Option Addr) (len cap : Nat), v = .slice p len cap ∧ len ≤ cap ∧ cap ≤ maxLen ∧
      ∀ i, i < len → ∃ (b off : Nat) (n : Nat), n < fuel ∧ p = some ⟨b, off, none⟩ ∧ b < w.heap.size ∧ ∀ (j : Nat) (f : Field), fs[j]? = some f → ∃ (u : Value) (y : DataW H × List MemPlace), w.cell? ⟨b, off + i * fs.size + j, none⟩ = some u ∧ DataW.trod enc P w base spare held n f.type [u] = some y := by
  rcases DataW.trod_slice ht h with ⟨h0, _⟩ | ⟨a, len, cap, elems, rest, n, hfu, hcs, _, hb, hl, hm, hlen, hel, _, _⟩
  · simp at h0
    exact ⟨none, 0, 0, h0, Nat.le_refl _, Nat.zero_le _, fun i hi => by omega⟩
  · simp at hcs
    have key : ∀ i, i < len → ∃ n : Nat, n < fuel ∧ ∀ (j : Nat) (f : Field), fs[j]? = some f → ∃ (u : Value) (y : DataW H × List MemPlace), w.cell? (a.add (i * fs.size + j)) = some u ∧ DataW.trod enc P w base spare held n f.type [u] = some y := by
      intro i him
      have k1 := hel i him
      rw [List.getElem?_eq_getElem (by omega)] at k1
      obtain ⟨cs', hc, ht'⟩ := Option.bind_eq_some_iff.1 k1
      rw [hC] at hc
      obtain ⟨ys, n', hn', hy, hlen, hyl, hf⟩ := DataW.trod_struct he ht'
      obtain ⟨_, hcl, hat⟩ := World.cells?_some hc
      refine ⟨n', by omega, fun j f hj => ?_⟩
      obtain ⟨ho, hk⟩ := hone_of hone j f hj
      have hjl : j < fs.size := (Array.getElem?_eq_some_iff.1 hj).1
      have hcell := hat j hjl
      have hv : cs'[j]? = some (cs'[j]'(by omega)) := List.getElem?_eq_getElem (by omega)
      have h1 := hf j f hj
      rw [ho, hk] at h1
      have hone' : (cs'.drop j).take 1 = [cs'[j]'(by omega)] := by
        rw [List.drop_eq_getElem_cons (by omega)]
        rfl
      rw [hone'] at h1
      have hys : ys[j]? = some (ys[j]'(by omega)) := List.getElem?_eq_getElem (by omega)
      refine ⟨_, _, ?_, h1.trans hys⟩
      rw [← Go.Deep.add_add, hcell, hv]
    refine ⟨some a, len, cap, hcs, hl, hm, fun i him => ?_⟩
    obtain ⟨n0, _, k0⟩ := key 0 (by omega)
    obtain ⟨u0, y0, c0, _⟩ := k0 0 _ (Array.getElem?_eq_getElem hpos)
    rw [Nat.zero_mul, Nat.add_zero] at c0
    obtain ⟨b, off, spot⟩ := a
    have hs : spot = none := by simpa [Addr.add] using World.cell?_spot c0
    subst hs
    obtain ⟨n, hlt, hn⟩ := key i him
    refine ⟨b, off, n, hlt, rfl, by simpa [Addr.add] using World.block_lt_of_cell? w _ c0, fun j f hj => ?_⟩
    obtain ⟨u, y, h1, h2⟩ := hn j f hj
    rw [add_plain, ← Nat.add_assoc] at h1
    exact ⟨u, y, h1, h2⟩
end

theorem Fo.ok_of (l : List Ex) (h : ∀ x ∈ l, I64 x.op ∧ x.a.size ≤ maxLen ∧ x.ks.Ok) : (Fo.of l).Ok := by
  induction l with
  | nil => trivial
  | cons e l ih =>
    obtain ⟨h1, h2, h3⟩ := h e (by simp)
    exact ⟨h1, h2, h3, ih fun x hx => h x (by simp [hx])⟩
/-- From a fact at each index to a row of expressions. -/
theorem fo_of {w : World} {p : Option Addr} {len cap : Nat} (hl : len ≤ cap) (hm : cap ≤ maxLen)
    (h : ∀ i, i < len → ∃ x : Ex, (∃ b off, p = some ⟨b, off, none⟩ ∧ b < w.heap.size ∧ w.cell? ⟨b, off + i * 3, none⟩ = some (.int .i64 x.op) ∧ w.cell? ⟨b, off + i * 3 + 1, none⟩ = some (.string x.a) ∧ ∃ v, w.cell? ⟨b, off + i * 3 + 2, none⟩ = some v ∧ x.ks.In w.heap.size w v) ∧ I64 x.op ∧ x.a.size ≤ maxLen ∧ x.ks.Ok) :
    ∃ f : Fo, f.In w.heap.size w (.slice p len cap) ∧ f.Ok := by
  have key : ∃ l : List Ex, l.length = len ∧ ∀ (i : Nat) (hi : i < l.length), (∃ b off, p = some ⟨b, off, none⟩ ∧ b < w.heap.size ∧ w.cell? ⟨b, off + i * 3, none⟩ = some (.int .i64 l[i].op) ∧ w.cell? ⟨b, off + i * 3 + 1, none⟩ = some (.string l[i].a) ∧ ∃ v, w.cell? ⟨b, off + i * 3 + 2, none⟩ = some v ∧ l[i].ks.In w.heap.size w v) ∧ I64 l[i].op ∧ l[i].a.size ≤ maxLen ∧ l[i].ks.Ok := by
    refine ⟨List.ofFn fun i : Fin len => Classical.choose (h i.1 i.2), by simp, fun i hi => ?_⟩
    rw [List.getElem_ofFn]
    exact Classical.choose_spec (h i (by simpa using hi))
  obtain ⟨l, hlen, hk⟩ := key
  refine ⟨Fo.of l, ⟨p, cap, by rw [Fo.list_of, hlen], by rw [Fo.list_of, hlen]; exact hl, hm, ?_⟩, Fo.ok_of l fun x hx => ?_⟩
  · rw [Fo.list_of]
    by_cases h0 : l.length = 0
    · exact .inl (List.eq_nil_of_length_eq_zero h0)
    · obtain ⟨⟨b, off, rfl, hb, _⟩, _⟩ := hk 0 (by omega)
      refine .inr ⟨b, off, rfl, hb, Fo.of_row l off fun i hi => ?_⟩
      obtain ⟨⟨b', off', e, _, g1, g2, g3⟩, _⟩ := hk i hi
      cases e
      exact ⟨g1, g2, g3⟩
  · obtain ⟨i, hi, rfl⟩ := List.getElem_of_mem hx
    exact (hk i hi).2

section
variable {H : Type} {enc : TypeId × Value → H} {w : World} {base : Nat} {spare : Nat → Bool} {held : Bool}
end
end Go.Proofs.Ytfdkmngkpihpbaa
