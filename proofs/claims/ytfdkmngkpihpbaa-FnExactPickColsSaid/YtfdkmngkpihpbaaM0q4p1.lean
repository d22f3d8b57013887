/- Lemmas on the data and the memory of this program's values: several texts in one. -/
import Derived.Test.YtfdkmngkpihpbaaM0q0p1
import Derived.Test.YtfdkmngkpihpbaaM0q0p2
import Derived.Test.YtfdkmngkpihpbaaProg
import Derived.ProofKit
import Derived.KernelRfl
namespace Go.Proofs.Ytfdkmngkpihpbaa
open Go.RowKit

theorem Gr.At.form {g : Gr} {B : Nat} {w : World} {v : Value} (h : g.At B w v) : ∃ p c q d, v = .agg #[.slice p g.ns.length c, .slice q g.es.length d] := by
  obtain ⟨a, b, rfl, h1, h2⟩ := h
  obtain ⟨p, c, rfl⟩ := h1.form
  obtain ⟨q, d, rfl⟩ := h2.form
  exact ⟨p, c, q, d, rfl⟩
theorem Gr.At.to {g : Gr} {B B' : Nat} {w w' : World} {v : Value} (h : g.At B w v) (hb : Below B w w') (hB : B ≤ B') : g.At B' w' v := (h.below hb).mono hB
theorem Gr.goes (g : Gr) : Goes g.Has := fun _ _ _ _ _ h hc hd => h.chg hc hd
end Go.Proofs.Ytfdkmngkpihpbaa
namespace Go.Proofs.Ytfdkmngkpihpbaa
open Go.ChangeShapes Go.WideShapes Go.Deep Go.RowKit Go.Joins

section
variable {H : Type} {enc : TypeId × Value → H} {w : World} {base : Nat} {spare : Nat → Bool} {held : Bool}

/-- A slice of ints that is read: a list in memory. -/
theorem open_int_list {fuel : Nat} {v : Value} {y : DataW H × List MemPlace} (h : DataW.trod enc Try.prog w base spare held fuel 23 [v] = some y) :
    ∃ xs : List Int, Sl 1 intCells w.heap.size w v xs ∧ ∀ x ∈ xs, I64 x := by
  rcases open_slice Try.underlying23 h with ⟨h0, _⟩ | ⟨a, len, cap, m, n, D, Pl, hcs, hb, hl, hm, hmm, hx, hi⟩
  · simp at h0
    exact ⟨[], ⟨none, 0, 0, h0, rfl, Nat.le_refl _, Nat.zero_le _, fun i hi => by simp at hi⟩, by simp⟩
  · simp at hcs
    have hlm : len ≤ m := by rw [hmm]; split <;> omega
    have hC : Try.prog.cellsOf 3 = 1 := by kernel_rfl
    have key : ∀ i, i < len → ∃ z : Int, w.cell? (a.add i) = some (.int .i64 z) ∧ I64 z := by
      intro i him
      obtain ⟨cs', hc, ht'⟩ := hi i (by omega)
      rw [hC] at hc
      obtain ⟨_, hcl, hat⟩ := World.cells?_some hc
      have h0 := hat 0 (by decide)
      have hv : cs'[0]? = some (cs'[0]'(by omega)) := List.getElem?_eq_getElem (by omega)
      have hone : cs' = [cs'[0]'(by omega)] := by
        match cs', hcl with
        | [u], _ => rfl
      rw [hone] at ht'
      obtain ⟨z, hz, hz2⟩ := open_i64 Try.underlying3 ht'
      rw [hv, hz] at h0
      refine ⟨z, ?_, hz2⟩
      rw [← h0, Go.Deep.add_add, Nat.mul_one, Nat.add_zero]
    rw [hcs]
    refine sl_of hl hm I64 fun i him => ?_
    obtain ⟨z, hz, hz2⟩ := key i him
    refine ⟨z, ?_, hz2⟩
    obtain ⟨b, off, spot⟩ := a
    obtain ⟨z0, hz0, _⟩ := key 0 (by omega)
    have hs : spot = none := by simpa [Addr.add] using World.cell?_spot hz0
    clear hz0
    subst hs
    rw [add_plain] at hz
    refine ⟨b, off, rfl, World.block_lt_of_cell? w _ hz, fun j v hv => ?_⟩
    match j, hv with
    | 0, hv => simp [intCells] at hv; subst hv; simpa using hz
    | j + 1, hv => simp [intCells] at hv

set_option maxRecDepth 100000 in
/-- A Walk that came in. -/
theorem open_walk {r : Reach} {b0 : Nat} {v : Value} {d : DataW H} {p : List MemPlace} (hv : Value.okWide Try.prog w r b0 63 v) (h : DataW.Trod enc Try.prog w base spare held 63 v d p) :
    ∃ x : Wk, x.At w.heap.size w v ∧ x.Ok := by
  obtain ⟨v0, v1, y0, y1, n, rfl, _, _, h0, h1⟩ := open_agg2 Try.underlying63 (by kernel_rfl) (by kernel_rfl) hv h
  obtain ⟨ns, hn, hno⟩ := open_int_list h0
  obtain ⟨es, he, heo⟩ := open_int_list h1
  exact ⟨⟨ns, es⟩, ⟨v0, v1, rfl, hn, he⟩, hno, heo⟩
end
end Go.Proofs.Ytfdkmngkpihpbaa
namespace Go.Proofs.Ytfdkmngkpihpbaa
open Go.ChangeShapes Go.WideShapes Go.Deep Go.RowKit Go.Joins

section
variable {H : Type} {enc : TypeId × Value → H} {w : World} {base : Nat} {spare : Nat → Bool} {held : Bool}
/-- As open_struct_rows, with how deep the fields are read. -/
theorem open_struct_rows_lt {P : Program} {t e : TypeId} {fs : Array Field} {fuel : Nat} {v : Value} {x : DataW H × List MemPlace} (ht : P.underlying t = some (.slice e)) (he : P.underlying e = some (.struct fs))
    (hone : oneCellFields P fs = true) (hC : P.cellsOf e = fs.size) (hpos : 0 < fs.size) (h : DataW.trod enc P w base spare held fuel t [v] = some x) :
    ∃ (p : Option Addr) (len cap : Nat), v = .slice p len cap ∧ len ≤ cap ∧ cap ≤ maxLen ∧
      ∀ i, i < len → ∃ (b off : Nat) (n : Nat), n < fuel ∧ p = some ⟨b, off, none⟩ ∧ b < w.heap.size ∧ ∀ (j : Nat) (f : Field), fs[j]? = some f → ∃ (u : Value) (y : DataW H × List MemPlace), w.cell? ⟨b, off + i * fs.size + j, none⟩ = some u ∧ DataW.trod enc P w base spare held n f.type [u] = some y := by
  rcases DataW.trod_slice ht h with ⟨h0, _⟩ | ⟨a, len, cap, elems, rest, n, hfu, hcs, _, hb, hl, hm, hlen, hel, _, _⟩
  · simp at h0
    exact ⟨none, 0, 0, h0, Nat.le_refl _, Nat.zero_le _, fun i hi => by omega⟩
  · simp at hcs
    have key : ∀ i, i < len → ∃ n : Nat, n < fuel ∧ ∀ (j : Nat) (f : Field), fs[j]? = some f → ∃ (u : Value) (y : DataW H × List MemPlace), w.cell? (a.add (i * fs.size + j)) = some u ∧ DataW.trod enc P w base spare held n f.type [u] = some y := by
      intro i him
      have k1 := hel i him
      rw [List.getElem?_eq_getElem (by omega)] at k1
      obtain ⟨cs', hc, ht'⟩ := Option.bind_eq_some_iff.1 k1
      rw [hC] at hc
      obtain ⟨ys, n', hn', hy, hlen, hyl, hf⟩ := DataW.trod_struct he ht'
      obtain ⟨_, hcl, hat⟩ := World.cells?_some hc
      refine ⟨n', by omega, fun j f hj => ?_⟩
      obtain ⟨ho, hk⟩ := hone_of hone j f hj
      have hjl : j < fs.size := (Array.getElem?_eq_some_iff.1 hj).1
      have hcell := hat j hjl
      have hv : cs'[j]? = some (cs'[j]'(by omega)) := List.getElem?_eq_getElem (by omega)
      have h1 := hf j f hj
      rw [ho, hk] at h1
      have hone' : (cs'.drop j).take 1 = [cs'[j]'(by omega)] := by
        rw [List.drop_eq_getElem_cons (by omega)]
        rfl
      rw [hone'] at h1
      have hys : ys[j]? = some (ys[j]'(by omega)) := List.getElem?_eq_getElem (by omega)
      refine ⟨_, _, ?_, h1.trans hys⟩
      rw [← Go.Deep.add_add, hcell, hv]
    refine ⟨some a, len, cap, hcs, hl, hm, fun i him => ?_⟩
    obtain ⟨n0, _, k0⟩ := key 0 (by omega)
    obtain ⟨u0, y0, c0, _⟩ := k0 0 _ (Array.getElem?_eq_getElem hpos)
    rw [Nat.zero_mul, Nat.add_zero] at c0
    obtain ⟨b, off, spot⟩ := a
    have hs : spot = none := by simpa [Addr.add] using World.cell?_spot c0
    subst hs
    obtain ⟨n, hlt, hn⟩ := key i him
    refine ⟨b, off, n, hlt, rfl, by simpa [Addr.add] using World.block_lt_of_cell? w _ c0, fun j f hj => ?_⟩
    obtain ⟨u, y, h1, h2⟩ := hn j f hj
    rw [add_plain, ← Nat.add_assoc] at h1
    exact ⟨u, y, h1, h2⟩
end

theorem Fo.ok_of (l : List Ex) (h : ∀ x ∈ l, I64 x.op ∧ x.a.size ≤ maxLen ∧ x.ks.Ok) : (Fo.of l).Ok := by
  induction l with
  | nil => trivial
  | cons e l ih =>
    obtain ⟨h1, h2, h3⟩ := h e (by simp)
    exact ⟨h1, h2, h3, ih fun x hx => h x (by simp [hx])⟩
/-- From a fact at each index to a row of expressions. -/
theorem fo_of {w : World} {p : Option Addr} {len cap : Nat} (hl : len ≤ cap) (hm : cap ≤ maxLen)
    (h : ∀ i, i < len → ∃ x : Ex, (∃ b off, p = some ⟨b, off, none⟩ ∧ b < w.heap.size ∧ w.cell? ⟨b, off + i * 3, none⟩ = some (.int .i64 x.op) ∧ w.cell? ⟨b, off + i * 3 + 1, none⟩ = some (.string x.a) ∧ ∃ v, w.cell? ⟨b, off + i * 3 + 2, none⟩ = some v ∧ x.ks.In w.heap.size w v) ∧ I64 x.op ∧ x.a.size ≤ maxLen ∧ x.ks.Ok) :
    ∃ f : Fo, f.In w.heap.size w (.slice p len cap) ∧ f.Ok := by
  have key : ∃ l : List Ex, l.length = len ∧ ∀ (i : Nat) (hi : i < l.length), (∃ b off, p = some ⟨b, off, none⟩ ∧ b < w.heap.size ∧ w.cell? ⟨b, off + i * 3, none⟩ = some (.int .i64 l[i].op) ∧ w.cell? ⟨b, off + i * 3 + 1, none⟩ = some (.string l[i].a) ∧ ∃ v, w.cell? ⟨b, off + i * 3 + 2, none⟩ = some v ∧ l[i].ks.In w.heap.size w v) ∧ I64 l[i].op ∧ l[i].a.size ≤ maxLen ∧ l[i].ks.Ok := by
    refine ⟨List.ofFn fun i : Fin len => Classical.choose (h i.1 i.2), by simp, fun i hi => ?_⟩
    rw [List.getElem_ofFn]
    exact Classical.choose_spec (h i (by simpa using hi))
  obtain ⟨l, hlen, hk⟩ := key
  refine ⟨Fo.of l, ⟨p, cap, by rw [Fo.list_of, hlen], by rw [Fo.list_of, hlen]; exact hl, hm, ?_⟩, Fo.ok_of l fun x hx => ?_⟩
  · rw [Fo.list_of]
    by_cases h0 : l.length = 0
    · exact .inl (List.eq_nil_of_length_eq_zero h0)
    · obtain ⟨⟨b, off, rfl, hb, _⟩, _⟩ := hk 0 (by omega)
      refine .inr ⟨b, off, rfl, hb, Fo.of_row l off fun i hi => ?_⟩
      obtain ⟨⟨b', off', e, _, g1, g2, g3⟩, _⟩ := hk i hi
      cases e
      exact ⟨g1, g2, g3⟩
  · obtain ⟨i, hi, rfl⟩ := List.getElem_of_mem hx
    exact (hk i hi).2

section
variable {H : Type} {enc : TypeId × Value → H} {w : World} {base : Nat} {spare : Nat → Bool} {held : Bool}
end
end Go.Proofs.Ytfdkmngkpihpbaa
namespace Go.Proofs.Ytfdkmngkpihpbaa
open Go.ChangeShapes Go.WideShapes Go.Deep Go.RowKit Go.Joins

section
variable {H : Type} {enc : TypeId × Value → H} {w : World} {base : Nat} {spare : Nat → Bool} {held : Bool}
/-- From a fact at each index to a row of a kind. -/
theorem Kd.rd_of {α : Type} (K : Kd α) {B : Nat} {w : World} {p : Option Addr} {len cap : Nat} (hl : len ≤ cap) (hm : cap ≤ maxLen) (Ok : α → Prop)
    (h : ∀ i, i < len → ∃ x : α, (∃ b off cs, p = some ⟨b, off, none⟩ ∧ b < B ∧ (∀ j u, cs[j]? = some u → w.cell? ⟨b, off + i * K.sz + j, none⟩ = some u) ∧ K.rd B w x cs) ∧ Ok x) :
    ∃ xs : List α, K.Rd B w (.slice p len cap) xs ∧ ∀ x ∈ xs, Ok x := by
  refine ⟨List.ofFn fun i : Fin len => Classical.choose (h i.1 i.2), ⟨p, cap, by simp, by simpa using hl, hm, fun i hi => ?_⟩, fun x hx => ?_⟩
  · rw [List.getElem_ofFn]
    exact (Classical.choose_spec (h i (by simpa using hi))).1
  · obtain ⟨i, rfl⟩ := List.mem_ofFn.1 hx
    exact (Classical.choose_spec (h i.1 i.2)).2
theorem open_cells {P : Program} {t e : TypeId} {c fuel : Nat} {v : Value} {y : DataW H × List MemPlace} (ht : P.underlying t = some (.slice e)) (hC : P.cellsOf e = c) (hpos : 0 < c) (h : DataW.trod enc P w base spare held fuel t [v] = some y) :
    ∃ (p : Option Addr) (len cap : Nat), v = .slice p len cap ∧ len ≤ cap ∧ cap ≤ maxLen ∧ ∀ i, i < len → ∃ (b off n : Nat) (cs : List Value) (z : DataW H × List MemPlace), p = some ⟨b, off, none⟩ ∧ b < w.heap.size ∧ cs.length = c ∧ (∀ j u, cs[j]? = some u → w.cell? ⟨b, off + i * c + j, none⟩ = some u) ∧ DataW.trod enc P w base spare held n e cs = some z := by
  rcases DataW.trod_slice ht h with ⟨h0, _⟩ | ⟨a, len, cap, elems, rest, n, hfu, hcs, _, hb, hl, hm, hlen, hel, _, _⟩
  · simp at h0
    exact ⟨none, 0, 0, h0, Nat.le_refl _, Nat.zero_le _, fun i hi => by omega⟩
  · simp at hcs
    subst hcs
    rw [hC] at hel
    refine ⟨some a, len, cap, rfl, hl, hm, fun i him => ?_⟩
    have k1 := hel i him
    rw [List.getElem?_eq_getElem (by omega)] at k1
    obtain ⟨cs', hc, ht'⟩ := Option.bind_eq_some_iff.1 k1
    obtain ⟨_, hcl, hat⟩ := World.cells?_some hc
    have hcell : ∀ j, j < c → w.cell? (a.add (i * c + j)) = cs'[j]? := fun j hj => by rw [← Go.Deep.add_add]; exact hat j hj
    have c00 := (hcell 0 hpos).trans (List.getElem?_eq_getElem (show 0 < cs'.length by omega))
    obtain ⟨b, off, spot⟩ := a
    have hs : spot = none := by
      have := World.cell?_spot c00
      unfold Addr.add at this
      split at this
      · simpa using this
      · rename_i hne
        have h2 := hel 0 (by omega)
        rw [List.getElem?_eq_getElem (by omega)] at h2
        obtain ⟨cs2, hc2, _⟩ := Option.bind_eq_some_iff.1 h2
        obtain ⟨_, hcl2, hat2⟩ := World.cells?_some hc2
        simpa [Addr.add] using World.cell?_spot ((hat2 0 hpos).trans (List.getElem?_eq_getElem (show 0 < cs2.length by omega)))
    subst hs
    have hb0 : b < w.heap.size := by have h := World.block_lt_of_cell? w _ c00; rw [add_plain] at h; exact h
    refine ⟨b, off, n, cs', _, rfl, hb0, hcl, fun j u hu => ?_, ht'⟩
    have hj : j < c := by have := (List.getElem?_eq_some_iff.1 hu).1; omega
    have := hcell j hj
    rw [add_plain, hu] at this
    rw [Nat.add_assoc]; exact this
end
end Go.Proofs.Ytfdkmngkpihpbaa
namespace Go.Proofs.Ytfdkmngkpihpbaa
open Go.ChangeShapes Go.WideShapes Go.Deep Go.RowKit Go.Joins

section
variable {H : Type} {enc : TypeId × Value → H} {w : World} {base : Nat} {spare : Nat → Bool} {held : Bool}
theorem kTs : Try.prog.cellsOf 9 = 1 := by kernel_rfl
theorem kTi : Try.prog.cellsOf 23 = 1 := by kernel_rfl
set_option maxRecDepth 100000 in
theorem open_strs {fuel : Nat} {v : Value} {y : DataW H × List MemPlace} (h : DataW.trod enc Try.prog w base spare held fuel 30 [v] = some y) :
    ∃ xs : List ByteArray, kStr.Rd w.heap.size w v xs ∧ ∀ x ∈ xs, x.size ≤ maxLen := by
  obtain ⟨p, len, cap, rfl, hl, hm, hi⟩ := open_cells Try.underlying30 kTs (by decide) h
  refine Kd.rd_of kStr hl hm (fun s => s.size ≤ maxLen) fun i him => ?_
  obtain ⟨b, off, n, cs, z, e, hlt, hlen, hc, ht⟩ := hi i him
  match cs, hlen with
  | [c0], _ =>
    obtain ⟨s, rfl, hs⟩ := open_str Try.underlying9 ht
    exact ⟨s, ⟨b, off, _, e, hlt, hc, rfl⟩, hs⟩
set_option maxRecDepth 100000 in
theorem open_rows {fuel : Nat} {v : Value} {y : DataW H × List MemPlace} (h : DataW.trod enc Try.prog w base spare held fuel 31 [v] = some y) :
    ∃ xs : List (List Int), kRow.Rd w.heap.size w v xs ∧ ∀ x ∈ xs, ∀ n ∈ x, I64 n := by
  obtain ⟨p, len, cap, rfl, hl, hm, hi⟩ := open_cells Try.underlying31 kTi (by decide) h
  refine Kd.rd_of kRow hl hm (fun x => ∀ n ∈ x, I64 n) fun i him => ?_
  obtain ⟨b, off, n, cs, z, e, hlt, hlen, hc, ht⟩ := hi i him
  match cs, hlen with
  | [c0], _ =>
    obtain ⟨x, hx, hxo⟩ := open_int_list ht
    exact ⟨x, ⟨b, off, _, e, hlt, hc, ⟨c0, rfl, kInt_rd.2 hx⟩⟩, hxo⟩
set_option maxRecDepth 100000 in
/-- A Table that came in. -/
theorem open_table {r : Reach} {b0 : Nat} {v : Value} {d : DataW H} {p : List MemPlace} (hv : Value.okWide Try.prog w r b0 44 v) (h : DataW.Trod enc Try.prog w base spare held 44 v d p) :
    ∃ x : Tb, x.At w.heap.size w v ∧ x.Ok := by
  obtain ⟨v0, v1, y0, y1, n, rfl, _, _, h0, h1⟩ := open_agg2 Try.underlying44 (by kernel_rfl) (by kernel_rfl) hv h
  obtain ⟨cs, hn, hno⟩ := open_strs h0
  obtain ⟨rs, he, heo⟩ := open_rows h1
  exact ⟨⟨cs, rs⟩, ⟨v0, v1, rfl, hn, he⟩, hno, heo⟩
set_option maxRecDepth 100000 in
/-- A row of texts that came in. -/
theorem open_strRow {r : Reach} {b0 : Nat} {v : Value} {d : DataW H} {p : List MemPlace} (hv : Value.okWide Try.prog w r b0 30 v) (h : DataW.Trod enc Try.prog w base spare held 30 v d p) :
    ∃ xs : List ByteArray, kStr.Rd w.heap.size w v xs ∧ ∀ x ∈ xs, x.size ≤ maxLen := by
  obtain ⟨p', len', cap', rfl⟩ := okWide_slice Try.underlying30 hv
  obtain ⟨fuel, hf⟩ := h
  exact open_strs (by simpa [Value.cells] using hf)
end
end Go.Proofs.Ytfdkmngkpihpbaa
