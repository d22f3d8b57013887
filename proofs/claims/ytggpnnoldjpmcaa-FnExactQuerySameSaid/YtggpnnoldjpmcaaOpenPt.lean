/- Opening patterns that came in. -/
import Derived.Test.YtggpnnoldjpmcaaOpenEl
import Derived.Test.YtggpnnoldjpmcaaPt
namespace Go.Proofs.Ytggpnnoldjpmcaa
open Go.ChangeShapes Go.WideShapes Go.Deep Go.RowKit Go.Joins

theorem list13 {α : Type} {l : List α} (h : l.length = 13) : ∃ c0 c1 c2 c3 c4 c5 c6 c7 c8 c9 c10 c11 c12, l = [c0, c1, c2, c3, c4, c5, c6, c7, c8, c9, c10, c11, c12] := by
  match l, h with
  | [c0, c1, c2, c3, c4, c5, c6, c7, c8, c9, c10, c11, c12], _ => exact ⟨c0, c1, c2, c3, c4, c5, c6, c7, c8, c9, c10, c11, c12, rfl⟩
section
variable {H : Type} {enc : TypeId × Value → H} {w : World} {base : Nat} {spare : Nat → Bool} {held : Bool}
theorem kE7 : Try.prog.cellsOf 127 = 13 := by kernel_rfl
theorem kE8 : Try.prog.cellsOf 22 = 1 := by kernel_rfl
set_option maxRecDepth 100000 in
/-- A Pat's thirteen cells. -/
theorem open_pat13 {n : Nat} {c0 c1 c2 c3 c4 c5 c6 c7 c8 c9 c10 c11 c12 : Value} {y : DataW H × List MemPlace} (h : DataW.trod enc Try.prog w base spare held n 127 [c0, c1, c2, c3, c4, c5, c6, c7, c8, c9, c10, c11, c12] = some y) :
    ∃ (o lo hi : Int) (e : El) (k k' : Value) (m : Nat) (z : DataW H × List MemPlace), m < n ∧ c0 = .int .i64 o ∧ c1 = .bool e.n ∧ c2 = .string e.v ∧ c3 = .int .i64 e.l.op ∧ c4 = .string e.l.a ∧ c5 = k ∧ c6 = .int .i64 e.c.op ∧ c7 = .string e.c.a ∧ c8 = k' ∧ c9 = .int .i64 e.d ∧ c11 = .int .i64 lo ∧ c12 = .int .i64 hi ∧
      e.l.ks.In w.heap.size w k ∧ e.c.ks.In w.heap.size w k' ∧ (I64 o ∧ e.Ok ∧ I64 lo ∧ I64 hi) ∧ DataW.trod enc Try.prog w base spare held m 22 [c10] = some z := by
  obtain ⟨y0, y1, y2, y3, y4, m, hm, h0, h1, h2, h3, h4⟩ := trod_struct5 Try.underlying127 h
  simp only [kE4, kE5, kE8, List.drop_zero, List.drop_succ_cons, List.take_succ_cons, List.take_zero] at h0 h1 h2 h3 h4
  obtain ⟨o, rfl, ho⟩ := open_i64 Try.underlying3 h0
  obtain ⟨e, k, k', rfl, rfl, rfl, rfl, rfl, rfl, rfl, rfl, rfl, hk, hk', hok⟩ := open_elem9 h1
  obtain ⟨lo, rfl, hlo⟩ := open_i64 Try.underlying3 h3
  obtain ⟨hi, rfl, hhi⟩ := open_i64 Try.underlying3 h4
  exact ⟨o, lo, hi, e, _, _, m, y2, by omega, rfl, rfl, rfl, rfl, rfl, rfl, rfl, rfl, rfl, rfl, rfl, rfl, hk, hk', ⟨ho, hok, hlo, hhi⟩, h2⟩
/-- From a fact at each index to a row of patterns. -/
theorem pf_of {p : Option Addr} {len cap : Nat} (hl : len ≤ cap) (hm : cap ≤ maxLen)
    (h : ∀ i, i < len → ∃ x : Pt, (∃ b off, p = some ⟨b, off, none⟩ ∧ b < w.heap.size ∧ x.Thirteen false w.heap.size w (fun j => w.cell? ⟨b, off + (i * 13 + j), none⟩)) ∧ x.Ok1 ∧ x.ks.Ok) :
    ∃ f : Pf, f.Is false w.heap.size w (.slice p len cap) ∧ f.Ok := by
  have key : ∃ l : List Pt, l.length = len ∧ ∀ (i : Nat) (hi : i < l.length), (∃ b off, p = some ⟨b, off, none⟩ ∧ b < w.heap.size ∧ l[i].Thirteen false w.heap.size w (fun j => w.cell? ⟨b, off + (i * 13 + j), none⟩)) ∧ l[i].Ok1 ∧ l[i].ks.Ok := by
    refine ⟨List.ofFn fun i : Fin len => Classical.choose (h i.1 i.2), by simp, fun i hi => ?_⟩
    rw [List.getElem_ofFn]
    exact Classical.choose_spec (h i (by simpa using hi))
  obtain ⟨l, hlen, hk⟩ := key
  refine ⟨Pf.of l, ⟨p, cap, by rw [Pf.list_of, hlen], by rw [Pf.list_of, hlen]; exact hl, hm, ?_⟩, Pf.ok_of l fun x hx => ?_⟩
  · rw [Pf.list_of]
    by_cases h0 : l.length = 0
    · exact .inl (List.eq_nil_of_length_eq_zero h0)
    · obtain ⟨⟨b, off, rfl, hb, _⟩, _⟩ := hk 0 (by omega)
      refine .inr ⟨b, off, rfl, hb, fun h => (by cases h), Pf.row_of l fun i hi => ?_⟩
      obtain ⟨⟨b', off', e, _, g1⟩, _⟩ := hk i hi
      cases e
      exact g1
  · obtain ⟨i, hi, rfl⟩ := List.getElem_of_mem hx
    exact (hk i hi).2
set_option maxRecDepth 100000 in
theorem open_pats (fuel : Nat) : ∀ {v : Value} {y : DataW H × List MemPlace}, DataW.trod enc Try.prog w base spare held fuel 22 [v] = some y → ∃ f : Pf, f.Is false w.heap.size w v ∧ f.Ok := by
  induction fuel using Nat.strongRecOn with
  | _ fuel ih =>
    intro v y h
    rcases DataW.trod_slice Try.underlying22 h with ⟨h0, _⟩ | ⟨a, len, cap, elems, rest, n, hfu, hcs, _, hb, hl, hm, hlen, hel, _, _⟩
    · simp at h0
      subst h0
      exact ⟨.nil, ⟨none, 0, rfl, Nat.le_refl _, Nat.zero_le _, .inl rfl⟩, trivial⟩
    · simp at hcs
      subst hcs
      rw [kE7] at hel
      refine pf_of hl hm fun i him => ?_
      have k1 := hel i him
      rw [List.getElem?_eq_getElem (by omega)] at k1
      obtain ⟨cs', hc, ht'⟩ := Option.bind_eq_some_iff.1 k1
      obtain ⟨_, hcl, hat⟩ := World.cells?_some hc
      obtain ⟨c0, c1, c2, c3, c4, c5, c6, c7, c8, c9, c10, c11, c12, rfl⟩ := list13 hcl
      obtain ⟨o, lo, hi, e, k, k', m, z, hmn, rfl, rfl, rfl, rfl, rfl, rfl, rfl, rfl, rfl, rfl, rfl, rfl, hk, hk', hok, hks⟩ := open_pat13 ht'
      obtain ⟨ks, hks, hkok⟩ := ih m (by omega) hks
      have hcell : ∀ j, j < 13 → w.cell? (a.add (i * 13 + j)) = [.int .i64 o, .bool e.n, .string e.v, .int .i64 e.l.op, .string e.l.a, c5, .int .i64 e.c.op, .string e.c.a, c8, .int .i64 e.d, c10, .int .i64 lo, .int .i64 hi][j]? := fun j hj => by rw [← Go.Deep.add_add]; exact hat j hj
      have c00 := hcell 0 (by omega)
      obtain ⟨b, off, spot⟩ := a
      have hs : spot = none := by
        have := World.cell?_spot c00
        unfold Addr.add at this
        split at this
        · simpa using this
        · rename_i hne
          have h2 := hel 0 (by omega)
          rw [List.getElem?_eq_getElem (by omega)] at h2
          obtain ⟨cs2, hc2, _⟩ := Option.bind_eq_some_iff.1 h2
          obtain ⟨_, hcl2, hat2⟩ := World.cells?_some hc2
          obtain ⟨z0, z1, z2, z3, z4, z5, z6, z7, z8, z9, z10, z11, z12, rfl⟩ := list13 hcl2
          simpa [Addr.add] using World.cell?_spot (hat2 0 (by omega))
      subst hs
      have hb0 : b < w.heap.size := by have h := World.block_lt_of_cell? w _ c00; rw [add_plain] at h; exact h
      have hc' : ∀ j, j < 13 → w.cell? ⟨b, off + (i * 13 + j), none⟩ = [.int .i64 o, .bool e.n, .string e.v, .int .i64 e.l.op, .string e.l.a, c5, .int .i64 e.c.op, .string e.c.a, c8, .int .i64 e.d, c10, .int .i64 lo, .int .i64 hi][j]? := fun j hj => by
        have := hcell j hj
        rwa [add_plain] at this
      refine ⟨⟨o, e, ks, lo, hi⟩, ⟨b, off, rfl, hb0, ?_⟩, hok, hkok⟩
      exact ⟨hc' 0 (by omega), ⟨hc' 1 (by omega), hc' 2 (by omega), hc' 3 (by omega), hc' 4 (by omega), ⟨_, hc' 5 (by omega), .of_in hk⟩, hc' 6 (by omega), hc' 7 (by omega), ⟨_, hc' 8 (by omega), .of_in hk'⟩, hc' 9 (by omega)⟩, ⟨_, hc' 10 (by omega), hks⟩, hc' 11 (by omega), hc' 12 (by omega)⟩
set_option maxRecDepth 100000 in
/-- A Pat that came in. -/
theorem open_pat {r : Reach} {b0 : Nat} {v : Value} {d : DataW H} {p : List MemPlace} (hv : Value.okWide Try.prog w r b0 127 v) (h : DataW.Trod enc Try.prog w base spare held 127 v d p) :
    ∃ x : Pt, x.At w.heap.size w v ∧ x.Ok := by
  obtain ⟨cs, rfl, hsz⟩ := okWide_struct Try.underlying127 hv
  obtain ⟨cs⟩ := cs
  obtain ⟨c0, c1, c2, c3, c4, c5, c6, c7, c8, c9, c10, c11, c12, rfl⟩ := list13 (l := cs) (by simpa using hsz.trans kE7)
  obtain ⟨fuel, hf⟩ := h
  obtain ⟨o, lo, hi, e, k, k', m, z, _, rfl, rfl, rfl, rfl, rfl, rfl, rfl, rfl, rfl, rfl, rfl, rfl, hk, hk', hok, hks⟩ := open_pat13 (by simpa [Value.cells] using hf)
  obtain ⟨ks, hks, hkok⟩ := open_pats m hks
  exact ⟨⟨o, e, ks, lo, hi⟩, ⟨_, _, _, rfl, .of_in hk, .of_in hk', hks⟩, hok, hkok⟩
end
end Go.Proofs.Ytggpnnoldjpmcaa
