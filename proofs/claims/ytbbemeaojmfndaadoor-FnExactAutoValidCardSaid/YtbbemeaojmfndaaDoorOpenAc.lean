/- Opening automata that came in. -/
import Derived.Test.YtbbemeaojmfndaaDoorOpenEl
import Derived.Test.YtbbemeaojmfndaaDoorOpenRow
import Derived.Test.YtbbemeaojmfndaaDoorAc
namespace Go.Proofs.YtbbemeaojmfndaaDoor
open Go.ChangeShapes Go.WideShapes Go.Deep Go.RowKit Go.Joins

theorem list12 {α : Type} {l : List α} (h : l.length = 12) : ∃ c0 c1 c2 c3 c4 c5 c6 c7 c8 c9 c10 c11, l = [c0, c1, c2, c3, c4, c5, c6, c7, c8, c9, c10, c11] := by
  match l, h with
  | [c0, c1, c2, c3, c4, c5, c6, c7, c8, c9, c10, c11], _ => exact ⟨c0, c1, c2, c3, c4, c5, c6, c7, c8, c9, c10, c11, rfl⟩
section
variable {H : Type} {enc : TypeId × Value → H} {w : World} {base : Nat} {spare : Nat → Bool} {held : Bool}
theorem kA1 : Tryd.prog.cellsOf 121 = 12 := by kernel_rfl
theorem kA2 : Tryd.prog.cellsOf 54 = 2 := by kernel_rfl
theorem kA3 : Tryd.prog.cellsOf 52 = 1 := by kernel_rfl
theorem trod_struct4 {P : Program} {t : TypeId} {f0 f1 f2 f3 : Field} {fuel : Nat} {cs : List Value} {x : DataW H × List MemPlace} (ht : P.underlying t = some (.struct #[f0, f1, f2, f3])) (h : DataW.trod enc P w base spare held fuel t cs = some x) :
    ∃ y0 y1 y2 y3 n, fuel = n + 1 ∧ DataW.trod enc P w base spare held n f0.type ((cs.drop f0.offset).take (P.cellsOf f0.type)) = some y0 ∧ DataW.trod enc P w base spare held n f1.type ((cs.drop f1.offset).take (P.cellsOf f1.type)) = some y1 ∧
      DataW.trod enc P w base spare held n f2.type ((cs.drop f2.offset).take (P.cellsOf f2.type)) = some y2 ∧ DataW.trod enc P w base spare held n f3.type ((cs.drop f3.offset).take (P.cellsOf f3.type)) = some y3 := by
  obtain ⟨xs, n, hn, rfl, hl, hlen, hf⟩ := DataW.trod_struct ht h
  match xs, hlen with
  | [y0, y1, y2, y3], _ => exact ⟨y0, y1, y2, y3, n, hn, by simpa using hf 0 f0 rfl, by simpa using hf 1 f1 rfl, by simpa using hf 2 f2 rfl, by simpa using hf 3 f3 rfl⟩
set_option maxRecDepth 100000 in
/-- An Arc's twelve cells. -/
theorem open_arc12 {n : Nat} {c0 c1 c2 c3 c4 c5 c6 c7 c8 c9 c10 c11 : Value} {y : DataW H × List MemPlace} (h : DataW.trod enc Tryd.prog w base spare held n 121 [c0, c1, c2, c3, c4, c5, c6, c7, c8, c9, c10, c11] = some y) :
    ∃ a : Ac, kAc.rd w.heap.size w a [c0, c1, c2, c3, c4, c5, c6, c7, c8, c9, c10, c11] ∧ a.Ok := by
  obtain ⟨y0, y1, y2, y3, m, hm, h0, h1, h2, h3⟩ := trod_struct4 Tryd.underlying121 h
  simp only [kE1, kE4, kE5, List.drop_zero, List.drop_succ_cons, List.take_succ_cons, List.take_zero] at h0 h1 h2 h3
  obtain ⟨f, rfl, hf⟩ := open_i64 Tryd.underlying3 h0
  obtain ⟨t, rfl, ht⟩ := open_i64 Tryd.underlying3 h1
  obtain ⟨b, hb, _⟩ := DataW.trod_bool Tryd.underlying4 h2
  simp only [List.cons.injEq, and_true] at hb
  subst hb
  obtain ⟨e, k, k', rfl, rfl, rfl, rfl, rfl, rfl, rfl, rfl, rfl, hk, hk', hok⟩ := open_elem9 h3
  exact ⟨⟨f, t, b, e⟩, ⟨_, _, rfl, hk, hk'⟩, hf, ht, hok⟩
set_option maxRecDepth 100000 in
theorem open_arcs {fuel : Nat} {v : Value} {y : DataW H × List MemPlace} (h : DataW.trod enc Tryd.prog w base spare held fuel 52 [v] = some y) :
    ∃ xs : List Ac, kAc.Rd w.heap.size w v xs ∧ ∀ x ∈ xs, x.Ok := by
  obtain ⟨p, len, cap, rfl, hl, hm, hi⟩ := open_cells Tryd.underlying52 kA1 (by decide) h
  refine Kd.rd_of kAc hl hm Ac.Ok fun i him => ?_
  obtain ⟨b, off, n, cs, z, e, hlt, hlen, hc, ht⟩ := hi i him
  obtain ⟨c0, c1, c2, c3, c4, c5, c6, c7, c8, c9, c10, c11, rfl⟩ := list12 hlen
  obtain ⟨a, ha, hok⟩ := open_arc12 ht
  exact ⟨a, ⟨b, off, _, e, hlt, hc, ha⟩, hok⟩
set_option maxRecDepth 100000 in
/-- An Auto that came in. -/
theorem open_auto {r : Reach} {b0 : Nat} {v : Value} {d : DataW H} {p : List MemPlace} (hv : Value.okWide Tryd.prog w r b0 54 v) (h : DataW.Trod enc Tryd.prog w base spare held 54 v d p) :
    ∃ a : Au, a.At w.heap.size w v ∧ a.Ok := by
  obtain ⟨v0, v1, y0, y1, n, rfl, _, _, h0, h1⟩ := open_agg2 Tryd.underlying54 (by kernel_rfl) (by kernel_rfl) hv h
  obtain ⟨s, rfl, hs⟩ := open_i64 Tryd.underlying3 h0
  obtain ⟨ar, har, hok⟩ := open_arcs h1
  exact ⟨⟨s, ar⟩, ⟨_, rfl, har⟩, hs, hok⟩
end
end Go.Proofs.YtbbemeaojmfndaaDoor
