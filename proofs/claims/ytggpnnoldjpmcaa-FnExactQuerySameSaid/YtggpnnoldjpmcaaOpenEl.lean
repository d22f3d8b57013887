/- Opening elements that came in. -/
import Derived.Test.YtggpnnoldjpmcaaOpenE
import Derived.Test.YtggpnnoldjpmcaaElem
namespace Go.Proofs.Ytggpnnoldjpmcaa
open Go.ChangeShapes Go.WideShapes Go.Deep Go.RowKit Go.Joins

theorem array9 {α : Type} {cs : Array α} (h : cs.size = 9) : ∃ c0 c1 c2 c3 c4 c5 c6 c7 c8, cs = #[c0, c1, c2, c3, c4, c5, c6, c7, c8] := by
  obtain ⟨l⟩ := cs
  simp only [List.size_toArray] at h
  obtain ⟨c0, l, rfl⟩ := List.exists_cons_of_length_eq_add_one h
  obtain ⟨c1, l, rfl⟩ := List.exists_cons_of_length_eq_add_one (Nat.succ.inj h)
  obtain ⟨c2, l, rfl⟩ := List.exists_cons_of_length_eq_add_one (Nat.succ.inj (Nat.succ.inj h))
  simp only [List.length_cons] at h
  obtain ⟨c3, l, rfl⟩ := List.exists_cons_of_length_eq_add_one (show l.length = 5 + 1 by omega)
  simp only [List.length_cons] at h
  obtain ⟨c4, l, rfl⟩ := List.exists_cons_of_length_eq_add_one (show l.length = 4 + 1 by omega)
  simp only [List.length_cons] at h
  obtain ⟨c5, l, rfl⟩ := List.exists_cons_of_length_eq_add_one (show l.length = 3 + 1 by omega)
  simp only [List.length_cons] at h
  obtain ⟨c6, l, rfl⟩ := List.exists_cons_of_length_eq_add_one (show l.length = 2 + 1 by omega)
  simp only [List.length_cons] at h
  obtain ⟨c7, l, rfl⟩ := List.exists_cons_of_length_eq_add_one (show l.length = 1 + 1 by omega)
  simp only [List.length_cons] at h
  obtain ⟨c8, l, rfl⟩ := List.exists_cons_of_length_eq_add_one (show l.length = 0 + 1 by omega)
  simp only [List.length_cons] at h
  obtain rfl := List.eq_nil_of_length_eq_zero (show l.length = 0 by omega)
  exact ⟨c0, c1, c2, c3, c4, c5, c6, c7, c8, rfl⟩

section
variable {H : Type} {enc : TypeId × Value → H} {w : World} {base : Nat} {spare : Nat → Bool} {held : Bool}
theorem trod_struct5 {P : Program} {t : TypeId} {f0 f1 f2 f3 f4 : Field} {fuel : Nat} {cs : List Value} {x : DataW H × List MemPlace} (ht : P.underlying t = some (.struct #[f0, f1, f2, f3, f4])) (h : DataW.trod enc P w base spare held fuel t cs = some x) :
    ∃ y0 y1 y2 y3 y4 n, fuel = n + 1 ∧ DataW.trod enc P w base spare held n f0.type ((cs.drop f0.offset).take (P.cellsOf f0.type)) = some y0 ∧ DataW.trod enc P w base spare held n f1.type ((cs.drop f1.offset).take (P.cellsOf f1.type)) = some y1 ∧
      DataW.trod enc P w base spare held n f2.type ((cs.drop f2.offset).take (P.cellsOf f2.type)) = some y2 ∧ DataW.trod enc P w base spare held n f3.type ((cs.drop f3.offset).take (P.cellsOf f3.type)) = some y3 ∧ DataW.trod enc P w base spare held n f4.type ((cs.drop f4.offset).take (P.cellsOf f4.type)) = some y4 := by
  obtain ⟨xs, n, hn, rfl, hl, hlen, hf⟩ := DataW.trod_struct ht h
  match xs, hlen with
  | [y0, y1, y2, y3, y4], _ => exact ⟨y0, y1, y2, y3, y4, n, hn, by simpa using hf 0 f0 rfl, by simpa using hf 1 f1 rfl, by simpa using hf 2 f2 rfl, by simpa using hf 3 f3 rfl, by simpa using hf 4 f4 rfl⟩
theorem kE1 : Try.prog.cellsOf 4 = 1 := by kernel_rfl
theorem kE2 : Try.prog.cellsOf 9 = 1 := by kernel_rfl
theorem kE3 : Try.prog.cellsOf 123 = 3 := by kernel_rfl
theorem kE4 : Try.prog.cellsOf 3 = 1 := by kernel_rfl
theorem kE5 : Try.prog.cellsOf 125 = 9 := by kernel_rfl
theorem kE6 : Try.prog.cellsOf 121 = 1 := by kernel_rfl
set_option maxRecDepth 100000 in
/-- An Expr's three cells. -/
theorem open_expr3 {n : Nat} {c0 c1 c2 : Value} {y : DataW H × List MemPlace} (h : DataW.trod enc Try.prog w base spare held n 123 [c0, c1, c2] = some y) :
    ∃ (e : Ex) (k : Value), c0 = .int .i64 e.op ∧ c1 = .string e.a ∧ c2 = k ∧ e.ks.In w.heap.size w k ∧ e.Ok ∧ e.ks.Ok := by
  obtain ⟨y0, y1, y2, m, _, _, h0, h1, h2⟩ := trod_struct3 Try.underlying123 h
  simp only [kE4, kE2, kE6, List.drop_zero, List.drop_succ_cons, List.take_succ_cons, List.take_zero] at h0 h1 h2
  obtain ⟨o, rfl, ho⟩ := open_i64 Try.underlying3 h0
  obtain ⟨s, rfl, hs⟩ := open_str Try.underlying9 h1
  obtain ⟨ks, hk, hok⟩ := open_exprs m h2
  exact ⟨⟨o, s, ks⟩, c2, rfl, rfl, rfl, hk, ⟨ho, hs⟩, hok⟩
set_option maxRecDepth 100000 in
/-- An Elem's nine cells. -/
theorem open_elem9 {n : Nat} {c0 c1 c2 c3 c4 c5 c6 c7 c8 : Value} {y : DataW H × List MemPlace} (h : DataW.trod enc Try.prog w base spare held n 125 [c0, c1, c2, c3, c4, c5, c6, c7, c8] = some y) :
    ∃ (e : El) (k k' : Value), c0 = .bool e.n ∧ c1 = .string e.v ∧ c2 = .int .i64 e.l.op ∧ c3 = .string e.l.a ∧ c4 = k ∧ c5 = .int .i64 e.c.op ∧ c6 = .string e.c.a ∧ c7 = k' ∧ c8 = .int .i64 e.d ∧ e.l.ks.In w.heap.size w k ∧ e.c.ks.In w.heap.size w k' ∧ e.Ok := by
  obtain ⟨y0, y1, y2, y3, y4, m, _, h0, h1, h2, h3, h4⟩ := trod_struct5 Try.underlying125 h
  simp only [kE1, kE2, kE3, kE4, List.drop_zero, List.drop_succ_cons, List.take_succ_cons, List.take_zero] at h0 h1 h2 h3 h4
  obtain ⟨b, hb, _⟩ := DataW.trod_bool Try.underlying4 h0
  simp only [List.cons.injEq, and_true] at hb
  obtain ⟨s, rfl, hs⟩ := open_str Try.underlying9 h1
  obtain ⟨l, k, rfl, rfl, rfl, hk, o1, o2⟩ := open_expr3 h2
  obtain ⟨c, k', rfl, rfl, rfl, hk', o3, o4⟩ := open_expr3 h3
  obtain ⟨d, rfl, hd⟩ := open_i64 Try.underlying3 h4
  exact ⟨⟨b, s, l, c, d⟩, _, _, hb, rfl, rfl, rfl, rfl, rfl, rfl, rfl, rfl, hk, hk', hs, o1, o2, o3, o4, hd⟩
set_option maxRecDepth 100000 in
/-- An Elem that came in. -/
theorem open_elem {r : Reach} {b0 : Nat} {v : Value} {d : DataW H} {p : List MemPlace} (hv : Value.okWide Try.prog w r b0 125 v) (h : DataW.Trod enc Try.prog w base spare held 125 v d p) :
    ∃ e : El, e.At w.heap.size w v ∧ e.Ok := by
  obtain ⟨cs, rfl, hsz⟩ := okWide_struct Try.underlying125 hv
  obtain ⟨c0, c1, c2, c3, c4, c5, c6, c7, c8, rfl⟩ := array9 (hsz.trans kE5)
  obtain ⟨fuel, hf⟩ := h
  obtain ⟨e, k, k', rfl, rfl, rfl, rfl, rfl, rfl, rfl, rfl, rfl, hk, hk', hok⟩ := open_elem9 (by simpa [Value.cells] using hf)
  exact ⟨e, ⟨_, _, rfl, hk, hk'⟩, hok⟩
end
end Go.Proofs.Ytggpnnoldjpmcaa
