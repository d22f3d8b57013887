/- The table of the forms of elements, out of the laid variables. -/
import Derived.Test.YtkehmecnoeghoaaDoorFmtE
import Derived.Test.YtkehmecnoeghoaaDoorM1p1
import Derived.OpenShut
import Derived.FnData
import Derived.Carry
import Derived.ChangeVars
namespace Go.Proofs.YtkehmecnoeghoaaDoor
open Go.ChangeShapes Go.WideShapes Go.Deep Go.RowKit Go.Joins

theorem gEF : Tryd.prog.globalNamed "loop.example/graphpatterns/impl.elemForms" = some 0 := by kernel_rfl
theorem tEF : (Tryd.prog.globals[0]?).map (·.type) = some 49 := by kernel_rfl
theorem kEF : Tryd.prog.cellsOf 48 = 2 := by kernel_rfl
theorem kEG : Tryd.prog.cellsOf 49 = 8 := by kernel_rfl
theorem kES : Tryd.prog.cellsOf 9 = 1 := by kernel_rfl
theorem list8 {α : Type} {l : List α} (h : l.length = 8) : ∃ c0 c1 c2 c3 c4 c5 c6 c7, l = [c0, c1, c2, c3, c4, c5, c6, c7] := by
  match l, h with
  | [c0, c1, c2, c3, c4, c5, c6, c7], _ => exact ⟨c0, c1, c2, c3, c4, c5, c6, c7, rfl⟩
theorem str_of {s : ByteArray} {l : List UInt8} (h : s.data.toList = l) : s = ⟨l.toArray⟩ := by
  subst h; obtain ⟨⟨l⟩⟩ := s; rfl
section
variable {H : Type} {enc : TypeId × Value → H} {w : World} {base : Nat} {spare : Nat → Bool} {held : Bool}
set_option maxRecDepth 100000 in
theorem open_form {n : Nat} {c0 c1 : Value} {a b : List UInt8} {y : DataW H × List MemPlace} (h : DataW.trod enc Tryd.prog w base spare held n 48 [c0, c1] = some y)
    (hy : y.1 = .agg [.lit (.string a), .lit (.string b)]) : c0 = .string ⟨a.toArray⟩ ∧ c1 = .string ⟨b.toArray⟩ := by
  obtain ⟨y0, y1, m, hx, _, h0, h1⟩ := trod_struct2 Tryd.underlying48 h
  simp only [kES, List.drop_zero, List.drop_succ_cons, List.take_succ_cons, List.take_zero] at h0 h1
  obtain ⟨s, hs, hs2, _⟩ := DataW.trod_string Tryd.underlying9 h0
  obtain ⟨r, hr, hr2, _⟩ := DataW.trod_string Tryd.underlying9 h1
  subst hs2 hr2
  rw [hx] at hy
  simp only [DataW.agg.injEq, List.cons.injEq, DataW.lit.injEq, Lit.string.injEq, and_true] at hy hs hr
  exact ⟨by rw [hs, str_of hy.1], by rw [hr, str_of hy.2]⟩
end
set_option maxRecDepth 100000 in
theorem forms_laid {W : World} {r : List (String × DataW Unit)} (h : laidMet Tryd.prog (("loop.example/graphpatterns/impl.elemForms", Rows.laid_loop_example_graphpatterns_impl_elemForms) :: r) W) : Forms W := by
  obtain ⟨ps, ⟨g', t', cs, fuel, p, q, hg', ht', hvar, hd, _, _⟩, _⟩ := h
  obtain rfl := Option.some.inj (gEF.symm.trans hg')
  obtain rfl := Option.some.inj (tEF.symm.trans ht')
  obtain ⟨xs, m, _, hx, hcs, hxs, hi⟩ := DataW.trod_array Tryd.underlying49 hd
  obtain ⟨l⟩ := cs
  obtain ⟨c0, c1, c2, c3, c4, c5, c6, c7, hl⟩ := list8 (hcs.trans kEG)
  simp only at hl
  subst hl
  obtain ⟨x0, x1, x2, x3, rfl⟩ : ∃ x0 x1 x2 x3, xs = [x0, x1, x2, x3] := by
    match xs, hxs with
    | [x0, x1, x2, x3], _ => exact ⟨x0, x1, x2, x3, rfl⟩
  have h0 := hi 0 (by decide)
  have h1 := hi 1 (by decide)
  have h2 := hi 2 (by decide)
  have h3 := hi 3 (by decide)
  simp only [kEF, Nat.zero_mul, Nat.one_mul, Nat.reduceMul, List.drop_zero, List.drop_succ_cons, List.take_succ_cons, List.take_zero, List.getElem?_cons_zero, List.getElem?_cons_succ] at h0 h1 h2 h3
  simp only [Rows.laid_loop_example_graphpatterns_impl_elemForms, Prod.mk.injEq, List.map_cons, List.map_nil, DataW.agg.injEq, List.cons.injEq, and_true] at hx
  obtain ⟨⟨e0, e1, e2, e3⟩, _⟩ := hx
  obtain ⟨rfl, rfl⟩ := open_form h0 e0.symm
  obtain ⟨rfl, rfl⟩ := open_form h1 e1.symm
  obtain ⟨rfl, rfl⟩ := open_form h2 e2.symm
  obtain ⟨rfl, rfl⟩ := open_form h3 e3.symm
  exact ⟨World.var?_cell gEF hvar 0, World.var?_cell gEF hvar 1, World.var?_cell gEF hvar 2, World.var?_cell gEF hvar 3, World.var?_cell gEF hvar 4, World.var?_cell gEF hvar 5, World.var?_cell gEF hvar 6, World.var?_cell gEF hvar 7⟩
/-- The table reads as it did, in every later world. -/
theorem form_stays {H : Type} {enc : TypeId × Value → H} {W W' : World} {g t fuel : Nat} {cs : Array Value} {d : DataW H} {p : List MemPlace} (hg : Tryd.prog.globalNamed "loop.example/graphpatterns/impl.elemForms" = some g) (ht : (Tryd.prog.globals[g]?).map (·.type) = some t)
    (hv : W.var? Tryd.prog "loop.example/graphpatterns/impl.elemForms" = some cs) (hd : DataW.trod enc Tryd.prog W 0 (fun _ => true) true fuel t cs.toList = some (d, p)) (hb : Below W.heap.size W W') (hlt : ∀ x ∈ MemPlace.row ⟨g, 0, none⟩ cs.size ++ p, x.block < W.heap.size) :
    DataW.TrodVars enc Tryd.prog W' (fun b => decide (b < W.heap.size)) ["loop.example/graphpatterns/impl.elemForms"] [d] (MemPlace.row ⟨g, 0, none⟩ cs.size ++ p) := by
  obtain ⟨T, r, e⟩ := var_block hg hv
  have hgl : g < W.heap.size := (Array.getElem?_eq_some_iff.1 e).1
  obtain rfl := Option.some.inj (gEF.symm.trans hg)
  obtain rfl := Option.some.inj (tEF.symm.trans ht)
  have h4 : DataW.trod enc Tryd.prog W' 0 (fun b => decide (b < W.heap.size)) true fuel 49 cs.toList = some (d, p) :=
    DataW.trod_stays (kids_book Tryd.laidOut (by kernel_rfl)) (book_sized (by kernel_rfl)) (fun h => by cases h) ⟨of_decide_eq_true (by kernel_rfl), book_self _⟩ hd (fun x hx => hb.same (hlt x (List.mem_append_right _ hx))) (fun x hx => by simpa using hlt x (List.mem_append_right _ hx))
  exact trodVars_mk1 hg ht (var_keep gEF ((Chg.of_below hb []).block _ hgl (by simp)) hv) h4
end Go.Proofs.YtkehmecnoeghoaaDoor
