/- Opening matches that came in. -/
import Derived.Test.YtggpnnoldjpmcaaOpenWk
import Derived.Test.YtggpnnoldjpmcaaOpenE
import Derived.Test.YtggpnnoldjpmcaaOpenRow
import Derived.Test.YtggpnnoldjpmcaaBn
namespace Go.Proofs.Ytggpnnoldjpmcaa
open Go.ChangeShapes Go.WideShapes Go.Deep Go.RowKit Go.Joins

section
variable {H : Type} {enc : TypeId × Value → H} {w : World} {base : Nat} {spare : Nat → Bool} {held : Bool}
set_option maxRecDepth 100000 in
theorem open_binds {fuel : Nat} {v : Value} {y : DataW H × List MemPlace} (h : DataW.trod enc Try.prog w base spare held fuel 34 [v] = some y) :
    ∃ xs : List Bn, kBn.Rd w.heap.size w v xs ∧ ∀ x ∈ xs, x.Ok := by
  obtain ⟨p, len, cap, rfl, hl, hm, hi⟩ := open_struct_rows Try.underlying34 Try.underlying88 (by kernel_rfl) (by kernel_rfl) (by decide) h
  refine Kd.rd_of kBn hl hm Bn.Ok fun i him => ?_
  obtain ⟨b, off, n, rfl, hlt, hf⟩ := hi i him
  obtain ⟨u0, y0, c0, h0⟩ := hf 0 _ rfl
  obtain ⟨u1, y1, c1, h1⟩ := hf 1 _ rfl
  obtain ⟨u2, y2, c2, h2⟩ := hf 2 _ rfl
  obtain ⟨s, rfl, hs⟩ := open_str Try.underlying9 h0
  obtain ⟨ids, hids, hio⟩ := open_int_list h1
  obtain ⟨g, hg, _⟩ := DataW.trod_bool Try.underlying4 h2
  simp only [List.cons.injEq, and_true] at hg
  subst hg
  refine ⟨⟨s, ids, g⟩, ⟨b, off, _, rfl, hlt, fun j u hu => ?_, kBn_rd.2 ⟨u1, rfl, hids⟩⟩, hs, hio⟩
  match j, hu with
  | 0, hu => simp at hu; subst hu; exact c0
  | 1, hu => simp at hu; subst hu; exact c1
  | 2, hu => simp at hu; subst hu; exact c2
  | j + 3, hu => simp at hu
theorem kM1 : Try.prog.cellsOf 45 = 2 := by kernel_rfl
theorem kM2 : Try.prog.cellsOf 34 = 1 := by kernel_rfl
theorem kM3 : Try.prog.cellsOf 47 = 3 := by kernel_rfl
theorem kM4 : Try.prog.cellsOf 43 = 1 := by kernel_rfl
set_option maxRecDepth 100000 in
/-- A Match's three cells. -/
theorem open_match3 {n : Nat} {c0 c1 c2 : Value} {y : DataW H × List MemPlace} (h : DataW.trod enc Try.prog w base spare held n 47 [c0, c1, c2] = some y) :
    ∃ m : Mt, (Sl 1 intCells w.heap.size w c0 m.w.ns ∧ Sl 1 intCells w.heap.size w c1 m.w.es ∧ kBn.Rd w.heap.size w c2 m.bs) ∧ m.Ok := by
  obtain ⟨y0, y1, k, _, _, h0, h1⟩ := trod_struct2 Try.underlying47 h
  simp only [kM1, kM2, List.drop_zero, List.drop_succ_cons, List.take_succ_cons, List.take_zero] at h0 h1
  obtain ⟨z0, z1, k', _, _, g0, g1⟩ := trod_struct2 Try.underlying45 h0
  simp only [kM4, List.drop_zero, List.drop_succ_cons, List.take_succ_cons, List.take_zero] at g0 g1
  obtain ⟨ns, hn, hno⟩ := open_int_list g0
  obtain ⟨es, he, heo⟩ := open_int_list g1
  obtain ⟨bs, hb, hbo⟩ := open_binds h1
  exact ⟨⟨⟨ns, es⟩, bs⟩, ⟨hn, he, hb⟩, ⟨hno, heo⟩, hbo⟩
set_option maxRecDepth 100000 in
/-- A Match that came in. -/
theorem open_match {r : Reach} {b0 : Nat} {v : Value} {d : DataW H} {p : List MemPlace} (hv : Value.okWide Try.prog w r b0 47 v) (h : DataW.Trod enc Try.prog w base spare held 47 v d p) :
    ∃ m : Mt, m.At w.heap.size w v ∧ m.Ok := by
  obtain ⟨cs, rfl, hsz⟩ := okWide_struct Try.underlying47 hv
  obtain ⟨c0, c1, c2, rfl⟩ := array3 (hsz.trans kM3)
  obtain ⟨fuel, hf⟩ := h
  obtain ⟨m, ⟨h0, h1, h2⟩, hok⟩ := open_match3 (by simpa [Value.cells] using hf)
  exact ⟨m, ⟨_, _, _, rfl, h0, h1, h2⟩, hok⟩
end
end Go.Proofs.Ytggpnnoldjpmcaa
