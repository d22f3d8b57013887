/- Opening queries that came in. -/
import Derived.Test.YtggpnnoldjpmcaaOpenPt
import Derived.Test.YtggpnnoldjpmcaaOpenG
import Derived.Test.YtggpnnoldjpmcaaQy
namespace Go.Proofs.Ytggpnnoldjpmcaa
open Go.ChangeShapes Go.WideShapes Go.Deep Go.RowKit Go.Joins

section
variable {H : Type} {enc : TypeId × Value → H} {w : World} {base : Nat} {spare : Nat → Bool} {held : Bool}
set_option maxRecDepth 100000 in
theorem open_tests {fuel : Nat} {v : Value} {y : DataW H × List MemPlace} (h : DataW.trod enc Try.prog w base spare held fuel 23 [v] = some y) :
    ∃ xs : List Ts, Sl 3 Ts.cells w.heap.size w v xs ∧ ∀ x ∈ xs, x.Ok := by
  obtain ⟨p, len, cap, rfl, hl, hm, hi⟩ := open_struct_rows Try.underlying23 Try.underlying129 (by kernel_rfl) (by kernel_rfl) (by decide) h
  refine sl_of hl hm Ts.Ok fun i him => ?_
  obtain ⟨b, off, n, rfl, hlt, hf⟩ := hi i him
  obtain ⟨u0, y0, c0, h0⟩ := hf 0 _ rfl
  obtain ⟨u1, y1, c1, h1⟩ := hf 1 _ rfl
  obtain ⟨u2, y2, c2, h2⟩ := hf 2 _ rfl
  obtain ⟨s, rfl, hs⟩ := open_str Try.underlying9 h0
  obtain ⟨m, rfl, hm'⟩ := open_i64 Try.underlying3 h1
  obtain ⟨s', rfl, hs'⟩ := open_str Try.underlying9 h2
  refine ⟨⟨s, m, s'⟩, ⟨b, off, rfl, hlt, fun j v hv => ?_⟩, hs, hm', hs'⟩
  match j, hv with
  | 0, hv => simp [Ts.cells] at hv; subst hv; exact c0
  | 1, hv => simp [Ts.cells] at hv; subst hv; exact c1
  | 2, hv => simp [Ts.cells] at hv; subst hv; exact c2
  | j + 3, hv => simp [Ts.cells] at hv

set_option maxRecDepth 100000 in
/-- A Query that came in. -/
theorem open_query {r : Reach} {b0 : Nat} {v : Value} {d : DataW H} {p : List MemPlace} (hv : Value.okWide Try.prog w r b0 25 v) (h : DataW.Trod enc Try.prog w base spare held 25 v d p) :
    ∃ g : Qy, g.At w.heap.size w v ∧ g.Ok := by
  obtain ⟨v0, v1, y0, y1, n, rfl, _, _, h0, h1⟩ := open_agg2 Try.underlying25 (by kernel_rfl) (by kernel_rfl) hv h
  obtain ⟨ps, hn, hno⟩ := open_pats _ h0
  obtain ⟨ts, he, heo⟩ := open_tests h1
  exact ⟨⟨ps, ts⟩, ⟨v0, v1, rfl, hn, he⟩, hno, heo⟩
end
end Go.Proofs.Ytggpnnoldjpmcaa
