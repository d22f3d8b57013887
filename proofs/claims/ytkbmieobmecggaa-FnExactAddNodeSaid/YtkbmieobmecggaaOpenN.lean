/- Opening nodes and edges that came in. -/
import Derived.Test.YtkbmieobmecggaaOpenG
namespace Go.Proofs.Ytkbmieobmecggaa
open Go.ChangeShapes Go.WideShapes Go.Deep Go.RowKit Go.Joins

section
variable {H : Type} {enc : TypeId × Value → H} {w : World} {base : Nat} {spare : Nat → Bool} {held : Bool}
set_option maxRecDepth 100000 in
/-- A Node that came in. -/
theorem open_node {r : Reach} {b0 : Nat} {v : Value} {d : DataW H} {p : List MemPlace} (hv : Value.okWide Try.prog w r b0 42 v) (h : DataW.Trod enc Try.prog w base spare held 42 v d p) :
    ∃ x : Nd, v = .agg #[.string x.l, .int .i64 x.n] ∧ x.Ok := by
  obtain ⟨v0, v1, y0, y1, n, rfl, _, _, h0, h1⟩ := open_agg2 Try.underlying42 (by kernel_rfl) (by kernel_rfl) hv h
  obtain ⟨s, rfl, hs⟩ := open_str Try.underlying9 h0
  obtain ⟨m, rfl, hm⟩ := open_i64 Try.underlying3 h1
  exact ⟨⟨s, m⟩, rfl, hs, hm⟩
set_option maxRecDepth 100000 in
/-- An Edge that came in. -/
theorem open_edge {r : Reach} {b0 : Nat} {v : Value} {d : DataW H} {p : List MemPlace} (hv : Value.okWide Try.prog w r b0 49 v) (h : DataW.Trod enc Try.prog w base spare held 49 v d p) :
    ∃ x : Ed, v = .agg #[.int .i64 x.f, .int .i64 x.t, .string x.l, .int .i64 x.n] ∧ x.Ok := by
  obtain ⟨v0, v1, v2, v3, y0, y1, y2, y3, n, rfl, _, _, h0, h1, h2, h3⟩ := open_agg4 Try.underlying49 (by kernel_rfl) (by kernel_rfl) hv h
  obtain ⟨f, rfl, hf⟩ := open_i64 Try.underlying3 h0
  obtain ⟨t, rfl, ht⟩ := open_i64 Try.underlying3 h1
  obtain ⟨s, rfl, hs⟩ := open_str Try.underlying9 h2
  obtain ⟨m, rfl, hm⟩ := open_i64 Try.underlying3 h3
  exact ⟨⟨f, t, s, m⟩, rfl, hf, ht, hs, hm⟩
end
end Go.Proofs.Ytkbmieobmecggaa
