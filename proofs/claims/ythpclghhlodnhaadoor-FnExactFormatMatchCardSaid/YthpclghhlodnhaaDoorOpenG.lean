/- Opening graphs, nodes and edges that came in. -/
import Derived.Test.YthpclghhlodnhaaDoorOpen
import Derived.Test.YthpclghhlodnhaaDoorProg
import Derived.ProofKit
import Derived.KernelRfl
namespace Go.Proofs.YthpclghhlodnhaaDoor
open Go.ChangeShapes Go.WideShapes Go.Deep Go.RowKit Go.Joins

section
variable {H : Type} {enc : TypeId × Value → H} {w : World} {base : Nat} {spare : Nat → Bool} {held : Bool}

theorem open_i64 {t : TypeId} {fuel : Nat} {u : Value} {y : DataW H × List MemPlace} (ht : Tryd.prog.underlying t = some (.int .i64)) (h : DataW.trod enc Tryd.prog w base spare held fuel t [u] = some y) : ∃ n, u = .int .i64 n ∧ I64 n := by
  obtain ⟨n, hn, _, hw⟩ := DataW.trod_int ht h
  simp at hn
  refine ⟨n, hn, ?_⟩
  have := hw
  simp [Lit.wf, IntKind.min, IntKind.max, IntKind.signed, IntKind.bits] at this
  unfold I64; omega
theorem open_str {t : TypeId} {fuel : Nat} {u : Value} {y : DataW H × List MemPlace} (ht : Tryd.prog.underlying t = some .string) (h : DataW.trod enc Tryd.prog w base spare held fuel t [u] = some y) : ∃ s : ByteArray, u = .string s ∧ s.size ≤ maxLen := by
  obtain ⟨s, hs, _, hw⟩ := DataW.trod_string ht h
  simp at hs
  exact ⟨s, hs, hw⟩

set_option maxRecDepth 100000 in
theorem open_nodes {fuel : Nat} {v : Value} {y : DataW H × List MemPlace} (h : DataW.trod enc Tryd.prog w base spare held fuel 22 [v] = some y) :
    ∃ xs : List Nd, Sl 2 Nd.cells w.heap.size w v xs ∧ ∀ x ∈ xs, x.Ok := by
  obtain ⟨p, len, cap, rfl, hl, hm, hi⟩ := open_struct_rows Tryd.underlying22 Tryd.underlying100 (by kernel_rfl) (by kernel_rfl) (by decide) h
  refine sl_of hl hm Nd.Ok fun i him => ?_
  obtain ⟨b, off, n, rfl, hlt, hf⟩ := hi i him
  obtain ⟨u0, y0, c0, h0⟩ := hf 0 _ rfl
  obtain ⟨u1, y1, c1, h1⟩ := hf 1 _ rfl
  obtain ⟨s, rfl, hs⟩ := open_str Tryd.underlying9 h0
  obtain ⟨m, rfl, hm'⟩ := open_i64 Tryd.underlying3 h1
  refine ⟨⟨s, m⟩, ⟨b, off, rfl, hlt, fun j v hv => ?_⟩, hs, hm'⟩
  match j, hv with
  | 0, hv => simp [Nd.cells] at hv; subst hv; exact c0
  | 1, hv => simp [Nd.cells] at hv; subst hv; exact c1
  | j + 2, hv => simp [Nd.cells] at hv

set_option maxRecDepth 100000 in
theorem open_edges {fuel : Nat} {v : Value} {y : DataW H × List MemPlace} (h : DataW.trod enc Tryd.prog w base spare held fuel 23 [v] = some y) :
    ∃ xs : List Ed, Sl 4 Ed.cells w.heap.size w v xs ∧ ∀ x ∈ xs, x.Ok := by
  obtain ⟨p, len, cap, rfl, hl, hm, hi⟩ := open_struct_rows Tryd.underlying23 Tryd.underlying102 (by kernel_rfl) (by kernel_rfl) (by decide) h
  refine sl_of hl hm Ed.Ok fun i him => ?_
  obtain ⟨b, off, n, rfl, hlt, hf⟩ := hi i him
  obtain ⟨u0, y0, c0, h0⟩ := hf 0 _ rfl
  obtain ⟨u1, y1, c1, h1⟩ := hf 1 _ rfl
  obtain ⟨u2, y2, c2, h2⟩ := hf 2 _ rfl
  obtain ⟨u3, y3, c3, h3⟩ := hf 3 _ rfl
  obtain ⟨f, rfl, hf'⟩ := open_i64 Tryd.underlying3 h0
  obtain ⟨t, rfl, ht'⟩ := open_i64 Tryd.underlying3 h1
  obtain ⟨s, rfl, hs⟩ := open_str Tryd.underlying9 h2
  obtain ⟨m, rfl, hm'⟩ := open_i64 Tryd.underlying3 h3
  refine ⟨⟨f, t, s, m⟩, ⟨b, off, rfl, hlt, fun j v hv => ?_⟩, hf', ht', hs, hm'⟩
  match j, hv with
  | 0, hv => simp [Ed.cells] at hv; subst hv; exact c0
  | 1, hv => simp [Ed.cells] at hv; subst hv; exact c1
  | 2, hv => simp [Ed.cells] at hv; subst hv; exact c2
  | 3, hv => simp [Ed.cells] at hv; subst hv; exact c3
  | j + 4, hv => simp [Ed.cells] at hv

set_option maxRecDepth 100000 in
/-- A Graph that came in. -/
theorem open_graph {r : Reach} {b0 : Nat} {v : Value} {d : DataW H} {p : List MemPlace} (hv : Value.okWide Tryd.prog w r b0 25 v) (h : DataW.Trod enc Tryd.prog w base spare held 25 v d p) :
    ∃ g : Gr, g.At w.heap.size w v ∧ g.Ok := by
  obtain ⟨v0, v1, y0, y1, n, rfl, _, _, h0, h1⟩ := open_agg2 Tryd.underlying25 (by kernel_rfl) (by kernel_rfl) hv h
  obtain ⟨ns, hn, hno⟩ := open_nodes h0
  obtain ⟨es, he, heo⟩ := open_edges h1
  exact ⟨⟨ns, es⟩, ⟨v0, v1, rfl, hn, he⟩, hno, heo⟩
end
end Go.Proofs.YthpclghhlodnhaaDoor
