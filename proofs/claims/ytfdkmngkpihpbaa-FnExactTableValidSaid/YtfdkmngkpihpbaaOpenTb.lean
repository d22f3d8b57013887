/- Opening tables that came in, and rows of texts. -/
import Derived.Test.YtfdkmngkpihpbaaOpenWk
import Derived.Test.YtfdkmngkpihpbaaOpenE
import Derived.Test.YtfdkmngkpihpbaaOpenRow
import Derived.Test.YtfdkmngkpihpbaaTb
namespace Go.Proofs.Ytfdkmngkpihpbaa
open Go.ChangeShapes Go.WideShapes Go.Deep Go.RowKit Go.Joins

section
variable {H : Type} {enc : TypeId × Value → H} {w : World} {base : Nat} {spare : Nat → Bool} {held : Bool}
theorem kTs : Try.prog.cellsOf 9 = 1 := by kernel_rfl
theorem kTi : Try.prog.cellsOf 23 = 1 := by kernel_rfl
set_option maxRecDepth 100000 in
theorem open_strs {fuel : Nat} {v : Value} {y : DataW H × List MemPlace} (h : DataW.trod enc Try.prog w base spare held fuel 30 [v] = some y) :
    ∃ xs : List ByteArray, kStr.Rd w.heap.size w v xs ∧ ∀ x ∈ xs, x.size ≤ maxLen := by
  obtain ⟨p, len, cap, rfl, hl, hm, hi⟩ := open_cells Try.underlying30 kTs (by decide) h
  refine Kd.rd_of kStr hl hm (fun s => s.size ≤ maxLen) fun i him => ?_
  obtain ⟨b, off, n, cs, z, e, hlt, hlen, hc, ht⟩ := hi i him
  match cs, hlen with
  | [c0], _ =>
    obtain ⟨s, rfl, hs⟩ := open_str Try.underlying9 ht
    exact ⟨s, ⟨b, off, _, e, hlt, hc, rfl⟩, hs⟩
set_option maxRecDepth 100000 in
theorem open_rows {fuel : Nat} {v : Value} {y : DataW H × List MemPlace} (h : DataW.trod enc Try.prog w base spare held fuel 31 [v] = some y) :
    ∃ xs : List (List Int), kRow.Rd w.heap.size w v xs ∧ ∀ x ∈ xs, ∀ n ∈ x, I64 n := by
  obtain ⟨p, len, cap, rfl, hl, hm, hi⟩ := open_cells Try.underlying31 kTi (by decide) h
  refine Kd.rd_of kRow hl hm (fun x => ∀ n ∈ x, I64 n) fun i him => ?_
  obtain ⟨b, off, n, cs, z, e, hlt, hlen, hc, ht⟩ := hi i him
  match cs, hlen with
  | [c0], _ =>
    obtain ⟨x, hx, hxo⟩ := open_int_list ht
    exact ⟨x, ⟨b, off, _, e, hlt, hc, ⟨c0, rfl, kInt_rd.2 hx⟩⟩, hxo⟩
set_option maxRecDepth 100000 in
/-- A Table that came in. -/
theorem open_table {r : Reach} {b0 : Nat} {v : Value} {d : DataW H} {p : List MemPlace} (hv : Value.okWide Try.prog w r b0 44 v) (h : DataW.Trod enc Try.prog w base spare held 44 v d p) :
    ∃ x : Tb, x.At w.heap.size w v ∧ x.Ok := by
  obtain ⟨v0, v1, y0, y1, n, rfl, _, _, h0, h1⟩ := open_agg2 Try.underlying44 (by kernel_rfl) (by kernel_rfl) hv h
  obtain ⟨cs, hn, hno⟩ := open_strs h0
  obtain ⟨rs, he, heo⟩ := open_rows h1
  exact ⟨⟨cs, rs⟩, ⟨v0, v1, rfl, hn, he⟩, hno, heo⟩
set_option maxRecDepth 100000 in
/-- A row of texts that came in. -/
theorem open_strRow {r : Reach} {b0 : Nat} {v : Value} {d : DataW H} {p : List MemPlace} (hv : Value.okWide Try.prog w r b0 30 v) (h : DataW.Trod enc Try.prog w base spare held 30 v d p) :
    ∃ xs : List ByteArray, kStr.Rd w.heap.size w v xs ∧ ∀ x ∈ xs, x.size ≤ maxLen := by
  obtain ⟨p', len', cap', rfl⟩ := okWide_slice Try.underlying30 hv
  obtain ⟨fuel, hf⟩ := h
  exact open_strs (by simpa [Value.cells] using hf)
end
end Go.Proofs.Ytfdkmngkpihpbaa
