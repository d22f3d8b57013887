/- Opening walks that came in. -/
import Derived.Test.YtfdkmngkpihpbaaOpen
import Derived.Test.YtfdkmngkpihpbaaOpenG
import Derived.Test.YtfdkmngkpihpbaaWk
import Derived.Test.YtfdkmngkpihpbaaProg
import Derived.ProofKit
import Derived.KernelRfl
namespace Go.Proofs.Ytfdkmngkpihpbaa
open Go.ChangeShapes Go.WideShapes Go.Deep Go.RowKit Go.Joins

section
variable {H : Type} {enc : TypeId × Value → H} {w : World} {base : Nat} {spare : Nat → Bool} {held : Bool}

/-- A slice of ints that is read: a list in memory. -/
theorem open_int_list {fuel : Nat} {v : Value} {y : DataW H × List MemPlace} (h : DataW.trod enc Try.prog w base spare held fuel 23 [v] = some y) :
    ∃ xs : List Int, Sl 1 intCells w.heap.size w v xs ∧ ∀ x ∈ xs, I64 x := by
  rcases open_slice Try.underlying23 h with ⟨h0, _⟩ | ⟨a, len, cap, m, n, D, Pl, hcs, hb, hl, hm, hmm, hx, hi⟩
  · simp at h0
    exact ⟨[], ⟨none, 0, 0, h0, rfl, Nat.le_refl _, Nat.zero_le _, fun i hi => by simp at hi⟩, by simp⟩
  · simp at hcs
    have hlm : len ≤ m := by rw [hmm]; split <;> omega
    have hC : Try.prog.cellsOf 3 = 1 := by kernel_rfl
    have key : ∀ i, i < len → ∃ z : Int, w.cell? (a.add i) = some (.int .i64 z) ∧ I64 z := by
      intro i him
      obtain ⟨cs', hc, ht'⟩ := hi i (by omega)
      rw [hC] at hc
      obtain ⟨_, hcl, hat⟩ := World.cells?_some hc
      have h0 := hat 0 (by decide)
      have hv : cs'[0]? = some (cs'[0]'(by omega)) := List.getElem?_eq_getElem (by omega)
      have hone : cs' = [cs'[0]'(by omega)] := by
        match cs', hcl with
        | [u], _ => rfl
      rw [hone] at ht'
      obtain ⟨z, hz, hz2⟩ := open_i64 Try.underlying3 ht'
      rw [hv, hz] at h0
      refine ⟨z, ?_, hz2⟩
      rw [← h0, Go.Deep.add_add, Nat.mul_one, Nat.add_zero]
    rw [hcs]
    refine sl_of hl hm I64 fun i him => ?_
    obtain ⟨z, hz, hz2⟩ := key i him
    refine ⟨z, ?_, hz2⟩
    obtain ⟨b, off, spot⟩ := a
    obtain ⟨z0, hz0, _⟩ := key 0 (by omega)
    have hs : spot = none := by simpa [Addr.add] using World.cell?_spot hz0
    clear hz0
    subst hs
    rw [add_plain] at hz
    refine ⟨b, off, rfl, World.block_lt_of_cell? w _ hz, fun j v hv => ?_⟩
    match j, hv with
    | 0, hv => simp [intCells] at hv; subst hv; simpa using hz
    | j + 1, hv => simp [intCells] at hv

set_option maxRecDepth 100000 in
/-- A Walk that came in. -/
theorem open_walk {r : Reach} {b0 : Nat} {v : Value} {d : DataW H} {p : List MemPlace} (hv : Value.okWide Try.prog w r b0 63 v) (h : DataW.Trod enc Try.prog w base spare held 63 v d p) :
    ∃ x : Wk, x.At w.heap.size w v ∧ x.Ok := by
  obtain ⟨v0, v1, y0, y1, n, rfl, _, _, h0, h1⟩ := open_agg2 Try.underlying63 (by kernel_rfl) (by kernel_rfl) hv h
  obtain ⟨ns, hn, hno⟩ := open_int_list h0
  obtain ⟨es, he, heo⟩ := open_int_list h1
  exact ⟨⟨ns, es⟩, ⟨v0, v1, rfl, hn, he⟩, hno, heo⟩
end
end Go.Proofs.Ytfdkmngkpihpbaa
