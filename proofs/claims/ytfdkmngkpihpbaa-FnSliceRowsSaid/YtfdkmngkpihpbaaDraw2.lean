/- Drawing out of lists; opening a source. -/
import Derived.Test.YtfdkmngkpihpbaaDraw
import Derived.Test.YtfdkmngkpihpbaaOpen
import Derived.Test.YtfdkmngkpihpbaaProg
import Derived.KernelRfl
namespace Go.Proofs.Ytfdkmngkpihpbaa
open Go.RowKit

set_option maxHeartbeats 1000000 in
/-- (*l14Rd).of: one of the list's texts. -/
theorem of_any (ss : List ByteArray) (a n b cap : Nat) (w : World) (h : Rd w a n) (hn : n ≤ 1000000) (hpos : 0 < ss.length) (hlen : ss.length ≤ 1000) (hab : b ≠ a) (hc : ∀ i (hi : i < ss.length), w.cell? ⟨b, i, none⟩ = some (.string ss[i])) :
    Calls Try.prog 90 #[.pointer (some ⟨a, 0, none⟩), .slice (some ⟨b, 0, none⟩) ss.length cap] w fun e w' => (∃ i, ∃ hi : i < ss.length, e = .returned (.string ss[i])) ∧ Rd w' a (n + 1) ∧ Chg [a] w w' := by
  go_enter Try.func90, Try.ntmps90
  have HC := Lib.hid hc
  clear hc
  go_wp2_with fail
  refine (pick_any _ a n _ h hn).mono ?_
  rintro e w1 ⟨q, rfl, hq0, hq1, hr, hch⟩
  rw [top_of (by omega)] at hq1
  obtain ⟨i, rfl⟩ := Int.eq_ofNat_of_zero_le hq0
  have hi : i < ss.length := by omega
  have hcell : w1.cell? ⟨b, i, none⟩ = some (.string ss[i]) :=
    (World.cell?_of_block (w := w) (a := ⟨b, i, none⟩) (hch.block b (World.block_lt_of_cell? w _ (HC.out i hi)) (by simpa using hab))).trans (HC.out i hi)
  have HR := Lib.hid hr
  have HCH := Lib.hid hch
  obtain ⟨s, es⟩ : ∃ s, s = ss[i] := ⟨_, rfl⟩
  rw [← es] at hcell
  have ES := Lib.hid es
  clear hr hch es
  go_wp2_with fail
  go_ret
  exact ⟨⟨i, hi, by rw [← ES.out]; rfl⟩, HR.out, HCH.out⟩

set_option maxHeartbeats 1000000 in
/-- l14Open -/
theorem open_any (zs : List Int) (v : Value) (B : Nat) (w : World) (hv : Sl 1 byCells B w v zs) (hB : B ≤ w.heap.size) (hz : ∀ z ∈ zs, 0 ≤ z ∧ z ≤ 255) :
    Calls Try.prog 50 #[v] w fun e w' => e = .returned (.pointer (some ⟨w.heap.size, 0, none⟩)) ∧ Rd w' w.heap.size 0 ∧ w'.heap.size = w.heap.size + 1 ∧ Below w.heap.size w w' := by
  obtain ⟨p, cap, rfl⟩ := hv.form
  have hm := hv.max
  have hm' := hm
  unfold maxLen at hm
  by_cases hl : zs.length ≤ 2000
  · go_enter Try.func50, Try.ntmps50
    go_wp2_with fail
    go_ret
    refine ⟨rfl, ⟨p, cap, zs, heap_alloc_new w _, (hv.below ((Below.refl B w).alloc hB _)).mono hB, hz, hl⟩, by simp, (Below.refl _ _).alloc (Nat.le_refl _) _⟩
  · have hcut : Sl 1 byCells B w (.slice p 2000 cap) (zs.take 2000) := by
      obtain ⟨p', len', cap', h1, h2, h3, h4, h5⟩ := hv
      cases h1
      refine ⟨p, 2000, cap, rfl, by simp; omega, by omega, h4, fun i hi => ?_⟩
      have hi' : i < zs.length := by simp at hi; omega
      obtain ⟨b, off, e1, e2, e3⟩ := h5 i hi'
      exact ⟨b, off, e1, e2, fun j x hx => e3 j x (by rw [List.getElem_take] at hx; exact hx)⟩
    have hl' : 2000 < zs.length := by omega
    have HT := Lib.hid (show (zs.take 2000).length = 2000 by simp; omega)
    go_enter Try.func50, Try.ntmps50
    go_wp2_with fail
    go_ret
    refine ⟨rfl, ⟨p, cap, zs.take 2000, by rw [HT.out]; exact heap_alloc_new w _, ?_, fun z hz' => hz z (List.mem_of_mem_take hz'), by rw [HT.out]; omega⟩, by simp, (Below.refl _ _).alloc (Nat.le_refl _) _⟩
    rw [HT.out]
    exact (hcut.below ((Below.refl B w).alloc hB _)).mono hB

section
open Go.ChangeShapes Go.WideShapes Go.Deep
variable {H : Type} {enc : TypeId × Value → H} {w : World} {base : Nat} {spare : Nat → Bool} {held : Bool}
set_option maxRecDepth 100000 in
/-- A list of bytes that came in. -/
theorem open_bytes {r : Reach} {b0 : Nat} {v : Value} {d : DataW H} {p : List MemPlace} (hv : Value.okWide Try.prog w r b0 22 v) (h : DataW.Trod enc Try.prog w base spare held 22 v d p) :
    ∃ zs : List Int, Sl 1 byCells w.heap.size w v zs ∧ ∀ z ∈ zs, 0 ≤ z ∧ z ≤ 255 := by
  obtain ⟨p', len', cap', rfl⟩ := okWide_slice Try.underlying22 hv
  obtain ⟨fuel, hf⟩ := h
  rcases open_slice1 Try.underlying22 (by kernel_rfl) hf with ⟨h0, _⟩ | ⟨a, len, cap, m, n, V, D, Pl, hcs, hb, hl, hm, hmm, hx, hi⟩
  · simp [Value.cells] at h0
    obtain ⟨rfl, rfl, rfl⟩ := h0
    exact ⟨[], ⟨none, 0, 0, rfl, rfl, Nat.le_refl _, Nat.zero_le _, fun i hi => by simp at hi⟩, by simp⟩
  · simp [Value.cells] at hcs
    obtain ⟨rfl, rfl, rfl⟩ := hcs
    have hlm : len' ≤ m := by rw [hmm]; split <;> omega
    obtain ⟨zs, hz, hok⟩ := sl_of (enc := byCells) (sz := 1) (w := w) (p := some a) (len := len') (cap := cap') hl hm (fun z => 0 ≤ z ∧ z ≤ 255) (fun i him => by
      obtain ⟨h1, h2⟩ := hi i (by omega)
      obtain ⟨z, hz, _, hw⟩ := DataW.trod_int Try.underlying5 h2
      simp at hz
      have h00 := (hi 0 (by omega)).1
      obtain ⟨b, off, spot⟩ := a
      have hs : spot = none := by simpa [Addr.add] using World.cell?_spot h00
      subst hs
      rw [add_plain] at h1
      refine ⟨z, ⟨b, off, rfl, World.block_lt_of_cell? w _ h1, fun j u hu => ?_⟩, ?_⟩
      · match j, hu with
        | 0, hu => simp [byCells] at hu; subst hu; rw [Nat.mul_one, Nat.add_zero, h1, hz]
        | j + 1, hu => simp [byCells] at hu
      · have := hw
        simp [Lit.wf, IntKind.min, IntKind.max, IntKind.signed, IntKind.bits] at this
        omega)
    exact ⟨zs, hz, hok⟩
end
end Go.Proofs.Ytfdkmngkpihpbaa
