/- heldX finds what markX wrote. -/
import Derived.Test.YtafddoljphmgkaaDoorMark
import Derived.Deep.RegionHeld3
import Derived.Deep.DeepCutAuto
import Derived.StillTailTactics
namespace Go.Proofs.YtafddoljphmgkaaDoor
open Go.RowKit

theorem Sl.it {B : Nat} {w : World} {p : Option Addr} {len cap : Nat} {xs : List Int} (h : Sl 1 intCells B w (.slice p len cap) xs) {k : Nat} (hk : k < xs.length) :
    ∃ b off, p = some ⟨b, off, none⟩ ∧ b < B ∧ w.cell? ⟨b, off + k, none⟩ = some (.int .i64 xs[k]) := by
  obtain ⟨p', len', cap', h1, h2, h3, h4, h5⟩ := h
  cases h1
  obtain ⟨b, off, e1, e2, e3⟩ := h5 k hk
  have := e3 0 _ rfl
  rw [Nat.mul_one, Nat.add_zero] at this
  exact ⟨b, off, e1, e2, this⟩

end Go.Proofs.YtafddoljphmgkaaDoor
