/- heldX finds what markX wrote. -/
import Derived.Test.YtfdkmngkpihpbaaMark
import Derived.Deep.RegionHeld3
import Derived.Deep.DeepCutAuto
import Derived.StillTailTactics
namespace Go.Proofs.Ytfdkmngkpihpbaa
open Go.RowKit

theorem Sl.it {B : Nat} {w : World} {p : Option Addr} {len cap : Nat} {xs : List Int} (h : Sl 1 intCells B w (.slice p len cap) xs) {k : Nat} (hk : k < xs.length) :
    ∃ b off, p = some ⟨b, off, none⟩ ∧ b < B ∧ w.cell? ⟨b, off + k, none⟩ = some (.int .i64 xs[k]) := by
  obtain ⟨p', len', cap', h1, h2, h3, h4, h5⟩ := h
  cases h1
  obtain ⟨b, off, e1, e2, e3⟩ := h5 k hk
  have := e3 0 _ rfl
  rw [Nat.mul_one, Nat.add_zero] at this
  exact ⟨b, off, e1, e2, this⟩

set_option maxRecDepth 100000 in
set_option maxHeartbeats 2000000 in
theorem heldIntS_any (n : Nat) (v : Value) (m : Int) (B : Nat) (w : World) (hv : Sl 1 intCells B w v ((List.range n).map (mkInt m))) (hB : B ≤ w.heap.size) (hm : 1 ≤ m) (hb : m + (n : Int) ≤ 100000000) :
    Calls Try.prog 107 #[v, .int .i64 m] w fun e w' => e = .returned (.int .i64 (m + (n : Int))) ∧ Below w.heap.size w w' := by
  obtain ⟨p, cap, hve⟩ := hv.form
  rw [show ((List.range n).map (mkInt m)).length = n by simp] at hve
  subst hve
  go_enter Try.func107, Try.ntmps107
  go_wp2_with fail
  go_loopw [1, 5] (fun kk i wr => ∃ k : Nat, k ≤ n ∧ i = .int .i64 k ∧ kk = .int .i64 (m + (k : Int)) ∧ Below w.heap.size w wr) (fun _ i _ => n - (intOf i).toNat)
  case atStart => exact ⟨0, Nat.zero_le _, rfl, by simp, Below.refl _ _⟩
  case round =>
    obtain ⟨k, hk, rfl, rfl, hbw⟩ := hrel
    have hsz := hbw.size
    have HB := Lib.hid hbw
    clear hbw
    by_cases hlt : k < n
    · skip
      obtain ⟨b, off, rfl, hb', c0⟩ := (hv.below (HB.out.mono hB)).it (k := k) (by simpa using hlt)
      rw [show ((List.range n).map (mkInt m))[k]'(by simpa using hlt) = mkInt m k by simp] at c0
      have d0 : wr.cell? ⟨b, off + k, none⟩ = some (.int .i64 ((m + (k : Int)))) := c0
      clear c0
      go_wp2_with fail
      go_roundw
      case rel => exact ⟨k + 1, by omega, by go_num, congrArg (Value.int .i64) (by omega), HB.out⟩
      case measure => simp [intOf]; omega
    · obtain rfl : k = n := by omega
      go_wp2_with fail
      go_ret
      exact ⟨rfl, HB.out⟩
end Go.Proofs.Ytfdkmngkpihpbaa
