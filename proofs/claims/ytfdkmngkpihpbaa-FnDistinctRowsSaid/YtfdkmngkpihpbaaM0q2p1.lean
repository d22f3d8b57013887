/- Lemmas on the data and the memory of this program's values: several texts in one. -/
import Derived.Test.YtfdkmngkpihpbaaM0q0p2
import Derived.StillTailTactics
namespace Go.Proofs.Ytfdkmngkpihpbaa
open Go.RowKit

set_option maxRecDepth 100000 in
set_option maxHeartbeats 1000000 in
theorem gpInts2_any (xs ys : List Int) (v v' : Value) (B : Nat) (w : World) (hv : Sl 1 intCells B w v xs) (hv' : Sl 1 intCells B w v' ys) (hB : B ≤ w.heap.size) :
    Calls Try.prog 24 #[v, v'] w fun e w' => e = .returned (.bool (eqL intE xs ys)) ∧ Below w.heap.size w w' := by
  obtain ⟨p, cap, rfl⟩ := hv.form
  obtain ⟨p', cap', rfl⟩ := hv'.form
  have hm := hv.max
  have hm' := hv'.max
  unfold maxLen at hm hm'
  by_cases hlen : xs.length = ys.length
  · have q1 : ((xs.length : Int) != (ys.length : Int)) = false := by rw [hlen]; simp
    have HL := Lib.hid hlen
    have hl1 : xs.length ≤ ys.length := by omega
    have hl2 : ys.length ≤ xs.length := by omega
    clear hlen
    go_enter Try.func24, Try.ntmps24
    go_wp2_with fail
    go_loopw [5] (fun i wr => ∃ k : Nat, k ≤ xs.length ∧ i = .int .i64 k ∧ AllE intE xs ys k ∧ Below w.heap.size w wr) (fun i _ => xs.length - (intOf i).toNat)
    case atStart => exact ⟨0, Nat.zero_le _, rfl, AllE.zero _ _ _, Below.refl _ _⟩
    case round =>
      obtain ⟨k, hk, rfl, ha, hbw⟩ := hrel
      have hsz := hbw.size
      have HB := Lib.hid hbw
      clear hbw
      by_cases hlt2 : k < xs.length
      · have hlt3 : k < ys.length := by omega
        obtain ⟨b, off, rfl, hb, c0⟩ := (hv.below (HB.out.mono hB)).it hlt2
        obtain ⟨b', off', rfl, hb', d0⟩ := (hv'.below (HB.out.mono hB)).it hlt3
        have HA := Lib.hid ha
        have hgood := Lib.hid (fun h => ha.succ (f := intE) hlt2 hlt3 h)
        have hbad := Lib.hid (fun h => eqL_bad (f := intE) (xs := xs) (ys := ys) k hlt2 hlt3 h)
        clear ha
        obtain ⟨x, ex⟩ : ∃ x, x = xs[k] := ⟨_, rfl⟩
        obtain ⟨y, ey⟩ : ∃ y, y = ys[k] := ⟨_, rfl⟩
        rw [← ex, ← ey] at hgood hbad
        rw [← ex] at c0
        rw [← ey] at d0
        clear ex ey
        by_cases hE : x = y
        · have HG := Lib.hid (hgood.out (by unfold intE; simpa using hE))
          subst hE
          go_wp2_with fail
          go_still_tail 8, (by kernel_rfl)
          go_wp2_with fail
          go_roundw
          case rel => exact ⟨k + 1, by omega, by go_num, HG.out, HB.out.drew⟩
          case measure => simp [intOf]; omega
        · have hq : (x != y) = true := by simpa using hE
          have HG := Lib.hid (hbad.out (by unfold intE; simpa using hE))
          clear hE
          go_wp2_with fail
          go_still_tail 8, (by kernel_rfl)
          go_wp2_with fail
          go_ret
          exact ⟨ret_bool (by rw [HG.out]), HB.out.drew⟩
      · have HG := Lib.hid (ha.full (by omega) HL.out)
        go_wp2_with fail
        go_ret
        exact ⟨ret_bool (by rw [HG.out]), HB.out⟩
  · have q1 : ((xs.length : Int) != (ys.length : Int)) = true := by simp; omega
    have HL := Lib.hid (eqL_len (f := intE) hlen)
    clear hlen
    go_enter Try.func24, Try.ntmps24
    go_wp2_with fail
    go_ret
    exact ⟨ret_bool (by rw [HL.out]), Below.refl _ _⟩
end Go.Proofs.Ytfdkmngkpihpbaa
