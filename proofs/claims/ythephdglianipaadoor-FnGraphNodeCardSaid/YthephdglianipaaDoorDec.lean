/- Numbers from 0 to 99 as texts; spec.l14Dec. -/
import Derived.Test.YthephdglianipaaDoorNumPure
import Derived.Test.YthephdglianipaaDoorMark
namespace Go.Proofs.YthephdglianipaaDoor
open Go.RowKit

def b1 (c : UInt8) : ByteArray := ⟨#[c]⟩
/-- A number in decimal. -/
def dec (n : Int) : ByteArray := ⟨(Lib.itoa n).toArray⟩
def decT (q : Int) (acc : ByteArray) : ByteArray := if q ≤ 9 then dg (48 + q) ++ acc else dg (48 + q / 10) ++ (dg (48 + q % 10) ++ acc)
theorem dec_size {n : Int} (h0 : 0 ≤ n) (h1 : n ≤ 99) : (dec n).size ≤ 2 := by
  obtain ⟨k, rfl⟩ : ∃ k : Nat, n = k := ⟨n.toNat, by omega⟩
  unfold dec
  by_cases h : k < 10
  · rw [itoa_one k h]; exact Nat.le_succ 1
  · rw [itoa_two k (by omega) (by omega)]; exact Nat.le_refl 2
theorem dg_of (k : Nat) (_h : k < 256) : dg (k : Int) = b1 (UInt8.ofNat k) := by
  unfold dg strOfNums b1
  simp
theorem decT_nil {n : Int} (h0 : 0 ≤ n) (h1 : n ≤ 99) : decT n ⟨#[]⟩ = dec n := by
  obtain ⟨k, rfl⟩ : ∃ k : Nat, n = k := ⟨n.toNat, by omega⟩
  unfold decT dec
  by_cases h : k < 10
  · rw [if_pos (by omega), itoa_one k h, show (48 : Int) + (k : Int) = ((48 + k : Nat) : Int) by omega, dg_of _ (by omega)]; rfl
  · rw [if_neg (by omega), itoa_two k (by omega) (by omega), show (48 : Int) + (k : Int) / 10 = ((48 + k / 10 : Nat) : Int) by omega, show (48 : Int) + (k : Int) % 10 = ((48 + k % 10 : Nat) : Int) by omega, dg_of _ (by omega), dg_of _ (by omega)]; rfl

set_option maxRecDepth 100000 in
set_option maxHeartbeats 2000000 in
theorem l14Dec_any (n : Int) (w : World) (h0 : 0 ≤ n) (h1 : n ≤ 99) :
    Calls Tryd.prog 14 #[.int .i64 n] w fun e w' => e = .returned (.string (dec n)) ∧ Below w.heap.size w w' := by
  have hcv := conv_dg
  have HN := Lib.hid (decT_nil h0 h1)
  go_enter Tryd.func14, Tryd.ntmps14
  go_wp2_with fail
  go_loopw [0, 3] (fun kk s wr => ∃ (q : Int) (acc : ByteArray), kk = .int .i64 q ∧ s = .string acc ∧ 0 ≤ q ∧ q ≤ 99 ∧ acc.size ≤ 1 ∧ RowKit.Hid (9 < q → acc.size = 0) ∧ RowKit.Hid (decT q acc = dec n) ∧ Below w.heap.size w wr) (fun kk _ _ => (intOf kk).toNat)
  case atStart => exact ⟨n, ⟨#[]⟩, rfl, rfl, h0, h1, Nat.zero_le _, Lib.hid (fun _ => rfl), HN, Below.refl _ _⟩
  case round =>
    obtain ⟨q, acc, rfl, rfl, hq0, hq2, hacc, hz, hm, hbw⟩ := hrel
    have hsz := hbw.size
    have HB := Lib.hid hbw
    clear hbw
    by_cases hq : 9 < q
    · have hm' := hm.out
      have HM := Lib.hid (show decT (q / 10) (dg (48 + q % 10) ++ acc) = dec n by rw [← hm']; unfold decT; rw [if_pos (by omega), if_neg (by omega)])
      have HZ := Lib.hid (show (dg (48 + q % 10) ++ acc).size ≤ 1 by rw [ByteArray.size_append, dg_size, hz.out hq]; exact Nat.le_refl _)
      clear hm' hz
      have hds : (dg (48 + q % 10)).size ≤ 1 := Nat.le_of_eq (dg_size _)
      go_wp2_with fail
      go_roundw
      case rel => exact ⟨q / 10, _, rfl, rfl, by omega, by omega, HZ.out, Lib.hid (fun h => by omega), HM, HB.out.alloc hsz _⟩
      case measure => simp [intOf]; omega
    · have hm' := hm.out
      have HM := Lib.hid (show dec n = dg (48 + q) ++ acc by rw [← hm']; unfold decT; rw [if_pos (by omega)])
      clear hm' hz
      have hds : (dg (48 + q)).size ≤ 1 := Nat.le_of_eq (dg_size _)
      go_wp2_with fail
      go_ret
      exact ⟨by rw [HM.out]; rfl, HB.out.alloc hsz _⟩
end Go.Proofs.YthephdglianipaaDoor
