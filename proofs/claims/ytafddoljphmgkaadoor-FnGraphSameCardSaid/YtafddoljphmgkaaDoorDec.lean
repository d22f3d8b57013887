/- Numbers from 0 to 99 as texts; spec.l14Dec. -/
import Derived.Test.YtafddoljphmgkaaDoorNumPure
import Derived.Test.YtafddoljphmgkaaDoorMark
namespace Go.Proofs.YtafddoljphmgkaaDoor
open Go.RowKit

def b1 (c : UInt8) : ByteArray := ⟨#[c]⟩
/-- A number in decimal. -/
def dec (n : Int) : ByteArray := ⟨(Lib.itoa n).toArray⟩
def decT (q : Int) (acc : ByteArray) : ByteArray := if q ≤ 9 then dg (48 + q) ++ acc else dg (48 + q / 10) ++ (dg (48 + q % 10) ++ acc)
theorem dec_size {n : Int} (h0 : 0 ≤ n) (h1 : n ≤ 99) : (dec n).size ≤ 2 := by
  obtain ⟨k, rfl⟩ : ∃ k : Nat, n = k := ⟨n.toNat, by omega⟩
  unfold dec
  by_cases h : k < 10
  · rw [itoa_one k h]; exact Nat.le_succ 1
  · rw [itoa_two k (by omega) (by omega)]; exact Nat.le_refl 2
theorem dg_of (k : Nat) (_h : k < 256) : dg (k : Int) = b1 (UInt8.ofNat k) := by
  unfold dg strOfNums b1
  simp
theorem decT_nil {n : Int} (h0 : 0 ≤ n) (h1 : n ≤ 99) : decT n ⟨#[]⟩ = dec n := by
  obtain ⟨k, rfl⟩ : ∃ k : Nat, n = k := ⟨n.toNat, by omega⟩
  unfold decT dec
  by_cases h : k < 10
  · rw [if_pos (by omega), itoa_one k h, show (48 : Int) + (k : Int) = ((48 + k : Nat) : Int) by omega, dg_of _ (by omega)]; rfl
  · rw [if_neg (by omega), itoa_two k (by omega) (by omega), show (48 : Int) + (k : Int) / 10 = ((48 + k / 10 : Nat) : Int) by omega, show (48 : Int) + (k : Int) % 10 = ((48 + k % 10 : Nat) : Int) by omega, dg_of _ (by omega), dg_of _ (by omega)]; rfl

end Go.Proofs.YtafddoljphmgkaaDoor
