/- spec.l14Dec and strconv.Itoa at every number. -/
import Derived.Test.YthpclghhlodnhaaDoorItoa
import Derived.Lib.ItoaLen
namespace Go.Proofs.YthpclghhlodnhaaDoor
open Go.RowKit

theorem decA_size {n : Int} (h0 : -9223372036854775808 ≤ n) (h1 : n ≤ 9223372036854775807) : (dec n).size ≤ 21 := by
  have := Lib.itoa_length_le n h0 h1
  unfold dec
  show (Lib.itoa n).toArray.size ≤ 21
  simpa using this
theorem decA_step {q : Int} (h : 9 < q) (acc : ByteArray) : dec (q / 10) ++ (dg (48 + q % 10) ++ acc) = dec q ++ acc := by
  obtain ⟨k, rfl⟩ : ∃ k : Nat, q = k := ⟨q.toNat, by omega⟩
  have hk : ¬ k < 10 := by omega
  unfold dec
  rw [show ((k : Int) / 10) = ((k / 10 : Nat) : Int) by omega, show (48 : Int) + (k : Int) % 10 = ((48 + k % 10 : Nat) : Int) by omega, dg_of _ (by omega), Lib.itoa_nonneg, Lib.itoa_nonneg]
  conv => rhs; rw [Lib.decDigits, dif_neg hk]
  apply ByteArray.ext
  simp [b1]
theorem decA_last {q : Int} (h0 : 0 ≤ q) (h : ¬ 9 < q) (acc : ByteArray) : dg (48 + q) ++ acc = dec q ++ acc := by
  obtain ⟨k, rfl⟩ : ∃ k : Nat, q = k := ⟨q.toNat, by omega⟩
  unfold dec
  rw [show (48 : Int) + (k : Int) = ((48 + k : Nat) : Int) by omega, dg_of _ (by omega), Lib.itoa_nonneg, Lib.decDigits_one (by omega)]
  rfl
theorem decA_neg {n : Int} (h : n < 0) : (⟨#[45]⟩ : ByteArray) ++ dec (-n) = dec n := by
  obtain ⟨k, rfl⟩ : ∃ k : Nat, n = -(k : Int) := ⟨(-n).toNat, by omega⟩
  unfold dec
  rw [Int.neg_neg, Lib.itoa_nonneg, Lib.itoa_neg k (by omega)]
  apply ByteArray.ext
  simp
theorem decA_min : dec (-9223372036854775808) = ⟨#[45, 57, 50, 50, 51, 51, 55, 50, 48, 51, 54, 56, 53, 52, 55, 55, 53, 56, 48, 56]⟩ := by
  unfold dec
  rw [show (-9223372036854775808 : Int) = -((9223372036854775808 : Nat) : Int) by rfl, Lib.itoa_neg _ (by omega)]
  simp [Lib.decDigits]

set_option maxRecDepth 100000 in
set_option maxHeartbeats 2000000 in
theorem l14DecN_any (n : Int) (w : World) (h0 : 0 ≤ n) (h1 : n ≤ 9223372036854775807) :
    Calls Tryd.prog 37 #[.int .i64 n] w fun e w' => e = .returned (.string (dec n)) ∧ Below w.heap.size w w' := by
  have hcv := conv_dg
  have HSZ := Lib.hid (decA_size (n := n) (by omega) h1)
  have n0 : (n < -9223372036854775807) = False := eq_false (by omega)
  have n1 : (n < 0) = False := eq_false (by omega)
  go_enter Tryd.func37, Tryd.ntmps37
  go_wp2_with fail
  go_loopw [0, 3] (fun kk s wr => ∃ (q : Int) (acc : ByteArray), kk = .int .i64 q ∧ s = .string acc ∧ 0 ≤ q ∧ q ≤ 9223372036854775807 ∧ RowKit.Hid (dec q ++ acc = dec n) ∧ Below w.heap.size w wr) (fun kk _ _ => (intOf kk).toNat)
  case atStart => exact ⟨n, ⟨#[]⟩, rfl, rfl, h0, h1, Lib.hid (by apply ByteArray.ext; simp), Below.refl _ _⟩
  case round =>
    obtain ⟨q, acc, rfl, rfl, hq0, hq2, hm, hbw⟩ := hrel
    clear n0 n1
    have hsz := hbw.size
    have HB := Lib.hid hbw
    have hacc : acc.size ≤ 21 := by
      have h8 := congrArg ByteArray.size hm.out
      have h9 := HSZ.out
      rw [ByteArray.size_append] at h8
      omega
    clear hbw
    by_cases hq : 9 < q
    · have HM := Lib.hid ((decA_step hq acc).trans hm.out)
      have hds : (dg (48 + q % 10)).size ≤ 1 := Nat.le_of_eq (dg_size _)
      clear hm
      go_wp2_with fail
      go_roundw
      case rel => exact ⟨q / 10, _, rfl, rfl, by omega, by omega, HM, HB.out.alloc hsz _⟩
      case measure => simp [intOf]; omega
    · have HM := Lib.hid ((decA_last hq0 hq acc).trans hm.out)
      have hds : (dg (48 + q)).size ≤ 1 := Nat.le_of_eq (dg_size _)
      clear hm
      go_wp2_with fail
      go_ret
      exact ⟨by rw [← HM.out]; rfl, HB.out.alloc hsz _⟩

set_option maxRecDepth 100000 in
set_option maxHeartbeats 2000000 in
theorem l14DecA_any (n : Int) (w : World) (h0 : -9223372036854775808 ≤ n) (h1 : n ≤ 9223372036854775807) :
    Calls Tryd.prog 37 #[.int .i64 n] w fun e w' => e = .returned (.string (dec n)) ∧ Below w.heap.size w w' := by
  by_cases hn : n < 0
  · by_cases hm : n < -9223372036854775807
    · obtain rfl : n = -9223372036854775808 := by omega
      have HM := Lib.hid decA_min
      go_enter Tryd.func37, Tryd.ntmps37
      go_wp2_with fail
      go_ret
      exact ⟨by rw [HM.out]; rfl, Below.refl _ _⟩
    · have HM := Lib.hid (decA_neg hn)
      have HSZ := Lib.hid (decA_size (n := -n) (by omega) (by omega))
      have hw : IntKind.i64.wrap (-n) = -n := by rw [IntKind.wrap_i64]; omega
      go_enter Tryd.func37, Tryd.ntmps37
      go_wp2_with fail
      refine (l14DecN_any (-n) w (by omega) (by omega)).mono ?_
      rintro e w1 ⟨rfl, hb⟩
      have HB := Lib.hid hb
      have hz := HSZ.out
      clear hb
      obtain ⟨T, eT⟩ : ∃ T, T = dec (-n) := ⟨_, rfl⟩
      rw [← eT] at hz HM ⊢
      clear eT
      go_wp2_with fail
      go_ret
      exact ⟨by rw [← HM.out]; rfl, HB.out⟩
  · exact l14DecN_any n w (by omega) h1
theorem itoaA_any (v : Int) (w : World) (h0 : -9223372036854775808 ≤ v) (h1 : v ≤ 9223372036854775807) (h : VarsI w) :
    Calls Tryd.prog 42 #[.int .i64 v] w fun e w' => e = .returned (.string (dec v)) ∧ Below w.heap.size w w' := by
  refine (Tryd.strconv_Itoa v h0 h1 w h).mono ?_
  rintro e w' ⟨rfl, k, os, rfl⟩
  exact ⟨rfl, Lib.below_grow _ w (Nat.le_refl _) k os⟩
end Go.Proofs.YthpclghhlodnhaaDoor
