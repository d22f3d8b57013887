/- Tables in the laws: equality. -/
import Derived.Test.YtfdkmngkpihpbaaTb
namespace Go.Proofs.Ytfdkmngkpihpbaa
open Go.RowKit

set_option maxRecDepth 100000 in
set_option maxHeartbeats 1000000 in
theorem gpInts_any (xs : List Int) (v v' : Value) (B : Nat) (w : World) (hv : Sl 1 intCells B w v xs) (hv' : Sl 1 intCells B w v' xs) (hB : B ≤ w.heap.size) :
    Calls Try.prog 24 #[v, v'] w fun e w' => e = .returned (.bool true) ∧ Below w.heap.size w w' := by
  obtain ⟨p, cap, rfl⟩ := hv.form
  obtain ⟨p', cap', rfl⟩ := hv'.form
  have hm := hv.max
  have hm' := hv'.max
  unfold maxLen at hm hm'
  go_enter Try.func24, Try.ntmps24
  go_wp2_with fail
  go_loopw [5] (fun i wr => ∃ k : Nat, k ≤ xs.length ∧ i = .int .i64 k ∧ Below w.heap.size w wr) (fun i _ => xs.length - (intOf i).toNat)
  case atStart => exact ⟨0, Nat.zero_le _, rfl, Below.refl _ _⟩
  case round =>
    obtain ⟨k, hk, rfl, hbw⟩ := hrel
    have hsz := hbw.size
    have HB := Lib.hid hbw
    clear hbw
    by_cases hlt2 : k < xs.length
    · obtain ⟨b, off, rfl, hb, c0⟩ := (hv.below (HB.out.mono hB)).it hlt2
      obtain ⟨b', off', rfl, hb', d0⟩ := (hv'.below (HB.out.mono hB)).it hlt2
      obtain ⟨x, ex⟩ : ∃ x, x = xs[k] := ⟨_, rfl⟩
      rw [← ex] at c0 d0
      clear ex
      go_wp2_with fail
      go_still_tail 8, (by kernel_rfl)
      go_wp2_with fail
      go_roundw
      case rel => exact ⟨k + 1, by omega, by go_num, HB.out.drew⟩
      case measure => simp [intOf]; omega
    · obtain rfl : k = xs.length := by omega
      go_wp2_with fail
      go_ret
      exact ⟨rfl, HB.out⟩
set_option maxRecDepth 100000 in
set_option maxHeartbeats 1000000 in
theorem gpTexts_any (xs : List ByteArray) (v v' : Value) (B : Nat) (w : World) (hv : kStr.Rd B w v xs) (hv' : kStr.Rd B w v' xs) (hB : B ≤ w.heap.size) :
    Calls Try.prog 59 #[v, v'] w fun e w' => e = .returned (.bool true) ∧ Below w.heap.size w w' := by
  obtain ⟨p, cap, rfl⟩ := hv.form
  obtain ⟨p', cap', rfl⟩ := hv'.form
  obtain ⟨_, _, hm⟩ := hv.max
  obtain ⟨_, _, hm'⟩ := hv'.max
  have hl := hv.max.2.1
  unfold maxLen at hm hm'
  have HV := Lib.hid hv
  have HV' := Lib.hid hv'
  clear hv hv'
  go_enter Try.func59, Try.ntmps59
  go_wp2_with fail
  go_loopw [5] (fun i wr => ∃ k : Nat, k ≤ xs.length ∧ i = .int .i64 k ∧ Below w.heap.size w wr) (fun i _ => xs.length - (intOf i).toNat)
  case atStart => exact ⟨0, Nat.zero_le _, rfl, Below.refl _ _⟩
  case round =>
    obtain ⟨k, hk, rfl, hbw⟩ := hrel
    have hsz := hbw.size
    have HB := Lib.hid hbw
    clear hbw
    by_cases hlt2 : k < xs.length
    · obtain ⟨b, off, rfl, hb, c0⟩ := kStr_get (HV.out.to (HB.out.mono hB) (Nat.le_refl _)) hlt2
      obtain ⟨b', off', rfl, hb', d0⟩ := kStr_get (HV'.out.to (HB.out.mono hB) (Nat.le_refl _)) hlt2
      obtain ⟨x, ex⟩ : ∃ x, x = xs[k] := ⟨_, rfl⟩
      rw [← ex] at c0 d0
      clear ex
      go_wp2_with fail
      go_still_tail 8, (by kernel_rfl)
      go_wp2_with fail
      go_roundw
      case rel => exact ⟨k + 1, by omega, by go_num, HB.out.drew⟩
      case measure => simp [intOf]; omega
    · obtain rfl : k = xs.length := by omega
      go_wp2_with fail
      go_ret
      exact ⟨rfl, HB.out⟩

set_option maxRecDepth 100000 in
set_option maxHeartbeats 1000000 in
theorem gpLists_any (xs : List (List Int)) (v v' : Value) (B : Nat) (w : World) (hv : kRow.Rd B w v xs) (hv' : kRow.Rd B w v' xs) (hB : B ≤ w.heap.size) :
    Calls Try.prog 28 #[v, v'] w fun e w' => e = .returned (.bool true) ∧ Below w.heap.size w w' := by
  obtain ⟨p, cap, rfl⟩ := hv.form
  obtain ⟨p', cap', rfl⟩ := hv'.form
  obtain ⟨_, _, hm⟩ := hv.max
  obtain ⟨_, _, hm'⟩ := hv'.max
  have hl := hv.max.2.1
  unfold maxLen at hm hm'
  have HV := Lib.hid hv
  have HV' := Lib.hid hv'
  clear hv hv'
  go_enter Try.func28, Try.ntmps28
  go_wp2_with fail
  go_loopw [5] (fun i wr => ∃ k : Nat, k ≤ xs.length ∧ i = .int .i64 k ∧ Below w.heap.size w wr) (fun i _ => xs.length - (intOf i).toNat)
  case atStart => exact ⟨0, Nat.zero_le _, rfl, Below.refl _ _⟩
  case round =>
    obtain ⟨k, hk, rfl, hbw⟩ := hrel
    have hsz := hbw.size
    have HB := Lib.hid hbw
    clear hbw
    by_cases hlt2 : k < xs.length
    · obtain ⟨b, off, q, c, rfl, hb, c0, hin⟩ := kRow_get (HV.out.to (HB.out.mono hB) (Nat.le_refl _)) hlt2
      obtain ⟨b', off', q', c', rfl, hb', d0, hin'⟩ := kRow_get (HV'.out.to (HB.out.mono hB) (Nat.le_refl _)) hlt2
      obtain ⟨x, ex⟩ : ∃ x, x = xs[k] := ⟨_, rfl⟩
      rw [← ex] at c0 d0 hin hin'
      have H1 := Lib.hid (hin.below (Below.refl B wr).drew)
      have H2 := Lib.hid (hin'.below (Below.refl B wr).drew)
      clear ex hin hin'
      go_wp2_with fail
      go_still_tail 8, (by kernel_rfl)
      go_wp2_with fail
      refine (gpInts_any x _ _ B _ H1.out H2.out (by show B ≤ wr.heap.size; omega)).mono ?_
      rintro en w' ⟨rfl, hb1⟩
      have HB1 := Lib.hid (HB.out.drew.trans (hb1.mono hsz))
      clear hb1
      go_wp2_with fail
      go_roundw
      case rel => exact ⟨k + 1, by omega, by go_num, HB1.out⟩
      case measure => simp [intOf]; omega
    · obtain rfl : k = xs.length := by omega
      go_wp2_with fail
      go_ret
      exact ⟨rfl, HB.out⟩

set_option maxHeartbeats 1000000 in
theorem gpTable_any (g : Tb) (v v' : Value) (B : Nat) (w : World) (hg : g.At B w v) (hg' : g.At B w v') (hB : B ≤ w.heap.size) :
    Calls Try.prog 21 #[v, v'] w fun e w' => e = .returned (.bool true) ∧ Below w.heap.size w w' := by
  obtain ⟨a, b, rfl, ha, hb⟩ := hg
  obtain ⟨a', b', rfl, ha', hb'⟩ := hg'
  go_enter Try.func21, Try.ntmps21
  go_wp2_with fail
  have HW := Lib.hid (((Below.refl B w).alloc hB (.cells #[a, b] 33)).alloc (by simp; omega) (.cells #[a', b'] 33))
  refine (gpTexts_any g.cs a a' B _ (ha.to HW.out (Nat.le_refl _)) (ha'.to HW.out (Nat.le_refl _)) (by simp; omega)).mono ?_
  rintro e w1 ⟨rfl, hb1⟩
  have hs1 : w.heap.size + 2 ≤ w1.heap.size := by have := hb1.size; simp at this; omega
  have p1 : w1.cell? ⟨w.heap.size, 1, none⟩ = some b := (hb1.cell (by simp; omega)).trans (by simp [go_sem])
  have q1 : w1.cell? ⟨w.heap.size + 1, 1, none⟩ = some b' := (hb1.cell (by simp)).trans (by simp [go_sem])
  have HB1 := Lib.hid ((((Below.refl w.heap.size w).alloc (by simp) (.cells #[a, b] 33)).alloc (by simp) (.cells #[a', b'] 33)).trans (hb1.mono (by simp; omega)))
  clear hb1
  go_wp2_with fail
  refine (gpLists_any g.rs b b' B _ (hb.to (HB1.out.mono hB) (Nat.le_refl _)) (hb'.to (HB1.out.mono hB) (Nat.le_refl _)) (by omega)).mono ?_
  rintro e w2 ⟨rfl, hb2⟩
  have HB2 := Lib.hid (HB1.out.trans (hb2.mono (by omega)))
  clear hb2
  go_wp2_with fail
  go_ret
  exact ⟨rfl, HB2.out⟩

end Go.Proofs.Ytfdkmngkpihpbaa
