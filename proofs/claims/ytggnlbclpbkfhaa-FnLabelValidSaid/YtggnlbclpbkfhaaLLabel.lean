/- The walk of FnLabelValid. -/
import Derived.Test.YtggnlbclpbkfhaaBend
import Derived.Test.YtggnlbclpbkfhaaLabel
namespace Go.Proofs.Ytggnlbclpbkfhaa
open Go.RowKit

theorem lv_prefix {s : ByteArray} (h : lv s = true) {k : Nat} (hk : k ≤ s.size) : lv (s.extract 0 k) = decide (0 < k) := by
  unfold lv lvL at *
  simp only [Bool.and_eq_true, decide_eq_true_eq] at h
  obtain ⟨⟨h1, h2⟩, h3⟩ := h
  have e : (s.extract 0 k).data.toList = s.data.toList.take k := by simp [ByteArray.data_extract]
  rw [e]
  have hl : (s.data.toList.take k).length = k := by
    have : s.data.toList.length = s.size := rfl
    simp; omega
  have ha : (s.data.toList.take k).all isL = true := by
    rw [List.all_eq_true] at *
    exact fun x hx => h3 x (List.mem_of_mem_take hx)
  rw [ha, hl]
  have : s.data.toList.length = s.size := rfl
  by_cases h0 : 0 < k
  · rw [decide_eq_true (p := 1 ≤ k) h0, decide_eq_true (p := k ≤ 6) (by omega), decide_eq_true h0]; rfl
  · rw [decide_eq_false (p := 1 ≤ k) h0, decide_eq_false h0]; rfl
theorem lv_A {s : ByteArray} : lv (s ++ ⟨#[65]⟩) = false := by
  unfold lv lvL
  have e : (s ++ ⟨#[65]⟩).data.toList = s.data.toList ++ [65] := by simp [ByteArray.data_append]
  rw [e, List.all_append]
  have : [(65 : UInt8)].all isL = false := rfl
  rw [this]; simp
theorem lv_six {s : ByteArray} (h : lv s = true) : s.size ≤ 6 := by
  unfold lv lvL at h
  simp only [Bool.and_eq_true, decide_eq_true_eq] at h
  exact h.1.2

set_option maxRecDepth 100000 in
set_option maxHeartbeats 2000000 in
theorem lawLabelValid (zs : List Int) (v : Value) (w : World) (hv : Sl 1 byCells w.heap.size w v zs) (hz : ∀ z ∈ zs, 0 ≤ z ∧ z ≤ 255) :
    Calls Try.prog 4 #[v] w fun e w' => e = .returned (.bool true) ∧ Below w.heap.size w w' := by
  obtain ⟨p, cap, rfl⟩ := hv.form
  have hm := hv.max
  unfold maxLen at hm
  by_cases hb : (1048576 : Int) < zs.length
  · go_enter Try.func4, Try.ntmps4
    go_wp2_with fail
    go_ret
    exact ⟨rfl, Below.refl _ _⟩
  · go_enter Try.func4, Try.ntmps4
    go_wp2_with fail
    refine (drawLabelValid_any zs _ w.heap.size _ hv (Nat.le_refl _) hz).mono ?_
    rintro e w1 ⟨s, rfl, hs, hb1⟩
    have HB := Lib.hid hb1
    have hs' : s.size ≤ maxLen := by unfold maxLen; omega
    clear hb1
    go_wp2_with fail
    refine (labelValid_any s _ hs').mono ?_
    rintro e w2 ⟨rfl, rfl⟩
    cases hl : lv s with
    | false =>
      go_wp2_with fail
      refine (specLabelValid_any s _ hs').mono ?_
      rintro e w2 ⟨rfl, rfl⟩
      go_wp2_with fail
      refine (specLabelValid_any s _ hs').mono ?_
      rintro e w2 ⟨rfl, rfl⟩
      go_wp2_with fail
      go_ret
      exact ⟨rfl, HB.out⟩
    | true =>
      have h6 := lv_six hl
      have HP := Lib.hid (fun k hk => lv_prefix (k := k) hl hk)
      go_wp2_with fail
      refine (specLabelValid_any s _ hs').mono ?_
      rintro e w2 ⟨rfl, rfl⟩
      go_wp2_with fail
      go_loopw [5] (fun i wr => ∃ k : Nat, k ≤ s.size + 1 ∧ i = .int .i64 k ∧ wr = w1) (fun i _ => s.size + 1 - (intOf i).toNat)
      case atStart => exact ⟨0, Nat.zero_le _, rfl, rfl⟩
      case round =>
        obtain ⟨k, hk, rfl, rfl⟩ := hrel
        by_cases hlt : k ≤ s.size
        · have HPk := Lib.hid (HP.out k hlt)
          have hsub : (s.extract 0 k).size ≤ maxLen := by rw [ByteArray.size_extract]; unfold maxLen; omega
          by_cases h0 : 0 < k
          · have HPk' := HPk.out
            rw [decide_eq_true h0] at HPk'
            go_wp2_with fail
            refine (labelValid_any _ _ hsub).mono ?_
            rintro e w2 ⟨rfl, rfl⟩
            go_wp2_with fail
            go_roundw
            case rel => exact ⟨k + 1, by omega, by go_num, trivial⟩
            case measure => simp [intOf]; omega
          · have HPk' := HPk.out
            rw [decide_eq_false h0] at HPk'
            obtain rfl : k = 0 := by omega
            go_wp2_with fail
            refine (labelValid_any _ _ (by unfold maxLen; simp)).mono ?_
            rintro e w2 ⟨rfl, rfl⟩
            go_wp2_with fail
            go_roundw
            case rel => exact ⟨1, by omega, rfl, trivial⟩
            case measure => simp [intOf]
        · have hA := lv_A (s := s)
          have hsA : (s ++ ⟨#[65]⟩).size ≤ maxLen := by rw [ByteArray.size_append]; have : (⟨#[65]⟩ : ByteArray).size = 1 := rfl; unfold maxLen; omega
          go_wp2_with fail
          refine (labelValid_any _ _ hsA).mono ?_
          rintro e w2 ⟨rfl, rfl⟩
          go_wp2_with fail
          go_ret
          exact ⟨rfl, HB.out⟩
end Go.Proofs.Ytggnlbclpbkfhaa
