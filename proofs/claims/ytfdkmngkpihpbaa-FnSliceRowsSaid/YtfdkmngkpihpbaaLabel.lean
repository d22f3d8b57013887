/- Contracts of the label functions: each returns what the plain function computes; no condition but that the string's length is an int. -/
import Derived.Test.YtfdkmngkpihpbaaProg
import Derived.WalkKit
import Derived.BigQuiet
import Derived.Deep.QuietTactic
import Derived.KernelRfl
import Derived.Lib.Hide
namespace Go.Proofs.Ytfdkmngkpihpbaa
open Go.RowKit

def isL (c : UInt8) : Bool := decide (97 ≤ c.toNat) && decide (c.toNat ≤ 122)
def cl : List UInt8 → Nat
  | [] => 0
  | c :: r => if isL c then cl r + 1 else 0
def lvL (l : List UInt8) : Bool := decide (1 ≤ l.length) && decide (l.length ≤ 6) && l.all isL
def lv (s : ByteArray) : Bool := lvL s.data.toList
/-- The first k bytes are letters. -/
def AllL (s : ByteArray) (k : Nat) : Prop := (s.data.toList.take k).all isL = true

theorem cl_le : ∀ l : List UInt8, cl l ≤ l.length
  | [] => Nat.le_refl _
  | c :: r => by unfold cl; have := cl_le r; split <;> simp <;> omega
theorem cl_all : ∀ l : List UInt8, (cl l = l.length) ↔ l.all isL = true
  | [] => by simp [cl]
  | c :: r => by
    unfold cl; have h := cl_all r; have h2 := cl_le r
    by_cases hc : isL c = true
    · simp [hc, ← h]
    · simp [hc]
theorem cl_stop : ∀ (l : List UInt8) (k : Nat) (h : k < l.length), (l.take k).all isL = true → isL l[k] = false → cl l = k
  | [], k, h, _, _ => by simp at h
  | c :: r, 0, h, _, h2 => by simp at h2; simp [cl, h2]
  | c :: r, k + 1, h, h1, h2 => by
    simp at h1 h2 h
    unfold cl; rw [if_pos h1.1, cl_stop r k h (by simpa using h1.2) h2]
theorem AllL.zero (s : ByteArray) : AllL s 0 := rfl
theorem AllL.succ {s : ByteArray} {k : Nat} (h : AllL s k) (hk : k < s.size) (hc : isL s[k] = true) : AllL s (k + 1) := by
  unfold AllL at *
  rw [List.take_succ_eq_append_getElem (by simpa using hk), List.all_append, h]
  simp only [List.all_cons, List.all_nil, Bool.and_true, Bool.true_and]; exact hc
theorem AllL.stop {s : ByteArray} {k : Nat} (h : AllL s k) (hk : k < s.size) (hc : isL s[k] = false) : cl s.data.toList = k :=
  cl_stop _ k (by simpa using hk) h hc
theorem AllL.full {s : ByteArray} (h : AllL s s.size) : s.data.toList.all isL = true := by
  unfold AllL at h; rwa [List.take_of_length_le (Nat.le_of_eq (by rfl))] at h
theorem isL_no1 {c : UInt8} (h : (c.toNat : Int) < 97) : isL c = false := by
  unfold isL; rw [decide_eq_false (by omega)]; rfl
theorem isL_no2 {c : UInt8} (h : (122 : Int) < c.toNat) : isL c = false := by
  unfold isL; rw [decide_eq_false (p := c.toNat ≤ 122) (by omega), Bool.and_false]
theorem isL_yes {c : UInt8} (h : (97 : Int) ≤ c.toNat) (h2 : (c.toNat : Int) ≤ 122) : isL c = true := by
  unfold isL; rw [decide_eq_true (by omega), decide_eq_true (by omega)]; rfl
theorem ret_int {k : IntKind} {a b : Int} (h : a = b) : Ending.returned (.int k a) = .returned (.int k b) := by rw [h]
theorem ret_bool {a b : Bool} (h : a = b) : Ending.returned (.bool a) = .returned (.bool b) := by rw [h]

set_option maxHeartbeats 400000 in
/-- impl.countLetters -/
theorem countLetters_any (s : ByteArray) (w : World) (hs : s.size ≤ maxLen) :
    Calls Try.prog 116 #[.string s] w fun e w' => e = .returned (.int .i64 (cl s.data.toList)) ∧ w = w' := by
  unfold maxLen at hs
  go_enter Try.func116, Try.ntmps116
  go_wp2
  go_loop [6] (fun i => ∃ k : Nat, k ≤ s.size ∧ i = .int .i64 k ∧ AllL s k) (fun i => s.size - (intOf i).toNat)
  case atStart => exact ⟨0, Nat.zero_le _, rfl, AllL.zero s⟩
  case round =>
    obtain ⟨k, hk, rfl, ha⟩ := hrel
    by_cases hlt : k < s.size
    · by_cases h1 : (s[k].toNat : Int) < 97
      · have hf := Lib.hid (ha.stop hlt (isL_no1 h1))
        go_wp2
        go_ret
        exact ⟨ret_int (by rw [hf.out]), rfl⟩
      · by_cases h2 : (122 : Int) < s[k].toNat
        · have hf := Lib.hid (ha.stop hlt (isL_no2 h2))
          go_wp2
          go_ret
          exact ⟨ret_int (by rw [hf.out]), rfl⟩
        · have hf := ha.succ hlt (isL_yes (by omega) (by omega))
          go_wp2
          go_round
          case rel => exact ⟨k + 1, by omega, by go_num, hf⟩
          case measure => simp [intOf]; omega
    · obtain rfl : k = s.size := by omega
      have hf := Lib.hid ((cl_all _).2 ha.full)
      go_wp2
      go_ret
      exact ⟨ret_int (by rw [hf.out]; rfl), rfl⟩

theorem lv_short {s : ByteArray} (h : s.size = 0) : lv s = false := by
  unfold lv lvL; rw [decide_eq_false (p := 1 ≤ _) (by have : s.data.toList.length = s.size := rfl; omega)]; rfl
theorem lv_long {s : ByteArray} (h : 6 < s.size) : lv s = false := by
  unfold lv lvL; rw [decide_eq_false (p := _ ≤ 6) (by have : s.data.toList.length = s.size := rfl; omega)]; simp
theorem lv_mid {s : ByteArray} (h0 : 1 ≤ s.size) (h : s.size ≤ 6) : lv s = s.data.toList.all isL := by
  have e : s.data.toList.length = s.size := rfl
  unfold lv lvL; rw [decide_eq_true (p := 1 ≤ _) (by omega), decide_eq_true (p := _ ≤ 6) (by omega)]; rfl
theorem cl_beq {s : ByteArray} : ((cl s.data.toList : Int) == (s.size : Int)) = s.data.toList.all isL := by
  have e : s.data.toList.length = s.size := rfl
  have h := cl_all s.data.toList
  rw [Bool.eq_iff_iff, ← h]; simp; omega
theorem lv_bad {s : ByteArray} {k : Nat} (h : k < s.size) (hc : isL s[k] = false) : lv s = false := by
  have : s.data.toList.all isL = false := by
    rw [List.all_eq_false]
    refine ⟨s[k], ?_, by rw [hc]; simp⟩
    exact List.getElem_mem (l := s.data.toList) h
  unfold lv lvL; rw [this]; simp
theorem str_empty {s : ByteArray} (h : s.size = 0) : s.toList = [] := by rw [ByteArray.toList_eq]; exact List.eq_nil_of_length_eq_zero h
theorem str_nonempty {s : ByteArray} (h : 0 < s.size) : ¬ s.toList = [] := by
  rw [ByteArray.toList_eq]
  have e : s.data.toList.length = s.size := rfl
  intro hl; rw [hl] at e; simp at e; omega
theorem str_nonempty' {s : ByteArray} (h : 0 < s.size) : (!s.toList.isEmpty) = true := by
  have := str_nonempty h
  cases hl : s.toList with
  | nil => exact absurd hl this
  | cons => rfl

set_option maxHeartbeats 400000 in
/-- impl.LabelValid -/
theorem labelValid_any (s : ByteArray) (w : World) (hs : s.size ≤ maxLen) :
    Calls Try.prog 96 #[.string s] w fun e w' => e = .returned (.bool (lv s)) ∧ w = w' := by
  have hs' := hs
  unfold maxLen at hs'
  by_cases h6 : s.size ≤ 6
  · by_cases h0 : s.size = 0
    · have e1 := Lib.hid (lv_short h0)
      have e2 := str_empty h0
      clear h0
      go_enter Try.func96, Try.ntmps96
      go_wp2_with (go_at_call 116; refine (countLetters_any _ _ hs).mono ?_; rintro e w' ⟨rfl, rfl⟩)
      go_ret
      exact ⟨ret_bool (by rw [e1.out]), rfl⟩
    · have e1 := Lib.hid ((lv_mid (by omega) h6).trans cl_beq.symm)
      have e2 := str_nonempty (s := s) (by omega)
      have e3 := str_nonempty' (s := s) (by omega)
      clear h0
      go_enter Try.func96, Try.ntmps96
      go_wp2_with (go_at_call 116; refine (countLetters_any _ _ hs).mono ?_; rintro e w' ⟨rfl, rfl⟩)
      go_ret
      exact ⟨ret_bool (by rw [e1.out]), rfl⟩
  · have e1 := Lib.hid (lv_long (s := s) (by omega))
    go_enter Try.func96, Try.ntmps96
    go_wp2_with (go_at_call 116; refine (countLetters_any _ _ hs).mono ?_; rintro e w' ⟨rfl, rfl⟩)
    go_ret
    exact ⟨ret_bool (by rw [e1.out]), rfl⟩

set_option maxHeartbeats 400000 in
/-- spec.LabelValid -/
theorem specLabelValid_any (s : ByteArray) (w : World) (hs : s.size ≤ maxLen) :
    Calls Try.prog 99 #[.string s] w fun e w' => e = .returned (.bool (lv s)) ∧ w = w' := by
  unfold maxLen at hs
  go_enter Try.func99, Try.ntmps99
  go_wp2
  go_loop [3] (fun i => ∃ k : Nat, k ≤ s.size ∧ k ≤ 7 ∧ i = .int .i64 k ∧ AllL s k) (fun i => s.size - (intOf i).toNat)
  case atStart => exact ⟨0, Nat.zero_le _, by omega, rfl, AllL.zero s⟩
  case round =>
    obtain ⟨k, hk, hk7, rfl, ha⟩ := hrel
    by_cases hlt : k < s.size
    · by_cases h7 : k ≤ 6
      · by_cases h1 : (s[k].toNat : Int) < 97
        · have hf := Lib.hid (lv_bad hlt (isL_no1 h1))
          go_wp2
          go_ret
          exact ⟨ret_bool (by rw [hf.out]; first | done | (simp; omega)), rfl⟩
        · by_cases h2 : (122 : Int) < s[k].toNat
          · have hf := Lib.hid (lv_bad hlt (isL_no2 h2))
            go_wp2
            go_ret
            exact ⟨ret_bool (by rw [hf.out]; first | done | (simp; omega)), rfl⟩
          · have hf := ha.succ hlt (isL_yes (by omega) (by omega))
            go_wp2
            go_round
            case rel => exact ⟨k + 1, by omega, by omega, by go_num, hf⟩
            case measure => simp [intOf]; omega
      · have hf := Lib.hid (lv_long (s := s) (by omega))
        go_wp2
        go_ret
        exact ⟨ret_bool (by rw [hf.out]; first | done | (simp; omega)), rfl⟩
    · obtain rfl : k = s.size := by omega
      by_cases h0 : s.size = 0
      · have hf := Lib.hid (lv_short (s := s) h0)
        have h0' : s.size < 1 := by omega
        clear h0
        go_wp2
        go_ret
        exact ⟨ret_bool (by rw [hf.out]; first | done | (simp; omega)), rfl⟩
      · by_cases h6 : s.size ≤ 6
        · have hf := Lib.hid ((lv_mid (s := s) (by omega) h6).trans ha.full)
          go_wp2
          go_ret
          exact ⟨ret_bool (by rw [hf.out]; first | done | (simp; omega)), rfl⟩
        · have hf := Lib.hid (lv_long (s := s) (by omega))
          go_wp2
          go_ret
          exact ⟨ret_bool (by rw [hf.out]; first | done | (simp; omega)), rfl⟩
end Go.Proofs.Ytfdkmngkpihpbaa
