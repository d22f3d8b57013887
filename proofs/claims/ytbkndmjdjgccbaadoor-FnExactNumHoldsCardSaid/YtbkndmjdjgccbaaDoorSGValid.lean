/- Contracts of the model's functions that ask whether a graph is valid. -/
import Derived.Test.YtbkndmjdjgccbaaDoorGValid
namespace Go.Proofs.YtbkndmjdjgccbaaDoor
open Go.RowKit

def lbl (s : ByteArray) : Bool := decide (s.size = 0) || lv s
def nm (n : Int) : Bool := decide (0 ≤ n) && decide (n ≤ 99)
theorem pv_eq (s : ByteArray) (n : Int) : pv s n = (lbl s && nm n) := rfl

set_option maxHeartbeats 400000 in
/-- spec.l1Label -/
theorem l1Label_any (s : ByteArray) (w : World) (hs : s.size ≤ maxLen) :
    Calls Tryd.prog 36 #[.string s] w fun e w' => e = .returned (.bool (lbl s)) ∧ w = w' := by
  by_cases h0 : s.size = 0
  · have e2 := str_empty h0
    have e3 := str_empty' h0
    go_enter Tryd.func36, Tryd.ntmps36
    go_wp2_with fail
    go_ret
    exact ⟨ret_bool (by unfold lbl; rw [decide_eq_true h0]; rfl), rfl⟩
  · have e2 := str_nonempty (s := s) (by omega)
    have e3 := str_nonempty'' (s := s) (by omega)
    have e4 := Lib.hid (decide_eq_false h0)
    clear h0
    go_enter Tryd.func36, Tryd.ntmps36
    go_wp2_with fail
    refine (specLabelValid_any _ _ hs).mono ?_
    rintro e w' ⟨rfl, rfl⟩
    go_wp2_with fail
    go_ret
    exact ⟨ret_bool (by unfold lbl; rw [e4.out]; rfl), rfl⟩

set_option maxHeartbeats 400000 in
/-- spec.l1Num -/
theorem l1Num_any (n : Int) (w : World) :
    Calls Tryd.prog 44 #[.int .i64 n] w fun e w' => e = .returned (.bool (nm n)) ∧ w = w' := by
  go_enter Tryd.func44, Tryd.ntmps44
  go_wp2_with fail
  all_goals
    go_ret
    refine ⟨ret_bool ?_, rfl⟩
    unfold nm
    rw [Bool.eq_iff_iff]
    simp [*]
    try omega

end Go.Proofs.YtbkndmjdjgccbaaDoor
