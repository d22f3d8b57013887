/- Contracts of the model's functions that ask whether a graph is valid. -/
import Derived.Test.YtckkebjpkcfmnaaDoorGValid
namespace Go.Proofs.YtckkebjpkcfmnaaDoor
open Go.RowKit

def lbl (s : ByteArray) : Bool := decide (s.size = 0) || lv s
def nm (n : Int) : Bool := decide (0 ≤ n) && decide (n ≤ 99)
theorem pv_eq (s : ByteArray) (n : Int) : pv s n = (lbl s && nm n) := rfl

set_option maxHeartbeats 400000 in
/-- spec.l1Label -/
theorem l1Label_any (s : ByteArray) (w : World) (hs : s.size ≤ maxLen) :
    Calls Tryd.prog 50 #[.string s] w fun e w' => e = .returned (.bool (lbl s)) ∧ w = w' := by
  by_cases h0 : s.size = 0
  · have e2 := str_empty h0
    have e3 := str_empty' h0
    go_enter Tryd.func50, Tryd.ntmps50
    go_wp2_with fail
    go_ret
    exact ⟨ret_bool (by unfold lbl; rw [decide_eq_true h0]; rfl), rfl⟩
  · have e2 := str_nonempty (s := s) (by omega)
    have e3 := str_nonempty'' (s := s) (by omega)
    have e4 := Lib.hid (decide_eq_false h0)
    clear h0
    go_enter Tryd.func50, Tryd.ntmps50
    go_wp2_with fail
    refine (specLabelValid_any _ _ hs).mono ?_
    rintro e w' ⟨rfl, rfl⟩
    go_wp2_with fail
    go_ret
    exact ⟨ret_bool (by unfold lbl; rw [e4.out]; rfl), rfl⟩

set_option maxHeartbeats 400000 in
/-- spec.l1Num -/
theorem l1Num_any (n : Int) (w : World) :
    Calls Tryd.prog 42 #[.int .i64 n] w fun e w' => e = .returned (.bool (nm n)) ∧ w = w' := by
  go_enter Tryd.func42, Tryd.ntmps42
  go_wp2_with fail
  all_goals
    go_ret
    refine ⟨ret_bool ?_, rfl⟩
    unfold nm
    rw [Bool.eq_iff_iff]
    simp [*]
    try omega

end Go.Proofs.YtckkebjpkcfmnaaDoor
