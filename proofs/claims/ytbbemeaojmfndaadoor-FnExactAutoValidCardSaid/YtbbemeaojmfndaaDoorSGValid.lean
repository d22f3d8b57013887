/- Contracts of the model's functions that ask whether a graph is valid. -/
import Derived.Test.YtbbemeaojmfndaaDoorGValid
namespace Go.Proofs.YtbbemeaojmfndaaDoor
open Go.RowKit

def lbl (s : ByteArray) : Bool := decide (s.size = 0) || lv s
def nm (n : Int) : Bool := decide (0 ≤ n) && decide (n ≤ 99)
theorem pv_eq (s : ByteArray) (n : Int) : pv s n = (lbl s && nm n) := rfl

set_option maxHeartbeats 400000 in
/-- spec.l1Num -/
theorem l1Num_any (n : Int) (w : World) :
    Calls Tryd.prog 101 #[.int .i64 n] w fun e w' => e = .returned (.bool (nm n)) ∧ w = w' := by
  go_enter Tryd.func101, Tryd.ntmps101
  go_wp2_with fail
  all_goals
    go_ret
    refine ⟨ret_bool ?_, rfl⟩
    unfold nm
    rw [Bool.eq_iff_iff]
    simp [*]
    try omega

end Go.Proofs.YtbbemeaojmfndaaDoor
