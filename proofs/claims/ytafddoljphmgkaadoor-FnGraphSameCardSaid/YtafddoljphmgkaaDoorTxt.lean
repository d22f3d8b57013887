/- Numbers and graphs as texts: impl.formatProps. -/
import Derived.Test.YtafddoljphmgkaaDoorItoa
import Derived.Test.YtafddoljphmgkaaDoorMark
import Derived.Test.YtafddoljphmgkaaDoorDec
namespace Go.Proofs.YtafddoljphmgkaaDoor
open Go.RowKit

def propT (l : ByteArray) (n : Int) : ByteArray := l ++ b1 32 ++ dec n
theorem propT_size {l : ByteArray} {n : Int} (hl : l.size ≤ 6) (h0 : 0 ≤ n) (h1 : n ≤ 99) : (propT l n).size ≤ 9 := by
  unfold propT
  rw [ByteArray.size_append, ByteArray.size_append]
  have := dec_size h0 h1
  have : (b1 32).size = 1 := rfl
  omega
set_option maxHeartbeats 1000000 in
theorem formatProps_any (l : ByteArray) (n : Int) (w : World) (hl : l.size ≤ 6) (h0 : 0 ≤ n) (h1 : n ≤ 99) (hV : VarsI w) :
    Calls Tryd.prog 18 #[.string l, .int .i64 n] w fun e w' => e = .returned (.string (propT l n)) ∧ Below w.heap.size w w' := by
  have HD := Lib.hid (dec_size h0 h1)
  go_enter Tryd.func18, Tryd.ntmps18
  go_wp2_with fail
  refine (itoaI_any n _ (by omega) (by omega) hV).mono ?_
  rintro e w1 ⟨rfl, hb⟩
  have hd : (dec n).size ≤ 2 := HD.out
  have n1 : (9223372036854775807 < l.size + 1) = False := eq_false (by omega)
  have n2 : (9223372036854775807 < l.size + 1 + (dec n).size) = False := eq_false (by omega)
  have HB := Lib.hid hb
  clear hb
  go_wp2_with fail
  go_ret
  exact ⟨rfl, HB.out⟩
end Go.Proofs.YtafddoljphmgkaaDoor
