/- Numbers and graphs as texts: impl.formatProps. -/
import Derived.Test.YthpclghhlodnhaaDoorItoa
import Derived.Test.YthpclghhlodnhaaDoorMark
import Derived.Test.YthpclghhlodnhaaDoorDec
namespace Go.Proofs.YthpclghhlodnhaaDoor
open Go.RowKit

def propT (l : ByteArray) (n : Int) : ByteArray := l ++ b1 32 ++ dec n
theorem propT_size {l : ByteArray} {n : Int} (hl : l.size ≤ 6) (h0 : 0 ≤ n) (h1 : n ≤ 99) : (propT l n).size ≤ 9 := by
  unfold propT
  rw [ByteArray.size_append, ByteArray.size_append]
  have := dec_size h0 h1
  have : (b1 32).size = 1 := rfl
  omega
end Go.Proofs.YthpclghhlodnhaaDoor
