/- FormatGraph: the model's side. -/
import Derived.Test.YtafddoljphmgkaaDoorFG
import Derived.Test.YtafddoljphmgkaaDoorSGValid
namespace Go.Proofs.YtafddoljphmgkaaDoor
open Go.RowKit

theorem baf_assoc (a b c : ByteArray) : a ++ b ++ c = a ++ (b ++ c) := by simp [ByteArray.append_assoc]

end Go.Proofs.YtafddoljphmgkaaDoor
