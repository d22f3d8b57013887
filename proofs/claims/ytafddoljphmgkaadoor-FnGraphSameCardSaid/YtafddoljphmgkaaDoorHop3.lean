/- The model's hops along an element without anything, in any direction: some hops. -/
import Derived.Test.YtafddoljphmgkaaDoorOwnM
namespace Go.Proofs.YtafddoljphmgkaaDoor
open Go.RowKit

def hqCells (x : Int × Int) : List Value := [.int .i64 x.1, .int .i64 x.2]
/-- The element without anything, of edges, in any direction. -/
def elem3 : Array Value := #[.bool false, .string ⟨#[]⟩, .int .i64 0, .string ⟨#[]⟩, .slice none 0 0, .int .i64 0, .string ⟨#[]⟩, .slice none 0 0, .int .i64 3]
end Go.Proofs.YtafddoljphmgkaaDoor
