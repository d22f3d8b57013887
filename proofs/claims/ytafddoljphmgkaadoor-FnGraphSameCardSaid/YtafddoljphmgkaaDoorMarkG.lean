/- markGraph, heldGraph, eqIntS. -/
import Derived.Test.YtafddoljphmgkaaDoorHeld
namespace Go.Proofs.YtafddoljphmgkaaDoor
open Go.RowKit

def Gr.marked (g : Gr) (m : Int) : Gr := ⟨(List.range g.ns.length).map (mkNode m), (List.range g.es.length).map (mkEdge (m + 2 * g.ns.length))⟩

end Go.Proofs.YtafddoljphmgkaaDoor
