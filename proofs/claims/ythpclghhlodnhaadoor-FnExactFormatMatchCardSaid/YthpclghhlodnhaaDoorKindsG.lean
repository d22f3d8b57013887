/- Graphs and walks among the kinds of data. -/
import Derived.Test.YthpclghhlodnhaaDoorLocV
import Derived.Test.YthpclghhlodnhaaDoorWk
namespace Go.Proofs.YthpclghhlodnhaaDoor
open Go.RowKit

theorem Gr.At.form {g : Gr} {B : Nat} {w : World} {v : Value} (h : g.At B w v) : ∃ p c q d, v = .agg #[.slice p g.ns.length c, .slice q g.es.length d] := by
  obtain ⟨a, b, rfl, h1, h2⟩ := h
  obtain ⟨p, c, rfl⟩ := h1.form
  obtain ⟨q, d, rfl⟩ := h2.form
  exact ⟨p, c, q, d, rfl⟩
theorem Gr.At.to {g : Gr} {B B' : Nat} {w w' : World} {v : Value} (h : g.At B w v) (hb : Below B w w') (hB : B ≤ B') : g.At B' w' v := (h.below hb).mono hB
theorem Gr.goes (g : Gr) : Goes g.Has := fun _ _ _ _ _ h hc hd => h.chg hc hd
theorem toGraph_has (g : Gr) (v : Value) (B : Nat) (w : World) (hg : g.At B w v) (hB : B ≤ w.heap.size) (h1 : g.ns.length ≤ 1048576) (h2 : g.es.length ≤ 1048576) :
    Calls Tryd.prog 8 #[v] w fun e w' => ∃ v' F, e = .returned v' ∧ g.Has v' F w' ∧ (∀ y ∈ F, w.heap.size ≤ y) ∧ Below w.heap.size w w' :=
  (toGraph_any g v B w hg hB h1 h2).mono fun _ _ ⟨v', F1, F2, he, ho, hb⟩ => ⟨v', F1 ++ F2, he, ho.has, fun y hy => (ho.lo y hy).1, hb⟩
end Go.Proofs.YthpclghhlodnhaaDoor
