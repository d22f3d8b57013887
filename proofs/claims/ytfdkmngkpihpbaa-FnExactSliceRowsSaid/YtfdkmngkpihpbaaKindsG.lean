/- Graphs and walks among the kinds of data. -/
import Derived.Test.YtfdkmngkpihpbaaLocV
import Derived.Test.YtfdkmngkpihpbaaWk
namespace Go.Proofs.Ytfdkmngkpihpbaa
open Go.RowKit

theorem Gr.At.form {g : Gr} {B : Nat} {w : World} {v : Value} (h : g.At B w v) : ∃ p c q d, v = .agg #[.slice p g.ns.length c, .slice q g.es.length d] := by
  obtain ⟨a, b, rfl, h1, h2⟩ := h
  obtain ⟨p, c, rfl⟩ := h1.form
  obtain ⟨q, d, rfl⟩ := h2.form
  exact ⟨p, c, q, d, rfl⟩
theorem Gr.At.to {g : Gr} {B B' : Nat} {w w' : World} {v : Value} (h : g.At B w v) (hb : Below B w w') (hB : B ≤ B') : g.At B' w' v := (h.below hb).mono hB
theorem Gr.goes (g : Gr) : Goes g.Has := fun _ _ _ _ _ h hc hd => h.chg hc hd
end Go.Proofs.Ytfdkmngkpihpbaa
