/- The kinds of data in the laws, all in one form. -/
import Derived.Test.YtpojfgapldgigaaGreatDoorLocV
import Derived.Test.YtpojfgapldgigaaGreatDoorMarkG
import Derived.Test.YtpojfgapldgigaaGreatDoorMarkEl
namespace Go.Proofs.YtpojfgapldgigaaGreatDoor
open Go.RowKit

theorem Gr.At.form {g : Gr} {B : Nat} {w : World} {v : Value} (h : g.At B w v) : ∃ p c q d, v = .agg #[.slice p g.ns.length c, .slice q g.es.length d] := by
  obtain ⟨a, b, rfl, h1, h2⟩ := h
  obtain ⟨p, c, rfl⟩ := h1.form
  obtain ⟨q, d, rfl⟩ := h2.form
  exact ⟨p, c, q, d, rfl⟩
theorem Gr.At.to {g : Gr} {B B' : Nat} {w w' : World} {v : Value} (h : g.At B w v) (hb : Below B w w') (hB : B ≤ B') : g.At B' w' v := (h.below hb).mono hB
theorem El.At.to {e : El} {B B' : Nat} {w w' : World} {v : Value} (h : e.At B w v) (hb : Below B w w') (hB : B ≤ B') : e.At B' w' v := h.below hb hB
theorem Ex.At.to {e : Ex} {B B' : Nat} {w w' : World} {v : Value} (h : e.At B w v) (hb : Below B w w') (hB : B ≤ B') : e.At B' w' v := h.below hb hB
theorem Gr.goes (g : Gr) : Goes g.Has := fun _ _ _ _ _ h hc hd => h.chg hc hd
theorem Gr.Has.lt {g : Gr} {v : Value} {F : List Nat} {w : World} (h : g.Has v F w) : ∀ x ∈ F, x < w.heap.size := by
  obtain ⟨F1, F2, rfl, h⟩ := h
  intro x hx
  rcases List.mem_append.1 hx with hx | hx
  · exact h.lt.1 x hx
  · exact h.lt.2 x hx
theorem toGraph_has (g : Gr) (v : Value) (B : Nat) (w : World) (hg : g.At B w v) (hB : B ≤ w.heap.size) (h1 : g.ns.length ≤ 1048576) (h2 : g.es.length ≤ 1048576) :
    Calls Tryz.prog 7 #[v] w fun e w' => ∃ v' F, e = .returned v' ∧ g.Has v' F w' ∧ (∀ y ∈ F, w.heap.size ≤ y) ∧ Below w.heap.size w w' :=
  (toGraph_any g v B w hg hB h1 h2).mono fun _ _ ⟨v', F1, F2, he, ho, hb⟩ => ⟨v', F1 ++ F2, he, ho.has, fun y hy => (ho.lo y hy).1, hb⟩
theorem markGraph_has (g : Gr) (v : Value) (F : List Nat) (m : Int) (w : World) (hg : g.Has v F w) (hm : 1 ≤ m) (hb : m + 2 * g.ns.length + 4 * g.es.length ≤ 100000000) :
    Calls Tryz.prog 13 #[v, .int .i64 m] w fun e w' => e = .returned (.int .i64 (m + 2 * g.ns.length + 4 * g.es.length)) ∧ (g.marked m).Has v F w' ∧ Chg F w w' := by
  obtain ⟨F1, F2, rfl, h⟩ := hg
  exact (markGraph_any g v 0 F1 F2 m w h hm hb).mono fun _ _ ⟨he, ho, hc⟩ => ⟨he, ⟨F1, F2, rfl, ho⟩, hc⟩
end Go.Proofs.YtpojfgapldgigaaGreatDoor
