/- Walks: their data; what the laws do with them. -/
import Derived.Test.YtafddoljphmgkaaDoorMarkG
import Derived.Test.YtafddoljphmgkaaDoorLocV
namespace Go.Proofs.YtafddoljphmgkaaDoor
open Go.RowKit

structure Wk where
  ns : List Int
  es : List Int
def Wk.Ok (x : Wk) : Prop := (∀ n ∈ x.ns, I64 n) ∧ (∀ n ∈ x.es, I64 n)
/-- The value of a struct Walk whose two slices lie below B. -/
def Wk.At (x : Wk) (B : Nat) (w : World) (v : Value) : Prop := ∃ a b, v = .agg #[a, b] ∧ Sl 1 intCells B w a x.ns ∧ Sl 1 intCells B w b x.es
theorem Wk.At.to {x : Wk} {B B' : Nat} {w w' : World} {v : Value} (h : x.At B w v) (hb : Below B w w') (hB : B ≤ B') : x.At B' w' v := by
  obtain ⟨a, b, h1, h2, h3⟩ := h
  exact ⟨a, b, h1, (h2.below hb).mono hB, (h3.below hb).mono hB⟩
theorem Wk.At.form {x : Wk} {B : Nat} {w : World} {v : Value} (h : x.At B w v) : ∃ p c q d, v = .agg #[.slice p x.ns.length c, .slice q x.es.length d] := by
  obtain ⟨a, b, rfl, h1, h2⟩ := h
  obtain ⟨p, c, rfl⟩ := h1.form
  obtain ⟨q, d, rfl⟩ := h2.form
  exact ⟨p, c, q, d, rfl⟩
/-- A walk in memory of the call's own, in the blocks F. -/
def Wk.Has (x : Wk) (v : Value) (F : List Nat) (u : World) : Prop :=
  ∃ a b F1 F2, v = .agg #[a, b] ∧ F = F1 ++ F2 ∧ OwnSl 1 intCells u a x.ns F1 ∧ OwnSl 1 intCells u b x.es F2 ∧ ∀ y ∈ F1, y ∉ F2
theorem Wk.Has.at {x : Wk} {v : Value} {F : List Nat} {w : World} (h : x.Has v F w) : x.At w.heap.size w v := by
  obtain ⟨a, b, F1, F2, rfl, rfl, h1, h2, _⟩ := h
  exact ⟨a, b, rfl, h1.sl, h2.sl⟩
theorem Wk.Has.chg {x : Wk} {v : Value} {F G : List Nat} {w w' : World} (h : x.Has v F w) (hc : Chg G w w') (hd : ∀ y ∈ F, y ∉ G) : x.Has v F w' := by
  obtain ⟨a, b, F1, F2, rfl, rfl, h1, h2, h3⟩ := h
  exact ⟨a, b, F1, F2, rfl, rfl, h1.chg hc (fun y hy => hd y (List.mem_append_left _ hy)), h2.chg hc (fun y hy => hd y (List.mem_append_right _ hy)), h3⟩
theorem Wk.Has.below {x : Wk} {v : Value} {F : List Nat} {w w' : World} (h : x.Has v F w) (hb : Below w.heap.size w w') : x.Has v F w' := h.chg (Chg.of_below hb []) (by simp)
theorem Wk.Has.lt {x : Wk} {v : Value} {F : List Nat} {w : World} (h : x.Has v F w) : ∀ y ∈ F, y < w.heap.size := by
  obtain ⟨a, b, F1, F2, rfl, rfl, h1, h2, h3⟩ := h
  intro y hy
  rcases List.mem_append.1 hy with hy | hy
  · exact h1.lt y hy
  · exact h2.lt y hy
theorem Wk.goes (x : Wk) : Goes x.Has := fun _ _ _ _ _ h hc hd => h.chg hc hd
def Wk.need (x : Wk) : Nat := x.ns.length + x.es.length

theorem infoIntW : (Tryd.prog.info? 3).map (fun i => (i.zero, i.size, i.bytes)) = some (some (.int .i64 0), 1, 8) := by kernel_rfl

def Wk.marked (x : Wk) (m : Int) : Wk := ⟨(List.range x.ns.length).map (mkInt m), (List.range x.es.length).map (mkInt (m + x.ns.length))⟩

end Go.Proofs.YtafddoljphmgkaaDoor
