/- l5Copy: the same walk, in memory of the call's own. -/
import Derived.Test.YtafddoljphmgkaaDoorDr2
namespace Go.Proofs.YtafddoljphmgkaaDoor
open Go.RowKit

/-- The first append: onto an empty row. -/
theorem onto_none {E : World} {s u : Value} {ys : List Int} {B : Nat} (h : OwnI E s [] []) (hu : Sl 1 intCells B E u ys) (hl : ys.length ≤ 3000000) (ty : TypeId) :
    ∃ v' w', (Builtin.append_ #[59, 59] ty #[s, u]).run Tryd.prog E = .ok v' w' ∧ ∃ F, OwnI w' v' ys F ∧ (∀ y ∈ F, E.heap.size ≤ y) ∧ Below E.heap.size E w' := by
  obtain ⟨v', w', hr, F, h1, h2, h3⟩ := app_ints h hu (by simpa using hl) ty
  exact ⟨v', w', hr, F, by simpa using h1, fun y hy => by rcases h2 y hy with h | h; (simp at h); exact h, h3.below (Nat.le_refl _) (by simp)⟩
/-- A walk's two rows, both in whole blocks of the call's own. -/
def WRows (x : Wk) (v : Value) (lo : Nat) (w : World) : Prop := ∃ a b F1 F2, v = .agg #[a, b] ∧ OwnI w a x.ns F1 ∧ OwnI w b x.es F2 ∧ (∀ y ∈ F1, lo ≤ y) ∧ (∀ y ∈ F2, lo ≤ y) ∧ ∀ y ∈ F1, y ∉ F2

end Go.Proofs.YtafddoljphmgkaaDoor
