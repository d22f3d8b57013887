/- l5Draw: some graph and some walk, in memory of the call's own. -/
import Derived.Test.YtafddoljphmgkaaDoorL1D
import Derived.Test.YtafddoljphmgkaaDoorDr2
import Derived.Test.YtafddoljphmgkaaDoorHop3
import Derived.RegionTactic
namespace Go.Proofs.YtafddoljphmgkaaDoor
open Go.RowKit

/-- A drawn graph in memory of the call's own, from block lo on. -/
def GD (g : Gr) (v : Value) (F : List Nat) (lo : Nat) (w : World) : Prop := g.Has v F w ∧ (∀ y ∈ F, lo ≤ y) ∧ g.Ok ∧ g.ns.length ≤ 1000 ∧ g.es.length ≤ 1000
/-- A drawn walk. -/
def WD (x : Wk) (v : Value) (F : List Nat) (lo : Nat) (w : World) : Prop := x.Has v F w ∧ (∀ y ∈ F, lo ≤ y) ∧ x.need ≤ 40
def DrewGW (a N : Nat) (w : World) (e : Ending) (w' : World) : Prop :=
  ∃ (g : Gr) (vg : Value) (Fg : List Nat) (x : Wk) (vx : Value) (Fx : List Nat), e = .returned (.tuple #[vg, vx]) ∧ GD g vg Fg w.heap.size w' ∧ WD x vx Fx w.heap.size w' ∧ x.ns.length = x.es.length + 1 ∧ x.es.length ≤ 5 ∧ Dr w' a (N + 7010) ∧ Chg [a] w w'
theorem GD.chg {g : Gr} {v : Value} {F G : List Nat} {lo : Nat} {w w' : World} (h : GD g v F lo w) (hc : Chg G w w') (hG : ∀ x ∈ G, x < lo) : GD g v F lo w' :=
  ⟨h.1.chg hc (fun x hx hm => by have := hG x hm; have := h.2.1 x hx; omega), h.2⟩
theorem WD.chg {x : Wk} {v : Value} {F G : List Nat} {lo : Nat} {w w' : World} (h : WD x v F lo w) (hc : Chg G w w') (hG : ∀ x ∈ G, x < lo) : WD x v F lo w' :=
  ⟨h.1.chg hc (fun x hx hm => by have := hG x hm; have := h.2.1 x hx; omega), h.2⟩
theorem GD.lo {g : Gr} {v : Value} {F : List Nat} {lo lo' : Nat} {w : World} (h : GD g v F lo w) (hl : lo' ≤ lo) : GD g v F lo' w := ⟨h.1, fun y hy => Nat.le_trans hl (h.2.1 y hy), h.2.2⟩
theorem WD.lo {x : Wk} {v : Value} {F : List Nat} {lo lo' : Nat} {w : World} (h : WD x v F lo w) (hl : lo' ≤ lo) : WD x v F lo' w := ⟨h.1, fun y hy => Nat.le_trans hl (h.2.1 y hy), h.2.2⟩
theorem Gr.Has.form {g : Gr} {v : Value} {F : List Nat} {w : World} (h : g.Has v F w) : ∃ p c q d, v = .agg #[.slice p g.ns.length c, .slice q g.es.length d] := by
  obtain ⟨a, b, rfl, h1, h2⟩ := h.at
  obtain ⟨p, c, rfl⟩ := h1.form
  obtain ⟨q, d, rfl⟩ := h2.form
  exact ⟨p, c, q, d, rfl⟩
theorem Wk.Has.form {x : Wk} {v : Value} {F : List Nat} {w : World} (h : x.Has v F w) : ∃ p c q d, v = .agg #[.slice p x.ns.length c, .slice q x.es.length d] := h.at.form
/-- A hop's two cells. -/
theorem Sl.hq {B : Nat} {w : World} {p : Option Addr} {len cap : Nat} {xs : List (Int × Int)} (h : Sl 2 hqCells B w (.slice p len cap) xs) {k : Nat} (hk : k < xs.length) :
    ∃ b off, p = some ⟨b, off, none⟩ ∧ b < B ∧ w.cell? ⟨b, off + k * 2, none⟩ = some (.int .i64 xs[k].1) ∧ w.cell? ⟨b, off + k * 2 + 1, none⟩ = some (.int .i64 xs[k].2) := by
  obtain ⟨p', len', cap', h1, h2, h3, h4, h5⟩ := h
  cases h1
  obtain ⟨b, off, e1, e2, e3⟩ := h5 k hk
  exact ⟨b, off, e1, e2, e3 0 _ rfl, e3 1 _ rfl⟩
/-- A row of one, made by a list of one. -/
theorem ownOne (E : World) (q : Int) : OwnS 1 intCells 3 (E.alloc (.cells #[.int .i64 q] 3)) (.slice (some ⟨E.heap.size, 0, none⟩) 1 1) [q] [E.heap.size] :=
  ⟨_, 1, rfl, Nat.le_refl _, by unfold maxLen; omega, .inr ⟨E.heap.size, _, rfl, rfl, heap_alloc_new E _, rfl, by simp [flt, intCells]⟩⟩

theorem OwnS.mem {α : Type} {sz : Nat} {enc : α → List Value} {e : TypeId} {w : World} {b o len cap : Nat} {xs : List α} {F : List Nat} (h : OwnS sz enc e w (.slice (some ⟨b, o, none⟩) len cap) xs F) (hx : xs ≠ []) : b ∈ F := by
  obtain ⟨p, c, e1, h2, h3, h4⟩ := h
  cases e1
  rcases h4 with ⟨h, _⟩ | ⟨b', cur, e2, rfl, _⟩
  · exact absurd h hx
  · cases e2; simp

end Go.Proofs.YtafddoljphmgkaaDoor
