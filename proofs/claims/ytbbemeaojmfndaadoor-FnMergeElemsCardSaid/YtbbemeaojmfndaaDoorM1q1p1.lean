/- Lemmas on the data and the memory of this program's values: several texts in one. -/
import Derived.Test.YtbbemeaojmfndaaDoorL1D
import Derived.Test.YtbbemeaojmfndaaDoorM0q1p1
import Derived.RegionTactic
namespace Go.Proofs.YtbbemeaojmfndaaDoor
open Go.RowKit

/-- A drawn graph in memory of the call's own, from block lo on. -/
def GD (g : Gr) (v : Value) (F : List Nat) (lo : Nat) (w : World) : Prop := g.Has v F w ∧ (∀ y ∈ F, lo ≤ y) ∧ g.Ok ∧ g.ns.length ≤ 1000 ∧ g.es.length ≤ 1000
/-- A drawn walk. -/
def WD (x : Wk) (v : Value) (F : List Nat) (lo : Nat) (w : World) : Prop := x.Has v F w ∧ (∀ y ∈ F, lo ≤ y) ∧ x.need ≤ 40
def DrewGW (a N : Nat) (w : World) (e : Ending) (w' : World) : Prop :=
  ∃ (g : Gr) (vg : Value) (Fg : List Nat) (x : Wk) (vx : Value) (Fx : List Nat), e = .returned (.tuple #[vg, vx]) ∧ GD g vg Fg w.heap.size w' ∧ WD x vx Fx w.heap.size w' ∧ x.ns.length = x.es.length + 1 ∧ x.es.length ≤ 5 ∧ Dr w' a (N + 7010) ∧ Chg [a] w w'
theorem GD.chg {g : Gr} {v : Value} {F G : List Nat} {lo : Nat} {w w' : World} (h : GD g v F lo w) (hc : Chg G w w') (hG : ∀ x ∈ G, x < lo) : GD g v F lo w' :=
  ⟨h.1.chg hc (fun x hx hm => by have := hG x hm; have := h.2.1 x hx; omega), h.2⟩
theorem WD.chg {x : Wk} {v : Value} {F G : List Nat} {lo : Nat} {w w' : World} (h : WD x v F lo w) (hc : Chg G w w') (hG : ∀ x ∈ G, x < lo) : WD x v F lo w' :=
  ⟨h.1.chg hc (fun x hx hm => by have := hG x hm; have := h.2.1 x hx; omega), h.2⟩
theorem GD.lo {g : Gr} {v : Value} {F : List Nat} {lo lo' : Nat} {w : World} (h : GD g v F lo w) (hl : lo' ≤ lo) : GD g v F lo' w := ⟨h.1, fun y hy => Nat.le_trans hl (h.2.1 y hy), h.2.2⟩
theorem WD.lo {x : Wk} {v : Value} {F : List Nat} {lo lo' : Nat} {w : World} (h : WD x v F lo w) (hl : lo' ≤ lo) : WD x v F lo' w := ⟨h.1, fun y hy => Nat.le_trans hl (h.2.1 y hy), h.2.2⟩
theorem Gr.Has.form {g : Gr} {v : Value} {F : List Nat} {w : World} (h : g.Has v F w) : ∃ p c q d, v = .agg #[.slice p g.ns.length c, .slice q g.es.length d] := by
  obtain ⟨a, b, rfl, h1, h2⟩ := h.at
  obtain ⟨p, c, rfl⟩ := h1.form
  obtain ⟨q, d, rfl⟩ := h2.form
  exact ⟨p, c, q, d, rfl⟩
theorem Wk.Has.form {x : Wk} {v : Value} {F : List Nat} {w : World} (h : x.Has v F w) : ∃ p c q d, v = .agg #[.slice p x.ns.length c, .slice q x.es.length d] := h.at.form
/-- A hop's two cells. -/
theorem Sl.hq {B : Nat} {w : World} {p : Option Addr} {len cap : Nat} {xs : List (Int × Int)} (h : Sl 2 hqCells B w (.slice p len cap) xs) {k : Nat} (hk : k < xs.length) :
    ∃ b off, p = some ⟨b, off, none⟩ ∧ b < B ∧ w.cell? ⟨b, off + k * 2, none⟩ = some (.int .i64 xs[k].1) ∧ w.cell? ⟨b, off + k * 2 + 1, none⟩ = some (.int .i64 xs[k].2) := by
  obtain ⟨p', len', cap', h1, h2, h3, h4, h5⟩ := h
  cases h1
  obtain ⟨b, off, e1, e2, e3⟩ := h5 k hk
  exact ⟨b, off, e1, e2, e3 0 _ rfl, e3 1 _ rfl⟩
/-- A row of one, made by a list of one. -/
theorem ownOne (E : World) (q : Int) : OwnS 1 intCells 3 (E.alloc (.cells #[.int .i64 q] 3)) (.slice (some ⟨E.heap.size, 0, none⟩) 1 1) [q] [E.heap.size] :=
  ⟨_, 1, rfl, Nat.le_refl _, by unfold maxLen; omega, .inr ⟨E.heap.size, _, rfl, rfl, heap_alloc_new E _, rfl, by simp [flt, intCells]⟩⟩

theorem OwnS.mem {α : Type} {sz : Nat} {enc : α → List Value} {e : TypeId} {w : World} {b o len cap : Nat} {xs : List α} {F : List Nat} (h : OwnS sz enc e w (.slice (some ⟨b, o, none⟩) len cap) xs F) (hx : xs ≠ []) : b ∈ F := by
  obtain ⟨p, c, e1, h2, h3, h4⟩ := h
  cases e1
  rcases h4 with ⟨h, _⟩ | ⟨b', cur, e2, rfl, _⟩
  · exact absurd h hx
  · cases e2; simp

end Go.Proofs.YtbbemeaojmfndaaDoor
namespace Go.Proofs.YtbbemeaojmfndaaDoor
open Go.RowKit

def WrongW (a N M : Nat) (w : World) (e : Ending) (w' : World) : Prop :=
  ∃ (y : Wk) (u : Value) (F : List Nat), e = .returned u ∧ (y.Has u F w' ∧ (∀ z ∈ F, w.heap.size ≤ z) ∧ y.need ≤ M + 1) ∧ Dr w' a (N + 3) ∧ Chg [a] w w'
/-- A place of the first row: its cell, and what a store leaves. -/
theorem Two.cellA {ns es : List Int} {b lo : Nat} {p : Option Addr} {n c : Nat} {v2 : Value} {E : World} (h : WTwo ns es b lo (.slice p n c) v2 E) {q : Nat} (hq : q < ns.length) :
    ∃ bx, p = some ⟨bx, 0, none⟩ ∧ (lo ≤ bx ∧ bx ≠ b) ∧ E.cell? ⟨bx, q, none⟩ = some (.int .i64 ns[q]) ∧ E.frozen? ⟨bx, q, none⟩ = false ∧
      ∀ z : Int, ∃ F, (⟨ns.set q z, es⟩ : Wk).Has (.agg #[.slice p n c, v2]) F (E.setCell ⟨bx, q, none⟩ (.int .i64 z)) ∧ ∀ y ∈ F, lo ≤ y := by
  obtain ⟨⟨h1, h2⟩, ⟨h3, h4⟩, ⟨h5, h6⟩, F1, F2, h7, h8, h9, h10, h11⟩ := h
  have o1 := OwnS.own (enc := intCells) (fun _ => rfl) h7
  have o2 := OwnS.own (enc := intCells) (fun _ => rfl) h8
  obtain ⟨p', c', e1, g2, g3, g4⟩ := h7
  cases e1
  rcases g4 with ⟨rfl, _⟩ | ⟨bx, cur, rfl, rfl, hg, hs, ht⟩
  · simp at hq
  refine ⟨bx, rfl, h9 bx (by simp), ?_, by simp [World.frozen?, hg], fun z => ?_⟩
  · obtain ⟨b', off, e, _, hc⟩ := o1.sl.it hq
    cases e
    simpa using hc
  · refine ⟨[bx] ++ F2, ⟨_, _, [bx], F2, rfl, rfl, ?_, o2.chg (G := [bx]) ((Chg.refl _ _).setCell (by simp) _) (fun y hy hm => ?_), h11⟩, fun y hy => ?_⟩
    · have := o1.store1 (k := q) hq (fun _ => rfl) z (.int .i64 z) rfl
      rw [Nat.zero_add] at this
      exact this
    · simp at hm; subst hm; exact h11 _ (by simp) hy
    · rcases List.mem_append.1 hy with h | h
      · exact (h9 y h).1
      · exact (h10 y h).1
theorem OwnSl.cut {α : Type} {enc : α → List Value} {sz : Nat} {w : World} {p : Option Addr} {len cap : Nat} {xs : List α} {F : List Nat} (h : OwnSl sz enc w (.slice p len cap) xs F) {k : Nat} (hk : k ≤ xs.length) : OwnSl sz enc w (.slice p k cap) (xs.take k) F := by
  obtain ⟨p', len', cap', h1, h2, h3, h4, h5⟩ := h
  cases h1
  refine ⟨p, k, cap, rfl, by simp; omega, by omega, h4, ?_⟩
  rcases h5 with ⟨rfl, rfl⟩ | ⟨b, off, rfl, rfl, h6, h7, h8⟩
  · exact .inl ⟨by simp, rfl⟩
  · refine .inr ⟨b, off, rfl, rfl, h6, h7, fun i hi j x hx => ?_⟩
    simp only [List.length_take] at hi
    rw [List.getElem_take] at hx
    exact h8 i (by omega) j x hx

end Go.Proofs.YtbbemeaojmfndaaDoor
namespace Go.Proofs.YtbbemeaojmfndaaDoor
open Go.RowKit

/-- A drawn graph and a drawn walk. -/
def CaseGW (w : World) (e : Ending) (w' : World) : Prop :=
  ∃ (g : Gr) (vg : Value) (Fg : List Nat) (x : Wk) (vx : Value) (Fx : List Nat), e = .returned (.tuple #[vg, vx]) ∧ GD g vg Fg w.heap.size w' ∧ WD x vx Fx w.heap.size w' ∧ Below w.heap.size w w'
def CaseW (w : World) (e : Ending) (w' : World) : Prop :=
  ∃ (x : Wk) (vx : Value) (Fx : List Nat), e = .returned vx ∧ WD x vx Fx w.heap.size w' ∧ Below w.heap.size w w'
theorem Chg.of0 {a b : World} (h : Chg [] a b) : Below a.heap.size a b := h.below (Nat.le_refl _) (by simp)

end Go.Proofs.YtbbemeaojmfndaaDoor
