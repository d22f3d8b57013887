/- l5Wrong: a walk like another one. -/
import Derived.Test.YtafddoljphmgkaaDoorL5C
import Derived.Test.YtafddoljphmgkaaDoorL5D
namespace Go.Proofs.YtafddoljphmgkaaDoor
open Go.RowKit

def WrongW (a N M : Nat) (w : World) (e : Ending) (w' : World) : Prop :=
  ∃ (y : Wk) (u : Value) (F : List Nat), e = .returned u ∧ (y.Has u F w' ∧ (∀ z ∈ F, w.heap.size ≤ z) ∧ y.need ≤ M + 1) ∧ Dr w' a (N + 3) ∧ Chg [a] w w'
/-- A place of the first row: its cell, and what a store leaves. -/
theorem Two.cellA {ns es : List Int} {b lo : Nat} {p : Option Addr} {n c : Nat} {v2 : Value} {E : World} (h : WTwo ns es b lo (.slice p n c) v2 E) {q : Nat} (hq : q < ns.length) :
    ∃ bx, p = some ⟨bx, 0, none⟩ ∧ (lo ≤ bx ∧ bx ≠ b) ∧ E.cell? ⟨bx, q, none⟩ = some (.int .i64 ns[q]) ∧ E.frozen? ⟨bx, q, none⟩ = false ∧
      ∀ z : Int, ∃ F, (⟨ns.set q z, es⟩ : Wk).Has (.agg #[.slice p n c, v2]) F (E.setCell ⟨bx, q, none⟩ (.int .i64 z)) ∧ ∀ y ∈ F, lo ≤ y := by
  obtain ⟨⟨h1, h2⟩, ⟨h3, h4⟩, ⟨h5, h6⟩, F1, F2, h7, h8, h9, h10, h11⟩ := h
  have o1 := OwnS.own (enc := intCells) (fun _ => rfl) h7
  have o2 := OwnS.own (enc := intCells) (fun _ => rfl) h8
  obtain ⟨p', c', e1, g2, g3, g4⟩ := h7
  cases e1
  rcases g4 with ⟨rfl, _⟩ | ⟨bx, cur, rfl, rfl, hg, hs, ht⟩
  · simp at hq
  refine ⟨bx, rfl, h9 bx (by simp), ?_, by simp [World.frozen?, hg], fun z => ?_⟩
  · obtain ⟨b', off, e, _, hc⟩ := o1.sl.it hq
    cases e
    simpa using hc
  · refine ⟨[bx] ++ F2, ⟨_, _, [bx], F2, rfl, rfl, ?_, o2.chg (G := [bx]) ((Chg.refl _ _).setCell (by simp) _) (fun y hy hm => ?_), h11⟩, fun y hy => ?_⟩
    · have := o1.store1 (k := q) hq (fun _ => rfl) z (.int .i64 z) rfl
      rw [Nat.zero_add] at this
      exact this
    · simp at hm; subst hm; exact h11 _ (by simp) hy
    · rcases List.mem_append.1 hy with h | h
      · exact (h9 y h).1
      · exact (h10 y h).1
theorem OwnSl.cut {α : Type} {enc : α → List Value} {sz : Nat} {w : World} {p : Option Addr} {len cap : Nat} {xs : List α} {F : List Nat} (h : OwnSl sz enc w (.slice p len cap) xs F) {k : Nat} (hk : k ≤ xs.length) : OwnSl sz enc w (.slice p k cap) (xs.take k) F := by
  obtain ⟨p', len', cap', h1, h2, h3, h4, h5⟩ := h
  cases h1
  refine ⟨p, k, cap, rfl, by simp; omega, by omega, h4, ?_⟩
  rcases h5 with ⟨rfl, rfl⟩ | ⟨b, off, rfl, rfl, h6, h7, h8⟩
  · exact .inl ⟨by simp, rfl⟩
  · refine .inr ⟨b, off, rfl, rfl, h6, h7, fun i hi j x hx => ?_⟩
    simp only [List.length_take] at hi
    rw [List.getElem_take] at hx
    exact h8 i (by omega) j x hx

end Go.Proofs.YtafddoljphmgkaaDoor
