/- The draws of expressions. -/
import Derived.Test.YtbbemeaojmfndaaDoorL2M
import Derived.Test.YtbbemeaojmfndaaDoorM0q0p1
namespace Go.Proofs.YtbbemeaojmfndaaDoor
open Go.RowKit

theorem SomeX.weaken {n c n' c' a N : Nat} {w : World} {e : Ending} {w' : World} (h : SomeX n c a N w e w') (hn : n ≤ n') (hc : c ≤ c') : SomeX n' c' a N w e w' := by
  obtain ⟨x, p, cp, F, h1, ⟨h2, h3, h4⟩, h5, h6⟩ := h
  exact ⟨x, p, cp, F, h1, ⟨h2, h3, h4.mono hn⟩, h5.mono (by omega), h6⟩
theorem l2Some_any (kind z : Int) (a N : Nat) (w : World) (hz : 0 ≤ z ∧ z ≤ 3) (h : Dr w a N) (hN : N ≤ 900000) :
    Calls Tryd.prog 54 #[.pointer (some ⟨a, 0, none⟩), .int .i64 kind, .int .i64 z] w (SomeX 14 30 a N w) := by
  rcases (by omega : z = 0 ∨ z = 1 ∨ z = 2 ∨ z = 3) with rfl | rfl | rfl | rfl
  · exact (l2Some0 kind a N w h (by omega)).mono fun _ _ h => h.weaken (by omega) (by omega)
  · exact (l2Some1 kind a N w h (by omega)).mono fun _ _ h => h.weaken (by omega) (by omega)
  · exact (l2Some2 kind a N w h (by omega)).mono fun _ _ h => h.weaken (by omega) (by omega)
  · exact (l2Some3 kind a N w h (by omega)).mono fun _ _ h => h
/-- An expression of a draw: new memory of the call's own. -/
def XNew (x : Ex) (p : Option Addr) (cp : Nat) (F : List Nat) (lo : Nat) (w : World) : Prop := x.ks.Own w (.slice p x.ks.list.length cp) F ∧ (∀ z ∈ F, lo ≤ z) ∧ x.Dn 16
theorem XNew.chg {x : Ex} {p : Option Addr} {cp : Nat} {F G : List Nat} {lo : Nat} {w w' : World} (h : XNew x p cp F lo w) (hc : Chg G w w') (hG : ∀ z ∈ F, z ∉ G) : XNew x p cp F lo w' := ⟨h.1.chg hc hG, h.2⟩
theorem XNew.lo {x : Ex} {p : Option Addr} {cp : Nat} {F : List Nat} {lo lo' : Nat} {w : World} (h : XNew x p cp F lo w) (hl : lo' ≤ lo) : XNew x p cp F lo' w := ⟨h.1, fun z hz => Nat.le_trans hl (h.2.1 z hz), h.2.2⟩
theorem XNew.below {x : Ex} {p : Option Addr} {cp : Nat} {F : List Nat} {lo : Nat} {w w' : World} (h : XNew x p cp F lo w) (hc : Below w.heap.size w w') : XNew x p cp F lo w' := h.chg (Chg.of_below hc []) (by simp)
theorem XNew.at {x : Ex} {p : Option Addr} {cp : Nat} {F : List Nat} {lo : Nat} {w : World} (h : XNew x p cp F lo w) : x.At w.heap.size w (.agg #[.int .i64 x.op, .string x.a, .slice p x.ks.list.length cp]) := ⟨_, rfl, h.1.in⟩
theorem XNew.sm {x : Ex} {p : Option Addr} {cp : Nat} {F : List Nat} {lo : Nat} {w : World} (h : XNew x p cp F lo w) : x.a.size ≤ 1048576 ∧ x.ks.Sm := ⟨by have := h.2.2.1.2.2; omega, h.2.2.2.1.sm⟩
/-- What a draw of an expression and of something beside it answers. -/
def CaseX (P : Value → Prop) (w : World) (e : Ending) (w' : World) : Prop :=
  ∃ (x : Ex) (p : Option Addr) (cp : Nat) (F : List Nat) (u : Value), e = .returned (.tuple #[.agg #[.int .i64 x.op, .string x.a, .slice p x.ks.list.length cp], u]) ∧ P u ∧ XNew x p cp F w.heap.size w' ∧ Below w.heap.size w w'
theorem CaseX.fin {P : Value → Prop} {w E : World} {x : Ex} {p : Option Addr} {cp : Nat} {F : List Nat} {u : Value} (hu : P u) (hx : XNew x p cp F (w.heap.size + 1) E) (hc : Chg [] w E) :
    CaseX P w (.returned (.tuple #[.agg #[.int .i64 x.op, .string x.a, .slice p x.ks.list.length cp], u])) (((E.setCell ⟨w.heap.size, 0, none⟩ (.int .i64 x.op)).setCell ⟨w.heap.size, 1, none⟩ (.string x.a)).setCell ⟨w.heap.size, 2, none⟩ (.slice p x.ks.list.length cp)) := by
  have hs3 : Chg [w.heap.size] E (((E.setCell ⟨w.heap.size, 0, none⟩ (.int .i64 x.op)).setCell ⟨w.heap.size, 1, none⟩ (.string x.a)).setCell ⟨w.heap.size, 2, none⟩ (.slice p x.ks.list.length cp)) := (((Chg.refl _ _).setCell (by simp) _).setCell (by simp) _).setCell (by simp) _
  exact ⟨x, p, cp, F, u, rfl, hu, (hx.chg hs3 (fun z hz hm => by have := hx.2.1 z hz; simp at hm; omega)).lo (by omega), (hc.past hs3 (by simp)).below (Nat.le_refl _) (by simp)⟩
theorem three_set {w : World} {b : Nat} {x0 x1 x2 y0 y1 y2 : Value} (c0 : w.cell? ⟨b, 0, none⟩ = some x0) (c1 : w.cell? ⟨b, 1, none⟩ = some x1) (c2 : w.cell? ⟨b, 2, none⟩ = some x2) :
    let w3 := ((w.setCell ⟨b, 0, none⟩ y0).setCell ⟨b, 1, none⟩ y1).setCell ⟨b, 2, none⟩ y2
    Chg [b] w w3 ∧ w3.cell? ⟨b, 0, none⟩ = some y0 ∧ w3.cell? ⟨b, 1, none⟩ = some y1 ∧ w3.cell? ⟨b, 2, none⟩ = some y2 := by
  refine ⟨(((Chg.refl _ _).setCell (by simp) _).setCell (by simp) _).setCell (by simp) _, ?_, ?_, ?_⟩
  · exact (set_near _ _ _ _ _ (by omega)).trans ((set_near _ _ _ _ _ (by omega)).trans (set_same _ _ _ _ _ c0))
  · exact (set_near _ _ _ _ _ (by omega)).trans (set_same _ _ _ _ _ ((set_near _ _ _ _ _ (by omega)).trans c1))
  · exact set_same _ _ _ _ _ ((set_near _ _ _ _ _ (by omega)).trans ((set_near _ _ _ _ _ (by omega)).trans c2))

/-- A kind of a draw. -/
def KindP (u : Value) : Prop := ∃ k : Int, u = .int .i64 k ∧ 0 ≤ k ∧ k ≤ 3

end Go.Proofs.YtbbemeaojmfndaaDoor
