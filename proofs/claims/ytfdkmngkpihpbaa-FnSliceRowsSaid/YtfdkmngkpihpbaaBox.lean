/- What goes on to hold while only new memory is made; no program. -/
import Derived.Test.YtfdkmngkpihpbaaGraph
import Derived.Test.YtfdkmngkpihpbaaEx
namespace Go.Proofs.Ytfdkmngkpihpbaa
open Go.RowKit

/-- P holds in w and in every world in which only new memory has been made since. -/
def Box (w : World) (P : World → Prop) : Prop := ∀ w', Below w.heap.size w w' → P w'
theorem Box.now {w : World} {P : World → Prop} (h : Box w P) : P w := h w (Below.refl _ _)
theorem Box.step {w w' : World} {P : World → Prop} (h : Box w P) (hb : Below w.heap.size w w') : Box w' P := fun w'' h2 => h w'' (hb.trans (h2.mono hb.size))
theorem Box.and {w : World} {P Q : World → Prop} (h : Box w P) (k : Box w Q) : Box w fun u => P u ∧ Q u := fun u hu => ⟨h u hu, k u hu⟩
theorem Box.imp {w : World} {P Q : World → Prop} (h : Box w P) (k : ∀ u, P u → Q u) : Box w Q := fun u hu => k u (h u hu)
theorem Box.true (w : World) : Box w fun _ => True := fun _ _ => trivial
/-- A cell, and that its block is there. -/
def CellB (b o : Nat) (x : Value) (u : World) : Prop := u.cell? ⟨b, o, none⟩ = some x
theorem Box.cell {w : World} {b o : Nat} {x : Value} (h : w.cell? ⟨b, o, none⟩ = some x) : Box w (CellB b o x) := fun _ hu => keepc hu (World.block_lt_of_cell? w _ h) h
theorem CellB.lt {w : World} {b o : Nat} {x : Value} (h : CellB b o x w) : b < w.heap.size := World.block_lt_of_cell? w _ h
theorem Box.below {w w' : World} {B : Nat} (h : Below B w w') (hB : B ≤ w.heap.size) : Box w' (Below B w) := fun _ hu => h.trans (hu.mono (Nat.le_trans hB h.size))
theorem Box.since {B : Nat} {w w' : World} (h : Below B w w') (hB : B ≤ w'.heap.size) : Box w' (Below B w) := fun _ hu => h.trans (hu.mono hB)
theorem Box.size {w : World} {n : Nat} (h : n ≤ w.heap.size) : Box w fun u => n ≤ u.heap.size := fun _ hu => Nat.le_trans h hu.size
theorem Box.gr {w : World} {g : Gr} {B : Nat} {v : Value} (h : g.At B w v) (hB : B ≤ w.heap.size) : Box w fun u => g.At B u v := fun _ hu => h.below (hu.mono hB)
/-- A graph in memory of the call's own, in the blocks F. -/
def Gr.Has (g : Gr) (v : Value) (F : List Nat) (u : World) : Prop := ∃ F1 F2, F = F1 ++ F2 ∧ g.Own 0 u v F1 F2
theorem Box.grHas {w : World} {g : Gr} {v : Value} {F : List Nat} (h : g.Has v F w) : Box w (g.Has v F) := by
  obtain ⟨F1, F2, e, h⟩ := h
  exact fun _ hu => ⟨F1, F2, e, h.below hu⟩
theorem Gr.Has.at {g : Gr} {v : Value} {F : List Nat} {w : World} (h : g.Has v F w) : g.At w.heap.size w v := by
  obtain ⟨F1, F2, e, h⟩ := h
  exact h.at
theorem Gr.Own.has {g : Gr} {lo : Nat} {v : Value} {F1 F2 : List Nat} {w : World} (h : g.Own lo w v F1 F2) : g.Has v (F1 ++ F2) w := ⟨F1, F2, rfl, h.mono (Nat.zero_le _)⟩
theorem Gr.Own.lo {g : Gr} {lo : Nat} {v : Value} {F1 F2 : List Nat} {w : World} (h : g.Own lo w v F1 F2) : ∀ x ∈ F1 ++ F2, lo ≤ x ∧ x < w.heap.size := by
  have hl := h.lt
  obtain ⟨a, b, e1, e2, e3, e4, e5, e6⟩ := h
  intro x hx
  rcases List.mem_append.1 hx with hx | hx
  · exact ⟨e4 x hx, hl.1 x hx⟩
  · exact ⟨e5 x hx, hl.2 x hx⟩
theorem Gr.Has.chg {g : Gr} {v : Value} {F G : List Nat} {w w' : World} (h : g.Has v F w) (hc : Chg G w w') (hd : ∀ x ∈ F, x ∉ G) : g.Has v F w' := by
  obtain ⟨F1, F2, rfl, h⟩ := h
  exact ⟨F1, F2, rfl, h.chg hc (fun x hx => hd x (List.mem_append_left _ hx)) (fun x hx => hd x (List.mem_append_right _ hx))⟩
/-- An expression in memory of the call's own. -/
def Ex.Has (e : Ex) (v : Value) (F : List Nat) (u : World) : Prop := ∃ k, v = .agg #[.int .i64 e.op, .string e.a, k] ∧ e.ks.Own u k F
theorem Box.ex {w : World} {e : Ex} {B : Nat} {v : Value} (h : e.At B w v) (hB : B ≤ w.heap.size) : Box w fun u => e.At B u v := fun _ hu => h.below (hu.mono hB) (Nat.le_refl _)
theorem Box.exHas {w : World} {e : Ex} {v : Value} {F : List Nat} (h : e.Has v F w) : Box w (e.Has v F) := by
  obtain ⟨k, e, h⟩ := h
  exact fun _ hu => ⟨k, e, h.below hu⟩
theorem Ex.Has.at {e : Ex} {v : Value} {F : List Nat} {w : World} (h : e.Has v F w) : e.At w.heap.size w v := by
  obtain ⟨k, e, h⟩ := h
  exact ⟨k, e, h.in⟩
theorem Ex.Has.chg {e : Ex} {v : Value} {F G : List Nat} {w w' : World} (h : e.Has v F w) (hc : Chg G w w') (hd : ∀ x ∈ F, x ∉ G) : e.Has v F w' := by
  obtain ⟨k, e, h⟩ := h
  exact ⟨k, e, h.chg hc hd⟩
theorem Box.chgCell {w w' : World} {b o : Nat} {x : Value} {G : List Nat} (hc : Chg G w w') (hb : b ∉ G) (h : CellB b o x w) : CellB b o x w' :=
  (World.cell?_of_block (w := w) (a := ⟨b, o, none⟩) (hc.block b (World.block_lt_of_cell? w _ h) hb)).trans h
end Go.Proofs.Ytfdkmngkpihpbaa
