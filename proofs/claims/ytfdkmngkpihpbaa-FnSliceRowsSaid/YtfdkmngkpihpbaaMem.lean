/- Slices in memory as lists; the plain data of graphs; no program. -/
import Derived.WalkKit
import Derived.Lib.Hide
namespace Go.Proofs.Ytfdkmngkpihpbaa
open Go.RowKit

/-- v is a slice that holds xs, an element in sz cells, whose values enc gives; all of it in blocks below B. -/
def Sl {α : Type} (sz : Nat) (enc : α → List Value) (B : Nat) (w : World) (v : Value) (xs : List α) : Prop :=
  ∃ (p : Option Addr) (len cap : Nat), v = .slice p len cap ∧ len = xs.length ∧ len ≤ cap ∧ cap ≤ maxLen ∧
    ∀ (i : Nat) (h : i < xs.length), ∃ b off, p = some ⟨b, off, none⟩ ∧ b < B ∧ ∀ j x, (enc xs[i])[j]? = some x → w.cell? ⟨b, off + i * sz + j, none⟩ = some x

theorem Sl.below {α : Type} {sz : Nat} {enc : α → List Value} {B : Nat} {w w' : World} {v : Value} {xs : List α} (h : Sl sz enc B w v xs) (hb : Below B w w') : Sl sz enc B w' v xs := by
  obtain ⟨p, len, cap, h1, h2, h3, h4, h5⟩ := h
  refine ⟨p, len, cap, h1, h2, h3, h4, fun i hi => ?_⟩
  obtain ⟨b, off, e1, e2, e3⟩ := h5 i hi
  exact ⟨b, off, e1, e2, fun j x hx => (hb.cell (p := ⟨b, _, none⟩) e2).trans (e3 j x hx)⟩
theorem Sl.mono {α : Type} {sz : Nat} {enc : α → List Value} {B B' : Nat} {w : World} {v : Value} {xs : List α} (h : Sl sz enc B w v xs) (hB : B ≤ B') : Sl sz enc B' w v xs := by
  obtain ⟨p, len, cap, h1, h2, h3, h4, h5⟩ := h
  refine ⟨p, len, cap, h1, h2, h3, h4, fun i hi => ?_⟩
  obtain ⟨b, off, e1, e2, e3⟩ := h5 i hi
  exact ⟨b, off, e1, by omega, e3⟩

/-- A block that a call made, after other calls. -/
theorem new_cell {w w1 : World} {c : Array Value} {T : TypeId} (hb : Below (w.alloc (.cells c T)).heap.size (w.alloc (.cells c T)) w1) {j : Nat} {x : Value} (hj : c[j]? = some x) :
    w1.cell? ⟨w.heap.size, j, none⟩ = some x := by
  exact (hb.cell (by simp)).trans ((World.cell?_alloc_at c T _ j rfl).trans hj)
theorem keepc {B b o : Nat} {w w' : World} {x : Value} (hb : Below B w w') (h : b < B) (hc : w.cell? ⟨b, o, none⟩ = some x) : w'.cell? ⟨b, o, none⟩ = some x := (hb.cell (p := ⟨b, o, none⟩) h).trans hc
theorem below_past {w w1 : World} {o : Obj} (hb : Below (w.alloc o).heap.size (w.alloc o) w1) : Below w.heap.size w w1 :=
  ((Below.refl _ w).alloc (Nat.le_refl _) o).trans (hb.mono (by simp))

/-- One boxed pair, two boxed pairs: their cells, in every later world. -/
theorem one_box {w wk : World} {x0 x1 : Value} {T : TypeId} (h : Below (w.heap.size + 1) (w.alloc (.cells #[x0, x1] T)) wk) :
    w.heap.size + 1 ≤ wk.heap.size ∧ wk.cell? ⟨w.heap.size, 0, none⟩ = some x0 ∧ wk.cell? ⟨w.heap.size, 1, none⟩ = some x1 :=
  ⟨by have := h.size; simp at this; omega, keepc h (by omega) (by simp [go_sem]), keepc h (by omega) (by simp [go_sem])⟩
theorem two_boxes {w wk : World} {x0 x1 y0 y1 : Value} {T T' : TypeId} (h : Below (w.heap.size + 2) ((w.alloc (.cells #[x0, x1] T)).alloc (.cells #[y0, y1] T')) wk) :
    w.heap.size + 2 ≤ wk.heap.size ∧ wk.cell? ⟨w.heap.size, 0, none⟩ = some x0 ∧ wk.cell? ⟨w.heap.size, 1, none⟩ = some x1 ∧ wk.cell? ⟨w.heap.size + 1, 0, none⟩ = some y0 ∧ wk.cell? ⟨w.heap.size + 1, 1, none⟩ = some y1 :=
  ⟨by have := h.size; simp at this; omega, keepc h (by omega) (by simp [go_sem]), keepc h (by omega) (by simp [go_sem]), keepc h (by omega) (by simp [go_sem]), keepc h (by omega) (by simp [go_sem])⟩

structure Nd where
  l : ByteArray
  n : Int
structure Ed where
  f : Int
  t : Int
  l : ByteArray
  n : Int
structure Gr where
  ns : List Nd
  es : List Ed
def Nd.cells (x : Nd) : List Value := [.string x.l, .int .i64 x.n]
def Ed.cells (x : Ed) : List Value := [.int .i64 x.f, .int .i64 x.t, .string x.l, .int .i64 x.n]
def I64 (n : Int) : Prop := -9223372036854775808 ≤ n ∧ n ≤ 9223372036854775807
def Nd.Ok (x : Nd) : Prop := x.l.size ≤ maxLen ∧ I64 x.n
def Ed.Ok (x : Ed) : Prop := I64 x.f ∧ I64 x.t ∧ x.l.size ≤ maxLen ∧ I64 x.n
def Gr.Ok (g : Gr) : Prop := (∀ x ∈ g.ns, x.Ok) ∧ (∀ x ∈ g.es, x.Ok)
/-- The value of a struct Graph whose two slices lie below B. -/
def Gr.At (g : Gr) (B : Nat) (w : World) (v : Value) : Prop := ∃ a b, v = .agg #[a, b] ∧ Sl 2 Nd.cells B w a g.ns ∧ Sl 4 Ed.cells B w b g.es
theorem Gr.At.below {g : Gr} {B : Nat} {w w' : World} {v : Value} (h : g.At B w v) (hb : Below B w w') : g.At B w' v := by
  obtain ⟨a, b, h1, h2, h3⟩ := h
  exact ⟨a, b, h1, h2.below hb, h3.below hb⟩
theorem Gr.At.mono {g : Gr} {B B' : Nat} {w : World} {v : Value} (h : g.At B w v) (hb : B ≤ B') : g.At B' w v := by
  obtain ⟨a, b, h1, h2, h3⟩ := h
  exact ⟨a, b, h1, h2.mono hb, h3.mono hb⟩

/-- An element's cells, at an index. -/
theorem Sl.nd {B : Nat} {w : World} {p : Option Addr} {len cap : Nat} {xs : List Nd} (h : Sl 2 Nd.cells B w (.slice p len cap) xs) {k : Nat} (hk : k < xs.length) :
    ∃ b off, p = some ⟨b, off, none⟩ ∧ b < B ∧ w.cell? ⟨b, off + k * 2, none⟩ = some (.string xs[k].l) ∧ w.cell? ⟨b, off + k * 2 + 1, none⟩ = some (.int .i64 xs[k].n) := by
  obtain ⟨p', len', cap', h1, h2, h3, h4, h5⟩ := h
  cases h1
  obtain ⟨b, off, e1, e2, e3⟩ := h5 k hk
  exact ⟨b, off, e1, e2, e3 0 _ rfl, e3 1 _ rfl⟩
theorem Sl.ed {B : Nat} {w : World} {p : Option Addr} {len cap : Nat} {xs : List Ed} (h : Sl 4 Ed.cells B w (.slice p len cap) xs) {k : Nat} (hk : k < xs.length) :
    ∃ b off, p = some ⟨b, off, none⟩ ∧ b < B ∧ w.cell? ⟨b, off + k * 4, none⟩ = some (.int .i64 xs[k].f) ∧ w.cell? ⟨b, off + k * 4 + 1, none⟩ = some (.int .i64 xs[k].t) ∧
      w.cell? ⟨b, off + k * 4 + 2, none⟩ = some (.string xs[k].l) ∧ w.cell? ⟨b, off + k * 4 + 3, none⟩ = some (.int .i64 xs[k].n) := by
  obtain ⟨p', len', cap', h1, h2, h3, h4, h5⟩ := h
  cases h1
  obtain ⟨b, off, e1, e2, e3⟩ := h5 k hk
  exact ⟨b, off, e1, e2, e3 0 _ rfl, e3 1 _ rfl, e3 2 _ rfl, e3 3 _ rfl⟩
theorem Sl.len {α : Type} {sz : Nat} {enc : α → List Value} {B : Nat} {w : World} {p : Option Addr} {len cap : Nat} {xs : List α} (h : Sl sz enc B w (.slice p len cap) xs) : len = xs.length := by
  obtain ⟨p', len', cap', h1, h2, h3, h4, h5⟩ := h
  cases h1; exact h2
theorem Sl.max {α : Type} {sz : Nat} {enc : α → List Value} {B : Nat} {w : World} {p : Option Addr} {len cap : Nat} {xs : List α} (h : Sl sz enc B w (.slice p len cap) xs) : len ≤ cap ∧ cap ≤ maxLen := by
  obtain ⟨p', len', cap', h1, h2, h3, h4, h5⟩ := h
  cases h1; exact ⟨h3, h4⟩
theorem Sl.form {α : Type} {sz : Nat} {enc : α → List Value} {B : Nat} {w : World} {v : Value} {xs : List α} (h : Sl sz enc B w v xs) : ∃ p cap, v = .slice p xs.length cap := by
  obtain ⟨p', len', cap', h1, h2, h3, h4, h5⟩ := h
  subst h2; exact ⟨_, _, h1⟩
end Go.Proofs.Ytfdkmngkpihpbaa
