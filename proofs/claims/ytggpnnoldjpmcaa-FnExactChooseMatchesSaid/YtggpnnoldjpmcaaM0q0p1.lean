/- Lemmas on the data and the memory of this program's values: several texts in one. -/
import Derived.Test.YtggpnnoldjpmcaaProg
import Derived.WalkKit
import Derived.BigQuiet
import Derived.Deep.QuietTactic
import Derived.KernelRfl
import Derived.Lib.Hide
import Derived.StillTailTactics
import Derived.Deep.RegionHeld3
import Derived.Deep.DeepCutAuto
import Derived.Lib.AppendZeros
import Derived.Lib.AppendZerosOnto
import Derived.Deep.AppendLies
import Derived.OwnWalk
import Derived.Laws.AppendOwn
import Derived.Deep.Slices
import Derived.Deep.Fields
import Derived.ChangeSame
import Derived.Lib.SmallJoins
namespace Go.Proofs.Ytggpnnoldjpmcaa
open Go.RowKit

def isL (c : UInt8) : Bool := decide (97 ≤ c.toNat) && decide (c.toNat ≤ 122)
def cl : List UInt8 → Nat
  | [] => 0
  | c :: r => if isL c then cl r + 1 else 0
def lvL (l : List UInt8) : Bool := decide (1 ≤ l.length) && decide (l.length ≤ 6) && l.all isL
def lv (s : ByteArray) : Bool := lvL s.data.toList
/-- The first k bytes are letters. -/
def AllL (s : ByteArray) (k : Nat) : Prop := (s.data.toList.take k).all isL = true

theorem cl_le : ∀ l : List UInt8, cl l ≤ l.length
  | [] => Nat.le_refl _
  | c :: r => by unfold cl; have := cl_le r; split <;> simp <;> omega
theorem cl_all : ∀ l : List UInt8, (cl l = l.length) ↔ l.all isL = true
  | [] => by simp [cl]
  | c :: r => by
    unfold cl; have h := cl_all r; have h2 := cl_le r
    by_cases hc : isL c = true
    · simp [hc, ← h]
    · simp [hc]
theorem cl_stop : ∀ (l : List UInt8) (k : Nat) (h : k < l.length), (l.take k).all isL = true → isL l[k] = false → cl l = k
  | [], k, h, _, _ => by simp at h
  | c :: r, 0, h, _, h2 => by simp at h2; simp [cl, h2]
  | c :: r, k + 1, h, h1, h2 => by
    simp at h1 h2 h
    unfold cl; rw [if_pos h1.1, cl_stop r k h (by simpa using h1.2) h2]
theorem AllL.zero (s : ByteArray) : AllL s 0 := rfl
theorem AllL.succ {s : ByteArray} {k : Nat} (h : AllL s k) (hk : k < s.size) (hc : isL s[k] = true) : AllL s (k + 1) := by
  unfold AllL at *
  rw [List.take_succ_eq_append_getElem (by simpa using hk), List.all_append, h]
  simp only [List.all_cons, List.all_nil, Bool.and_true, Bool.true_and]; exact hc
theorem AllL.stop {s : ByteArray} {k : Nat} (h : AllL s k) (hk : k < s.size) (hc : isL s[k] = false) : cl s.data.toList = k :=
  cl_stop _ k (by simpa using hk) h hc
theorem AllL.full {s : ByteArray} (h : AllL s s.size) : s.data.toList.all isL = true := by
  unfold AllL at h; rwa [List.take_of_length_le (Nat.le_of_eq (by rfl))] at h
theorem isL_no1 {c : UInt8} (h : (c.toNat : Int) < 97) : isL c = false := by
  unfold isL; rw [decide_eq_false (by omega)]; rfl
theorem isL_no2 {c : UInt8} (h : (122 : Int) < c.toNat) : isL c = false := by
  unfold isL; rw [decide_eq_false (p := c.toNat ≤ 122) (by omega), Bool.and_false]
theorem isL_yes {c : UInt8} (h : (97 : Int) ≤ c.toNat) (h2 : (c.toNat : Int) ≤ 122) : isL c = true := by
  unfold isL; rw [decide_eq_true (by omega), decide_eq_true (by omega)]; rfl
theorem ret_int {k : IntKind} {a b : Int} (h : a = b) : Ending.returned (.int k a) = .returned (.int k b) := by rw [h]
theorem ret_bool {a b : Bool} (h : a = b) : Ending.returned (.bool a) = .returned (.bool b) := by rw [h]

theorem lv_short {s : ByteArray} (h : s.size = 0) : lv s = false := by
  unfold lv lvL; rw [decide_eq_false (p := 1 ≤ _) (by have : s.data.toList.length = s.size := rfl; omega)]; rfl
theorem lv_long {s : ByteArray} (h : 6 < s.size) : lv s = false := by
  unfold lv lvL; rw [decide_eq_false (p := _ ≤ 6) (by have : s.data.toList.length = s.size := rfl; omega)]; simp
theorem lv_mid {s : ByteArray} (h0 : 1 ≤ s.size) (h : s.size ≤ 6) : lv s = s.data.toList.all isL := by
  have e : s.data.toList.length = s.size := rfl
  unfold lv lvL; rw [decide_eq_true (p := 1 ≤ _) (by omega), decide_eq_true (p := _ ≤ 6) (by omega)]; rfl
theorem cl_beq {s : ByteArray} : ((cl s.data.toList : Int) == (s.size : Int)) = s.data.toList.all isL := by
  have e : s.data.toList.length = s.size := rfl
  have h := cl_all s.data.toList
  rw [Bool.eq_iff_iff, ← h]; simp; omega
theorem lv_bad {s : ByteArray} {k : Nat} (h : k < s.size) (hc : isL s[k] = false) : lv s = false := by
  have : s.data.toList.all isL = false := by
    rw [List.all_eq_false]
    refine ⟨s[k], ?_, by rw [hc]; simp⟩
    exact List.getElem_mem (l := s.data.toList) h
  unfold lv lvL; rw [this]; simp
theorem str_empty {s : ByteArray} (h : s.size = 0) : s.toList = [] := by rw [ByteArray.toList_eq]; exact List.eq_nil_of_length_eq_zero h
theorem str_nonempty {s : ByteArray} (h : 0 < s.size) : ¬ s.toList = [] := by
  rw [ByteArray.toList_eq]
  have e : s.data.toList.length = s.size := rfl
  intro hl; rw [hl] at e; simp at e; omega
theorem str_nonempty' {s : ByteArray} (h : 0 < s.size) : (!s.toList.isEmpty) = true := by
  have := str_nonempty h
  cases hl : s.toList with
  | nil => exact absurd hl this
  | cons => rfl

end Go.Proofs.Ytggpnnoldjpmcaa
namespace Go.Proofs.Ytggpnnoldjpmcaa
open Go.RowKit

/-- v is a slice that holds xs, an element in sz cells, whose values enc gives; all of it in blocks below B. -/
def Sl {α : Type} (sz : Nat) (enc : α → List Value) (B : Nat) (w : World) (v : Value) (xs : List α) : Prop :=
  ∃ (p : Option Addr) (len cap : Nat), v = .slice p len cap ∧ len = xs.length ∧ len ≤ cap ∧ cap ≤ maxLen ∧
    ∀ (i : Nat) (h : i < xs.length), ∃ b off, p = some ⟨b, off, none⟩ ∧ b < B ∧ ∀ j x, (enc xs[i])[j]? = some x → w.cell? ⟨b, off + i * sz + j, none⟩ = some x

theorem Sl.below {α : Type} {sz : Nat} {enc : α → List Value} {B : Nat} {w w' : World} {v : Value} {xs : List α} (h : Sl sz enc B w v xs) (hb : Below B w w') : Sl sz enc B w' v xs := by
  obtain ⟨p, len, cap, h1, h2, h3, h4, h5⟩ := h
  refine ⟨p, len, cap, h1, h2, h3, h4, fun i hi => ?_⟩
  obtain ⟨b, off, e1, e2, e3⟩ := h5 i hi
  exact ⟨b, off, e1, e2, fun j x hx => (hb.cell (p := ⟨b, _, none⟩) e2).trans (e3 j x hx)⟩
theorem Sl.mono {α : Type} {sz : Nat} {enc : α → List Value} {B B' : Nat} {w : World} {v : Value} {xs : List α} (h : Sl sz enc B w v xs) (hB : B ≤ B') : Sl sz enc B' w v xs := by
  obtain ⟨p, len, cap, h1, h2, h3, h4, h5⟩ := h
  refine ⟨p, len, cap, h1, h2, h3, h4, fun i hi => ?_⟩
  obtain ⟨b, off, e1, e2, e3⟩ := h5 i hi
  exact ⟨b, off, e1, by omega, e3⟩

/-- A block that a call made, after other calls. -/
theorem new_cell {w w1 : World} {c : Array Value} {T : TypeId} (hb : Below (w.alloc (.cells c T)).heap.size (w.alloc (.cells c T)) w1) {j : Nat} {x : Value} (hj : c[j]? = some x) :
    w1.cell? ⟨w.heap.size, j, none⟩ = some x := by
  exact (hb.cell (by simp)).trans ((World.cell?_alloc_at c T _ j rfl).trans hj)
theorem keepc {B b o : Nat} {w w' : World} {x : Value} (hb : Below B w w') (h : b < B) (hc : w.cell? ⟨b, o, none⟩ = some x) : w'.cell? ⟨b, o, none⟩ = some x := (hb.cell (p := ⟨b, o, none⟩) h).trans hc
theorem below_past {w w1 : World} {o : Obj} (hb : Below (w.alloc o).heap.size (w.alloc o) w1) : Below w.heap.size w w1 :=
  ((Below.refl _ w).alloc (Nat.le_refl _) o).trans (hb.mono (by simp))

/-- One boxed pair, two boxed pairs: their cells, in every later world. -/
theorem one_box {w wk : World} {x0 x1 : Value} {T : TypeId} (h : Below (w.heap.size + 1) (w.alloc (.cells #[x0, x1] T)) wk) :
    w.heap.size + 1 ≤ wk.heap.size ∧ wk.cell? ⟨w.heap.size, 0, none⟩ = some x0 ∧ wk.cell? ⟨w.heap.size, 1, none⟩ = some x1 :=
  ⟨by have := h.size; simp at this; omega, keepc h (by omega) (by simp [go_sem]), keepc h (by omega) (by simp [go_sem])⟩
theorem two_boxes {w wk : World} {x0 x1 y0 y1 : Value} {T T' : TypeId} (h : Below (w.heap.size + 2) ((w.alloc (.cells #[x0, x1] T)).alloc (.cells #[y0, y1] T')) wk) :
    w.heap.size + 2 ≤ wk.heap.size ∧ wk.cell? ⟨w.heap.size, 0, none⟩ = some x0 ∧ wk.cell? ⟨w.heap.size, 1, none⟩ = some x1 ∧ wk.cell? ⟨w.heap.size + 1, 0, none⟩ = some y0 ∧ wk.cell? ⟨w.heap.size + 1, 1, none⟩ = some y1 :=
  ⟨by have := h.size; simp at this; omega, keepc h (by omega) (by simp [go_sem]), keepc h (by omega) (by simp [go_sem]), keepc h (by omega) (by simp [go_sem]), keepc h (by omega) (by simp [go_sem])⟩

structure Nd where
  l : ByteArray
  n : Int
structure Ed where
  f : Int
  t : Int
  l : ByteArray
  n : Int
structure Gr where
  ns : List Nd
  es : List Ed
def Nd.cells (x : Nd) : List Value := [.string x.l, .int .i64 x.n]
def Ed.cells (x : Ed) : List Value := [.int .i64 x.f, .int .i64 x.t, .string x.l, .int .i64 x.n]
def I64 (n : Int) : Prop := -9223372036854775808 ≤ n ∧ n ≤ 9223372036854775807
def Nd.Ok (x : Nd) : Prop := x.l.size ≤ maxLen ∧ I64 x.n
def Ed.Ok (x : Ed) : Prop := I64 x.f ∧ I64 x.t ∧ x.l.size ≤ maxLen ∧ I64 x.n
def Gr.Ok (g : Gr) : Prop := (∀ x ∈ g.ns, x.Ok) ∧ (∀ x ∈ g.es, x.Ok)
/-- The value of a struct Graph whose two slices lie below B. -/
def Gr.At (g : Gr) (B : Nat) (w : World) (v : Value) : Prop := ∃ a b, v = .agg #[a, b] ∧ Sl 2 Nd.cells B w a g.ns ∧ Sl 4 Ed.cells B w b g.es
theorem Gr.At.below {g : Gr} {B : Nat} {w w' : World} {v : Value} (h : g.At B w v) (hb : Below B w w') : g.At B w' v := by
  obtain ⟨a, b, h1, h2, h3⟩ := h
  exact ⟨a, b, h1, h2.below hb, h3.below hb⟩
theorem Gr.At.mono {g : Gr} {B B' : Nat} {w : World} {v : Value} (h : g.At B w v) (hb : B ≤ B') : g.At B' w v := by
  obtain ⟨a, b, h1, h2, h3⟩ := h
  exact ⟨a, b, h1, h2.mono hb, h3.mono hb⟩

/-- An element's cells, at an index. -/
theorem Sl.nd {B : Nat} {w : World} {p : Option Addr} {len cap : Nat} {xs : List Nd} (h : Sl 2 Nd.cells B w (.slice p len cap) xs) {k : Nat} (hk : k < xs.length) :
    ∃ b off, p = some ⟨b, off, none⟩ ∧ b < B ∧ w.cell? ⟨b, off + k * 2, none⟩ = some (.string xs[k].l) ∧ w.cell? ⟨b, off + k * 2 + 1, none⟩ = some (.int .i64 xs[k].n) := by
  obtain ⟨p', len', cap', h1, h2, h3, h4, h5⟩ := h
  cases h1
  obtain ⟨b, off, e1, e2, e3⟩ := h5 k hk
  exact ⟨b, off, e1, e2, e3 0 _ rfl, e3 1 _ rfl⟩
theorem Sl.ed {B : Nat} {w : World} {p : Option Addr} {len cap : Nat} {xs : List Ed} (h : Sl 4 Ed.cells B w (.slice p len cap) xs) {k : Nat} (hk : k < xs.length) :
    ∃ b off, p = some ⟨b, off, none⟩ ∧ b < B ∧ w.cell? ⟨b, off + k * 4, none⟩ = some (.int .i64 xs[k].f) ∧ w.cell? ⟨b, off + k * 4 + 1, none⟩ = some (.int .i64 xs[k].t) ∧
      w.cell? ⟨b, off + k * 4 + 2, none⟩ = some (.string xs[k].l) ∧ w.cell? ⟨b, off + k * 4 + 3, none⟩ = some (.int .i64 xs[k].n) := by
  obtain ⟨p', len', cap', h1, h2, h3, h4, h5⟩ := h
  cases h1
  obtain ⟨b, off, e1, e2, e3⟩ := h5 k hk
  exact ⟨b, off, e1, e2, e3 0 _ rfl, e3 1 _ rfl, e3 2 _ rfl, e3 3 _ rfl⟩
theorem Sl.len {α : Type} {sz : Nat} {enc : α → List Value} {B : Nat} {w : World} {p : Option Addr} {len cap : Nat} {xs : List α} (h : Sl sz enc B w (.slice p len cap) xs) : len = xs.length := by
  obtain ⟨p', len', cap', h1, h2, h3, h4, h5⟩ := h
  cases h1; exact h2
theorem Sl.max {α : Type} {sz : Nat} {enc : α → List Value} {B : Nat} {w : World} {p : Option Addr} {len cap : Nat} {xs : List α} (h : Sl sz enc B w (.slice p len cap) xs) : len ≤ cap ∧ cap ≤ maxLen := by
  obtain ⟨p', len', cap', h1, h2, h3, h4, h5⟩ := h
  cases h1; exact ⟨h3, h4⟩
theorem Sl.form {α : Type} {sz : Nat} {enc : α → List Value} {B : Nat} {w : World} {v : Value} {xs : List α} (h : Sl sz enc B w v xs) : ∃ p cap, v = .slice p xs.length cap := by
  obtain ⟨p', len', cap', h1, h2, h3, h4, h5⟩ := h
  subst h2; exact ⟨_, _, h1⟩
end Go.Proofs.Ytggpnnoldjpmcaa
namespace Go.Proofs.Ytggpnnoldjpmcaa
open Go.RowKit

def pv (s : ByteArray) (n : Int) : Bool := (decide (s.size = 0) || lv s) && (decide (0 ≤ n) && decide (n ≤ 99))
def hn (k : Nat) (n : Int) : Bool := decide (0 ≤ n) && decide (n < k)
def ndV (x : Nd) : Bool := pv x.l x.n
def edV (k : Nat) (e : Ed) : Bool := hn k e.f && (hn k e.t && pv e.l e.n)
def gv (g : Gr) : Bool := (decide (1 ≤ g.ns.length) && (decide (g.ns.length ≤ 8) && decide (g.es.length ≤ 14))) && (g.ns.all ndV && g.es.all (edV g.ns.length))

theorem pv_neg {s : ByteArray} {n : Int} (h : n < 0) : pv s n = false := by unfold pv; rw [decide_eq_false (p := 0 ≤ n) (by omega)]; simp
theorem pv_big {s : ByteArray} {n : Int} (h : 99 < n) : pv s n = false := by unfold pv; rw [decide_eq_false (p := n ≤ 99) (by omega)]; simp
theorem pv_empty {s : ByteArray} {n : Int} (hs : s.size = 0) (h : 0 ≤ n) (h' : n ≤ 99) : pv s n = true := by unfold pv; rw [decide_eq_true hs, decide_eq_true h, decide_eq_true h']; rfl
theorem pv_lv {s : ByteArray} {n : Int} (hs : 0 < s.size) (h : 0 ≤ n) (h' : n ≤ 99) : pv s n = lv s := by unfold pv; rw [decide_eq_false (p := s.size = 0) (by omega), decide_eq_true h, decide_eq_true h']; simp
theorem str_empty' {s : ByteArray} (h : s.size = 0) : s.toList.isEmpty = true := by rw [str_empty h]; rfl
theorem str_nonempty'' {s : ByteArray} (h : 0 < s.size) : s.toList.isEmpty = false := by
  have := str_nonempty' h
  revert this; cases s.toList.isEmpty <;> simp

/-- The first k elements answer yes. -/
def AllP {α : Type} (f : α → Bool) (xs : List α) (k : Nat) : Prop := (xs.take k).all f = true
theorem AllP.zero {α : Type} (f : α → Bool) (xs : List α) : AllP f xs 0 := rfl
theorem AllP.succ {α : Type} {f : α → Bool} {xs : List α} {k : Nat} (h : AllP f xs k) (hk : k < xs.length) (hc : f xs[k] = true) : AllP f xs (k + 1) := by
  unfold AllP at *
  rw [List.take_succ_eq_append_getElem hk, List.all_append, h]
  simp only [List.all_cons, List.all_nil, Bool.and_true, Bool.true_and]; exact hc
theorem AllP.full {α : Type} {f : α → Bool} {xs : List α} (h : AllP f xs xs.length) : xs.all f = true := by
  unfold AllP at h; rwa [List.take_of_length_le (Nat.le_refl _)] at h
theorem all_bad {α : Type} {f : α → Bool} {xs : List α} {k : Nat} (hk : k < xs.length) (hc : f xs[k] = false) : xs.all f = false := by
  rw [List.all_eq_false]
  exact ⟨xs[k], List.getElem_mem hk, by rw [hc]; simp⟩
theorem gv_size {g : Gr} (h : ¬ (1 ≤ g.ns.length ∧ g.ns.length ≤ 8 ∧ g.es.length ≤ 14)) : gv g = false := by
  unfold gv
  by_cases a : 1 ≤ g.ns.length
  · by_cases b : g.ns.length ≤ 8
    · rw [decide_eq_false (p := g.es.length ≤ 14) (by omega)]; simp
    · rw [decide_eq_false (p := g.ns.length ≤ 8) b]; simp
  · rw [decide_eq_false (p := 1 ≤ g.ns.length) a]; simp
theorem gv_in {g : Gr} (h : 1 ≤ g.ns.length ∧ g.ns.length ≤ 8 ∧ g.es.length ≤ 14) : gv g = (g.ns.all ndV && g.es.all (edV g.ns.length)) := by
  unfold gv; rw [decide_eq_true h.1, decide_eq_true h.2.1, decide_eq_true h.2.2]; rfl

end Go.Proofs.Ytggpnnoldjpmcaa
namespace Go.Proofs.Ytggpnnoldjpmcaa
open Go.RowKit

/-- What a size function answers: -1, or what is left. -/
def SzPost (left need : Int) (B : Nat) (w : World) (e : Ending) (w' : World) : Prop := ∃ r : Int, e = .returned (.int .i64 r) ∧ (r = -1 ∨ (0 ≤ r ∧ r = left - need)) ∧ Below B w w'

def sumNode (xs : List Nd) : Nat := (xs.map fun x => x.l.size).sum
theorem sumNode_succ (xs : List Nd) (k : Nat) (h : k < xs.length) : sumNode (xs.take (k + 1)) = sumNode (xs.take k) + xs[k].l.size := by
  unfold sumNode; rw [List.take_succ_eq_append_getElem h, List.map_append, List.sum_append]; simp only [List.map_cons, List.map_nil, List.sum_cons, List.sum_nil, Nat.add_zero]
theorem sumNode_le (xs : List Nd) (k : Nat) : sumNode (xs.take k) ≤ sumNode xs := by
  unfold sumNode
  have := congrArg (fun l => (l.map fun x : Nd => x.l.size).sum) (List.take_append_drop k xs)
  simp only [List.map_append, List.sum_append] at this; omega

def sumEdge (xs : List Ed) : Nat := (xs.map fun x => x.l.size).sum
theorem sumEdge_succ (xs : List Ed) (k : Nat) (h : k < xs.length) : sumEdge (xs.take (k + 1)) = sumEdge (xs.take k) + xs[k].l.size := by
  unfold sumEdge; rw [List.take_succ_eq_append_getElem h, List.map_append, List.sum_append]; simp only [List.map_cons, List.map_nil, List.sum_cons, List.sum_nil, Nat.add_zero]
theorem sumEdge_le (xs : List Ed) (k : Nat) : sumEdge (xs.take k) ≤ sumEdge xs := by
  unfold sumEdge
  have := congrArg (fun l => (l.map fun x : Ed => x.l.size).sum) (List.take_append_drop k xs)
  simp only [List.map_append, List.sum_append] at this; omega

/-- A slice of flat elements in memory of the call's own: not frozen, in the blocks F. -/
def OwnSl {α : Type} (sz : Nat) (enc : α → List Value) (w : World) (v : Value) (xs : List α) (F : List Nat) : Prop :=
  ∃ (p : Option Addr) (len cap : Nat), v = .slice p len cap ∧ len = xs.length ∧ len ≤ cap ∧ cap ≤ maxLen ∧
    ((xs = [] ∧ F = []) ∨ ∃ b off, p = some ⟨b, off, none⟩ ∧ F = [b] ∧ b < w.heap.size ∧ (∀ o, w.frozen? ⟨b, o, none⟩ = false) ∧ ∀ (i : Nat) (h : i < xs.length) j x, (enc xs[i])[j]? = some x → w.cell? ⟨b, off + i * sz + j, none⟩ = some x)
theorem OwnSl.sl {α : Type} {sz : Nat} {enc : α → List Value} {w : World} {v : Value} {xs : List α} {F : List Nat} (h : OwnSl sz enc w v xs F) : Sl sz enc w.heap.size w v xs := by
  obtain ⟨p, len, cap, h1, h2, h3, h4, h5⟩ := h
  refine ⟨p, len, cap, h1, h2, h3, h4, fun i hi => ?_⟩
  rcases h5 with ⟨h5, _⟩ | ⟨b, off, e1, e2, e3, e4, e5⟩
  · subst h5; simp at hi
  · exact ⟨b, off, e1, e3, e5 i hi⟩
/-- The world w' is as w was, but for the blocks in F, and new ones. -/
structure Chg (F : List Nat) (w w' : World) : Prop where
  os : w'.os = w.os
  tape : w'.tape = w.tape
  output : w'.output = w.output
  size : w.heap.size ≤ w'.heap.size
  block : ∀ k, k < w.heap.size → k ∉ F → w'.heap[k]? = w.heap[k]?
theorem Chg.refl (F : List Nat) (w : World) : Chg F w w := ⟨rfl, rfl, rfl, Nat.le_refl _, fun _ _ _ => rfl⟩
theorem Chg.trans {F : List Nat} {a b c : World} (h : Chg F a b) (k : Chg F b c) : Chg F a c :=
  ⟨k.os.trans h.os, k.tape.trans h.tape, k.output.trans h.output, Nat.le_trans h.size k.size, fun i hi hF => (k.block i (Nat.lt_of_lt_of_le hi h.size) hF).trans (h.block i hi hF)⟩
theorem Chg.mono {F G : List Nat} {a b : World} (h : Chg F a b) (hs : ∀ x ∈ F, x ∈ G) : Chg G a b :=
  ⟨h.os, h.tape, h.output, h.size, fun i hi hF => h.block i hi (fun hx => hF (hs i hx))⟩
theorem Chg.of_below' {w w' : World} (h : Below w.heap.size w w') (F : List Nat) : Chg F w w' := ⟨h.os, h.tape, h.output, h.size, fun i hi _ => h.block i hi⟩
theorem Chg.setCell {F : List Nat} {a w : World} (h : Chg F a w) {p : Addr} (hp : p.block ∈ F) (u : Value) : Chg F a (w.setCell p u) :=
  h.trans ⟨rfl, rfl, rfl, by simp [World.setCell], fun k hk hF => Below.heap_setCell _ _ _ _ (by rintro rfl; exact hF hp)⟩
theorem Chg.then_below {F : List Nat} {a w w' : World} (h : Chg F a w) (hb : Below w.heap.size w w') : Chg F a w' := h.trans (Chg.of_below' hb F)
theorem Chg.of_below {w w' : World} (h : Below w.heap.size w w') (F : List Nat) : Chg F w w' := ⟨h.os, h.tape, h.output, h.size, fun i hi _ => h.block i hi⟩
theorem Chg.below {F : List Nat} {w w' : World} (h : Chg F w w') {B : Nat} (hB : B ≤ w.heap.size) (hF : ∀ x ∈ F, B ≤ x) : Below B w w' :=
  ⟨h.os, h.tape, h.output, h.size, fun i hi => h.block i (by omega) (fun hx => by have := hF i hx; omega)⟩
theorem OwnSl.chg {α : Type} {sz : Nat} {enc : α → List Value} {w w' : World} {v : Value} {xs : List α} {F G : List Nat} (h : OwnSl sz enc w v xs F) (hc : Chg G w w') (hd : ∀ x ∈ F, x ∉ G) : OwnSl sz enc w' v xs F := by
  obtain ⟨p, len, cap, h1, h2, h3, h4, h5⟩ := h
  refine ⟨p, len, cap, h1, h2, h3, h4, ?_⟩
  rcases h5 with h5 | ⟨b, off, e1, e2, e3, e4, e5⟩
  · exact .inl h5
  · have hb := hc.block b e3 (hd b (by rw [e2]; simp))
    have hs := hc.size
    exact .inr ⟨b, off, e1, e2, by omega, fun o => (World.frozen?_of_block (w := w) (a := ⟨b, o, none⟩) hb).trans (e4 o), fun i hi j x hx => (World.cell?_of_block (w := w) (a := ⟨b, _, none⟩) hb).trans (e5 i hi j x hx)⟩
theorem OwnSl.below {α : Type} {sz : Nat} {enc : α → List Value} {w w' : World} {v : Value} {xs : List α} {F : List Nat} (h : OwnSl sz enc w v xs F) (hc : Below w.heap.size w w') : OwnSl sz enc w' v xs F :=
  h.chg (Chg.of_below hc []) (by simp)
theorem OwnSl.lt {α : Type} {sz : Nat} {enc : α → List Value} {w : World} {v : Value} {xs : List α} {F : List Nat} (h : OwnSl sz enc w v xs F) : ∀ x ∈ F, x < w.heap.size := by
  obtain ⟨p, len, cap, h1, h2, h3, h4, h5⟩ := h
  rcases h5 with ⟨_, rfl⟩ | ⟨b, off, e1, e2, e3, e4, e5⟩
  · simp
  · subst e2; simpa using e3
/-- The first k elements' cells stand in L. -/
def Part {α : Type} (sz : Nat) (enc : α → List Value) (xs : List α) (L : List Value) (k : Nat) : Prop :=
  L.length = xs.length * sz ∧ ∀ (i : Nat) (h : i < xs.length), i < k → ∀ j x, (enc xs[i])[j]? = some x → L[i * sz + j]? = some x
def setAt (L : List Value) (o : Nat) : List Value → List Value
  | [] => L
  | v :: vs => setAt (L.set o v) (o + 1) vs
theorem length_setAt (L : List Value) (o : Nat) (vs : List Value) : (setAt L o vs).length = L.length := by
  induction vs generalizing L o with
  | nil => rfl
  | cons v vs ih => unfold setAt; rw [ih]; simp
theorem setAt_out (L : List Value) (o : Nat) (vs : List Value) (i : Nat) (h : i < o ∨ o + vs.length ≤ i) : (setAt L o vs)[i]? = L[i]? := by
  induction vs generalizing L o with
  | nil => rfl
  | cons v vs ih =>
    unfold setAt
    rw [ih _ _ (by simp at h; omega), List.getElem?_set_ne (by simp at h; omega)]
theorem setAt_in (L : List Value) (o : Nat) (vs : List Value) (j : Nat) (hj : j < vs.length) (hl : o + vs.length ≤ L.length) : (setAt L o vs)[o + j]? = vs[j]? := by
  induction vs generalizing L o j with
  | nil => simp at hj
  | cons v vs ih =>
    unfold setAt
    simp at hj hl
    cases j with
    | zero => rw [setAt_out (L.set o v) (o + 1) vs (o + 0) (.inl (by omega)), Nat.add_zero, List.getElem?_set_self (by omega)]; rfl
    | succ j =>
      have := ih (L.set o v) (o + 1) j (by omega) (by simp; omega)
      rw [show o + (j + 1) = o + 1 + j by omega, this]; simp
theorem Part.zero {α : Type} {sz : Nat} {enc : α → List Value} {xs : List α} {L : List Value} (h : L.length = xs.length * sz) : Part sz enc xs L 0 := ⟨h, fun _ _ h => by omega⟩
theorem Part.succ {α : Type} {sz : Nat} {enc : α → List Value} {xs : List α} {L : List Value} {k : Nat} (h : Part sz enc xs L k) (hk : k < xs.length) (hs : ∀ x, (enc x).length = sz) : Part sz enc xs (setAt L (k * sz) (enc xs[k])) (k + 1) := by
  refine ⟨(length_setAt _ _ _).trans h.1, fun i hi hik j x hx => ?_⟩
  have hle : k * sz + sz ≤ xs.length * sz := by rw [← Nat.succ_mul]; exact Nat.mul_le_mul_right _ hk
  by_cases e : i = k
  · subst e
    have hj : j < (enc xs[i]).length := (List.getElem?_eq_some_iff.1 hx).1
    rw [setAt_in _ _ _ _ hj (by rw [hs, h.1]; exact hle)]; exact hx
  · have hlt : i < k := by omega
    have hj : j < sz := by rw [← hs xs[i]]; exact (List.getElem?_eq_some_iff.1 hx).1
    have : i * sz + sz ≤ k * sz := by rw [← Nat.succ_mul]; exact Nat.mul_le_mul_right _ hlt
    rw [setAt_out _ _ _ _ (.inl (by omega))]
    exact h.2 i hi hlt j x hx
theorem set_far (w : World) (b o : Nat) (v : Value) (b' o' : Nat) (h : b ≠ b') : (w.setCell ⟨b, o, none⟩ v).cell? ⟨b', o', none⟩ = w.cell? ⟨b', o', none⟩ :=
  World.cell?_of_block (w := w) (Below.heap_setCell _ _ _ _ (fun e => h e.symm))
theorem set_near (w : World) (b o : Nat) (v : Value) (o' : Nat) (h : o ≠ o') : (w.setCell ⟨b, o, none⟩ v).cell? ⟨b, o', none⟩ = w.cell? ⟨b, o', none⟩ :=
  World.cell?_setCell_other w ⟨b, o, none⟩ ⟨b, o', none⟩ v (by intro e; injection e with _ e2; exact h e2)
theorem set_same (w : World) (b o : Nat) (u v : Value) (h : w.cell? ⟨b, o, none⟩ = some u) : (w.setCell ⟨b, o, none⟩ v).cell? ⟨b, o, none⟩ = some v := World.cell?_setCell_same w ⟨b, o, none⟩ v h
/-- A whole block, its cells as a list. -/
def Blk (w : World) (b : Nat) (T : TypeId) (L : List Value) : Prop := w.heap[b]? = some (.cells L.toArray T (0, 0))
theorem Blk.cell {w : World} {b : Nat} {T : TypeId} {L : List Value} (h : Blk w b T L) (i : Nat) : w.cell? ⟨b, i, none⟩ = L[i]? := by
  unfold Blk at h; simp [World.cell?, h]
theorem Blk.frozen {w : World} {b : Nat} {T : TypeId} {L : List Value} (h : Blk w b T L) (i : Nat) : w.frozen? ⟨b, i, none⟩ = false := by
  unfold Blk at h; simp [World.frozen?, h]
theorem Blk.lt {w : World} {b : Nat} {T : TypeId} {L : List Value} (h : Blk w b T L) : b < w.heap.size := by
  unfold Blk at h; exact (Array.getElem?_eq_some_iff.1 h).1
theorem Blk.below {w w' : World} {b B : Nat} {T : TypeId} {L : List Value} (h : Blk w b T L) (hb : Below B w w') (hB : b < B) : Blk w' b T L := (hb.block b hB).trans h
theorem Blk.set {w : World} {b : Nat} {T : TypeId} {L : List Value} (h : Blk w b T L) (i : Nat) (v : Value) : Blk (w.setCell ⟨b, i, none⟩ v) b T (L.set i v) := by
  unfold Blk at *
  simp [World.setCell, Array.getElem?_modify, h]
theorem Blk.new (w : World) (c : Array Value) (T : TypeId) : Blk (w.alloc (.cells c T)) w.heap.size T c.toList := by
  have : (w.alloc (.cells c T)).heap = w.heap.push (.cells c T) := rfl
  unfold Blk; rw [this]; simp

end Go.Proofs.Ytggpnnoldjpmcaa
namespace Go.Proofs.Ytggpnnoldjpmcaa
open Go.RowKit

end Go.Proofs.Ytggpnnoldjpmcaa
namespace Go.Proofs.Ytggpnnoldjpmcaa
open Go.RowKit

def Gr.need (g : Gr) : Nat := g.ns.length + sumNode g.ns + (g.es.length + sumEdge g.es)
/-- The value of a struct Graph in memory of the call's own, from block lo on; its two slices share none. -/
def Gr.Own (g : Gr) (lo : Nat) (w : World) (v : Value) (F1 F2 : List Nat) : Prop :=
  ∃ a b, v = .agg #[a, b] ∧ OwnSl 2 Nd.cells w a g.ns F1 ∧ OwnSl 4 Ed.cells w b g.es F2 ∧ (∀ x ∈ F1, lo ≤ x) ∧ (∀ x ∈ F2, lo ≤ x) ∧ (∀ x ∈ F1, x ∉ F2)
theorem Gr.Own.at {g : Gr} {lo : Nat} {w : World} {v : Value} {F1 F2 : List Nat} (h : g.Own lo w v F1 F2) : g.At w.heap.size w v := by
  obtain ⟨a, b, h1, h2, h3, _⟩ := h
  exact ⟨a, b, h1, h2.sl, h3.sl⟩
theorem Gr.Own.chg {g : Gr} {lo : Nat} {w w' : World} {v : Value} {F1 F2 G : List Nat} (h : g.Own lo w v F1 F2) (hc : Chg G w w') (h1 : ∀ x ∈ F1, x ∉ G) (h2 : ∀ x ∈ F2, x ∉ G) : g.Own lo w' v F1 F2 := by
  obtain ⟨a, b, e1, e2, e3, e4, e5, e6⟩ := h
  exact ⟨a, b, e1, e2.chg hc h1, e3.chg hc h2, e4, e5, e6⟩
theorem Gr.Own.below {g : Gr} {lo : Nat} {w w' : World} {v : Value} {F1 F2 : List Nat} (h : g.Own lo w v F1 F2) (hc : Below w.heap.size w w') : g.Own lo w' v F1 F2 :=
  h.chg (Chg.of_below hc []) (by simp) (by simp)
theorem Gr.Own.mono {g : Gr} {lo lo' : Nat} {w : World} {v : Value} {F1 F2 : List Nat} (h : g.Own lo w v F1 F2) (hl : lo' ≤ lo) : g.Own lo' w v F1 F2 := by
  obtain ⟨a, b, e1, e2, e3, e4, e5, e6⟩ := h
  exact ⟨a, b, e1, e2, e3, fun x hx => Nat.le_trans hl (e4 x hx), fun x hx => Nat.le_trans hl (e5 x hx), e6⟩
theorem Gr.Own.lt {g : Gr} {lo : Nat} {w : World} {v : Value} {F1 F2 : List Nat} (h : g.Own lo w v F1 F2) : (∀ x ∈ F1, x < w.heap.size) ∧ (∀ x ∈ F2, x < w.heap.size) := by
  obtain ⟨a, b, e1, e2, e3, e4, e5, e6⟩ := h
  exact ⟨e2.lt, e3.lt⟩

end Go.Proofs.Ytggpnnoldjpmcaa
namespace Go.Proofs.Ytggpnnoldjpmcaa
open Go.RowKit

def eqL {α : Type} (f : α → α → Bool) : List α → List α → Bool
  | [], [] => true
  | x :: xs, y :: ys => f x y && eqL f xs ys
  | _, _ => false
theorem eqL_len {α : Type} {f : α → α → Bool} : ∀ {xs ys : List α}, xs.length ≠ ys.length → eqL f xs ys = false
  | [], [], h => absurd rfl h
  | [], _ :: _, _ => rfl
  | _ :: _, [], _ => rfl
  | x :: xs, y :: ys, h => by unfold eqL; rw [eqL_len (by simpa using h)]; simp
theorem eqL_all {α : Type} {f : α → α → Bool} : ∀ {xs ys : List α}, xs.length = ys.length → (∀ i (h : i < xs.length) (h' : i < ys.length), f xs[i] ys[i] = true) → eqL f xs ys = true
  | [], [], _, _ => rfl
  | [], _ :: _, h, _ => by simp at h
  | _ :: _, [], h, _ => by simp at h
  | x :: xs, y :: ys, h, ha => by
    unfold eqL
    rw [show f x y = true from ha 0 (by simp) (by simp), eqL_all (by simpa using h) (fun i h1 h2 => by have := ha (i + 1) (by simpa using h1) (by simpa using h2); simpa using this)]; rfl
theorem eqL_bad {α : Type} {f : α → α → Bool} : ∀ {xs ys : List α} (i : Nat) (h : i < xs.length) (h' : i < ys.length), f xs[i] ys[i] = false → eqL f xs ys = false
  | [], _, _, h, _, _ => by simp at h
  | _ :: _, [], _, _, h, _ => by simp at h
  | x :: xs, y :: ys, 0, _, _, hb => by unfold eqL; rw [show f x y = false from hb]; rfl
  | x :: xs, y :: ys, i + 1, h, h', hb => by unfold eqL; rw [eqL_bad i (by simpa using h) (by simpa using h') (by simpa using hb)]; simp
/-- The first k pairs agree. -/
def AllE {α : Type} (f : α → α → Bool) (xs ys : List α) (k : Nat) : Prop := ∀ i (h : i < xs.length) (h' : i < ys.length), i < k → f xs[i] ys[i] = true
theorem AllE.zero {α : Type} (f : α → α → Bool) (xs ys : List α) : AllE f xs ys 0 := fun _ _ _ h => by omega
theorem AllE.succ {α : Type} {f : α → α → Bool} {xs ys : List α} {k : Nat} (h : AllE f xs ys k) (h1 : k < xs.length) (h2 : k < ys.length) (hc : f xs[k] ys[k] = true) : AllE f xs ys (k + 1) := by
  intro i hi hi' hik
  by_cases e : i = k
  · subst e; exact hc
  · exact h i hi hi' (by omega)
theorem AllE.full {α : Type} {f : α → α → Bool} {xs ys : List α} {k : Nat} (h : AllE f xs ys k) (hk : xs.length ≤ k) (hl : xs.length = ys.length) : eqL f xs ys = true := eqL_all hl fun i a b => h i a b (by omega)
def ndE (x y : Nd) : Bool := (x.l.toList == y.l.toList) && (x.n == y.n)
def edE (x y : Ed) : Bool := (x.f == y.f) && ((x.t == y.t) && ((x.l.toList == y.l.toList) && (x.n == y.n)))
def gs (a b : Gr) : Bool := eqL ndE a.ns b.ns && eqL edE a.es b.es

end Go.Proofs.Ytggpnnoldjpmcaa
namespace Go.Proofs.Ytggpnnoldjpmcaa
open Go.RowKit

/-- A text of one byte. -/
def dg (n : Int) : ByteArray := strOfNums [n]
theorem dg_size (n : Int) : (dg n).size = 1 := rfl
theorem conv_dg (w : World) (n : Int) : (convert 143 9 (.slice (some ⟨w.heap.size, 0, none⟩) 1 1)).run Try.prog (w.alloc (.cells #[.int .u8 n] 5)) = .ok (.string (dg n)) (w.alloc (.cells #[.int .u8 n] 5)) :=
  run_convert_bytes_arg _ 143 5 Try.underlying143 Try.underlying5 w.heap.size 0 1 1 [n] rfl (fun i hi => by
    obtain rfl : i = 0 := by omega
    simp [go_sem]) 9 Try.underlying9
/-- markText's digits: what has been gathered, and what is left. -/
def mtd : Nat → Int → ByteArray → ByteArray
  | 0, _, acc => acc
  | f + 1, k, acc => if 0 < k then mtd f (k / 10) (dg (48 + k % 10) ++ acc) else acc
/-- markText at a number from 1 on. -/
def mt (k : Int) : ByteArray := ⟨#[109]⟩ ++ mtd 20 k ⟨#[]⟩

set_option maxRecDepth 100000 in
set_option maxHeartbeats 1000000 in
theorem markText_any (k : Int) (w : World) (h0 : 1 ≤ k) (h1 : k ≤ 100000000) :
    Calls Try.prog 63 #[.int .i64 k] w fun e w' => e = .returned (.string (mt k)) ∧ Below w.heap.size w w' := by
  have hcv := conv_dg
  have q0 : decide (k ≤ 0) = false := by simp; omega
  go_enter Try.func63, Try.ntmps63
  go_wp2_with fail
  go_loopw [0, 3] (fun kk s wr => ∃ (f : Nat) (q : Int) (acc : ByteArray), f ≤ 9 ∧ kk = .int .i64 q ∧ s = .string acc ∧ 0 ≤ q ∧ q ≤ 100000000 ∧ RowKit.Hid (q < 10 ^ f) ∧ acc.size + f ≤ 9 ∧ RowKit.Hid (mtd (f + 11) q acc = mtd 20 k ⟨#[]⟩) ∧ Below w.heap.size w wr) (fun kk _ _ => (intOf kk).toNat)
  case atStart => exact ⟨9, k, ⟨#[]⟩, Nat.le_refl _, rfl, rfl, by omega, h1, Lib.hid (by omega), by simp [ByteArray.size], Lib.hid rfl, Below.refl _ _⟩
  case round =>
    obtain ⟨f, q, acc, hf, rfl, rfl, hq0, hq2, hq1, hacc, hm, hbw⟩ := hrel
    have hsz := hbw.size
    have HB := Lib.hid hbw
    clear hbw
    by_cases hq : 0 < q
    · have hq1' := hq1.out
      obtain ⟨f', rfl⟩ : ∃ f', f = f' + 1 := by
        cases f with
        | zero => simp at hq1'; omega
        | succ f' => exact ⟨f', rfl⟩
      have hp : (10 : Int) ^ (f' + 1) = 10 ^ f' * 10 := Int.pow_succ _ _
      have HQ := Lib.hid (show q / 10 < 10 ^ f' by rw [hp] at hq1'; omega)
      clear hp hq1'
      have hm' := hm.out
      have HM := Lib.hid (show mtd (f' + 11) (q / 10) (dg (48 + q % 10) ++ acc) = mtd 20 k ⟨#[]⟩ by rw [← hm', show f' + 1 + 11 = (f' + 11) + 1 from by omega]; exact (if_pos hq).symm)
      clear hm'
      have hds : (dg (48 + q % 10)).size ≤ 1 := Nat.le_of_eq (dg_size _)
      have hac : acc.size ≤ 9 := by omega
      go_wp2_with fail
      go_roundw
      case rel => exact ⟨f', q / 10, _, by omega, rfl, rfl, by omega, by omega, HQ, by rw [ByteArray.size_append, dg_size]; omega, HM, HB.out.alloc hsz _⟩
      case measure => simp [intOf]; omega
    · have hm' := hm.out
      have HM := Lib.hid (show mt k = ⟨#[109]⟩ ++ acc by unfold mt; rw [← hm']; unfold mtd; rw [if_neg hq])
      clear hm'
      have hac : acc.size ≤ 9 := by omega
      go_wp2_with fail
      go_ret
      exact ⟨by rw [HM.out]; rfl, HB.out⟩

theorem OwnSl.elem {α : Type} {sz : Nat} {enc : α → List Value} {w : World} {p : Option Addr} {len cap : Nat} {xs : List α} {F : List Nat} (h : OwnSl sz enc w (.slice p len cap) xs F) {k : Nat} (hk : k < xs.length) :
    ∃ b off, p = some ⟨b, off, none⟩ ∧ F = [b] ∧ b < w.heap.size ∧ (∀ o, w.frozen? ⟨b, o, none⟩ = false) ∧ ∀ j x, (enc xs[k])[j]? = some x → w.cell? ⟨b, off + k * sz + j, none⟩ = some x := by
  obtain ⟨p', len', cap', h1, h2, h3, h4, h5⟩ := h
  cases h1
  rcases h5 with ⟨h5, _⟩ | ⟨b, off, e1, e2, e3, e4, e5⟩
  · subst h5; simp at hk
  · exact ⟨b, off, e1, e2, e3, e4, e5 k hk⟩
theorem OwnSl.store {α : Type} {sz : Nat} {enc : α → List Value} {w : World} {b off len cap : Nat} {xs : List α} {F : List Nat} (h : OwnSl sz enc w (.slice (some ⟨b, off, none⟩) len cap) xs F) {k : Nat} (hk : k < xs.length) (hsz : ∀ x, (enc x).length = sz)
    (j : Nat) (hj : j < sz) (y : α) (u : Value) (hy : enc y = (enc xs[k]).set j u) : OwnSl sz enc (w.setCell ⟨b, off + k * sz + j, none⟩ u) (.slice (some ⟨b, off, none⟩) len cap) (xs.set k y) F := by
  obtain ⟨p', len', cap', h1, h2, h3, h4, h5⟩ := h
  cases h1
  refine ⟨_, _, _, rfl, by simpa using h2, h3, h4, ?_⟩
  rcases h5 with ⟨h5, _⟩ | ⟨b', off', e1, e2, e3, e4, e5⟩
  · subst h5; simp at hk
  · cases e1
    refine .inr ⟨b, off, rfl, e2, by simpa using e3, fun o => by simpa [go_sem] using e4 o, fun i hi j' x hx => ?_⟩
    have hi' : i < xs.length := by simpa using hi
    by_cases e : i = k
    · subst e
      rw [List.getElem_set_self, hy] at hx
      by_cases ej : j' = j
      · subst ej
        rw [List.getElem?_set_self (by rw [hsz]; exact hj)] at hx
        cases hx
        have hold := e5 i hi' j' _ (List.getElem?_eq_getElem (by rw [hsz]; exact hj))
        exact set_same _ _ _ _ _ hold
      · rw [List.getElem?_set_ne (fun h => ej h.symm)] at hx
        exact (set_near _ _ _ _ _ (by omega)).trans (e5 i hi' j' x hx)
    · rw [List.getElem_set_ne (fun h => e h.symm)] at hx
      have hj' : j' < sz := by rw [← hsz xs[i]]; exact (List.getElem?_eq_some_iff.1 hx).1
      refine (set_near _ _ _ _ _ ?_).trans (e5 i hi' j' x hx)
      rcases Nat.lt_or_gt_of_ne e with hlt | hlt
      · have : i * sz + sz ≤ k * sz := by rw [← Nat.succ_mul]; exact Nat.mul_le_mul_right _ hlt
        omega
      · have : k * sz + sz ≤ i * sz := by rw [← Nat.succ_mul]; exact Nat.mul_le_mul_right _ hlt
        omega
/-- A list whose first k elements are f's, the others xs'. -/
def half {α : Type} (f : Nat → α) (xs : List α) (k : Nat) : List α := (List.range k).map f ++ xs.drop k
theorem half_zero {α : Type} (f : Nat → α) (xs : List α) : half f xs 0 = xs := by simp [half]
theorem half_length {α : Type} (f : Nat → α) (xs : List α) {k : Nat} (h : k ≤ xs.length) : (half f xs k).length = xs.length := by simp [half]; omega
theorem half_full {α : Type} (f : Nat → α) (xs : List α) : half f xs xs.length = (List.range xs.length).map f := by simp [half]
theorem half_at {α : Type} (f : Nat → α) (xs : List α) {k : Nat} (h : k < xs.length) (h' : k < (half f xs k).length) : (half f xs k)[k] = xs[k] := by
  have e : (half f xs k)[k]? = xs[k]? := by unfold half; rw [List.getElem?_append_right (by simp)]; simp
  rw [List.getElem?_eq_getElem h', List.getElem?_eq_getElem h] at e
  exact Option.some.inj e
theorem OwnSl.restore {α : Type} {sz : Nat} {enc : α → List Value} {w : World} {b off len cap : Nat} {xs : List α} {F : List Nat} {k : Nat} {y : α} (h : OwnSl sz enc w (.slice (some ⟨b, off, none⟩) len cap) (xs.set k y) F) (hk : k < xs.length) (hsz : ∀ x, (enc x).length = sz)
    (j : Nat) (hj : j < sz) (y' : α) (u : Value) (hy : enc y' = (enc y).set j u) : OwnSl sz enc (w.setCell ⟨b, off + k * sz + j, none⟩ u) (.slice (some ⟨b, off, none⟩) len cap) (xs.set k y') F := by
  have := h.store (k := k) (by simpa using hk) hsz j hj y' u (by rw [List.getElem_set_self]; exact hy)
  rwa [List.set_set] at this
theorem OwnSl.restore1 {α : Type} {enc : α → List Value} {w : World} {b off len cap : Nat} {xs : List α} {F : List Nat} {k : Nat} {y : α} (h : OwnSl 1 enc w (.slice (some ⟨b, off, none⟩) len cap) (xs.set k y) F) (hk : k < xs.length) (hsz : ∀ x, (enc x).length = 1)
    (y' : α) (u : Value) (hy : enc y' = (enc y).set 0 u) : OwnSl 1 enc (w.setCell ⟨b, off + k, none⟩ u) (.slice (some ⟨b, off, none⟩) len cap) (xs.set k y') F := by
  have := h.restore hk hsz 0 (by decide) y' u hy
  rwa [Nat.mul_one, Nat.add_zero] at this
theorem OwnSl.setcell {α : Type} {sz : Nat} {enc : α → List Value} {w : World} {b off len cap : Nat} {xs : List α} {F : List Nat} {k : Nat} {y : α} (h : OwnSl sz enc w (.slice (some ⟨b, off, none⟩) len cap) (xs.set k y) F) (hk : k < xs.length) {j : Nat} {x : Value} (hx : (enc y)[j]? = some x) :
    w.cell? ⟨b, off + k * sz + j, none⟩ = some x ∧ w.frozen? ⟨b, off + k * sz + j, none⟩ = false := by
  obtain ⟨b', off', e1, e2, e3, e4, e5⟩ := h.elem (k := k) (by simpa using hk)
  cases e1
  exact ⟨e5 j x (by rw [List.getElem_set_self]; exact hx), e4 _⟩
theorem half_succ {α : Type} (f : Nat → α) (xs : List α) {k : Nat} (h : k < xs.length) : (half f xs k).set k (f k) = half f xs (k + 1) := by
  unfold half
  rw [List.set_append_right _ _ (by simp), List.range_succ, List.map_append, List.append_assoc]
  simp only [List.length_map, List.length_range, Nat.sub_self]
  rw [List.drop_eq_getElem_cons h]; rfl

def intCells (n : Int) : List Value := [.int .i64 n]

def mkNode (m : Int) (k : Nat) : Nd := ⟨mt (m + 2 * k), (m + 2 * k + 1)⟩

def mkEdge (m : Int) (k : Nat) : Ed := ⟨(m + 4 * k), (m + 4 * k + 1), mt (m + 4 * k + 1 + 1), (m + 4 * k + 1 + 1 + 1)⟩

def mkInt (m : Int) (k : Nat) : Int := m + k

set_option maxRecDepth 100000 in
set_option maxHeartbeats 2000000 in
theorem markIntS_any (xs : List Int) (v : Value) (F : List Nat) (m : Int) (w : World) (hv : OwnSl 1 intCells w v xs F) (hm : 1 ≤ m) (hb : m + xs.length ≤ 100000000) :
    Calls Try.prog 64 #[v, .int .i64 m] w fun e w' => e = .returned (.int .i64 (m + xs.length)) ∧ OwnSl 1 intCells w' v ((List.range xs.length).map (mkInt m)) F ∧ Chg F w w' := by
  obtain ⟨p, cap, rfl⟩ := hv.sl.form
  go_enter Try.func64, Try.ntmps64
  go_wp2_with fail
  go_loopw [1, 5] (fun kk i wr => ∃ k : Nat, k ≤ xs.length ∧ i = .int .i64 k ∧ kk = .int .i64 (m + (k : Int)) ∧ OwnSl 1 intCells wr (.slice p xs.length cap) (half (mkInt m) xs k) F ∧ Chg F w wr) (fun _ i _ => xs.length - (intOf i).toNat)
  case atStart => exact ⟨0, Nat.zero_le _, rfl, by simp, by rw [half_zero]; exact hv, Chg.refl _ _⟩
  case round =>
    obtain ⟨k, hk, rfl, rfl, hown, hch⟩ := hrel
    have HC := Lib.hid hch
    clear hch
    by_cases hlt : k < xs.length
    · skip
      obtain ⟨b, off, rfl, rfl, hbb, hfz, hcells⟩ := hown.elem (k := k) (by rw [half_length _ _ hk]; exact hlt)
      have own0 : OwnSl 1 intCells wr (.slice (some ⟨b, off, none⟩) xs.length cap) ((half (mkInt m) xs k).set k xs[k]) [b] := by
        have e := half_at (mkInt m) xs hlt (by rw [half_length _ _ hk]; exact hlt)
        rw [← e, List.set_getElem_self]; exact hown
      have hlen := half_length (mkInt m) xs hk
      obtain ⟨x, ex⟩ : ∃ x, x = xs[k] := ⟨_, rfl⟩
      rw [← ex] at own0
      clear ex hcells hown
      have HL := Lib.hid (show k < (half (mkInt m) xs k).length by rw [hlen]; exact hlt)
      clear hlen
      have OW := Lib.hid own0
      clear own0
      have cz0 := OW.out.setcell HL.out (j := 0) (x := .int .i64 x) rfl
      simp only [Nat.mul_one, Nat.add_zero] at cz0
      obtain ⟨c0, z0⟩ := cz0
      go_wp2_with fail
      go_roundw
      case rel => exact ⟨k + 1, by omega, by go_num, congrArg (Value.int .i64) (by omega), (by rw [← half_succ _ _ hlt]; exact ((OW.out).restore1 HL.out (fun _ => rfl) (m + (k : Int)) (.int .i64 ((m + (k : Int)))) rfl)), ((HC.out).setCell (p := ⟨b, off + k, none⟩) (by simp) (.int .i64 ((m + (k : Int)))))⟩
      case measure => simp [intOf]; omega
    · obtain rfl : k = xs.length := by omega
      rw [half_full] at hown
      have HO := Lib.hid hown
      clear hown
      go_wp2_with fail
      go_ret
      exact ⟨rfl, HO.out, HC.out⟩
end Go.Proofs.Ytggpnnoldjpmcaa
namespace Go.Proofs.Ytggpnnoldjpmcaa
open Go.RowKit

/-- A kind of data: how many cells; that cells read as an x, all behind them in blocks below B; that they are an x whose memory behind is a call's own, in the blocks F. -/
structure Kd (α : Type) where
  sz : Nat
  rd : Nat → World → α → List Value → Prop
  ow : World → α → List Value → List Nat → Prop
  rd_len : ∀ {B w x cs}, rd B w x cs → cs.length = sz
  rd_to : ∀ {B B' w w' x cs}, rd B w x cs → Below B w w' → B ≤ B' → rd B' w' x cs
  ow_rd : ∀ {w x cs F}, ow w x cs F → rd w.heap.size w x cs
  ow_chg : ∀ {w w' x cs F G}, ow w x cs F → Chg G w w' → (∀ y ∈ F, y ∉ G) → ow w' x cs F
  ow_lt : ∀ {w x cs F}, ow w x cs F → ∀ y ∈ F, y < w.heap.size

namespace Kd
variable {α β : Type}
/-- A slice that reads as xs. -/
def Rd (K : Kd α) (B : Nat) (w : World) (v : Value) (xs : List α) : Prop :=
  ∃ (p : Option Addr) (cap : Nat), v = .slice p xs.length cap ∧ xs.length ≤ cap ∧ cap ≤ maxLen ∧
    ∀ (i : Nat) (h : i < xs.length), ∃ b off cs, p = some ⟨b, off, none⟩ ∧ b < B ∧ (∀ j u, cs[j]? = some u → w.cell? ⟨b, off + i * K.sz + j, none⟩ = some u) ∧ K.rd B w xs[i] cs
/-- Memory of a call's own for the elements of a row, by their places: cells c, blocks Fs. -/
def ORow (K : Kd α) (w : World) : List α → (Nat → Option Value) → List Nat → Prop
  | [], _, F => F = []
  | x :: xs, c, F => ∃ cs F1 F2, F = F1 ++ F2 ∧ (∀ y ∈ F1, y ∉ F2) ∧ (∀ j u, cs[j]? = some u → c j = some u) ∧ K.ow w x cs F1 ∧ ORow K w xs (fun i => c (i + K.sz)) F2
/-- A slice that is xs in memory of a call's own. -/
def Ow (K : Kd α) (w : World) (v : Value) (xs : List α) (F : List Nat) : Prop :=
  ∃ (p : Option Addr) (cap : Nat), v = .slice p xs.length cap ∧ xs.length ≤ cap ∧ cap ≤ maxLen ∧
    ((xs = [] ∧ F = []) ∨ ∃ b off F', p = some ⟨b, off, none⟩ ∧ F = b :: F' ∧ b ∉ F' ∧ b < w.heap.size ∧ (∀ o, w.frozen? ⟨b, o, none⟩ = false) ∧ K.ORow w xs (fun i => w.cell? ⟨b, off + i, none⟩) F')

theorem Rd.to {K : Kd α} {B B' : Nat} {w w' : World} {v : Value} {xs : List α} (h : K.Rd B w v xs) (hb : Below B w w') (hB : B ≤ B') : K.Rd B' w' v xs := by
  obtain ⟨p, cap, h1, h2, h3, h4⟩ := h
  refine ⟨p, cap, h1, h2, h3, fun i hi => ?_⟩
  obtain ⟨b, off, cs, e, hl, hc, hr⟩ := h4 i hi
  exact ⟨b, off, cs, e, by omega, fun j u hu => keepc hb hl (hc j u hu), K.rd_to hr hb hB⟩
theorem Rd.form {K : Kd α} {B : Nat} {w : World} {v : Value} {xs : List α} (h : K.Rd B w v xs) : ∃ p cap, v = .slice p xs.length cap := by
  obtain ⟨p, cap, h1, _⟩ := h; exact ⟨p, cap, h1⟩
theorem Rd.max {K : Kd α} {B : Nat} {w : World} {p : Option Addr} {n cap : Nat} {xs : List α} (h : K.Rd B w (.slice p n cap) xs) : n = xs.length ∧ n ≤ cap ∧ cap ≤ maxLen := by
  obtain ⟨p', cap', h1, h2, h3, _⟩ := h
  cases h1; exact ⟨rfl, h2, h3⟩
theorem Rd.get {K : Kd α} {B : Nat} {w : World} {p : Option Addr} {n cap : Nat} {xs : List α} (h : K.Rd B w (.slice p n cap) xs) {k : Nat} (hk : k < xs.length) :
    ∃ b off cs, p = some ⟨b, off, none⟩ ∧ b < B ∧ (∀ j u, cs[j]? = some u → w.cell? ⟨b, off + k * K.sz + j, none⟩ = some u) ∧ K.rd B w xs[k] cs := by
  obtain ⟨p', cap', h1, h2, h3, h4⟩ := h
  cases h1; exact h4 k hk
theorem Rd.nil {K : Kd α} {B : Nat} {w : World} {p : Option Addr} {cap : Nat} (h : cap ≤ maxLen) : K.Rd B w (.slice p 0 cap) [] := ⟨p, cap, rfl, Nat.zero_le _, h, fun i hi => by simp at hi⟩

theorem ORow.lt {K : Kd α} {w : World} : ∀ {xs : List α} {c : Nat → Option Value} {F : List Nat}, K.ORow w xs c F → ∀ y ∈ F, y < w.heap.size
  | [], _, _, h, y, hy => by cases h; simp at hy
  | x :: xs, c, F, h, y, hy => by
    obtain ⟨cs, F1, F2, rfl, _, _, h1, h2⟩ := h
    rcases List.mem_append.1 hy with hy | hy
    · exact K.ow_lt h1 y hy
    · exact h2.lt y hy
theorem ORow.chg {K : Kd α} {w w' : World} {G : List Nat} (hc : Chg G w w') : ∀ {xs : List α} {c c' : Nat → Option Value} {F : List Nat}, K.ORow w xs c F → (∀ y ∈ F, y ∉ G) → (∀ i, i < xs.length * K.sz → c' i = c i) → K.ORow w' xs c' F
  | [], _, _, _, h, _, _ => h
  | x :: xs, c, c', F, h, hd, hcc => by
    obtain ⟨cs, F1, F2, rfl, hdj, h0, h1, h2⟩ := h
    have hl := K.rd_len (K.ow_rd h1)
    refine ⟨cs, F1, F2, rfl, hdj, fun j u hu => ?_, K.ow_chg h1 hc (fun y hy => hd y (List.mem_append_left _ hy)), h2.chg hc (fun y hy => hd y (List.mem_append_right _ hy)) fun i hi => hcc (i + K.sz) ?_⟩
    · have : j < cs.length := (List.getElem?_eq_some_iff.1 hu).1
      rw [hcc j (by rw [List.length_cons, Nat.add_mul]; omega)]
      exact h0 j u hu
    · rw [List.length_cons, Nat.add_mul]; omega
/-- An element of a row. -/
theorem ORow.get {K : Kd α} {w : World} : ∀ {xs : List α} {c : Nat → Option Value} {F : List Nat}, K.ORow w xs c F → ∀ (k : Nat) (hk : k < xs.length), ∃ cs F1, (∀ y ∈ F1, y ∈ F) ∧ (∀ j u, cs[j]? = some u → c (k * K.sz + j) = some u) ∧ K.ow w xs[k] cs F1
  | [], _, _, _, k, hk => by simp at hk
  | x :: xs, c, F, h, k, hk => by
    obtain ⟨cs, F1, F2, rfl, hdj, h0, h1, h2⟩ := h
    cases k with
    | zero => exact ⟨cs, F1, fun y hy => List.mem_append_left _ hy, fun j u hu => by rw [Nat.zero_mul, Nat.zero_add]; exact h0 j u hu, h1⟩
    | succ k =>
      obtain ⟨cs', F', g1, g2, g3⟩ := h2.get k (by simpa using hk)
      refine ⟨cs', F', fun y hy => List.mem_append_right _ (g1 y hy), fun j u hu => ?_, by simpa using g3⟩
      have := g2 j u hu
      rw [show (k + 1) * K.sz + j = k * K.sz + j + K.sz by rw [Nat.add_mul]; omega]
      exact this
theorem orow_app {K : Kd α} {w : World} : ∀ {xs ys : List α} {c : Nat → Option Value} {F : List Nat}, K.ORow w (xs ++ ys) c F ↔ ∃ F1 F2, F = F1 ++ F2 ∧ (∀ y ∈ F1, y ∉ F2) ∧ K.ORow w xs c F1 ∧ K.ORow w ys (fun i => c (i + xs.length * K.sz)) F2
  | [], ys, c, F => by
    constructor
    · intro h; exact ⟨[], F, rfl, by simp, rfl, by simpa using h⟩
    · rintro ⟨F1, F2, rfl, _, rfl, h⟩; simpa using h
  | x :: xs, ys, c, F => by
    have e : ∀ i, i + (xs.length + 1) * K.sz = i + xs.length * K.sz + K.sz := fun i => by rw [Nat.add_mul]; omega
    constructor
    · rintro ⟨cs, F1, F2, rfl, hdj, h0, h1, h2⟩
      obtain ⟨F3, F4, rfl, hd2, h3, h4⟩ := orow_app.1 h2
      refine ⟨F1 ++ F3, F4, by simp, fun y hy => ?_, ⟨cs, F1, F3, rfl, fun y hy hm => hdj y hy (List.mem_append_left _ hm), h0, h1, h3⟩, ?_⟩
      · rcases List.mem_append.1 hy with hy | hy
        · exact fun hm => hdj y hy (List.mem_append_right _ hm)
        · exact hd2 y hy
      · simpa only [List.length_cons, e] using h4
    · rintro ⟨F1, F4, rfl, hdj, ⟨cs, F2, F3, rfl, hd2, h0, h1, h2⟩, h4⟩
      refine ⟨cs, F2, F3 ++ F4, by simp, fun y hy hm => ?_, h0, h1, orow_app.2 ⟨F3, F4, rfl, fun y hy hm => hdj y (List.mem_append_right _ hy) hm, h2, by simpa only [List.length_cons, e] using h4⟩⟩
      rcases List.mem_append.1 hm with hm | hm
      · exact hd2 y hy hm
      · exact hdj y (List.mem_append_left _ hy) hm

theorem Ow.rd {K : Kd α} {w : World} {v : Value} {xs : List α} {F : List Nat} (h : K.Ow w v xs F) : K.Rd w.heap.size w v xs := by
  obtain ⟨p, cap, h1, h2, h3, h4⟩ := h
  refine ⟨p, cap, h1, h2, h3, fun i hi => ?_⟩
  rcases h4 with ⟨rfl, _⟩ | ⟨b, off, F', e, rfl, hn, hlt, hf, ho⟩
  · simp at hi
  · obtain ⟨cs, F1, g1, g2, g3⟩ := ho.get i hi
    exact ⟨b, off, cs, e, hlt, fun j u hu => by rw [Nat.add_assoc]; exact g2 j u hu, K.ow_rd g3⟩
theorem Ow.lt {K : Kd α} {w : World} {v : Value} {xs : List α} {F : List Nat} (h : K.Ow w v xs F) : ∀ y ∈ F, y < w.heap.size := by
  obtain ⟨p, cap, h1, h2, h3, h4⟩ := h
  rcases h4 with ⟨_, rfl⟩ | ⟨b, off, F', e, rfl, hn, hlt, hf, ho⟩
  · simp
  · intro y hy
    rcases List.mem_cons.1 hy with rfl | hy
    · exact hlt
    · exact ho.lt y hy
theorem Ow.chg {K : Kd α} {w w' : World} {v : Value} {xs : List α} {F G : List Nat} (h : K.Ow w v xs F) (hc : Chg G w w') (hd : ∀ y ∈ F, y ∉ G) : K.Ow w' v xs F := by
  obtain ⟨p, cap, h1, h2, h3, h4⟩ := h
  refine ⟨p, cap, h1, h2, h3, ?_⟩
  rcases h4 with h4 | ⟨b, off, F', e, rfl, hn, hlt, hf, ho⟩
  · exact .inl h4
  · have hb : b ∉ G := hd b (by simp)
    have hbl := hc.block b hlt hb
    refine .inr ⟨b, off, F', e, rfl, hn, Nat.lt_of_lt_of_le hlt hc.size, fun o => ?_, ho.chg hc (fun y hy => hd y (List.mem_cons_of_mem _ hy)) fun i _ => ?_⟩
    · exact (World.frozen?_of_block (w := w) (a := ⟨b, o, none⟩) hbl).trans (hf o)
    · exact World.cell?_of_block (w := w) (a := ⟨b, off + i, none⟩) hbl
theorem Ow.form {K : Kd α} {w : World} {v : Value} {xs : List α} {F : List Nat} (h : K.Ow w v xs F) : ∃ p cap, v = .slice p xs.length cap := by
  obtain ⟨p, cap, h1, _⟩ := h; exact ⟨p, cap, h1⟩
theorem Ow.below {K : Kd α} {w w' : World} {v : Value} {xs : List α} {F : List Nat} (h : K.Ow w v xs F) (hb : Below w.heap.size w w') : K.Ow w' v xs F := h.chg (Chg.of_below hb []) (by simp)

/-- A row as a part of an element: one cell. -/
def row (K : Kd α) : Kd (List α) where
  sz := 1
  rd B w xs cs := ∃ v, cs = [v] ∧ K.Rd B w v xs
  ow w xs cs F := ∃ v, cs = [v] ∧ K.Ow w v xs F
  rd_len := by rintro _ _ _ _ ⟨v, rfl, _⟩; rfl
  rd_to := by rintro _ _ _ _ _ _ ⟨v, rfl, h⟩ hb hB; exact ⟨v, rfl, h.to hb hB⟩
  ow_rd := by rintro _ _ _ _ ⟨v, rfl, h⟩; exact ⟨v, rfl, h.rd⟩
  ow_chg := by rintro _ _ _ _ _ _ ⟨v, rfl, h⟩ hc hd; exact ⟨v, rfl, h.chg hc hd⟩
  ow_lt := by rintro _ _ _ _ ⟨v, rfl, h⟩; exact h.lt
/-- A value without anything behind it: one cell. -/
def one (f : α → Value) : Kd α where
  sz := 1
  rd _ _ x cs := cs = [f x]
  ow _ x cs F := cs = [f x] ∧ F = []
  rd_len := by rintro _ _ _ _ rfl; rfl
  rd_to := by intro _ _ _ _ _ _ h _ _; exact h
  ow_rd := by rintro _ _ _ _ ⟨h, _⟩; exact h
  ow_chg := by intro _ _ _ _ _ _ h _ _; exact h
  ow_lt := by rintro _ _ _ _ ⟨_, rfl⟩; simp
/-- Two kinds one behind the other. -/
def and (K : Kd α) (L : Kd β) : Kd (α × β) where
  sz := K.sz + L.sz
  rd B w x cs := ∃ c d, cs = c ++ d ∧ K.rd B w x.1 c ∧ L.rd B w x.2 d
  ow w x cs F := ∃ c d F1 F2, cs = c ++ d ∧ F = F1 ++ F2 ∧ (∀ y ∈ F1, y ∉ F2) ∧ K.ow w x.1 c F1 ∧ L.ow w x.2 d F2
  rd_len := by rintro _ _ _ _ ⟨c, d, rfl, h1, h2⟩; rw [List.length_append, K.rd_len h1, L.rd_len h2]
  rd_to := by rintro _ _ _ _ _ _ ⟨c, d, rfl, h1, h2⟩ hb hB; exact ⟨c, d, rfl, K.rd_to h1 hb hB, L.rd_to h2 hb hB⟩
  ow_rd := by rintro _ _ _ _ ⟨c, d, _, _, rfl, rfl, _, h1, h2⟩; exact ⟨c, d, rfl, K.ow_rd h1, L.ow_rd h2⟩
  ow_chg := by
    rintro _ _ _ _ _ _ ⟨c, d, F1, F2, rfl, rfl, hdj, h1, h2⟩ hc hd
    exact ⟨c, d, F1, F2, rfl, rfl, hdj, K.ow_chg h1 hc (fun y hy => hd y (List.mem_append_left _ hy)), L.ow_chg h2 hc (fun y hy => hd y (List.mem_append_right _ hy))⟩
  ow_lt := by
    rintro _ _ _ _ ⟨c, d, F1, F2, rfl, rfl, _, h1, h2⟩ y hy
    rcases List.mem_append.1 hy with hy | hy
    · exact K.ow_lt h1 y hy
    · exact L.ow_lt h2 y hy
/-- The same kind, of other data. -/
def via (K : Kd α) (f : β → α) : Kd β where
  sz := K.sz
  rd B w x cs := K.rd B w (f x) cs
  ow w x cs F := K.ow w (f x) cs F
  rd_len := K.rd_len
  rd_to := K.rd_to
  ow_rd := K.ow_rd
  ow_chg := K.ow_chg
  ow_lt := K.ow_lt
end Kd
def kInt : Kd Int := Kd.one (.int .i64 ·)
def kStr : Kd ByteArray := Kd.one (.string ·)
def kBool : Kd Bool := Kd.one (.bool ·)
/-- Lists of ints: as they were. -/
theorem kInt_rd {B : Nat} {w : World} {v : Value} {xs : List Int} : kInt.Rd B w v xs ↔ Sl 1 intCells B w v xs := by
  constructor
  · rintro ⟨p, cap, h1, h2, h3, h4⟩
    refine ⟨p, _, cap, h1, rfl, h2, h3, fun i hi => ?_⟩
    obtain ⟨b, off, cs, e, hl, hc, rfl⟩ := h4 i hi
    exact ⟨b, off, e, hl, hc⟩
  · rintro ⟨p, len, cap, h1, rfl, h2, h3, h4⟩
    refine ⟨p, cap, h1, h2, h3, fun i hi => ?_⟩
    obtain ⟨b, off, e, hl, hc⟩ := h4 i hi
    exact ⟨b, off, _, e, hl, hc, rfl⟩
theorem kInt_orow {w : World} : ∀ {xs : List Int} {c : Nat → Option Value} {F : List Nat}, kInt.ORow w xs c F ↔ F = [] ∧ ∀ i (h : i < xs.length), c i = some (.int .i64 xs[i])
  | [], c, F => by
    constructor
    · intro h; exact ⟨h, fun i hi => by simp at hi⟩
    · intro h; exact h.1
  | x :: xs, c, F => by
    constructor
    · rintro ⟨cs, F1, F2, rfl, _, h0, ⟨rfl, rfl⟩, h2⟩
      obtain ⟨rfl, h3⟩ := kInt_orow.1 h2
      refine ⟨rfl, fun i hi => ?_⟩
      cases i with
      | zero => exact h0 0 _ rfl
      | succ i => exact h3 i (by simpa using hi)
    · rintro ⟨rfl, h⟩
      refine ⟨[.int .i64 x], [], [], rfl, by simp, fun j u hu => ?_, ⟨rfl, rfl⟩, kInt_orow.2 ⟨rfl, fun i hi => ?_⟩⟩
      · cases j with
        | zero => simp at hu; subst hu; exact h 0 (by simp)
        | succ j => simp at hu
      · exact h (i + 1) (by simpa using hi)
theorem kInt_ow {w : World} {v : Value} {xs : List Int} {F : List Nat} : kInt.Ow w v xs F ↔ OwnSl 1 intCells w v xs F := by
  constructor
  · rintro ⟨p, cap, h1, h2, h3, h4⟩
    refine ⟨p, _, cap, h1, rfl, h2, h3, ?_⟩
    rcases h4 with ⟨rfl, rfl⟩ | ⟨b, off, F', e, rfl, hn, hlt, hf, ho⟩
    · exact .inl ⟨rfl, rfl⟩
    · obtain ⟨rfl, h5⟩ := kInt_orow.1 ho
      refine .inr ⟨b, off, e, rfl, hlt, hf, fun i hi j x hx => ?_⟩
      cases j with
      | zero => simp [intCells] at hx; subst hx; simpa using h5 i hi
      | succ j => simp [intCells] at hx
  · rintro ⟨p, len, cap, h1, rfl, h2, h3, h4⟩
    refine ⟨p, cap, h1, h2, h3, ?_⟩
    rcases h4 with ⟨rfl, rfl⟩ | ⟨b, off, e, rfl, hlt, hf, h5⟩
    · exact .inl ⟨rfl, rfl⟩
    · refine .inr ⟨b, off, [], e, rfl, by simp, hlt, hf, kInt_orow.2 ⟨rfl, fun i hi => ?_⟩⟩
      have := h5 i hi 0 _ rfl
      simpa using this
end Go.Proofs.Ytggpnnoldjpmcaa
namespace Go.Proofs.Ytggpnnoldjpmcaa
open Go.RowKit

/-- The first k of a row lie in the block b. -/
def KInv {α : Type} (K : Kd α) (xs : List α) (T : TypeId) (b : Nat) (k : Nat) (wr : World) : Prop :=
  ∃ (L : List Value) (F : List Nat), L.length = xs.length * K.sz ∧ K.ORow wr (xs.take k) (fun i => L[i]?) F ∧ (∀ y ∈ F, b < y) ∧ Blk wr b T L
section
variable {α : Type} {K : Kd α} {xs : List α} {T : TypeId} {b k : Nat} {wr w1 w2 : World}
theorem KInv.zero {L : List Value} (hL : L.length = xs.length * K.sz) (hb : Blk wr b T L) : KInv K xs T b 0 wr := ⟨L, [], hL, by simp [Kd.ORow], by simp, hb⟩
theorem KInv.lt (h : KInv K xs T b k wr) : b < wr.heap.size := by
  obtain ⟨L, F, _, _, _, h6⟩ := h; exact h6.lt
theorem KInv.cells (h : KInv K xs T b k wr) (i : Nat) (hi : i < xs.length * K.sz) : (∃ x, wr.cell? ⟨b, i, none⟩ = some x) ∧ wr.frozen? ⟨b, i, none⟩ = false := by
  obtain ⟨L, F, h3, _, _, h6⟩ := h
  exact ⟨⟨_, (h6.cell i).trans (List.getElem?_eq_getElem (by omega))⟩, h6.frozen i⟩
/-- What a store of an element does to the block: its cells, and the others stay. -/
def Stores (T : TypeId) (b o n : Nat) (cs : List Value) (w1 w2 : World) : Prop :=
  Chg [b] w1 w2 ∧ ∀ L, Blk w1 b T L → o + n ≤ L.length → ∃ L', Blk w2 b T L' ∧ L'.length = L.length ∧ (∀ i, i < o ∨ o + n ≤ i → L'[i]? = L[i]?) ∧ ∀ j u, cs[j]? = some u → L'[o + j]? = some u
theorem KInv.step (h : KInv K xs T b k wr) (hk : k < xs.length) (hb : Below wr.heap.size wr w1) {cs : List Value} {F' : List Nat} (ho : K.ow w1 xs[k] cs F') (hF : ∀ y ∈ F', wr.heap.size ≤ y) (hs : Stores T b (k * K.sz) K.sz cs w1 w2) :
    KInv K xs T b (k + 1) w2 := by
  have hlt := h.lt
  obtain ⟨L, F, h1, h2, h3, h4⟩ := h
  have hsz : k * K.sz + K.sz ≤ xs.length * K.sz := by rw [← Nat.succ_mul]; exact Nat.mul_le_mul_right _ hk
  obtain ⟨L', g1, g2, g3, g4⟩ := hs.2 L (h4.below hb hlt) (by omega)
  have hch0 : Chg [b] wr w2 := (Chg.of_below hb _).trans hs.1
  refine ⟨L', F ++ F', by omega, ?_, ?_, g1⟩
  · rw [List.take_succ_eq_append_getElem hk]
    have htl : (xs.take k).length = k := by simp; omega
    refine Kd.orow_app.2 ⟨F, F', rfl, fun y hy hy2 => ?_, h2.chg hch0 (fun y hy => by have := h3 y hy; simp; omega) fun i hi => ?_, ?_⟩
    · have := h2.lt y hy; have := hF y hy2; omega
    · rw [htl] at hi
      exact g3 i (.inl hi)
    · rw [htl]
      refine ⟨cs, F', [], by simp, by simp, fun j u hu => ?_, K.ow_chg ho hs.1 (fun y hy => by have := hF y hy; simp; omega), rfl⟩
      show L'[j + k * K.sz]? = some u
      rw [Nat.add_comm]
      exact g4 j u hu
  · intro y hy
    rcases List.mem_append.1 hy with hy | hy
    · exact h3 y hy
    · have := hF y hy; omega
theorem KInv.done (h : KInv K xs T b xs.length wr) (hm : xs.length ≤ maxLen) : ∃ F, K.Ow wr (.slice (some ⟨b, 0, none⟩) xs.length xs.length) xs F ∧ ∀ y ∈ F, b ≤ y := by
  obtain ⟨L, F, h1, h2, h3, h4⟩ := h
  rw [List.take_length] at h2
  by_cases he : xs = []
  · exact ⟨[], ⟨_, _, rfl, Nat.le_refl _, hm, .inl ⟨he, rfl⟩⟩, by simp⟩
  · refine ⟨b :: F, ⟨_, _, rfl, Nat.le_refl _, hm, .inr ⟨b, 0, F, rfl, rfl, fun hx => by have := h3 b hx; omega, h4.lt, fun o => h4.frozen o, h2.chg (Chg.refl [] wr) (by simp) fun i _ => by rw [Nat.zero_add]; exact h4.cell i⟩⟩, ?_⟩
    intro y hy
    rcases List.mem_cons.1 hy with rfl | hy
    · exact Nat.le_refl _
    · exact Nat.le_of_lt (h3 y hy)
end
/-- Stores of three cells. -/
theorem stores3 {T : TypeId} {b o : Nat} {x y z : Value} {w : World} : Stores T b o 3 [x, y, z] w (((w.setCell ⟨b, o, none⟩ x).setCell ⟨b, o + 1, none⟩ y).setCell ⟨b, o + 2, none⟩ z) := by
  refine ⟨(((Chg.refl _ w).setCell (by simp) _).setCell (by simp) _).setCell (by simp) _, fun L hL hl => ⟨((L.set o x).set (o + 1) y).set (o + 2) z, ((hL.set _ _).set _ _).set _ _, by simp, fun i hi => ?_, fun j u hu => ?_⟩⟩
  · rw [List.getElem?_set_ne (by omega), List.getElem?_set_ne (by omega), List.getElem?_set_ne (by omega)]
  · match j, hu with
    | 0, hu =>
      simp at hu; subst hu
      rw [List.getElem?_set_ne (by omega), List.getElem?_set_ne (by omega), Nat.add_zero, List.getElem?_set_self (by omega)]
    | 1, hu =>
      simp at hu; subst hu
      rw [List.getElem?_set_ne (by omega), List.getElem?_set_self (by simp; omega)]
    | 2, hu =>
      simp at hu; subst hu
      rw [List.getElem?_set_self (by simp; omega)]
    | j + 3, hu => simp at hu
end Go.Proofs.Ytggpnnoldjpmcaa
namespace Go.Proofs.Ytggpnnoldjpmcaa
open Go.RowKit

theorem Sl.it {B : Nat} {w : World} {p : Option Addr} {len cap : Nat} {xs : List Int} (h : Sl 1 intCells B w (.slice p len cap) xs) {k : Nat} (hk : k < xs.length) :
    ∃ b off, p = some ⟨b, off, none⟩ ∧ b < B ∧ w.cell? ⟨b, off + k, none⟩ = some (.int .i64 xs[k]) := by
  obtain ⟨p', len', cap', h1, h2, h3, h4, h5⟩ := h
  cases h1
  obtain ⟨b, off, e1, e2, e3⟩ := h5 k hk
  have := e3 0 _ rfl
  rw [Nat.mul_one, Nat.add_zero] at this
  exact ⟨b, off, e1, e2, this⟩

set_option maxRecDepth 100000 in
set_option maxHeartbeats 2000000 in
theorem heldIntS_any (n : Nat) (v : Value) (m : Int) (B : Nat) (w : World) (hv : Sl 1 intCells B w v ((List.range n).map (mkInt m))) (hB : B ≤ w.heap.size) (hm : 1 ≤ m) (hb : m + (n : Int) ≤ 100000000) :
    Calls Try.prog 65 #[v, .int .i64 m] w fun e w' => e = .returned (.int .i64 (m + (n : Int))) ∧ Below w.heap.size w w' := by
  obtain ⟨p, cap, hve⟩ := hv.form
  rw [show ((List.range n).map (mkInt m)).length = n by simp] at hve
  subst hve
  go_enter Try.func65, Try.ntmps65
  go_wp2_with fail
  go_loopw [1, 5] (fun kk i wr => ∃ k : Nat, k ≤ n ∧ i = .int .i64 k ∧ kk = .int .i64 (m + (k : Int)) ∧ Below w.heap.size w wr) (fun _ i _ => n - (intOf i).toNat)
  case atStart => exact ⟨0, Nat.zero_le _, rfl, by simp, Below.refl _ _⟩
  case round =>
    obtain ⟨k, hk, rfl, rfl, hbw⟩ := hrel
    have hsz := hbw.size
    have HB := Lib.hid hbw
    clear hbw
    by_cases hlt : k < n
    · skip
      obtain ⟨b, off, rfl, hb', c0⟩ := (hv.below (HB.out.mono hB)).it (k := k) (by simpa using hlt)
      rw [show ((List.range n).map (mkInt m))[k]'(by simpa using hlt) = mkInt m k by simp] at c0
      have d0 : wr.cell? ⟨b, off + k, none⟩ = some (.int .i64 ((m + (k : Int)))) := c0
      clear c0
      go_wp2_with fail
      go_roundw
      case rel => exact ⟨k + 1, by omega, by go_num, congrArg (Value.int .i64) (by omega), HB.out⟩
      case measure => simp [intOf]; omega
    · obtain rfl : k = n := by omega
      go_wp2_with fail
      go_ret
      exact ⟨rfl, HB.out⟩
end Go.Proofs.Ytggpnnoldjpmcaa
namespace Go.Proofs.Ytggpnnoldjpmcaa
open Go.RowKit

def Gr.marked (g : Gr) (m : Int) : Gr := ⟨(List.range g.ns.length).map (mkNode m), (List.range g.es.length).map (mkEdge (m + 2 * g.ns.length))⟩

set_option maxRecDepth 100000 in
set_option maxHeartbeats 1000000 in
theorem eqIntS_any (xs : List Int) (v v' : Value) (B : Nat) (w : World) (hv : Sl 1 intCells B w v xs) (hv' : Sl 1 intCells B w v' xs) (hB : B ≤ w.heap.size) :
    Calls Try.prog 85 #[v, v'] w fun e w' => e = .returned (.bool true) ∧ Below w.heap.size w w' := by
  obtain ⟨p, cap, rfl⟩ := hv.form
  obtain ⟨p', cap', rfl⟩ := hv'.form
  have hm := hv.max
  have hm' := hv'.max
  unfold maxLen at hm hm'
  go_enter Try.func85, Try.ntmps85
  go_wp2_with fail
  go_loopw [5] (fun i wr => ∃ k : Nat, k ≤ xs.length ∧ i = .int .i64 k ∧ Below w.heap.size w wr) (fun i _ => xs.length - (intOf i).toNat)
  case atStart => exact ⟨0, Nat.zero_le _, rfl, Below.refl _ _⟩
  case round =>
    obtain ⟨k, hk, rfl, hbw⟩ := hrel
    have hsz := hbw.size
    have HB := Lib.hid hbw
    clear hbw
    by_cases hlt2 : k < xs.length
    · obtain ⟨b, off, rfl, hb, c0⟩ := (hv.below (HB.out.mono hB)).it hlt2
      obtain ⟨b', off', rfl, hb', d0⟩ := (hv'.below (HB.out.mono hB)).it hlt2
      obtain ⟨x, ex⟩ : ∃ x, x = xs[k] := ⟨_, rfl⟩
      rw [← ex] at c0 d0
      clear ex
      go_wp2_with fail
      go_still_tail 8, (by kernel_rfl)
      go_wp2_with fail
      go_roundw
      case rel => exact ⟨k + 1, by omega, by go_num, HB.out.drew⟩
      case measure => simp [intOf]; omega
    · obtain rfl : k = xs.length := by omega
      go_wp2_with fail
      go_ret
      exact ⟨rfl, HB.out⟩
end Go.Proofs.Ytggpnnoldjpmcaa
namespace Go.Proofs.Ytggpnnoldjpmcaa
open Go.RowKit

/-- A row of expressions: none, or one with its parts, and the row behind it. -/
inductive Fo where
  | nil : Fo
  | cons (op : Int) (a : ByteArray) (ks : Fo) (r : Fo) : Fo
structure Ex where
  op : Int
  a : ByteArray
  ks : Fo
def Fo.list : Fo → List Ex
  | .nil => []
  | .cons o a k r => ⟨o, a, k⟩ :: r.list
def Fo.of : List Ex → Fo
  | [] => .nil
  | e :: l => .cons e.op e.a e.ks (Fo.of l)
theorem Fo.list_of (l : List Ex) : (Fo.of l).list = l := by
  induction l with
  | nil => rfl
  | cons e l ih => simp only [Fo.of, Fo.list, ih]
theorem Fo.of_list (f : Fo) : Fo.of f.list = f := by
  induction f with
  | nil => rfl
  | cons o a k r _ ih => simp only [Fo.of, Fo.list, ih]
/-- How many expressions there are, at all levels. -/
def Fo.size : Fo → Nat
  | .nil => 0
  | .cons _ _ k r => k.size + r.size + 1
def Fo.app : Fo → Fo → Fo
  | .nil, g => g
  | .cons o a k r, g => .cons o a k (r.app g)
theorem Fo.list_app (f g : Fo) : (f.app g).list = f.list ++ g.list := by
  induction f with
  | nil => rfl
  | cons o a k r _ ih => simp only [Fo.app, Fo.list, ih]; rfl
theorem Fo.size_app (f g : Fo) : (f.app g).size = f.size + g.size := by
  induction f with
  | nil => simp [Fo.app, Fo.size]
  | cons o a k r _ ih => simp only [Fo.app, Fo.size, ih]; omega
theorem Fo.len_le (f : Fo) : f.list.length ≤ f.size := by
  induction f with
  | nil => exact Nat.le_refl _
  | cons o a k r _ ih => simp only [Fo.list, Fo.size, List.length_cons]; omega
/-- A row parts at each place. -/
theorem Fo.part (f : Fo) (k : Nat) (hk : k < f.list.length) : ∃ (g : Fo) (e : Ex) (h : Fo), f = g.app (.cons e.op e.a e.ks h) ∧ g.list.length = k ∧ e = f.list[k] := by
  induction f generalizing k with
  | nil => simp [Fo.list] at hk
  | cons o a ks r _ ih =>
    cases k with
    | zero => exact ⟨.nil, ⟨o, a, ks⟩, r, rfl, rfl, rfl⟩
    | succ k =>
      obtain ⟨g, e, h, h1, h2, h3⟩ := ih k (by simpa [Fo.list] using hk)
      refine ⟨.cons o a ks g, e, h, by rw [h1]; rfl, by simp [Fo.list, h2], ?_⟩
      rw [h3]; simp [Fo.list]
theorem Fo.size_get (f : Fo) (k : Nat) (hk : k < f.list.length) : f.list[k].ks.size < f.size := by
  obtain ⟨g, e, h, h1, _, h3⟩ := f.part k hk
  rw [← h3]
  have : f.size = (g.app (.cons e.op e.a e.ks h)).size := by rw [← h1]
  rw [this, Fo.size_app]
  simp only [Fo.size]; omega
def Ex.Ok (e : Ex) : Prop := I64 e.op ∧ e.a.size ≤ maxLen
def Fo.Ok : Fo → Prop
  | .nil => True
  | .cons o a k r => I64 o ∧ a.size ≤ maxLen ∧ k.Ok ∧ r.Ok
theorem Fo.ok_get (f : Fo) (h : f.Ok) (k : Nat) (hk : k < f.list.length) : I64 f.list[k].op ∧ f.list[k].a.size ≤ maxLen ∧ f.list[k].ks.Ok := by
  induction f generalizing k with
  | nil => simp [Fo.list] at hk
  | cons o a ks r _ ih =>
    obtain ⟨h1, h2, h3, h4⟩ := h
    cases k with
    | zero => exact ⟨h1, h2, h3⟩
    | succ k => simpa [Fo.list] using ih h4 k (by simpa [Fo.list] using hk)

/-- The row's cells, from a place on; its parts' rows lie below B. -/
def Fo.Row (B : Nat) (w : World) : Fo → Nat → Nat → Prop
  | .nil, _, _ => True
  | .cons o a k r, b, off => w.cell? ⟨b, off, none⟩ = some (.int .i64 o) ∧ w.cell? ⟨b, off + 1, none⟩ = some (.string a) ∧
      (∃ (p : Option Addr) (cap : Nat), w.cell? ⟨b, off + 2, none⟩ = some (.slice p k.list.length cap) ∧ k.list.length ≤ cap ∧ cap ≤ maxLen ∧
        (k.list = [] ∨ ∃ b' off', p = some ⟨b', off', none⟩ ∧ b' < B ∧ Fo.Row B w k b' off')) ∧ Fo.Row B w r b (off + 3)
/-- The slice v reads as the row f. -/
def Fo.In (B : Nat) (w : World) (f : Fo) (v : Value) : Prop :=
  ∃ (p : Option Addr) (cap : Nat), v = .slice p f.list.length cap ∧ f.list.length ≤ cap ∧ cap ≤ maxLen ∧ (f.list = [] ∨ ∃ b off, p = some ⟨b, off, none⟩ ∧ b < B ∧ f.Row B w b off)
theorem Fo.row_cons {B : Nat} {w : World} {o : Int} {a : ByteArray} {k r : Fo} {b off : Nat} :
    (Fo.cons o a k r).Row B w b off ↔ w.cell? ⟨b, off, none⟩ = some (.int .i64 o) ∧ w.cell? ⟨b, off + 1, none⟩ = some (.string a) ∧ (∃ v, w.cell? ⟨b, off + 2, none⟩ = some v ∧ k.In B w v) ∧ r.Row B w b (off + 3) := by
  constructor
  · rintro ⟨h1, h2, ⟨p, cap, h3, h4⟩, h5⟩; exact ⟨h1, h2, ⟨_, h3, p, cap, rfl, h4⟩, h5⟩
  · rintro ⟨h1, h2, ⟨_, h3, p, cap, rfl, h4⟩, h5⟩; exact ⟨h1, h2, ⟨p, cap, h3, h4⟩, h5⟩
theorem Fo.Row.below {B B' : Nat} {w w' : World} (hb : Below B w w') (hB : B ≤ B') {f : Fo} : ∀ {b off : Nat}, b < B → f.Row B w b off → f.Row B' w' b off := by
  induction f with
  | nil => intro b off _ _; trivial
  | cons o a k r ihk ihr =>
    intro b off hlt h
    obtain ⟨h1, h2, ⟨p, cap, h3, h4, h5, h6⟩, h7⟩ := h
    refine ⟨keepc hb hlt h1, keepc hb hlt h2, ⟨p, cap, keepc hb hlt h3, h4, h5, ?_⟩, ihr hlt h7⟩
    rcases h6 with h6 | ⟨b', off', e, hl, h6⟩
    · exact .inl h6
    · exact .inr ⟨b', off', e, by omega, ihk hl h6⟩
theorem Fo.In.below {B B' : Nat} {w w' : World} {f : Fo} {v : Value} (h : f.In B w v) (hb : Below B w w') (hB : B ≤ B') : f.In B' w' v := by
  obtain ⟨p, cap, h1, h2, h3, h4⟩ := h
  refine ⟨p, cap, h1, h2, h3, ?_⟩
  rcases h4 with h4 | ⟨b, off, e, hl, h4⟩
  · exact .inl h4
  · exact .inr ⟨b, off, e, by omega, h4.below hb hB hl⟩
theorem Fo.In.form {B : Nat} {w : World} {f : Fo} {v : Value} (h : f.In B w v) : ∃ p cap, v = .slice p f.list.length cap := by
  obtain ⟨p, cap, h1, _⟩ := h; exact ⟨p, cap, h1⟩
theorem Fo.In.max {B : Nat} {w : World} {f : Fo} {p : Option Addr} {n cap : Nat} (h : f.In B w (.slice p n cap)) : n = f.list.length ∧ n ≤ cap ∧ cap ≤ maxLen := by
  obtain ⟨p', cap', h1, h2, h3, _⟩ := h
  cases h1; exact ⟨rfl, h2, h3⟩
theorem Fo.Row.get {B : Nat} {w : World} {f : Fo} : ∀ {b off : Nat}, f.Row B w b off → ∀ (k : Nat) (hk : k < f.list.length),
    w.cell? ⟨b, off + k * 3, none⟩ = some (.int .i64 f.list[k].op) ∧ w.cell? ⟨b, off + k * 3 + 1, none⟩ = some (.string f.list[k].a) ∧ ∃ v, w.cell? ⟨b, off + k * 3 + 2, none⟩ = some v ∧ f.list[k].ks.In B w v := by
  induction f with
  | nil => intro b off _ k hk; simp [Fo.list] at hk
  | cons o a ks r _ ih =>
    intro b off h k hk
    obtain ⟨h1, h2, h3, h4⟩ := Fo.row_cons.1 h
    cases k with
    | zero => rw [Nat.zero_mul, Nat.add_zero]; exact ⟨h1, h2, h3⟩
    | succ k =>
      have := ih h4 k (by simpa [Fo.list] using hk)
      rw [show off + 3 + k * 3 = off + (k + 1) * 3 by omega] at this
      simpa [Fo.list] using this
/-- An element's cells, at an index. -/
theorem Fo.In.get {B : Nat} {w : World} {f : Fo} {p : Option Addr} {n cap : Nat} (h : f.In B w (.slice p n cap)) (k : Nat) (hk : k < f.list.length) :
    ∃ b off q m c, p = some ⟨b, off, none⟩ ∧ b < B ∧ w.cell? ⟨b, off + k * 3, none⟩ = some (.int .i64 f.list[k].op) ∧ w.cell? ⟨b, off + k * 3 + 1, none⟩ = some (.string f.list[k].a) ∧
      w.cell? ⟨b, off + k * 3 + 2, none⟩ = some (.slice q m c) ∧ f.list[k].ks.In B w (.slice q m c) := by
  obtain ⟨p', cap', h1, h2, h3, h4⟩ := h
  cases h1
  rcases h4 with h4 | ⟨b, off, e, hl, h4⟩
  · rw [h4] at hk; simp at hk
  · obtain ⟨g1, g2, v, g3, g4⟩ := h4.get k hk
    obtain ⟨q, c, rfl⟩ := g4.form
    exact ⟨b, off, q, _, c, e, hl, g1, g2, g3, g4⟩
/-- The value of a struct Expr. -/
def Ex.At (e : Ex) (B : Nat) (w : World) (v : Value) : Prop := ∃ k, v = .agg #[.int .i64 e.op, .string e.a, k] ∧ e.ks.In B w k
theorem Ex.At.below {e : Ex} {B B' : Nat} {w w' : World} {v : Value} (h : e.At B w v) (hb : Below B w w') (hB : B ≤ B') : e.At B' w' v := by
  obtain ⟨k, h1, h2⟩ := h; exact ⟨k, h1, h2.below hb hB⟩
theorem Fo.of_row {B : Nat} {w : World} {b : Nat} (l : List Ex) : ∀ (off : Nat), (∀ (i : Nat) (h : i < l.length), w.cell? ⟨b, off + i * 3, none⟩ = some (.int .i64 l[i].op) ∧ w.cell? ⟨b, off + i * 3 + 1, none⟩ = some (.string l[i].a) ∧ ∃ v, w.cell? ⟨b, off + i * 3 + 2, none⟩ = some v ∧ l[i].ks.In B w v) →
    (Fo.of l).Row B w b off := by
  induction l with
  | nil => intro off _; trivial
  | cons e l ih =>
    intro off h
    have h0 := h 0 (by simp)
    simp only [List.getElem_cons_zero, Nat.zero_mul, Nat.add_zero] at h0
    refine Fo.row_cons.2 ⟨h0.1, h0.2.1, h0.2.2, ih (off + 3) fun i hi => ?_⟩
    have := h (i + 1) (by simpa using hi)
    rw [show off + (i + 1) * 3 = off + 3 + i * 3 by omega] at this
    simpa using this

/-- The row's cells by their places; its parts' rows are memory of the call's own, in the blocks F. -/
def Fo.ORow (w : World) : Fo → (Nat → Option Value) → List Nat → Prop
  | .nil, _, F => F = []
  | .cons o a k r, c, F => c 0 = some (.int .i64 o) ∧ c 1 = some (.string a) ∧ ∃ (p : Option Addr) (cap : Nat) (F1 F2 : List Nat), F = F1 ++ F2 ∧ (∀ x ∈ F1, x ∉ F2) ∧
      c 2 = some (.slice p k.list.length cap) ∧ k.list.length ≤ cap ∧ cap ≤ maxLen ∧
      ((k.list = [] ∧ F1 = []) ∨ ∃ b F', p = some ⟨b, 0, none⟩ ∧ F1 = b :: F' ∧ b ∉ F' ∧ b < w.heap.size ∧ (∀ o, w.frozen? ⟨b, o, none⟩ = false) ∧ Fo.ORow w k (fun i => w.cell? ⟨b, i, none⟩) F') ∧
      Fo.ORow w r (fun i => c (i + 3)) F2
/-- The slice v is the row f in memory of the call's own: not frozen, in the blocks F. -/
def Fo.Own (w : World) (f : Fo) (v : Value) (F : List Nat) : Prop :=
  ∃ (p : Option Addr) (cap : Nat), v = .slice p f.list.length cap ∧ f.list.length ≤ cap ∧ cap ≤ maxLen ∧
    ((f.list = [] ∧ F = []) ∨ ∃ b F', p = some ⟨b, 0, none⟩ ∧ F = b :: F' ∧ b ∉ F' ∧ b < w.heap.size ∧ (∀ o, w.frozen? ⟨b, o, none⟩ = false) ∧ f.ORow w (fun i => w.cell? ⟨b, i, none⟩) F')
theorem Fo.orow_cons {w : World} {o : Int} {a : ByteArray} {k r : Fo} {c : Nat → Option Value} {F : List Nat} :
    (Fo.cons o a k r).ORow w c F ↔ c 0 = some (.int .i64 o) ∧ c 1 = some (.string a) ∧ ∃ v F1 F2, F = F1 ++ F2 ∧ (∀ x ∈ F1, x ∉ F2) ∧ c 2 = some v ∧ k.Own w v F1 ∧ r.ORow w (fun i => c (i + 3)) F2 := by
  constructor
  · rintro ⟨h1, h2, p, cap, F1, F2, h3, h4, h5, h6, h7, h8, h9⟩; exact ⟨h1, h2, _, F1, F2, h3, h4, h5, ⟨p, cap, rfl, h6, h7, h8⟩, h9⟩
  · rintro ⟨h1, h2, _, F1, F2, h3, h4, h5, ⟨p, cap, rfl, h6, h7, h8⟩, h9⟩; exact ⟨h1, h2, p, cap, F1, F2, h3, h4, h5, h6, h7, h8, h9⟩
theorem Fo.ORow.lt {w : World} {f : Fo} : ∀ {c : Nat → Option Value} {F : List Nat}, f.ORow w c F → ∀ x ∈ F, x < w.heap.size := by
  induction f with
  | nil => intro c F h; cases h; simp
  | cons o a k r ihk ihr =>
    intro c F h x hx
    obtain ⟨h1, h2, p, cap, F1, F2, rfl, h4, h5, h6, h7, h8, h9⟩ := h
    rcases List.mem_append.1 hx with hx | hx
    · rcases h8 with ⟨_, rfl⟩ | ⟨b, F', e, rfl, h10, h11, h12, h13⟩
      · simp at hx
      · rcases List.mem_cons.1 hx with rfl | hx
        · exact h11
        · exact ihk h13 x hx
    · exact ihr h9 x hx
theorem Fo.Own.lt {w : World} {f : Fo} {v : Value} {F : List Nat} (h : f.Own w v F) : ∀ x ∈ F, x < w.heap.size := by
  obtain ⟨p, cap, h1, h2, h3, h4⟩ := h
  rcases h4 with ⟨_, rfl⟩ | ⟨b, F', e, rfl, h5, h6, h7, h8⟩
  · simp
  · intro x hx
    rcases List.mem_cons.1 hx with rfl | hx
    · exact h6
    · exact h8.lt x hx
theorem Fo.ORow.row {w : World} {f : Fo} : ∀ {b off : Nat} {c : Nat → Option Value} {F : List Nat}, f.ORow w c F → (∀ i, i < f.list.length * 3 → c i = w.cell? ⟨b, off + i, none⟩) → f.Row w.heap.size w b off := by
  induction f with
  | nil => intros; trivial
  | cons o a k r ihk ihr =>
    intro b off c F h hc
    obtain ⟨h1, h2, p, cap, F1, F2, h3, h4, h5, h6, h7, h8, h9⟩ := h
    simp only [Fo.list, List.length_cons] at hc
    refine ⟨(hc 0 (by omega)).symm.trans h1, (hc 1 (by omega)).symm.trans h2, ⟨p, cap, (hc 2 (by omega)).symm.trans h5, h6, h7, ?_⟩, ihr h9 fun i hi => ?_⟩
    · rcases h8 with ⟨h8, _⟩ | ⟨b', F', e, h10, h11, h12, h13, h14⟩
      · exact .inl h8
      · exact .inr ⟨b', 0, e, h12, ihk h14 fun i _ => by rw [Nat.zero_add]⟩
    · rw [hc (i + 3) (by omega), show off + 3 + i = off + (i + 3) by omega]
theorem Fo.Own.in {w : World} {f : Fo} {v : Value} {F : List Nat} (h : f.Own w v F) : f.In w.heap.size w v := by
  obtain ⟨p, cap, h1, h2, h3, h4⟩ := h
  refine ⟨p, cap, h1, h2, h3, ?_⟩
  rcases h4 with ⟨h4, _⟩ | ⟨b, F', e, _, _, h6, h7, h8⟩
  · exact .inl h4
  · exact .inr ⟨b, 0, e, h6, h8.row fun i _ => by rw [Nat.zero_add]⟩
theorem Fo.ORow.chg {w w' : World} {G : List Nat} (hc : Chg G w w') {f : Fo} : ∀ {c c' : Nat → Option Value} {F : List Nat}, f.ORow w c F → (∀ x ∈ F, x ∉ G) → (∀ i, i < f.list.length * 3 → c' i = c i) → f.ORow w' c' F := by
  induction f with
  | nil => intro c c' F h _ _; exact h
  | cons o a k r ihk ihr =>
    intro c c' F h hd he
    obtain ⟨h1, h2, p, cap, F1, F2, rfl, h4, h5, h6, h7, h8, h9⟩ := h
    simp only [Fo.list, List.length_cons] at he
    refine ⟨(he 0 (by omega)).trans h1, (he 1 (by omega)).trans h2, p, cap, F1, F2, rfl, h4, (he 2 (by omega)).trans h5, h6, h7, ?_, ihr h9 (fun x hx => hd x (List.mem_append_right _ hx)) fun i hi => he (i + 3) (by omega)⟩
    rcases h8 with h8 | ⟨b, F', e, rfl, h10, h11, h12, h13⟩
    · exact .inl h8
    · have hb := hc.block b h11 (hd b (by simp))
      refine .inr ⟨b, F', e, rfl, h10, Nat.lt_of_lt_of_le h11 hc.size, fun o => (World.frozen?_of_block (w := w) (a := ⟨b, o, none⟩) hb).trans (h12 o), ihk h13 (fun x hx => hd x (by simp [hx])) fun i _ => World.cell?_of_block (w := w) (a := ⟨b, i, none⟩) hb⟩
theorem Fo.Own.chg {w w' : World} {G : List Nat} {f : Fo} {v : Value} {F : List Nat} (h : f.Own w v F) (hc : Chg G w w') (hd : ∀ x ∈ F, x ∉ G) : f.Own w' v F := by
  obtain ⟨p, cap, h1, h2, h3, h4⟩ := h
  refine ⟨p, cap, h1, h2, h3, ?_⟩
  rcases h4 with h4 | ⟨b, F', e, rfl, h5, h6, h7, h8⟩
  · exact .inl h4
  · have hb := hc.block b h6 (hd b (by simp))
    exact .inr ⟨b, F', e, rfl, h5, Nat.lt_of_lt_of_le h6 hc.size, fun o => (World.frozen?_of_block (w := w) (a := ⟨b, o, none⟩) hb).trans (h7 o), h8.chg hc (fun x hx => hd x (by simp [hx])) fun i _ => World.cell?_of_block (w := w) (a := ⟨b, i, none⟩) hb⟩
theorem Fo.Own.below {w w' : World} {f : Fo} {v : Value} {F : List Nat} (h : f.Own w v F) (hc : Below w.heap.size w w') : f.Own w' v F := h.chg (Chg.of_below hc []) (by simp)
/-- A row is two rows, one behind the other. -/
theorem Fo.orow_app {w : World} {f g : Fo} : ∀ {c : Nat → Option Value} {F : List Nat}, (f.app g).ORow w c F ↔ ∃ F1 F2, F = F1 ++ F2 ∧ (∀ x ∈ F1, x ∉ F2) ∧ f.ORow w c F1 ∧ g.ORow w (fun i => c (i + f.list.length * 3)) F2 := by
  induction f with
  | nil =>
    intro c F
    constructor
    · intro h; exact ⟨[], F, rfl, by simp, rfl, h⟩
    · rintro ⟨F1, F2, rfl, _, h1, h2⟩; cases h1; exact h2
  | cons o a k r _ ih =>
    intro c F
    constructor
    · intro h
      obtain ⟨h1, h2, v, F1, F2, rfl, h4, h5, h6, h7⟩ := Fo.orow_cons.1 h
      obtain ⟨F3, F4, rfl, h8, h9, h10⟩ := ih.1 h7
      refine ⟨F1 ++ F3, F4, (List.append_assoc _ _ _).symm, fun x hx hx4 => ?_, Fo.orow_cons.2 ⟨h1, h2, v, F1, F3, rfl, fun x hx hx3 => h4 x hx (List.mem_append_left _ hx3), h5, h6, h9⟩, ?_⟩
      · rcases List.mem_append.1 hx with hx | hx
        · exact h4 x hx (List.mem_append_right _ hx4)
        · exact h8 x hx hx4
      · have e : (fun i => c (i + (Fo.cons o a k r).list.length * 3)) = fun i => c (i + r.list.length * 3 + 3) := by
          funext i; congr 1; simp [Fo.list]; omega
        rw [e]; exact h10
    · rintro ⟨F1, F2, rfl, hd, h1, h2⟩
      obtain ⟨h3, h4, v, F3, F4, rfl, h6, h7, h8, h9⟩ := Fo.orow_cons.1 h1
      have e : (fun i => c (i + (Fo.cons o a k r).list.length * 3)) = fun i => c (i + r.list.length * 3 + 3) := by
        funext i; congr 1; simp [Fo.list]; omega
      rw [e] at h2
      refine Fo.orow_cons.2 ⟨h3, h4, v, F3, F4 ++ F2, List.append_assoc _ _ _, fun x hx hx2 => ?_, h7, h8, ih.2 ⟨F4, F2, rfl, fun x hx => hd x (List.mem_append_right _ hx), h9, h2⟩⟩
      rcases List.mem_append.1 hx2 with hx2 | hx2
      · exact h6 x hx hx2
      · exact hd x (List.mem_append_left _ hx) hx2
theorem Fo.Own.empty (w : World) : Fo.Own w .nil (.slice none 0 0) [] := ⟨none, 0, rfl, Nat.le_refl _, Nat.zero_le _, .inl ⟨rfl, rfl⟩⟩
end Go.Proofs.Ytggpnnoldjpmcaa
namespace Go.Proofs.Ytggpnnoldjpmcaa
open Go.RowKit

/-- P holds in w and in every world in which only new memory has been made since. -/
def Box (w : World) (P : World → Prop) : Prop := ∀ w', Below w.heap.size w w' → P w'
theorem Box.now {w : World} {P : World → Prop} (h : Box w P) : P w := h w (Below.refl _ _)
theorem Box.step {w w' : World} {P : World → Prop} (h : Box w P) (hb : Below w.heap.size w w') : Box w' P := fun w'' h2 => h w'' (hb.trans (h2.mono hb.size))
theorem Box.and {w : World} {P Q : World → Prop} (h : Box w P) (k : Box w Q) : Box w fun u => P u ∧ Q u := fun u hu => ⟨h u hu, k u hu⟩
theorem Box.imp {w : World} {P Q : World → Prop} (h : Box w P) (k : ∀ u, P u → Q u) : Box w Q := fun u hu => k u (h u hu)
theorem Box.true (w : World) : Box w fun _ => True := fun _ _ => trivial
/-- A cell, and that its block is there. -/
def CellB (b o : Nat) (x : Value) (u : World) : Prop := u.cell? ⟨b, o, none⟩ = some x
theorem Box.cell {w : World} {b o : Nat} {x : Value} (h : w.cell? ⟨b, o, none⟩ = some x) : Box w (CellB b o x) := fun _ hu => keepc hu (World.block_lt_of_cell? w _ h) h
theorem CellB.lt {w : World} {b o : Nat} {x : Value} (h : CellB b o x w) : b < w.heap.size := World.block_lt_of_cell? w _ h
theorem Box.below {w w' : World} {B : Nat} (h : Below B w w') (hB : B ≤ w.heap.size) : Box w' (Below B w) := fun _ hu => h.trans (hu.mono (Nat.le_trans hB h.size))
theorem Box.since {B : Nat} {w w' : World} (h : Below B w w') (hB : B ≤ w'.heap.size) : Box w' (Below B w) := fun _ hu => h.trans (hu.mono hB)
theorem Box.size {w : World} {n : Nat} (h : n ≤ w.heap.size) : Box w fun u => n ≤ u.heap.size := fun _ hu => Nat.le_trans h hu.size
theorem Box.gr {w : World} {g : Gr} {B : Nat} {v : Value} (h : g.At B w v) (hB : B ≤ w.heap.size) : Box w fun u => g.At B u v := fun _ hu => h.below (hu.mono hB)
/-- A graph in memory of the call's own, in the blocks F. -/
def Gr.Has (g : Gr) (v : Value) (F : List Nat) (u : World) : Prop := ∃ F1 F2, F = F1 ++ F2 ∧ g.Own 0 u v F1 F2
theorem Box.grHas {w : World} {g : Gr} {v : Value} {F : List Nat} (h : g.Has v F w) : Box w (g.Has v F) := by
  obtain ⟨F1, F2, e, h⟩ := h
  exact fun _ hu => ⟨F1, F2, e, h.below hu⟩
theorem Gr.Has.at {g : Gr} {v : Value} {F : List Nat} {w : World} (h : g.Has v F w) : g.At w.heap.size w v := by
  obtain ⟨F1, F2, e, h⟩ := h
  exact h.at
theorem Gr.Own.has {g : Gr} {lo : Nat} {v : Value} {F1 F2 : List Nat} {w : World} (h : g.Own lo w v F1 F2) : g.Has v (F1 ++ F2) w := ⟨F1, F2, rfl, h.mono (Nat.zero_le _)⟩
theorem Gr.Own.lo {g : Gr} {lo : Nat} {v : Value} {F1 F2 : List Nat} {w : World} (h : g.Own lo w v F1 F2) : ∀ x ∈ F1 ++ F2, lo ≤ x ∧ x < w.heap.size := by
  have hl := h.lt
  obtain ⟨a, b, e1, e2, e3, e4, e5, e6⟩ := h
  intro x hx
  rcases List.mem_append.1 hx with hx | hx
  · exact ⟨e4 x hx, hl.1 x hx⟩
  · exact ⟨e5 x hx, hl.2 x hx⟩
theorem Gr.Has.chg {g : Gr} {v : Value} {F G : List Nat} {w w' : World} (h : g.Has v F w) (hc : Chg G w w') (hd : ∀ x ∈ F, x ∉ G) : g.Has v F w' := by
  obtain ⟨F1, F2, rfl, h⟩ := h
  exact ⟨F1, F2, rfl, h.chg hc (fun x hx => hd x (List.mem_append_left _ hx)) (fun x hx => hd x (List.mem_append_right _ hx))⟩
/-- An expression in memory of the call's own. -/
def Ex.Has (e : Ex) (v : Value) (F : List Nat) (u : World) : Prop := ∃ k, v = .agg #[.int .i64 e.op, .string e.a, k] ∧ e.ks.Own u k F
theorem Box.ex {w : World} {e : Ex} {B : Nat} {v : Value} (h : e.At B w v) (hB : B ≤ w.heap.size) : Box w fun u => e.At B u v := fun _ hu => h.below (hu.mono hB) (Nat.le_refl _)
theorem Box.exHas {w : World} {e : Ex} {v : Value} {F : List Nat} (h : e.Has v F w) : Box w (e.Has v F) := by
  obtain ⟨k, e, h⟩ := h
  exact fun _ hu => ⟨k, e, h.below hu⟩
theorem Ex.Has.at {e : Ex} {v : Value} {F : List Nat} {w : World} (h : e.Has v F w) : e.At w.heap.size w v := by
  obtain ⟨k, e, h⟩ := h
  exact ⟨k, e, h.in⟩
theorem Ex.Has.chg {e : Ex} {v : Value} {F G : List Nat} {w w' : World} (h : e.Has v F w) (hc : Chg G w w') (hd : ∀ x ∈ F, x ∉ G) : e.Has v F w' := by
  obtain ⟨k, e, h⟩ := h
  exact ⟨k, e, h.chg hc hd⟩
theorem Box.chgCell {w w' : World} {b o : Nat} {x : Value} {G : List Nat} (hc : Chg G w w') (hb : b ∉ G) (h : CellB b o x w) : CellB b o x w' :=
  (World.cell?_of_block (w := w) (a := ⟨b, o, none⟩) (hc.block b (World.block_lt_of_cell? w _ h) hb)).trans h
end Go.Proofs.Ytggpnnoldjpmcaa
namespace Go.Proofs.Ytggpnnoldjpmcaa
open Go.RowKit

/-- A variable in block k with the cells cs, whose data P says, in the blocks F. -/
def LocV (P : Value → List Nat → World → Prop) (k : Nat) (cs : Array Value) (F : List Nat) (u : World) : Prop :=
  k < u.heap.size ∧ (∀ i x, cs[i]? = some x → u.cell? ⟨k, i, none⟩ = some x) ∧ P (.agg cs) F u
/-- P goes on to hold while other blocks change. -/
def Goes (P : Value → List Nat → World → Prop) : Prop := ∀ (v : Value) (F G : List Nat) (u u' : World), P v F u → Chg G u u' → (∀ x ∈ F, x ∉ G) → P v F u'
theorem LocV.chg {P : Value → List Nat → World → Prop} (hP : Goes P) {k : Nat} {cs : Array Value} {F G : List Nat} {u u' : World} (h : LocV P k cs F u) (hc : Chg G u u') (hk : k ∉ G) (hF : ∀ x ∈ F, x ∉ G) : LocV P k cs F u' :=
  ⟨Nat.lt_of_lt_of_le h.1 hc.size, fun i x hx => (World.cell?_of_block (w := u) (a := ⟨k, i, none⟩) (hc.block k h.1 hk)).trans (h.2.1 i x hx), hP _ _ _ _ _ h.2.2 hc hF⟩
theorem LocV.below {P : Value → List Nat → World → Prop} (hP : Goes P) {k : Nat} {cs : Array Value} {F : List Nat} {u u' : World} (h : LocV P k cs F u) (hb : Below u.heap.size u u') : LocV P k cs F u' :=
  h.chg hP (Chg.of_below hb []) (by simp) (by simp)
theorem LocV.fresh {P : Value → List Nat → World → Prop} (hP : Goes P) {cs : Array Value} {F : List Nat} {T : TypeId} {w : World} (h : P (.agg cs) F w) : LocV P w.heap.size cs F (w.alloc (.cells cs T)) :=
  ⟨by simp, fun i x hx => (World.cell?_alloc_at cs T _ i rfl).trans hx, hP _ _ [] _ _ h (Chg.of_below ((Below.refl _ _).alloc (Nat.le_refl _) _) []) (by simp)⟩
/-- The same cells, other data, where the data's blocks alone have changed. -/
theorem LocV.turn {P Q : Value → List Nat → World → Prop} {k : Nat} {cs : Array Value} {F : List Nat} {u u' : World} (h : LocV P k cs F u) (hc : Chg F u u') (hk : k ∉ F) (hq : Q (.agg cs) F u') : LocV Q k cs F u' :=
  ⟨Nat.lt_of_lt_of_le h.1 hc.size, fun i x hx => (World.cell?_of_block (w := u) (a := ⟨k, i, none⟩) (hc.block k h.1 hk)).trans (h.2.1 i x hx), hq⟩
theorem Ex.At.form {e : Ex} {B : Nat} {w : World} {v : Value} (h : e.At B w v) : ∃ p cap, v = .agg #[.int .i64 e.op, .string e.a, .slice p e.ks.list.length cap] := by
  obtain ⟨k, rfl, hk⟩ := h
  obtain ⟨p, cap, rfl⟩ := hk.form
  exact ⟨p, cap, rfl⟩
theorem Ex.goes (e : Ex) : Goes e.Has := fun _ _ _ _ _ h hc hd => h.chg hc hd
end Go.Proofs.Ytggpnnoldjpmcaa
namespace Go.Proofs.Ytggpnnoldjpmcaa
open Go.RowKit

structure Wk where
  ns : List Int
  es : List Int
def Wk.Ok (x : Wk) : Prop := (∀ n ∈ x.ns, I64 n) ∧ (∀ n ∈ x.es, I64 n)
/-- The value of a struct Walk whose two slices lie below B. -/
def Wk.At (x : Wk) (B : Nat) (w : World) (v : Value) : Prop := ∃ a b, v = .agg #[a, b] ∧ Sl 1 intCells B w a x.ns ∧ Sl 1 intCells B w b x.es
theorem Wk.At.to {x : Wk} {B B' : Nat} {w w' : World} {v : Value} (h : x.At B w v) (hb : Below B w w') (hB : B ≤ B') : x.At B' w' v := by
  obtain ⟨a, b, h1, h2, h3⟩ := h
  exact ⟨a, b, h1, (h2.below hb).mono hB, (h3.below hb).mono hB⟩
theorem Wk.At.form {x : Wk} {B : Nat} {w : World} {v : Value} (h : x.At B w v) : ∃ p c q d, v = .agg #[.slice p x.ns.length c, .slice q x.es.length d] := by
  obtain ⟨a, b, rfl, h1, h2⟩ := h
  obtain ⟨p, c, rfl⟩ := h1.form
  obtain ⟨q, d, rfl⟩ := h2.form
  exact ⟨p, c, q, d, rfl⟩
/-- A walk in memory of the call's own, in the blocks F. -/
def Wk.Has (x : Wk) (v : Value) (F : List Nat) (u : World) : Prop :=
  ∃ a b F1 F2, v = .agg #[a, b] ∧ F = F1 ++ F2 ∧ OwnSl 1 intCells u a x.ns F1 ∧ OwnSl 1 intCells u b x.es F2 ∧ ∀ y ∈ F1, y ∉ F2
theorem Wk.Has.at {x : Wk} {v : Value} {F : List Nat} {w : World} (h : x.Has v F w) : x.At w.heap.size w v := by
  obtain ⟨a, b, F1, F2, rfl, rfl, h1, h2, _⟩ := h
  exact ⟨a, b, rfl, h1.sl, h2.sl⟩
theorem Wk.Has.chg {x : Wk} {v : Value} {F G : List Nat} {w w' : World} (h : x.Has v F w) (hc : Chg G w w') (hd : ∀ y ∈ F, y ∉ G) : x.Has v F w' := by
  obtain ⟨a, b, F1, F2, rfl, rfl, h1, h2, h3⟩ := h
  exact ⟨a, b, F1, F2, rfl, rfl, h1.chg hc (fun y hy => hd y (List.mem_append_left _ hy)), h2.chg hc (fun y hy => hd y (List.mem_append_right _ hy)), h3⟩
theorem Wk.Has.below {x : Wk} {v : Value} {F : List Nat} {w w' : World} (h : x.Has v F w) (hb : Below w.heap.size w w') : x.Has v F w' := h.chg (Chg.of_below hb []) (by simp)
theorem Wk.Has.lt {x : Wk} {v : Value} {F : List Nat} {w : World} (h : x.Has v F w) : ∀ y ∈ F, y < w.heap.size := by
  obtain ⟨a, b, F1, F2, rfl, rfl, h1, h2, h3⟩ := h
  intro y hy
  rcases List.mem_append.1 hy with hy | hy
  · exact h1.lt y hy
  · exact h2.lt y hy
theorem Wk.goes (x : Wk) : Goes x.Has := fun _ _ _ _ _ h hc hd => h.chg hc hd
def Wk.need (x : Wk) : Nat := x.ns.length + x.es.length

set_option maxHeartbeats 400000 in
theorem szIntS_any (xs : List Int) (v : Value) (left : Int) (B : Nat) (w : World) (hv : Sl 1 intCells B w v xs) (_hB : B ≤ w.heap.size) (h0 : 0 ≤ left) (h1 : left ≤ 1048576) :
    Calls Try.prog 96 #[v, .int .i64 left] w (SzPost left xs.length w.heap.size w) := by
  obtain ⟨p, cap, rfl⟩ := hv.form
  have hm := hv.max
  unfold maxLen at hm
  by_cases hlt : left < xs.length
  · go_enter Try.func96, Try.ntmps96
    go_wp2_with fail
    go_ret
    exact ⟨-1, rfl, .inl rfl, Below.refl _ _⟩
  · have q1 : decide (left - (xs.length : Int) < 0) = false := by simp; omega
    have q1' : decide (left < (xs.length : Int)) = false := by simp; omega
    go_enter Try.func96, Try.ntmps96
    go_wp2_with fail
    go_ret
    exact ⟨left - xs.length, rfl, .inr ⟨by omega, rfl⟩, Below.refl _ _⟩

set_option maxHeartbeats 1000000 in
theorem szWalk_any (x : Wk) (v : Value) (left : Int) (B : Nat) (w : World) (hx : x.At B w v) (hB : B ≤ w.heap.size) (h0 : 0 ≤ left) (h1 : left ≤ 1048576) :
    Calls Try.prog 66 #[v, .int .i64 left] w (SzPost left x.need w.heap.size w) := by
  obtain ⟨a, b, rfl, ha, hb⟩ := hx
  have H1 := Lib.hid ha
  have H2 := Lib.hid hb
  clear ha hb
  go_enter Try.func66, Try.ntmps66
  go_wp2_with fail
  refine (szIntS_any x.ns a left B _ (H1.out.below ((Below.refl B w).alloc hB _)) (by simp; omega) h0 h1).mono ?_
  rintro e w1 ⟨r, rfl, hr, hb1⟩
  have hs1 : w.heap.size < w1.heap.size := by have := hb1.size; simp at this; omega
  have c1 := new_cell hb1 (j := 1) rfl
  have HB1 := Lib.hid (below_past hb1)
  clear hb1
  rcases hr with hr | ⟨hr0, hr⟩
  · have HR := Lib.hid hr
    have hneg : r < 0 := by omega
    clear hr
    go_wp2_with fail
    go_ret
    exact ⟨-1, rfl, .inl rfl, HB1.out⟩
  · have hr1 : r ≤ 1048576 := by omega
    have HR := Lib.hid hr
    clear hr
    go_wp2_with fail
    refine (szIntS_any x.es b r B _ (H2.out.below (HB1.out.mono hB)) (by omega) hr0 hr1).mono ?_
    rintro e w2 ⟨r2, rfl, hr2, hb2⟩
    have HB2 := Lib.hid (HB1.out.trans (hb2.mono (by omega)))
    clear hb2
    rcases hr2 with hr2 | ⟨hr20, hr2⟩
    · have hneg : r2 < 0 := by omega
      clear hr2
      go_wp2_with fail
      go_ret
      exact ⟨-1, rfl, .inl rfl, HB2.out⟩
    · have HR2 := Lib.hid hr2
      clear hr2
      go_wp2_with fail
      go_ret
      exact ⟨r2, rfl, .inr ⟨hr20, by have a := HR.out; have b := HR2.out; unfold Wk.need; omega⟩, HB2.out⟩

theorem infoIntW : (Try.prog.info? 3).map (fun i => (i.zero, i.size, i.bytes)) = some (some (.int .i64 0), 1, 8) := by kernel_rfl

set_option maxHeartbeats 1000000 in
theorem toIntS_any (xs : List Int) (v : Value) (B : Nat) (w : World) (hv : Sl 1 intCells B w v xs) (hB : B ≤ w.heap.size) (hn : xs.length ≤ 1048576) :
    Calls Try.prog 97 #[v] w fun e w' => ∃ v' F, e = .returned v' ∧ OwnSl 1 intCells w' v' xs F ∧ (∀ x ∈ F, w.heap.size ≤ x) ∧ Below w.heap.size w w' := by
  obtain ⟨p, cap, rfl⟩ := hv.form
  have hm := hv.max
  unfold maxLen at hm
  have hmk : ∀ w : World, (Instr.makeSlice 43 (.int .i64 (xs.length : Int)) (.int .i64 (xs.length : Int))).run Try.prog w = .ok (.slice (some ⟨w.heap.size, 0, none⟩) xs.length xs.length) (w.alloc (.cells (madeCells #[.int .i64 0] xs.length) 3)) := by
    intro w
    obtain ⟨i, hi, hzz⟩ := Option.map_eq_some_iff.1 infoIntW
    simp only [Prod.mk.injEq] at hzz
    obtain ⟨hz, hs, hb⟩ := hzz
    have hr := run_make (P := Try.prog) w 43 3 i _ Try.underlying43 hi hz .i64 .i64 xs.length xs.length (by omega) (Int.le_refl _) (by rw [hb]; omega) (by omega)
    rw [hs, Nat.mul_one] at hr
    exact hr
  have hbk := Blk.new w (madeCells #[.int .i64 0] xs.length) 3
  go_enter Try.func97, Try.ntmps97
  go_wp2_with fail
  go_loopw [4] (fun i wr => ∃ (k : Nat) (L : List Value), k ≤ xs.length ∧ i = .int .i64 k ∧ Part 1 intCells xs L k ∧ Blk wr w.heap.size 3 L ∧ Below w.heap.size w wr) (fun i _ => xs.length - (intOf i).toNat)
  case atStart => exact ⟨0, _, Nat.zero_le _, rfl, Part.zero (by simp [madeCells]), hbk, (Below.refl _ _).alloc (Nat.le_refl _) _⟩
  case round =>
    obtain ⟨k, L, hk, rfl, hp, hbl, hbw⟩ := hrel
    have hsz := hbw.size
    have hlt := hbl.lt
    have HB := Lib.hid hbw
    clear hbw hbk
    by_cases hlt2 : k < xs.length
    · obtain ⟨b, off, rfl, hb, c0⟩ := (hv.below (HB.out.mono hB)).it hlt2
      have hlen := hp.1
      have hx : Part 1 intCells xs (setAt L (k * 1) (intCells xs[k])) (k + 1) := hp.succ hlt2 (fun _ => rfl)
      obtain ⟨x, ex⟩ : ∃ x, x = xs[k] := ⟨_, rfl⟩
      rw [← ex] at c0 hx
      clear ex
      rw [Nat.mul_one] at hx
      have HP := Lib.hid hx
      clear hx hp
      have d0 := (hbl.cell k).trans (List.getElem?_eq_getElem (by omega))
      have g0 := hbl.frozen k
      have HBL := Lib.hid hbl
      clear hbl
      go_wp2_with fail
      go_roundw
      case rel => exact ⟨k + 1, _, by omega, by go_num, HP.out, HBL.out.set _ _, HB.out.setCell (Nat.le_refl _) _⟩
      case measure => simp [intOf]; omega
    · obtain rfl : k = xs.length := by omega
      have HBL := Lib.hid hbl
      clear hbl
      go_wp2_with fail
      go_ret
      exact ⟨_, [w.heap.size], rfl, ⟨_, _, _, rfl, rfl, Nat.le_refl _, by unfold maxLen; omega, .inr ⟨_, _, rfl, rfl, HBL.out.lt, fun o => HBL.out.frozen o, fun i hi j x hx => by rw [Nat.zero_add]; exact (HBL.out.cell _).trans (hp.2 i hi hi j x hx)⟩⟩, by simp, HB.out⟩

set_option maxHeartbeats 1000000 in
theorem toWalk_raw (g : Wk) (v : Value) (B : Nat) (w : World) (hg : g.At B w v) (hB : B ≤ w.heap.size) (h1 : g.ns.length ≤ 1048576) (h2 : g.es.length ≤ 1048576) :
    Calls Try.prog 69 #[v] w fun e w' => ∃ v' F1 F2, e = .returned v' ∧ (∃ a b, v' = .agg #[a, b] ∧ OwnSl 1 intCells w' a g.ns F1 ∧ OwnSl 1 intCells w' b g.es F2 ∧ (∀ x ∈ F1, w.heap.size ≤ x) ∧ (∀ x ∈ F2, w.heap.size ≤ x) ∧ (∀ x ∈ F1, x ∉ F2)) ∧ Below w.heap.size w w' := by
  obtain ⟨a, b, rfl, ha, hb⟩ := hg
  go_enter Try.func69, Try.ntmps69
  go_wp2_with fail
  have HW := Lib.hid ((((Below.refl B w).alloc hB (.cells #[a, b] 45)).alloc (by simp; omega) (.cells #[.slice none 0 0, .slice none 0 0] 50)).alloc (by simp; omega) (.cells #[.slice none 0 0, .slice none 0 0] 50))
  have HV := Lib.hid ((((Below.refl w.heap.size w).alloc (by simp) (.cells #[a, b] 45)).alloc (by simp) (.cells #[.slice none 0 0, .slice none 0 0] 50)).alloc (by simp <;> omega) (.cells #[.slice none 0 0, .slice none 0 0] 50))
  refine (toIntS_any g.ns a B _ (ha.below HW.out) (by simp; omega) h1).mono ?_
  rintro e w1 ⟨v1, F1, rfl, ho1, hf1, hb1⟩
  have hs1 : w.heap.size + 3 ≤ w1.heap.size := by have := hb1.size; simp at this; omega
  have p1 : w1.cell? ⟨w.heap.size, 1, none⟩ = some b := (hb1.cell (by simp; omega)).trans (by simp [go_sem])
  have q0 : w1.cell? ⟨w.heap.size + 1, 0, none⟩ = some (.slice none 0 0) := (hb1.cell (by simp)).trans (by simp [go_sem])
  have q1 : w1.cell? ⟨w.heap.size + 1, 1, none⟩ = some (.slice none 0 0) := (hb1.cell (by simp)).trans (by simp [go_sem])
  have q2 : w1.frozen? ⟨w.heap.size + 1, 0, none⟩ = false := (hb1.frozen (by simp)).trans (by simp [go_sem])
  have q3 : w1.frozen? ⟨w.heap.size + 1, 1, none⟩ = false := (hb1.frozen (by simp)).trans (by simp [go_sem])
  have r0 : w1.cell? ⟨w.heap.size + 1 + 1, 0, none⟩ = some (.slice none 0 0) := (hb1.cell (by simp)).trans (by simp [go_sem])
  have r1 : w1.cell? ⟨w.heap.size + 1 + 1, 1, none⟩ = some (.slice none 0 0) := (hb1.cell (by simp)).trans (by simp [go_sem])
  have r2 : w1.frozen? ⟨w.heap.size + 1 + 1, 0, none⟩ = false := (hb1.frozen (by simp)).trans (by simp [go_sem])
  have r3 : w1.frozen? ⟨w.heap.size + 1 + 1, 1, none⟩ = false := (hb1.frozen (by simp)).trans (by simp [go_sem])
  have HB1 := Lib.hid (HV.out.trans (hb1.mono (by simp; omega)))
  have HO1 := Lib.hid ho1
  have HF1 := Lib.hid (show ∀ x ∈ F1, w.heap.size + 3 ≤ x from fun x hx => by have := hf1 x hx; simp at this; omega)
  clear hf1
  have HC1 := Lib.hid (HW.out.trans (hb1.mono (by simp; omega)))
  clear hb1 ho1
  obtain ⟨pn, cn, rfl⟩ := HO1.out.sl.form
  go_wp2_with fail
  refine (toIntS_any g.es b B _ (hb.below (HC1.out.setCell (by simp; omega) _)) (by simp; omega) h2).mono ?_
  rintro e w2 ⟨v2, F2, rfl, ho2, hf2, hb2⟩
  have hz : (w1.setCell ⟨w.heap.size + 1 + 1, 0, none⟩ (.slice pn g.ns.length cn)).heap.size = w1.heap.size := by simp
  have hs2 : w1.heap.size ≤ w2.heap.size := by have := hb2.size; simp at this; omega
  have q0' : w2.cell? ⟨w.heap.size + 1, 0, none⟩ = some (.slice none 0 0) := ((hb2.cell (by simp; omega)).trans (set_far _ _ _ _ _ _ (by omega))).trans q0
  have q1' : w2.cell? ⟨w.heap.size + 1, 1, none⟩ = some (.slice none 0 0) := ((hb2.cell (by simp; omega)).trans (set_far _ _ _ _ _ _ (by omega))).trans q1
  have q2' : w2.frozen? ⟨w.heap.size + 1, 0, none⟩ = false := ((hb2.frozen (by simp; omega)).trans (by simp [go_sem])).trans q2
  have q3' : w2.frozen? ⟨w.heap.size + 1, 1, none⟩ = false := ((hb2.frozen (by simp; omega)).trans (by simp [go_sem])).trans q3
  have r0' : w2.cell? ⟨w.heap.size + 1 + 1, 0, none⟩ = some (.slice pn g.ns.length cn) := (hb2.cell (by simp; omega)).trans (set_same _ _ _ _ _ r0)
  have r1' : w2.cell? ⟨w.heap.size + 1 + 1, 1, none⟩ = some (.slice none 0 0) := ((hb2.cell (by simp; omega)).trans (set_near _ _ _ _ _ (by omega))).trans r1
  have r2' : w2.frozen? ⟨w.heap.size + 1 + 1, 0, none⟩ = false := ((hb2.frozen (by simp; omega)).trans (by simp [go_sem])).trans r2
  have r3' : w2.frozen? ⟨w.heap.size + 1 + 1, 1, none⟩ = false := ((hb2.frozen (by simp; omega)).trans (by simp [go_sem])).trans r3
  have HB2 := Lib.hid ((HB1.out.setCell (p := ⟨w.heap.size + 1 + 1, 0, none⟩) (by simp; omega) (.slice pn g.ns.length cn)).trans (hb2.mono (by simp; omega)))
  have HD2 := Lib.hid hb2
  have HO2 := Lib.hid ho2
  have HF2 := Lib.hid (show ∀ x ∈ F2, w1.heap.size ≤ x from fun x hx => by have := hf2 x hx; simp at this; omega)
  clear hf2
  clear hb2 ho2 p1 q0 q1 q2 q3 r0 r1 r2 r3
  obtain ⟨pe, ce, rfl⟩ := HO2.out.sl.form
  go_wp2_with fail
  refine bodyPost_ret (v := .agg #[.slice pn g.ns.length cn, .slice pe g.es.length ce]) (by simp [results, Try.results69, go_sem, q0', q1']) rfl ⟨_, F1, F2, rfl, ?_, ((HB2.out.setCell (by simp; omega) _).setCell (by simp) _).setCell (by simp) _⟩
  have g1 := fun x hx => HF1.out x hx
  have g2 := fun x hx => HF2.out x hx
  have hl1 := HO1.out.lt
  have hc1 : Chg [w.heap.size + 1 + 1] w1 w2 := ((Chg.refl [w.heap.size + 1 + 1] w1).setCell (by simp) _).then_below HD2.out
  have hc2 : Chg [w.heap.size + 1 + 1, w.heap.size + 1] w2 (((w2.setCell ⟨w.heap.size + 1 + 1, 1, none⟩ (.slice pe g.es.length ce)).setCell ⟨w.heap.size + 1, 0, none⟩ (.slice pn g.ns.length cn)).setCell ⟨w.heap.size + 1, 1, none⟩ (.slice pe g.es.length ce)) :=
    (((Chg.refl _ w2).setCell (by simp) _).setCell (by simp) _).setCell (by simp) _
  refine ⟨_, _, rfl, (HO1.out.chg hc1 ?_).chg hc2 ?_, HO2.out.chg hc2 ?_, ?_, ?_, ?_⟩
  · intro x hx; have := g1 x hx; simp; omega
  · intro x hx; have := g1 x hx; simp; omega
  · intro x hx; have := g2 x hx; simp; omega
  · intro x hx; have := g1 x hx; omega
  · intro x hx; have := g2 x hx; omega
  · intro x hx hx2; have := hl1 x hx; have := g2 x hx2; omega

theorem toWalk_any (x : Wk) (v : Value) (B : Nat) (w : World) (hx : x.At B w v) (hB : B ≤ w.heap.size) (hn : x.need ≤ 1048576) :
    Calls Try.prog 69 #[v] w fun e w' => ∃ v' F, e = .returned v' ∧ x.Has v' F w' ∧ (∀ y ∈ F, w.heap.size ≤ y) ∧ Below w.heap.size w w' := by
  have h1 : x.ns.length ≤ 1048576 := by unfold Wk.need at hn; omega
  have h2 : x.es.length ≤ 1048576 := by unfold Wk.need at hn; omega
  refine (toWalk_raw x v B w hx hB h1 h2).mono ?_
  rintro e w' ⟨v', F1, F2, rfl, ⟨a, b, rfl, o1, o2, l1, l2, hd⟩, hb⟩
  refine ⟨_, F1 ++ F2, rfl, ⟨a, b, F1, F2, rfl, rfl, o1, o2, hd⟩, fun y hy => ?_, hb⟩
  rcases List.mem_append.1 hy with hy | hy
  · exact l1 y hy
  · exact l2 y hy

set_option maxHeartbeats 1000000 in
theorem eqWalk_any (g : Wk) (v v' : Value) (B : Nat) (w : World) (hg : g.At B w v) (hg' : g.At B w v') (hB : B ≤ w.heap.size) :
    Calls Try.prog 72 #[v, v'] w fun e w' => e = .returned (.bool true) ∧ Below w.heap.size w w' := by
  obtain ⟨a, b, rfl, ha, hb⟩ := hg
  obtain ⟨a', b', rfl, ha', hb'⟩ := hg'
  go_enter Try.func72, Try.ntmps72
  go_wp2_with fail
  have HW := Lib.hid (((Below.refl B w).alloc hB (.cells #[a, b] 50)).alloc (by simp; omega) (.cells #[a', b'] 50))
  refine (eqIntS_any g.ns a a' B _ (ha.below HW.out) (ha'.below HW.out) (by simp; omega)).mono ?_
  rintro e w1 ⟨rfl, hb1⟩
  have hs1 : w.heap.size + 2 ≤ w1.heap.size := by have := hb1.size; simp at this; omega
  have p1 : w1.cell? ⟨w.heap.size, 1, none⟩ = some b := (hb1.cell (by simp; omega)).trans (by simp [go_sem])
  have q1 : w1.cell? ⟨w.heap.size + 1, 1, none⟩ = some b' := (hb1.cell (by simp)).trans (by simp [go_sem])
  have HB1 := Lib.hid ((((Below.refl w.heap.size w).alloc (by simp) (.cells #[a, b] 50)).alloc (by simp) (.cells #[a', b'] 50)).trans (hb1.mono (by simp; omega)))
  clear hb1
  go_wp2_with fail
  refine (eqIntS_any g.es b b' B _ (hb.below (HB1.out.mono hB)) (hb'.below (HB1.out.mono hB)) (by omega)).mono ?_
  rintro e w2 ⟨rfl, hb2⟩
  have HB2 := Lib.hid (HB1.out.trans (hb2.mono (by omega)))
  clear hb2
  go_wp2_with fail
  go_ret
  exact ⟨rfl, HB2.out⟩

def Wk.marked (x : Wk) (m : Int) : Wk := ⟨(List.range x.ns.length).map (mkInt m), (List.range x.es.length).map (mkInt (m + x.ns.length))⟩

end Go.Proofs.Ytggpnnoldjpmcaa
namespace Go.Proofs.Ytggpnnoldjpmcaa
open Go.RowKit

structure Bn where
  v : ByteArray
  ids : List Int
  g : Bool
structure Mt where
  w : Wk
  bs : List Bn
def Bn.Ok (b : Bn) : Prop := b.v.size ≤ maxLen ∧ ∀ n ∈ b.ids, I64 n
def Mt.Ok (m : Mt) : Prop := m.w.Ok ∧ ∀ b ∈ m.bs, b.Ok
def Bn.need (b : Bn) : Nat := b.v.size + b.ids.length
def sumBn (xs : List Bn) : Nat := (xs.map Bn.need).sum
theorem sumBn_succ (xs : List Bn) (k : Nat) (h : k < xs.length) : sumBn (xs.take (k + 1)) = sumBn (xs.take k) + xs[k].need := by
  unfold sumBn; rw [List.take_succ_eq_append_getElem h, List.map_append, List.sum_append]; simp only [List.map_cons, List.map_nil, List.sum_cons, List.sum_nil, Nat.add_zero]
theorem sumBn_le (xs : List Bn) (k : Nat) : sumBn (xs.take k) ≤ sumBn xs := by
  unfold sumBn
  have := congrArg (fun l => (l.map Bn.need).sum) (List.take_append_drop k xs)
  simp only [List.map_append, List.sum_append] at this; omega
theorem sumBn_get (xs : List Bn) (k : Nat) (h : k < xs.length) : xs[k].need ≤ sumBn xs := by
  have := sumBn_succ xs k h; have := sumBn_le xs (k + 1); omega
def Mt.need (m : Mt) : Nat := m.w.need + (m.bs.length + sumBn m.bs)
def kBn : Kd Bn := (kStr.and (kInt.row.and kBool)).via fun b => (b.v, b.ids, b.g)
theorem kBn_rd {B : Nat} {w : World} {b : Bn} {cs : List Value} : kBn.rd B w b cs ↔ ∃ s, cs = [.string b.v, s, .bool b.g] ∧ Sl 1 intCells B w s b.ids := by
  constructor
  · rintro ⟨c, d, rfl, rfl, c', d', rfl, ⟨v, rfl, h⟩, rfl⟩
    exact ⟨v, rfl, kInt_rd.1 h⟩
  · rintro ⟨s, rfl, h⟩
    exact ⟨[.string b.v], [s, .bool b.g], rfl, rfl, [s], [.bool b.g], rfl, ⟨s, rfl, kInt_rd.2 h⟩, rfl⟩
theorem kBn_ow {w : World} {b : Bn} {cs : List Value} {F : List Nat} : kBn.ow w b cs F ↔ ∃ s, cs = [.string b.v, s, .bool b.g] ∧ OwnSl 1 intCells w s b.ids F := by
  constructor
  · rintro ⟨c, d, F1, F2, rfl, rfl, _, ⟨rfl, rfl⟩, c', d', F3, F4, rfl, rfl, _, ⟨v, rfl, h⟩, rfl, rfl⟩
    exact ⟨v, rfl, by simpa using kInt_ow.1 h⟩
  · rintro ⟨s, rfl, h⟩
    exact ⟨[.string b.v], [s, .bool b.g], [], F, rfl, rfl, by simp, ⟨rfl, rfl⟩, [s], [.bool b.g], F, [], rfl, by simp, by simp, ⟨s, rfl, kInt_ow.2 h⟩, rfl, rfl⟩
/-- An element's cells, at an index. -/
theorem kBn_get {B : Nat} {w : World} {p : Option Addr} {n cap : Nat} {xs : List Bn} (h : kBn.Rd B w (.slice p n cap) xs) {k : Nat} (hk : k < xs.length) :
    ∃ b off q c, p = some ⟨b, off, none⟩ ∧ b < B ∧ w.cell? ⟨b, off + k * 3, none⟩ = some (.string xs[k].v) ∧ w.cell? ⟨b, off + k * 3 + 1, none⟩ = some (.slice q xs[k].ids.length c) ∧ w.cell? ⟨b, off + k * 3 + 2, none⟩ = some (.bool xs[k].g) ∧ Sl 1 intCells B w (.slice q xs[k].ids.length c) xs[k].ids := by
  obtain ⟨b, off, cs, e, hl, hc, hr⟩ := h.get hk
  obtain ⟨s, rfl, hs⟩ := kBn_rd.1 hr
  obtain ⟨q, c, rfl⟩ := hs.form
  exact ⟨b, off, q, c, e, hl, hc 0 _ rfl, hc 1 _ rfl, hc 2 _ rfl, hs⟩
/-- The value of a struct Match. -/
def Mt.At (m : Mt) (B : Nat) (w : World) (v : Value) : Prop := ∃ a b c, v = .agg #[a, b, c] ∧ Sl 1 intCells B w a m.w.ns ∧ Sl 1 intCells B w b m.w.es ∧ kBn.Rd B w c m.bs
theorem Mt.At.to {m : Mt} {B B' : Nat} {w w' : World} {v : Value} (h : m.At B w v) (hb : Below B w w') (hB : B ≤ B') : m.At B' w' v := by
  obtain ⟨a, b, c, h1, h2, h3, h4⟩ := h
  exact ⟨a, b, c, h1, (h2.below hb).mono hB, (h3.below hb).mono hB, h4.to hb hB⟩
theorem Mt.At.form {m : Mt} {B : Nat} {w : World} {v : Value} (h : m.At B w v) : ∃ p c q d r e, v = .agg #[.slice p m.w.ns.length c, .slice q m.w.es.length d, .slice r m.bs.length e] := by
  obtain ⟨a, b, c, rfl, h1, h2, h3⟩ := h
  obtain ⟨p, c, rfl⟩ := h1.form
  obtain ⟨q, d, rfl⟩ := h2.form
  obtain ⟨r, e, rfl⟩ := h3.form
  exact ⟨p, c, q, d, r, e, rfl⟩
/-- A match in memory of the call's own, in the blocks F. -/
def Mt.Has (m : Mt) (v : Value) (F : List Nat) (u : World) : Prop :=
  ∃ a b c F1 F2, v = .agg #[a, b, c] ∧ F = F1 ++ F2 ∧ m.w.Has (.agg #[a, b]) F1 u ∧ kBn.Ow u c m.bs F2 ∧ ∀ y ∈ F1, y ∉ F2
theorem Mt.Has.at {m : Mt} {v : Value} {F : List Nat} {w : World} (h : m.Has v F w) : m.At w.heap.size w v := by
  obtain ⟨a, b, c, F1, F2, rfl, rfl, h1, h2, _⟩ := h
  obtain ⟨_, _, e, h3, h4⟩ := h1.at
  cases e
  exact ⟨a, b, c, rfl, h3, h4, h2.rd⟩
theorem Mt.Has.chg {m : Mt} {v : Value} {F G : List Nat} {w w' : World} (h : m.Has v F w) (hc : Chg G w w') (hd : ∀ y ∈ F, y ∉ G) : m.Has v F w' := by
  obtain ⟨a, b, c, F1, F2, rfl, rfl, h1, h2, h3⟩ := h
  exact ⟨a, b, c, F1, F2, rfl, rfl, h1.chg hc (fun y hy => hd y (List.mem_append_left _ hy)), h2.chg hc (fun y hy => hd y (List.mem_append_right _ hy)), h3⟩
theorem Mt.Has.lt {m : Mt} {v : Value} {F : List Nat} {w : World} (h : m.Has v F w) : ∀ y ∈ F, y < w.heap.size := by
  obtain ⟨a, b, c, F1, F2, rfl, rfl, h1, h2, h3⟩ := h
  intro y hy
  rcases List.mem_append.1 hy with hy | hy
  · exact h1.lt y hy
  · exact h2.lt y hy
theorem Mt.goes (m : Mt) : Goes m.Has := fun _ _ _ _ _ h hc hd => h.chg hc hd
end Go.Proofs.Ytggpnnoldjpmcaa
namespace Go.Proofs.Ytggpnnoldjpmcaa
open Go.RowKit

def intE (x y : Int) : Bool := x == y
def wkShape (x : Wk) : Bool := decide (x.ns.length = x.es.length + 1) && decide (x.es.length ≤ 8)
theorem wkShape_iff {x : Wk} : wkShape x = true ↔ x.ns.length = x.es.length + 1 ∧ x.es.length ≤ 8 := by simp [wkShape]
theorem wkShape_not {x : Wk} : wkShape x = false ↔ ¬ (x.ns.length = x.es.length + 1 ∧ x.es.length ≤ 8) := by rw [← wkShape_iff]; simp
def wkEq (a b : Wk) : Bool := eqL intE a.ns b.ns && eqL intE a.es b.es

/-- None of the first k numbers stands further ahead in the list. -/
def Once (xs : List Int) (k : Nat) : Prop := ∀ (i j : Nat) (hi : i < xs.length) (hj : j < i), i < k → xs[j] ≠ xs[i]
theorem Once.zero (xs : List Int) : Once xs 0 := fun _ _ _ _ h => by omega
theorem Once.succ {xs : List Int} {k : Nat} (h : Once xs k) (hn : ∀ (j : Nat) (hk : k < xs.length) (hj : j < k), xs[j] ≠ xs[k]) : Once xs (k + 1) := by
  intro i j hi hj hik
  by_cases e : i = k
  · subst e; exact hn j hi hj
  · exact h i j hi hj (by omega)
def onceB (xs : List Int) : Bool := decide xs.Nodup
theorem onceB_yes {xs : List Int} {k : Nat} (h : Once xs k) (hk : xs.length ≤ k) : onceB xs = true := by
  unfold onceB
  rw [decide_eq_true_iff, List.Nodup, List.pairwise_iff_getElem]
  intro i j hi hj hij
  exact h j i hj hij (by omega)
theorem onceB_no {xs : List Int} {i j : Nat} (hi : i < xs.length) (hj : j < i) (h : xs[j] = xs[i]) : onceB xs = false := by
  unfold onceB
  rw [decide_eq_false_iff_not, List.Nodup, List.pairwise_iff_getElem]
  intro hn
  exact hn j i (by omega) hi hj h

def modeB (x : Wk) (m : Int) : Bool :=
  if m = 1 then true else if m = 2 then onceB x.es else if m = 3 then onceB x.ns else if m = 4 then onceB (x.ns.drop 1) && onceB (x.ns.take x.es.length) else false
def wkMode (x : Wk) (m : Int) : Bool := wkShape x && modeB x m
/-- A walk's nodes, but for the first one and the last one, are there once: both readings. -/
theorem simple_iff {x : Wk} (h : wkShape x = true) (h0 : 0 < x.ns.length) (h1 : x.ns.length - 1 < x.ns.length) : (onceB (x.ns.drop 1) && onceB (x.ns.take x.es.length)) = if 1 < x.ns.length ∧ x.ns[0] = x.ns[x.ns.length - 1] then onceB (x.ns.drop 1) else onceB x.ns := by
  obtain ⟨hs, _⟩ := wkShape_iff.1 h
  obtain ⟨ns, es⟩ := x
  simp only at *
  unfold onceB
  have key : es.length = ns.length - 1 := by omega
  rw [key]
  have hnd : ∀ l : List Int, l.Nodup ↔ ∀ (i j : Nat) (hi : i < l.length) (hj : j < l.length), i < j → l[i] ≠ l[j] := fun l => by rw [List.Nodup, List.pairwise_iff_getElem]
  by_cases hc : 1 < ns.length ∧ ns[0] = ns[ns.length - 1]
  · rw [if_pos hc]
    by_cases ht : (ns.drop 1).Nodup
    · have hi : (ns.take (ns.length - 1)).Nodup := by
        rw [hnd] at ht ⊢
        intro i j hi hj hij
        simp only [List.length_take, List.length_drop] at hi hj ht
        rw [List.getElem_take, List.getElem_take]
        by_cases e : i = 0
        · subst e
          have := ht (j - 1) (ns.length - 2) (by omega) (by omega) (by omega)
          rw [List.getElem_drop, List.getElem_drop] at this
          simp only [show 1 + (j - 1) = j by omega, show 1 + (ns.length - 2) = ns.length - 1 by omega] at this
          rw [hc.2]; exact fun e => this e.symm
        · have := ht (i - 1) (j - 1) (by omega) (by omega) (by omega)
          rw [List.getElem_drop, List.getElem_drop] at this
          simp only [show 1 + (j - 1) = j by omega, show 1 + (i - 1) = i by omega] at this
          exact this
      rw [decide_eq_true ht, decide_eq_true hi]; rfl
    · rw [decide_eq_false ht]; rfl
  · rw [if_neg hc]
    by_cases ha : ns.Nodup
    · have h1 : (ns.drop 1).Nodup := ha.sublist (List.drop_sublist 1 ns)
      have h2 : (ns.take (ns.length - 1)).Nodup := ha.sublist (List.take_sublist _ ns)
      rw [decide_eq_true ha, decide_eq_true h1, decide_eq_true h2]; rfl
    · have : ¬ ((ns.drop 1).Nodup ∧ (ns.take (ns.length - 1)).Nodup) := by
        rintro ⟨ht, hi⟩
        apply ha
        rw [hnd] at ht hi ⊢
        intro i j hli hlj hij
        simp only [List.length_take, List.length_drop] at ht hi
        by_cases e : i = 0
        · subst e
          by_cases e2 : j = ns.length - 1
          · subst e2; exact fun e => hc ⟨by omega, e⟩
          · have := hi 0 j (by omega) (by omega) hij
            rw [List.getElem_take, List.getElem_take] at this
            exact this
        · have := ht (i - 1) (j - 1) (by omega) (by omega) (by omega)
          rw [List.getElem_drop, List.getElem_drop] at this
          simp only [show 1 + (j - 1) = j by omega, show 1 + (i - 1) = i by omega] at this
          exact this
      rw [decide_eq_false ha]
      exact Bool.eq_false_iff.2 fun hh => this (by simpa only [Bool.and_eq_true, decide_eq_true_eq] using hh)

/-- The order of two lists: -1, 0, 1. -/
def cmpL : List Int → List Int → Int
  | [], [] => 0
  | [], _ :: _ => -1
  | _ :: _, [] => 1
  | x :: xs, y :: ys => if x < y then -1 else if y < x then 1 else cmpL xs ys
theorem cmpL_cases : ∀ xs ys, cmpL xs ys = -1 ∨ cmpL xs ys = 0 ∨ cmpL xs ys = 1
  | [], [] => by simp [cmpL]
  | [], _ :: _ => by simp [cmpL]
  | _ :: _, [] => by simp [cmpL]
  | x :: xs, y :: ys => by
    unfold cmpL
    split
    · simp
    · split
      · simp
      · exact cmpL_cases xs ys
/-- The first k places agree. -/
def Alike (xs ys : List Int) (k : Nat) : Prop := cmpL xs ys = cmpL (xs.drop k) (ys.drop k)
theorem Alike.zero (xs ys : List Int) : Alike xs ys 0 := by simp [Alike]
theorem Alike.step {xs ys : List Int} {k : Nat} (h : Alike xs ys k) (h1 : k < xs.length) (h2 : k < ys.length) :
    cmpL xs ys = if xs[k] < ys[k] then -1 else if ys[k] < xs[k] then 1 else cmpL (xs.drop (k + 1)) (ys.drop (k + 1)) := by
  unfold Alike at h
  rw [h, List.drop_eq_getElem_cons h1, List.drop_eq_getElem_cons h2]
  rfl
theorem Alike.lt {xs ys : List Int} {k : Nat} (h : Alike xs ys k) (h1 : k < xs.length) (h2 : k < ys.length) (hc : xs[k] < ys[k]) : cmpL xs ys = -1 := by rw [h.step h1 h2, if_pos hc]
theorem Alike.gt {xs ys : List Int} {k : Nat} (h : Alike xs ys k) (h1 : k < xs.length) (h2 : k < ys.length) (hc : ys[k] < xs[k]) : cmpL xs ys = 1 := by rw [h.step h1 h2, if_neg (by omega), if_pos hc]
theorem Alike.eq {xs ys : List Int} {k : Nat} (h : Alike xs ys k) (h1 : k < xs.length) (h2 : k < ys.length) (hc : ¬ xs[k] < ys[k]) (hd : ¬ ys[k] < xs[k]) : Alike xs ys (k + 1) := by
  unfold Alike; rw [h.step h1 h2, if_neg hc, if_neg hd]
theorem Alike.long {xs ys : List Int} {k : Nat} (h : Alike xs ys k) (h1 : k < xs.length) (h2 : ys.length ≤ k) : cmpL xs ys = 1 := by
  unfold Alike at h
  rw [h, List.drop_eq_getElem_cons h1, List.drop_of_length_le h2]; rfl
theorem Alike.short {xs ys : List Int} {k : Nat} (h : Alike xs ys k) (h1 : xs.length ≤ k) (h2 : k < ys.length) : cmpL xs ys = -1 := by
  unfold Alike at h
  rw [h, List.drop_eq_getElem_cons h2, List.drop_of_length_le h1]; rfl
theorem Alike.same {xs ys : List Int} {k : Nat} (h : Alike xs ys k) (h1 : xs.length ≤ k) (h2 : ys.length ≤ k) : cmpL xs ys = 0 := by
  unfold Alike at h
  rw [h, List.drop_of_length_le h1, List.drop_of_length_le h2]; rfl
def cmpI (a b : Int) : Int := if a < b then -1 else if b < a then 1 else 0
/-- The order of two walks: -1, 0, 1. -/
def cmpW (a b : Wk) : Int :=
  if cmpI a.es.length b.es.length ≠ 0 then cmpI a.es.length b.es.length else if cmpL a.ns b.ns ≠ 0 then cmpL a.ns b.ns else cmpL a.es b.es
def wkBefore (a b : Wk) : Bool := decide (cmpW a b < 0)

def wkTurn (x : Wk) : Wk := ⟨x.ns.reverse, x.es.reverse⟩
def joinOk (a b : Wk) : Bool := wkShape a && wkShape b && (a.ns.getLast? == b.ns.head?) && decide (a.es.length + b.es.length ≤ 8)
def wkJoin (a b : Wk) : Wk := if joinOk a b then ⟨a.ns ++ b.ns.drop 1, a.es ++ b.es⟩ else ⟨[], []⟩
end Go.Proofs.Ytggpnnoldjpmcaa
namespace Go.Proofs.Ytggpnnoldjpmcaa
open Go.RowKit

theorem two_more {B : Nat} {w : World} (hB : B ≤ w.heap.size) (o o' : Obj) : Below B w ((w.alloc o).alloc o') := ((Below.refl B w).alloc hB _).alloc (by simp; omega) _

set_option maxRecDepth 100000 in
set_option maxHeartbeats 1000000 in
theorem slEqualInt_any (xs ys : List Int) (v v' : Value) (B : Nat) (w : World) (hv : Sl 1 intCells B w v xs) (hv' : Sl 1 intCells B w v' ys) (hB : B ≤ w.heap.size) :
    Calls Try.prog 99 #[v, v'] w fun e w' => e = .returned (.bool (eqL intE xs ys)) ∧ Below w.heap.size w w' := by
  obtain ⟨p, cap, rfl⟩ := hv.form
  obtain ⟨p', cap', rfl⟩ := hv'.form
  have hm := hv.max
  have hm' := hv'.max
  unfold maxLen at hm hm'
  by_cases hlen : xs.length = ys.length
  · have q1 : ((xs.length : Int) != (ys.length : Int)) = false := by rw [hlen]; simp
    have HL := Lib.hid hlen
    have hl1 : xs.length ≤ ys.length := by omega
    have hl2 : ys.length ≤ xs.length := by omega
    clear hlen
    go_enter Try.func99, Try.ntmps99
    go_wp2_with fail
    go_loopw [13] (fun i wr => ∃ k : Nat, k ≤ xs.length ∧ i = .int .i64 k ∧ AllE intE xs ys k ∧ Below w.heap.size w wr) (fun i _ => xs.length - (intOf i).toNat)
    case atStart => exact ⟨0, Nat.zero_le _, rfl, AllE.zero _ _ _, Below.refl _ _⟩
    case round =>
      obtain ⟨k, hk, rfl, ha, hbw⟩ := hrel
      have hsz := hbw.size
      have HB := Lib.hid hbw
      clear hbw
      by_cases hlt2 : k < xs.length
      · have hlt3 : k < ys.length := by omega
        obtain ⟨b, off, rfl, hb, c0⟩ := (hv.below (HB.out.mono hB)).it hlt2
        obtain ⟨b', off', rfl, hb', d0⟩ := (hv'.below (HB.out.mono hB)).it hlt3
        have HA := Lib.hid ha
        have hgood := Lib.hid (fun h => ha.succ (f := intE) hlt2 hlt3 h)
        have hbad := Lib.hid (fun h => eqL_bad (f := intE) (xs := xs) (ys := ys) k hlt2 hlt3 h)
        clear ha
        obtain ⟨x, ex⟩ : ∃ x, x = xs[k] := ⟨_, rfl⟩
        obtain ⟨y, ey⟩ : ∃ y, y = ys[k] := ⟨_, rfl⟩
        rw [← ex, ← ey] at hgood hbad
        rw [← ex] at c0
        rw [← ey] at d0
        clear ex ey
        by_cases hE : x = y
        · have HG := Lib.hid (hgood.out (by unfold intE; simpa using hE))
          subst hE
          go_wp2_with fail
          go_still_tail 8, (by kernel_rfl)
          go_wp2_with fail
          go_roundw
          case rel => exact ⟨k + 1, by omega, by go_num, HG.out, HB.out.drew⟩
          case measure => simp [intOf]; omega
        · have hq : (x != y) = true := by simpa using hE
          have HG := Lib.hid (hbad.out (by unfold intE; simpa using hE))
          clear hE
          go_wp2_with fail
          go_still_tail 8, (by kernel_rfl)
          go_wp2_with fail
          go_ret
          exact ⟨ret_bool (by rw [HG.out]), HB.out.drew⟩
      · have HG := Lib.hid (ha.full (by omega) HL.out)
        go_wp2_with fail
        go_ret
        exact ⟨ret_bool (by rw [HG.out]), HB.out⟩
  · have q1 : ((xs.length : Int) != (ys.length : Int)) = true := by simp; omega
    have HL := Lib.hid (eqL_len (f := intE) hlen)
    clear hlen
    go_enter Try.func99, Try.ntmps99
    go_wp2_with fail
    go_ret
    exact ⟨ret_bool (by rw [HL.out]), Below.refl _ _⟩
set_option maxRecDepth 100000 in
set_option maxHeartbeats 1000000 in
theorem l5Ints_any (xs ys : List Int) (v v' : Value) (B : Nat) (w : World) (hv : Sl 1 intCells B w v xs) (hv' : Sl 1 intCells B w v' ys) (hB : B ≤ w.heap.size) :
    Calls Try.prog 53 #[v, v'] w fun e w' => e = .returned (.bool (eqL intE xs ys)) ∧ Below w.heap.size w w' := by
  obtain ⟨p, cap, rfl⟩ := hv.form
  obtain ⟨p', cap', rfl⟩ := hv'.form
  have hm := hv.max
  have hm' := hv'.max
  unfold maxLen at hm hm'
  by_cases hlen : xs.length = ys.length
  · have q1 : ((xs.length : Int) != (ys.length : Int)) = false := by rw [hlen]; simp
    have HL := Lib.hid hlen
    have hl1 : xs.length ≤ ys.length := by omega
    have hl2 : ys.length ≤ xs.length := by omega
    clear hlen
    go_enter Try.func53, Try.ntmps53
    go_wp2_with fail
    go_loopw [5] (fun i wr => ∃ k : Nat, k ≤ xs.length ∧ i = .int .i64 k ∧ AllE intE xs ys k ∧ Below w.heap.size w wr) (fun i _ => xs.length - (intOf i).toNat)
    case atStart => exact ⟨0, Nat.zero_le _, rfl, AllE.zero _ _ _, Below.refl _ _⟩
    case round =>
      obtain ⟨k, hk, rfl, ha, hbw⟩ := hrel
      have hsz := hbw.size
      have HB := Lib.hid hbw
      clear hbw
      by_cases hlt2 : k < xs.length
      · have hlt3 : k < ys.length := by omega
        obtain ⟨b, off, rfl, hb, c0⟩ := (hv.below (HB.out.mono hB)).it hlt2
        obtain ⟨b', off', rfl, hb', d0⟩ := (hv'.below (HB.out.mono hB)).it hlt3
        have HA := Lib.hid ha
        have hgood := Lib.hid (fun h => ha.succ (f := intE) hlt2 hlt3 h)
        have hbad := Lib.hid (fun h => eqL_bad (f := intE) (xs := xs) (ys := ys) k hlt2 hlt3 h)
        clear ha
        obtain ⟨x, ex⟩ : ∃ x, x = xs[k] := ⟨_, rfl⟩
        obtain ⟨y, ey⟩ : ∃ y, y = ys[k] := ⟨_, rfl⟩
        rw [← ex, ← ey] at hgood hbad
        rw [← ex] at c0
        rw [← ey] at d0
        clear ex ey
        by_cases hE : x = y
        · have HG := Lib.hid (hgood.out (by unfold intE; simpa using hE))
          subst hE
          go_wp2_with fail
          go_still_tail 8, (by kernel_rfl)
          go_wp2_with fail
          go_roundw
          case rel => exact ⟨k + 1, by omega, by go_num, HG.out, HB.out.drew⟩
          case measure => simp [intOf]; omega
        · have hq : (x != y) = true := by simpa using hE
          have HG := Lib.hid (hbad.out (by unfold intE; simpa using hE))
          clear hE
          go_wp2_with fail
          go_still_tail 8, (by kernel_rfl)
          go_wp2_with fail
          go_ret
          exact ⟨ret_bool (by rw [HG.out]), HB.out.drew⟩
      · have HG := Lib.hid (ha.full (by omega) HL.out)
        go_wp2_with fail
        go_ret
        exact ⟨ret_bool (by rw [HG.out]), HB.out⟩
  · have q1 : ((xs.length : Int) != (ys.length : Int)) = true := by simp; omega
    have HL := Lib.hid (eqL_len (f := intE) hlen)
    clear hlen
    go_enter Try.func53, Try.ntmps53
    go_wp2_with fail
    go_ret
    exact ⟨ret_bool (by rw [HL.out]), Below.refl _ _⟩
set_option maxRecDepth 100000 in
set_option maxHeartbeats 1000000 in
theorem walkSame_any (x y : Wk) (v v' : Value) (B : Nat) (w : World) (hx : x.At B w v) (hy : y.At B w v') (hB : B ≤ w.heap.size) :
    Calls Try.prog 70 #[v, v'] w fun e w' => e = .returned (.bool (wkEq x y)) ∧ Below w.heap.size w w' := by
  obtain ⟨a, b, rfl, ha, hb⟩ := hx
  obtain ⟨a', b', rfl, ha', hb'⟩ := hy
  have H1 := Lib.hid ha
  have H2 := Lib.hid hb
  have H3 := Lib.hid ha'
  have H4 := Lib.hid hb'
  clear ha hb ha' hb'
  go_enter Try.func70, Try.ntmps70
  go_wp2_with fail
  refine (slEqualInt_any x.ns y.ns a a' B _ (H1.out.below (two_more hB _ _)) (H3.out.below (two_more hB _ _)) (by simp; omega)).mono ?_
  rintro e w1 ⟨rfl, hb1⟩
  obtain ⟨hs1, _, p1, _, q1⟩ := two_boxes (hb1.mono (by simp))
  have HB1 := Lib.hid ((two_more (Nat.le_refl _) _ _).trans (hb1.mono (by simp; omega)))
  clear hb1
  by_cases e1 : eqL intE x.ns y.ns = true
  · have E1 := Lib.hid e1
    go_wp2_with fail
    refine (slEqualInt_any x.es y.es b b' B _ (H2.out.below (HB1.out.mono hB)) (H4.out.below (HB1.out.mono hB)) (by omega)).mono ?_
    rintro e w2 ⟨rfl, hb2⟩
    have HB2 := Lib.hid (HB1.out.trans (hb2.mono (by omega)))
    clear hb2
    go_wp2_with fail
    go_ret
    exact ⟨ret_bool (by unfold wkEq; rw [E1.out]; rfl), HB2.out⟩
  · have E1 := Lib.hid (Bool.eq_false_iff.2 e1)
    go_wp2_with fail
    go_ret
    exact ⟨ret_bool (by unfold wkEq; rw [E1.out]; rfl), HB1.out⟩
set_option maxRecDepth 100000 in
set_option maxHeartbeats 1000000 in
theorem specWalkSame_any (x y : Wk) (v v' : Value) (B : Nat) (w : World) (hx : x.At B w v) (hy : y.At B w v') (hB : B ≤ w.heap.size) :
    Calls Try.prog 67 #[v, v'] w fun e w' => e = .returned (.bool (wkEq x y)) ∧ Below w.heap.size w w' := by
  obtain ⟨a, b, rfl, ha, hb⟩ := hx
  obtain ⟨a', b', rfl, ha', hb'⟩ := hy
  have H1 := Lib.hid ha
  have H2 := Lib.hid hb
  have H3 := Lib.hid ha'
  have H4 := Lib.hid hb'
  clear ha hb ha' hb'
  go_enter Try.func67, Try.ntmps67
  go_wp2_with fail
  refine (l5Ints_any x.ns y.ns a a' B _ (H1.out.below (two_more hB _ _)) (H3.out.below (two_more hB _ _)) (by simp; omega)).mono ?_
  rintro e w1 ⟨rfl, hb1⟩
  obtain ⟨hs1, _, p1, _, q1⟩ := two_boxes (hb1.mono (by simp))
  have HB1 := Lib.hid ((two_more (Nat.le_refl _) _ _).trans (hb1.mono (by simp; omega)))
  clear hb1
  by_cases e1 : eqL intE x.ns y.ns = true
  · have E1 := Lib.hid e1
    go_wp2_with fail
    refine (l5Ints_any x.es y.es b b' B _ (H2.out.below (HB1.out.mono hB)) (H4.out.below (HB1.out.mono hB)) (by omega)).mono ?_
    rintro e w2 ⟨rfl, hb2⟩
    have HB2 := Lib.hid (HB1.out.trans (hb2.mono (by omega)))
    clear hb2
    go_wp2_with fail
    go_ret
    exact ⟨ret_bool (by unfold wkEq; rw [E1.out]; rfl), HB2.out⟩
  · have E1 := Lib.hid (Bool.eq_false_iff.2 e1)
    go_wp2_with fail
    go_ret
    exact ⟨ret_bool (by unfold wkEq; rw [E1.out]; rfl), HB1.out⟩
set_option maxHeartbeats 400000 in
theorem hasShape_any (x : Wk) (v : Value) (B : Nat) (w : World) (hx : x.At B w v) (hn : x.need ≤ 1048576) :
    Calls Try.prog 110 #[v] w fun e w' => e = .returned (.bool (wkShape x)) ∧ Below w.heap.size w w' := by
  obtain ⟨a, b, rfl, ha, hb⟩ := hx
  obtain ⟨p, cap, rfl⟩ := ha.form
  obtain ⟨q, cq, rfl⟩ := hb.form
  have hm := ha.max
  have hm2 := hb.max
  unfold maxLen at hm hm2
  have hes : x.es.length ≤ 1048576 := by unfold Wk.need at hn; omega
  have hns : x.ns.length ≤ 1048576 := by unfold Wk.need at hn; omega
  clear ha hb hn
  by_cases h1 : x.ns.length = x.es.length + 1
  · by_cases h2 : x.es.length ≤ 8
    · have HG := Lib.hid (wkShape_iff.2 ⟨h1, h2⟩)
      have q1 : ((x.ns.length : Int) == (x.es.length : Int) + 1) = true := by simp; omega
      have q2 : decide ((x.es.length : Int) ≤ 8) = true := decide_eq_true (by omega)
      clear h1
      go_enter Try.func110, Try.ntmps110
      go_wp2_with fail
      go_ret
      exact ⟨ret_bool (by rw [HG.out]), (Below.refl _ _).alloc (Nat.le_refl _) _⟩
    · have HG := Lib.hid (wkShape_not.2 (fun h => h2 h.2))
      have q1 : ((x.ns.length : Int) == (x.es.length : Int) + 1) = true := by simp; omega
      have q2 : decide ((x.es.length : Int) ≤ 8) = false := decide_eq_false (by omega)
      clear h1
      go_enter Try.func110, Try.ntmps110
      go_wp2_with fail
      go_ret
      exact ⟨ret_bool (by rw [HG.out]), (Below.refl _ _).alloc (Nat.le_refl _) _⟩
  · have HG := Lib.hid (wkShape_not.2 (fun h => h1 h.1))
    have q1 : ((x.ns.length : Int) == (x.es.length : Int) + 1) = false := by simp; omega
    clear h1
    go_enter Try.func110, Try.ntmps110
    go_wp2_with fail
    go_ret
    exact ⟨ret_bool (by rw [HG.out]), (Below.refl _ _).alloc (Nat.le_refl _) _⟩
set_option maxHeartbeats 400000 in
theorem l5Shape_any (x : Wk) (v : Value) (B : Nat) (w : World) (hx : x.At B w v) (hn : x.need ≤ 1048576) :
    Calls Try.prog 103 #[v] w fun e w' => e = .returned (.bool (wkShape x)) ∧ Below w.heap.size w w' := by
  obtain ⟨a, b, rfl, ha, hb⟩ := hx
  obtain ⟨p, cap, rfl⟩ := ha.form
  obtain ⟨q, cq, rfl⟩ := hb.form
  have hm := ha.max
  have hm2 := hb.max
  unfold maxLen at hm hm2
  have hes : x.es.length ≤ 1048576 := by unfold Wk.need at hn; omega
  have hns : x.ns.length ≤ 1048576 := by unfold Wk.need at hn; omega
  clear ha hb hn
  by_cases h1 : x.ns.length = x.es.length + 1
  · by_cases h2 : x.es.length ≤ 8
    · have HG := Lib.hid (wkShape_iff.2 ⟨h1, h2⟩)
      have q1 : ((x.ns.length : Int) == (x.es.length : Int) + 1) = true := by simp; omega
      have q2 : decide ((x.es.length : Int) ≤ 8) = true := decide_eq_true (by omega)
      clear h1
      go_enter Try.func103, Try.ntmps103
      go_wp2_with fail
      go_ret
      exact ⟨ret_bool (by rw [HG.out]), (Below.refl _ _).alloc (Nat.le_refl _) _⟩
    · have HG := Lib.hid (wkShape_not.2 (fun h => h2 h.2))
      have q1 : ((x.ns.length : Int) == (x.es.length : Int) + 1) = true := by simp; omega
      have q2 : decide ((x.es.length : Int) ≤ 8) = false := decide_eq_false (by omega)
      clear h1
      go_enter Try.func103, Try.ntmps103
      go_wp2_with fail
      go_ret
      exact ⟨ret_bool (by rw [HG.out]), (Below.refl _ _).alloc (Nat.le_refl _) _⟩
  · have HG := Lib.hid (wkShape_not.2 (fun h => h1 h.1))
    have q1 : ((x.ns.length : Int) == (x.es.length : Int) + 1) = false := by simp; omega
    clear h1
    go_enter Try.func103, Try.ntmps103
    go_wp2_with fail
    go_ret
    exact ⟨ret_bool (by rw [HG.out]), (Below.refl _ _).alloc (Nat.le_refl _) _⟩
end Go.Proofs.Ytggpnnoldjpmcaa
namespace Go.Proofs.Ytggpnnoldjpmcaa
open Go

section
variable {P : Program} {ops : Array Oper} {Q : Exit → Act → World → Prop} {md : Region.Mode} {S : World → Prop}
/-- As wpAnyH_take; the operation is read off the list. -/
theorem takeL {i : Nat} {oi : Oper} {v : Value} {fuel : Nat} {listed : Array Bool} {a : Act} {w : World} (hi : ops.toList[i]? = some oi)
    (hs : Region.noSelect ops = true) (hf : Region.free md ops listed i = true) (hr : (Region.ready md ops listed).contains i = true)
    (hQ : ∀ c a w, Q (.panic c) (a.put oi.dst v) w → Q (.panic c) a w) (hy : YieldsIf P ops S oi v a) (hS : S w)
    (h : wpAnyH P md ops Q S fuel (listed.setIfInBounds i true) (a.put oi.dst v) w) : wpAnyH P md ops Q S (fuel + 1) listed a w :=
  wpAnyH_take (by simpa using hi) hs hf hr hQ hy hS h
/-- The one operation that may come up: a call. -/
theorem callL {i : Nat} {oi : Oper} {fuel : Nat} {listed : Array Bool} {a : Act} {w : World} (hi : ops.toList[i]? = some oi) (hr : Region.ready md ops listed = [i]) (hw : Region.wanted oi (yielded ops a.tmps) = true)
    (h : ∀ K' : Act → World → Prop, Shut (∀ a w, S w → (S w → wpAnyH P md ops Q S fuel (listed.setIfInBounds i true) a w) → K' a w) → Oper.wp P oi a w K' Q) : wpAnyH P md ops Q S (fuel + 1) listed a w :=
  wpAnyH_ready hr (by simp) (AllReadyH.cons (by simpa using hi) (fun K hK => by rw [if_pos hw]; exact h K hK) AllReadyH.nil)
/-- Two operations that may come up. -/
theorem twoL {i j : Nat} {oi oj : Oper} {fuel : Nat} {listed : Array Bool} {a : Act} {w : World} (hi : ops.toList[i]? = some oi) (hj : ops.toList[j]? = some oj) (hr : Region.ready md ops listed = [i, j]) (hw : Region.wanted oi (yielded ops a.tmps) = true) (hw2 : Region.wanted oj (yielded ops a.tmps) = true)
    (h : ∀ K' : Act → World → Prop, Shut (∀ a w, S w → (S w → wpAnyH P md ops Q S fuel (listed.setIfInBounds i true) a w) → K' a w) → Oper.wp P oi a w K' Q)
    (h2 : ∀ K' : Act → World → Prop, Shut (∀ a w, S w → (S w → wpAnyH P md ops Q S fuel (listed.setIfInBounds j true) a w) → K' a w) → Oper.wp P oj a w K' Q) : wpAnyH P md ops Q S (fuel + 1) listed a w :=
  wpAnyH_ready hr (by simp) (AllReadyH.cons (by simpa using hi) (fun K hK => by rw [if_pos hw]; exact h K hK) (AllReadyH.cons (by simpa using hj) (fun K hK => by rw [if_pos hw2]; exact h2 K hK) AllReadyH.nil))
end
end Go.Proofs.Ytggpnnoldjpmcaa
namespace Go.Proofs.Ytggpnnoldjpmcaa
open Go.RowKit

def lbl (s : ByteArray) : Bool := decide (s.size = 0) || lv s
def nm (n : Int) : Bool := decide (0 ≤ n) && decide (n ≤ 99)
theorem pv_eq (s : ByteArray) (n : Int) : pv s n = (lbl s && nm n) := rfl

end Go.Proofs.Ytggpnnoldjpmcaa
namespace Go.Proofs.Ytggpnnoldjpmcaa
open Go.RowKit

theorem grown_of_below {w w' : World} (h : Below w.heap.size w w') : w.grownBy w' none := ⟨h.os, h.tape, h.output, h.size, fun k hk _ => h.block k hk⟩
theorem ownsRow_below {w w' : World} {base : Nat} {e : TypeId} {size : Nat} {v : Value} {n : Nat} {xs : List Value} (h : w.ownsRow base e size v n xs) (hb : Below w.heap.size w w') : w'.ownsRow base e size v n xs :=
  h.kept (grown_of_below hb) (Classical.em _)
theorem own_of_row {w : World} {base : Nat} {e : TypeId} {v : Value} {xs : List Int} (h : w.ownsRow base e 1 v xs.length (xs.map (Value.int .i64))) : ∃ F, OwnSl 1 intCells w v xs F ∧ ∀ x ∈ F, base ≤ x := by
  obtain ⟨hl, h⟩ := h
  rcases h with ⟨rfl, h0⟩ | ⟨g, cap, cur, rfl, hb, hg, hn, hc, hs, ht⟩
  · exact ⟨[], ⟨none, 0, 0, rfl, h0.symm, Nat.le_refl _, Nat.zero_le _, .inl ⟨List.eq_nil_of_length_eq_zero h0, rfl⟩⟩, by simp⟩
  · refine ⟨[g], ⟨_, _, _, rfl, rfl, hn, hc, .inr ⟨g, 0, rfl, rfl, (Array.getElem?_eq_some_iff.1 hg).1, fun o => by simp [World.frozen?, hg], fun i hi j x hx => ?_⟩⟩, by simpa using hb⟩
    have hj : j = 0 := by
      have := (List.getElem?_eq_some_iff.1 hx).1
      simp [intCells] at this; omega
    subst hj
    have hx' : x = .int .i64 xs[i] := by simpa [intCells] using hx.symm
    have e1 : (cur.toList.take (xs.length * 1))[i]? = some (.int .i64 xs[i]) := by rw [ht]; simp [hi]
    rw [List.getElem?_take_of_lt (by omega)] at e1
    simp only [World.cell?, hg, Nat.zero_add, Nat.mul_one, Nat.add_zero]
    rw [hx', ← e1]; simp

/-- The places i < k whose edge answers yes. -/
def pick (p : Ed → Bool) (es : List Ed) : Nat → List Int
  | 0 => []
  | k + 1 => if (es[k]?.map p).getD false then pick p es k ++ [(k : Int)] else pick p es k
theorem pick_yes {p : Ed → Bool} {es : List Ed} {k : Nat} (h : k < es.length) (hp : p es[k] = true) : pick p es (k + 1) = pick p es k ++ [(k : Int)] := by
  simp [pick, List.getElem?_eq_getElem h, hp]
theorem pick_no {p : Ed → Bool} {es : List Ed} {k : Nat} (h : k < es.length) (hp : p es[k] = false) : pick p es (k + 1) = pick p es k := by
  simp [pick, List.getElem?_eq_getElem h, hp]
theorem pick_le (p : Ed → Bool) (es : List Ed) : ∀ k, (pick p es k).length ≤ k
  | 0 => Nat.le_refl _
  | k + 1 => by have := pick_le p es k; unfold pick; split <;> simp <;> omega
theorem gv_len {g : Gr} (h : gv g = true) : g.es.length ≤ 14 := by
  unfold gv at h
  simp only [Bool.and_eq_true, decide_eq_true_eq] at h
  omega
theorem infoInt : (Try.prog.info? 3).map (fun i => (i.zero, i.size, i.bytes)) = some (some (.int .i64 0), 1, 8) := by kernel_rfl

def byOut (node : Int) (x : Ed) : Bool := x.f == node
def edgesOut (g : Gr) (node : Int) : List Int := if gv g then pick (byOut node) g.es g.es.length else []

def byIn (node : Int) (x : Ed) : Bool := x.t == node
def edgesIn (g : Gr) (node : Int) : List Int := if gv g then pick (byIn node) g.es g.es.length else []

end Go.Proofs.Ytggpnnoldjpmcaa
namespace Go.Proofs.Ytggpnnoldjpmcaa
open Go.RowKit

/-- The cells of flat elements, one behind the other. -/
def flat {α : Type} (enc : α → List Value) (xs : List α) : List Value := xs.flatMap enc
theorem flat_length {α : Type} {enc : α → List Value} {sz : Nat} (h : ∀ x, (enc x).length = sz) : ∀ xs : List α, (flat enc xs).length = xs.length * sz
  | [] => by simp [flat]
  | x :: xs => by
    have := flat_length h xs
    simp only [flat, List.flatMap_cons, List.length_append, List.length_cons] at *
    rw [h, this, Nat.succ_mul]; omega
theorem flat_append {α : Type} (enc : α → List Value) (xs ys : List α) : flat enc (xs ++ ys) = flat enc xs ++ flat enc ys := by simp [flat]
theorem flat_at {α : Type} {enc : α → List Value} {sz : Nat} (h : ∀ x, (enc x).length = sz) : ∀ (xs : List α) (i : Nat) (hi : i < xs.length) (j : Nat) (x : Value), (enc xs[i])[j]? = some x → (flat enc xs)[i * sz + j]? = some x
  | x :: xs, 0, _, j, v, hv => by
    have hj : j < (enc x).length := (List.getElem?_eq_some_iff.1 hv).1
    simp only [flat, List.flatMap_cons, Nat.zero_mul, Nat.zero_add]
    rw [List.getElem?_append_left hj]; exact hv
  | x :: xs, i + 1, hi, j, v, hv => by
    have := flat_at h xs i (by simpa using hi) j v (by simpa using hv)
    simp only [flat, List.flatMap_cons]
    rw [List.getElem?_append_right (by rw [h, Nat.succ_mul]; omega), h]
    rw [show (i + 1) * sz + j - sz = i * sz + j by rw [Nat.succ_mul]; omega]; exact this
theorem flat_back {α : Type} {enc : α → List Value} {sz : Nat} (h : ∀ x, (enc x).length = sz) : ∀ (xs : List α) (q : Nat) (v : Value), (flat enc xs)[q]? = some v → ∃ i, ∃ hi : i < xs.length, ∃ j, q = i * sz + j ∧ (enc xs[i])[j]? = some v
  | [], q, v, hv => by simp [flat] at hv
  | x :: xs, q, v, hv => by
    simp only [flat, List.flatMap_cons] at hv
    by_cases hq : q < sz
    · rw [List.getElem?_append_left (by rw [h]; exact hq)] at hv
      exact ⟨0, by simp, q, by simp, by simpa using hv⟩
    · rw [List.getElem?_append_right (by rw [h]; omega), h] at hv
      obtain ⟨i, hi, j, e, hj⟩ := flat_back h xs (q - sz) v hv
      exact ⟨i + 1, by simpa using hi, j, by rw [Nat.succ_mul]; omega, by simpa using hj⟩
/-- A slice's cells, for a law on append. -/
theorem Sl.cells {α : Type} {enc : α → List Value} {sz : Nat} (h : ∀ x, (enc x).length = sz) {B : Nat} {w : World} {p : Option Addr} {len cap : Nat} {xs : List α} (hs : Sl sz enc B w (.slice p len cap) xs) :
    ∀ ad, p = some ad → ∀ j u, (flat enc xs)[j]? = some u → w.cell? (ad.add j) = some u := by
  intro ad hp j u hu
  obtain ⟨p', len', cap', h1, h2, h3, h4, h5⟩ := hs
  cases h1
  obtain ⟨i, hi, k, rfl, hk⟩ := flat_back h xs j u hu
  obtain ⟨b, off, e1, e2, e3⟩ := h5 i hi
  rw [e1] at hp
  cases hp
  rw [WideShapes.add_plain, ← Nat.add_assoc]
  exact e3 k u hk
theorem Sl.atNone {α : Type} {enc : α → List Value} {sz : Nat} {B : Nat} {w : World} {len cap : Nat} {xs : List α} (hs : Sl sz enc B w (.slice none len cap) xs) : len = 0 := by
  obtain ⟨p', len', cap', h1, h2, h3, h4, h5⟩ := hs
  cases h1
  rw [h2]
  cases xs with
  | nil => rfl
  | cons x xs => obtain ⟨b, off, e1, _⟩ := h5 0 (by simp); cases e1
/-- A row of the call's own, as owned elements. -/
theorem own_of_flat {α : Type} {enc : α → List Value} {sz : Nat} (hen : ∀ x, (enc x).length = sz) {w : World} {base : Nat} {e : TypeId} {v : Value} {n : Nat} {xs : List α} (hn : n = xs.length) (h : w.ownsRow base e sz v n (flat enc xs)) : ∃ F, OwnSl sz enc w v xs F ∧ ∀ x ∈ F, base ≤ x := by
  subst hn
  obtain ⟨hl, h⟩ := h
  rcases h with ⟨rfl, h0⟩ | ⟨g, cap, cur, rfl, hb, hg, hn, hc, hs, ht⟩
  · exact ⟨[], ⟨none, 0, 0, rfl, h0.symm, Nat.le_refl _, Nat.zero_le _, .inl ⟨List.eq_nil_of_length_eq_zero h0, rfl⟩⟩, by simp⟩
  · refine ⟨[g], ⟨_, _, _, rfl, rfl, hn, hc, .inr ⟨g, 0, rfl, rfl, (Array.getElem?_eq_some_iff.1 hg).1, fun o => by simp [World.frozen?, hg], fun i hi j x hx => ?_⟩⟩, by simpa using hb⟩
    have e1 := flat_at hen xs i hi j x hx
    have hj : j < sz := by rw [← hen xs[i]]; exact (List.getElem?_eq_some_iff.1 hx).1
    have hle : i * sz + sz ≤ xs.length * sz := by rw [← Nat.succ_mul]; exact Nat.mul_le_mul_right _ hi
    rw [← ht, List.getElem?_take_of_lt (by omega)] at e1
    simp only [World.cell?, hg, Nat.zero_add]
    rw [← e1]; simp

/-- The lengths of the first k parts, together. -/
def upTo {α : Type} (L : List (Value × List α)) (k : Nat) : Nat := ((L.take k).map fun x => x.2.length).sum
def joined {α : Type} (L : List (Value × List α)) (k : Nat) : List α := (L.take k).flatMap (·.2)
theorem upTo_succ {α : Type} (L : List (Value × List α)) {k : Nat} (h : k < L.length) : upTo L (k + 1) = upTo L k + L[k].2.length := by
  unfold upTo; rw [List.take_succ_eq_append_getElem h, List.map_append, List.sum_append]; simp
theorem joined_succ {α : Type} (L : List (Value × List α)) {k : Nat} (h : k < L.length) : joined L (k + 1) = joined L k ++ L[k].2 := by
  unfold joined; rw [List.take_succ_eq_append_getElem h, List.flatMap_append]; simp
theorem upTo_le {α : Type} (L : List (Value × List α)) (k : Nat) : upTo L k ≤ upTo L L.length := by
  unfold upTo
  have := congrArg (fun l => (l.map fun x : Value × List α => x.2.length).sum) (List.take_append_drop k L)
  simp only [List.map_append, List.sum_append] at this
  rw [List.take_of_length_le (Nat.le_refl _)]; omega
theorem joined_length {α : Type} (L : List (Value × List α)) : ∀ k, (joined L k).length = upTo L k
  | k => by unfold joined upTo; rw [List.length_flatMap]
theorem run_append_nil0 (w : World) (t ty e : TypeId) (i : TypeInfo) (ht : Try.prog.underlying t = some (.slice e)) (hi : Try.prog.info? e = some i) (p : Option Addr) (c : Nat) :
    (Builtin.append_ #[t, t] ty #[.slice none 0 0, .slice p 0 c]).run Try.prog w = .ok (.slice none 0 0) w := by
  have hf : (Builtin.firstCells i.size 0 (.slice p 0 c)).run Try.prog w = .ok #[] w := by
    cases p with
    | none => exact run_firstCells_none w i.size 0 0 c
    | some a => exact run_firstCells_some w i.size 0 a 0 c [] (by simp) (by simp)
  simp [Builtin.append_, run_underlying ht, sizeOf, typeInfo, hi, Builtin.lenOf, hf]
theorem run_append_room0 (w : World) (t ty e : TypeId) (i : TypeInfo) (ht : Try.prog.underlying t = some (.slice e)) (hi : Try.prog.info? e = some i) (a : Addr) (n gc c : Nat) (hn : n ≤ gc) :
    (Builtin.append_ #[t, t] ty #[.slice (some a) n gc, .slice none 0 c]).run Try.prog w = .ok (.slice (some a) n gc) w := by
  have hf := run_firstCells_none (P := Try.prog) w i.size 0 0 c
  simp [Builtin.append_, run_underlying ht, sizeOf, typeInfo, hi, Builtin.lenOf, hf, hn, storeCells]

theorem flat_oneNode (xs : List Nd) : ∀ u ∈ flat Nd.cells xs, u.oneCell' = true := by
  intro u hu
  obtain ⟨x, _, hx⟩ := List.mem_flatMap.1 hu
  simp [Nd.cells] at hx
  rcases hx with rfl | rfl <;> rfl

theorem flat_oneEdge (xs : List Ed) : ∀ u ∈ flat Ed.cells xs, u.oneCell' = true := by
  intro u hu
  obtain ⟨x, _, hx⟩ := List.mem_flatMap.1 hu
  simp [Ed.cells] at hx
  rcases hx with rfl | rfl | rfl | rfl <;> rfl

end Go.Proofs.Ytggpnnoldjpmcaa
namespace Go.Proofs.Ytggpnnoldjpmcaa
open Go.RowKit

def turnE (x : Ed) : Ed := ⟨x.t, x.f, x.l, x.n⟩
def tgr (g : Gr) : Gr := if gv g then ⟨g.ns, g.es.map turnE⟩ else ⟨[], []⟩
theorem row_form {w : World} {base : Nat} {e : TypeId} {size : Nat} {v : Value} {n : Nat} {xs : List Value} (h : w.ownsRow base e size v n xs) : ∃ p c, v = .slice p n c := by
  rcases h.2 with ⟨rfl, rfl⟩ | ⟨g, cap, cur, rfl, _⟩
  · exact ⟨none, 0, rfl⟩
  · exact ⟨_, _, rfl⟩
theorem gv_ns {g : Gr} (h : gv g = true) : g.ns.length ≤ 8 := by
  unfold gv at h
  simp only [Bool.and_eq_true, decide_eq_true_eq] at h
  omega
theorem Gr.Own.empty (lo : Nat) (w : World) : (⟨[], []⟩ : Gr).Own lo w (.agg #[.slice none 0 0, .slice none 0 0]) [] [] :=
  ⟨_, _, rfl, ⟨none, 0, 0, rfl, rfl, Nat.le_refl _, Nat.zero_le _, .inl ⟨rfl, rfl⟩⟩, ⟨none, 0, 0, rfl, rfl, Nat.le_refl _, Nat.zero_le _, .inl ⟨rfl, rfl⟩⟩, by simp, by simp, by simp⟩

end Go.Proofs.Ytggpnnoldjpmcaa
namespace Go.Proofs.Ytggpnnoldjpmcaa
open Go.RowKit

/-- The cells of flat elements, one behind the other. -/
def flt {α : Type} (enc : α → List Value) (xs : List α) : List Value := xs.flatMap enc
theorem flt_length {α : Type} {enc : α → List Value} {sz : Nat} (h : ∀ x, (enc x).length = sz) : ∀ xs : List α, (flt enc xs).length = xs.length * sz
  | [] => by simp [flt]
  | x :: xs => by
    have := flt_length h xs
    simp only [flt, List.flatMap_cons, List.length_append, List.length_cons] at *
    rw [h, this, Nat.succ_mul]; omega
theorem flt_append {α : Type} (enc : α → List Value) (xs ys : List α) : flt enc (xs ++ ys) = flt enc xs ++ flt enc ys := by simp [flt]
theorem flt_at {α : Type} {enc : α → List Value} {sz : Nat} (h : ∀ x, (enc x).length = sz) : ∀ (xs : List α) (i : Nat) (hi : i < xs.length) (j : Nat) (x : Value), (enc xs[i])[j]? = some x → (flt enc xs)[i * sz + j]? = some x
  | x :: xs, 0, _, j, v, hv => by
    have hj : j < (enc x).length := (List.getElem?_eq_some_iff.1 hv).1
    simp only [flt, List.flatMap_cons, Nat.zero_mul, Nat.zero_add]
    rw [List.getElem?_append_left hj]; exact hv
  | x :: xs, i + 1, hi, j, v, hv => by
    have := flt_at h xs i (by simpa using hi) j v (by simpa using hv)
    simp only [flt, List.flatMap_cons]
    rw [List.getElem?_append_right (by rw [h, Nat.succ_mul]; omega), h]
    rw [show (i + 1) * sz + j - sz = i * sz + j by rw [Nat.succ_mul]; omega]; exact this
/-- A step that is an append, by whatever its run is known to give. -/
theorem step_app_src {P : Program} {w : World} {ops : Array Oper} {o : Oper} {a : Act} {K : Act → World → Prop} {Q : Exit → Act → World → Prop} {E : Prop} (hgd : o.guard = none) (s x : Operand) (t : TypeId)
    (ho : o.op = .call { callee := .builtin .append, args := #[s, x], argTypes := #[t, t] }) (vs vx : Value) (hs : a.eval s = vs) (hx : a.eval x = vx) (R : Value → World → Prop)
    (hr : ∃ v' w', (Builtin.append_ #[t, t] o.type #[vs, vx]).run P w = .ok v' w' ∧ R v' w') (h : ∀ v' w', R v' w' → K (a.put o.dst v') w') :
    if Region.wanted o (yielded ops a.tmps) = true then Oper.wp P o a w K Q else E := by
  have hw : Region.wanted o (yielded ops a.tmps) = true := by simp [Region.wanted, hgd]
  rw [if_pos hw]
  obtain ⟨v', w', hr, hR⟩ := hr
  unfold Oper.wp execOp
  simp only [ho, resolve, invoke, builtin, Sem.run_bind, Sem.run_pure, Result.andThen_ok, List.map_toArray, List.map_cons, List.map_nil, hs, hx, hr]
  exact h v' w' hR

/-- As OwnSl, and the whole block is known. -/
def OwnS {α : Type} (sz : Nat) (enc : α → List Value) (e : TypeId) (w : World) (v : Value) (xs : List α) (F : List Nat) : Prop :=
  ∃ (p : Option Addr) (cap : Nat), v = .slice p xs.length cap ∧ xs.length ≤ cap ∧ cap ≤ maxLen ∧
    ((xs = [] ∧ F = [] ∧ cap = 0) ∨ ∃ b cur, p = some ⟨b, 0, none⟩ ∧ F = [b] ∧ w.heap[b]? = some (.cells cur e (0, 0)) ∧ cur.size = cap * sz ∧ cur.toList.take (xs.length * sz) = flt enc xs)
theorem OwnS.own {α : Type} {sz : Nat} {enc : α → List Value} (hen : ∀ x, (enc x).length = sz) {e : TypeId} {w : World} {v : Value} {xs : List α} {F : List Nat} (h : OwnS sz enc e w v xs F) : OwnSl sz enc w v xs F := by
  obtain ⟨p, cap, rfl, h2, h3, h4⟩ := h
  refine ⟨p, _, cap, rfl, rfl, h2, h3, ?_⟩
  rcases h4 with ⟨rfl, rfl, _⟩ | ⟨b, cur, rfl, rfl, hg, hs, ht⟩
  · exact .inl ⟨rfl, rfl⟩
  · refine .inr ⟨b, 0, rfl, rfl, (Array.getElem?_eq_some_iff.1 hg).1, fun o => by simp [World.frozen?, hg], fun i hi j x hx => ?_⟩
    have e1 := flt_at hen xs i hi j x hx
    have hj : j < sz := by rw [← hen xs[i]]; exact (List.getElem?_eq_some_iff.1 hx).1
    have hle : i * sz + sz ≤ xs.length * sz := by rw [← Nat.succ_mul]; exact Nat.mul_le_mul_right _ hi
    rw [← ht, List.getElem?_take_of_lt (by omega)] at e1
    simp only [World.cell?, hg, Nat.zero_add]
    rw [← e1]; simp
theorem OwnS.chg {α : Type} {sz : Nat} {enc : α → List Value} {e : TypeId} {w w' : World} {v : Value} {xs : List α} {F G : List Nat} (h : OwnS sz enc e w v xs F) (hc : Chg G w w') (hd : ∀ x ∈ F, x ∉ G) : OwnS sz enc e w' v xs F := by
  obtain ⟨p, cap, rfl, h2, h3, h4⟩ := h
  refine ⟨p, cap, rfl, h2, h3, ?_⟩
  rcases h4 with h4 | ⟨b, cur, rfl, rfl, hg, hs, ht⟩
  · exact .inl h4
  · exact .inr ⟨b, cur, rfl, rfl, (hc.block b (Array.getElem?_eq_some_iff.1 hg).1 (hd b (by simp))).trans hg, hs, ht⟩
theorem OwnS.below {α : Type} {sz : Nat} {enc : α → List Value} {e : TypeId} {w w' : World} {v : Value} {xs : List α} {F : List Nat} (h : OwnS sz enc e w v xs F) (hc : Below w.heap.size w w') : OwnS sz enc e w' v xs F :=
  h.chg (Chg.of_below hc []) (by simp)
theorem OwnS.lt {α : Type} {sz : Nat} {enc : α → List Value} {e : TypeId} {w : World} {v : Value} {xs : List α} {F : List Nat} (h : OwnS sz enc e w v xs F) : ∀ x ∈ F, x < w.heap.size := by
  obtain ⟨p, cap, rfl, h2, h3, h4⟩ := h
  rcases h4 with ⟨_, rfl, _⟩ | ⟨b, cur, rfl, rfl, hg, hs, ht⟩
  · simp
  · intro x hx; simp at hx; subst hx; exact (Array.getElem?_eq_some_iff.1 hg).1
/-- One more, behind the others. -/
theorem OwnS.append {α : Type} {sz : Nat} {enc : α → List Value} (hen : ∀ x, (enc x).length = sz) (hone : ∀ (x : α), ∀ u ∈ enc x, u.oneCell' = true) {w : World} {v : Value} {xs : List α} {F : List Nat}
    (t ty e : TypeId) (i : TypeInfo) (z : Value) (bytes : Nat) (ht : Try.prog.underlying t = some (.slice e)) (hi : Try.prog.info? e = some i) (hz : i.zero = some z) (hsz : i.size = sz) (hby : i.bytes = bytes) (hzs : z.cells.size = sz)
    (h : OwnS sz enc e w v xs F) (y : α) (g c : Nat) (hy : ∀ j u, (enc y)[j]? = some u → w.cell? ⟨g, j, none⟩ = some u) (h63 : xs.length < 3000000) (hbytes : (xs.length + 1) * bytes ≤ 140737488355328) :
    ∃ v' w', (Builtin.append_ #[t, t] ty #[v, .slice (some ⟨g, 0, none⟩) 1 c]).run Try.prog w = .ok v' w' ∧ ∃ F', OwnS sz enc e w' v' (xs ++ [y]) F' ∧ (∀ x ∈ F', x ∈ F ∨ w.heap.size ≤ x) ∧ Chg F w w' := by
  have hfl : flt enc (xs ++ [y]) = flt enc xs ++ enc y := by rw [flt_append]; simp [flt]
  have hca : ∀ j u, (enc y)[j]? = some u → w.cell? ((⟨g, 0, none⟩ : Addr).add j) = some u := fun j u hu => by
    have h0 := hy j u hu
    cases j <;> simpa [Addr.add] using h0
  obtain ⟨p, cap, rfl, h2, h3, h4⟩ := h
  have hout : ∀ (old C : Nat) (cs : Array Value), C = grownCap w (xs.length + 1) old e → cs = (flt enc xs).toArray ++ (enc y).toArray ++ Builtin.zeroCells z.cells (C - (xs.length + 1)) →
      ∃ F', OwnS sz enc e (w.drew.alloc (.cells cs e)) (.slice (some ⟨w.heap.size, 0, none⟩) (xs.length + 1) C) (xs ++ [y]) F' ∧ (∀ x ∈ F', x ∈ F ∨ w.heap.size ≤ x) ∧ Chg F w (w.drew.alloc (.cells cs e)) := by
    intro old C cs hC hcs
    have h1 : xs.length + 1 ≤ C := by rw [hC]; exact grownCap_ge w _ _ e
    have h2 : C ≤ maxLen := by rw [hC]; exact grownCap_le_maxLen w _ _ e (by unfold maxLen; omega)
    refine ⟨[w.heap.size], ⟨_, C, by simp, by simpa using h1, h2, .inr ⟨_, cs, rfl, rfl, heap_alloc_new w.drew _, ?_, ?_⟩⟩, by simp, Chg.of_below ((Below.refl _ w).drew.alloc (Nat.le_refl _) _) F⟩
    · rw [hcs, Array.size_append, Array.size_append, List.size_toArray, List.size_toArray, flt_length hen, hen, size_zeroCells, hzs]
      have e1 : C = C - (xs.length + 1) + xs.length + 1 := by omega
      have e2 : C * sz = (C - (xs.length + 1)) * sz + xs.length * sz + sz := by
        conv => lhs; rw [e1, Nat.succ_mul, Nat.add_mul]
      omega
    · rw [hfl, hcs]
      have hl : (flt enc xs ++ enc y).length = (xs ++ [y]).length * sz := by rw [List.length_append, flt_length hen, hen, List.length_append, Nat.add_mul]; simp
      simp only [Array.toList_append, List.append_assoc]
      rw [← List.append_assoc, ← hl]
      exact List.take_left
  have hb1 : (xs.length + 1) * i.bytes ≤ 140737488355328 := by rw [hby]; exact hbytes
  rcases h4 with ⟨rfl, rfl, rfl⟩ | ⟨b, cur, rfl, rfl, hg, hs, htk⟩
  · cases p with
    | none =>
      have hr := run_append_nil (P := Try.prog) (w := w) t ty e i z ht hi hz ⟨g, 0, none⟩ 1 c (enc y) (by rw [hen, hsz, Nat.one_mul]) hca (by omega) (by omega) (by simp at hb1; omega)
      refine ⟨_, _, hr, ?_⟩
      have := hout 0 _ _ rfl rfl
      simpa [flt] using this
    | some G =>
      have hr := run_append_grow (P := Try.prog) (w := w) t ty e i z ht hi hz G 0 0 [] (by simp) (by simp) ⟨g, 0, none⟩ 1 c (enc y) (by rw [hen, hsz, Nat.one_mul]) hca (by omega) (by omega) (growslice_fits (by omega) (by simpa using hb1))
      refine ⟨_, _, hr, ?_⟩
      have := hout 0 _ _ rfl rfl
      simpa [flt] using this
  · have hb : b < w.heap.size := (Array.getElem?_eq_some_iff.1 hg).1
    by_cases hroom : xs.length + 1 ≤ cap
    · have hfit : xs.length * i.size + (enc y).length ≤ cur.size := by rw [hen, hsz, hs, ← Nat.succ_mul]; exact Nat.mul_le_mul_right _ hroom
      have hr := run_append_room (P := Try.prog) (w := w) t ty e i ht hi b xs.length cap cur hg ⟨g, 0, none⟩ 1 c (enc y) (by rw [hen, hsz, Nat.one_mul]) hca (hone y) hroom hfit
      have hl1 : (cur.toList.take (xs.length * sz)).length = xs.length * sz := by rw [htk, flt_length hen]
      refine ⟨_, _, hr, [b], ⟨_, cap, by simp, by simpa using hroom, h3, .inr ⟨b, _, rfl, rfl, setRow_heap w b cur _ e _ hg, ?_, ?_⟩⟩, by simp, ⟨rfl, rfl, rfl, by simp, fun k _ hk => setRow_other w b k _ (fun e => hk (by simp [e]))⟩⟩
      · rw [hsz, hen] at hfit ⊢
        simp only [List.size_toArray, List.length_append, List.length_drop, Array.length_toList, hl1, hen]
        omega
      · rw [hfl, hsz]
        have hl : (flt enc xs ++ enc y).length = (xs ++ [y]).length * sz := by rw [List.length_append, flt_length hen, hen, List.length_append, Nat.add_mul]; simp
        rw [htk, ← hl]
        exact List.take_left
    · have hown : w.ownsRow b e sz (.slice (some ⟨b, 0, none⟩) xs.length cap) xs.length (flt enc xs) := ⟨flt_length hen xs, .inr ⟨b, cap, cur, rfl, Nat.le_refl _, hg, h2, h3, hs, htk⟩⟩
      have holds : ∀ j u, (flt enc xs)[j]? = some u → w.cell? ((⟨b, 0, none⟩ : Addr).add j) = some u := hown.cells (g := b) rfl
      have hr := run_append_grow (P := Try.prog) (w := w) t ty e i z ht hi hz ⟨b, 0, none⟩ xs.length cap (flt enc xs) (by rw [flt_length hen, hsz]) holds ⟨g, 0, none⟩ 1 c (enc y) (by rw [hen, hsz, Nat.one_mul]) hca (by omega) (by omega) (growslice_fits (by omega) hb1)
      refine ⟨_, _, hr, ?_⟩
      have := hout cap _ _ rfl rfl
      simpa using this

end Go.Proofs.Ytggpnnoldjpmcaa
namespace Go.Proofs.Ytggpnnoldjpmcaa
open Go.RowKit

theorem flt_back {α : Type} {enc : α → List Value} {sz : Nat} (h : ∀ x, (enc x).length = sz) : ∀ (xs : List α) (j : Nat) (u : Value), (flt enc xs)[j]? = some u → ∃ (i : Nat) (hi : i < xs.length) (k : Nat), j = i * sz + k ∧ (enc xs[i])[k]? = some u
  | [], j, u, hj => by simp [flt] at hj
  | x :: xs, j, u, hj => by
    simp only [flt, List.flatMap_cons] at hj
    by_cases hlt : j < (enc x).length
    · rw [List.getElem?_append_left hlt] at hj
      exact ⟨0, by simp, j, by simp, hj⟩
    · rw [List.getElem?_append_right (by omega)] at hj
      obtain ⟨i, hi, k, e, hk⟩ := flt_back h xs _ u hj
      rw [h] at e hlt
      exact ⟨i + 1, by simpa using hi, k, by rw [Nat.succ_mul]; omega, by simpa using hk⟩
theorem Sl.fcells {α : Type} {enc : α → List Value} {sz : Nat} (h : ∀ x, (enc x).length = sz) {B : Nat} {w : World} {p : Option Addr} {len cap : Nat} {xs : List α} (hs : Sl sz enc B w (.slice p len cap) xs) :
    ∀ ad, p = some ad → ∀ j u, (flt enc xs)[j]? = some u → w.cell? (ad.add j) = some u := by
  intro ad hp j u hu
  obtain ⟨p', len', cap', h1, h2, h3, h4, h5⟩ := hs
  cases h1
  obtain ⟨i, hi, k, rfl, hk⟩ := flt_back h xs j u hu
  obtain ⟨b, off, e1, e2, e3⟩ := h5 i hi
  rw [e1] at hp
  cases hp
  rw [WideShapes.add_plain, ← Nat.add_assoc]
  exact e3 k u hk
theorem run_append_none {P : Program} (w : World) (t ty e : TypeId) (i : TypeInfo) (ht : P.underlying t = some (.slice e)) (hi : P.info? e = some i) (p q : Option Addr) (n cap c : Nat) (hp : p = none → n = 0 ∧ cap = 0) (hn : n ≤ cap) :
    (Builtin.append_ #[t, t] ty #[.slice p n cap, .slice q 0 c]).run P w = .ok (.slice p n cap) w := by
  have hf : (Builtin.firstCells i.size 0 (.slice q 0 c)).run P w = .ok #[] w := by
    cases q with
    | none => exact run_firstCells_none w i.size 0 0 c
    | some a => exact run_firstCells_some w i.size 0 a 0 c [] (by simp) (by simp)
  cases p with
  | none =>
    obtain ⟨rfl, rfl⟩ := hp rfl
    simp [Builtin.append_, run_underlying ht, sizeOf, typeInfo, hi, Builtin.lenOf, hf]
  | some a => simp [Builtin.append_, run_underlying ht, sizeOf, typeInfo, hi, Builtin.lenOf, hf, hn, storeCells]
/-- An append, by whatever its run is known to give. -/
theorem wpApp {P : Program} {w : World} {ops : Array Oper} {rest : List Oper} {o : Oper} {a : Act} {Q : Exit → Act → World → Prop} (hgd : o.guard = none) (s x : Operand) (t : TypeId)
    (ho : o.op = .call { callee := .builtin .append, args := #[s, x], argTypes := #[t, t] }) (vs vx : Value) (hs : a.eval s = vs) (hx : a.eval x = vx) (R : Value → World → Prop)
    (hr : ∃ v' w', (Builtin.append_ #[t, t] o.type #[vs, vx]).run P w = .ok v' w' ∧ R v' w') (h : ∀ v' w', R v' w' → wpList P ops Q rest (a.put o.dst v') w') : wpList P ops Q (o :: rest) a w := by
  refine wpList_plain hgd fun K hK => ?_
  obtain ⟨v', w', hr, hR⟩ := hr
  unfold Oper.wp execOp
  simp only [ho, resolve, invoke, builtin, Sem.run_bind, Sem.run_pure, Result.andThen_ok, List.map_toArray, List.map_cons, List.map_nil, hs, hx, hr]
  exact hK _ _ (h v' w' hR)
theorem OwnS.form {α : Type} {sz : Nat} {enc : α → List Value} {e : TypeId} {w : World} {v : Value} {xs : List α} {F : List Nat} (h : OwnS sz enc e w v xs F) : ∃ p cap, v = .slice p xs.length cap := by
  obtain ⟨p, cap, rfl, _⟩ := h
  exact ⟨_, _, rfl⟩
theorem OwnS.empty {α : Type} {sz : Nat} {enc : α → List Value} {e : TypeId} {w : World} (p : Option Addr) : OwnS (α := α) sz enc e w (.slice p 0 0) [] [] := ⟨p, 0, rfl, Nat.le_refl _, Nat.zero_le _, .inl ⟨rfl, rfl, rfl⟩⟩

/-- Another row, behind the others. -/
theorem OwnS.appends {α : Type} {sz : Nat} {enc : α → List Value} (hen : ∀ x, (enc x).length = sz) (hone : ∀ (x : α), ∀ u ∈ enc x, u.oneCell' = true) {w : World} {v : Value} {xs : List α} {F : List Nat}
    (t ty e : TypeId) (i : TypeInfo) (z : Value) (bytes : Nat) (ht : Try.prog.underlying t = some (.slice e)) (hi : Try.prog.info? e = some i) (hz : i.zero = some z) (hsz : i.size = sz) (hby : i.bytes = bytes) (hzs : z.cells.size = sz)
    (h : OwnS sz enc e w v xs F) (ys : List α) (u : Value) (B : Nat) (hu : Sl sz enc B w u ys) (h63 : xs.length + ys.length ≤ 3000000) (hbytes : (xs.length + ys.length) * bytes ≤ 140737488355328) :
    ∃ v' w', (Builtin.append_ #[t, t] ty #[v, u]).run Try.prog w = .ok v' w' ∧ ∃ F', OwnS sz enc e w' v' (xs ++ ys) F' ∧ (∀ x ∈ F', x ∈ F ∨ w.heap.size ≤ x) ∧ Chg F w w' := by
  have hfl : flt enc (xs ++ ys) = flt enc xs ++ flt enc ys := flt_append _ _ _
  have hly : (flt enc ys).length = ys.length * sz := flt_length hen ys
  obtain ⟨q, c, rfl⟩ := hu.form
  by_cases hys : ys = []
  · subst hys
    have h0 := h
    obtain ⟨p, cap, rfl, h2, h3, h4⟩ := h
    refine ⟨_, _, run_append_none w t ty e i ht hi p q xs.length cap c (fun e => ?_) h2, F, by simpa using h0, fun x hx => .inl hx, Chg.refl _ _⟩
    rcases h4 with ⟨rfl, _, rfl⟩ | ⟨b, cur, e2, _⟩
    · exact ⟨rfl, rfl⟩
    · rw [e2] at e; cases e
  have hpos : 0 < ys.length := List.length_pos_iff.2 hys
  have hone' : ∀ u ∈ flt enc ys, u.oneCell' = true := fun u hu => by
    obtain ⟨x, _, hx⟩ := List.mem_flatMap.1 hu
    exact hone x u hx
  obtain ⟨ad, rfl⟩ : ∃ ad, q = some ad := by
    obtain ⟨_, _, _, e1, _, _, _, e5⟩ := hu
    cases e1
    obtain ⟨b, off, e1, _⟩ := e5 0 hpos
    exact ⟨_, e1⟩
  have hca := Sl.fcells hen hu ad rfl
  obtain ⟨p, cap, rfl, h2, h3, h4⟩ := h
  have hout : ∀ (old C : Nat) (cs : Array Value), C = grownCap w (xs.length + ys.length) old e → cs = (flt enc xs).toArray ++ (flt enc ys).toArray ++ Builtin.zeroCells z.cells (C - (xs.length + ys.length)) →
      ∃ F', OwnS sz enc e (w.drew.alloc (.cells cs e)) (.slice (some ⟨w.heap.size, 0, none⟩) (xs.length + ys.length) C) (xs ++ ys) F' ∧ (∀ x ∈ F', x ∈ F ∨ w.heap.size ≤ x) ∧ Chg F w (w.drew.alloc (.cells cs e)) := by
    intro old C cs hC hcs
    have h1 : xs.length + ys.length ≤ C := by rw [hC]; exact grownCap_ge w _ _ e
    have h2 : C ≤ maxLen := by rw [hC]; exact grownCap_le_maxLen w _ _ e (by unfold maxLen; omega)
    refine ⟨[w.heap.size], ⟨_, C, by simp, by simpa using h1, h2, .inr ⟨_, cs, rfl, rfl, heap_alloc_new w.drew _, ?_, ?_⟩⟩, by simp, Chg.of_below ((Below.refl _ w).drew.alloc (Nat.le_refl _) _) F⟩
    · rw [hcs, Array.size_append, Array.size_append, List.size_toArray, List.size_toArray, flt_length hen, hly, size_zeroCells, hzs]
      have e1 : C = C - (xs.length + ys.length) + xs.length + ys.length := by omega
      have e2 : C * sz = (C - (xs.length + ys.length)) * sz + xs.length * sz + ys.length * sz := by
        conv => lhs; rw [e1, Nat.add_mul, Nat.add_mul]
      omega
    · rw [hfl, hcs]
      have hl : (flt enc xs ++ flt enc ys).length = (xs ++ ys).length * sz := by rw [List.length_append, flt_length hen, hly, List.length_append, Nat.add_mul]
      simp only [Array.toList_append, List.append_assoc]
      rw [← List.append_assoc, ← hl]
      exact List.take_left
  have hb1 : (xs.length + ys.length) * i.bytes ≤ 140737488355328 := by rw [hby]; exact hbytes
  rcases h4 with ⟨rfl, rfl, rfl⟩ | ⟨b, cur, rfl, rfl, hg, hs, htk⟩
  · cases p with
    | none =>
      have hr := run_append_nil (P := Try.prog) (w := w) t ty e i z ht hi hz ad ys.length c (flt enc ys) (by rw [hly, hsz]) hca hpos (by omega) (by simp at hb1; omega)
      refine ⟨_, _, hr, ?_⟩
      have := hout 0 _ _ rfl rfl
      simpa [flt] using this
    | some G =>
      have hr := run_append_grow (P := Try.prog) (w := w) t ty e i z ht hi hz G 0 0 [] (by simp) (by simp) ad ys.length c (flt enc ys) (by rw [hly, hsz]) hca (by omega) (by omega) (growslice_fits (by omega) (by simpa using hb1))
      refine ⟨_, _, hr, ?_⟩
      have := hout 0 _ _ rfl rfl
      simpa [flt] using this
  · have hb : b < w.heap.size := (Array.getElem?_eq_some_iff.1 hg).1
    by_cases hroom : xs.length + ys.length ≤ cap
    · have hfit : xs.length * i.size + (flt enc ys).length ≤ cur.size := by rw [hly, hsz, hs, ← Nat.add_mul]; exact Nat.mul_le_mul_right _ hroom
      have hr := run_append_room (P := Try.prog) (w := w) t ty e i ht hi b xs.length cap cur hg ad ys.length c (flt enc ys) (by rw [hly, hsz]) hca hone' hroom hfit
      have hl1 : (cur.toList.take (xs.length * sz)).length = xs.length * sz := by rw [htk, flt_length hen]
      refine ⟨_, _, hr, [b], ⟨_, cap, by simp, by simpa using hroom, h3, .inr ⟨b, _, rfl, rfl, setRow_heap w b cur _ e _ hg, ?_, ?_⟩⟩, by simp, ⟨rfl, rfl, rfl, by simp, fun k _ hk => setRow_other w b k _ (fun e => hk (by simp [e]))⟩⟩
      · rw [hsz, hly] at hfit ⊢
        simp only [List.size_toArray, List.length_append, List.length_drop, Array.length_toList, hl1, hly]
        omega
      · rw [hfl, hsz]
        have hl : (flt enc xs ++ flt enc ys).length = (xs ++ ys).length * sz := by rw [List.length_append, flt_length hen, hly, List.length_append, Nat.add_mul]
        rw [htk, ← hl]
        exact List.take_left
    · have hown : w.ownsRow b e sz (.slice (some ⟨b, 0, none⟩) xs.length cap) xs.length (flt enc xs) := ⟨flt_length hen xs, .inr ⟨b, cap, cur, rfl, Nat.le_refl _, hg, h2, h3, hs, htk⟩⟩
      have holds : ∀ j u, (flt enc xs)[j]? = some u → w.cell? ((⟨b, 0, none⟩ : Addr).add j) = some u := hown.cells (g := b) rfl
      have hr := run_append_grow (P := Try.prog) (w := w) t ty e i z ht hi hz ⟨b, 0, none⟩ xs.length cap (flt enc xs) (by rw [flt_length hen, hsz]) holds ad ys.length c (flt enc ys) (by rw [hly, hsz]) hca (by omega) (by omega) (growslice_fits (by omega) hb1)
      refine ⟨_, _, hr, ?_⟩
      have := hout cap _ _ rfl rfl
      simpa using this
end Go.Proofs.Ytggpnnoldjpmcaa
namespace Go.Proofs.Ytggpnnoldjpmcaa
open Go.RowKit

def OwnI (w : World) (v : Value) (xs : List Int) (F : List Nat) : Prop := OwnS 1 intCells 3 w v xs F
theorem OwnI.own {w : World} {v : Value} {xs : List Int} {F : List Nat} (h : OwnI w v xs F) : OwnSl 1 intCells w v xs F := OwnS.own (enc := intCells) (fun _ => rfl) h
theorem OwnI.chg {w w' : World} {v : Value} {xs : List Int} {F G : List Nat} (h : OwnI w v xs F) (hc : Chg G w w') (hd : ∀ x ∈ F, x ∉ G) : OwnI w' v xs F := OwnS.chg h hc hd
theorem OwnI.below {w w' : World} {v : Value} {xs : List Int} {F : List Nat} (h : OwnI w v xs F) (hc : Below w.heap.size w w') : OwnI w' v xs F := OwnS.below h hc
theorem OwnI.lt {w : World} {v : Value} {xs : List Int} {F : List Nat} (h : OwnI w v xs F) : ∀ x ∈ F, x < w.heap.size := OwnS.lt h
theorem OwnI.form {w : World} {v : Value} {xs : List Int} {F : List Nat} (h : OwnI w v xs F) : ∃ p cap, v = .slice p xs.length cap := OwnS.form h
theorem OwnI.empty (w : World) (p : Option Addr) : OwnI w (.slice p 0 0) [] [] := OwnS.empty p
theorem infoI : ∃ i, Try.prog.info? 3 = some i ∧ i.zero = some (.int .i64 0) ∧ i.size = 1 ∧ i.bytes = 8 := by
  obtain ⟨i, hi, hzz⟩ := Option.map_eq_some_iff.1 infoIntW
  simp only [Prod.mk.injEq] at hzz
  exact ⟨i, hi, hzz.1, hzz.2.1, hzz.2.2⟩
/-- What an append leaves. -/
def AppI (E : World) (xs : List Int) (F : List Nat) (v' : Value) (w' : World) : Prop := ∃ F', OwnI w' v' xs F' ∧ (∀ x ∈ F', x ∈ F ∨ E.heap.size ≤ x) ∧ Chg F E w'
/-- One more int, out of a new row of one. -/
theorem app_int {E : World} {s : Value} {ys : List Int} {F : List Nat} (h : OwnI E s ys F) (x : Int) (hl : ys.length < 3000000) (ty : TypeId) :
    ∃ v' w', (Builtin.append_ #[43, 43] ty #[s, .slice (some ⟨E.heap.size, 0, none⟩) 1 1]).run Try.prog (E.alloc (.cells #[.int .i64 x] 3)) = .ok v' w' ∧ AppI E (ys ++ [x]) F v' w' := by
  obtain ⟨i, hi, hz, hs, hb⟩ := infoI
  have hbe : Below E.heap.size E (E.alloc (.cells #[.int .i64 x] 3)) := (Below.refl _ _).alloc (Nat.le_refl _) _
  obtain ⟨v', w', hr, F', ho, hF, hc⟩ := OwnS.append (enc := intCells) (sz := 1) (fun _ => rfl) (fun x u hu => by simp [intCells] at hu; subst hu; rfl) 43 ty 3 i _ 8 Try.underlying43 hi hz hs hb (by decide) (h.below hbe) x E.heap.size 1
    (fun j u hu => by
      obtain rfl : j = 0 := by
        have hj := (List.getElem?_eq_some_iff.1 hu).1
        simp [intCells] at hj; omega
      simp [intCells] at hu; subst hu; simp [go_sem]) hl (by omega)
  exact ⟨v', w', hr, F', ho, fun x hx => by rcases hF x hx with h | h; (exact .inl h); (simp at h; exact .inr (by omega)), (Chg.of_below hbe F).trans hc⟩
/-- A whole row of ints. -/
theorem app_ints {E : World} {s u : Value} {xs ys : List Int} {F : List Nat} {B : Nat} (h : OwnI E s xs F) (hu : Sl 1 intCells B E u ys) (hl : xs.length + ys.length ≤ 3000000) (ty : TypeId) :
    ∃ v' w', (Builtin.append_ #[43, 43] ty #[s, u]).run Try.prog E = .ok v' w' ∧ AppI E (xs ++ ys) F v' w' := by
  obtain ⟨i, hi, hz, hs, hb⟩ := infoI
  exact OwnS.appends (enc := intCells) (sz := 1) (fun _ => rfl) (fun x u hu => by simp [intCells] at hu; subst hu; rfl) 43 ty 3 i _ 8 Try.underlying43 hi hz hs hb (by decide) h ys u B hu hl (by omega)

/-- xs, turned in its first a places and in its last a places. -/
def Rv (xs : List Int) (a : Nat) (ys : List Int) : Prop := ys.length = xs.length ∧ ∀ i (h : i < ys.length) (h1 : i < xs.length) (h2 : xs.length - 1 - i < xs.length), ys[i] = if i < a ∨ xs.length ≤ i + a then xs[xs.length - 1 - i] else xs[i]
theorem Rv.zero (xs : List Int) : Rv xs 0 xs := ⟨rfl, fun i _ h1 _ => by rw [if_neg (by omega)]⟩
theorem Rv.done {xs ys : List Int} {a : Nat} (h : Rv xs a ys) (ha : xs.length ≤ 2 * a + 1) : ys = xs.reverse := by
  refine List.ext_getElem (by simp [h.1]) fun i h1 h2 => ?_
  have hx : i < xs.length := by rw [← h.1]; exact h1
  rw [h.2 i h1 hx (by omega), List.getElem_reverse]
  split
  · rfl
  · have : xs.length - 1 - i = i := by omega
    simp only [this]
theorem Rv.step {xs ys : List Int} {a b : Nat} (h : Rv xs a ys) (hb : b = xs.length - 1 - a) (hab : a < b) (ha : a < ys.length) (hbl : b < ys.length) : Rv xs (a + 1) ((ys.set a ys[b]).set b ys[a]) := by
  have hl := h.1
  refine ⟨by simpa using hl, fun i hi h1 h2 => ?_⟩
  simp only [List.getElem_set]
  by_cases e1 : b = i
  · subst e1
    rw [if_pos rfl, h.2 a ha (by omega) (by omega), if_neg (by omega), if_pos (by omega)]
    simp only [show xs.length - 1 - b = a by omega]
  · rw [if_neg e1]
    by_cases e2 : a = i
    · subst e2
      rw [if_pos rfl, h.2 b hbl (by omega) (by omega), if_neg (by omega), if_pos (by omega)]
      simp only [← hb]
    · rw [if_neg e2, h.2 i (by simpa using hi) h1 h2]
      by_cases e3 : i < a ∨ xs.length ≤ i + a
      · rw [if_pos e3, if_pos (by omega)]
      · rw [if_neg e3, if_neg (by omega)]
theorem OwnSl.store1 {α : Type} {enc : α → List Value} {w : World} {b off len cap : Nat} {xs : List α} {F : List Nat} (h : OwnSl 1 enc w (.slice (some ⟨b, off, none⟩) len cap) xs F) {k : Nat} (hk : k < xs.length) (hsz : ∀ x, (enc x).length = 1)
    (y : α) (u : Value) (hy : enc y = (enc xs[k]).set 0 u) : OwnSl 1 enc (w.setCell ⟨b, off + k, none⟩ u) (.slice (some ⟨b, off, none⟩) len cap) (xs.set k y) F := by
  have := h.store (k := k) hk hsz 0 (by decide) y u hy
  rwa [Nat.mul_one, Nat.add_zero] at this

end Go.Proofs.Ytggpnnoldjpmcaa
namespace Go.Proofs.Ytggpnnoldjpmcaa
open Go.RowKit

set_option maxRecDepth 100000 in
set_option maxHeartbeats 2000000 in
theorem growInt_any (n : Nat) (w : World) (h0 : 0 < n) (h1 : n ≤ 3000000) :
    Calls Try.prog 130 #[.slice none 0 0, .int .i64 n] w fun e w' => ∃ cap, e = .returned (.slice (some ⟨w.heap.size, 0, none⟩) 0 cap) ∧ n ≤ cap ∧ w'.ownsRow w.heap.size 3 1 (.slice (some ⟨w.heap.size, 0, none⟩) 0 cap) 0 [] ∧ Below w.heap.size w w' := by
  obtain ⟨i0, hi, hz0, hz1, hz2⟩ := info_parts infoIntW
  have hold : (Builtin.firstCells i0.size 0 (.slice none 0 0)).run Try.prog w.drew = .ok ([] : List Value).toArray w.drew := run_firstCells_none w.drew i0.size 0 0 0
  have hrz : ∀ ty, (Builtin.append_ #[43, 3] ty #[.slice none 0 0, .int .i64 (n : Int)]).run Try.prog w =
      .ok (.slice (some ⟨w.heap.size, 0, none⟩) n (grownCap w n 0 3)) (w.drew.alloc (.cells (Builtin.zeroCells (Value.int .i64 0).cells n ++ Builtin.zeroCells (Value.int .i64 0).cells (grownCap w n 0 3 - n)) 3)) := fun ty => by
    have h := Lib.run_append_grow_zeros w 43 3 ty 3 i0 _ .i64 .i64 Try.underlying43 Try.underlying3 hi hz0 none 0 0 [] hold n h0 (by rw [hz1]; decide) (by omega) (by omega)
      (by rw [hz2]; omega)
      (by rw [Nat.zero_add, hz2, nextslicecap_zero h0]; omega)
    rw [Nat.zero_add] at h
    simpa using h
  have hGn : n ≤ grownCap w n 0 3 := grownCap_ge w _ _ _
  have hG63 : grownCap w n 0 3 ≤ maxLen := grownCap_le_maxLen w n 0 3 (by unfold maxLen; omega)
  obtain ⟨G, hG⟩ : ∃ G, G = grownCap w n 0 3 := ⟨_, rfl⟩
  rw [← hG] at hrz hGn hG63
  clear hold hG
  have HO := Lib.hid (World.ownsRow_made (e := 3) (size := 1) w.drew (Builtin.zeroCells (Value.int .i64 0).cells n ++ Builtin.zeroCells (Value.int .i64 0).cells (G - n)) G (Nat.le_refl _) hG63
    (by rw [Array.size_append, size_zeroCells, size_zeroCells, ← Nat.add_mul, Nat.add_sub_cancel' hGn]; rfl))
  have hG63' : G ≤ 9223372036854775807 := by unfold maxLen at hG63; omega
  go_enter Try.func130, Try.ntmps130
  go_wp2_with (at_builtin; refine Lib.wpList_append_run _ rfl _ _ _ _ rfl _ _ rfl rfl _ _ (hrz _) ?_)
  go_ret
  exact ⟨G, rfl, hGn, HO.out, (Below.refl _ w).drew.alloc (Nat.le_refl _) _⟩

theorem flat_oneInt (xs : List Int) : ∀ u ∈ flat intCells xs, u.oneCell' = true := by
  intro u hu
  obtain ⟨x, _, hx⟩ := List.mem_flatMap.1 hu
  simp [intCells] at hx
  subst hx; rfl

set_option maxHeartbeats 400000 in
theorem growInt_zero (w : World) :
    Calls Try.prog 130 #[.slice none 0 0, .int .i64 0] w fun e w' => e = .returned (.slice none 0 0) ∧ w = w' := by
  go_enter Try.func130, Try.ntmps130
  go_wp2_with fail
  go_ret
  exact ⟨rfl, rfl⟩

set_option maxRecDepth 100000 in
set_option maxHeartbeats 4000000 in
theorem concatInt_any (L : List (Value × List Int)) (b cap B : Nat) (w : World) (hc : ∀ i (hi : i < L.length), w.cell? ⟨b, i, none⟩ = some L[i].1) (hs : ∀ i (hi : i < L.length), Sl 1 intCells B w L[i].1 L[i].2) (hB : B ≤ w.heap.size)
    (hlen : L.length ≤ 10) (htot : upTo L L.length ≤ 3000000) (hbw : b < w.heap.size) :
    Calls Try.prog 123 #[.slice (some ⟨b, 0, none⟩) L.length cap] w fun e w' => ∃ v' F, e = .returned v' ∧ OwnSl 1 intCells w' v' (joined L L.length) F ∧ (∀ x ∈ F, w.heap.size ≤ x) ∧ Below w.heap.size w w' := by
  obtain ⟨i0, hi, hz0, hz1, hz2⟩ := info_parts infoIntW
  have HCC := Lib.hid hc
  have HSS := Lib.hid hs
  clear hc hs
  go_enter Try.func123, Try.ntmps123
  go_wp2_with fail
  go_loop [3, 11] (fun z i => ∃ (k m : Nat), k ≤ L.length ∧ i = .int .i64 k ∧ z = .int .i64 m ∧ m ≤ 3000000 ∧ RowKit.Hid (m = upTo L k)) (fun _ i => L.length - (intOf i).toNat)
  case atStart => exact ⟨0, 0, Nat.zero_le _, rfl, rfl, by omega, Lib.hid (by simp [upTo])⟩
  case round =>
    obtain ⟨k, m, hk, rfl, rfl, hm, HM⟩ := hrel
    by_cases hlt : k < L.length
    · have c0 := HCC.out k hlt
      obtain ⟨p, cp, hf⟩ := (HSS.out k hlt).form
      have hmx := (hf ▸ HSS.out k hlt : Sl 1 intCells B w (.slice p L[k].2.length cp) L[k].2).max
      rw [hf] at c0
      have hu := upTo_succ L hlt
      have hul := upTo_le L (k + 1)
      have HN := Lib.hid (show m + L[k].2.length = upTo L (k + 1) by have := HM.out; omega)
      have hb2 : m + L[k].2.length ≤ 3000000 := by have := HM.out; omega
      obtain ⟨n, en⟩ : ∃ n, n = L[k].2.length := ⟨_, rfl⟩
      rw [← en] at c0 HN hb2
      clear en hf hu hul hmx
      go_wp2_with fail
      go_round
      case rel => exact ⟨k + 1, m + n, by omega, by go_num, by go_num, hb2, HN⟩
      case measure => simp [intOf]; omega
    · obtain rfl : k = L.length := by omega
      by_cases hz : m = 0
      · subst hz
        have hz' : ∀ i (hi : i < L.length), L[i].2.length = 0 := fun i hi => by
          have h1 := upTo_succ L hi
          have h2 := upTo_le L (i + 1)
          have h3 := HM.out
          omega
        have HZ := Lib.hid hz'
        clear hz'
        go_wp2_with fail
        refine (growInt_zero _).mono ?_
        rintro e w1 ⟨rfl, rfl⟩
        go_wp2_with fail
        go_loopw [6, 27] (fun ns i wr => ∃ k : Nat, k ≤ L.length ∧ i = .int .i64 k ∧ ns = .slice none 0 0 ∧ wr = w) (fun _ i _ => L.length - (intOf i).toNat)
        case atStart => exact ⟨0, Nat.zero_le _, rfl, rfl, rfl⟩
        case round =>
          obtain ⟨k, hk, rfl, rfl, rfl⟩ := hrel
          by_cases hlt2 : k < L.length
          · have c0 := HCC.out k hlt2
            obtain ⟨p, cp, hf⟩ := (HSS.out k hlt2).form
            rw [hf, HZ.out k hlt2] at c0
            clear hf
            go_wp2_with (at_builtin; refine Lib.wpList_append_run _ rfl _ _ _ _ rfl _ _ rfl rfl _ _ (run_append_nil0 _ 43 _ 3 i0 Try.underlying43 hi p cp) ?_)
            go_roundw
            case rel => exact ⟨k + 1, by omega, by go_num, rfl, trivial⟩
            case measure => simp [intOf]; omega
          · obtain rfl : k = L.length := by omega
            go_wp2_with fail
            go_ret
            have hj : joined L L.length = [] := List.eq_nil_of_length_eq_zero (by rw [joined_length]; exact HM.out.symm)
            exact ⟨_, [], rfl, by rw [hj]; exact ⟨none, 0, 0, rfl, rfl, Nat.le_refl _, Nat.zero_le _, .inl ⟨rfl, rfl⟩⟩, by simp, Below.refl _ _⟩
      · have hmp : 0 < m := by omega
        go_wp2_with fail
        refine (growInt_any m _ hmp hm).mono ?_
        rintro e w1 ⟨gc, rfl, hgc, hown, hb1⟩
        have HO := Lib.hid hown
        have HB1 := Lib.hid hb1
        have hw1 : w.heap.size < w1.heap.size := by
          obtain ⟨_, h2⟩ := hown
          rcases h2 with ⟨h2, _⟩ | ⟨g, cp, cur, h2, hbb, hg, _⟩
          · cases h2
          · cases h2; exact (Array.getElem?_eq_some_iff.1 hg).1
        clear hown hb1
        go_wp2_with fail
        go_loopw [6, 27] (fun ns i wr => ∃ (k n : Nat), k ≤ L.length ∧ i = .int .i64 k ∧ ns = .slice (some ⟨w.heap.size, 0, none⟩) n gc ∧ RowKit.Hid (n = upTo L k) ∧ wr.ownsRow w.heap.size 3 1 (.slice (some ⟨w.heap.size, 0, none⟩) n gc) n (flat intCells (joined L k)) ∧ Below w.heap.size w wr) (fun _ i _ => L.length - (intOf i).toNat)
        case atStart => exact ⟨0, 0, Nat.zero_le _, rfl, rfl, Lib.hid (by simp [upTo]), HO.out, HB1.out⟩
        case round =>
          obtain ⟨k, n, hk, rfl, rfl, hn, hown, hbw2⟩ := hrel
          have hsz := hbw2.size
          have HB := Lib.hid hbw2
          have HOW := Lib.hid hown
          clear hbw2 hown
          by_cases hlt2 : k < L.length
          · have c0 := keepc HB.out hbw (HCC.out k hlt2)
            have hsl := (HSS.out k hlt2).below (HB.out.mono hB)
            obtain ⟨p, cp, hf⟩ := (HSS.out k hlt2).form
            rw [hf] at c0 hsl
            have hu := upTo_succ L hlt2
            have hul := upTo_le L (k + 1)
            have hfit : n + L[k].2.length ≤ gc := by have := hn.out; have := HM.out; omega
            have HN := Lib.hid (show n + L[k].2.length = upTo L (k + 1) by have := hn.out; omega)
            have HJ := Lib.hid (show flat intCells (joined L k) ++ flat intCells L[k].2 = flat intCells (joined L (k + 1)) by rw [joined_succ L hlt2, flat_append])
            have HS := Lib.hid hsl
            have HFL := Lib.hid (flat_length (enc := intCells) (sz := 1) (fun _ => rfl) L[k].2)
            have HCE := Lib.hid (Sl.cells (sz := 1) (enc := intCells) (fun _ => rfl) hsl)
            have HZE := Lib.hid (show p = none → L[k].2.length = 0 from fun h => by subst h; exact hsl.atNone)
            obtain ⟨ys, ey⟩ : ∃ ys, ys = L[k].2 := ⟨_, rfl⟩
            rw [← ey] at c0 hfit HN HJ HFL HCE HZE
            clear hsl HS ey hf hu hul
            cases p with
            | none =>
              have hy0 := HZE.out rfl
              obtain rfl : ys = [] := List.eq_nil_of_length_eq_zero hy0
              clear hy0
              go_wp2_with (at_builtin; refine Lib.wpList_append_run _ rfl _ _ _ _ rfl _ _ rfl rfl _ _ (run_append_room0 _ 43 _ 3 i0 Try.underlying43 hi _ n gc cp (by simpa using hfit)) ?_)
              have HO2 := Lib.hid (show wr.ownsRow w.heap.size 3 1 (.slice (some ⟨w.heap.size, 0, none⟩) n gc) n (flat intCells (joined L (k + 1))) by rw [← HJ.out]; simpa [flat] using HOW.out)
              go_roundw
              case rel => exact ⟨k + 1, n, by omega, by go_num, rfl, HN, HO2.out, HB.out⟩
              case measure => simp [intOf]; omega
            | some pp =>
              go_wp2_with (at_builtin; refine wpList_append_fits_any _ rfl _ _ 43 rfl w.heap.size 3 i0 1 Try.underlying43 hi hz1 w.heap.size n gc _ rfl HOW.out (some pp) ys.length cp (flat intCells ys) rfl HFL.out (fun h => by cases h) HCE.out (flat_oneInt ys) hfit ?_)
              intro w2 hown2 hgrow
              have HB2 := Lib.hid (HB.out.grown hgrow hsz (fun q hq => by cases hq; exact Nat.le_refl _))
              have HO2 := Lib.hid (show w2.ownsRow w.heap.size 3 1 (.slice (some ⟨w.heap.size, 0, none⟩) (n + ys.length) gc) (n + ys.length) (flat intCells (joined L (k + 1))) by rw [← HJ.out]; exact hown2)
              clear hown2 hgrow
              go_wp2_with fail
              go_roundw
              case rel => exact ⟨k + 1, n + ys.length, by omega, by go_num, rfl, HN, HO2.out, HB2.out⟩
              case measure => simp [intOf]; omega
          · obtain rfl : k = L.length := by omega
            go_wp2_with fail
            go_ret
            obtain ⟨F, h1, h2⟩ := own_of_flat (enc := intCells) (sz := 1) (fun _ => rfl) (n := n) (xs := joined L L.length) (by rw [joined_length]; exact hn.out) HOW.out
            exact ⟨_, F, rfl, h1, h2, HB.out⟩
end Go.Proofs.Ytggpnnoldjpmcaa
namespace Go.Proofs.Ytggpnnoldjpmcaa
open Go.RowKit

def byCells (z : Int) : List Value := [.int .u8 z]
theorem Sl.by {B : Nat} {w : World} {p : Option Addr} {len cap : Nat} {xs : List Int} (h : Sl 1 byCells B w (.slice p len cap) xs) {k : Nat} (hk : k < xs.length) :
    ∃ b off, p = some ⟨b, off, none⟩ ∧ b < B ∧ w.cell? ⟨b, off + k, none⟩ = some (.int .u8 xs[k]) := by
  obtain ⟨p', len', cap', h1, h2, h3, h4, h5⟩ := h
  cases h1
  obtain ⟨b, off, e1, e2, e3⟩ := h5 k hk
  have := e3 0 _ rfl
  rw [Nat.mul_one, Nat.add_zero] at this
  exact ⟨b, off, e1, e2, this⟩
theorem xor_nonneg (X : Int) (h0 : 0 ≤ X) (h1 : X < 9223372036854775808) : 0 ≤ bits .xor .i64 X (X / 64) := by
  obtain ⟨a, rfl⟩ := Int.eq_ofNat_of_zero_le h0
  have ha : a < 2 ^ 63 := by omega
  have hb : a / 64 < 2 ^ 63 := by omega
  have e : ((a : Int) / 64) = ((a / 64 : Nat) : Int) := rfl
  rw [e]
  have ha' : a % 2 ^ 64 = a := Nat.mod_eq_of_lt (by omega)
  have hb' : (a / 64) % 2 ^ 64 = a / 64 := Nat.mod_eq_of_lt (by omega)
  have hc : a ^^^ (a / 64) < 2 ^ 63 := Nat.xor_lt_two_pow ha hb
  have e2 : (BitVec.ofInt 64 (a : Int) ^^^ BitVec.ofInt 64 ((a / 64 : Nat) : Int)).toNat = a ^^^ (a / 64) := by
    rw [BitVec.toNat_xor, BitVec.ofInt_natCast, BitVec.ofInt_natCast, BitVec.toNat_ofNat, BitVec.toNat_ofNat, ha', hb']
  show 0 ≤ IntKind.i64.wrap ((BitVec.ofInt 64 (a : Int) ^^^ BitVec.ofInt 64 ((a / 64 : Nat) : Int)).toNat : Int)
  rw [e2, IntKind.wrap_i64]
  omega
theorem Chg.drewN {F : List Nat} {a w : World} (h : Chg F a w) (n : Nat) : Chg F a (w.drewN n) := by
  exact ⟨h.os, h.tape, h.output, h.size, h.block⟩
def top (m : Int) : Int := if 1 ≤ m then m else 1
theorem top_pos (m : Int) : 0 < top m := by unfold top; split <;> omega
theorem top_of {m : Int} (h : 1 ≤ m) : top m = m := if_pos h
end Go.Proofs.Ytggpnnoldjpmcaa
namespace Go.Proofs.Ytggpnnoldjpmcaa
open Go.ChangeShapes Go.WideShapes Go.Deep Go.RowKit

section
variable {H : Type} {enc : TypeId × Value → H} {P : Program} {w : World} {base : Nat} {spare : Nat → Bool} {held : Bool}
/-- A slice of structs of one-cell fields that is read: each field's cell, and its own reading. -/
theorem open_struct_rows {t e : TypeId} {fs : Array Field} {fuel : Nat} {v : Value} {x : DataW H × List MemPlace} (ht : P.underlying t = some (.slice e)) (he : P.underlying e = some (.struct fs))
    (hone : oneCellFields P fs = true) (hC : P.cellsOf e = fs.size) (hpos : 0 < fs.size) (h : DataW.trod enc P w base spare held fuel t [v] = some x) :
    ∃ (p : Option Addr) (len cap : Nat), v = .slice p len cap ∧ len ≤ cap ∧ cap ≤ maxLen ∧
      ∀ i, i < len → ∃ (b off : Nat) (n : Nat), p = some ⟨b, off, none⟩ ∧ b < w.heap.size ∧ ∀ (j : Nat) (f : Field), fs[j]? = some f → ∃ (u : Value) (y : DataW H × List MemPlace), w.cell? ⟨b, off + i * fs.size + j, none⟩ = some u ∧ DataW.trod enc P w base spare held n f.type [u] = some y := by
  rcases open_slice ht h with ⟨h0, _⟩ | ⟨a, len, cap, m, n, D, Pl, hcs, hb, hl, hm, hmm, hx, hi⟩
  · simp at h0
    exact ⟨none, 0, 0, h0, Nat.le_refl _, Nat.zero_le _, fun i hi => by omega⟩
  · simp at hcs
    have hlm : len ≤ m := by rw [hmm]; split <;> omega
    have key : ∀ i, i < len → ∃ n : Nat, ∀ (j : Nat) (f : Field), fs[j]? = some f → ∃ (u : Value) (y : DataW H × List MemPlace), w.cell? (a.add (i * fs.size + j)) = some u ∧ DataW.trod enc P w base spare held n f.type [u] = some y := by
      intro i him
      obtain ⟨cs', hc, ht'⟩ := hi i (by omega)
      rw [hC] at hc
      obtain ⟨ys, n', hn', hy, hlen, hyl, hf⟩ := DataW.trod_struct he ht'
      obtain ⟨_, hcl, hat⟩ := World.cells?_some hc
      refine ⟨n', fun j f hj => ?_⟩
      obtain ⟨ho, hk⟩ := hone_of hone j f hj
      have hjl : j < fs.size := (Array.getElem?_eq_some_iff.1 hj).1
      have hcell := hat j hjl
      have hv : cs'[j]? = some (cs'[j]'(by omega)) := List.getElem?_eq_getElem (by omega)
      have h1 := hf j f hj
      rw [ho, hk] at h1
      have hone' : (cs'.drop j).take 1 = [cs'[j]'(by omega)] := by
        rw [List.drop_eq_getElem_cons (by omega)]
        rfl
      rw [hone'] at h1
      have hys : ys[j]? = some (ys[j]'(by omega)) := List.getElem?_eq_getElem (by omega)
      refine ⟨_, _, ?_, h1.trans hys⟩
      rw [← Go.Deep.add_add, hcell, hv]
    refine ⟨some a, len, cap, hcs, hl, hm, fun i him => ?_⟩
    obtain ⟨n0, k0⟩ := key 0 (by omega)
    obtain ⟨u0, y0, c0, _⟩ := k0 0 _ (Array.getElem?_eq_getElem hpos)
    rw [Nat.zero_mul, Nat.add_zero] at c0
    obtain ⟨b, off, spot⟩ := a
    have hs : spot = none := by simpa [Addr.add] using World.cell?_spot c0
    subst hs
    obtain ⟨n, hn⟩ := key i him
    refine ⟨b, off, n, rfl, by simpa [Addr.add] using World.block_lt_of_cell? w _ c0, fun j f hj => ?_⟩
    obtain ⟨u, y, h1, h2⟩ := hn j f hj
    rw [add_plain, ← Nat.add_assoc] at h1
    exact ⟨u, y, h1, h2⟩
end

/-- From a fact at each index to a list. -/
theorem sl_of {α : Type} {sz : Nat} {enc : α → List Value} {w : World} {p : Option Addr} {len cap : Nat} (hl : len ≤ cap) (hm : cap ≤ maxLen) (Ok : α → Prop)
    (h : ∀ i, i < len → ∃ x : α, (∃ b off, p = some ⟨b, off, none⟩ ∧ b < w.heap.size ∧ ∀ j v, (enc x)[j]? = some v → w.cell? ⟨b, off + i * sz + j, none⟩ = some v) ∧ Ok x) :
    ∃ xs : List α, Sl sz enc w.heap.size w (.slice p len cap) xs ∧ ∀ x ∈ xs, Ok x := by
  refine ⟨List.ofFn fun i : Fin len => Classical.choose (h i.1 i.2), ⟨p, len, cap, rfl, by simp, hl, hm, fun i hi => ?_⟩, fun x hx => ?_⟩
  · rw [List.getElem_ofFn]
    exact (Classical.choose_spec (h i (by simpa using hi))).1
  · obtain ⟨i, rfl⟩ := List.mem_ofFn.1 hx
    exact (Classical.choose_spec (h i.1 i.2)).2
end Go.Proofs.Ytggpnnoldjpmcaa
namespace Go.Proofs.Ytggpnnoldjpmcaa
open Go.RowKit

section
open Go.ChangeShapes Go.WideShapes Go.Deep
variable {H : Type} {enc : TypeId × Value → H} {w : World} {base : Nat} {spare : Nat → Bool} {held : Bool}
set_option maxRecDepth 100000 in
/-- A list of bytes that came in. -/
theorem open_bytes {r : Reach} {b0 : Nat} {v : Value} {d : DataW H} {p : List MemPlace} (hv : Value.okWide Try.prog w r b0 143 v) (h : DataW.Trod enc Try.prog w base spare held 143 v d p) :
    ∃ zs : List Int, Sl 1 byCells w.heap.size w v zs ∧ ∀ z ∈ zs, 0 ≤ z ∧ z ≤ 255 := by
  obtain ⟨p', len', cap', rfl⟩ := okWide_slice Try.underlying143 hv
  obtain ⟨fuel, hf⟩ := h
  rcases open_slice1 Try.underlying143 (by kernel_rfl) hf with ⟨h0, _⟩ | ⟨a, len, cap, m, n, V, D, Pl, hcs, hb, hl, hm, hmm, hx, hi⟩
  · simp [Value.cells] at h0
    obtain ⟨rfl, rfl, rfl⟩ := h0
    exact ⟨[], ⟨none, 0, 0, rfl, rfl, Nat.le_refl _, Nat.zero_le _, fun i hi => by simp at hi⟩, by simp⟩
  · simp [Value.cells] at hcs
    obtain ⟨rfl, rfl, rfl⟩ := hcs
    have hlm : len' ≤ m := by rw [hmm]; split <;> omega
    obtain ⟨zs, hz, hok⟩ := sl_of (enc := byCells) (sz := 1) (w := w) (p := some a) (len := len') (cap := cap') hl hm (fun z => 0 ≤ z ∧ z ≤ 255) (fun i him => by
      obtain ⟨h1, h2⟩ := hi i (by omega)
      obtain ⟨z, hz, _, hw⟩ := DataW.trod_int Try.underlying5 h2
      simp at hz
      have h00 := (hi 0 (by omega)).1
      obtain ⟨b, off, spot⟩ := a
      have hs : spot = none := by simpa [Addr.add] using World.cell?_spot h00
      subst hs
      rw [add_plain] at h1
      refine ⟨z, ⟨b, off, rfl, World.block_lt_of_cell? w _ h1, fun j u hu => ?_⟩, ?_⟩
      · match j, hu with
        | 0, hu => simp [byCells] at hu; subst hu; rw [Nat.mul_one, Nat.add_zero, h1, hz]
        | j + 1, hu => simp [byCells] at hu
      · have := hw
        simp [Lit.wf, IntKind.min, IntKind.max, IntKind.signed, IntKind.bits] at this
        omega)
    exact ⟨zs, hz, hok⟩
end
end Go.Proofs.Ytggpnnoldjpmcaa
