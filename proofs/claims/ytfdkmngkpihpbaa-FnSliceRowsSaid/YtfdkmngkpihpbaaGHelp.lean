/- Contracts of the laws' helpers on graphs: sizes, copies, equality. -/
import Derived.Test.YtfdkmngkpihpbaaGValid
namespace Go.Proofs.Ytfdkmngkpihpbaa
open Go.RowKit

/-- What a size function answers: -1, or what is left. -/
def SzPost (left need : Int) (B : Nat) (w : World) (e : Ending) (w' : World) : Prop := ∃ r : Int, e = .returned (.int .i64 r) ∧ (r = -1 ∨ (0 ≤ r ∧ r = left - need)) ∧ Below B w w'

def sumNode (xs : List Nd) : Nat := (xs.map fun x => x.l.size).sum
theorem sumNode_succ (xs : List Nd) (k : Nat) (h : k < xs.length) : sumNode (xs.take (k + 1)) = sumNode (xs.take k) + xs[k].l.size := by
  unfold sumNode; rw [List.take_succ_eq_append_getElem h, List.map_append, List.sum_append]; simp only [List.map_cons, List.map_nil, List.sum_cons, List.sum_nil, Nat.add_zero]
theorem sumNode_le (xs : List Nd) (k : Nat) : sumNode (xs.take k) ≤ sumNode xs := by
  unfold sumNode
  have := congrArg (fun l => (l.map fun x : Nd => x.l.size).sum) (List.take_append_drop k xs)
  simp only [List.map_append, List.sum_append] at this; omega

def sumEdge (xs : List Ed) : Nat := (xs.map fun x => x.l.size).sum
theorem sumEdge_succ (xs : List Ed) (k : Nat) (h : k < xs.length) : sumEdge (xs.take (k + 1)) = sumEdge (xs.take k) + xs[k].l.size := by
  unfold sumEdge; rw [List.take_succ_eq_append_getElem h, List.map_append, List.sum_append]; simp only [List.map_cons, List.map_nil, List.sum_cons, List.sum_nil, Nat.add_zero]
theorem sumEdge_le (xs : List Ed) (k : Nat) : sumEdge (xs.take k) ≤ sumEdge xs := by
  unfold sumEdge
  have := congrArg (fun l => (l.map fun x : Ed => x.l.size).sum) (List.take_append_drop k xs)
  simp only [List.map_append, List.sum_append] at this; omega

/-- A slice of flat elements in memory of the call's own: not frozen, in the blocks F. -/
def OwnSl {α : Type} (sz : Nat) (enc : α → List Value) (w : World) (v : Value) (xs : List α) (F : List Nat) : Prop :=
  ∃ (p : Option Addr) (len cap : Nat), v = .slice p len cap ∧ len = xs.length ∧ len ≤ cap ∧ cap ≤ maxLen ∧
    ((xs = [] ∧ F = []) ∨ ∃ b off, p = some ⟨b, off, none⟩ ∧ F = [b] ∧ b < w.heap.size ∧ (∀ o, w.frozen? ⟨b, o, none⟩ = false) ∧ ∀ (i : Nat) (h : i < xs.length) j x, (enc xs[i])[j]? = some x → w.cell? ⟨b, off + i * sz + j, none⟩ = some x)
theorem OwnSl.sl {α : Type} {sz : Nat} {enc : α → List Value} {w : World} {v : Value} {xs : List α} {F : List Nat} (h : OwnSl sz enc w v xs F) : Sl sz enc w.heap.size w v xs := by
  obtain ⟨p, len, cap, h1, h2, h3, h4, h5⟩ := h
  refine ⟨p, len, cap, h1, h2, h3, h4, fun i hi => ?_⟩
  rcases h5 with ⟨h5, _⟩ | ⟨b, off, e1, e2, e3, e4, e5⟩
  · subst h5; simp at hi
  · exact ⟨b, off, e1, e3, e5 i hi⟩
/-- The world w' is as w was, but for the blocks in F, and new ones. -/
structure Chg (F : List Nat) (w w' : World) : Prop where
  os : w'.os = w.os
  tape : w'.tape = w.tape
  output : w'.output = w.output
  size : w.heap.size ≤ w'.heap.size
  block : ∀ k, k < w.heap.size → k ∉ F → w'.heap[k]? = w.heap[k]?
theorem Chg.refl (F : List Nat) (w : World) : Chg F w w := ⟨rfl, rfl, rfl, Nat.le_refl _, fun _ _ _ => rfl⟩
theorem Chg.trans {F : List Nat} {a b c : World} (h : Chg F a b) (k : Chg F b c) : Chg F a c :=
  ⟨k.os.trans h.os, k.tape.trans h.tape, k.output.trans h.output, Nat.le_trans h.size k.size, fun i hi hF => (k.block i (Nat.lt_of_lt_of_le hi h.size) hF).trans (h.block i hi hF)⟩
theorem Chg.mono {F G : List Nat} {a b : World} (h : Chg F a b) (hs : ∀ x ∈ F, x ∈ G) : Chg G a b :=
  ⟨h.os, h.tape, h.output, h.size, fun i hi hF => h.block i hi (fun hx => hF (hs i hx))⟩
theorem Chg.of_below' {w w' : World} (h : Below w.heap.size w w') (F : List Nat) : Chg F w w' := ⟨h.os, h.tape, h.output, h.size, fun i hi _ => h.block i hi⟩
theorem Chg.setCell {F : List Nat} {a w : World} (h : Chg F a w) {p : Addr} (hp : p.block ∈ F) (u : Value) : Chg F a (w.setCell p u) :=
  h.trans ⟨rfl, rfl, rfl, by simp [World.setCell], fun k hk hF => Below.heap_setCell _ _ _ _ (by rintro rfl; exact hF hp)⟩
theorem Chg.then_below {F : List Nat} {a w w' : World} (h : Chg F a w) (hb : Below w.heap.size w w') : Chg F a w' := h.trans (Chg.of_below' hb F)
theorem Chg.of_below {w w' : World} (h : Below w.heap.size w w') (F : List Nat) : Chg F w w' := ⟨h.os, h.tape, h.output, h.size, fun i hi _ => h.block i hi⟩
theorem Chg.below {F : List Nat} {w w' : World} (h : Chg F w w') {B : Nat} (hB : B ≤ w.heap.size) (hF : ∀ x ∈ F, B ≤ x) : Below B w w' :=
  ⟨h.os, h.tape, h.output, h.size, fun i hi => h.block i (by omega) (fun hx => by have := hF i hx; omega)⟩
theorem OwnSl.chg {α : Type} {sz : Nat} {enc : α → List Value} {w w' : World} {v : Value} {xs : List α} {F G : List Nat} (h : OwnSl sz enc w v xs F) (hc : Chg G w w') (hd : ∀ x ∈ F, x ∉ G) : OwnSl sz enc w' v xs F := by
  obtain ⟨p, len, cap, h1, h2, h3, h4, h5⟩ := h
  refine ⟨p, len, cap, h1, h2, h3, h4, ?_⟩
  rcases h5 with h5 | ⟨b, off, e1, e2, e3, e4, e5⟩
  · exact .inl h5
  · have hb := hc.block b e3 (hd b (by rw [e2]; simp))
    have hs := hc.size
    exact .inr ⟨b, off, e1, e2, by omega, fun o => (World.frozen?_of_block (w := w) (a := ⟨b, o, none⟩) hb).trans (e4 o), fun i hi j x hx => (World.cell?_of_block (w := w) (a := ⟨b, _, none⟩) hb).trans (e5 i hi j x hx)⟩
theorem OwnSl.below {α : Type} {sz : Nat} {enc : α → List Value} {w w' : World} {v : Value} {xs : List α} {F : List Nat} (h : OwnSl sz enc w v xs F) (hc : Below w.heap.size w w') : OwnSl sz enc w' v xs F :=
  h.chg (Chg.of_below hc []) (by simp)
theorem OwnSl.lt {α : Type} {sz : Nat} {enc : α → List Value} {w : World} {v : Value} {xs : List α} {F : List Nat} (h : OwnSl sz enc w v xs F) : ∀ x ∈ F, x < w.heap.size := by
  obtain ⟨p, len, cap, h1, h2, h3, h4, h5⟩ := h
  rcases h5 with ⟨_, rfl⟩ | ⟨b, off, e1, e2, e3, e4, e5⟩
  · simp
  · subst e2; simpa using e3
/-- The first k elements' cells stand in L. -/
def Part {α : Type} (sz : Nat) (enc : α → List Value) (xs : List α) (L : List Value) (k : Nat) : Prop :=
  L.length = xs.length * sz ∧ ∀ (i : Nat) (h : i < xs.length), i < k → ∀ j x, (enc xs[i])[j]? = some x → L[i * sz + j]? = some x
def setAt (L : List Value) (o : Nat) : List Value → List Value
  | [] => L
  | v :: vs => setAt (L.set o v) (o + 1) vs
theorem length_setAt (L : List Value) (o : Nat) (vs : List Value) : (setAt L o vs).length = L.length := by
  induction vs generalizing L o with
  | nil => rfl
  | cons v vs ih => unfold setAt; rw [ih]; simp
theorem setAt_out (L : List Value) (o : Nat) (vs : List Value) (i : Nat) (h : i < o ∨ o + vs.length ≤ i) : (setAt L o vs)[i]? = L[i]? := by
  induction vs generalizing L o with
  | nil => rfl
  | cons v vs ih =>
    unfold setAt
    rw [ih _ _ (by simp at h; omega), List.getElem?_set_ne (by simp at h; omega)]
theorem setAt_in (L : List Value) (o : Nat) (vs : List Value) (j : Nat) (hj : j < vs.length) (hl : o + vs.length ≤ L.length) : (setAt L o vs)[o + j]? = vs[j]? := by
  induction vs generalizing L o j with
  | nil => simp at hj
  | cons v vs ih =>
    unfold setAt
    simp at hj hl
    cases j with
    | zero => rw [setAt_out (L.set o v) (o + 1) vs (o + 0) (.inl (by omega)), Nat.add_zero, List.getElem?_set_self (by omega)]; rfl
    | succ j =>
      have := ih (L.set o v) (o + 1) j (by omega) (by simp; omega)
      rw [show o + (j + 1) = o + 1 + j by omega, this]; simp
theorem Part.zero {α : Type} {sz : Nat} {enc : α → List Value} {xs : List α} {L : List Value} (h : L.length = xs.length * sz) : Part sz enc xs L 0 := ⟨h, fun _ _ h => by omega⟩
theorem Part.succ {α : Type} {sz : Nat} {enc : α → List Value} {xs : List α} {L : List Value} {k : Nat} (h : Part sz enc xs L k) (hk : k < xs.length) (hs : ∀ x, (enc x).length = sz) : Part sz enc xs (setAt L (k * sz) (enc xs[k])) (k + 1) := by
  refine ⟨(length_setAt _ _ _).trans h.1, fun i hi hik j x hx => ?_⟩
  have hle : k * sz + sz ≤ xs.length * sz := by rw [← Nat.succ_mul]; exact Nat.mul_le_mul_right _ hk
  by_cases e : i = k
  · subst e
    have hj : j < (enc xs[i]).length := (List.getElem?_eq_some_iff.1 hx).1
    rw [setAt_in _ _ _ _ hj (by rw [hs, h.1]; exact hle)]; exact hx
  · have hlt : i < k := by omega
    have hj : j < sz := by rw [← hs xs[i]]; exact (List.getElem?_eq_some_iff.1 hx).1
    have : i * sz + sz ≤ k * sz := by rw [← Nat.succ_mul]; exact Nat.mul_le_mul_right _ hlt
    rw [setAt_out _ _ _ _ (.inl (by omega))]
    exact h.2 i hi hlt j x hx
theorem set_far (w : World) (b o : Nat) (v : Value) (b' o' : Nat) (h : b ≠ b') : (w.setCell ⟨b, o, none⟩ v).cell? ⟨b', o', none⟩ = w.cell? ⟨b', o', none⟩ :=
  World.cell?_of_block (w := w) (Below.heap_setCell _ _ _ _ (fun e => h e.symm))
theorem set_near (w : World) (b o : Nat) (v : Value) (o' : Nat) (h : o ≠ o') : (w.setCell ⟨b, o, none⟩ v).cell? ⟨b, o', none⟩ = w.cell? ⟨b, o', none⟩ :=
  World.cell?_setCell_other w ⟨b, o, none⟩ ⟨b, o', none⟩ v (by intro e; injection e with _ e2; exact h e2)
theorem set_same (w : World) (b o : Nat) (u v : Value) (h : w.cell? ⟨b, o, none⟩ = some u) : (w.setCell ⟨b, o, none⟩ v).cell? ⟨b, o, none⟩ = some v := World.cell?_setCell_same w ⟨b, o, none⟩ v h
/-- A whole block, its cells as a list. -/
def Blk (w : World) (b : Nat) (T : TypeId) (L : List Value) : Prop := w.heap[b]? = some (.cells L.toArray T (0, 0))
theorem Blk.cell {w : World} {b : Nat} {T : TypeId} {L : List Value} (h : Blk w b T L) (i : Nat) : w.cell? ⟨b, i, none⟩ = L[i]? := by
  unfold Blk at h; simp [World.cell?, h]
theorem Blk.frozen {w : World} {b : Nat} {T : TypeId} {L : List Value} (h : Blk w b T L) (i : Nat) : w.frozen? ⟨b, i, none⟩ = false := by
  unfold Blk at h; simp [World.frozen?, h]
theorem Blk.lt {w : World} {b : Nat} {T : TypeId} {L : List Value} (h : Blk w b T L) : b < w.heap.size := by
  unfold Blk at h; exact (Array.getElem?_eq_some_iff.1 h).1
theorem Blk.below {w w' : World} {b B : Nat} {T : TypeId} {L : List Value} (h : Blk w b T L) (hb : Below B w w') (hB : b < B) : Blk w' b T L := (hb.block b hB).trans h
theorem Blk.set {w : World} {b : Nat} {T : TypeId} {L : List Value} (h : Blk w b T L) (i : Nat) (v : Value) : Blk (w.setCell ⟨b, i, none⟩ v) b T (L.set i v) := by
  unfold Blk at *
  simp [World.setCell, Array.getElem?_modify, h]
theorem Blk.new (w : World) (c : Array Value) (T : TypeId) : Blk (w.alloc (.cells c T)) w.heap.size T c.toList := by
  have : (w.alloc (.cells c T)).heap = w.heap.push (.cells c T) := rfl
  unfold Blk; rw [this]; simp

theorem infoNode : (Try.prog.info? 141).map (fun i => (i.zero, i.size, i.bytes)) = some (some (.agg #[.string ⟨#[]⟩, .int .i64 0]), 2, 24) := by kernel_rfl

theorem infoEdge : (Try.prog.info? 143).map (fun i => (i.zero, i.size, i.bytes)) = some (some (.agg #[.int .i64 0, .int .i64 0, .string ⟨#[]⟩, .int .i64 0]), 4, 40) := by kernel_rfl

end Go.Proofs.Ytfdkmngkpihpbaa
