/- Contracts of the laws' helpers on graphs: sizes, copies, equality. -/
import Derived.Test.YthpclghhlodnhaaDoorGValid
namespace Go.Proofs.YthpclghhlodnhaaDoor
open Go.RowKit

/-- What a size function answers: -1, or what is left. -/
def SzPost (left need : Int) (B : Nat) (w : World) (e : Ending) (w' : World) : Prop := ∃ r : Int, e = .returned (.int .i64 r) ∧ (r = -1 ∨ (0 ≤ r ∧ r = left - need)) ∧ Below B w w'

set_option maxHeartbeats 400000 in
theorem szNode_any (x : Nd) (left : Int) (w : World) (h0 : 0 ≤ left) (h1 : left ≤ 1048576) (hx : x.Ok) :
    Calls Tryd.prog 46 #[.agg #[.string x.l, .int .i64 x.n], .int .i64 left] w (SzPost left x.l.size w.heap.size w) := by
  obtain ⟨x0, x1⟩ := hx
  have hl := x0
  unfold maxLen at hl
  by_cases hlt : left < x.l.size
  · go_enter Tryd.func46, Tryd.ntmps46
    go_wp2_with fail
    go_ret
    exact ⟨-1, rfl, .inl rfl, (Below.refl _ _).alloc (Nat.le_refl _) _⟩
  · go_enter Tryd.func46, Tryd.ntmps46
    go_wp2_with fail
    go_ret
    exact ⟨left - x.l.size, rfl, .inr ⟨by omega, rfl⟩, (Below.refl _ _).alloc (Nat.le_refl _) _⟩

def sumNode (xs : List Nd) : Nat := (xs.map fun x => x.l.size).sum
theorem sumNode_succ (xs : List Nd) (k : Nat) (h : k < xs.length) : sumNode (xs.take (k + 1)) = sumNode (xs.take k) + xs[k].l.size := by
  unfold sumNode; rw [List.take_succ_eq_append_getElem h, List.map_append, List.sum_append]; simp only [List.map_cons, List.map_nil, List.sum_cons, List.sum_nil, Nat.add_zero]
theorem sumNode_le (xs : List Nd) (k : Nat) : sumNode (xs.take k) ≤ sumNode xs := by
  unfold sumNode
  have := congrArg (fun l => (l.map fun x : Nd => x.l.size).sum) (List.take_append_drop k xs)
  simp only [List.map_append, List.sum_append] at this; omega

set_option maxHeartbeats 1000000 in
theorem szNodeS_any (xs : List Nd) (v : Value) (left : Int) (B : Nat) (w : World) (hv : Sl 2 Nd.cells B w v xs) (hB : B ≤ w.heap.size) (h0 : 0 ≤ left) (h1 : left ≤ 1048576) (hok : ∀ x ∈ xs, x.Ok) :
    Calls Tryd.prog 18 #[v, .int .i64 left] w (SzPost left (xs.length + sumNode xs) w.heap.size w) := by
  obtain ⟨p, cap, rfl⟩ := hv.form
  have hm := hv.max
  unfold maxLen at hm
  by_cases hlt : left < xs.length
  · go_enter Tryd.func18, Tryd.ntmps18
    go_wp2_with fail
    go_ret
    exact ⟨-1, rfl, .inl rfl, Below.refl _ _⟩
  · have q1 : decide (left - (xs.length : Int) < 0) = false := by simp; omega
    have q1' : decide (left < (xs.length : Int)) = false := by simp; omega
    go_enter Tryd.func18, Tryd.ntmps18
    go_wp2_with fail
    go_loopw [1, 5] (fun l i wr => ∃ (k : Nat) (m : Int), k ≤ xs.length ∧ i = .int .i64 k ∧ l = .int .i64 m ∧ 0 ≤ m ∧ m ≤ 1048576 ∧ RowKit.Hid (m = left - (xs.length + sumNode (xs.take k))) ∧ Below w.heap.size w wr) (fun _ i _ => xs.length - (intOf i).toNat)
    case atStart => exact ⟨0, left - xs.length, Nat.zero_le _, rfl, rfl, by omega, by omega, Lib.hid (by simp [sumNode]), Below.refl _ _⟩
    case round =>
      obtain ⟨k, m, hk, rfl, rfl, hm0, hm1, hme, hbw⟩ := hrel
      have hsz := hbw.size
      have HB := Lib.hid hbw
      clear hbw
      by_cases hlt2 : k < xs.length
      · obtain ⟨b, off, rfl, hb, c0, c1⟩ := (hv.below (HB.out.mono hB)).nd hlt2
        have hx := hok _ (List.getElem_mem hlt2)
        have hsum := sumNode_succ xs k hlt2
        have hsle := sumNode_le xs (k + 1)
        obtain ⟨x, ex⟩ : ∃ x, x = xs[k] := ⟨_, rfl⟩
        rw [← ex] at c0 c1 hx hsum
        have HS := Lib.hid hsum
        clear ex hsum
        go_wp2_with fail
        refine (szNode_any x m _ hm0 hm1 hx).mono ?_
        rintro e w' ⟨r, rfl, hr, hb1⟩
        have HB1 := Lib.hid hb1
        clear hb1
        rcases hr with hr | ⟨hr0, hr⟩
        · have HR := Lib.hid hr
          have hneg : r < 0 := by omega
          clear hr
          go_wp2_with fail
          go_ret
          exact ⟨-1, rfl, .inl rfl, HB.out.trans (HB1.out.mono hsz)⟩
        · have hr1 : r ≤ 1048576 := by omega
          have HR := Lib.hid (show r = left - (xs.length + sumNode (xs.take (k + 1))) by have a := hme.out; have b := HS.out; omega)
          clear hr
          go_wp2_with fail
          go_roundw
          case rel => exact ⟨k + 1, r, by omega, by go_num, rfl, hr0, hr1, HR, HB.out.trans (HB1.out.mono hsz)⟩
          case measure => simp [intOf]; omega
      · obtain rfl : k = xs.length := by omega
        have HE := Lib.hid (show m = left - (xs.length + sumNode xs) by have a := hme.out; rw [List.take_of_length_le (Nat.le_refl _)] at a; exact a)
        go_wp2_with fail
        go_ret
        exact ⟨m, rfl, .inr ⟨hm0, HE.out⟩, HB.out⟩

set_option maxHeartbeats 400000 in
theorem szEdge_any (x : Ed) (left : Int) (w : World) (h0 : 0 ≤ left) (h1 : left ≤ 1048576) (hx : x.Ok) :
    Calls Tryd.prog 47 #[.agg #[.int .i64 x.f, .int .i64 x.t, .string x.l, .int .i64 x.n], .int .i64 left] w (SzPost left x.l.size w.heap.size w) := by
  obtain ⟨x0, x1, x2, x3⟩ := hx
  have hl := x2
  unfold maxLen at hl
  by_cases hlt : left < x.l.size
  · go_enter Tryd.func47, Tryd.ntmps47
    go_wp2_with fail
    go_ret
    exact ⟨-1, rfl, .inl rfl, (Below.refl _ _).alloc (Nat.le_refl _) _⟩
  · go_enter Tryd.func47, Tryd.ntmps47
    go_wp2_with fail
    go_ret
    exact ⟨left - x.l.size, rfl, .inr ⟨by omega, rfl⟩, (Below.refl _ _).alloc (Nat.le_refl _) _⟩

def sumEdge (xs : List Ed) : Nat := (xs.map fun x => x.l.size).sum
theorem sumEdge_succ (xs : List Ed) (k : Nat) (h : k < xs.length) : sumEdge (xs.take (k + 1)) = sumEdge (xs.take k) + xs[k].l.size := by
  unfold sumEdge; rw [List.take_succ_eq_append_getElem h, List.map_append, List.sum_append]; simp only [List.map_cons, List.map_nil, List.sum_cons, List.sum_nil, Nat.add_zero]
theorem sumEdge_le (xs : List Ed) (k : Nat) : sumEdge (xs.take k) ≤ sumEdge xs := by
  unfold sumEdge
  have := congrArg (fun l => (l.map fun x : Ed => x.l.size).sum) (List.take_append_drop k xs)
  simp only [List.map_append, List.sum_append] at this; omega

set_option maxHeartbeats 1000000 in
theorem szEdgeS_any (xs : List Ed) (v : Value) (left : Int) (B : Nat) (w : World) (hv : Sl 4 Ed.cells B w v xs) (hB : B ≤ w.heap.size) (h0 : 0 ≤ left) (h1 : left ≤ 1048576) (hok : ∀ x ∈ xs, x.Ok) :
    Calls Tryd.prog 19 #[v, .int .i64 left] w (SzPost left (xs.length + sumEdge xs) w.heap.size w) := by
  obtain ⟨p, cap, rfl⟩ := hv.form
  have hm := hv.max
  unfold maxLen at hm
  by_cases hlt : left < xs.length
  · go_enter Tryd.func19, Tryd.ntmps19
    go_wp2_with fail
    go_ret
    exact ⟨-1, rfl, .inl rfl, Below.refl _ _⟩
  · have q1 : decide (left - (xs.length : Int) < 0) = false := by simp; omega
    have q1' : decide (left < (xs.length : Int)) = false := by simp; omega
    go_enter Tryd.func19, Tryd.ntmps19
    go_wp2_with fail
    go_loopw [1, 5] (fun l i wr => ∃ (k : Nat) (m : Int), k ≤ xs.length ∧ i = .int .i64 k ∧ l = .int .i64 m ∧ 0 ≤ m ∧ m ≤ 1048576 ∧ RowKit.Hid (m = left - (xs.length + sumEdge (xs.take k))) ∧ Below w.heap.size w wr) (fun _ i _ => xs.length - (intOf i).toNat)
    case atStart => exact ⟨0, left - xs.length, Nat.zero_le _, rfl, rfl, by omega, by omega, Lib.hid (by simp [sumEdge]), Below.refl _ _⟩
    case round =>
      obtain ⟨k, m, hk, rfl, rfl, hm0, hm1, hme, hbw⟩ := hrel
      have hsz := hbw.size
      have HB := Lib.hid hbw
      clear hbw
      by_cases hlt2 : k < xs.length
      · obtain ⟨b, off, rfl, hb, c0, c1, c2, c3⟩ := (hv.below (HB.out.mono hB)).ed hlt2
        have hx := hok _ (List.getElem_mem hlt2)
        have hsum := sumEdge_succ xs k hlt2
        have hsle := sumEdge_le xs (k + 1)
        obtain ⟨x, ex⟩ : ∃ x, x = xs[k] := ⟨_, rfl⟩
        rw [← ex] at c0 c1 c2 c3 hx hsum
        have HS := Lib.hid hsum
        clear ex hsum
        go_wp2_with fail
        refine (szEdge_any x m _ hm0 hm1 hx).mono ?_
        rintro e w' ⟨r, rfl, hr, hb1⟩
        have HB1 := Lib.hid hb1
        clear hb1
        rcases hr with hr | ⟨hr0, hr⟩
        · have HR := Lib.hid hr
          have hneg : r < 0 := by omega
          clear hr
          go_wp2_with fail
          go_ret
          exact ⟨-1, rfl, .inl rfl, HB.out.trans (HB1.out.mono hsz)⟩
        · have hr1 : r ≤ 1048576 := by omega
          have HR := Lib.hid (show r = left - (xs.length + sumEdge (xs.take (k + 1))) by have a := hme.out; have b := HS.out; omega)
          clear hr
          go_wp2_with fail
          go_roundw
          case rel => exact ⟨k + 1, r, by omega, by go_num, rfl, hr0, hr1, HR, HB.out.trans (HB1.out.mono hsz)⟩
          case measure => simp [intOf]; omega
      · obtain rfl : k = xs.length := by omega
        have HE := Lib.hid (show m = left - (xs.length + sumEdge xs) by have a := hme.out; rw [List.take_of_length_le (Nat.le_refl _)] at a; exact a)
        go_wp2_with fail
        go_ret
        exact ⟨m, rfl, .inr ⟨hm0, HE.out⟩, HB.out⟩

/-- A slice of flat elements in memory of the call's own: not frozen, in the blocks F. -/
def OwnSl {α : Type} (sz : Nat) (enc : α → List Value) (w : World) (v : Value) (xs : List α) (F : List Nat) : Prop :=
  ∃ (p : Option Addr) (len cap : Nat), v = .slice p len cap ∧ len = xs.length ∧ len ≤ cap ∧ cap ≤ maxLen ∧
    ((xs = [] ∧ F = []) ∨ ∃ b off, p = some ⟨b, off, none⟩ ∧ F = [b] ∧ b < w.heap.size ∧ (∀ o, w.frozen? ⟨b, o, none⟩ = false) ∧ ∀ (i : Nat) (h : i < xs.length) j x, (enc xs[i])[j]? = some x → w.cell? ⟨b, off + i * sz + j, none⟩ = some x)
theorem OwnSl.sl {α : Type} {sz : Nat} {enc : α → List Value} {w : World} {v : Value} {xs : List α} {F : List Nat} (h : OwnSl sz enc w v xs F) : Sl sz enc w.heap.size w v xs := by
  obtain ⟨p, len, cap, h1, h2, h3, h4, h5⟩ := h
  refine ⟨p, len, cap, h1, h2, h3, h4, fun i hi => ?_⟩
  rcases h5 with ⟨h5, _⟩ | ⟨b, off, e1, e2, e3, e4, e5⟩
  · subst h5; simp at hi
  · exact ⟨b, off, e1, e3, e5 i hi⟩
/-- The world w' is as w was, but for the blocks in F, and new ones. -/
structure Chg (F : List Nat) (w w' : World) : Prop where
  os : w'.os = w.os
  tape : w'.tape = w.tape
  output : w'.output = w.output
  size : w.heap.size ≤ w'.heap.size
  block : ∀ k, k < w.heap.size → k ∉ F → w'.heap[k]? = w.heap[k]?
theorem Chg.refl (F : List Nat) (w : World) : Chg F w w := ⟨rfl, rfl, rfl, Nat.le_refl _, fun _ _ _ => rfl⟩
theorem Chg.trans {F : List Nat} {a b c : World} (h : Chg F a b) (k : Chg F b c) : Chg F a c :=
  ⟨k.os.trans h.os, k.tape.trans h.tape, k.output.trans h.output, Nat.le_trans h.size k.size, fun i hi hF => (k.block i (Nat.lt_of_lt_of_le hi h.size) hF).trans (h.block i hi hF)⟩
theorem Chg.mono {F G : List Nat} {a b : World} (h : Chg F a b) (hs : ∀ x ∈ F, x ∈ G) : Chg G a b :=
  ⟨h.os, h.tape, h.output, h.size, fun i hi hF => h.block i hi (fun hx => hF (hs i hx))⟩
theorem Chg.of_below' {w w' : World} (h : Below w.heap.size w w') (F : List Nat) : Chg F w w' := ⟨h.os, h.tape, h.output, h.size, fun i hi _ => h.block i hi⟩
theorem Chg.setCell {F : List Nat} {a w : World} (h : Chg F a w) {p : Addr} (hp : p.block ∈ F) (u : Value) : Chg F a (w.setCell p u) :=
  h.trans ⟨rfl, rfl, rfl, by simp [World.setCell], fun k hk hF => Below.heap_setCell _ _ _ _ (by rintro rfl; exact hF hp)⟩
theorem Chg.then_below {F : List Nat} {a w w' : World} (h : Chg F a w) (hb : Below w.heap.size w w') : Chg F a w' := h.trans (Chg.of_below' hb F)
theorem Chg.of_below {w w' : World} (h : Below w.heap.size w w') (F : List Nat) : Chg F w w' := ⟨h.os, h.tape, h.output, h.size, fun i hi _ => h.block i hi⟩
theorem Chg.below {F : List Nat} {w w' : World} (h : Chg F w w') {B : Nat} (hB : B ≤ w.heap.size) (hF : ∀ x ∈ F, B ≤ x) : Below B w w' :=
  ⟨h.os, h.tape, h.output, h.size, fun i hi => h.block i (by omega) (fun hx => by have := hF i hx; omega)⟩
theorem OwnSl.chg {α : Type} {sz : Nat} {enc : α → List Value} {w w' : World} {v : Value} {xs : List α} {F G : List Nat} (h : OwnSl sz enc w v xs F) (hc : Chg G w w') (hd : ∀ x ∈ F, x ∉ G) : OwnSl sz enc w' v xs F := by
  obtain ⟨p, len, cap, h1, h2, h3, h4, h5⟩ := h
  refine ⟨p, len, cap, h1, h2, h3, h4, ?_⟩
  rcases h5 with h5 | ⟨b, off, e1, e2, e3, e4, e5⟩
  · exact .inl h5
  · have hb := hc.block b e3 (hd b (by rw [e2]; simp))
    have hs := hc.size
    exact .inr ⟨b, off, e1, e2, by omega, fun o => (World.frozen?_of_block (w := w) (a := ⟨b, o, none⟩) hb).trans (e4 o), fun i hi j x hx => (World.cell?_of_block (w := w) (a := ⟨b, _, none⟩) hb).trans (e5 i hi j x hx)⟩
theorem OwnSl.below {α : Type} {sz : Nat} {enc : α → List Value} {w w' : World} {v : Value} {xs : List α} {F : List Nat} (h : OwnSl sz enc w v xs F) (hc : Below w.heap.size w w') : OwnSl sz enc w' v xs F :=
  h.chg (Chg.of_below hc []) (by simp)
theorem OwnSl.lt {α : Type} {sz : Nat} {enc : α → List Value} {w : World} {v : Value} {xs : List α} {F : List Nat} (h : OwnSl sz enc w v xs F) : ∀ x ∈ F, x < w.heap.size := by
  obtain ⟨p, len, cap, h1, h2, h3, h4, h5⟩ := h
  rcases h5 with ⟨_, rfl⟩ | ⟨b, off, e1, e2, e3, e4, e5⟩
  · simp
  · subst e2; simpa using e3
/-- The first k elements' cells stand in L. -/
def Part {α : Type} (sz : Nat) (enc : α → List Value) (xs : List α) (L : List Value) (k : Nat) : Prop :=
  L.length = xs.length * sz ∧ ∀ (i : Nat) (h : i < xs.length), i < k → ∀ j x, (enc xs[i])[j]? = some x → L[i * sz + j]? = some x
def setAt (L : List Value) (o : Nat) : List Value → List Value
  | [] => L
  | v :: vs => setAt (L.set o v) (o + 1) vs
theorem length_setAt (L : List Value) (o : Nat) (vs : List Value) : (setAt L o vs).length = L.length := by
  induction vs generalizing L o with
  | nil => rfl
  | cons v vs ih => unfold setAt; rw [ih]; simp
theorem setAt_out (L : List Value) (o : Nat) (vs : List Value) (i : Nat) (h : i < o ∨ o + vs.length ≤ i) : (setAt L o vs)[i]? = L[i]? := by
  induction vs generalizing L o with
  | nil => rfl
  | cons v vs ih =>
    unfold setAt
    rw [ih _ _ (by simp at h; omega), List.getElem?_set_ne (by simp at h; omega)]
theorem setAt_in (L : List Value) (o : Nat) (vs : List Value) (j : Nat) (hj : j < vs.length) (hl : o + vs.length ≤ L.length) : (setAt L o vs)[o + j]? = vs[j]? := by
  induction vs generalizing L o j with
  | nil => simp at hj
  | cons v vs ih =>
    unfold setAt
    simp at hj hl
    cases j with
    | zero => rw [setAt_out (L.set o v) (o + 1) vs (o + 0) (.inl (by omega)), Nat.add_zero, List.getElem?_set_self (by omega)]; rfl
    | succ j =>
      have := ih (L.set o v) (o + 1) j (by omega) (by simp; omega)
      rw [show o + (j + 1) = o + 1 + j by omega, this]; simp
theorem Part.zero {α : Type} {sz : Nat} {enc : α → List Value} {xs : List α} {L : List Value} (h : L.length = xs.length * sz) : Part sz enc xs L 0 := ⟨h, fun _ _ h => by omega⟩
theorem Part.succ {α : Type} {sz : Nat} {enc : α → List Value} {xs : List α} {L : List Value} {k : Nat} (h : Part sz enc xs L k) (hk : k < xs.length) (hs : ∀ x, (enc x).length = sz) : Part sz enc xs (setAt L (k * sz) (enc xs[k])) (k + 1) := by
  refine ⟨(length_setAt _ _ _).trans h.1, fun i hi hik j x hx => ?_⟩
  have hle : k * sz + sz ≤ xs.length * sz := by rw [← Nat.succ_mul]; exact Nat.mul_le_mul_right _ hk
  by_cases e : i = k
  · subst e
    have hj : j < (enc xs[i]).length := (List.getElem?_eq_some_iff.1 hx).1
    rw [setAt_in _ _ _ _ hj (by rw [hs, h.1]; exact hle)]; exact hx
  · have hlt : i < k := by omega
    have hj : j < sz := by rw [← hs xs[i]]; exact (List.getElem?_eq_some_iff.1 hx).1
    have : i * sz + sz ≤ k * sz := by rw [← Nat.succ_mul]; exact Nat.mul_le_mul_right _ hlt
    rw [setAt_out _ _ _ _ (.inl (by omega))]
    exact h.2 i hi hlt j x hx
theorem set_far (w : World) (b o : Nat) (v : Value) (b' o' : Nat) (h : b ≠ b') : (w.setCell ⟨b, o, none⟩ v).cell? ⟨b', o', none⟩ = w.cell? ⟨b', o', none⟩ :=
  World.cell?_of_block (w := w) (Below.heap_setCell _ _ _ _ (fun e => h e.symm))
theorem set_near (w : World) (b o : Nat) (v : Value) (o' : Nat) (h : o ≠ o') : (w.setCell ⟨b, o, none⟩ v).cell? ⟨b, o', none⟩ = w.cell? ⟨b, o', none⟩ :=
  World.cell?_setCell_other w ⟨b, o, none⟩ ⟨b, o', none⟩ v (by intro e; injection e with _ e2; exact h e2)
theorem set_same (w : World) (b o : Nat) (u v : Value) (h : w.cell? ⟨b, o, none⟩ = some u) : (w.setCell ⟨b, o, none⟩ v).cell? ⟨b, o, none⟩ = some v := World.cell?_setCell_same w ⟨b, o, none⟩ v h
/-- A whole block, its cells as a list. -/
def Blk (w : World) (b : Nat) (T : TypeId) (L : List Value) : Prop := w.heap[b]? = some (.cells L.toArray T (0, 0))
theorem Blk.cell {w : World} {b : Nat} {T : TypeId} {L : List Value} (h : Blk w b T L) (i : Nat) : w.cell? ⟨b, i, none⟩ = L[i]? := by
  unfold Blk at h; simp [World.cell?, h]
theorem Blk.frozen {w : World} {b : Nat} {T : TypeId} {L : List Value} (h : Blk w b T L) (i : Nat) : w.frozen? ⟨b, i, none⟩ = false := by
  unfold Blk at h; simp [World.frozen?, h]
theorem Blk.lt {w : World} {b : Nat} {T : TypeId} {L : List Value} (h : Blk w b T L) : b < w.heap.size := by
  unfold Blk at h; exact (Array.getElem?_eq_some_iff.1 h).1
theorem Blk.below {w w' : World} {b B : Nat} {T : TypeId} {L : List Value} (h : Blk w b T L) (hb : Below B w w') (hB : b < B) : Blk w' b T L := (hb.block b hB).trans h
theorem Blk.set {w : World} {b : Nat} {T : TypeId} {L : List Value} (h : Blk w b T L) (i : Nat) (v : Value) : Blk (w.setCell ⟨b, i, none⟩ v) b T (L.set i v) := by
  unfold Blk at *
  simp [World.setCell, Array.getElem?_modify, h]
theorem Blk.new (w : World) (c : Array Value) (T : TypeId) : Blk (w.alloc (.cells c T)) w.heap.size T c.toList := by
  have : (w.alloc (.cells c T)).heap = w.heap.push (.cells c T) := rfl
  unfold Blk; rw [this]; simp

set_option maxHeartbeats 400000 in
theorem toNode_any (x : Nd) (w : World) :
    Calls Tryd.prog 54 #[.agg #[.string x.l, .int .i64 x.n]] w fun e w' => e = .returned (.agg #[.string x.l, .int .i64 x.n]) ∧ Below w.heap.size w w' := by
  go_enter Tryd.func54, Tryd.ntmps54
  go_wp2_with fail
  refine bodyPost_ret (v := .agg #[.string x.l, .int .i64 x.n]) (by simp [results, Tryd.results54, go_sem]) rfl ⟨rfl, ?_⟩
  exact (((Below.refl _ _).alloc (by simp) _).alloc (by simp) _).alloc (by simp <;> omega) _

theorem infoNode : (Tryd.prog.info? 105).map (fun i => (i.zero, i.size, i.bytes)) = some (some (.agg #[.string ⟨#[]⟩, .int .i64 0]), 2, 24) := by kernel_rfl

set_option maxHeartbeats 1000000 in
theorem toNodeS_any (xs : List Nd) (v : Value) (B : Nat) (w : World) (hv : Sl 2 Nd.cells B w v xs) (hB : B ≤ w.heap.size) (hn : xs.length ≤ 1048576) :
    Calls Tryd.prog 24 #[v] w fun e w' => ∃ v' F, e = .returned v' ∧ OwnSl 2 Nd.cells w' v' xs F ∧ (∀ x ∈ F, w.heap.size ≤ x) ∧ Below w.heap.size w w' := by
  obtain ⟨p, cap, rfl⟩ := hv.form
  have hm := hv.max
  unfold maxLen at hm
  have hmk : ∀ w : World, (Instr.makeSlice 34 (.int .i64 (xs.length : Int)) (.int .i64 (xs.length : Int))).run Tryd.prog w = .ok (.slice (some ⟨w.heap.size, 0, none⟩) xs.length xs.length) (w.alloc (.cells (madeCells #[.string ⟨#[]⟩, .int .i64 0] (xs.length * 2)) 105)) := by
    intro w
    obtain ⟨i, hi, hzz⟩ := Option.map_eq_some_iff.1 infoNode
    simp only [Prod.mk.injEq] at hzz
    obtain ⟨hz, hs, hb⟩ := hzz
    have hr := run_make (P := Tryd.prog) w 34 105 i _ Tryd.underlying34 hi hz .i64 .i64 xs.length xs.length (by omega) (Int.le_refl _) (by rw [hb]; omega) (by omega)
    rw [hs] at hr
    exact hr
  have hbk := Blk.new w (madeCells #[.string ⟨#[]⟩, .int .i64 0] (xs.length * 2)) 105
  go_enter Tryd.func24, Tryd.ntmps24
  go_wp2_with fail
  go_loopw [4] (fun i wr => ∃ (k : Nat) (L : List Value), k ≤ xs.length ∧ i = .int .i64 k ∧ Part 2 Nd.cells xs L k ∧ Blk wr w.heap.size 105 L ∧ Below w.heap.size w wr) (fun i _ => xs.length - (intOf i).toNat)
  case atStart => exact ⟨0, _, Nat.zero_le _, rfl, Part.zero (by simp [madeCells]), hbk, (Below.refl _ _).alloc (Nat.le_refl _) _⟩
  case round =>
    obtain ⟨k, L, hk, rfl, hp, hbl, hbw⟩ := hrel
    have hsz := hbw.size
    have hlt := hbl.lt
    have HB := Lib.hid hbw
    clear hbw hbk
    by_cases hlt2 : k < xs.length
    · obtain ⟨b, off, rfl, hb, c0, c1⟩ := (hv.below (HB.out.mono hB)).nd hlt2
      have hlen := hp.1
      have hx : Part 2 Nd.cells xs (setAt L (k * 2) (Nd.cells xs[k])) (k + 1) := hp.succ hlt2 (fun _ => rfl)
      obtain ⟨x, ex⟩ : ∃ x, x = xs[k] := ⟨_, rfl⟩
      rw [← ex] at c0 c1 hx
      clear ex
      have HP := Lib.hid hx
      clear hx hp
      go_wp2_with fail
      refine (toNode_any x _).mono ?_
      rintro e w' ⟨rfl, hb1⟩
      have hbl1 := hbl.below hb1 hlt
      have d0 := (hbl1.cell (k * 2)).trans (List.getElem?_eq_getElem (by omega))
      have g0 := hbl1.frozen (k * 2)
      have d1 := (hbl1.cell (k * 2 + 1)).trans (List.getElem?_eq_getElem (by omega))
      have g1 := hbl1.frozen (k * 2 + 1)
      have HB1 := Lib.hid (HB.out.trans (hb1.mono hsz))
      have HBL := Lib.hid hbl1
      clear hb1 hbl1 hbl
      go_wp2_with fail
      go_roundw
      case rel => exact ⟨k + 1, _, by omega, by go_num, HP.out, ((HBL.out).set _ _).set _ _, ((HB1.out).setCell (Nat.le_refl _) _).setCell (Nat.le_refl _) _⟩
      case measure => simp [intOf]; omega
    · obtain rfl : k = xs.length := by omega
      have HBL := Lib.hid hbl
      clear hbl
      go_wp2_with fail
      go_ret
      exact ⟨_, [w.heap.size], rfl, ⟨_, _, _, rfl, rfl, Nat.le_refl _, by unfold maxLen; omega, .inr ⟨_, _, rfl, rfl, HBL.out.lt, fun o => HBL.out.frozen o, fun i hi j x hx => by rw [Nat.zero_add]; exact (HBL.out.cell _).trans (hp.2 i hi hi j x hx)⟩⟩, by simp, HB.out⟩

set_option maxHeartbeats 400000 in
theorem toEdge_any (x : Ed) (w : World) :
    Calls Tryd.prog 55 #[.agg #[.int .i64 x.f, .int .i64 x.t, .string x.l, .int .i64 x.n]] w fun e w' => e = .returned (.agg #[.int .i64 x.f, .int .i64 x.t, .string x.l, .int .i64 x.n]) ∧ Below w.heap.size w w' := by
  go_enter Tryd.func55, Tryd.ntmps55
  go_wp2_with fail
  refine bodyPost_ret (v := .agg #[.int .i64 x.f, .int .i64 x.t, .string x.l, .int .i64 x.n]) (by simp [results, Tryd.results55, go_sem]) rfl ⟨rfl, ?_⟩
  exact (((Below.refl _ _).alloc (by simp) _).alloc (by simp) _).alloc (by simp <;> omega) _

theorem infoEdge : (Tryd.prog.info? 70).map (fun i => (i.zero, i.size, i.bytes)) = some (some (.agg #[.int .i64 0, .int .i64 0, .string ⟨#[]⟩, .int .i64 0]), 4, 40) := by kernel_rfl

set_option maxHeartbeats 1000000 in
theorem toEdgeS_any (xs : List Ed) (v : Value) (B : Nat) (w : World) (hv : Sl 4 Ed.cells B w v xs) (hB : B ≤ w.heap.size) (hn : xs.length ≤ 1048576) :
    Calls Tryd.prog 25 #[v] w fun e w' => ∃ v' F, e = .returned v' ∧ OwnSl 4 Ed.cells w' v' xs F ∧ (∀ x ∈ F, w.heap.size ≤ x) ∧ Below w.heap.size w w' := by
  obtain ⟨p, cap, rfl⟩ := hv.form
  have hm := hv.max
  unfold maxLen at hm
  have hmk : ∀ w : World, (Instr.makeSlice 35 (.int .i64 (xs.length : Int)) (.int .i64 (xs.length : Int))).run Tryd.prog w = .ok (.slice (some ⟨w.heap.size, 0, none⟩) xs.length xs.length) (w.alloc (.cells (madeCells #[.int .i64 0, .int .i64 0, .string ⟨#[]⟩, .int .i64 0] (xs.length * 4)) 70)) := by
    intro w
    obtain ⟨i, hi, hzz⟩ := Option.map_eq_some_iff.1 infoEdge
    simp only [Prod.mk.injEq] at hzz
    obtain ⟨hz, hs, hb⟩ := hzz
    have hr := run_make (P := Tryd.prog) w 35 70 i _ Tryd.underlying35 hi hz .i64 .i64 xs.length xs.length (by omega) (Int.le_refl _) (by rw [hb]; omega) (by omega)
    rw [hs] at hr
    exact hr
  have hbk := Blk.new w (madeCells #[.int .i64 0, .int .i64 0, .string ⟨#[]⟩, .int .i64 0] (xs.length * 4)) 70
  go_enter Tryd.func25, Tryd.ntmps25
  go_wp2_with fail
  go_loopw [4] (fun i wr => ∃ (k : Nat) (L : List Value), k ≤ xs.length ∧ i = .int .i64 k ∧ Part 4 Ed.cells xs L k ∧ Blk wr w.heap.size 70 L ∧ Below w.heap.size w wr) (fun i _ => xs.length - (intOf i).toNat)
  case atStart => exact ⟨0, _, Nat.zero_le _, rfl, Part.zero (by simp [madeCells]), hbk, (Below.refl _ _).alloc (Nat.le_refl _) _⟩
  case round =>
    obtain ⟨k, L, hk, rfl, hp, hbl, hbw⟩ := hrel
    have hsz := hbw.size
    have hlt := hbl.lt
    have HB := Lib.hid hbw
    clear hbw hbk
    by_cases hlt2 : k < xs.length
    · obtain ⟨b, off, rfl, hb, c0, c1, c2, c3⟩ := (hv.below (HB.out.mono hB)).ed hlt2
      have hlen := hp.1
      have hx : Part 4 Ed.cells xs (setAt L (k * 4) (Ed.cells xs[k])) (k + 1) := hp.succ hlt2 (fun _ => rfl)
      obtain ⟨x, ex⟩ : ∃ x, x = xs[k] := ⟨_, rfl⟩
      rw [← ex] at c0 c1 c2 c3 hx
      clear ex
      have HP := Lib.hid hx
      clear hx hp
      go_wp2_with fail
      refine (toEdge_any x _).mono ?_
      rintro e w' ⟨rfl, hb1⟩
      have hbl1 := hbl.below hb1 hlt
      have d0 := (hbl1.cell (k * 4)).trans (List.getElem?_eq_getElem (by omega))
      have g0 := hbl1.frozen (k * 4)
      have d1 := (hbl1.cell (k * 4 + 1)).trans (List.getElem?_eq_getElem (by omega))
      have g1 := hbl1.frozen (k * 4 + 1)
      have d2 := (hbl1.cell (k * 4 + 2)).trans (List.getElem?_eq_getElem (by omega))
      have g2 := hbl1.frozen (k * 4 + 2)
      have d3 := (hbl1.cell (k * 4 + 3)).trans (List.getElem?_eq_getElem (by omega))
      have g3 := hbl1.frozen (k * 4 + 3)
      have HB1 := Lib.hid (HB.out.trans (hb1.mono hsz))
      have HBL := Lib.hid hbl1
      clear hb1 hbl1 hbl
      go_wp2_with fail
      go_roundw
      case rel => exact ⟨k + 1, _, by omega, by go_num, HP.out, ((((HBL.out).set _ _).set _ _).set _ _).set _ _, ((((HB1.out).setCell (Nat.le_refl _) _).setCell (Nat.le_refl _) _).setCell (Nat.le_refl _) _).setCell (Nat.le_refl _) _⟩
      case measure => simp [intOf]; omega
    · obtain rfl : k = xs.length := by omega
      have HBL := Lib.hid hbl
      clear hbl
      go_wp2_with fail
      go_ret
      exact ⟨_, [w.heap.size], rfl, ⟨_, _, _, rfl, rfl, Nat.le_refl _, by unfold maxLen; omega, .inr ⟨_, _, rfl, rfl, HBL.out.lt, fun o => HBL.out.frozen o, fun i hi j x hx => by rw [Nat.zero_add]; exact (HBL.out.cell _).trans (hp.2 i hi hi j x hx)⟩⟩, by simp, HB.out⟩
end Go.Proofs.YthpclghhlodnhaaDoor
