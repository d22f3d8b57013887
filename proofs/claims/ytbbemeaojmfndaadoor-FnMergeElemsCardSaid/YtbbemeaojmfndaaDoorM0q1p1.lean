/- Lemmas on the data and the memory of this program's values: several texts in one. -/
import Derived.Test.YtbbemeaojmfndaaDoorM0q0p1
import Derived.Lib.AppendZeros
import Derived.Lib.AppendZerosOnto
import Derived.Test.YtbbemeaojmfndaaDoorM0q0p2
namespace Go.Proofs.YtbbemeaojmfndaaDoor
open Go.RowKit

theorem grown_of_below {w w' : World} (h : Below w.heap.size w w') : w.grownBy w' none := ⟨h.os, h.tape, h.output, h.size, fun k hk _ => h.block k hk⟩
theorem ownsRow_below {w w' : World} {base : Nat} {e : TypeId} {size : Nat} {v : Value} {n : Nat} {xs : List Value} (h : w.ownsRow base e size v n xs) (hb : Below w.heap.size w w') : w'.ownsRow base e size v n xs :=
  h.kept (grown_of_below hb) (Classical.em _)
theorem own_of_row {w : World} {base : Nat} {e : TypeId} {v : Value} {xs : List Int} (h : w.ownsRow base e 1 v xs.length (xs.map (Value.int .i64))) : ∃ F, OwnSl 1 intCells w v xs F ∧ ∀ x ∈ F, base ≤ x := by
  obtain ⟨hl, h⟩ := h
  rcases h with ⟨rfl, h0⟩ | ⟨g, cap, cur, rfl, hb, hg, hn, hc, hs, ht⟩
  · exact ⟨[], ⟨none, 0, 0, rfl, h0.symm, Nat.le_refl _, Nat.zero_le _, .inl ⟨List.eq_nil_of_length_eq_zero h0, rfl⟩⟩, by simp⟩
  · refine ⟨[g], ⟨_, _, _, rfl, rfl, hn, hc, .inr ⟨g, 0, rfl, rfl, (Array.getElem?_eq_some_iff.1 hg).1, fun o => by simp [World.frozen?, hg], fun i hi j x hx => ?_⟩⟩, by simpa using hb⟩
    have hj : j = 0 := by
      have := (List.getElem?_eq_some_iff.1 hx).1
      simp [intCells] at this; omega
    subst hj
    have hx' : x = .int .i64 xs[i] := by simpa [intCells] using hx.symm
    have e1 : (cur.toList.take (xs.length * 1))[i]? = some (.int .i64 xs[i]) := by rw [ht]; simp [hi]
    rw [List.getElem?_take_of_lt (by omega)] at e1
    simp only [World.cell?, hg, Nat.zero_add, Nat.mul_one, Nat.add_zero]
    rw [hx', ← e1]; simp

/-- The places i < k whose edge answers yes. -/
def pick (p : Ed → Bool) (es : List Ed) : Nat → List Int
  | 0 => []
  | k + 1 => if (es[k]?.map p).getD false then pick p es k ++ [(k : Int)] else pick p es k
theorem pick_yes {p : Ed → Bool} {es : List Ed} {k : Nat} (h : k < es.length) (hp : p es[k] = true) : pick p es (k + 1) = pick p es k ++ [(k : Int)] := by
  simp [pick, List.getElem?_eq_getElem h, hp]
theorem pick_no {p : Ed → Bool} {es : List Ed} {k : Nat} (h : k < es.length) (hp : p es[k] = false) : pick p es (k + 1) = pick p es k := by
  simp [pick, List.getElem?_eq_getElem h, hp]
theorem pick_le (p : Ed → Bool) (es : List Ed) : ∀ k, (pick p es k).length ≤ k
  | 0 => Nat.le_refl _
  | k + 1 => by have := pick_le p es k; unfold pick; split <;> simp <;> omega
theorem gv_len {g : Gr} (h : gv g = true) : g.es.length ≤ 14 := by
  unfold gv at h
  simp only [Bool.and_eq_true, decide_eq_true_eq] at h
  omega
theorem infoInt : (Tryd.prog.info? 3).map (fun i => (i.zero, i.size, i.bytes)) = some (some (.int .i64 0), 1, 8) := by kernel_rfl

def byOut (node : Int) (x : Ed) : Bool := x.f == node
def edgesOut (g : Gr) (node : Int) : List Int := if gv g then pick (byOut node) g.es g.es.length else []

def byIn (node : Int) (x : Ed) : Bool := x.t == node
def edgesIn (g : Gr) (node : Int) : List Int := if gv g then pick (byIn node) g.es g.es.length else []

end Go.Proofs.YtbbemeaojmfndaaDoor
namespace Go.Proofs.YtbbemeaojmfndaaDoor
open Go.RowKit

/-- The cells of flat elements, one behind the other. -/
def flat {α : Type} (enc : α → List Value) (xs : List α) : List Value := xs.flatMap enc
theorem flat_length {α : Type} {enc : α → List Value} {sz : Nat} (h : ∀ x, (enc x).length = sz) : ∀ xs : List α, (flat enc xs).length = xs.length * sz
  | [] => by simp [flat]
  | x :: xs => by
    have := flat_length h xs
    simp only [flat, List.flatMap_cons, List.length_append, List.length_cons] at *
    rw [h, this, Nat.succ_mul]; omega
theorem flat_append {α : Type} (enc : α → List Value) (xs ys : List α) : flat enc (xs ++ ys) = flat enc xs ++ flat enc ys := by simp [flat]
theorem flat_at {α : Type} {enc : α → List Value} {sz : Nat} (h : ∀ x, (enc x).length = sz) : ∀ (xs : List α) (i : Nat) (hi : i < xs.length) (j : Nat) (x : Value), (enc xs[i])[j]? = some x → (flat enc xs)[i * sz + j]? = some x
  | x :: xs, 0, _, j, v, hv => by
    have hj : j < (enc x).length := (List.getElem?_eq_some_iff.1 hv).1
    simp only [flat, List.flatMap_cons, Nat.zero_mul, Nat.zero_add]
    rw [List.getElem?_append_left hj]; exact hv
  | x :: xs, i + 1, hi, j, v, hv => by
    have := flat_at h xs i (by simpa using hi) j v (by simpa using hv)
    simp only [flat, List.flatMap_cons]
    rw [List.getElem?_append_right (by rw [h, Nat.succ_mul]; omega), h]
    rw [show (i + 1) * sz + j - sz = i * sz + j by rw [Nat.succ_mul]; omega]; exact this
theorem flat_back {α : Type} {enc : α → List Value} {sz : Nat} (h : ∀ x, (enc x).length = sz) : ∀ (xs : List α) (q : Nat) (v : Value), (flat enc xs)[q]? = some v → ∃ i, ∃ hi : i < xs.length, ∃ j, q = i * sz + j ∧ (enc xs[i])[j]? = some v
  | [], q, v, hv => by simp [flat] at hv
  | x :: xs, q, v, hv => by
    simp only [flat, List.flatMap_cons] at hv
    by_cases hq : q < sz
    · rw [List.getElem?_append_left (by rw [h]; exact hq)] at hv
      exact ⟨0, by simp, q, by simp, by simpa using hv⟩
    · rw [List.getElem?_append_right (by rw [h]; omega), h] at hv
      obtain ⟨i, hi, j, e, hj⟩ := flat_back h xs (q - sz) v hv
      exact ⟨i + 1, by simpa using hi, j, by rw [Nat.succ_mul]; omega, by simpa using hj⟩
/-- A slice's cells, for a law on append. -/
theorem Sl.cells {α : Type} {enc : α → List Value} {sz : Nat} (h : ∀ x, (enc x).length = sz) {B : Nat} {w : World} {p : Option Addr} {len cap : Nat} {xs : List α} (hs : Sl sz enc B w (.slice p len cap) xs) :
    ∀ ad, p = some ad → ∀ j u, (flat enc xs)[j]? = some u → w.cell? (ad.add j) = some u := by
  intro ad hp j u hu
  obtain ⟨p', len', cap', h1, h2, h3, h4, h5⟩ := hs
  cases h1
  obtain ⟨i, hi, k, rfl, hk⟩ := flat_back h xs j u hu
  obtain ⟨b, off, e1, e2, e3⟩ := h5 i hi
  rw [e1] at hp
  cases hp
  rw [WideShapes.add_plain, ← Nat.add_assoc]
  exact e3 k u hk
theorem Sl.atNone {α : Type} {enc : α → List Value} {sz : Nat} {B : Nat} {w : World} {len cap : Nat} {xs : List α} (hs : Sl sz enc B w (.slice none len cap) xs) : len = 0 := by
  obtain ⟨p', len', cap', h1, h2, h3, h4, h5⟩ := hs
  cases h1
  rw [h2]
  cases xs with
  | nil => rfl
  | cons x xs => obtain ⟨b, off, e1, _⟩ := h5 0 (by simp); cases e1
/-- A row of the call's own, as owned elements. -/
theorem own_of_flat {α : Type} {enc : α → List Value} {sz : Nat} (hen : ∀ x, (enc x).length = sz) {w : World} {base : Nat} {e : TypeId} {v : Value} {n : Nat} {xs : List α} (hn : n = xs.length) (h : w.ownsRow base e sz v n (flat enc xs)) : ∃ F, OwnSl sz enc w v xs F ∧ ∀ x ∈ F, base ≤ x := by
  subst hn
  obtain ⟨hl, h⟩ := h
  rcases h with ⟨rfl, h0⟩ | ⟨g, cap, cur, rfl, hb, hg, hn, hc, hs, ht⟩
  · exact ⟨[], ⟨none, 0, 0, rfl, h0.symm, Nat.le_refl _, Nat.zero_le _, .inl ⟨List.eq_nil_of_length_eq_zero h0, rfl⟩⟩, by simp⟩
  · refine ⟨[g], ⟨_, _, _, rfl, rfl, hn, hc, .inr ⟨g, 0, rfl, rfl, (Array.getElem?_eq_some_iff.1 hg).1, fun o => by simp [World.frozen?, hg], fun i hi j x hx => ?_⟩⟩, by simpa using hb⟩
    have e1 := flat_at hen xs i hi j x hx
    have hj : j < sz := by rw [← hen xs[i]]; exact (List.getElem?_eq_some_iff.1 hx).1
    have hle : i * sz + sz ≤ xs.length * sz := by rw [← Nat.succ_mul]; exact Nat.mul_le_mul_right _ hi
    rw [← ht, List.getElem?_take_of_lt (by omega)] at e1
    simp only [World.cell?, hg, Nat.zero_add]
    rw [← e1]; simp

/-- The lengths of the first k parts, together. -/
def upTo {α : Type} (L : List (Value × List α)) (k : Nat) : Nat := ((L.take k).map fun x => x.2.length).sum
def joined {α : Type} (L : List (Value × List α)) (k : Nat) : List α := (L.take k).flatMap (·.2)
theorem upTo_succ {α : Type} (L : List (Value × List α)) {k : Nat} (h : k < L.length) : upTo L (k + 1) = upTo L k + L[k].2.length := by
  unfold upTo; rw [List.take_succ_eq_append_getElem h, List.map_append, List.sum_append]; simp
theorem joined_succ {α : Type} (L : List (Value × List α)) {k : Nat} (h : k < L.length) : joined L (k + 1) = joined L k ++ L[k].2 := by
  unfold joined; rw [List.take_succ_eq_append_getElem h, List.flatMap_append]; simp
theorem upTo_le {α : Type} (L : List (Value × List α)) (k : Nat) : upTo L k ≤ upTo L L.length := by
  unfold upTo
  have := congrArg (fun l => (l.map fun x : Value × List α => x.2.length).sum) (List.take_append_drop k L)
  simp only [List.map_append, List.sum_append] at this
  rw [List.take_of_length_le (Nat.le_refl _)]; omega
theorem joined_length {α : Type} (L : List (Value × List α)) : ∀ k, (joined L k).length = upTo L k
  | k => by unfold joined upTo; rw [List.length_flatMap]
theorem run_append_nil0 (w : World) (t ty e : TypeId) (i : TypeInfo) (ht : Tryd.prog.underlying t = some (.slice e)) (hi : Tryd.prog.info? e = some i) (p : Option Addr) (c : Nat) :
    (Builtin.append_ #[t, t] ty #[.slice none 0 0, .slice p 0 c]).run Tryd.prog w = .ok (.slice none 0 0) w := by
  have hf : (Builtin.firstCells i.size 0 (.slice p 0 c)).run Tryd.prog w = .ok #[] w := by
    cases p with
    | none => exact run_firstCells_none w i.size 0 0 c
    | some a => exact run_firstCells_some w i.size 0 a 0 c [] (by simp) (by simp)
  simp [Builtin.append_, run_underlying ht, sizeOf, typeInfo, hi, Builtin.lenOf, hf]
theorem run_append_room0 (w : World) (t ty e : TypeId) (i : TypeInfo) (ht : Tryd.prog.underlying t = some (.slice e)) (hi : Tryd.prog.info? e = some i) (a : Addr) (n gc c : Nat) (hn : n ≤ gc) :
    (Builtin.append_ #[t, t] ty #[.slice (some a) n gc, .slice none 0 c]).run Tryd.prog w = .ok (.slice (some a) n gc) w := by
  have hf := run_firstCells_none (P := Tryd.prog) w i.size 0 0 c
  simp [Builtin.append_, run_underlying ht, sizeOf, typeInfo, hi, Builtin.lenOf, hf, hn, storeCells]

theorem flat_oneNode (xs : List Nd) : ∀ u ∈ flat Nd.cells xs, u.oneCell' = true := by
  intro u hu
  obtain ⟨x, _, hx⟩ := List.mem_flatMap.1 hu
  simp [Nd.cells] at hx
  rcases hx with rfl | rfl <;> rfl

theorem flat_oneEdge (xs : List Ed) : ∀ u ∈ flat Ed.cells xs, u.oneCell' = true := by
  intro u hu
  obtain ⟨x, _, hx⟩ := List.mem_flatMap.1 hu
  simp [Ed.cells] at hx
  rcases hx with rfl | rfl | rfl | rfl <;> rfl

end Go.Proofs.YtbbemeaojmfndaaDoor
namespace Go.Proofs.YtbbemeaojmfndaaDoor
open Go.RowKit

def turnE (x : Ed) : Ed := ⟨x.t, x.f, x.l, x.n⟩
def tgr (g : Gr) : Gr := if gv g then ⟨g.ns, g.es.map turnE⟩ else ⟨[], []⟩
theorem row_form {w : World} {base : Nat} {e : TypeId} {size : Nat} {v : Value} {n : Nat} {xs : List Value} (h : w.ownsRow base e size v n xs) : ∃ p c, v = .slice p n c := by
  rcases h.2 with ⟨rfl, rfl⟩ | ⟨g, cap, cur, rfl, _⟩
  · exact ⟨none, 0, rfl⟩
  · exact ⟨_, _, rfl⟩
theorem gv_ns {g : Gr} (h : gv g = true) : g.ns.length ≤ 8 := by
  unfold gv at h
  simp only [Bool.and_eq_true, decide_eq_true_eq] at h
  omega
theorem Gr.Own.empty (lo : Nat) (w : World) : (⟨[], []⟩ : Gr).Own lo w (.agg #[.slice none 0 0, .slice none 0 0]) [] [] :=
  ⟨_, _, rfl, ⟨none, 0, 0, rfl, rfl, Nat.le_refl _, Nat.zero_le _, .inl ⟨rfl, rfl⟩⟩, ⟨none, 0, 0, rfl, rfl, Nat.le_refl _, Nat.zero_le _, .inl ⟨rfl, rfl⟩⟩, by simp, by simp, by simp⟩

end Go.Proofs.YtbbemeaojmfndaaDoor
namespace Go.Proofs.YtbbemeaojmfndaaDoor
open Go.RowKit

structure Wk where
  ns : List Int
  es : List Int
def Wk.Ok (x : Wk) : Prop := (∀ n ∈ x.ns, I64 n) ∧ (∀ n ∈ x.es, I64 n)
/-- The value of a struct Walk whose two slices lie below B. -/
def Wk.At (x : Wk) (B : Nat) (w : World) (v : Value) : Prop := ∃ a b, v = .agg #[a, b] ∧ Sl 1 intCells B w a x.ns ∧ Sl 1 intCells B w b x.es
theorem Wk.At.to {x : Wk} {B B' : Nat} {w w' : World} {v : Value} (h : x.At B w v) (hb : Below B w w') (hB : B ≤ B') : x.At B' w' v := by
  obtain ⟨a, b, h1, h2, h3⟩ := h
  exact ⟨a, b, h1, (h2.below hb).mono hB, (h3.below hb).mono hB⟩
theorem Wk.At.form {x : Wk} {B : Nat} {w : World} {v : Value} (h : x.At B w v) : ∃ p c q d, v = .agg #[.slice p x.ns.length c, .slice q x.es.length d] := by
  obtain ⟨a, b, rfl, h1, h2⟩ := h
  obtain ⟨p, c, rfl⟩ := h1.form
  obtain ⟨q, d, rfl⟩ := h2.form
  exact ⟨p, c, q, d, rfl⟩
/-- A walk in memory of the call's own, in the blocks F. -/
def Wk.Has (x : Wk) (v : Value) (F : List Nat) (u : World) : Prop :=
  ∃ a b F1 F2, v = .agg #[a, b] ∧ F = F1 ++ F2 ∧ OwnSl 1 intCells u a x.ns F1 ∧ OwnSl 1 intCells u b x.es F2 ∧ ∀ y ∈ F1, y ∉ F2
theorem Wk.Has.at {x : Wk} {v : Value} {F : List Nat} {w : World} (h : x.Has v F w) : x.At w.heap.size w v := by
  obtain ⟨a, b, F1, F2, rfl, rfl, h1, h2, _⟩ := h
  exact ⟨a, b, rfl, h1.sl, h2.sl⟩
theorem Wk.Has.chg {x : Wk} {v : Value} {F G : List Nat} {w w' : World} (h : x.Has v F w) (hc : Chg G w w') (hd : ∀ y ∈ F, y ∉ G) : x.Has v F w' := by
  obtain ⟨a, b, F1, F2, rfl, rfl, h1, h2, h3⟩ := h
  exact ⟨a, b, F1, F2, rfl, rfl, h1.chg hc (fun y hy => hd y (List.mem_append_left _ hy)), h2.chg hc (fun y hy => hd y (List.mem_append_right _ hy)), h3⟩
theorem Wk.Has.below {x : Wk} {v : Value} {F : List Nat} {w w' : World} (h : x.Has v F w) (hb : Below w.heap.size w w') : x.Has v F w' := h.chg (Chg.of_below hb []) (by simp)
theorem Wk.Has.lt {x : Wk} {v : Value} {F : List Nat} {w : World} (h : x.Has v F w) : ∀ y ∈ F, y < w.heap.size := by
  obtain ⟨a, b, F1, F2, rfl, rfl, h1, h2, h3⟩ := h
  intro y hy
  rcases List.mem_append.1 hy with hy | hy
  · exact h1.lt y hy
  · exact h2.lt y hy
theorem Wk.goes (x : Wk) : Goes x.Has := fun _ _ _ _ _ h hc hd => h.chg hc hd
def Wk.need (x : Wk) : Nat := x.ns.length + x.es.length

theorem infoIntW : (Tryd.prog.info? 3).map (fun i => (i.zero, i.size, i.bytes)) = some (some (.int .i64 0), 1, 8) := by kernel_rfl

def Wk.marked (x : Wk) (m : Int) : Wk := ⟨(List.range x.ns.length).map (mkInt m), (List.range x.es.length).map (mkInt (m + x.ns.length))⟩

end Go.Proofs.YtbbemeaojmfndaaDoor
namespace Go.Proofs.YtbbemeaojmfndaaDoor
open Go.RowKit

def OwnI (w : World) (v : Value) (xs : List Int) (F : List Nat) : Prop := OwnS 1 intCells 3 w v xs F
theorem OwnI.own {w : World} {v : Value} {xs : List Int} {F : List Nat} (h : OwnI w v xs F) : OwnSl 1 intCells w v xs F := OwnS.own (enc := intCells) (fun _ => rfl) h
theorem OwnI.chg {w w' : World} {v : Value} {xs : List Int} {F G : List Nat} (h : OwnI w v xs F) (hc : Chg G w w') (hd : ∀ x ∈ F, x ∉ G) : OwnI w' v xs F := OwnS.chg h hc hd
theorem OwnI.below {w w' : World} {v : Value} {xs : List Int} {F : List Nat} (h : OwnI w v xs F) (hc : Below w.heap.size w w') : OwnI w' v xs F := OwnS.below h hc
theorem OwnI.lt {w : World} {v : Value} {xs : List Int} {F : List Nat} (h : OwnI w v xs F) : ∀ x ∈ F, x < w.heap.size := OwnS.lt h
theorem OwnI.form {w : World} {v : Value} {xs : List Int} {F : List Nat} (h : OwnI w v xs F) : ∃ p cap, v = .slice p xs.length cap := OwnS.form h
theorem OwnI.empty (w : World) (p : Option Addr) : OwnI w (.slice p 0 0) [] [] := OwnS.empty p
theorem infoI : ∃ i, Tryd.prog.info? 3 = some i ∧ i.zero = some (.int .i64 0) ∧ i.size = 1 ∧ i.bytes = 8 := by
  obtain ⟨i, hi, hzz⟩ := Option.map_eq_some_iff.1 infoIntW
  simp only [Prod.mk.injEq] at hzz
  exact ⟨i, hi, hzz.1, hzz.2.1, hzz.2.2⟩
/-- What an append leaves. -/
def AppI (E : World) (xs : List Int) (F : List Nat) (v' : Value) (w' : World) : Prop := ∃ F', OwnI w' v' xs F' ∧ (∀ x ∈ F', x ∈ F ∨ E.heap.size ≤ x) ∧ Chg F E w'
/-- One more int, out of a new row of one. -/
theorem app_int {E : World} {s : Value} {ys : List Int} {F : List Nat} (h : OwnI E s ys F) (x : Int) (hl : ys.length < 3000000) (ty : TypeId) :
    ∃ v' w', (Builtin.append_ #[96, 96] ty #[s, .slice (some ⟨E.heap.size, 0, none⟩) 1 1]).run Tryd.prog (E.alloc (.cells #[.int .i64 x] 3)) = .ok v' w' ∧ AppI E (ys ++ [x]) F v' w' := by
  obtain ⟨i, hi, hz, hs, hb⟩ := infoI
  have hbe : Below E.heap.size E (E.alloc (.cells #[.int .i64 x] 3)) := (Below.refl _ _).alloc (Nat.le_refl _) _
  obtain ⟨v', w', hr, F', ho, hF, hc⟩ := OwnS.append (enc := intCells) (sz := 1) (fun _ => rfl) (fun x u hu => by simp [intCells] at hu; subst hu; rfl) 96 ty 3 i _ 8 Tryd.underlying96 hi hz hs hb (by decide) (h.below hbe) x E.heap.size 1
    (fun j u hu => by
      obtain rfl : j = 0 := by
        have hj := (List.getElem?_eq_some_iff.1 hu).1
        simp [intCells] at hj; omega
      simp [intCells] at hu; subst hu; simp [go_sem]) hl (by omega)
  exact ⟨v', w', hr, F', ho, fun x hx => by rcases hF x hx with h | h; (exact .inl h); (simp at h; exact .inr (by omega)), (Chg.of_below hbe F).trans hc⟩
/-- A whole row of ints. -/
theorem app_ints {E : World} {s u : Value} {xs ys : List Int} {F : List Nat} {B : Nat} (h : OwnI E s xs F) (hu : Sl 1 intCells B E u ys) (hl : xs.length + ys.length ≤ 3000000) (ty : TypeId) :
    ∃ v' w', (Builtin.append_ #[96, 96] ty #[s, u]).run Tryd.prog E = .ok v' w' ∧ AppI E (xs ++ ys) F v' w' := by
  obtain ⟨i, hi, hz, hs, hb⟩ := infoI
  exact OwnS.appends (enc := intCells) (sz := 1) (fun _ => rfl) (fun x u hu => by simp [intCells] at hu; subst hu; rfl) 96 ty 3 i _ 8 Tryd.underlying96 hi hz hs hb (by decide) h ys u B hu hl (by omega)

/-- xs, turned in its first a places and in its last a places. -/
def Rv (xs : List Int) (a : Nat) (ys : List Int) : Prop := ys.length = xs.length ∧ ∀ i (h : i < ys.length) (h1 : i < xs.length) (h2 : xs.length - 1 - i < xs.length), ys[i] = if i < a ∨ xs.length ≤ i + a then xs[xs.length - 1 - i] else xs[i]
theorem Rv.zero (xs : List Int) : Rv xs 0 xs := ⟨rfl, fun i _ h1 _ => by rw [if_neg (by omega)]⟩
theorem Rv.done {xs ys : List Int} {a : Nat} (h : Rv xs a ys) (ha : xs.length ≤ 2 * a + 1) : ys = xs.reverse := by
  refine List.ext_getElem (by simp [h.1]) fun i h1 h2 => ?_
  have hx : i < xs.length := by rw [← h.1]; exact h1
  rw [h.2 i h1 hx (by omega), List.getElem_reverse]
  split
  · rfl
  · have : xs.length - 1 - i = i := by omega
    simp only [this]
theorem Rv.step {xs ys : List Int} {a b : Nat} (h : Rv xs a ys) (hb : b = xs.length - 1 - a) (hab : a < b) (ha : a < ys.length) (hbl : b < ys.length) : Rv xs (a + 1) ((ys.set a ys[b]).set b ys[a]) := by
  have hl := h.1
  refine ⟨by simpa using hl, fun i hi h1 h2 => ?_⟩
  simp only [List.getElem_set]
  by_cases e1 : b = i
  · subst e1
    rw [if_pos rfl, h.2 a ha (by omega) (by omega), if_neg (by omega), if_pos (by omega)]
    simp only [show xs.length - 1 - b = a by omega]
  · rw [if_neg e1]
    by_cases e2 : a = i
    · subst e2
      rw [if_pos rfl, h.2 b hbl (by omega) (by omega), if_neg (by omega), if_pos (by omega)]
      simp only [← hb]
    · rw [if_neg e2, h.2 i (by simpa using hi) h1 h2]
      by_cases e3 : i < a ∨ xs.length ≤ i + a
      · rw [if_pos e3, if_pos (by omega)]
      · rw [if_neg e3, if_neg (by omega)]
theorem OwnSl.store1 {α : Type} {enc : α → List Value} {w : World} {b off len cap : Nat} {xs : List α} {F : List Nat} (h : OwnSl 1 enc w (.slice (some ⟨b, off, none⟩) len cap) xs F) {k : Nat} (hk : k < xs.length) (hsz : ∀ x, (enc x).length = 1)
    (y : α) (u : Value) (hy : enc y = (enc xs[k]).set 0 u) : OwnSl 1 enc (w.setCell ⟨b, off + k, none⟩ u) (.slice (some ⟨b, off, none⟩) len cap) (xs.set k y) F := by
  have := h.store (k := k) hk hsz 0 (by decide) y u hy
  rwa [Nat.mul_one, Nat.add_zero] at this

end Go.Proofs.YtbbemeaojmfndaaDoor
namespace Go.Proofs.YtbbemeaojmfndaaDoor
open Go.RowKit

section
variable {α β : Type} {sz1 : Nat} {enc1 : α → List Value} {T1 : TypeId} {xs : List α} {sz2 : Nat} {enc2 : β → List Value} {T2 : TypeId} {ys : List β} {b lo : Nat} {v1 v2 : Value} {w : World}
/-- One more behind field 0, and the field is stored anew. -/
theorem Two.app1h (hen : ∀ x, (enc1 x).length = sz1) (hone : ∀ (x : α), ∀ u ∈ enc1 x, u.oneCell' = true) (t ty : TypeId) (i : TypeInfo) (z : Value) (bytes : Nat)
    (ht : Tryd.prog.underlying t = some (.slice T1)) (hi : Tryd.prog.info? T1 = some i) (hz : i.zero = some z) (hsz : i.size = sz1) (hby : i.bytes = bytes) (hzs : z.cells.size = sz1)
    {w0 : World} {G0 : List Nat} (h : Two sz1 enc1 T1 xs sz2 enc2 T2 ys b lo v1 v2 w0) (hc0 : Chg G0 w0 w) (hG0 : ∀ x ∈ G0, x < lo) (y : α) (cs : Array Value) (hcs : cs = (enc1 y).toArray) (hl : xs.length < 1000000) (hb1 : (xs.length + 1) * bytes ≤ 140737488355328) :
    ∃ v' w', (Builtin.append_ #[t, t] ty #[v1, .slice (some ⟨w.heap.size, 0, none⟩) 1 1]).run Tryd.prog (w.alloc (.cells cs T1)) = .ok v' w' ∧
      (Two sz1 enc1 T1 (xs ++ [y]) sz2 enc2 T2 ys b lo v' v2 (w'.setCell ⟨b, 0, none⟩ v') ∧ (w'.cell? ⟨b, 0, none⟩ = some v1 ∧ w'.cell? ⟨b, 1, none⟩ = some v2 ∧ w'.frozen? ⟨b, 0, none⟩ = false ∧ w'.frozen? ⟨b, 1, none⟩ = false) ∧ ∃ G, Chg G w (w'.setCell ⟨b, 0, none⟩ v') ∧ ∀ x ∈ G, lo ≤ x ∧ x < w0.heap.size) := by
  subst hcs
  have hbe : Chg [] w (w.alloc (.cells (enc1 y).toArray T1)) := (Chg.refl _ _).alloc _
  have hce := (hc0.trans (hbe.mono (by simp)) : Chg G0 w0 _)
  obtain ⟨⟨k1, h2⟩, ⟨k3, k4⟩, ⟨k5, k6⟩, F1, F2, k7, k8, h9, h10, h11⟩ := h
  have hlt := k7.lt
  have hbG : b ∉ G0 := fun hm => by have := hG0 b hm; omega
  have h1 := Nat.lt_of_lt_of_le k1 hce.size
  have h3 := hce.cellOf hbG k3
  have h4 := hce.cellOf hbG k4
  have h5 := hce.frozenOf hbG k1 k5
  have h6 := hce.frozenOf hbG k1 k6
  have h7 := k7.chg hce (fun x hx hm => by have := hG0 x hm; have := (h9 x hx).1; omega)
  have h8 := k8.chg hce (fun x hx hm => by have := hG0 x hm; have := (h10 x hx).1; omega)
  obtain ⟨v', w', hr, F', o1, o2, hc⟩ := OwnS.append hen hone t ty T1 i z bytes ht hi hz hsz hby hzs h7 y w.heap.size 1 (fun j u hu => by
    rw [World.cell?_alloc_at _ _ _ _ rfl]; simpa using hu) (by omega) hb1
  have hbF : b ∉ F1 := fun hm => (h9 b hm).2 rfl
  have c0 := hc.cellOf hbF h3
  have c1 := hc.cellOf hbF h4
  have f0 := hc.frozenOf hbF h1 h5
  have f1 := hc.frozenOf hbF h1 h6
  have hbw : b < w'.heap.size := Nat.lt_of_lt_of_le h1 hc.size
  have hnew : ∀ x ∈ F', lo ≤ x ∧ x ≠ b := fun x hx => by
    rcases o2 x hx with h | h
    · exact h9 x h
    · omega
  have hs : Chg [b] w' (w'.setCell ⟨b, 0, none⟩ v') := (Chg.refl _ _).setCell (p := ⟨b, 0, none⟩) (by simp) v'
  have hmine := o1.chg hs (fun x hx hm => by simp at hm; exact (hnew x hx).2 hm)
  have hol := h8.lt
  have hother := (h8.chg hc (fun x hx hm => h11 x hm hx)).chg hs (fun x hx hm => by simp at hm; exact (h10 x hx).2 hm)
  have hdis : ∀ x ∈ F', x ∉ F2 := fun x hx hm => by
    rcases o2 x hx with h | h
    · exact (fun x hx hm => h11 x hm hx) x hm h
    · have := hol x hm; omega
  refine ⟨v', w', hr, ⟨⟨by simpa using hbw, h2⟩, ⟨set_same _ _ _ _ _ c0, (set_near _ _ _ _ _ (by omega)).trans c1⟩, ⟨by simpa [go_sem] using f0, by simpa [go_sem] using f1⟩, F', F2, hmine, hother, hnew, h10, fun x hx => hdis x hx⟩, ⟨c0, c1, f0, f1⟩, b :: F1, ?_, ?_⟩
  · refine ((hbe.mono (by simp)).trans (hc.mono (fun x hx => List.mem_cons_of_mem _ hx))).trans (hs.mono (by simp))
  · intro x hx
    rcases List.mem_cons.1 hx with rfl | hx
    · exact ⟨h2, k1⟩
    · exact ⟨(h9 x hx).1, hlt x hx⟩
/-- One more behind field 1, and the field is stored anew. -/
theorem Two.app2h (hen : ∀ x, (enc2 x).length = sz2) (hone : ∀ (x : β), ∀ u ∈ enc2 x, u.oneCell' = true) (t ty : TypeId) (i : TypeInfo) (z : Value) (bytes : Nat)
    (ht : Tryd.prog.underlying t = some (.slice T2)) (hi : Tryd.prog.info? T2 = some i) (hz : i.zero = some z) (hsz : i.size = sz2) (hby : i.bytes = bytes) (hzs : z.cells.size = sz2)
    {w0 : World} {G0 : List Nat} (h : Two sz1 enc1 T1 xs sz2 enc2 T2 ys b lo v1 v2 w0) (hc0 : Chg G0 w0 w) (hG0 : ∀ x ∈ G0, x < lo) (y : β) (cs : Array Value) (hcs : cs = (enc2 y).toArray) (hl : ys.length < 1000000) (hb1 : (ys.length + 1) * bytes ≤ 140737488355328) :
    ∃ v' w', (Builtin.append_ #[t, t] ty #[v2, .slice (some ⟨w.heap.size, 0, none⟩) 1 1]).run Tryd.prog (w.alloc (.cells cs T2)) = .ok v' w' ∧
      (Two sz1 enc1 T1 xs sz2 enc2 T2 (ys ++ [y]) b lo v1 v' (w'.setCell ⟨b, 1, none⟩ v') ∧ (w'.cell? ⟨b, 0, none⟩ = some v1 ∧ w'.cell? ⟨b, 1, none⟩ = some v2 ∧ w'.frozen? ⟨b, 0, none⟩ = false ∧ w'.frozen? ⟨b, 1, none⟩ = false) ∧ ∃ G, Chg G w (w'.setCell ⟨b, 1, none⟩ v') ∧ ∀ x ∈ G, lo ≤ x ∧ x < w0.heap.size) := by
  subst hcs
  have hbe : Chg [] w (w.alloc (.cells (enc2 y).toArray T2)) := (Chg.refl _ _).alloc _
  have hce := (hc0.trans (hbe.mono (by simp)) : Chg G0 w0 _)
  obtain ⟨⟨k1, h2⟩, ⟨k3, k4⟩, ⟨k5, k6⟩, F1, F2, k7, k8, h9, h10, h11⟩ := h
  have hlt := k8.lt
  have hbG : b ∉ G0 := fun hm => by have := hG0 b hm; omega
  have h1 := Nat.lt_of_lt_of_le k1 hce.size
  have h3 := hce.cellOf hbG k3
  have h4 := hce.cellOf hbG k4
  have h5 := hce.frozenOf hbG k1 k5
  have h6 := hce.frozenOf hbG k1 k6
  have h7 := k7.chg hce (fun x hx hm => by have := hG0 x hm; have := (h9 x hx).1; omega)
  have h8 := k8.chg hce (fun x hx hm => by have := hG0 x hm; have := (h10 x hx).1; omega)
  obtain ⟨v', w', hr, F', o1, o2, hc⟩ := OwnS.append hen hone t ty T2 i z bytes ht hi hz hsz hby hzs h8 y w.heap.size 1 (fun j u hu => by
    rw [World.cell?_alloc_at _ _ _ _ rfl]; simpa using hu) (by omega) hb1
  have hbF : b ∉ F2 := fun hm => (h10 b hm).2 rfl
  have c0 := hc.cellOf hbF h3
  have c1 := hc.cellOf hbF h4
  have f0 := hc.frozenOf hbF h1 h5
  have f1 := hc.frozenOf hbF h1 h6
  have hbw : b < w'.heap.size := Nat.lt_of_lt_of_le h1 hc.size
  have hnew : ∀ x ∈ F', lo ≤ x ∧ x ≠ b := fun x hx => by
    rcases o2 x hx with h | h
    · exact h10 x h
    · omega
  have hs : Chg [b] w' (w'.setCell ⟨b, 1, none⟩ v') := (Chg.refl _ _).setCell (p := ⟨b, 1, none⟩) (by simp) v'
  have hmine := o1.chg hs (fun x hx hm => by simp at hm; exact (hnew x hx).2 hm)
  have hol := h7.lt
  have hother := (h7.chg hc (fun x hx hm => h11 x hx hm)).chg hs (fun x hx hm => by simp at hm; exact (h9 x hx).2 hm)
  have hdis : ∀ x ∈ F', x ∉ F1 := fun x hx hm => by
    rcases o2 x hx with h | h
    · exact (fun x hx hm => h11 x hx hm) x hm h
    · have := hol x hm; omega
  refine ⟨v', w', hr, ⟨⟨by simpa using hbw, h2⟩, ⟨(set_near _ _ _ _ _ (by omega)).trans c0, set_same _ _ _ _ _ c1⟩, ⟨by simpa [go_sem] using f0, by simpa [go_sem] using f1⟩, F1, F', hother, hmine, h9, hnew, fun x hx hm => hdis x hm hx⟩, ⟨c0, c1, f0, f1⟩, b :: F2, ?_, ?_⟩
  · refine ((hbe.mono (by simp)).trans (hc.mono (fun x hx => List.mem_cons_of_mem _ hx))).trans (hs.mono (by simp))
  · intro x hx
    rcases List.mem_cons.1 hx with rfl | hx
    · exact ⟨h2, k1⟩
    · exact ⟨(h10 x hx).1, hlt x hx⟩
end
/-- A walk in the making, in the variable in block b. -/
abbrev WTwo (ns es : List Int) (b lo : Nat) (v1 v2 : Value) (w : World) : Prop := Two 1 intCells 3 ns 1 intCells 3 es b lo v1 v2 w
theorem appA {b lo : Nat} {v1 v2 : Value} {w w0 : World} {ns es : List Int} {G0 : List Nat} (h : WTwo ns es b lo v1 v2 w0) (hc0 : Chg G0 w0 w) (hG0 : ∀ x ∈ G0, x < lo) (x : Int) (hl : ns.length < 1000000) :
    ∃ v' w', (Builtin.append_ #[96, 96] 96 #[v1, .slice (some ⟨w.heap.size, 0, none⟩) 1 1]).run Tryd.prog (w.alloc (.cells #[.int .i64 x] 3)) = .ok v' w' ∧
      (WTwo (ns ++ [x]) es b lo v' v2 (w'.setCell ⟨b, 0, none⟩ v') ∧ (w'.cell? ⟨b, 0, none⟩ = some v1 ∧ w'.cell? ⟨b, 1, none⟩ = some v2 ∧ w'.frozen? ⟨b, 0, none⟩ = false ∧ w'.frozen? ⟨b, 1, none⟩ = false) ∧ (∃ p c, v' = .slice p (ns.length + 1) c) ∧ ∃ G, Chg G w (w'.setCell ⟨b, 0, none⟩ v') ∧ ∀ x ∈ G, lo ≤ x ∧ x < w0.heap.size) := by
  obtain ⟨i, hi, hz, hs, hb⟩ := infoI
  obtain ⟨v', w', h1, h2, h3, h4⟩ := Two.app1h (enc1 := intCells) (sz1 := 1) (fun _ => rfl) (fun x u hu => by simp [intCells] at hu; subst hu; rfl) 96 96 i _ 8 Tryd.underlying96 hi hz hs hb (by decide) h hc0 hG0 x _ rfl hl (by omega)
  refine ⟨v', w', h1, h2, h3, ?_, h4⟩
  obtain ⟨_, _, _, F1, F2, o1, o2, _⟩ := h2
  simpa using OwnS.form o1
theorem appB {b lo : Nat} {v1 v2 : Value} {w w0 : World} {ns es : List Int} {G0 : List Nat} (h : WTwo ns es b lo v1 v2 w0) (hc0 : Chg G0 w0 w) (hG0 : ∀ x ∈ G0, x < lo) (x : Int) (hl : es.length < 1000000) :
    ∃ v' w', (Builtin.append_ #[96, 96] 96 #[v2, .slice (some ⟨w.heap.size, 0, none⟩) 1 1]).run Tryd.prog (w.alloc (.cells #[.int .i64 x] 3)) = .ok v' w' ∧
      (WTwo ns (es ++ [x]) b lo v1 v' (w'.setCell ⟨b, 1, none⟩ v') ∧ (w'.cell? ⟨b, 0, none⟩ = some v1 ∧ w'.cell? ⟨b, 1, none⟩ = some v2 ∧ w'.frozen? ⟨b, 0, none⟩ = false ∧ w'.frozen? ⟨b, 1, none⟩ = false) ∧ (∃ p c, v' = .slice p (es.length + 1) c) ∧ ∃ G, Chg G w (w'.setCell ⟨b, 1, none⟩ v') ∧ ∀ x ∈ G, lo ≤ x ∧ x < w0.heap.size) := by
  obtain ⟨i, hi, hz, hs, hb⟩ := infoI
  obtain ⟨v', w', h1, h2, h3, h4⟩ := Two.app2h (enc2 := intCells) (sz2 := 1) (fun _ => rfl) (fun x u hu => by simp [intCells] at hu; subst hu; rfl) 96 96 i _ 8 Tryd.underlying96 hi hz hs hb (by decide) h hc0 hG0 x _ rfl hl (by omega)
  refine ⟨v', w', h1, h2, h3, ?_, h4⟩
  obtain ⟨_, _, _, F1, F2, o1, o2, _⟩ := h2
  simpa using OwnS.form o2
theorem WTwo.has {ns es : List Int} {w : World} {b lo : Nat} {v1 v2 : Value} (h : WTwo ns es b lo v1 v2 w) : ∃ F, (⟨ns, es⟩ : Wk).Has (.agg #[v1, v2]) F w ∧ ∀ x ∈ F, lo ≤ x ∧ x ≠ b := by
  obtain ⟨_, _, _, F1, F2, h7, h8, h9, h10, h11⟩ := h
  refine ⟨F1 ++ F2, ⟨_, _, F1, F2, rfl, rfl, OwnS.own (enc := intCells) (fun _ => rfl) h7, OwnS.own (enc := intCells) (fun _ => rfl) h8, h11⟩, fun x hx => ?_⟩
  rcases List.mem_append.1 hx with h | h
  · exact h9 x h
  · exact h10 x h
end Go.Proofs.YtbbemeaojmfndaaDoor
namespace Go.Proofs.YtbbemeaojmfndaaDoor
open Go.RowKit

def hqCells (x : Int × Int) : List Value := [.int .i64 x.1, .int .i64 x.2]
/-- The element without anything, of edges, in any direction. -/
def elem3 : Array Value := #[.bool false, .string ⟨#[]⟩, .int .i64 0, .string ⟨#[]⟩, .slice none 0 0, .int .i64 0, .string ⟨#[]⟩, .slice none 0 0, .int .i64 3]
end Go.Proofs.YtbbemeaojmfndaaDoor
namespace Go.Proofs.YtbbemeaojmfndaaDoor
open Go.RowKit

/-- The first append: onto an empty row. -/
theorem onto_none {E : World} {s u : Value} {ys : List Int} {B : Nat} (h : OwnI E s [] []) (hu : Sl 1 intCells B E u ys) (hl : ys.length ≤ 3000000) (ty : TypeId) :
    ∃ v' w', (Builtin.append_ #[96, 96] ty #[s, u]).run Tryd.prog E = .ok v' w' ∧ ∃ F, OwnI w' v' ys F ∧ (∀ y ∈ F, E.heap.size ≤ y) ∧ Below E.heap.size E w' := by
  obtain ⟨v', w', hr, F, h1, h2, h3⟩ := app_ints h hu (by simpa using hl) ty
  exact ⟨v', w', hr, F, by simpa using h1, fun y hy => by rcases h2 y hy with h | h; (simp at h); exact h, h3.below (Nat.le_refl _) (by simp)⟩
/-- A walk's two rows, both in whole blocks of the call's own. -/
def WRows (x : Wk) (v : Value) (lo : Nat) (w : World) : Prop := ∃ a b F1 F2, v = .agg #[a, b] ∧ OwnI w a x.ns F1 ∧ OwnI w b x.es F2 ∧ (∀ y ∈ F1, lo ≤ y) ∧ (∀ y ∈ F2, lo ≤ y) ∧ ∀ y ∈ F1, y ∉ F2

end Go.Proofs.YtbbemeaojmfndaaDoor
