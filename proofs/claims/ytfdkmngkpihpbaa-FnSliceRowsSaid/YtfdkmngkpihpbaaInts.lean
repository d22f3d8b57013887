/- Rows of ints that a call makes: appends; turned rows. -/
import Derived.Test.YtfdkmngkpihpbaaOwnM
import Derived.Test.YtfdkmngkpihpbaaWk
namespace Go.Proofs.Ytfdkmngkpihpbaa
open Go.RowKit

def OwnI (w : World) (v : Value) (xs : List Int) (F : List Nat) : Prop := OwnS 1 intCells 3 w v xs F
theorem OwnI.own {w : World} {v : Value} {xs : List Int} {F : List Nat} (h : OwnI w v xs F) : OwnSl 1 intCells w v xs F := OwnS.own (enc := intCells) (fun _ => rfl) h
theorem OwnI.chg {w w' : World} {v : Value} {xs : List Int} {F G : List Nat} (h : OwnI w v xs F) (hc : Chg G w w') (hd : ∀ x ∈ F, x ∉ G) : OwnI w' v xs F := OwnS.chg h hc hd
theorem OwnI.below {w w' : World} {v : Value} {xs : List Int} {F : List Nat} (h : OwnI w v xs F) (hc : Below w.heap.size w w') : OwnI w' v xs F := OwnS.below h hc
theorem OwnI.lt {w : World} {v : Value} {xs : List Int} {F : List Nat} (h : OwnI w v xs F) : ∀ x ∈ F, x < w.heap.size := OwnS.lt h
theorem OwnI.form {w : World} {v : Value} {xs : List Int} {F : List Nat} (h : OwnI w v xs F) : ∃ p cap, v = .slice p xs.length cap := OwnS.form h
theorem OwnI.empty (w : World) (p : Option Addr) : OwnI w (.slice p 0 0) [] [] := OwnS.empty p
theorem infoI : ∃ i, Try.prog.info? 3 = some i ∧ i.zero = some (.int .i64 0) ∧ i.size = 1 ∧ i.bytes = 8 := by
  obtain ⟨i, hi, hzz⟩ := Option.map_eq_some_iff.1 infoIntW
  simp only [Prod.mk.injEq] at hzz
  exact ⟨i, hi, hzz.1, hzz.2.1, hzz.2.2⟩
/-- What an append leaves. -/
def AppI (E : World) (xs : List Int) (F : List Nat) (v' : Value) (w' : World) : Prop := ∃ F', OwnI w' v' xs F' ∧ (∀ x ∈ F', x ∈ F ∨ E.heap.size ≤ x) ∧ Chg F E w'
/-- One more int, out of a new row of one. -/
theorem app_int {E : World} {s : Value} {ys : List Int} {F : List Nat} (h : OwnI E s ys F) (x : Int) (hl : ys.length < 3000000) (ty : TypeId) :
    ∃ v' w', (Builtin.append_ #[23, 23] ty #[s, .slice (some ⟨E.heap.size, 0, none⟩) 1 1]).run Try.prog (E.alloc (.cells #[.int .i64 x] 3)) = .ok v' w' ∧ AppI E (ys ++ [x]) F v' w' := by
  obtain ⟨i, hi, hz, hs, hb⟩ := infoI
  have hbe : Below E.heap.size E (E.alloc (.cells #[.int .i64 x] 3)) := (Below.refl _ _).alloc (Nat.le_refl _) _
  obtain ⟨v', w', hr, F', ho, hF, hc⟩ := OwnS.append (enc := intCells) (sz := 1) (fun _ => rfl) (fun x u hu => by simp [intCells] at hu; subst hu; rfl) 23 ty 3 i _ 8 Try.underlying23 hi hz hs hb (by decide) (h.below hbe) x E.heap.size 1
    (fun j u hu => by
      obtain rfl : j = 0 := by
        have hj := (List.getElem?_eq_some_iff.1 hu).1
        simp [intCells] at hj; omega
      simp [intCells] at hu; subst hu; simp [go_sem]) hl (by omega)
  exact ⟨v', w', hr, F', ho, fun x hx => by rcases hF x hx with h | h; (exact .inl h); (simp at h; exact .inr (by omega)), (Chg.of_below hbe F).trans hc⟩
/-- A whole row of ints. -/
theorem app_ints {E : World} {s u : Value} {xs ys : List Int} {F : List Nat} {B : Nat} (h : OwnI E s xs F) (hu : Sl 1 intCells B E u ys) (hl : xs.length + ys.length ≤ 3000000) (ty : TypeId) :
    ∃ v' w', (Builtin.append_ #[23, 23] ty #[s, u]).run Try.prog E = .ok v' w' ∧ AppI E (xs ++ ys) F v' w' := by
  obtain ⟨i, hi, hz, hs, hb⟩ := infoI
  exact OwnS.appends (enc := intCells) (sz := 1) (fun _ => rfl) (fun x u hu => by simp [intCells] at hu; subst hu; rfl) 23 ty 3 i _ 8 Try.underlying23 hi hz hs hb (by decide) h ys u B hu hl (by omega)

/-- xs, turned in its first a places and in its last a places. -/
def Rv (xs : List Int) (a : Nat) (ys : List Int) : Prop := ys.length = xs.length ∧ ∀ i (h : i < ys.length) (h1 : i < xs.length) (h2 : xs.length - 1 - i < xs.length), ys[i] = if i < a ∨ xs.length ≤ i + a then xs[xs.length - 1 - i] else xs[i]
theorem Rv.zero (xs : List Int) : Rv xs 0 xs := ⟨rfl, fun i _ h1 _ => by rw [if_neg (by omega)]⟩
theorem Rv.done {xs ys : List Int} {a : Nat} (h : Rv xs a ys) (ha : xs.length ≤ 2 * a + 1) : ys = xs.reverse := by
  refine List.ext_getElem (by simp [h.1]) fun i h1 h2 => ?_
  have hx : i < xs.length := by rw [← h.1]; exact h1
  rw [h.2 i h1 hx (by omega), List.getElem_reverse]
  split
  · rfl
  · have : xs.length - 1 - i = i := by omega
    simp only [this]
theorem Rv.step {xs ys : List Int} {a b : Nat} (h : Rv xs a ys) (hb : b = xs.length - 1 - a) (hab : a < b) (ha : a < ys.length) (hbl : b < ys.length) : Rv xs (a + 1) ((ys.set a ys[b]).set b ys[a]) := by
  have hl := h.1
  refine ⟨by simpa using hl, fun i hi h1 h2 => ?_⟩
  simp only [List.getElem_set]
  by_cases e1 : b = i
  · subst e1
    rw [if_pos rfl, h.2 a ha (by omega) (by omega), if_neg (by omega), if_pos (by omega)]
    simp only [show xs.length - 1 - b = a by omega]
  · rw [if_neg e1]
    by_cases e2 : a = i
    · subst e2
      rw [if_pos rfl, h.2 b hbl (by omega) (by omega), if_neg (by omega), if_pos (by omega)]
      simp only [← hb]
    · rw [if_neg e2, h.2 i (by simpa using hi) h1 h2]
      by_cases e3 : i < a ∨ xs.length ≤ i + a
      · rw [if_pos e3, if_pos (by omega)]
      · rw [if_neg e3, if_neg (by omega)]
theorem OwnSl.store1 {α : Type} {enc : α → List Value} {w : World} {b off len cap : Nat} {xs : List α} {F : List Nat} (h : OwnSl 1 enc w (.slice (some ⟨b, off, none⟩) len cap) xs F) {k : Nat} (hk : k < xs.length) (hsz : ∀ x, (enc x).length = 1)
    (y : α) (u : Value) (hy : enc y = (enc xs[k]).set 0 u) : OwnSl 1 enc (w.setCell ⟨b, off + k, none⟩ u) (.slice (some ⟨b, off, none⟩) len cap) (xs.set k y) F := by
  have := h.store (k := k) hk hsz 0 (by decide) y u hy
  rwa [Nat.mul_one, Nat.add_zero] at this

end Go.Proofs.Ytfdkmngkpihpbaa
