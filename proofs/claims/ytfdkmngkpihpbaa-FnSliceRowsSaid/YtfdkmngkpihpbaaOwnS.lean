/- Rows of flat elements that a call makes by appending; no function of the program. -/
import Derived.Test.YtfdkmngkpihpbaaGraph
import Derived.Test.YtfdkmngkpihpbaaProg
import Derived.Deep.RegionHeld3
import Derived.Deep.DeepCutAuto
import Derived.Deep.AppendLies
import Derived.OwnWalk
import Derived.Laws.AppendOwn
namespace Go.Proofs.Ytfdkmngkpihpbaa
open Go.RowKit

/-- The cells of flat elements, one behind the other. -/
def flt {α : Type} (enc : α → List Value) (xs : List α) : List Value := xs.flatMap enc
theorem flt_length {α : Type} {enc : α → List Value} {sz : Nat} (h : ∀ x, (enc x).length = sz) : ∀ xs : List α, (flt enc xs).length = xs.length * sz
  | [] => by simp [flt]
  | x :: xs => by
    have := flt_length h xs
    simp only [flt, List.flatMap_cons, List.length_append, List.length_cons] at *
    rw [h, this, Nat.succ_mul]; omega
theorem flt_append {α : Type} (enc : α → List Value) (xs ys : List α) : flt enc (xs ++ ys) = flt enc xs ++ flt enc ys := by simp [flt]
theorem flt_at {α : Type} {enc : α → List Value} {sz : Nat} (h : ∀ x, (enc x).length = sz) : ∀ (xs : List α) (i : Nat) (hi : i < xs.length) (j : Nat) (x : Value), (enc xs[i])[j]? = some x → (flt enc xs)[i * sz + j]? = some x
  | x :: xs, 0, _, j, v, hv => by
    have hj : j < (enc x).length := (List.getElem?_eq_some_iff.1 hv).1
    simp only [flt, List.flatMap_cons, Nat.zero_mul, Nat.zero_add]
    rw [List.getElem?_append_left hj]; exact hv
  | x :: xs, i + 1, hi, j, v, hv => by
    have := flt_at h xs i (by simpa using hi) j v (by simpa using hv)
    simp only [flt, List.flatMap_cons]
    rw [List.getElem?_append_right (by rw [h, Nat.succ_mul]; omega), h]
    rw [show (i + 1) * sz + j - sz = i * sz + j by rw [Nat.succ_mul]; omega]; exact this
/-- A step that is an append, by whatever its run is known to give. -/
theorem step_app_src {P : Program} {w : World} {ops : Array Oper} {o : Oper} {a : Act} {K : Act → World → Prop} {Q : Exit → Act → World → Prop} {E : Prop} (hgd : o.guard = none) (s x : Operand) (t : TypeId)
    (ho : o.op = .call { callee := .builtin .append, args := #[s, x], argTypes := #[t, t] }) (vs vx : Value) (hs : a.eval s = vs) (hx : a.eval x = vx) (R : Value → World → Prop)
    (hr : ∃ v' w', (Builtin.append_ #[t, t] o.type #[vs, vx]).run P w = .ok v' w' ∧ R v' w') (h : ∀ v' w', R v' w' → K (a.put o.dst v') w') :
    if Region.wanted o (yielded ops a.tmps) = true then Oper.wp P o a w K Q else E := by
  have hw : Region.wanted o (yielded ops a.tmps) = true := by simp [Region.wanted, hgd]
  rw [if_pos hw]
  obtain ⟨v', w', hr, hR⟩ := hr
  unfold Oper.wp execOp
  simp only [ho, resolve, invoke, builtin, Sem.run_bind, Sem.run_pure, Result.andThen_ok, List.map_toArray, List.map_cons, List.map_nil, hs, hx, hr]
  exact h v' w' hR

/-- As OwnSl, and the whole block is known. -/
def OwnS {α : Type} (sz : Nat) (enc : α → List Value) (e : TypeId) (w : World) (v : Value) (xs : List α) (F : List Nat) : Prop :=
  ∃ (p : Option Addr) (cap : Nat), v = .slice p xs.length cap ∧ xs.length ≤ cap ∧ cap ≤ maxLen ∧
    ((xs = [] ∧ F = [] ∧ cap = 0) ∨ ∃ b cur, p = some ⟨b, 0, none⟩ ∧ F = [b] ∧ w.heap[b]? = some (.cells cur e (0, 0)) ∧ cur.size = cap * sz ∧ cur.toList.take (xs.length * sz) = flt enc xs)
theorem OwnS.own {α : Type} {sz : Nat} {enc : α → List Value} (hen : ∀ x, (enc x).length = sz) {e : TypeId} {w : World} {v : Value} {xs : List α} {F : List Nat} (h : OwnS sz enc e w v xs F) : OwnSl sz enc w v xs F := by
  obtain ⟨p, cap, rfl, h2, h3, h4⟩ := h
  refine ⟨p, _, cap, rfl, rfl, h2, h3, ?_⟩
  rcases h4 with ⟨rfl, rfl, _⟩ | ⟨b, cur, rfl, rfl, hg, hs, ht⟩
  · exact .inl ⟨rfl, rfl⟩
  · refine .inr ⟨b, 0, rfl, rfl, (Array.getElem?_eq_some_iff.1 hg).1, fun o => by simp [World.frozen?, hg], fun i hi j x hx => ?_⟩
    have e1 := flt_at hen xs i hi j x hx
    have hj : j < sz := by rw [← hen xs[i]]; exact (List.getElem?_eq_some_iff.1 hx).1
    have hle : i * sz + sz ≤ xs.length * sz := by rw [← Nat.succ_mul]; exact Nat.mul_le_mul_right _ hi
    rw [← ht, List.getElem?_take_of_lt (by omega)] at e1
    simp only [World.cell?, hg, Nat.zero_add]
    rw [← e1]; simp
theorem OwnS.chg {α : Type} {sz : Nat} {enc : α → List Value} {e : TypeId} {w w' : World} {v : Value} {xs : List α} {F G : List Nat} (h : OwnS sz enc e w v xs F) (hc : Chg G w w') (hd : ∀ x ∈ F, x ∉ G) : OwnS sz enc e w' v xs F := by
  obtain ⟨p, cap, rfl, h2, h3, h4⟩ := h
  refine ⟨p, cap, rfl, h2, h3, ?_⟩
  rcases h4 with h4 | ⟨b, cur, rfl, rfl, hg, hs, ht⟩
  · exact .inl h4
  · exact .inr ⟨b, cur, rfl, rfl, (hc.block b (Array.getElem?_eq_some_iff.1 hg).1 (hd b (by simp))).trans hg, hs, ht⟩
theorem OwnS.below {α : Type} {sz : Nat} {enc : α → List Value} {e : TypeId} {w w' : World} {v : Value} {xs : List α} {F : List Nat} (h : OwnS sz enc e w v xs F) (hc : Below w.heap.size w w') : OwnS sz enc e w' v xs F :=
  h.chg (Chg.of_below hc []) (by simp)
theorem OwnS.lt {α : Type} {sz : Nat} {enc : α → List Value} {e : TypeId} {w : World} {v : Value} {xs : List α} {F : List Nat} (h : OwnS sz enc e w v xs F) : ∀ x ∈ F, x < w.heap.size := by
  obtain ⟨p, cap, rfl, h2, h3, h4⟩ := h
  rcases h4 with ⟨_, rfl, _⟩ | ⟨b, cur, rfl, rfl, hg, hs, ht⟩
  · simp
  · intro x hx; simp at hx; subst hx; exact (Array.getElem?_eq_some_iff.1 hg).1
/-- One more, behind the others. -/
theorem OwnS.append {α : Type} {sz : Nat} {enc : α → List Value} (hen : ∀ x, (enc x).length = sz) (hone : ∀ (x : α), ∀ u ∈ enc x, u.oneCell' = true) {w : World} {v : Value} {xs : List α} {F : List Nat}
    (t ty e : TypeId) (i : TypeInfo) (z : Value) (bytes : Nat) (ht : Try.prog.underlying t = some (.slice e)) (hi : Try.prog.info? e = some i) (hz : i.zero = some z) (hsz : i.size = sz) (hby : i.bytes = bytes) (hzs : z.cells.size = sz)
    (h : OwnS sz enc e w v xs F) (y : α) (g c : Nat) (hy : ∀ j u, (enc y)[j]? = some u → w.cell? ⟨g, j, none⟩ = some u) (h63 : xs.length < 3000000) (hbytes : (xs.length + 1) * bytes ≤ 140737488355328) :
    ∃ v' w', (Builtin.append_ #[t, t] ty #[v, .slice (some ⟨g, 0, none⟩) 1 c]).run Try.prog w = .ok v' w' ∧ ∃ F', OwnS sz enc e w' v' (xs ++ [y]) F' ∧ (∀ x ∈ F', x ∈ F ∨ w.heap.size ≤ x) ∧ Chg F w w' := by
  have hfl : flt enc (xs ++ [y]) = flt enc xs ++ enc y := by rw [flt_append]; simp [flt]
  have hca : ∀ j u, (enc y)[j]? = some u → w.cell? ((⟨g, 0, none⟩ : Addr).add j) = some u := fun j u hu => by
    have h0 := hy j u hu
    cases j <;> simpa [Addr.add] using h0
  obtain ⟨p, cap, rfl, h2, h3, h4⟩ := h
  have hout : ∀ (old C : Nat) (cs : Array Value), C = grownCap w (xs.length + 1) old e → cs = (flt enc xs).toArray ++ (enc y).toArray ++ Builtin.zeroCells z.cells (C - (xs.length + 1)) →
      ∃ F', OwnS sz enc e (w.drew.alloc (.cells cs e)) (.slice (some ⟨w.heap.size, 0, none⟩) (xs.length + 1) C) (xs ++ [y]) F' ∧ (∀ x ∈ F', x ∈ F ∨ w.heap.size ≤ x) ∧ Chg F w (w.drew.alloc (.cells cs e)) := by
    intro old C cs hC hcs
    have h1 : xs.length + 1 ≤ C := by rw [hC]; exact grownCap_ge w _ _ e
    have h2 : C ≤ maxLen := by rw [hC]; exact grownCap_le_maxLen w _ _ e (by unfold maxLen; omega)
    refine ⟨[w.heap.size], ⟨_, C, by simp, by simpa using h1, h2, .inr ⟨_, cs, rfl, rfl, heap_alloc_new w.drew _, ?_, ?_⟩⟩, by simp, Chg.of_below ((Below.refl _ w).drew.alloc (Nat.le_refl _) _) F⟩
    · rw [hcs, Array.size_append, Array.size_append, List.size_toArray, List.size_toArray, flt_length hen, hen, size_zeroCells, hzs]
      have e1 : C = C - (xs.length + 1) + xs.length + 1 := by omega
      have e2 : C * sz = (C - (xs.length + 1)) * sz + xs.length * sz + sz := by
        conv => lhs; rw [e1, Nat.succ_mul, Nat.add_mul]
      omega
    · rw [hfl, hcs]
      have hl : (flt enc xs ++ enc y).length = (xs ++ [y]).length * sz := by rw [List.length_append, flt_length hen, hen, List.length_append, Nat.add_mul]; simp
      simp only [Array.toList_append, List.append_assoc]
      rw [← List.append_assoc, ← hl]
      exact List.take_left
  have hb1 : (xs.length + 1) * i.bytes ≤ 140737488355328 := by rw [hby]; exact hbytes
  rcases h4 with ⟨rfl, rfl, rfl⟩ | ⟨b, cur, rfl, rfl, hg, hs, htk⟩
  · cases p with
    | none =>
      have hr := run_append_nil (P := Try.prog) (w := w) t ty e i z ht hi hz ⟨g, 0, none⟩ 1 c (enc y) (by rw [hen, hsz, Nat.one_mul]) hca (by omega) (by omega) (by simp at hb1; omega)
      refine ⟨_, _, hr, ?_⟩
      have := hout 0 _ _ rfl rfl
      simpa [flt] using this
    | some G =>
      have hr := run_append_grow (P := Try.prog) (w := w) t ty e i z ht hi hz G 0 0 [] (by simp) (by simp) ⟨g, 0, none⟩ 1 c (enc y) (by rw [hen, hsz, Nat.one_mul]) hca (by omega) (by omega) (growslice_fits (by omega) (by simpa using hb1))
      refine ⟨_, _, hr, ?_⟩
      have := hout 0 _ _ rfl rfl
      simpa [flt] using this
  · have hb : b < w.heap.size := (Array.getElem?_eq_some_iff.1 hg).1
    by_cases hroom : xs.length + 1 ≤ cap
    · have hfit : xs.length * i.size + (enc y).length ≤ cur.size := by rw [hen, hsz, hs, ← Nat.succ_mul]; exact Nat.mul_le_mul_right _ hroom
      have hr := run_append_room (P := Try.prog) (w := w) t ty e i ht hi b xs.length cap cur hg ⟨g, 0, none⟩ 1 c (enc y) (by rw [hen, hsz, Nat.one_mul]) hca (hone y) hroom hfit
      have hl1 : (cur.toList.take (xs.length * sz)).length = xs.length * sz := by rw [htk, flt_length hen]
      refine ⟨_, _, hr, [b], ⟨_, cap, by simp, by simpa using hroom, h3, .inr ⟨b, _, rfl, rfl, setRow_heap w b cur _ e _ hg, ?_, ?_⟩⟩, by simp, ⟨rfl, rfl, rfl, by simp, fun k _ hk => setRow_other w b k _ (fun e => hk (by simp [e]))⟩⟩
      · rw [hsz, hen] at hfit ⊢
        simp only [List.size_toArray, List.length_append, List.length_drop, Array.length_toList, hl1, hen]
        omega
      · rw [hfl, hsz]
        have hl : (flt enc xs ++ enc y).length = (xs ++ [y]).length * sz := by rw [List.length_append, flt_length hen, hen, List.length_append, Nat.add_mul]; simp
        rw [htk, ← hl]
        exact List.take_left
    · have hown : w.ownsRow b e sz (.slice (some ⟨b, 0, none⟩) xs.length cap) xs.length (flt enc xs) := ⟨flt_length hen xs, .inr ⟨b, cap, cur, rfl, Nat.le_refl _, hg, h2, h3, hs, htk⟩⟩
      have holds : ∀ j u, (flt enc xs)[j]? = some u → w.cell? ((⟨b, 0, none⟩ : Addr).add j) = some u := hown.cells (g := b) rfl
      have hr := run_append_grow (P := Try.prog) (w := w) t ty e i z ht hi hz ⟨b, 0, none⟩ xs.length cap (flt enc xs) (by rw [flt_length hen, hsz]) holds ⟨g, 0, none⟩ 1 c (enc y) (by rw [hen, hsz, Nat.one_mul]) hca (by omega) (by omega) (growslice_fits (by omega) hb1)
      refine ⟨_, _, hr, ?_⟩
      have := hout cap _ _ rfl rfl
      simpa using this

end Go.Proofs.Ytfdkmngkpihpbaa
