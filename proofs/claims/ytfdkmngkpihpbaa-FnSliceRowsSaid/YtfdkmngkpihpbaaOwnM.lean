/- Rows of flat elements that a call makes: another row is put behind. -/
import Derived.Test.YtfdkmngkpihpbaaOwnS
namespace Go.Proofs.Ytfdkmngkpihpbaa
open Go.RowKit

theorem flt_back {α : Type} {enc : α → List Value} {sz : Nat} (h : ∀ x, (enc x).length = sz) : ∀ (xs : List α) (j : Nat) (u : Value), (flt enc xs)[j]? = some u → ∃ (i : Nat) (hi : i < xs.length) (k : Nat), j = i * sz + k ∧ (enc xs[i])[k]? = some u
  | [], j, u, hj => by simp [flt] at hj
  | x :: xs, j, u, hj => by
    simp only [flt, List.flatMap_cons] at hj
    by_cases hlt : j < (enc x).length
    · rw [List.getElem?_append_left hlt] at hj
      exact ⟨0, by simp, j, by simp, hj⟩
    · rw [List.getElem?_append_right (by omega)] at hj
      obtain ⟨i, hi, k, e, hk⟩ := flt_back h xs _ u hj
      rw [h] at e hlt
      exact ⟨i + 1, by simpa using hi, k, by rw [Nat.succ_mul]; omega, by simpa using hk⟩
theorem Sl.fcells {α : Type} {enc : α → List Value} {sz : Nat} (h : ∀ x, (enc x).length = sz) {B : Nat} {w : World} {p : Option Addr} {len cap : Nat} {xs : List α} (hs : Sl sz enc B w (.slice p len cap) xs) :
    ∀ ad, p = some ad → ∀ j u, (flt enc xs)[j]? = some u → w.cell? (ad.add j) = some u := by
  intro ad hp j u hu
  obtain ⟨p', len', cap', h1, h2, h3, h4, h5⟩ := hs
  cases h1
  obtain ⟨i, hi, k, rfl, hk⟩ := flt_back h xs j u hu
  obtain ⟨b, off, e1, e2, e3⟩ := h5 i hi
  rw [e1] at hp
  cases hp
  rw [WideShapes.add_plain, ← Nat.add_assoc]
  exact e3 k u hk
theorem run_append_none {P : Program} (w : World) (t ty e : TypeId) (i : TypeInfo) (ht : P.underlying t = some (.slice e)) (hi : P.info? e = some i) (p q : Option Addr) (n cap c : Nat) (hp : p = none → n = 0 ∧ cap = 0) (hn : n ≤ cap) :
    (Builtin.append_ #[t, t] ty #[.slice p n cap, .slice q 0 c]).run P w = .ok (.slice p n cap) w := by
  have hf : (Builtin.firstCells i.size 0 (.slice q 0 c)).run P w = .ok #[] w := by
    cases q with
    | none => exact run_firstCells_none w i.size 0 0 c
    | some a => exact run_firstCells_some w i.size 0 a 0 c [] (by simp) (by simp)
  cases p with
  | none =>
    obtain ⟨rfl, rfl⟩ := hp rfl
    simp [Builtin.append_, run_underlying ht, sizeOf, typeInfo, hi, Builtin.lenOf, hf]
  | some a => simp [Builtin.append_, run_underlying ht, sizeOf, typeInfo, hi, Builtin.lenOf, hf, hn, storeCells]
/-- An append, by whatever its run is known to give. -/
theorem wpApp {P : Program} {w : World} {ops : Array Oper} {rest : List Oper} {o : Oper} {a : Act} {Q : Exit → Act → World → Prop} (hgd : o.guard = none) (s x : Operand) (t : TypeId)
    (ho : o.op = .call { callee := .builtin .append, args := #[s, x], argTypes := #[t, t] }) (vs vx : Value) (hs : a.eval s = vs) (hx : a.eval x = vx) (R : Value → World → Prop)
    (hr : ∃ v' w', (Builtin.append_ #[t, t] o.type #[vs, vx]).run P w = .ok v' w' ∧ R v' w') (h : ∀ v' w', R v' w' → wpList P ops Q rest (a.put o.dst v') w') : wpList P ops Q (o :: rest) a w := by
  refine wpList_plain hgd fun K hK => ?_
  obtain ⟨v', w', hr, hR⟩ := hr
  unfold Oper.wp execOp
  simp only [ho, resolve, invoke, builtin, Sem.run_bind, Sem.run_pure, Result.andThen_ok, List.map_toArray, List.map_cons, List.map_nil, hs, hx, hr]
  exact hK _ _ (h v' w' hR)
theorem OwnS.form {α : Type} {sz : Nat} {enc : α → List Value} {e : TypeId} {w : World} {v : Value} {xs : List α} {F : List Nat} (h : OwnS sz enc e w v xs F) : ∃ p cap, v = .slice p xs.length cap := by
  obtain ⟨p, cap, rfl, _⟩ := h
  exact ⟨_, _, rfl⟩
theorem OwnS.empty {α : Type} {sz : Nat} {enc : α → List Value} {e : TypeId} {w : World} (p : Option Addr) : OwnS (α := α) sz enc e w (.slice p 0 0) [] [] := ⟨p, 0, rfl, Nat.le_refl _, Nat.zero_le _, .inl ⟨rfl, rfl, rfl⟩⟩

/-- Another row, behind the others. -/
theorem OwnS.appends {α : Type} {sz : Nat} {enc : α → List Value} (hen : ∀ x, (enc x).length = sz) (hone : ∀ (x : α), ∀ u ∈ enc x, u.oneCell' = true) {w : World} {v : Value} {xs : List α} {F : List Nat}
    (t ty e : TypeId) (i : TypeInfo) (z : Value) (bytes : Nat) (ht : Try.prog.underlying t = some (.slice e)) (hi : Try.prog.info? e = some i) (hz : i.zero = some z) (hsz : i.size = sz) (hby : i.bytes = bytes) (hzs : z.cells.size = sz)
    (h : OwnS sz enc e w v xs F) (ys : List α) (u : Value) (B : Nat) (hu : Sl sz enc B w u ys) (h63 : xs.length + ys.length ≤ 3000000) (hbytes : (xs.length + ys.length) * bytes ≤ 140737488355328) :
    ∃ v' w', (Builtin.append_ #[t, t] ty #[v, u]).run Try.prog w = .ok v' w' ∧ ∃ F', OwnS sz enc e w' v' (xs ++ ys) F' ∧ (∀ x ∈ F', x ∈ F ∨ w.heap.size ≤ x) ∧ Chg F w w' := by
  have hfl : flt enc (xs ++ ys) = flt enc xs ++ flt enc ys := flt_append _ _ _
  have hly : (flt enc ys).length = ys.length * sz := flt_length hen ys
  obtain ⟨q, c, rfl⟩ := hu.form
  by_cases hys : ys = []
  · subst hys
    have h0 := h
    obtain ⟨p, cap, rfl, h2, h3, h4⟩ := h
    refine ⟨_, _, run_append_none w t ty e i ht hi p q xs.length cap c (fun e => ?_) h2, F, by simpa using h0, fun x hx => .inl hx, Chg.refl _ _⟩
    rcases h4 with ⟨rfl, _, rfl⟩ | ⟨b, cur, e2, _⟩
    · exact ⟨rfl, rfl⟩
    · rw [e2] at e; cases e
  have hpos : 0 < ys.length := List.length_pos_iff.2 hys
  have hone' : ∀ u ∈ flt enc ys, u.oneCell' = true := fun u hu => by
    obtain ⟨x, _, hx⟩ := List.mem_flatMap.1 hu
    exact hone x u hx
  obtain ⟨ad, rfl⟩ : ∃ ad, q = some ad := by
    obtain ⟨_, _, _, e1, _, _, _, e5⟩ := hu
    cases e1
    obtain ⟨b, off, e1, _⟩ := e5 0 hpos
    exact ⟨_, e1⟩
  have hca := Sl.fcells hen hu ad rfl
  obtain ⟨p, cap, rfl, h2, h3, h4⟩ := h
  have hout : ∀ (old C : Nat) (cs : Array Value), C = grownCap w (xs.length + ys.length) old e → cs = (flt enc xs).toArray ++ (flt enc ys).toArray ++ Builtin.zeroCells z.cells (C - (xs.length + ys.length)) →
      ∃ F', OwnS sz enc e (w.drew.alloc (.cells cs e)) (.slice (some ⟨w.heap.size, 0, none⟩) (xs.length + ys.length) C) (xs ++ ys) F' ∧ (∀ x ∈ F', x ∈ F ∨ w.heap.size ≤ x) ∧ Chg F w (w.drew.alloc (.cells cs e)) := by
    intro old C cs hC hcs
    have h1 : xs.length + ys.length ≤ C := by rw [hC]; exact grownCap_ge w _ _ e
    have h2 : C ≤ maxLen := by rw [hC]; exact grownCap_le_maxLen w _ _ e (by unfold maxLen; omega)
    refine ⟨[w.heap.size], ⟨_, C, by simp, by simpa using h1, h2, .inr ⟨_, cs, rfl, rfl, heap_alloc_new w.drew _, ?_, ?_⟩⟩, by simp, Chg.of_below ((Below.refl _ w).drew.alloc (Nat.le_refl _) _) F⟩
    · rw [hcs, Array.size_append, Array.size_append, List.size_toArray, List.size_toArray, flt_length hen, hly, size_zeroCells, hzs]
      have e1 : C = C - (xs.length + ys.length) + xs.length + ys.length := by omega
      have e2 : C * sz = (C - (xs.length + ys.length)) * sz + xs.length * sz + ys.length * sz := by
        conv => lhs; rw [e1, Nat.add_mul, Nat.add_mul]
      omega
    · rw [hfl, hcs]
      have hl : (flt enc xs ++ flt enc ys).length = (xs ++ ys).length * sz := by rw [List.length_append, flt_length hen, hly, List.length_append, Nat.add_mul]
      simp only [Array.toList_append, List.append_assoc]
      rw [← List.append_assoc, ← hl]
      exact List.take_left
  have hb1 : (xs.length + ys.length) * i.bytes ≤ 140737488355328 := by rw [hby]; exact hbytes
  rcases h4 with ⟨rfl, rfl, rfl⟩ | ⟨b, cur, rfl, rfl, hg, hs, htk⟩
  · cases p with
    | none =>
      have hr := run_append_nil (P := Try.prog) (w := w) t ty e i z ht hi hz ad ys.length c (flt enc ys) (by rw [hly, hsz]) hca hpos (by omega) (by simp at hb1; omega)
      refine ⟨_, _, hr, ?_⟩
      have := hout 0 _ _ rfl rfl
      simpa [flt] using this
    | some G =>
      have hr := run_append_grow (P := Try.prog) (w := w) t ty e i z ht hi hz G 0 0 [] (by simp) (by simp) ad ys.length c (flt enc ys) (by rw [hly, hsz]) hca (by omega) (by omega) (growslice_fits (by omega) (by simpa using hb1))
      refine ⟨_, _, hr, ?_⟩
      have := hout 0 _ _ rfl rfl
      simpa [flt] using this
  · have hb : b < w.heap.size := (Array.getElem?_eq_some_iff.1 hg).1
    by_cases hroom : xs.length + ys.length ≤ cap
    · have hfit : xs.length * i.size + (flt enc ys).length ≤ cur.size := by rw [hly, hsz, hs, ← Nat.add_mul]; exact Nat.mul_le_mul_right _ hroom
      have hr := run_append_room (P := Try.prog) (w := w) t ty e i ht hi b xs.length cap cur hg ad ys.length c (flt enc ys) (by rw [hly, hsz]) hca hone' hroom hfit
      have hl1 : (cur.toList.take (xs.length * sz)).length = xs.length * sz := by rw [htk, flt_length hen]
      refine ⟨_, _, hr, [b], ⟨_, cap, by simp, by simpa using hroom, h3, .inr ⟨b, _, rfl, rfl, setRow_heap w b cur _ e _ hg, ?_, ?_⟩⟩, by simp, ⟨rfl, rfl, rfl, by simp, fun k _ hk => setRow_other w b k _ (fun e => hk (by simp [e]))⟩⟩
      · rw [hsz, hly] at hfit ⊢
        simp only [List.size_toArray, List.length_append, List.length_drop, Array.length_toList, hl1, hly]
        omega
      · rw [hfl, hsz]
        have hl : (flt enc xs ++ flt enc ys).length = (xs ++ ys).length * sz := by rw [List.length_append, flt_length hen, hly, List.length_append, Nat.add_mul]
        rw [htk, ← hl]
        exact List.take_left
    · have hown : w.ownsRow b e sz (.slice (some ⟨b, 0, none⟩) xs.length cap) xs.length (flt enc xs) := ⟨flt_length hen xs, .inr ⟨b, cap, cur, rfl, Nat.le_refl _, hg, h2, h3, hs, htk⟩⟩
      have holds : ∀ j u, (flt enc xs)[j]? = some u → w.cell? ((⟨b, 0, none⟩ : Addr).add j) = some u := hown.cells (g := b) rfl
      have hr := run_append_grow (P := Try.prog) (w := w) t ty e i z ht hi hz ⟨b, 0, none⟩ xs.length cap (flt enc xs) (by rw [flt_length hen, hsz]) holds ad ys.length c (flt enc ys) (by rw [hly, hsz]) hca (by omega) (by omega) (growslice_fits (by omega) hb1)
      refine ⟨_, _, hr, ?_⟩
      have := hout cap _ _ rfl rfl
      simpa using this
end Go.Proofs.Ytfdkmngkpihpbaa
