/- spec.l1Copy: a copy of a graph, whose two appends stand in one region that draws its order. -/
import Derived.Test.YtfdkmngkpihpbaaM0q0p2
import Derived.Deep.RegionHeld3
import Derived.Deep.DeepCutAuto
import Derived.Deep.AppendLies
namespace Go.Proofs.Ytfdkmngkpihpbaa
open Go.RowKit

/-- A step that is an append, by whatever its run is known to give. -/
theorem step_append_src {P : Program} {w : World} {ops : Array Oper} {o : Oper} {a : Act} {K : Act → World → Prop} {Q : Exit → Act → World → Prop} {E : Prop} (hgd : o.guard = none) (s x : Operand) (t : TypeId)
    (ho : o.op = .call { callee := .builtin .append, args := #[s, x], argTypes := #[t, t] }) (vs vx : Value) (hs : a.eval s = vs) (hx : a.eval x = vx) (R : Value → World → Prop)
    (hr : ∃ v' w', (Builtin.append_ #[t, t] o.type #[vs, vx]).run P w = .ok v' w' ∧ R v' w') (h : ∀ v' w', R v' w' → K (a.put o.dst v') w') :
    if Region.wanted o (yielded ops a.tmps) = true then Oper.wp P o a w K Q else E := by
  have hw : Region.wanted o (yielded ops a.tmps) = true := by simp [Region.wanted, hgd]
  rw [if_pos hw]
  obtain ⟨v', w', hr, hR⟩ := hr
  unfold Oper.wp execOp
  simp only [ho, resolve, invoke, builtin, Sem.run_bind, Sem.run_pure, Result.andThen_ok, List.map_toArray, List.map_cons, List.map_nil, hs, hx, hr]
  exact h v' w' hR

/-- As OwnSl, and the whole block is known. -/
def OwnB {α : Type} (sz : Nat) (enc : α → List Value) (e : TypeId) (w : World) (v : Value) (xs : List α) (F : List Nat) : Prop :=
  ∃ (p : Option Addr) (cap : Nat), v = .slice p xs.length cap ∧ xs.length ≤ cap ∧ cap ≤ maxLen ∧
    ((xs = [] ∧ F = [] ∧ cap = 0) ∨ ∃ b cur, p = some ⟨b, 0, none⟩ ∧ F = [b] ∧ w.heap[b]? = some (.cells cur e (0, 0)) ∧ cur.size = cap * sz ∧ cur.toList.take (xs.length * sz) = flat enc xs)
theorem OwnB.own {α : Type} {sz : Nat} {enc : α → List Value} (hen : ∀ x, (enc x).length = sz) {e : TypeId} {w : World} {v : Value} {xs : List α} {F : List Nat} (h : OwnB sz enc e w v xs F) : OwnSl sz enc w v xs F := by
  obtain ⟨p, cap, rfl, h2, h3, h4⟩ := h
  refine ⟨p, _, cap, rfl, rfl, h2, h3, ?_⟩
  rcases h4 with ⟨rfl, rfl, _⟩ | ⟨b, cur, rfl, rfl, hg, hs, ht⟩
  · exact .inl ⟨rfl, rfl⟩
  · refine .inr ⟨b, 0, rfl, rfl, (Array.getElem?_eq_some_iff.1 hg).1, fun o => by simp [World.frozen?, hg], fun i hi j x hx => ?_⟩
    have e1 := flat_at hen xs i hi j x hx
    have hj : j < sz := by rw [← hen xs[i]]; exact (List.getElem?_eq_some_iff.1 hx).1
    have hle : i * sz + sz ≤ xs.length * sz := by rw [← Nat.succ_mul]; exact Nat.mul_le_mul_right _ hi
    rw [← ht, List.getElem?_take_of_lt (by omega)] at e1
    simp only [World.cell?, hg, Nat.zero_add]
    rw [← e1]; simp
theorem OwnB.chg {α : Type} {sz : Nat} {enc : α → List Value} {e : TypeId} {w w' : World} {v : Value} {xs : List α} {F G : List Nat} (h : OwnB sz enc e w v xs F) (hc : Chg G w w') (hd : ∀ x ∈ F, x ∉ G) : OwnB sz enc e w' v xs F := by
  obtain ⟨p, cap, rfl, h2, h3, h4⟩ := h
  refine ⟨p, cap, rfl, h2, h3, ?_⟩
  rcases h4 with h4 | ⟨b, cur, rfl, rfl, hg, hs, ht⟩
  · exact .inl h4
  · exact .inr ⟨b, cur, rfl, rfl, (hc.block b (Array.getElem?_eq_some_iff.1 hg).1 (hd b (by simp))).trans hg, hs, ht⟩
theorem OwnB.below {α : Type} {sz : Nat} {enc : α → List Value} {e : TypeId} {w w' : World} {v : Value} {xs : List α} {F : List Nat} (h : OwnB sz enc e w v xs F) (hc : Below w.heap.size w w') : OwnB sz enc e w' v xs F :=
  h.chg (Chg.of_below hc []) (by simp)
theorem OwnB.lt {α : Type} {sz : Nat} {enc : α → List Value} {e : TypeId} {w : World} {v : Value} {xs : List α} {F : List Nat} (h : OwnB sz enc e w v xs F) : ∀ x ∈ F, x < w.heap.size := by
  obtain ⟨p, cap, rfl, h2, h3, h4⟩ := h
  rcases h4 with ⟨_, rfl, _⟩ | ⟨b, cur, rfl, rfl, hg, hs, ht⟩
  · simp
  · intro x hx; simp at hx; subst hx; exact (Array.getElem?_eq_some_iff.1 hg).1
/-- One more, behind the others. -/
theorem OwnB.append {α : Type} {sz : Nat} {enc : α → List Value} (hen : ∀ x, (enc x).length = sz) (hone : ∀ (x : α), ∀ u ∈ enc x, u.oneCell' = true) {w : World} {v : Value} {xs : List α} {F : List Nat}
    (t ty e : TypeId) (i : TypeInfo) (z : Value) (bytes : Nat) (ht : Try.prog.underlying t = some (.slice e)) (hi : Try.prog.info? e = some i) (hz : i.zero = some z) (hsz : i.size = sz) (hby : i.bytes = bytes) (hzs : z.cells.size = sz)
    (h : OwnB sz enc e w v xs F) (y : α) (g c : Nat) (hy : ∀ j u, (enc y)[j]? = some u → w.cell? ⟨g, j, none⟩ = some u) (h63 : xs.length < 3000000) (hbytes : (xs.length + 1) * bytes ≤ 140737488355328) :
    ∃ v' w', (Builtin.append_ #[t, t] ty #[v, .slice (some ⟨g, 0, none⟩) 1 c]).run Try.prog w = .ok v' w' ∧ ∃ F', OwnB sz enc e w' v' (xs ++ [y]) F' ∧ (∀ x ∈ F', x ∈ F ∨ w.heap.size ≤ x) ∧ Chg F w w' := by
  have hfl : flat enc (xs ++ [y]) = flat enc xs ++ enc y := by rw [flat_append]; simp [flat]
  have hca : ∀ j u, (enc y)[j]? = some u → w.cell? ((⟨g, 0, none⟩ : Addr).add j) = some u := fun j u hu => by
    have h0 := hy j u hu
    cases j <;> simpa [Addr.add] using h0
  obtain ⟨p, cap, rfl, h2, h3, h4⟩ := h
  have hout : ∀ (old C : Nat) (cs : Array Value), C = grownCap w (xs.length + 1) old e → cs = (flat enc xs).toArray ++ (enc y).toArray ++ Builtin.zeroCells z.cells (C - (xs.length + 1)) →
      ∃ F', OwnB sz enc e (w.drew.alloc (.cells cs e)) (.slice (some ⟨w.heap.size, 0, none⟩) (xs.length + 1) C) (xs ++ [y]) F' ∧ (∀ x ∈ F', x ∈ F ∨ w.heap.size ≤ x) ∧ Chg F w (w.drew.alloc (.cells cs e)) := by
    intro old C cs hC hcs
    have h1 : xs.length + 1 ≤ C := by rw [hC]; exact grownCap_ge w _ _ e
    have h2 : C ≤ maxLen := by rw [hC]; exact grownCap_le_maxLen w _ _ e (by unfold maxLen; omega)
    refine ⟨[w.heap.size], ⟨_, C, by simp, by simpa using h1, h2, .inr ⟨_, cs, rfl, rfl, heap_alloc_new w.drew _, ?_, ?_⟩⟩, by simp, Chg.of_below ((Below.refl _ w).drew.alloc (Nat.le_refl _) _) F⟩
    · rw [hcs, Array.size_append, Array.size_append, List.size_toArray, List.size_toArray, flat_length hen, hen, size_zeroCells, hzs]
      have e1 : C = C - (xs.length + 1) + xs.length + 1 := by omega
      have e2 : C * sz = (C - (xs.length + 1)) * sz + xs.length * sz + sz := by
        conv => lhs; rw [e1, Nat.succ_mul, Nat.add_mul]
      omega
    · rw [hfl, hcs]
      have hl : (flat enc xs ++ enc y).length = (xs ++ [y]).length * sz := by rw [List.length_append, flat_length hen, hen, List.length_append, Nat.add_mul]; simp
      simp only [Array.toList_append, List.append_assoc]
      rw [← List.append_assoc, ← hl]
      exact List.take_left
  have hb1 : (xs.length + 1) * i.bytes ≤ 140737488355328 := by rw [hby]; exact hbytes
  rcases h4 with ⟨rfl, rfl, rfl⟩ | ⟨b, cur, rfl, rfl, hg, hs, htk⟩
  · cases p with
    | none =>
      have hr := run_append_nil (P := Try.prog) (w := w) t ty e i z ht hi hz ⟨g, 0, none⟩ 1 c (enc y) (by rw [hen, hsz, Nat.one_mul]) hca (by omega) (by omega) (by simp at hb1; omega)
      refine ⟨_, _, hr, ?_⟩
      have := hout 0 _ _ rfl rfl
      simpa [flat] using this
    | some G =>
      have hr := run_append_grow (P := Try.prog) (w := w) t ty e i z ht hi hz G 0 0 [] (by simp) (by simp) ⟨g, 0, none⟩ 1 c (enc y) (by rw [hen, hsz, Nat.one_mul]) hca (by omega) (by omega) (growslice_fits (by omega) (by simpa using hb1))
      refine ⟨_, _, hr, ?_⟩
      have := hout 0 _ _ rfl rfl
      simpa [flat] using this
  · have hb : b < w.heap.size := (Array.getElem?_eq_some_iff.1 hg).1
    by_cases hroom : xs.length + 1 ≤ cap
    · have hfit : xs.length * i.size + (enc y).length ≤ cur.size := by rw [hen, hsz, hs, ← Nat.succ_mul]; exact Nat.mul_le_mul_right _ hroom
      have hr := run_append_room (P := Try.prog) (w := w) t ty e i ht hi b xs.length cap cur hg ⟨g, 0, none⟩ 1 c (enc y) (by rw [hen, hsz, Nat.one_mul]) hca (hone y) hroom hfit
      have hl1 : (cur.toList.take (xs.length * sz)).length = xs.length * sz := by rw [htk, flat_length hen]
      refine ⟨_, _, hr, [b], ⟨_, cap, by simp, by simpa using hroom, h3, .inr ⟨b, _, rfl, rfl, setRow_heap w b cur _ e _ hg, ?_, ?_⟩⟩, by simp, ⟨rfl, rfl, rfl, by simp, fun k _ hk => setRow_other w b k _ (fun e => hk (by simp [e]))⟩⟩
      · rw [hsz, hen] at hfit ⊢
        simp only [List.size_toArray, List.length_append, List.length_drop, Array.length_toList, hl1, hen]
        omega
      · rw [hfl, hsz]
        have hl : (flat enc xs ++ enc y).length = (xs ++ [y]).length * sz := by rw [List.length_append, flat_length hen, hen, List.length_append, Nat.add_mul]; simp
        rw [htk, ← hl]
        exact List.take_left
    · have hown : w.ownsRow b e sz (.slice (some ⟨b, 0, none⟩) xs.length cap) xs.length (flat enc xs) := ⟨flat_length hen xs, .inr ⟨b, cap, cur, rfl, Nat.le_refl _, hg, h2, h3, hs, htk⟩⟩
      have holds : ∀ j u, (flat enc xs)[j]? = some u → w.cell? ((⟨b, 0, none⟩ : Addr).add j) = some u := hown.cells (g := b) rfl
      have hr := run_append_grow (P := Try.prog) (w := w) t ty e i z ht hi hz ⟨b, 0, none⟩ xs.length cap (flat enc xs) (by rw [flat_length hen, hsz]) holds ⟨g, 0, none⟩ 1 c (enc y) (by rw [hen, hsz, Nat.one_mul]) hca (by omega) (by omega) (growslice_fits (by omega) hb1)
      refine ⟨_, _, hr, ?_⟩
      have := hout cap _ _ rfl rfl
      simpa using this

/-- What a copying append gives: the copy, in memory made now. -/
def Cpd {α : Type} (sz : Nat) (enc : α → List Value) (e : TypeId) (xs : List α) (base : Nat) (W E : World) (v' : Value) (w' : World) : Prop :=
  ∃ p c F, v' = .slice p xs.length c ∧ OwnB sz enc e w' (.slice p xs.length c) xs F ∧ (∀ x ∈ F, E.heap.size ≤ x) ∧ Below E.heap.size E w' ∧ Below base W w'
theorem copy_run {α : Type} {sz : Nat} {enc : α → List Value} (hen : ∀ x, (enc x).length = sz) (xs : List α) (t ty e : TypeId) (i : TypeInfo) (z : Value) (bytes : Nat) (ht : Try.prog.underlying t = some (.slice e)) (hi : Try.prog.info? e = some i) (hz : i.zero = some z) (hsz : i.size = sz) (hby : i.bytes = bytes) (hzc : z.cells.size = sz)
    (hbytes : xs.length * bytes ≤ 140737488355328) (h63 : xs.length ≤ 3000000) (base : Nat) (W E : World) (hE : Below base W E) (hbe : base ≤ E.heap.size) (G : Addr) (p : Option Addr) (cap B : Nat) (hs : Sl sz enc B E (.slice p xs.length cap) xs) :
    ∃ v' w', (Builtin.append_ #[t, t] ty #[.slice (some G) 0 0, .slice p xs.length cap]).run Try.prog E = .ok v' w' ∧ Cpd sz enc e xs base W E v' w' := by
  cases hx : xs with
  | nil =>
    subst hx
    refine ⟨.slice (some G) 0 0, E, ?_, some G, 0, [], rfl, ⟨_, _, rfl, Nat.le_refl _, Nat.zero_le _, .inl ⟨rfl, rfl, rfl⟩⟩, by simp, Below.refl _ _, hE⟩
    have hf : (Builtin.firstCells i.size 0 (.slice p 0 cap)).run Try.prog E = .ok #[] E := by
      cases p with
      | none => exact run_firstCells_none E i.size 0 0 cap
      | some a => exact run_firstCells_some E i.size 0 a 0 cap [] (by simp) (by simp)
    simp [Builtin.append_, run_underlying ht, sizeOf, typeInfo, hi, Builtin.lenOf, hf, storeCells]
  | cons x0 xs0 =>
    have hpos : 0 < xs.length := by rw [hx]; simp
    rw [← hx]
    clear hx
    obtain ⟨ad, rfl⟩ : ∃ ad, p = some ad := by
      cases p with
      | none => exact absurd hs.atNone (by omega)
      | some ad => exact ⟨ad, rfl⟩
    have hcells := Sl.cells hen hs ad rfl
    have hr := run_append_grow (P := Try.prog) E t ty e i z ht hi hz G 0 0 [] (by simp) (by simp) ad xs.length cap (flat enc xs) (by rw [flat_length hen, hsz]) hcells (by omega) (by omega)
      (by rw [Nat.zero_add, nextslicecap_zero hpos, hby]; omega)
    rw [Nat.zero_add] at hr
    obtain ⟨C, hC⟩ : ∃ C, C = grownCap E xs.length 0 e := ⟨_, rfl⟩
    have hCn : xs.length ≤ C := by rw [hC]; exact grownCap_ge E _ _ _
    have hCm : C ≤ maxLen := by rw [hC]; exact grownCap_le_maxLen E _ _ _ (by unfold maxLen; omega)
    rw [← hC] at hr
    refine ⟨_, _, hr, some ⟨E.heap.size, 0, none⟩, C, [E.heap.size], rfl, ⟨_, _, rfl, hCn, hCm, .inr ⟨E.heap.size, _, rfl, rfl, heap_alloc_new E.drew _, ?_, ?_⟩⟩, by simp, (Below.refl _ E).drew.alloc (Nat.le_refl _) _, hE.drew.alloc hbe _⟩
    · have hzs : z.cells.size = sz := hzc
      simp only [Array.size_append, List.size_toArray, List.length_nil, flat_length hen, size_zeroCells, hzs]
      have e1 : C = C - xs.length + xs.length := by omega
      have e2 : C * sz = (C - xs.length) * sz + xs.length * sz := by
        conv => lhs; rw [e1, Nat.add_mul]
      omega
    · have hl : (flat enc xs).length = xs.length * sz := flat_length hen xs
      simp only [Array.toList_append, List.nil_append]
      rw [← hl]
      exact List.take_left

theorem boxes_frozen {w wk : World} {x0 x1 y0 y1 : Value} {T T' : TypeId} (h : Below (w.heap.size + 2) ((w.alloc (.cells #[x0, x1] T)).alloc (.cells #[y0, y1] T')) wk) (o : Nat) : wk.frozen? ⟨w.heap.size + 1, o, none⟩ = false :=
  (h.frozen (p := ⟨w.heap.size + 1, o, none⟩) (by show w.heap.size + 1 < w.heap.size + 2; omega)).trans (World.frozen?_alloc_at _ _ _ _ (by simp))

/-- As Gr.Own, and the whole blocks are known. -/
def Gr.OwnB (g : Gr) (lo : Nat) (w : World) (v : Value) (F1 F2 : List Nat) : Prop :=
  ∃ a b, v = .agg #[a, b] ∧ Ytfdkmngkpihpbaa.OwnB 2 Nd.cells 141 w a g.ns F1 ∧ Ytfdkmngkpihpbaa.OwnB 4 Ed.cells 143 w b g.es F2 ∧ (∀ x ∈ F1, lo ≤ x) ∧ (∀ x ∈ F2, lo ≤ x) ∧ (∀ x ∈ F1, x ∉ F2)
theorem Gr.OwnB.own {g : Gr} {lo : Nat} {w : World} {v : Value} {F1 F2 : List Nat} (h : g.OwnB lo w v F1 F2) : g.Own lo w v F1 F2 := by
  obtain ⟨a, b, h1, h2, h3, h4⟩ := h
  exact ⟨a, b, h1, Ytfdkmngkpihpbaa.OwnB.own (enc := Nd.cells) (fun _ => rfl) h2, Ytfdkmngkpihpbaa.OwnB.own (enc := Ed.cells) (fun _ => rfl) h3, h4⟩
end Go.Proofs.Ytfdkmngkpihpbaa
