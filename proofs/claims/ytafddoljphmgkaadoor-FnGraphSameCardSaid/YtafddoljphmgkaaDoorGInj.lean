/- Valid graphs with the same text are the same. -/
import Derived.Test.YtafddoljphmgkaaDoorFG
import Derived.Test.YtafddoljphmgkaaDoorGSame
namespace Go.Proofs.YtafddoljphmgkaaDoor
open Go.RowKit

theorem cut_at {α : Type} {c : α} : ∀ {l l2 r r2 : List α}, c ∉ l → c ∉ l2 → l ++ c :: r = l2 ++ c :: r2 → l = l2 ∧ r = r2
  | [], [], _, _, _, _, h => ⟨rfl, (List.cons.inj h).2⟩
  | [], y :: l2, _, _, _, h2, h => absurd (by rw [List.nil_append, List.cons_append] at h; rw [(List.cons.inj h).1]; exact List.mem_cons_self) h2
  | x :: l, [], _, _, h1, _, h => absurd (by rw [List.nil_append, List.cons_append] at h; rw [← (List.cons.inj h).1]; exact List.mem_cons_self) h1
  | x :: l, y :: l2, _, _, h1, h2, h => by
    rw [List.cons_append, List.cons_append] at h
    obtain ⟨e1, e2⟩ := List.cons.inj h
    obtain ⟨e3, e4⟩ := cut_at (fun hm => h1 (List.mem_cons_of_mem _ hm)) (fun hm => h2 (List.mem_cons_of_mem _ hm)) e2
    exact ⟨by rw [e1, e3], e4⟩
def tl (s : ByteArray) : List UInt8 := s.data.toList
theorem tl_app (a b : ByteArray) : tl (a ++ b) = tl a ++ tl b := by unfold tl; rw [ByteArray.data_append, Array.toList_append]
theorem tl_inj {a b : ByteArray} (h : tl a = tl b) : a = b := by
  apply ByteArray.ext
  exact Array.toList_inj.1 h
def undec : List UInt8 → Nat
  | [a] => a.toNat - 48
  | [a, b] => 10 * (a.toNat - 48) + (b.toNat - 48)
  | _ => 0
theorem dec_list {n : Int} (h0 : 0 ≤ n) (h1 : n ≤ 99) : (undec (tl (dec n)) : Int) = n ∧ ∀ c ∈ tl (dec n), 48 ≤ c.toNat ∧ c.toNat ≤ 57 := by
  obtain ⟨k, rfl⟩ : ∃ k : Nat, n = k := ⟨n.toNat, by omega⟩
  have hk : k < 100 := by omega
  clear h0 h1
  unfold tl dec
  by_cases h : k < 10
  · rw [itoa_one k h]
    have : ∀ j : Nat, j < 10 → undec [UInt8.ofNat (48 + j)] = j ∧ ∀ c ∈ [UInt8.ofNat (48 + j)], 48 ≤ c.toNat ∧ c.toNat ≤ 57 := by decide
    exact ⟨by have := (this k h).1; show ((undec [UInt8.ofNat (48 + k)] : Nat) : Int) = k; omega, (this k h).2⟩
  · rw [itoa_two k (by omega) (by omega)]
    have : ∀ j : Nat, j < 100 → undec [UInt8.ofNat (48 + j / 10), UInt8.ofNat (48 + j % 10)] = j ∧ ∀ c ∈ [UInt8.ofNat (48 + j / 10), UInt8.ofNat (48 + j % 10)], 48 ≤ c.toNat ∧ c.toNat ≤ 57 := by decide
    exact ⟨by have := (this k hk).1; show ((undec [UInt8.ofNat (48 + k / 10), UInt8.ofNat (48 + k % 10)] : Nat) : Int) = k; omega, (this k hk).2⟩
theorem dec_no {n : Int} (h0 : 0 ≤ n) (h1 : n ≤ 99) (c : UInt8) (hc : c.toNat < 48 ∨ 57 < c.toNat) : c ∉ tl (dec n) := fun hm => by
  have := (dec_list h0 h1).2 c hm
  omega
theorem dec_inj {n m : Int} (h0 : 0 ≤ n) (h1 : n ≤ 99) (h2 : 0 ≤ m) (h3 : m ≤ 99) (h : tl (dec n) = tl (dec m)) : n = m := by
  rw [← (dec_list h0 h1).1, ← (dec_list h2 h3).1, h]
theorem label_no {s : ByteArray} {n : Int} (h : pv s n = true) (c : UInt8) (hc : isL c = false) : c ∉ tl s := fun hm => by
  unfold pv at h
  simp only [Bool.and_eq_true, Bool.or_eq_true, decide_eq_true_eq] at h
  rcases h.1 with h1 | h1
  · have e : s.data.toList.length = s.size := rfl
    have : tl s = [] := List.eq_nil_of_length_eq_zero (by unfold tl; omega)
    rw [this] at hm
    cases hm
  · unfold lv lvL at h1
    simp only [Bool.and_eq_true] at h1
    have := List.all_eq_true.1 h1.2 c hm
    rw [hc] at this
    cases this
def ndL (x : Nd) : List UInt8 := 40 :: (tl x.l ++ 32 :: (tl (dec x.n) ++ [41]))
def edL (x : Ed) : List UInt8 := 91 :: (tl (dec x.f) ++ 62 :: (tl (dec x.t) ++ 32 :: (tl x.l ++ 32 :: (tl (dec x.n) ++ [93]))))
theorem ndT_list (x : Nd) : tl (ndT x) = ndL x := by
  unfold ndT propT b1 ndL
  simp only [tl_app]
  simp [tl]
theorem edT_list (x : Ed) : tl (edT x) = edL x := by
  unfold edT propT b1 edL
  simp only [tl_app]
  simp [tl]
def nsL (xs : List Nd) : List UInt8 := (xs.map ndL).flatten
def esL (xs : List Ed) : List UInt8 := (xs.map edL).flatten
theorem nsT_list (xs : List Nd) : ∀ k, k ≤ xs.length → tl (nsT xs k) = nsL (xs.take k)
  | 0, _ => rfl
  | k + 1, h => by
    have hk : k < xs.length := by omega
    have ih := nsT_list xs k (by omega)
    unfold nsT
    rw [getD_nd _ hk, tl_app, ih, ndT_list, List.take_succ_eq_append_getElem hk]
    unfold nsL
    simp only [List.map_append, List.flatten_append, List.map_cons, List.map_nil, List.flatten_cons, List.flatten_nil, List.append_nil]
theorem esT_list (T0 : ByteArray) (xs : List Ed) : ∀ k, k ≤ xs.length → tl (esT T0 xs k) = tl T0 ++ esL (xs.take k)
  | 0, _ => by unfold esT; simp [esL]
  | k + 1, h => by
    have hk : k < xs.length := by omega
    have ih := esT_list T0 xs k (by omega)
    unfold esT
    rw [getD_ed _ hk, tl_app, ih, edT_list, List.take_succ_eq_append_getElem hk]
    unfold esL
    simp only [List.map_append, List.flatten_append, List.map_cons, List.map_nil, List.flatten_cons, List.flatten_nil, List.append_nil, List.append_assoc]
def okN (x : Nd) : Prop := pv x.l x.n = true
def okE (x : Ed) : Prop := pv x.l x.n = true ∧ (0 ≤ x.f ∧ x.f ≤ 99) ∧ (0 ≤ x.t ∧ x.t ≤ 99)
theorem ndL_inj {x y : Nd} {r r2 : List UInt8} (hx : okN x) (hy : okN y) (h : ndL x ++ r = ndL y ++ r2) : x = y ∧ r = r2 := by
  have sx := pv_small hx
  have sy := pv_small hy
  unfold ndL at h
  simp only [List.cons_append, List.append_assoc, List.nil_append, List.cons.injEq, true_and] at h
  obtain ⟨e1, h⟩ := cut_at (label_no hx 32 (by decide)) (label_no hy 32 (by decide)) h
  obtain ⟨e2, h⟩ := cut_at (dec_no sx.2.1 sx.2.2 41 (by decide)) (dec_no sy.2.1 sy.2.2 41 (by decide)) h
  have e3 := tl_inj e1
  have e4 := dec_inj sx.2.1 sx.2.2 sy.2.1 sy.2.2 e2
  refine ⟨?_, h⟩
  cases x; cases y
  simp only at e3 e4
  rw [e3, e4]
theorem edL_inj {x y : Ed} {r r2 : List UInt8} (hx : okE x) (hy : okE y) (h : edL x ++ r = edL y ++ r2) : x = y ∧ r = r2 := by
  have sx := pv_small hx.1
  have sy := pv_small hy.1
  unfold edL at h
  simp only [List.cons_append, List.append_assoc, List.nil_append, List.cons.injEq, true_and] at h
  obtain ⟨e1, h⟩ := cut_at (dec_no hx.2.1.1 hx.2.1.2 62 (by decide)) (dec_no hy.2.1.1 hy.2.1.2 62 (by decide)) h
  obtain ⟨e2, h⟩ := cut_at (dec_no hx.2.2.1 hx.2.2.2 32 (by decide)) (dec_no hy.2.2.1 hy.2.2.2 32 (by decide)) h
  obtain ⟨e3, h⟩ := cut_at (label_no hx.1 32 (by decide)) (label_no hy.1 32 (by decide)) h
  obtain ⟨e4, h⟩ := cut_at (dec_no sx.2.1 sx.2.2 93 (by decide)) (dec_no sy.2.1 sy.2.2 93 (by decide)) h
  have a1 := dec_inj hx.2.1.1 hx.2.1.2 hy.2.1.1 hy.2.1.2 e1
  have a2 := dec_inj hx.2.2.1 hx.2.2.2 hy.2.2.1 hy.2.2.2 e2
  have a3 := tl_inj e3
  have a4 := dec_inj sx.2.1 sx.2.2 sy.2.1 sy.2.2 e4
  refine ⟨?_, h⟩
  cases x; cases y
  simp only at a1 a2 a3 a4
  rw [a1, a2, a3, a4]
theorem esL_inj : ∀ {xs ys : List Ed}, (∀ x ∈ xs, okE x) → (∀ y ∈ ys, okE y) → esL xs = esL ys → xs = ys
  | [], [], _, _, _ => rfl
  | [], y :: ys, _, _, h => by simp [esL, edL] at h
  | x :: xs, [], _, _, h => by simp [esL, edL] at h
  | x :: xs, y :: ys, hx, hy, h => by
    have h' : edL x ++ esL xs = edL y ++ esL ys := by simpa [esL] using h
    obtain ⟨e1, e2⟩ := edL_inj (hx x List.mem_cons_self) (hy y List.mem_cons_self) h'
    rw [e1, esL_inj (fun z hz => hx z (List.mem_cons_of_mem _ hz)) (fun z hz => hy z (List.mem_cons_of_mem _ hz)) e2]
theorem esL_head (xs : List Ed) (r : List UInt8) : esL xs ≠ 40 :: r := by
  cases xs with
  | nil => simp [esL]
  | cons x xs => simp [esL, edL]
theorem nsL_inj {es fs : List Ed} : ∀ {xs ys : List Nd}, (∀ x ∈ xs, okN x) → (∀ y ∈ ys, okN y) → nsL xs ++ esL es = nsL ys ++ esL fs → xs = ys ∧ esL es = esL fs
  | [], [], _, _, h => ⟨rfl, by simpa [nsL] using h⟩
  | [], y :: ys, _, _, h => absurd (show esL es = 40 :: _ from by simpa [nsL, ndL] using h) (esL_head _ _)
  | x :: xs, [], _, _, h => absurd (show esL fs = 40 :: _ from by simpa [nsL, ndL] using h.symm) (esL_head _ _)
  | x :: xs, y :: ys, hx, hy, h => by
    have h' : ndL x ++ (nsL xs ++ esL es) = ndL y ++ (nsL ys ++ esL fs) := by simpa [nsL] using h
    obtain ⟨e1, e2⟩ := ndL_inj (hx x List.mem_cons_self) (hy y List.mem_cons_self) h'
    obtain ⟨e3, e4⟩ := nsL_inj (fun z hz => hx z (List.mem_cons_of_mem _ hz)) (fun z hz => hy z (List.mem_cons_of_mem _ hz)) e2
    exact ⟨by rw [e1, e3], e4⟩
theorem gv_ok {g : Gr} (h : gv g = true) : (∀ x ∈ g.ns, okN x) ∧ (∀ x ∈ g.es, okE x) := by
  have hp := gvf_parts h
  unfold gv at h
  simp only [Bool.and_eq_true, List.all_eq_true, decide_eq_true_eq] at h
  obtain ⟨⟨h1, h2, h3⟩, h4, h5⟩ := h
  refine ⟨fun x hx => h4 x hx, fun x hx => ?_⟩
  have h6 := h5 x hx
  have h7 := hp.2.2.2 x hx
  unfold edV at h6
  simp only [Bool.and_eq_true] at h6
  exact ⟨h6.2.2, h7.1, h7.2.1⟩
theorem fmtG_list {g : Gr} (h : gv g = true) : tl (fmtG g) = nsL g.ns ++ esL g.es := by
  have e : fmtG g = esT (nsT g.ns g.ns.length) g.es g.es.length := by unfold fmtG; rw [h]; rfl
  rw [e, esT_list _ _ _ (Nat.le_refl _), nsT_list _ _ (Nat.le_refl _), List.take_length, List.take_length]
theorem fmtG_inj {a b : Gr} (ha : gv a = true) (hb : gv b = true) (h : fmtG a = fmtG b) : a = b := by
  have h' : nsL a.ns ++ esL a.es = nsL b.ns ++ esL b.es := by rw [← fmtG_list ha, ← fmtG_list hb, h]
  have oa := gv_ok ha
  have ob := gv_ok hb
  obtain ⟨e1, e2⟩ := nsL_inj oa.1 ob.1 h'
  have e3 := esL_inj oa.2 ob.2 e2
  cases a; cases b
  simp only at e1 e3
  rw [e1, e3]
theorem str_eq {a b : ByteArray} (h : a.toList = b.toList) : a = b := tl_inj (by unfold tl; rw [← ByteArray.toList_eq, ← ByteArray.toList_eq, h])
theorem ndE_iff {x y : Nd} : ndE x y = true ↔ x = y := by
  constructor
  · intro h
    unfold ndE at h
    simp only [Bool.and_eq_true, beq_iff_eq] at h
    have e1 := str_eq h.1
    have e2 := h.2
    cases x; cases y
    simp only at e1 e2
    rw [e1, e2]
  · rintro rfl; simp [ndE]
theorem edE_iff {x y : Ed} : edE x y = true ↔ x = y := by
  constructor
  · intro h
    unfold edE at h
    simp only [Bool.and_eq_true, beq_iff_eq] at h
    obtain ⟨e1, e2, e3, e4⟩ := h
    have e3 := str_eq e3
    cases x; cases y
    simp only at e1 e2 e3 e4
    rw [e1, e2, e3, e4]
  · rintro rfl; simp [edE]
theorem eqL_iff {α : Type} {f : α → α → Bool} (hf : ∀ x y, f x y = true ↔ x = y) : ∀ {xs ys : List α}, eqL f xs ys = true ↔ xs = ys
  | [], [] => by simp [eqL]
  | [], y :: ys => by simp [eqL]
  | x :: xs, [] => by simp [eqL]
  | x :: xs, y :: ys => by
    unfold eqL
    rw [Bool.and_eq_true, hf, eqL_iff hf, List.cons.injEq]
theorem gs_iff {a b : Gr} : gs a b = true ↔ a = b := by
  unfold gs
  rw [Bool.and_eq_true, eqL_iff (fun _ _ => ndE_iff), eqL_iff (fun _ _ => edE_iff)]
  cases a; cases b
  simp
theorem gs_sym (a b : Gr) : gs b a = gs a b := by
  rw [Bool.eq_iff_iff, gs_iff, gs_iff]
  exact ⟨fun h => h.symm, fun h => h.symm⟩
theorem gs_text {a b : Gr} (ha : gv a = true) (hb : gv b = true) : gs a b = ((fmtG a).toList == (fmtG b).toList) := by
  rw [Bool.eq_iff_iff, gs_iff, beq_iff_eq]
  exact ⟨fun h => by rw [h], fun h => fmtG_inj ha hb (str_eq h)⟩
end Go.Proofs.YtafddoljphmgkaaDoor
