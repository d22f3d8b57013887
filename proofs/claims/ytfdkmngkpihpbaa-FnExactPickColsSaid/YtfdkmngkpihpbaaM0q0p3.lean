/- Lemmas on the data and the memory of this program's values: several texts in one. -/
import Derived.Test.YtfdkmngkpihpbaaM0q0p2
import Derived.Deep.RegionHeld3
import Derived.Deep.DeepCutAuto
import Derived.Test.YtfdkmngkpihpbaaRows
import Derived.ProofKit
namespace Go.Proofs.Ytfdkmngkpihpbaa
open Go.RowKit

theorem eqL_int : ∀ xs ys : List Int, eqL intE xs ys = decide (xs = ys)
  | [], [] => by simp [eqL]
  | [], _ :: _ => by simp [eqL]
  | _ :: _, [] => by simp [eqL]
  | x :: xs, y :: ys => by
    have h := eqL_int xs ys
    by_cases hx : x = y <;> simp [eqL, intE, h, hx]
theorem wkEq_iff {a b : Wk} : wkEq a b = true ↔ a = b := by
  obtain ⟨n, e⟩ := a
  obtain ⟨n', e'⟩ := b
  simp [wkEq, eqL_int]
theorem wkEq_refl (a : Wk) : wkEq a a = true := wkEq_iff.2 rfl
theorem wkEq_symm (a b : Wk) : wkEq a b = wkEq b a := by
  rw [Bool.eq_iff_iff, wkEq_iff, wkEq_iff]; exact eq_comm

theorem wkTurn_turn (x : Wk) : wkTurn (wkTurn x) = x := by simp [wkTurn]
theorem wkTurn_need (x : Wk) : (wkTurn x).need = x.need := by simp [wkTurn, Wk.need]
theorem wkShape_turn (x : Wk) : wkShape (wkTurn x) = wkShape x := by simp [wkShape, wkTurn]
theorem onceB_iff {xs : List Int} : onceB xs = true ↔ xs.Nodup := by simp [onceB]
theorem onceB_rev (xs : List Int) : onceB xs.reverse = onceB xs := by
  rw [Bool.eq_iff_iff, onceB_iff, onceB_iff]
  show xs.reverse.Pairwise _ ↔ xs.Pairwise _
  rw [List.pairwise_reverse]
  exact ⟨fun h => h.imp fun h => Ne.symm h, fun h => h.imp fun h => Ne.symm h⟩
theorem onceB_sub {xs ys : List Int} (h : ys.Sublist xs) (hx : onceB xs = true) : onceB ys = true := onceB_iff.2 ((onceB_iff.1 hx).sublist h)
theorem wkMode_turn (x : Wk) (m : Int) : wkMode (wkTurn x) m = wkMode x m := by
  unfold wkMode
  rw [wkShape_turn]
  cases hs : wkShape x with
  | false => rfl
  | true =>
    obtain ⟨h1, h2⟩ := wkShape_iff.1 hs
    have e1 : x.ns.reverse.drop 1 = (x.ns.take x.es.length).reverse := by rw [List.drop_reverse, h1]; rfl
    have e2 : x.ns.reverse.take x.es.reverse.length = (x.ns.drop 1).reverse := by
      rw [List.take_reverse, List.length_reverse, h1]
      congr 2
      omega
    unfold modeB
    simp only [wkTurn]
    rw [e1, e2, onceB_rev, onceB_rev, onceB_rev, onceB_rev, Bool.and_comm (onceB (x.ns.take x.es.length))]

theorem wkMode_iff {x : Wk} {m : Int} : wkMode x m = true ↔ wkShape x = true ∧ modeB x m = true := by simp [wkMode]
theorem acyclic_simple {x : Wk} (h : wkMode x 3 = true) : wkMode x 4 = true := by
  rw [wkMode_iff] at *
  refine ⟨h.1, ?_⟩
  have h3 : onceB x.ns = true := by simpa [modeB] using h.2
  have e4 : modeB x 4 = (onceB (x.ns.drop 1) && onceB (x.ns.take x.es.length)) := by simp [modeB]
  rw [e4, onceB_sub (List.drop_sublist 1 x.ns) h3, onceB_sub (List.take_sublist x.es.length x.ns) h3]; rfl
theorem simple_walk {x : Wk} (h : wkMode x 4 = true) : wkMode x 1 = true := by
  rw [wkMode_iff] at *
  exact ⟨h.1, by simp [modeB]⟩
theorem simple_closed {x : Wk} (h4 : wkMode x 4 = true) (h3 : wkMode x 3 = false) (h0 : 0 < x.ns.length) (h1 : x.ns.length - 1 < x.ns.length) : x.ns[0] = x.ns[x.ns.length - 1] := by
  rw [wkMode_iff] at h4
  have e := simple_iff h4.1 h0 h1
  have h4' := h4.2
  have h3' : onceB x.ns = false := by
    cases h : onceB x.ns with
    | false => rfl
    | true =>
      have hm : wkMode x 3 = true := wkMode_iff.2 ⟨h4.1, by simp [modeB, h]⟩
      rw [h3] at hm; cases hm
  have e4 : modeB x 4 = (onceB (x.ns.drop 1) && onceB (x.ns.take x.es.length)) := by simp [modeB]
  rw [e4, e] at h4'
  by_cases hc : 1 < x.ns.length ∧ x.ns[0] = x.ns[x.ns.length - 1]
  · exact hc.2
  · rw [if_neg hc, h3'] at h4'; cases h4'

theorem cmpL_swap : ∀ xs ys : List Int, cmpL ys xs = - cmpL xs ys
  | [], [] => rfl
  | [], _ :: _ => rfl
  | _ :: _, [] => rfl
  | x :: xs, y :: ys => by
    have h := cmpL_swap xs ys
    unfold cmpL
    by_cases h1 : x < y
    · rw [if_neg (by omega), if_pos h1, if_pos h1]; rfl
    · by_cases h2 : y < x
      · rw [if_pos h2, if_neg h1, if_pos h2]
      · rw [if_neg h2, if_neg h1, if_neg h1, if_neg h2, h]
theorem cmpL_zero : ∀ {xs ys : List Int}, cmpL xs ys = 0 ↔ xs = ys
  | [], [] => by simp [cmpL]
  | [], _ :: _ => by simp [cmpL]
  | _ :: _, [] => by simp [cmpL]
  | x :: xs, y :: ys => by
    have h := cmpL_zero (xs := xs) (ys := ys)
    unfold cmpL
    by_cases h1 : x < y
    · rw [if_pos h1]; simp; intro e; omega
    · by_cases h2 : y < x
      · rw [if_neg h1, if_pos h2]; simp; intro e; omega
      · rw [if_neg h1, if_neg h2, h]
        have : x = y := by omega
        simp [this]
theorem cmpL_trans : ∀ {xs ys zs : List Int}, cmpL xs ys < 0 → cmpL ys zs < 0 → cmpL xs zs < 0
  | [], [], _, h, _ => by simp [cmpL] at h
  | _ :: _, [], _, h, _ => by simp [cmpL] at h
  | [], _ :: _, [], _, h => by simp [cmpL] at h
  | [], _ :: _, _ :: _, _, _ => by simp [cmpL]
  | _ :: _, _ :: _, [], _, h => by simp [cmpL] at h
  | x :: xs, y :: ys, z :: zs, h, h' => by
    unfold cmpL at h h' ⊢
    by_cases a1 : x < y
    · by_cases b1 : y < z
      · rw [if_pos (by omega)]; omega
      · rw [if_neg b1] at h'
        by_cases b2 : z < y
        · rw [if_pos b2] at h'; omega
        · rw [if_pos (by omega)]; omega
    · rw [if_neg a1] at h
      by_cases a2 : y < x
      · rw [if_pos a2] at h; omega
      · rw [if_neg a2] at h
        by_cases b1 : y < z
        · rw [if_pos (by omega)]; omega
        · rw [if_neg b1] at h'
          by_cases b2 : z < y
          · rw [if_pos b2] at h'; omega
          · rw [if_neg b2] at h'
            rw [if_neg (by omega), if_neg (by omega)]
            exact cmpL_trans h h'
theorem cmpI_cases (a b : Int) : (a < b ∧ cmpI a b = -1) ∨ (b < a ∧ cmpI a b = 1) ∨ (a = b ∧ cmpI a b = 0) := by
  unfold cmpI
  by_cases h : a < b
  · exact .inl ⟨h, if_pos h⟩
  · by_cases h' : b < a
    · exact .inr (.inl ⟨h', by rw [if_neg h, if_pos h']⟩)
    · exact .inr (.inr ⟨by omega, by rw [if_neg h, if_neg h']⟩)
/-- What being in front of means. -/
theorem wkBefore_iff {a b : Wk} : wkBefore a b = true ↔ a.es.length < b.es.length ∨ a.es.length = b.es.length ∧ (cmpL a.ns b.ns < 0 ∨ a.ns = b.ns ∧ cmpL a.es b.es < 0) := by
  unfold wkBefore cmpW
  rw [decide_eq_true_iff]
  rcases cmpI_cases a.es.length b.es.length with ⟨h, e⟩ | ⟨h, e⟩ | ⟨h, e⟩
  · rw [e, if_pos (by decide)]; constructor
    · intro _; left; omega
    · intro _; decide
  · rw [e, if_pos (by decide)]; constructor
    · intro h'; exact absurd h' (by decide)
    · intro h'; omega
  · rw [e, if_neg (by decide)]
    have hl : a.es.length = b.es.length := by omega
    by_cases hz : cmpL a.ns b.ns = 0
    · rw [if_neg (by rw [hz]; decide), hz]
      have := cmpL_zero.1 hz
      simp [hl, this]
    · rw [if_pos hz]
      have : a.ns ≠ b.ns := fun e => hz (cmpL_zero.2 e)
      simp [hl, this]
theorem wkBefore_asymm {a b : Wk} (h : wkBefore a b = true) : wkBefore b a = false := by
  rw [Bool.eq_false_iff]
  intro h'
  rw [wkBefore_iff] at h h'
  have s1 := cmpL_swap a.ns b.ns
  have s2 := cmpL_swap a.es b.es
  rcases h with h | ⟨h, h | ⟨h1, h2⟩⟩
  · rcases h' with h' | ⟨h', _⟩ <;> omega
  · rcases h' with h' | ⟨h', h' | ⟨h1', h2'⟩⟩
    · omega
    · omega
    · rw [cmpL_zero.2 h1'.symm] at h; omega
  · rcases h' with h' | ⟨h', h' | ⟨h1', h2'⟩⟩
    · omega
    · rw [cmpL_zero.2 h1.symm] at h'; omega
    · omega
theorem wkBefore_total (a b : Wk) : (wkBefore a b || wkBefore b a) = !wkEq a b := by
  cases he : wkEq a b with
  | true =>
    have := wkEq_iff.1 he
    subst this
    cases h : wkBefore a a with
    | false => rfl
    | true => exact absurd (wkBefore_asymm h) (by rw [h]; simp)
  | false =>
    have hne : a ≠ b := fun e => by rw [wkEq_iff.2 e] at he; cases he
    rw [Bool.not_false, Bool.or_eq_true, wkBefore_iff, wkBefore_iff]
    have s1 := cmpL_swap a.ns b.ns
    have s2 := cmpL_swap a.es b.es
    rcases cmpL_cases a.ns b.ns with c1 | c1 | c1
    · omega
    · have e1 := cmpL_zero.1 c1
      rcases cmpL_cases a.es b.es with c2 | c2 | c2
      · have : cmpL a.es b.es < 0 := by omega
        by_cases hl : a.es.length = b.es.length
        · exact .inl (.inr ⟨hl, .inr ⟨e1, this⟩⟩)
        · omega
      · have e2 := cmpL_zero.1 c2
        exfalso; apply hne
        obtain ⟨n, e⟩ := a
        obtain ⟨n', e'⟩ := b
        simp only at e1 e2
        rw [e1, e2]
      · have : cmpL b.es a.es < 0 := by omega
        by_cases hl : a.es.length = b.es.length
        · exact .inr (.inr ⟨hl.symm, .inr ⟨e1.symm, this⟩⟩)
        · omega
    · omega
theorem wkBefore_trans {a b c : Wk} (h : wkBefore a b = true) (h' : wkBefore b c = true) : wkBefore a c = true := by
  rw [wkBefore_iff] at *
  rcases h with h | ⟨h, h1 | ⟨h1, h2⟩⟩
  · rcases h' with h' | ⟨h', _⟩ <;> (left; omega)
  · rcases h' with h' | ⟨h', h1' | ⟨h1', h2'⟩⟩
    · left; omega
    · exact .inr ⟨by omega, .inl (cmpL_trans h1 h1')⟩
    · exact .inr ⟨by omega, .inl (by rw [← h1']; exact h1)⟩
  · rcases h' with h' | ⟨h', h1' | ⟨h1', h2'⟩⟩
    · left; omega
    · exact .inr ⟨by omega, .inl (by rw [h1]; exact h1')⟩
    · exact .inr ⟨by omega, .inr ⟨h1.trans h1', cmpL_trans h2 h2'⟩⟩

theorem joinOk_iff {a b : Wk} : joinOk a b = true ↔ wkShape a = true ∧ wkShape b = true ∧ a.ns.getLast? = b.ns.head? ∧ a.es.length + b.es.length ≤ 8 := by
  simp [joinOk, and_assoc]
/-- What a join that can be made is made of. -/
theorem join_parts {a b : Wk} (h : joinOk a b = true) : ∃ (xs ys : List Int) (z : Int), a.ns = xs ++ [z] ∧ b.ns = z :: ys ∧ xs.length = a.es.length ∧ ys.length = b.es.length ∧ a.es.length + b.es.length ≤ 8 := by
  obtain ⟨h1, h2, h3, h4⟩ := joinOk_iff.1 h
  obtain ⟨h5, _⟩ := wkShape_iff.1 h1
  obtain ⟨h6, _⟩ := wkShape_iff.1 h2
  cases hb : b.ns with
  | nil => rw [hb] at h6; simp at h6
  | cons z ys =>
    rw [hb] at h3 h6
    simp only [List.head?_cons] at h3
    obtain ⟨xs, hx⟩ := List.getLast?_eq_some_iff.1 h3
    rw [hx] at h5
    simp at h5 h6
    exact ⟨xs, ys, z, hx, rfl, h5, h6, h4⟩
theorem join_of {a b : Wk} {xs ys : List Int} {z : Int} (ha : a.ns = xs ++ [z]) (hb : b.ns = z :: ys) (h1 : xs.length = a.es.length) (h2 : ys.length = b.es.length) (h3 : a.es.length + b.es.length ≤ 8) :
    joinOk a b = true ∧ wkJoin a b = ⟨xs ++ z :: ys, a.es ++ b.es⟩ := by
  have h : joinOk a b = true := by
    refine joinOk_iff.2 ⟨wkShape_iff.2 ⟨by rw [ha]; simp; omega, by omega⟩, wkShape_iff.2 ⟨by rw [hb]; simp; omega, by omega⟩, ?_, h3⟩
    rw [ha, hb]; simp
  refine ⟨h, ?_⟩
  unfold wkJoin
  rw [if_pos h, ha, hb]; simp
theorem join_turn {a b : Wk} (h : joinOk a b = true) : joinOk (wkTurn b) (wkTurn a) = true ∧ wkJoin (wkTurn b) (wkTurn a) = wkTurn (wkJoin a b) := by
  obtain ⟨xs, ys, z, ha, hb, h1, h2, h3⟩ := join_parts h
  have e := (join_of ha hb h1 h2 h3).2
  have := join_of (a := wkTurn b) (b := wkTurn a) (xs := ys.reverse) (ys := xs.reverse) (z := z) (by simp [wkTurn, hb]) (by simp [wkTurn, ha]) (by simp [wkTurn, h2]) (by simp [wkTurn, h1]) (by simp [wkTurn]; omega)
  refine ⟨this.1, ?_⟩
  rw [this.2, e]
  simp [wkTurn]
theorem join_len {a b : Wk} (h : joinOk a b = true) : (wkJoin a b).es.length = a.es.length + b.es.length ∧ (wkJoin a b).ns.length = a.es.length + b.es.length + 1 := by
  obtain ⟨xs, ys, z, ha, hb, h1, h2, h3⟩ := join_parts h
  rw [(join_of ha hb h1 h2 h3).2]
  simp; omega
theorem join_first {a b : Wk} (h : joinOk a b = true) (h0 : 0 < (wkJoin a b).ns.length) (h1 : 0 < a.ns.length) : (wkJoin a b).ns[0] = a.ns[0] := by
  obtain ⟨xs, ys, z, ha, hb, g1, g2, g3⟩ := join_parts h
  have e : (wkJoin a b).ns = a.ns ++ ys := by rw [(join_of ha hb g1 g2 g3).2, ha]; simp
  simp only [e, List.getElem_append_left h1]
theorem join_assoc {a b c : Wk} (h : joinOk a b = true) (h' : joinOk (wkJoin a b) c = true) : joinOk b c = true ∧ joinOk a (wkJoin b c) = true ∧ wkJoin (wkJoin a b) c = wkJoin a (wkJoin b c) := by
  obtain ⟨xs, ys, z, ha, hb, h1, h2, h3⟩ := join_parts h
  have e := (join_of ha hb h1 h2 h3).2
  rw [e] at h' ⊢
  obtain ⟨us, vs, t, hu, hv, g1, g2, g3⟩ := join_parts h'
  simp only at hu g1 g3
  simp only [List.length_append] at g1 g3
  have ht : ∃ ws, b.ns = ws ++ [t] ∧ us = xs ++ ws.drop 0 ∧ ws.length = b.es.length := by
    have hl : (xs ++ z :: ys).getLast? = some t := by rw [hu]; simp
    have hl' : (z :: ys).getLast? = some t := by simpa using hl
    obtain ⟨ws, hw⟩ := List.getLast?_eq_some_iff.1 hl'
    refine ⟨ws, by rw [hb, hw], ?_, ?_⟩
    · rw [hw, ← List.append_assoc] at hu
      have := List.append_inj_left' hu rfl
      simp [this]
    · have := congrArg List.length hw
      simp at this; omega
  obtain ⟨ws, hw, hus, hwl⟩ := ht
  simp only [List.drop_zero] at hus
  have j1 := join_of hw hv hwl g2 (by omega)
  have e2 : (wkJoin b c).ns = z :: (ys ++ vs) := by
    rw [j1.2]
    have : ws ++ [t] = z :: ys := by rw [← hw, hb]
    show ws ++ t :: vs = z :: (ys ++ vs)
    rw [show ws ++ t :: vs = (ws ++ [t]) ++ vs by simp, this]; rfl
  have e3 : (wkJoin b c).es = b.es ++ c.es := by rw [j1.2]
  have j2 := join_of (a := a) (b := wkJoin b c) ha e2 h1 (by rw [e3]; simp; omega) (by rw [e3]; simp; omega)
  have j3 := join_of (a := ⟨xs ++ z :: ys, a.es ++ b.es⟩) (b := c) hu hv (by simp; omega) g2 (by simp; omega)
  refine ⟨j1.1, j2.1, ?_⟩
  rw [j3.2, j2.2, e3]
  have : us ++ t :: vs = xs ++ z :: (ys ++ vs) := by
    have hu' : xs ++ z :: ys = us ++ [t] := hu
    rw [show us ++ t :: vs = (us ++ [t]) ++ vs by simp, ← hu']; simp
  rw [this, List.append_assoc]
theorem join_one_right {a b : Wk} (h : joinOk a b = true) (h0 : 0 < b.ns.length) : joinOk a ⟨[b.ns[0]], []⟩ = true ∧ wkJoin a ⟨[b.ns[0]], []⟩ = a := by
  obtain ⟨xs, ys, z, ha, hb, h1, h2, h3⟩ := join_parts h
  have hz : b.ns[0] = z := by simp [hb]
  have := join_of (a := a) (b := ⟨[b.ns[0]], []⟩) (xs := xs) (ys := []) (z := z) ha (by simp [hz]) h1 rfl (by simp; omega)
  refine ⟨this.1, ?_⟩
  rw [this.2]
  obtain ⟨n, e⟩ := a
  simp only at ha
  simp [ha]
theorem join_one_left {a b : Wk} (h : joinOk a b = true) (h0 : 0 < b.ns.length) : joinOk ⟨[b.ns[0]], []⟩ b = true ∧ wkJoin ⟨[b.ns[0]], []⟩ b = b := by
  obtain ⟨xs, ys, z, ha, hb, h1, h2, h3⟩ := join_parts h
  have hz : b.ns[0] = z := by simp [hb]
  have := join_of (a := ⟨[b.ns[0]], []⟩) (b := b) (xs := []) (ys := ys) (z := z) (by simp [hz]) hb rfl h2 (by simp; omega)
  refine ⟨this.1, ?_⟩
  rw [this.2]
  obtain ⟨n, e⟩ := b
  simp only at hb
  simp [hb]

/-- The two parts of a walk at a node. -/
def partA (x : Wk) (k : Nat) : Wk := ⟨x.ns.take (k + 1), x.es.take k⟩
def partB (x : Wk) (k : Nat) : Wk := ⟨x.ns.drop k, x.es.drop k⟩
theorem part_shapes {x : Wk} {k : Nat} (h : wkShape x = true) (hk : k < x.ns.length) : wkShape (partA x k) = true ∧ wkShape (partB x k) = true := by
  obtain ⟨h1, h2⟩ := wkShape_iff.1 h
  constructor
  · exact wkShape_iff.2 ⟨by simp [partA]; omega, by simp [partA]; omega⟩
  · exact wkShape_iff.2 ⟨by simp [partB]; omega, by simp [partB]; omega⟩
theorem part_modes {x : Wk} {k : Nat} {m : Int} (h : wkMode x m = true) (hk : k < x.ns.length) : wkMode (partA x k) m = true ∧ wkMode (partB x k) m = true := by
  rw [wkMode_iff] at h
  obtain ⟨hs, hm⟩ := h
  obtain ⟨h1, h2⟩ := wkShape_iff.1 hs
  have hp := part_shapes hs hk
  rw [wkMode_iff, wkMode_iff]
  refine ⟨⟨hp.1, ?_⟩, ⟨hp.2, ?_⟩⟩
  all_goals
    unfold modeB at hm ⊢
    by_cases m1 : m = 1
    · rw [if_pos m1]
    rw [if_neg m1] at hm ⊢
    by_cases m2 : m = 2
    · rw [if_pos m2] at hm ⊢
      first
        | exact onceB_sub (List.take_sublist _ _) hm
        | exact onceB_sub (List.drop_sublist _ _) hm
    rw [if_neg m2] at hm ⊢
    by_cases m3 : m = 3
    · rw [if_pos m3] at hm ⊢
      first
        | exact onceB_sub (List.take_sublist _ _) hm
        | exact onceB_sub (List.drop_sublist _ _) hm
    rw [if_neg m3] at hm ⊢
    by_cases m4 : m = 4
    · rw [if_pos m4, Bool.and_eq_true] at hm ⊢
      first
        | (refine ⟨onceB_sub ?_ hm.1, onceB_sub ?_ hm.2⟩
           · show ((x.ns.take (k + 1)).drop 1).Sublist (x.ns.drop 1)
             exact (List.take_sublist _ _).drop _
           · show ((x.ns.take (k + 1)).take (x.es.take k).length).Sublist (x.ns.take x.es.length)
             rw [List.take_take]
             exact List.take_sublist_take_left (by simp; omega))
        | (refine ⟨onceB_sub ?_ hm.1, onceB_sub ?_ hm.2⟩
           · show ((x.ns.drop k).drop 1).Sublist (x.ns.drop 1)
             exact (List.drop_sublist _ _).drop _
           · show ((x.ns.drop k).take (x.es.drop k).length).Sublist (x.ns.take x.es.length)
             rw [show (x.ns.drop k).take (x.es.drop k).length = (x.ns.take x.es.length).drop k by rw [List.drop_take, List.length_drop]]
             exact List.drop_sublist _ _)
    · rw [if_neg m4] at hm; cases hm
theorem part_join {x : Wk} {k : Nat} (h : wkShape x = true) (hk : k < x.ns.length) : joinOk (partA x k) (partB x k) = true ∧ wkJoin (partA x k) (partB x k) = x := by
  obtain ⟨h1, h2⟩ := wkShape_iff.1 h
  have := join_of (a := partA x k) (b := partB x k) (xs := x.ns.take k) (ys := x.ns.drop (k + 1)) (z := x.ns[k]) (by simp [partA]) (by simp [partB]) (by simp [partA]; omega) (by simp [partB]; omega) (by simp [partA, partB]; omega)
  refine ⟨this.1, ?_⟩
  rw [this.2]
  obtain ⟨n, e⟩ := x
  simp [partA, partB]
end Go.Proofs.Ytfdkmngkpihpbaa
namespace Go.Proofs.Ytfdkmngkpihpbaa
open Go

section
variable {P : Program} {ops : Array Oper} {Q : Exit → Act → World → Prop} {md : Region.Mode} {S : World → Prop}
/-- As wpAnyH_take; the operation is read off the list. -/
theorem takeL {i : Nat} {oi : Oper} {v : Value} {fuel : Nat} {listed : Array Bool} {a : Act} {w : World} (hi : ops.toList[i]? = some oi)
    (hs : Region.noSelect ops = true) (hf : Region.free md ops listed i = true) (hr : (Region.ready md ops listed).contains i = true)
    (hQ : ∀ c a w, Q (.panic c) (a.put oi.dst v) w → Q (.panic c) a w) (hy : YieldsIf P ops S oi v a) (hS : S w)
    (h : wpAnyH P md ops Q S fuel (listed.setIfInBounds i true) (a.put oi.dst v) w) : wpAnyH P md ops Q S (fuel + 1) listed a w :=
  wpAnyH_take (by simpa using hi) hs hf hr hQ hy hS h
/-- The one operation that may come up: a call. -/
theorem callL {i : Nat} {oi : Oper} {fuel : Nat} {listed : Array Bool} {a : Act} {w : World} (hi : ops.toList[i]? = some oi) (hr : Region.ready md ops listed = [i]) (hw : Region.wanted oi (yielded ops a.tmps) = true)
    (h : ∀ K' : Act → World → Prop, Shut (∀ a w, S w → (S w → wpAnyH P md ops Q S fuel (listed.setIfInBounds i true) a w) → K' a w) → Oper.wp P oi a w K' Q) : wpAnyH P md ops Q S (fuel + 1) listed a w :=
  wpAnyH_ready hr (by simp) (AllReadyH.cons (by simpa using hi) (fun K hK => by rw [if_pos hw]; exact h K hK) AllReadyH.nil)
/-- Two operations that may come up. -/
theorem twoL {i j : Nat} {oi oj : Oper} {fuel : Nat} {listed : Array Bool} {a : Act} {w : World} (hi : ops.toList[i]? = some oi) (hj : ops.toList[j]? = some oj) (hr : Region.ready md ops listed = [i, j]) (hw : Region.wanted oi (yielded ops a.tmps) = true) (hw2 : Region.wanted oj (yielded ops a.tmps) = true)
    (h : ∀ K' : Act → World → Prop, Shut (∀ a w, S w → (S w → wpAnyH P md ops Q S fuel (listed.setIfInBounds i true) a w) → K' a w) → Oper.wp P oi a w K' Q)
    (h2 : ∀ K' : Act → World → Prop, Shut (∀ a w, S w → (S w → wpAnyH P md ops Q S fuel (listed.setIfInBounds j true) a w) → K' a w) → Oper.wp P oj a w K' Q) : wpAnyH P md ops Q S (fuel + 1) listed a w :=
  wpAnyH_ready hr (by simp) (AllReadyH.cons (by simpa using hi) (fun K hK => by rw [if_pos hw]; exact h K hK) (AllReadyH.cons (by simpa using hj) (fun K hK => by rw [if_pos hw2]; exact h2 K hK) AllReadyH.nil))
end
end Go.Proofs.Ytfdkmngkpihpbaa
namespace Go.Proofs.Ytfdkmngkpihpbaa
theorem Try.own : ownKnob Try.prog.godebug = none := by kernel_rfl
theorem Try.laidOut : laidOutB Try.prog = true := by kernel_rfl
end Go.Proofs.Ytfdkmngkpihpbaa
