/- Two trees that are walked pair by pair: what is held at each step; no program. -/
import Derived.Test.YtggpnnoldjpmcaaPairs
namespace Go.Proofs.Ytggpnnoldjpmcaa
open Go.RowKit

/-- Trees: the parts of a node, whether two nodes agree but for their parts, how many nodes there are. -/
structure Tr (α : Type) where
  kids : α → List α
  top : α → α → Bool
  sz : α → Nat
  hsz : ∀ a, 1 + ((kids a).map sz).sum ≤ sz a
  ext : ∀ a b, top a b = true → kids a = kids b → a = b
  refl : ∀ a, top a a = true
structure Pr (α : Type) where
  p : Addr
  q : Addr
  a : α
  b : α
def Pr.pa {α : Type} (r : Pr α) : Pa := (r.p, r.q)
variable {α : Type}
theorem Tr.kid_lt (T : Tr α) {a x : α} (h : x ∈ T.kids a) : T.sz x < T.sz a := by
  have key : ∀ l : List α, x ∈ l → T.sz x ≤ (l.map T.sz).sum := by
    intro l
    induction l with
    | nil => intro h; simp at h
    | cons y l ih =>
      intro h
      rcases List.mem_cons.1 h with rfl | h
      · simp
      · have := ih h; simp; omega
  have := key _ h; have := T.hsz a; omega
/-- What is held: W are the pairs to look at, S those that have been looked at. -/
structure TInv (T : Tr α) (a0 b0 : α) (W S : List (Pr α)) : Prop where
  eq : a0 = b0 → ∀ r, r ∈ W ∨ r ∈ S → r.a = r.b
  has : ∃ r, (r ∈ W ∨ r ∈ S) ∧ r.a = a0 ∧ r.b = b0
  cl : ∀ r ∈ S, T.top r.a r.b = true ∧ (T.kids r.a).length = (T.kids r.b).length ∧ ∀ (i : Nat) (h : i < (T.kids r.a).length) (h' : i < (T.kids r.b).length), ∃ s, (s ∈ W ∨ s ∈ S) ∧ s.a = (T.kids r.a)[i] ∧ s.b = (T.kids r.b)[i]
theorem TInv.start (T : Tr α) (p q : Addr) (a0 b0 : α) : TInv T a0 b0 [⟨p, q, a0, b0⟩] [] :=
  ⟨fun h r hr => by simp at hr; subst hr; exact h, ⟨⟨p, q, a0, b0⟩, by simp, rfl, rfl⟩, fun r hr => by simp at hr⟩
theorem TInv.skip {T : Tr α} {a0 b0 : α} {W S : List (Pr α)} {r s : Pr α} (h : TInv T a0 b0 (W ++ [r]) S) (hs : s ∈ S) (h1 : s.a = r.a) (h2 : s.b = r.b) : TInv T a0 b0 W S := by
  have mv : ∀ x, (x ∈ W ++ [r] ∨ x ∈ S) → ∃ y, (y ∈ W ∨ y ∈ S) ∧ y.a = x.a ∧ y.b = x.b := by
    intro x hx
    rcases hx with hx | hx
    · rcases List.mem_append.1 hx with hx | hx
      · exact ⟨x, .inl hx, rfl, rfl⟩
      · simp at hx; subst hx; exact ⟨s, .inr hs, h1, h2⟩
    · exact ⟨x, .inr hx, rfl, rfl⟩
  refine ⟨fun he x hx => h.eq he x (by rcases hx with hx | hx; exact .inl (by simp [hx]); exact .inr hx), ?_, fun x hx => ?_⟩
  · obtain ⟨x, hx, e1, e2⟩ := h.has
    obtain ⟨y, hy, e3, e4⟩ := mv x hx
    exact ⟨y, hy, e3.trans e1, e4.trans e2⟩
  · obtain ⟨g1, g2, g3⟩ := h.cl x hx
    refine ⟨g1, g2, fun i hi hi' => ?_⟩
    obtain ⟨z, hz, e1, e2⟩ := g3 i hi hi'
    obtain ⟨y, hy, e3, e4⟩ := mv z hz
    exact ⟨y, hy, e3.trans e1, e4.trans e2⟩
theorem TInv.differ {T : Tr α} {a0 b0 : α} {W S : List (Pr α)} {r : Pr α} (h : TInv T a0 b0 (W ++ [r]) S) (hd : T.top r.a r.b = false ∨ (T.kids r.a).length ≠ (T.kids r.b).length) : a0 ≠ b0 := by
  intro he
  have := h.eq he r (.inl (by simp))
  rw [this] at hd
  rcases hd with hd | hd
  · rw [T.refl] at hd; cases hd
  · exact hd rfl
/-- The parts' pairs: N are they, in their order. -/
def KidPairs (T : Tr α) (r : Pr α) (N : List (Pr α)) : Prop := N.length = (T.kids r.a).length ∧ ∀ (i : Nat) (h : i < N.length), (T.kids r.a)[i]? = some N[i].a ∧ (T.kids r.b)[i]? = some N[i].b
theorem TInv.push {T : Tr α} {a0 b0 : α} {W S N : List (Pr α)} {r : Pr α} (h : TInv T a0 b0 (W ++ [r]) S) (ht : T.top r.a r.b = true) (hl : (T.kids r.a).length = (T.kids r.b).length) (hN : KidPairs T r N) : TInv T a0 b0 (W ++ N) (r :: S) := by
  have mv : ∀ x, (x ∈ W ++ [r] ∨ x ∈ S) → (x ∈ W ++ N ∨ x ∈ r :: S) := by
    intro x hx
    rcases hx with hx | hx
    · rcases List.mem_append.1 hx with hx | hx
      · exact .inl (by simp [hx])
      · simp at hx; subst hx; exact .inr (by simp)
    · exact .inr (by simp [hx])
  refine ⟨fun he x hx => ?_, ?_, fun x hx => ?_⟩
  · have hr := h.eq he r (.inl (by simp))
    rcases hx with hx | hx
    · rcases List.mem_append.1 hx with hx | hx
      · exact h.eq he x (.inl (by simp [hx]))
      · obtain ⟨i, hi, rfl⟩ := List.mem_iff_getElem.1 hx
        obtain ⟨g1, g2⟩ := hN.2 i hi
        rw [hr] at g1
        exact Option.some.inj (g1.symm.trans g2)
    · rcases List.mem_cons.1 hx with rfl | hx
      · exact hr
      · exact h.eq he x (.inr hx)
  · obtain ⟨x, hx, e⟩ := h.has
    exact ⟨x, mv x hx, e⟩
  · rcases List.mem_cons.1 hx with rfl | hx
    · refine ⟨ht, hl, fun i hi hi' => ?_⟩
      have hi2 : i < N.length := by rw [hN.1]; exact hi
      obtain ⟨g1, g2⟩ := hN.2 i hi2
      rw [List.getElem?_eq_getElem hi] at g1
      rw [List.getElem?_eq_getElem hi'] at g2
      exact ⟨N[i], .inl (by simp), (Option.some.inj g1).symm, (Option.some.inj g2).symm⟩
    · obtain ⟨g1, g2, g3⟩ := h.cl x hx
      refine ⟨g1, g2, fun i hi hi' => ?_⟩
      obtain ⟨z, hz, e⟩ := g3 i hi hi'
      exact ⟨z, mv z hz, e⟩
theorem TInv.done {T : Tr α} {a0 b0 : α} {S : List (Pr α)} (h : TInv T a0 b0 [] S) : a0 = b0 := by
  have key : ∀ (n : Nat) (r : Pr α), T.sz r.a < n → r ∈ S → r.a = r.b := by
    intro n
    induction n with
    | zero => intro r h; omega
    | succ n ih =>
      intro r hn hr
      obtain ⟨g1, g2, g3⟩ := h.cl r hr
      refine T.ext _ _ g1 (List.ext_getElem g2 fun i hi hi' => ?_)
      obtain ⟨s, hs, e1, e2⟩ := g3 i hi hi'
      rcases hs with hs | hs
      · simp at hs
      · rw [← e1, ← e2]
        refine ih s ?_ hs
        have := T.kid_lt (a := r.a) (x := s.a) (by rw [e1]; exact List.getElem_mem hi)
        omega
  obtain ⟨r, hr, e1, e2⟩ := h.has
  rcases hr with hr | hr
  · simp at hr
  · rw [← e1, ← e2]; exact key _ r (Nat.lt_succ_self _) hr
/-- How many nodes are still to be looked at. -/
def left (T : Tr α) (W : List (Pr α)) : Nat := (W.map fun r => T.sz r.a).sum
theorem left_append (T : Tr α) (U V : List (Pr α)) : left T (U ++ V) = left T U + left T V := by unfold left; simp
theorem left_one (T : Tr α) (r : Pr α) : left T [r] = T.sz r.a := by unfold left; simp
theorem sz_pos (T : Tr α) (a : α) : 0 < T.sz a := by have := T.hsz a; omega
theorem length_left (T : Tr α) (W : List (Pr α)) : W.length ≤ left T W := by
  induction W with
  | nil => simp
  | cons r W ih => have := sz_pos T r.a; unfold left at *; simp; omega
theorem KidPairs.left {T : Tr α} {r : Pr α} {N : List (Pr α)} (h : KidPairs T r N) : left T N + 1 ≤ T.sz r.a := by
  have e : N.map (fun r => T.sz r.a) = (T.kids r.a).map T.sz := by
    refine List.ext_getElem (by simp [h.1]) fun i hi hi' => ?_
    simp at hi hi'
    obtain ⟨g1, _⟩ := h.2 i hi
    rw [List.getElem?_eq_getElem hi'] at g1
    simp [Option.some.inj g1]
  have h2 := T.hsz r.a; rw [← e] at h2; unfold Proofs.Ytggpnnoldjpmcaa.left; omega
/-- The pairs of parts in two slices. -/
def mkPairs (sz b b' : Nat) : Nat → Nat → List α → List α → List (Pr α)
  | o, o', x :: l, y :: l' => ⟨⟨b, o, none⟩, ⟨b', o', none⟩, x, y⟩ :: mkPairs sz b b' (o + sz) (o' + sz) l l'
  | _, _, _, _ => []
theorem mkPairs_length (sz b b' : Nat) : ∀ (l l' : List α) (o o' : Nat), l.length = l'.length → (mkPairs sz b b' o o' l l').length = l.length
  | [], _, _, _, _ => by simp [mkPairs]
  | x :: l, [], _, _, h => by simp at h
  | x :: l, y :: l', o, o', h => by simp only [mkPairs, List.length_cons]; rw [mkPairs_length sz b b' l l' _ _ (by simpa using h)]
theorem mkPairs_get (sz b b' : Nat) : ∀ (l l' : List α) (o o' : Nat) (i : Nat) (h1 : i < l.length) (h2 : i < l'.length), (mkPairs sz b b' o o' l l')[i]? = some ⟨⟨b, o + i * sz, none⟩, ⟨b', o' + i * sz, none⟩, l[i], l'[i]⟩
  | [], _, _, _, i, h1, _ => by simp at h1
  | x :: l, [], _, _, i, _, h2 => by simp at h2
  | x :: l, y :: l', o, o', 0, _, _ => by simp [mkPairs]
  | x :: l, y :: l', o, o', i + 1, h1, h2 => by
    simp only [mkPairs, List.getElem?_cons_succ]
    rw [mkPairs_get sz b b' l l' (o + sz) (o' + sz) i (by simpa using h1) (by simpa using h2)]
    rw [show o + sz + i * sz = o + (i + 1) * sz by rw [Nat.add_mul]; omega, show o' + sz + i * sz = o' + (i + 1) * sz by rw [Nat.add_mul]; omega]
    simp
theorem mkPairs_kids (T : Tr α) (r : Pr α) (sz b b' o o' : Nat) (hl : (T.kids r.a).length = (T.kids r.b).length) : KidPairs T r (mkPairs sz b b' o o' (T.kids r.a) (T.kids r.b)) := by
  refine ⟨mkPairs_length sz b b' _ _ o o' hl, fun i hi => ?_⟩
  rw [mkPairs_length sz b b' _ _ o o' hl] at hi
  have h1 := mkPairs_get sz b b' (T.kids r.a) (T.kids r.b) o o' i hi (by omega)
  have h2 : (mkPairs sz b b' o o' (T.kids r.a) (T.kids r.b))[i] = ⟨⟨b, o + i * sz, none⟩, ⟨b', o' + i * sz, none⟩, (T.kids r.a)[i], (T.kids r.b)[i]⟩ := by
    rw [List.getElem?_eq_getElem (by rw [mkPairs_length sz b b' _ _ o o' hl]; exact hi)] at h1
    exact Option.some.inj h1
  rw [h2]
  exact ⟨List.getElem?_eq_getElem hi, List.getElem?_eq_getElem (by omega)⟩
/-- The cells of the pairs. -/
def pcells (r : Pa) : List Value := [.pointer (some r.1), .pointer (some r.2)]
def wcells (W : List (Pr α)) : List Value := W.flatMap fun r => pcells r.pa
theorem wcells_append (U V : List (Pr α)) : wcells (U ++ V) = wcells U ++ wcells V := by unfold wcells; simp
theorem wcells_one (r : Pr α) : wcells [r] = [.pointer (some r.p), .pointer (some r.q)] := by simp [wcells, pcells, Pr.pa]
theorem wcells_length (W : List (Pr α)) : (wcells W).length = W.length * 2 := by
  induction W with
  | nil => rfl
  | cons r W ih => rw [show r :: W = [r] ++ W from rfl, wcells_append, List.length_append, ih]; simp [wcells_one]; omega
theorem wcells_last (W : List (Pr α)) (r : Pr α) : (wcells (W ++ [r]))[W.length * 2]? = some (.pointer (some r.p)) ∧ (wcells (W ++ [r]))[W.length * 2 + 1]? = some (.pointer (some r.q)) := by
  have h := wcells_length W
  rw [wcells_append, wcells_one]
  constructor
  · rw [List.getElem?_append_right (by omega), h]; simp
  · rw [List.getElem?_append_right (by omega), h]; simp
theorem grown_below {w w' : World} {g B : Nat} (h : w.grownBy w' (some g)) (hB : B ≤ g) (hs : B ≤ w.heap.size) : Below B w w' :=
  ⟨h.os, h.tape, h.output, h.size, fun i hi => h.block i (by omega) (fun e => by cases e; omega)⟩
theorem Seen.next {w w' : World} {b : Nat} {S : List Pa} {B : Nat} (h : Seen w b S) (hS : ∀ y ∈ S, y.1.block < B ∧ y.2.block < B) (hb : Below B w w') (he : w'.heap[b]? = w.heap[b]?) : Seen w' b S :=
  h.of_blocks he fun y hy => ⟨(h.alive y hy).1.below hb (hS y hy).1, (h.alive y hy).2.below hb (hS y hy).2⟩
end Go.Proofs.Ytggpnnoldjpmcaa
