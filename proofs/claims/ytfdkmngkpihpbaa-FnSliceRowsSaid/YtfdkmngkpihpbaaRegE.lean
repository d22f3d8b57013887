/- Regions that draw their order: a condition on the world that holds but for the last operation, which may write what the others read; no program. -/
import Derived.Deep.RegionHeld3
import Derived.Deep.DeepCutAuto
namespace Go.Proofs.Ytfdkmngkpihpbaa
open Go

section
variable {P : Program} {ops : Array Oper} {Q : Exit → Act → World → Prop} {md : Region.Mode} {S : World → Prop} {last : Nat}

/-- Whatever order is picked from here on; S holds behind each operation that is carried out, but for the last one. -/
def wpAnyE (P : Program) (md : Region.Mode) (ops : Array Oper) (Q : Exit → Act → World → Prop) (S : World → Prop) (last : Nat) : Nat → Array Bool → Act → World → Prop
  | 0, listed, a, w => Region.ready md ops listed = [] ∧ Q .normal a w
  | n + 1, listed, a, w => (Region.ready md ops listed = [] → Q .normal a w) ∧
      ∀ i ∈ Region.ready md ops listed, wpOp P ops Q i (fun a' w' => (i = last ∨ S w') ∧ wpAnyE P md ops Q S last n (listed.setIfInBounds i true) a' w') a w
theorem wpAnyE.any : ∀ (n : Nat) (listed : Array Bool) (a : Act) (w : World), wpAnyE P md ops Q S last n listed a w → wpAny P md ops Q n listed a w
  | 0, _, _, _, h => h
  | n + 1, _, _, _, h => ⟨h.1, fun i hi => wpOp_mono (fun _ _ h' => wpAnyE.any n _ _ _ h'.2) (h.2 i hi)⟩
theorem wp_region_E {id : Nat} {a : Act} {w : World} (hm : P.follows .mixedOrders = true) (hS : S w.drew)
    (h : S w.drew → wpAnyE P .any ops Q S last ops.size (Array.replicate ops.size false) a w.drew) : (Code.region id ops true).wp P Q a w :=
  wp_region_any hm (wpAnyE.any _ _ _ _ (h hS))

/-- Whatever has come up waited for nothing that has not. -/
def Below' (md : Region.Mode) (ops : Array Oper) (listed : Array Bool) : Prop :=
  ∀ y o, ops[y]? = some o → listed.getD y false = true → ∀ e ∈ o.after, Region.binds md e = true → listed.getD e.on false = true
def belowB (md : Region.Mode) (ops : Array Oper) (listed : Array Bool) : Bool :=
  (List.range ops.size).all fun y => !listed.getD y false || (match ops[y]? with | some o => o.after.all (fun e => !Region.binds md e || listed.getD e.on false) | none => true)
theorem belowB_iff {listed : Array Bool} (h : belowB md ops listed = true) : Below' md ops listed := by
  intro y o ho hy e he hb
  unfold belowB at h
  rw [List.all_eq_true] at h
  have h1 := h y (List.mem_range.2 (Array.getElem?_eq_some_iff.1 ho).1)
  rw [hy, ho] at h1
  simp only [Bool.not_true, Bool.false_or] at h1
  have h2 := Array.all_eq_true_iff_forall_mem.1 h1 e he
  rw [hb] at h2
  simpa using h2
theorem Below'.step {listed : Array Bool} {j : Nat} (h : Below' md ops listed) (hj : j ∈ Region.ready md ops listed) : Below' md ops (listed.setIfInBounds j true) := by
  intro y o ho hy e he hb
  apply getD_set_true
  by_cases e1 : j = y
  · subst e1
    obtain ⟨_, o', ho', hall⟩ := mem_ready.1 hj
    rw [ho] at ho'
    cases ho'
    exact hall e he hb
  · rw [getD_set_ne false e1] at hy
    exact h y o ho hy e he hb
/-- y waits for x. -/
def dep (md : Region.Mode) (ops : Array Oper) (x y : Nat) : Bool := match ops[y]? with | some o => o.after.any (fun e => Region.binds md e && e.on == x) | none => false
theorem dep_spec {x y : Nat} (h : dep md ops x y = true) : ∃ o, ops[y]? = some o ∧ ∃ e ∈ o.after, Region.binds md e = true ∧ e.on = x := by
  unfold dep at h
  cases ho : ops[y]? with
  | none => rw [ho] at h; cases h
  | some o =>
    rw [ho] at h
    obtain ⟨e, he, hb⟩ := Array.any_eq_true'.1 h
    simp only [Bool.and_eq_true, beq_iff_eq] at hb
    exact ⟨o, rfl, e, he, hb.1, hb.2⟩
/-- l waits for i, by way of ks. -/
def waits (md : Region.Mode) (ops : Array Oper) : Nat → List Nat → Nat → Bool
  | i, [], l => dep md ops i l
  | i, k :: ks, l => dep md ops i k && waits md ops k ks l
theorem waits_ready : ∀ {ks : List Nat} {i l : Nat} {listed : Array Bool}, waits md ops i ks l = true → Below' md ops listed → l ∈ Region.ready md ops listed → listed.getD i false = true
  | [], i, l, listed, h, _, hl => by
    obtain ⟨o, ho, e, he, hb, rfl⟩ := dep_spec h
    obtain ⟨_, o', ho', hall⟩ := mem_ready.1 hl
    rw [ho] at ho'
    cases ho'
    exact hall e he hb
  | k :: ks, i, l, listed, h, hs, hl => by
    unfold waits at h
    rw [Bool.and_eq_true] at h
    have hk := waits_ready h.2 hs hl
    obtain ⟨o, ho, e, he, hb, rfl⟩ := dep_spec h.1
    exact hs k o ho hk e he hb
theorem ready_not {i : Nat} {listed : Array Bool} (h : i ∈ Region.ready md ops listed) : listed.getD i false = false := by
  have h0 := (mem_ready.1 h).1
  rcases Nat.lt_or_ge i listed.size with h' | h'
  · simp [h'] at h0 ⊢; exact h0
  · simp [Array.getElem?_eq_none h'] at h0

theorem wpAnyE_first {i : Nat} {oi : Oper} {v : Value} {ks : List Nat} (hi : ops[i]? = some oi) (hsel : ∀ (j : Nat) (o : Oper) cs b, ops[j]? = some o → o.op ≠ .select cs b)
    (hQ : ∀ c a w, Q (.panic c) (a.put oi.dst v) w → Q (.panic c) a w) (hk : waits md ops i ks last = true) :
    ∀ (n : Nat) (listed : Array Bool) (a : Act) (w : World), Below' md ops listed →
      (∀ j oj, ops[j]? = some oj → j ≠ i → listed.getD j true = false → (∀ e ∈ oj.after, Region.binds md e = true → e.on ≠ i) → oi.apart ops oj = true) →
      i ∈ Region.ready md ops listed → YieldsIf P ops S oi v a → S w →
      wpAnyE P md ops Q S last n (listed.setIfInBounds i true) (a.put oi.dst v) w → wpAnyE P md ops Q S last (n + 1) listed a w := by
  intro n
  induction n with
  | zero =>
    intro listed a w _ _ hr hy hS H
    constructor
    · intro h; rw [h] at hr; cases hr
    · intro j hj
      by_cases e : j = i
      · subst e; exact hy.wpOp hi hS ⟨.inr hS, H⟩
      · have hm := ready_mono hj e
        rw [H.1] at hm; cases hm
  | succ n ih =>
    intro listed a w hb hfree hr hy hS H
    constructor
    · intro h; rw [h] at hr; cases hr
    · intro j hj
      by_cases e : j = i
      · subst e; exact hy.wpOp hi hS ⟨.inr hS, H⟩
      · obtain ⟨hun, oj, hoj, hall⟩ := mem_ready.1 hj
        have hno : ∀ e ∈ oj.after, Region.binds md e = true → e.on ≠ i := fun d hd hbd heq => by
          have h1 := hall d hd hbd
          rw [heq, ready_not hr] at h1
          cases h1
        have hl : ¬ j = last := fun e2 => by
          have h1 := waits_ready hk hb (e2 ▸ hj)
          rw [ready_not hr] at h1
          cases h1
        have h2 := wpOp_putIf hoj (hfree j oj hoj e hun hno) (fun cs b => hsel i oi cs b hi) (fun cs b => hsel j oj cs b hoj) hQ hy (H.2 j (ready_mono hj e))
        refine wpOp_mono (fun a' w' h3 => ?_) h2
        have hS' : S w' := h3.2.1.resolve_left hl
        refine ⟨.inr hS', ih _ a' w' (hb.step hj) (fun k ok hk' hki hkun hkno => hfree k ok hk' hki ?_ hkno) (ready_mono hr (fun x => e x.symm)) h3.1 hS' ?_⟩
        · by_cases e3 : j = k
          · subst e3; exact hun
          · rw [getD_set_ne true e3] at hkun; exact hkun
        · rw [Array.setIfInBounds_comm _ _ e]; exact h3.2.2

/-- Take number i first. -/
theorem takeE {i : Nat} {oi : Oper} {v : Value} {n : Nat} {listed : Array Bool} {a : Act} {w : World} (ks : List Nat) (hi : ops.toList[i]? = some oi)
    (hs : Region.noSelect ops = true) (hf : (Region.free md ops listed i && (Region.ready md ops listed).contains i && waits md ops i ks last && belowB md ops listed) = true)
    (hQ : ∀ c a w, Q (.panic c) (a.put oi.dst v) w → Q (.panic c) a w) (hy : YieldsIf P ops S oi v a) (hS : S w)
    (h : wpAnyE P md ops Q S last n (listed.setIfInBounds i true) (a.put oi.dst v) w) : wpAnyE P md ops Q S last (n + 1) listed a w := by
  simp only [Bool.and_eq_true] at hf
  obtain ⟨⟨⟨h1, h2⟩, h3⟩, h4⟩ := hf
  exact wpAnyE_first (by simpa using hi) (Region.noSelect_spec hs) hQ h3 n listed a w (belowB_iff h4) (Region.free_spec (by simpa using hi) h1) (by simpa using h2) hy hS h
/-- Those that may come up next, each by itself. -/
def AllE' (P : Program) (md : Region.Mode) (ops : Array Oper) (Q : Exit → Act → World → Prop) (S : World → Prop) (last n : Nat) (listed : Array Bool) (a : Act) (w : World) (rs : List Nat) : Prop :=
  ∀ i ∈ rs, wpOp P ops Q i (fun a' w' => (i = last ∨ S w') ∧ wpAnyE P md ops Q S last n (listed.setIfInBounds i true) a' w') a w
theorem upE {n : Nat} {listed : Array Bool} {a : Act} {w : World} {rs : List Nat} (hr : Region.ready md ops listed = rs) (hne : rs ≠ []) (h : AllE' P md ops Q S last n listed a w rs) : wpAnyE P md ops Q S last (n + 1) listed a w :=
  ⟨fun h0 => absurd (hr ▸ h0) hne, hr ▸ h⟩
theorem AllE'.nil {n : Nat} {listed : Array Bool} {a : Act} {w : World} : AllE' P md ops Q S last n listed a w [] := fun _ h => by cases h
theorem AllE'.cons {i : Nat} {oi : Oper} {n : Nat} {listed : Array Bool} {a : Act} {w : World} {rs : List Nat} (hi : ops.toList[i]? = some oi) (hw : Region.wanted oi (yielded ops a.tmps) = true)
    (h : ∀ K' : Act → World → Prop, Shut (∀ a w, S w → (S w → wpAnyE P md ops Q S last n (listed.setIfInBounds i true) a w) → K' a w) → Oper.wp P oi a w K' Q)
    (hs : AllE' P md ops Q S last n listed a w rs) : AllE' P md ops Q S last n listed a w (i :: rs) := fun j hj => by
  rcases List.mem_cons.1 hj with rfl | hj
  · exact wpOp_step (by simpa using hi) (fun K' hK => by rw [if_pos hw]; exact h K' (fun a w hS hW => hK a w ⟨.inr hS, hW hS⟩))
  · exact hs j hj
/-- The one that may come up. -/
theorem oneE {i : Nat} {oi : Oper} {n : Nat} {listed : Array Bool} {a : Act} {w : World} (hi : ops.toList[i]? = some oi) (hr : Region.ready md ops listed = [i]) (hw : Region.wanted oi (yielded ops a.tmps) = true)
    (h : ∀ K' : Act → World → Prop, Shut (∀ a w, S w → (S w → wpAnyE P md ops Q S last n (listed.setIfInBounds i true) a w) → K' a w) → Oper.wp P oi a w K' Q) : wpAnyE P md ops Q S last (n + 1) listed a w :=
  upE hr (by simp) (AllE'.cons hi hw h AllE'.nil)
/-- The last one. -/
theorem lastE {oi : Oper} {n : Nat} {listed : Array Bool} {a : Act} {w : World} (hi : ops.toList[last]? = some oi) (hr : Region.ready md ops listed = [last]) (hw : Region.wanted oi (yielded ops a.tmps) = true)
    (h : ∀ K' : Act → World → Prop, Shut (∀ a w, wpAnyE P md ops Q S last n (listed.setIfInBounds last true) a w → K' a w) → Oper.wp P oi a w K' Q) : wpAnyE P md ops Q S last (n + 1) listed a w :=
  upE hr (by simp) fun j hj => by
    rw [List.mem_singleton] at hj
    subst hj
    exact wpOp_step (by simpa using hi) (fun K' hK => by rw [if_pos hw]; exact h K' (fun a w hW => hK a w ⟨.inl rfl, hW⟩))
theorem doneE {listed : Array Bool} {a : Act} {w : World} (hr : Region.ready md ops listed = []) (h : Q .normal a w) : ∀ n, wpAnyE P md ops Q S last n listed a w
  | 0 => ⟨hr, h⟩
  | _ + 1 => ⟨fun _ => h, by rw [hr]; simp⟩
end
end Go.Proofs.Ytfdkmngkpihpbaa
