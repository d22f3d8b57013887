/- Lemmas on the data and the memory of this program's values: several texts in one. -/
import Derived.Test.YtggpnnoldjpmcaaM0q0p1
import Derived.Deep.RegionHeld3
import Derived.Deep.DeepCutAuto
import Derived.Test.YtggpnnoldjpmcaaProg
import Derived.ProofKit
import Derived.KernelRfl
import Derived.WideKeyElems3
import Derived.DeepKeys3
import Derived.Test.YtggpnnoldjpmcaaRows
namespace Go.Proofs.Ytggpnnoldjpmcaa
open Go

section
variable {P : Program} {ops : Array Oper} {Q : Exit → Act → World → Prop} {md : Region.Mode} {S : World → Prop} {last : Nat}

/-- Whatever order is picked from here on; S holds behind each operation that is carried out, but for the last one. -/
def wpAnyE (P : Program) (md : Region.Mode) (ops : Array Oper) (Q : Exit → Act → World → Prop) (S : World → Prop) (last : Nat) : Nat → Array Bool → Act → World → Prop
  | 0, listed, a, w => Region.ready md ops listed = [] ∧ Q .normal a w
  | n + 1, listed, a, w => (Region.ready md ops listed = [] → Q .normal a w) ∧
      ∀ i ∈ Region.ready md ops listed, wpOp P ops Q i (fun a' w' => (i = last ∨ S w') ∧ wpAnyE P md ops Q S last n (listed.setIfInBounds i true) a' w') a w
theorem wpAnyE.any : ∀ (n : Nat) (listed : Array Bool) (a : Act) (w : World), wpAnyE P md ops Q S last n listed a w → wpAny P md ops Q n listed a w
  | 0, _, _, _, h => h
  | n + 1, _, _, _, h => ⟨h.1, fun i hi => wpOp_mono (fun _ _ h' => wpAnyE.any n _ _ _ h'.2) (h.2 i hi)⟩
theorem wp_region_E {id : Nat} {a : Act} {w : World} (hm : P.follows .mixedOrders = true) (hS : S w.drew)
    (h : S w.drew → wpAnyE P .any ops Q S last ops.size (Array.replicate ops.size false) a w.drew) : (Code.region id ops true).wp P Q a w :=
  wp_region_any hm (wpAnyE.any _ _ _ _ (h hS))

/-- Whatever has come up waited for nothing that has not. -/
def Below' (md : Region.Mode) (ops : Array Oper) (listed : Array Bool) : Prop :=
  ∀ y o, ops[y]? = some o → listed.getD y false = true → ∀ e ∈ o.after, Region.binds md e = true → listed.getD e.on false = true
def belowB (md : Region.Mode) (ops : Array Oper) (listed : Array Bool) : Bool :=
  (List.range ops.size).all fun y => !listed.getD y false || (match ops[y]? with | some o => o.after.all (fun e => !Region.binds md e || listed.getD e.on false) | none => true)
theorem belowB_iff {listed : Array Bool} (h : belowB md ops listed = true) : Below' md ops listed := by
  intro y o ho hy e he hb
  unfold belowB at h
  rw [List.all_eq_true] at h
  have h1 := h y (List.mem_range.2 (Array.getElem?_eq_some_iff.1 ho).1)
  rw [hy, ho] at h1
  simp only [Bool.not_true, Bool.false_or] at h1
  have h2 := Array.all_eq_true_iff_forall_mem.1 h1 e he
  rw [hb] at h2
  simpa using h2
theorem Below'.step {listed : Array Bool} {j : Nat} (h : Below' md ops listed) (hj : j ∈ Region.ready md ops listed) : Below' md ops (listed.setIfInBounds j true) := by
  intro y o ho hy e he hb
  apply getD_set_true
  by_cases e1 : j = y
  · subst e1
    obtain ⟨_, o', ho', hall⟩ := mem_ready.1 hj
    rw [ho] at ho'
    cases ho'
    exact hall e he hb
  · rw [getD_set_ne false e1] at hy
    exact h y o ho hy e he hb
/-- y waits for x. -/
def dep (md : Region.Mode) (ops : Array Oper) (x y : Nat) : Bool := match ops[y]? with | some o => o.after.any (fun e => Region.binds md e && e.on == x) | none => false
theorem dep_spec {x y : Nat} (h : dep md ops x y = true) : ∃ o, ops[y]? = some o ∧ ∃ e ∈ o.after, Region.binds md e = true ∧ e.on = x := by
  unfold dep at h
  cases ho : ops[y]? with
  | none => rw [ho] at h; cases h
  | some o =>
    rw [ho] at h
    obtain ⟨e, he, hb⟩ := Array.any_eq_true'.1 h
    simp only [Bool.and_eq_true, beq_iff_eq] at hb
    exact ⟨o, rfl, e, he, hb.1, hb.2⟩
/-- l waits for i, by way of ks. -/
def waits (md : Region.Mode) (ops : Array Oper) : Nat → List Nat → Nat → Bool
  | i, [], l => dep md ops i l
  | i, k :: ks, l => dep md ops i k && waits md ops k ks l
theorem waits_ready : ∀ {ks : List Nat} {i l : Nat} {listed : Array Bool}, waits md ops i ks l = true → Below' md ops listed → l ∈ Region.ready md ops listed → listed.getD i false = true
  | [], i, l, listed, h, _, hl => by
    obtain ⟨o, ho, e, he, hb, rfl⟩ := dep_spec h
    obtain ⟨_, o', ho', hall⟩ := mem_ready.1 hl
    rw [ho] at ho'
    cases ho'
    exact hall e he hb
  | k :: ks, i, l, listed, h, hs, hl => by
    unfold waits at h
    rw [Bool.and_eq_true] at h
    have hk := waits_ready h.2 hs hl
    obtain ⟨o, ho, e, he, hb, rfl⟩ := dep_spec h.1
    exact hs k o ho hk e he hb
theorem ready_not {i : Nat} {listed : Array Bool} (h : i ∈ Region.ready md ops listed) : listed.getD i false = false := by
  have h0 := (mem_ready.1 h).1
  rcases Nat.lt_or_ge i listed.size with h' | h'
  · simp [h'] at h0 ⊢; exact h0
  · simp [Array.getElem?_eq_none h'] at h0

theorem wpAnyE_first {i : Nat} {oi : Oper} {v : Value} {ks : List Nat} (hi : ops[i]? = some oi) (hsel : ∀ (j : Nat) (o : Oper) cs b, ops[j]? = some o → o.op ≠ .select cs b)
    (hQ : ∀ c a w, Q (.panic c) (a.put oi.dst v) w → Q (.panic c) a w) (hk : waits md ops i ks last = true) :
    ∀ (n : Nat) (listed : Array Bool) (a : Act) (w : World), Below' md ops listed →
      (∀ j oj, ops[j]? = some oj → j ≠ i → listed.getD j true = false → (∀ e ∈ oj.after, Region.binds md e = true → e.on ≠ i) → oi.apart ops oj = true) →
      i ∈ Region.ready md ops listed → YieldsIf P ops S oi v a → S w →
      wpAnyE P md ops Q S last n (listed.setIfInBounds i true) (a.put oi.dst v) w → wpAnyE P md ops Q S last (n + 1) listed a w := by
  intro n
  induction n with
  | zero =>
    intro listed a w _ _ hr hy hS H
    constructor
    · intro h; rw [h] at hr; cases hr
    · intro j hj
      by_cases e : j = i
      · subst e; exact hy.wpOp hi hS ⟨.inr hS, H⟩
      · have hm := ready_mono hj e
        rw [H.1] at hm; cases hm
  | succ n ih =>
    intro listed a w hb hfree hr hy hS H
    constructor
    · intro h; rw [h] at hr; cases hr
    · intro j hj
      by_cases e : j = i
      · subst e; exact hy.wpOp hi hS ⟨.inr hS, H⟩
      · obtain ⟨hun, oj, hoj, hall⟩ := mem_ready.1 hj
        have hno : ∀ e ∈ oj.after, Region.binds md e = true → e.on ≠ i := fun d hd hbd heq => by
          have h1 := hall d hd hbd
          rw [heq, ready_not hr] at h1
          cases h1
        have hl : ¬ j = last := fun e2 => by
          have h1 := waits_ready hk hb (e2 ▸ hj)
          rw [ready_not hr] at h1
          cases h1
        have h2 := wpOp_putIf hoj (hfree j oj hoj e hun hno) (fun cs b => hsel i oi cs b hi) (fun cs b => hsel j oj cs b hoj) hQ hy (H.2 j (ready_mono hj e))
        refine wpOp_mono (fun a' w' h3 => ?_) h2
        have hS' : S w' := h3.2.1.resolve_left hl
        refine ⟨.inr hS', ih _ a' w' (hb.step hj) (fun k ok hk' hki hkun hkno => hfree k ok hk' hki ?_ hkno) (ready_mono hr (fun x => e x.symm)) h3.1 hS' ?_⟩
        · by_cases e3 : j = k
          · subst e3; exact hun
          · rw [getD_set_ne true e3] at hkun; exact hkun
        · rw [Array.setIfInBounds_comm _ _ e]; exact h3.2.2

/-- Take number i first. -/
theorem takeE {i : Nat} {oi : Oper} {v : Value} {n : Nat} {listed : Array Bool} {a : Act} {w : World} (ks : List Nat) (hi : ops.toList[i]? = some oi)
    (hs : Region.noSelect ops = true) (hf : (Region.free md ops listed i && (Region.ready md ops listed).contains i && waits md ops i ks last && belowB md ops listed) = true)
    (hQ : ∀ c a w, Q (.panic c) (a.put oi.dst v) w → Q (.panic c) a w) (hy : YieldsIf P ops S oi v a) (hS : S w)
    (h : wpAnyE P md ops Q S last n (listed.setIfInBounds i true) (a.put oi.dst v) w) : wpAnyE P md ops Q S last (n + 1) listed a w := by
  simp only [Bool.and_eq_true] at hf
  obtain ⟨⟨⟨h1, h2⟩, h3⟩, h4⟩ := hf
  exact wpAnyE_first (by simpa using hi) (Region.noSelect_spec hs) hQ h3 n listed a w (belowB_iff h4) (Region.free_spec (by simpa using hi) h1) (by simpa using h2) hy hS h
/-- Those that may come up next, each by itself. -/
def AllE' (P : Program) (md : Region.Mode) (ops : Array Oper) (Q : Exit → Act → World → Prop) (S : World → Prop) (last n : Nat) (listed : Array Bool) (a : Act) (w : World) (rs : List Nat) : Prop :=
  ∀ i ∈ rs, wpOp P ops Q i (fun a' w' => (i = last ∨ S w') ∧ wpAnyE P md ops Q S last n (listed.setIfInBounds i true) a' w') a w
theorem upE {n : Nat} {listed : Array Bool} {a : Act} {w : World} {rs : List Nat} (hr : Region.ready md ops listed = rs) (hne : rs ≠ []) (h : AllE' P md ops Q S last n listed a w rs) : wpAnyE P md ops Q S last (n + 1) listed a w :=
  ⟨fun h0 => absurd (hr ▸ h0) hne, hr ▸ h⟩
theorem AllE'.nil {n : Nat} {listed : Array Bool} {a : Act} {w : World} : AllE' P md ops Q S last n listed a w [] := fun _ h => by cases h
theorem AllE'.cons {i : Nat} {oi : Oper} {n : Nat} {listed : Array Bool} {a : Act} {w : World} {rs : List Nat} (hi : ops.toList[i]? = some oi) (hw : Region.wanted oi (yielded ops a.tmps) = true)
    (h : ∀ K' : Act → World → Prop, Shut (∀ a w, S w → (S w → wpAnyE P md ops Q S last n (listed.setIfInBounds i true) a w) → K' a w) → Oper.wp P oi a w K' Q)
    (hs : AllE' P md ops Q S last n listed a w rs) : AllE' P md ops Q S last n listed a w (i :: rs) := fun j hj => by
  rcases List.mem_cons.1 hj with rfl | hj
  · exact wpOp_step (by simpa using hi) (fun K' hK => by rw [if_pos hw]; exact h K' (fun a w hS hW => hK a w ⟨.inr hS, hW hS⟩))
  · exact hs j hj
/-- The one that may come up. -/
theorem oneE {i : Nat} {oi : Oper} {n : Nat} {listed : Array Bool} {a : Act} {w : World} (hi : ops.toList[i]? = some oi) (hr : Region.ready md ops listed = [i]) (hw : Region.wanted oi (yielded ops a.tmps) = true)
    (h : ∀ K' : Act → World → Prop, Shut (∀ a w, S w → (S w → wpAnyE P md ops Q S last n (listed.setIfInBounds i true) a w) → K' a w) → Oper.wp P oi a w K' Q) : wpAnyE P md ops Q S last (n + 1) listed a w :=
  upE hr (by simp) (AllE'.cons hi hw h AllE'.nil)
/-- The last one. -/
theorem lastE {oi : Oper} {n : Nat} {listed : Array Bool} {a : Act} {w : World} (hi : ops.toList[last]? = some oi) (hr : Region.ready md ops listed = [last]) (hw : Region.wanted oi (yielded ops a.tmps) = true)
    (h : ∀ K' : Act → World → Prop, Shut (∀ a w, wpAnyE P md ops Q S last n (listed.setIfInBounds last true) a w → K' a w) → Oper.wp P oi a w K' Q) : wpAnyE P md ops Q S last (n + 1) listed a w :=
  upE hr (by simp) fun j hj => by
    rw [List.mem_singleton] at hj
    subst hj
    exact wpOp_step (by simpa using hi) (fun K' hK => by rw [if_pos hw]; exact h K' (fun a w hW => hK a w ⟨.inl rfl, hW⟩))
theorem doneE {listed : Array Bool} {a : Act} {w : World} (hr : Region.ready md ops listed = []) (h : Q .normal a w) : ∀ n, wpAnyE P md ops Q S last n listed a w
  | 0 => ⟨hr, h⟩
  | _ + 1 => ⟨fun _ => h, by rw [hr]; simp⟩
end
end Go.Proofs.Ytggpnnoldjpmcaa
namespace Go.Proofs.Ytggpnnoldjpmcaa
open Go.RowKit

theorem Chg.alloc {F : List Nat} {a w : World} (h : Chg F a w) (o : Obj) : Chg F a (w.alloc o) := h.then_below ((Below.refl _ _).alloc (Nat.le_refl _) o)
theorem Chg.drew {F : List Nat} {a w : World} (h : Chg F a w) : Chg F a w.drew := ⟨h.os, h.tape, h.output, h.size, h.block⟩
/-- Blocks that are new since a do not count. -/
theorem Chg.past {F G : List Nat} {a b c : World} (h : Chg G a b) (hc : Chg F b c) (hF : ∀ x ∈ F, x ∈ G ∨ a.heap.size ≤ x) : Chg G a c :=
  ⟨hc.os.trans h.os, hc.tape.trans h.tape, hc.output.trans h.output, Nat.le_trans h.size hc.size, fun k hk hn => by
    have hnF : k ∉ F := fun hm => by
      rcases hF k hm with h1 | h1
      · exact hn h1
      · omega
    exact (hc.block k (Nat.lt_of_lt_of_le hk h.size) hnF).trans (h.block k hk hn)⟩
theorem Chg.cellOf {F : List Nat} {w w' : World} (hc : Chg F w w') {b o : Nat} {x : Value} (hb : b ∉ F) (h : w.cell? ⟨b, o, none⟩ = some x) : w'.cell? ⟨b, o, none⟩ = some x :=
  (World.cell?_of_block (w := w) (a := ⟨b, o, none⟩) (hc.block b (World.block_lt_of_cell? w _ h) hb)).trans h
theorem Chg.frozenOf {F : List Nat} {w w' : World} (hc : Chg F w w') {b o : Nat} (hb : b ∉ F) (hl : b < w.heap.size) (h : w.frozen? ⟨b, o, none⟩ = false) : w'.frozen? ⟨b, o, none⟩ = false :=
  (World.frozen?_of_block (w := w) (a := ⟨b, o, none⟩) (hc.block b hl hb)).trans h

/-- n cells of which P holds, from a block's beginning. -/
def Cs (P : Value → Prop) (w : World) (b n : Nat) : Prop := b < w.heap.size ∧ ∀ i, i < n → ∃ v, P v ∧ w.cell? ⟨b, i, none⟩ = some v
theorem Cs.chg {P : Value → Prop} {F : List Nat} {w w' : World} {b n : Nat} (h : Cs P w b n) (hc : Chg F w w') (hb : b ∉ F) : Cs P w' b n :=
  ⟨Nat.lt_of_lt_of_le h.1 hc.size, fun i hi => by obtain ⟨v, h1, h2⟩ := h.2 i hi; exact ⟨v, h1, hc.cellOf hb h2⟩⟩
theorem Cs.alloc {P : Value → Prop} {w : World} {b n : Nat} (h : Cs P w b n) (o : Obj) : Cs P (w.alloc o) b n := h.chg ((Chg.refl [] w).alloc o) (by simp)
theorem Cs.fresh {P : Value → Prop} (p : Value → Bool) (hp : ∀ v, p v = true → P v) (w : World) (cs : Array Value) (T : TypeId) {b n : Nat} (hb : b = w.heap.size) (hn : n = cs.size) (h : cs.all p = true) : Cs P (w.alloc (.cells cs T)) b n := by
  subst hb hn
  refine ⟨by simp, fun i hi => ⟨cs[i], hp _ (Array.all_eq_true.1 h i hi), ?_⟩⟩
  exact (World.cell?_alloc_at cs T _ i rfl).trans (Array.getElem?_eq_getElem hi)
def strP (v : Value) : Prop := ∃ s : ByteArray, v = .string s ∧ s.size ≤ 100
def strB (v : Value) : Bool := match v with | .string s => decide (s.size ≤ 100) | _ => false
theorem strB_spec (v : Value) (h : strB v = true) : strP v := by
  cases v <;> first | (simp [strB] at h; exact ⟨_, rfl, h⟩) | (simp [strB] at h)
def intP (v : Value) : Prop := ∃ z : Int, v = .int .i64 z ∧ -1000 ≤ z ∧ z ≤ 1000
def intB (v : Value) : Bool := match v with | .int .i64 z => decide (-1000 ≤ z) && decide (z ≤ 1000) | _ => false
theorem intB_spec (v : Value) (h : intB v = true) : intP v := by
  unfold intB at h
  split at h
  · simp at h; exact ⟨_, rfl, h.1, h.2⟩
  · cases h

/-- An append in a region, by whatever its run is known to give. -/
theorem wp_app {P : Program} {w : World} {o : Oper} {a : Act} {K : Act → World → Prop} {Q : Exit → Act → World → Prop} (s x : Operand) (t : TypeId)
    (ho : o.op = .call { callee := .builtin .append, args := #[s, x], argTypes := #[t, t] }) (vs vx : Value) (hs : a.eval s = vs) (hx : a.eval x = vx) (R : Value → World → Prop)
    (hr : ∃ v' w', (Builtin.append_ #[t, t] o.type #[vs, vx]).run P w = .ok v' w' ∧ R v' w') (h : ∀ v' w', R v' w' → K (a.put o.dst v') w') : Oper.wp P o a w K Q := by
  obtain ⟨v', w', hr, hR⟩ := hr
  unfold Oper.wp execOp
  simp only [ho, resolve, invoke, builtin, Sem.run_bind, Sem.run_pure, Result.andThen_ok, List.map_toArray, List.map_cons, List.map_nil, hs, hx, hr]
  exact h v' w' hR

/-- A list of constants has been made: the world by a letter. -/
theorem made {P : Value → Prop} {p : Value → Bool} (hp : ∀ v, p v = true → P v) {K : Act → World → Prop} {A : Act} {E : World} {cs : Array Value} {T : TypeId} (n : Nat) (hn : n = cs.size) (h : cs.all p = true)
    (hk : ∀ w1, Chg [] E w1 → E.heap.size < w1.heap.size → Cs P w1 E.heap.size n → K A w1) : K A (E.alloc (.cells cs T)) :=
  hk _ ((Chg.refl _ _).alloc _) (by simp) (Cs.fresh p hp E cs T rfl hn h)

/-- A variable of two slices in block b, both in memory of the call's own, from block lo on. -/
def Two {α β : Type} (sz1 : Nat) (enc1 : α → List Value) (T1 : TypeId) (xs : List α) (sz2 : Nat) (enc2 : β → List Value) (T2 : TypeId) (ys : List β) (b lo : Nat) (v1 v2 : Value) (w : World) : Prop :=
  (b < w.heap.size ∧ lo ≤ b) ∧ (w.cell? ⟨b, 0, none⟩ = some v1 ∧ w.cell? ⟨b, 1, none⟩ = some v2) ∧ (w.frozen? ⟨b, 0, none⟩ = false ∧ w.frozen? ⟨b, 1, none⟩ = false) ∧
    ∃ F1 F2, OwnS sz1 enc1 T1 w v1 xs F1 ∧ OwnS sz2 enc2 T2 w v2 ys F2 ∧ (∀ x ∈ F1, lo ≤ x ∧ x ≠ b) ∧ (∀ x ∈ F2, lo ≤ x ∧ x ≠ b) ∧ ∀ x ∈ F1, x ∉ F2
section
variable {α β : Type} {sz1 : Nat} {enc1 : α → List Value} {T1 : TypeId} {xs : List α} {sz2 : Nat} {enc2 : β → List Value} {T2 : TypeId} {ys : List β} {b lo : Nat} {v1 v2 : Value} {w : World}
theorem Two.chg {G : List Nat} {w' : World} (h : Two sz1 enc1 T1 xs sz2 enc2 T2 ys b lo v1 v2 w) (hc : Chg G w w') (hG : ∀ x ∈ G, x < lo) : Two sz1 enc1 T1 xs sz2 enc2 T2 ys b lo v1 v2 w' := by
  obtain ⟨⟨h1, h2⟩, ⟨h3, h4⟩, ⟨h5, h6⟩, F1, F2, h7, h8, h9, h10, h11⟩ := h
  have hb : b ∉ G := fun hm => by have := hG b hm; omega
  exact ⟨⟨Nat.lt_of_lt_of_le h1 hc.size, h2⟩, ⟨hc.cellOf hb h3, hc.cellOf hb h4⟩, ⟨hc.frozenOf hb h1 h5, hc.frozenOf hb h1 h6⟩, F1, F2,
    h7.chg hc (fun x hx hm => by have := hG x hm; have := (h9 x hx).1; omega), h8.chg hc (fun x hx hm => by have := hG x hm; have := (h10 x hx).1; omega), h9, h10, h11⟩
/-- One more behind field 0, and the field is stored anew. -/
theorem Two.app1 (hen : ∀ x, (enc1 x).length = sz1) (hone : ∀ (x : α), ∀ u ∈ enc1 x, u.oneCell' = true) (t ty : TypeId) (i : TypeInfo) (z : Value) (bytes : Nat)
    (ht : Try.prog.underlying t = some (.slice T1)) (hi : Try.prog.info? T1 = some i) (hz : i.zero = some z) (hsz : i.size = sz1) (hby : i.bytes = bytes) (hzs : z.cells.size = sz1)
    (h : Two sz1 enc1 T1 xs sz2 enc2 T2 ys b lo v1 v2 w) (y : α) (cs : Array Value) (hcs : cs = (enc1 y).toArray) (hl : xs.length < 1000000) (hb1 : (xs.length + 1) * bytes ≤ 140737488355328) :
    ∃ v' w', (Builtin.append_ #[t, t] ty #[v1, .slice (some ⟨w.heap.size, 0, none⟩) 1 1]).run Try.prog (w.alloc (.cells cs T1)) = .ok v' w' ∧
      (Two sz1 enc1 T1 (xs ++ [y]) sz2 enc2 T2 ys b lo v' v2 (w'.setCell ⟨b, 0, none⟩ v') ∧ (w'.cell? ⟨b, 0, none⟩ = some v1 ∧ w'.cell? ⟨b, 1, none⟩ = some v2 ∧ w'.frozen? ⟨b, 0, none⟩ = false ∧ w'.frozen? ⟨b, 1, none⟩ = false) ∧ ∃ G, Chg G w (w'.setCell ⟨b, 0, none⟩ v') ∧ ∀ x ∈ G, lo ≤ x) := by
  subst hcs
  have hbe : Chg [] w (w.alloc (.cells (enc1 y).toArray T1)) := (Chg.refl _ _).alloc _
  obtain ⟨⟨h1, h2⟩, ⟨h3, h4⟩, ⟨h5, h6⟩, F1, F2, h7, h8, h9, h10, h11⟩ := h.chg hbe (by simp)
  obtain ⟨v', w', hr, F', o1, o2, hc⟩ := OwnS.append hen hone t ty T1 i z bytes ht hi hz hsz hby hzs h7 y w.heap.size 1 (fun j u hu => by
    rw [World.cell?_alloc_at _ _ _ _ rfl]; simpa using hu) (by omega) hb1
  have hbF : b ∉ F1 := fun hm => (h9 b hm).2 rfl
  have c0 := hc.cellOf hbF h3
  have c1 := hc.cellOf hbF h4
  have f0 := hc.frozenOf hbF h1 h5
  have f1 := hc.frozenOf hbF h1 h6
  have hbw : b < w'.heap.size := Nat.lt_of_lt_of_le h1 hc.size
  have hnew : ∀ x ∈ F', lo ≤ x ∧ x ≠ b := fun x hx => by
    rcases o2 x hx with h | h
    · exact h9 x h
    · omega
  have hs : Chg [b] w' (w'.setCell ⟨b, 0, none⟩ v') := (Chg.refl _ _).setCell (p := ⟨b, 0, none⟩) (by simp) v'
  have hmine := o1.chg hs (fun x hx hm => by simp at hm; exact (hnew x hx).2 hm)
  have hol := h8.lt
  have hother := (h8.chg hc (fun x hx hm => h11 x hm hx)).chg hs (fun x hx hm => by simp at hm; exact (h10 x hx).2 hm)
  have hdis : ∀ x ∈ F', x ∉ F2 := fun x hx hm => by
    rcases o2 x hx with h | h
    · exact (fun x hx hm => h11 x hm hx) x hm h
    · have := hol x hm; omega
  refine ⟨v', w', hr, ⟨⟨by simpa using hbw, h2⟩, ⟨set_same _ _ _ _ _ c0, (set_near _ _ _ _ _ (by omega)).trans c1⟩, ⟨by simpa [go_sem] using f0, by simpa [go_sem] using f1⟩, F', F2, hmine, hother, hnew, h10, fun x hx => hdis x hx⟩, ⟨c0, c1, f0, f1⟩, b :: F1, ?_, ?_⟩
  · refine ((hbe.mono (by simp)).trans (hc.mono (fun x hx => List.mem_cons_of_mem _ hx))).trans (hs.mono (by simp))
  · intro x hx
    rcases List.mem_cons.1 hx with rfl | hx
    · exact h2
    · exact (h9 x hx).1
/-- One more behind field 1, and the field is stored anew. -/
theorem Two.app2 (hen : ∀ x, (enc2 x).length = sz2) (hone : ∀ (x : β), ∀ u ∈ enc2 x, u.oneCell' = true) (t ty : TypeId) (i : TypeInfo) (z : Value) (bytes : Nat)
    (ht : Try.prog.underlying t = some (.slice T2)) (hi : Try.prog.info? T2 = some i) (hz : i.zero = some z) (hsz : i.size = sz2) (hby : i.bytes = bytes) (hzs : z.cells.size = sz2)
    (h : Two sz1 enc1 T1 xs sz2 enc2 T2 ys b lo v1 v2 w) (y : β) (cs : Array Value) (hcs : cs = (enc2 y).toArray) (hl : ys.length < 1000000) (hb1 : (ys.length + 1) * bytes ≤ 140737488355328) :
    ∃ v' w', (Builtin.append_ #[t, t] ty #[v2, .slice (some ⟨w.heap.size, 0, none⟩) 1 1]).run Try.prog (w.alloc (.cells cs T2)) = .ok v' w' ∧
      (Two sz1 enc1 T1 xs sz2 enc2 T2 (ys ++ [y]) b lo v1 v' (w'.setCell ⟨b, 1, none⟩ v') ∧ (w'.cell? ⟨b, 0, none⟩ = some v1 ∧ w'.cell? ⟨b, 1, none⟩ = some v2 ∧ w'.frozen? ⟨b, 0, none⟩ = false ∧ w'.frozen? ⟨b, 1, none⟩ = false) ∧ ∃ G, Chg G w (w'.setCell ⟨b, 1, none⟩ v') ∧ ∀ x ∈ G, lo ≤ x) := by
  subst hcs
  have hbe : Chg [] w (w.alloc (.cells (enc2 y).toArray T2)) := (Chg.refl _ _).alloc _
  obtain ⟨⟨h1, h2⟩, ⟨h3, h4⟩, ⟨h5, h6⟩, F1, F2, h7, h8, h9, h10, h11⟩ := h.chg hbe (by simp)
  obtain ⟨v', w', hr, F', o1, o2, hc⟩ := OwnS.append hen hone t ty T2 i z bytes ht hi hz hsz hby hzs h8 y w.heap.size 1 (fun j u hu => by
    rw [World.cell?_alloc_at _ _ _ _ rfl]; simpa using hu) (by omega) hb1
  have hbF : b ∉ F2 := fun hm => (h10 b hm).2 rfl
  have c0 := hc.cellOf hbF h3
  have c1 := hc.cellOf hbF h4
  have f0 := hc.frozenOf hbF h1 h5
  have f1 := hc.frozenOf hbF h1 h6
  have hbw : b < w'.heap.size := Nat.lt_of_lt_of_le h1 hc.size
  have hnew : ∀ x ∈ F', lo ≤ x ∧ x ≠ b := fun x hx => by
    rcases o2 x hx with h | h
    · exact h10 x h
    · omega
  have hs : Chg [b] w' (w'.setCell ⟨b, 1, none⟩ v') := (Chg.refl _ _).setCell (p := ⟨b, 1, none⟩) (by simp) v'
  have hmine := o1.chg hs (fun x hx hm => by simp at hm; exact (hnew x hx).2 hm)
  have hol := h7.lt
  have hother := (h7.chg hc (fun x hx hm => h11 x hx hm)).chg hs (fun x hx hm => by simp at hm; exact (h9 x hx).2 hm)
  have hdis : ∀ x ∈ F', x ∉ F1 := fun x hx hm => by
    rcases o2 x hx with h | h
    · exact (fun x hx hm => h11 x hx hm) x hm h
    · have := hol x hm; omega
  refine ⟨v', w', hr, ⟨⟨by simpa using hbw, h2⟩, ⟨(set_near _ _ _ _ _ (by omega)).trans c0, set_same _ _ _ _ _ c1⟩, ⟨by simpa [go_sem] using f0, by simpa [go_sem] using f1⟩, F1, F', hother, hmine, h9, hnew, fun x hx hm => hdis x hm hx⟩, ⟨c0, c1, f0, f1⟩, b :: F2, ?_, ?_⟩
  · refine ((hbe.mono (by simp)).trans (hc.mono (fun x hx => List.mem_cons_of_mem _ hx))).trans (hs.mono (by simp))
  · intro x hx
    rcases List.mem_cons.1 hx with rfl | hx
    · exact h2
    · exact (h10 x hx).1
end
end Go.Proofs.Ytggpnnoldjpmcaa
namespace Go.Proofs.Ytggpnnoldjpmcaa
open Go.RowKit

section
variable {α β : Type} {sz1 : Nat} {enc1 : α → List Value} {T1 : TypeId} {xs : List α} {sz2 : Nat} {enc2 : β → List Value} {T2 : TypeId} {ys : List β} {b lo : Nat} {v1 v2 : Value} {w : World}
/-- One more behind field 0, and the field is stored anew. -/
theorem Two.app1h (hen : ∀ x, (enc1 x).length = sz1) (hone : ∀ (x : α), ∀ u ∈ enc1 x, u.oneCell' = true) (t ty : TypeId) (i : TypeInfo) (z : Value) (bytes : Nat)
    (ht : Try.prog.underlying t = some (.slice T1)) (hi : Try.prog.info? T1 = some i) (hz : i.zero = some z) (hsz : i.size = sz1) (hby : i.bytes = bytes) (hzs : z.cells.size = sz1)
    {w0 : World} {G0 : List Nat} (h : Two sz1 enc1 T1 xs sz2 enc2 T2 ys b lo v1 v2 w0) (hc0 : Chg G0 w0 w) (hG0 : ∀ x ∈ G0, x < lo) (y : α) (cs : Array Value) (hcs : cs = (enc1 y).toArray) (hl : xs.length < 1000000) (hb1 : (xs.length + 1) * bytes ≤ 140737488355328) :
    ∃ v' w', (Builtin.append_ #[t, t] ty #[v1, .slice (some ⟨w.heap.size, 0, none⟩) 1 1]).run Try.prog (w.alloc (.cells cs T1)) = .ok v' w' ∧
      (Two sz1 enc1 T1 (xs ++ [y]) sz2 enc2 T2 ys b lo v' v2 (w'.setCell ⟨b, 0, none⟩ v') ∧ (w'.cell? ⟨b, 0, none⟩ = some v1 ∧ w'.cell? ⟨b, 1, none⟩ = some v2 ∧ w'.frozen? ⟨b, 0, none⟩ = false ∧ w'.frozen? ⟨b, 1, none⟩ = false) ∧ ∃ G, Chg G w (w'.setCell ⟨b, 0, none⟩ v') ∧ ∀ x ∈ G, lo ≤ x ∧ x < w0.heap.size) := by
  subst hcs
  have hbe : Chg [] w (w.alloc (.cells (enc1 y).toArray T1)) := (Chg.refl _ _).alloc _
  have hce := (hc0.trans (hbe.mono (by simp)) : Chg G0 w0 _)
  obtain ⟨⟨k1, h2⟩, ⟨k3, k4⟩, ⟨k5, k6⟩, F1, F2, k7, k8, h9, h10, h11⟩ := h
  have hlt := k7.lt
  have hbG : b ∉ G0 := fun hm => by have := hG0 b hm; omega
  have h1 := Nat.lt_of_lt_of_le k1 hce.size
  have h3 := hce.cellOf hbG k3
  have h4 := hce.cellOf hbG k4
  have h5 := hce.frozenOf hbG k1 k5
  have h6 := hce.frozenOf hbG k1 k6
  have h7 := k7.chg hce (fun x hx hm => by have := hG0 x hm; have := (h9 x hx).1; omega)
  have h8 := k8.chg hce (fun x hx hm => by have := hG0 x hm; have := (h10 x hx).1; omega)
  obtain ⟨v', w', hr, F', o1, o2, hc⟩ := OwnS.append hen hone t ty T1 i z bytes ht hi hz hsz hby hzs h7 y w.heap.size 1 (fun j u hu => by
    rw [World.cell?_alloc_at _ _ _ _ rfl]; simpa using hu) (by omega) hb1
  have hbF : b ∉ F1 := fun hm => (h9 b hm).2 rfl
  have c0 := hc.cellOf hbF h3
  have c1 := hc.cellOf hbF h4
  have f0 := hc.frozenOf hbF h1 h5
  have f1 := hc.frozenOf hbF h1 h6
  have hbw : b < w'.heap.size := Nat.lt_of_lt_of_le h1 hc.size
  have hnew : ∀ x ∈ F', lo ≤ x ∧ x ≠ b := fun x hx => by
    rcases o2 x hx with h | h
    · exact h9 x h
    · omega
  have hs : Chg [b] w' (w'.setCell ⟨b, 0, none⟩ v') := (Chg.refl _ _).setCell (p := ⟨b, 0, none⟩) (by simp) v'
  have hmine := o1.chg hs (fun x hx hm => by simp at hm; exact (hnew x hx).2 hm)
  have hol := h8.lt
  have hother := (h8.chg hc (fun x hx hm => h11 x hm hx)).chg hs (fun x hx hm => by simp at hm; exact (h10 x hx).2 hm)
  have hdis : ∀ x ∈ F', x ∉ F2 := fun x hx hm => by
    rcases o2 x hx with h | h
    · exact (fun x hx hm => h11 x hm hx) x hm h
    · have := hol x hm; omega
  refine ⟨v', w', hr, ⟨⟨by simpa using hbw, h2⟩, ⟨set_same _ _ _ _ _ c0, (set_near _ _ _ _ _ (by omega)).trans c1⟩, ⟨by simpa [go_sem] using f0, by simpa [go_sem] using f1⟩, F', F2, hmine, hother, hnew, h10, fun x hx => hdis x hx⟩, ⟨c0, c1, f0, f1⟩, b :: F1, ?_, ?_⟩
  · refine ((hbe.mono (by simp)).trans (hc.mono (fun x hx => List.mem_cons_of_mem _ hx))).trans (hs.mono (by simp))
  · intro x hx
    rcases List.mem_cons.1 hx with rfl | hx
    · exact ⟨h2, k1⟩
    · exact ⟨(h9 x hx).1, hlt x hx⟩
/-- One more behind field 1, and the field is stored anew. -/
theorem Two.app2h (hen : ∀ x, (enc2 x).length = sz2) (hone : ∀ (x : β), ∀ u ∈ enc2 x, u.oneCell' = true) (t ty : TypeId) (i : TypeInfo) (z : Value) (bytes : Nat)
    (ht : Try.prog.underlying t = some (.slice T2)) (hi : Try.prog.info? T2 = some i) (hz : i.zero = some z) (hsz : i.size = sz2) (hby : i.bytes = bytes) (hzs : z.cells.size = sz2)
    {w0 : World} {G0 : List Nat} (h : Two sz1 enc1 T1 xs sz2 enc2 T2 ys b lo v1 v2 w0) (hc0 : Chg G0 w0 w) (hG0 : ∀ x ∈ G0, x < lo) (y : β) (cs : Array Value) (hcs : cs = (enc2 y).toArray) (hl : ys.length < 1000000) (hb1 : (ys.length + 1) * bytes ≤ 140737488355328) :
    ∃ v' w', (Builtin.append_ #[t, t] ty #[v2, .slice (some ⟨w.heap.size, 0, none⟩) 1 1]).run Try.prog (w.alloc (.cells cs T2)) = .ok v' w' ∧
      (Two sz1 enc1 T1 xs sz2 enc2 T2 (ys ++ [y]) b lo v1 v' (w'.setCell ⟨b, 1, none⟩ v') ∧ (w'.cell? ⟨b, 0, none⟩ = some v1 ∧ w'.cell? ⟨b, 1, none⟩ = some v2 ∧ w'.frozen? ⟨b, 0, none⟩ = false ∧ w'.frozen? ⟨b, 1, none⟩ = false) ∧ ∃ G, Chg G w (w'.setCell ⟨b, 1, none⟩ v') ∧ ∀ x ∈ G, lo ≤ x ∧ x < w0.heap.size) := by
  subst hcs
  have hbe : Chg [] w (w.alloc (.cells (enc2 y).toArray T2)) := (Chg.refl _ _).alloc _
  have hce := (hc0.trans (hbe.mono (by simp)) : Chg G0 w0 _)
  obtain ⟨⟨k1, h2⟩, ⟨k3, k4⟩, ⟨k5, k6⟩, F1, F2, k7, k8, h9, h10, h11⟩ := h
  have hlt := k8.lt
  have hbG : b ∉ G0 := fun hm => by have := hG0 b hm; omega
  have h1 := Nat.lt_of_lt_of_le k1 hce.size
  have h3 := hce.cellOf hbG k3
  have h4 := hce.cellOf hbG k4
  have h5 := hce.frozenOf hbG k1 k5
  have h6 := hce.frozenOf hbG k1 k6
  have h7 := k7.chg hce (fun x hx hm => by have := hG0 x hm; have := (h9 x hx).1; omega)
  have h8 := k8.chg hce (fun x hx hm => by have := hG0 x hm; have := (h10 x hx).1; omega)
  obtain ⟨v', w', hr, F', o1, o2, hc⟩ := OwnS.append hen hone t ty T2 i z bytes ht hi hz hsz hby hzs h8 y w.heap.size 1 (fun j u hu => by
    rw [World.cell?_alloc_at _ _ _ _ rfl]; simpa using hu) (by omega) hb1
  have hbF : b ∉ F2 := fun hm => (h10 b hm).2 rfl
  have c0 := hc.cellOf hbF h3
  have c1 := hc.cellOf hbF h4
  have f0 := hc.frozenOf hbF h1 h5
  have f1 := hc.frozenOf hbF h1 h6
  have hbw : b < w'.heap.size := Nat.lt_of_lt_of_le h1 hc.size
  have hnew : ∀ x ∈ F', lo ≤ x ∧ x ≠ b := fun x hx => by
    rcases o2 x hx with h | h
    · exact h10 x h
    · omega
  have hs : Chg [b] w' (w'.setCell ⟨b, 1, none⟩ v') := (Chg.refl _ _).setCell (p := ⟨b, 1, none⟩) (by simp) v'
  have hmine := o1.chg hs (fun x hx hm => by simp at hm; exact (hnew x hx).2 hm)
  have hol := h7.lt
  have hother := (h7.chg hc (fun x hx hm => h11 x hx hm)).chg hs (fun x hx hm => by simp at hm; exact (h9 x hx).2 hm)
  have hdis : ∀ x ∈ F', x ∉ F1 := fun x hx hm => by
    rcases o2 x hx with h | h
    · exact (fun x hx hm => h11 x hx hm) x hm h
    · have := hol x hm; omega
  refine ⟨v', w', hr, ⟨⟨by simpa using hbw, h2⟩, ⟨(set_near _ _ _ _ _ (by omega)).trans c0, set_same _ _ _ _ _ c1⟩, ⟨by simpa [go_sem] using f0, by simpa [go_sem] using f1⟩, F1, F', hother, hmine, h9, hnew, fun x hx hm => hdis x hm hx⟩, ⟨c0, c1, f0, f1⟩, b :: F2, ?_, ?_⟩
  · refine ((hbe.mono (by simp)).trans (hc.mono (fun x hx => List.mem_cons_of_mem _ hx))).trans (hs.mono (by simp))
  · intro x hx
    rcases List.mem_cons.1 hx with rfl | hx
    · exact ⟨h2, k1⟩
    · exact ⟨(h10 x hx).1, hlt x hx⟩
end
/-- A walk in the making, in the variable in block b. -/
abbrev WTwo (ns es : List Int) (b lo : Nat) (v1 v2 : Value) (w : World) : Prop := Two 1 intCells 3 ns 1 intCells 3 es b lo v1 v2 w
theorem appA {b lo : Nat} {v1 v2 : Value} {w w0 : World} {ns es : List Int} {G0 : List Nat} (h : WTwo ns es b lo v1 v2 w0) (hc0 : Chg G0 w0 w) (hG0 : ∀ x ∈ G0, x < lo) (x : Int) (hl : ns.length < 1000000) :
    ∃ v' w', (Builtin.append_ #[43, 43] 43 #[v1, .slice (some ⟨w.heap.size, 0, none⟩) 1 1]).run Try.prog (w.alloc (.cells #[.int .i64 x] 3)) = .ok v' w' ∧
      (WTwo (ns ++ [x]) es b lo v' v2 (w'.setCell ⟨b, 0, none⟩ v') ∧ (w'.cell? ⟨b, 0, none⟩ = some v1 ∧ w'.cell? ⟨b, 1, none⟩ = some v2 ∧ w'.frozen? ⟨b, 0, none⟩ = false ∧ w'.frozen? ⟨b, 1, none⟩ = false) ∧ (∃ p c, v' = .slice p (ns.length + 1) c) ∧ ∃ G, Chg G w (w'.setCell ⟨b, 0, none⟩ v') ∧ ∀ x ∈ G, lo ≤ x ∧ x < w0.heap.size) := by
  obtain ⟨i, hi, hz, hs, hb⟩ := infoI
  obtain ⟨v', w', h1, h2, h3, h4⟩ := Two.app1h (enc1 := intCells) (sz1 := 1) (fun _ => rfl) (fun x u hu => by simp [intCells] at hu; subst hu; rfl) 43 43 i _ 8 Try.underlying43 hi hz hs hb (by decide) h hc0 hG0 x _ rfl hl (by omega)
  refine ⟨v', w', h1, h2, h3, ?_, h4⟩
  obtain ⟨_, _, _, F1, F2, o1, o2, _⟩ := h2
  simpa using OwnS.form o1
theorem appB {b lo : Nat} {v1 v2 : Value} {w w0 : World} {ns es : List Int} {G0 : List Nat} (h : WTwo ns es b lo v1 v2 w0) (hc0 : Chg G0 w0 w) (hG0 : ∀ x ∈ G0, x < lo) (x : Int) (hl : es.length < 1000000) :
    ∃ v' w', (Builtin.append_ #[43, 43] 43 #[v2, .slice (some ⟨w.heap.size, 0, none⟩) 1 1]).run Try.prog (w.alloc (.cells #[.int .i64 x] 3)) = .ok v' w' ∧
      (WTwo ns (es ++ [x]) b lo v1 v' (w'.setCell ⟨b, 1, none⟩ v') ∧ (w'.cell? ⟨b, 0, none⟩ = some v1 ∧ w'.cell? ⟨b, 1, none⟩ = some v2 ∧ w'.frozen? ⟨b, 0, none⟩ = false ∧ w'.frozen? ⟨b, 1, none⟩ = false) ∧ (∃ p c, v' = .slice p (es.length + 1) c) ∧ ∃ G, Chg G w (w'.setCell ⟨b, 1, none⟩ v') ∧ ∀ x ∈ G, lo ≤ x ∧ x < w0.heap.size) := by
  obtain ⟨i, hi, hz, hs, hb⟩ := infoI
  obtain ⟨v', w', h1, h2, h3, h4⟩ := Two.app2h (enc2 := intCells) (sz2 := 1) (fun _ => rfl) (fun x u hu => by simp [intCells] at hu; subst hu; rfl) 43 43 i _ 8 Try.underlying43 hi hz hs hb (by decide) h hc0 hG0 x _ rfl hl (by omega)
  refine ⟨v', w', h1, h2, h3, ?_, h4⟩
  obtain ⟨_, _, _, F1, F2, o1, o2, _⟩ := h2
  simpa using OwnS.form o2
theorem WTwo.has {ns es : List Int} {w : World} {b lo : Nat} {v1 v2 : Value} (h : WTwo ns es b lo v1 v2 w) : ∃ F, (⟨ns, es⟩ : Wk).Has (.agg #[v1, v2]) F w ∧ ∀ x ∈ F, lo ≤ x ∧ x ≠ b := by
  obtain ⟨_, _, _, F1, F2, h7, h8, h9, h10, h11⟩ := h
  refine ⟨F1 ++ F2, ⟨_, _, F1, F2, rfl, rfl, OwnS.own (enc := intCells) (fun _ => rfl) h7, OwnS.own (enc := intCells) (fun _ => rfl) h8, h11⟩, fun x hx => ?_⟩
  rcases List.mem_append.1 hx with h | h
  · exact h9 x h
  · exact h10 x h
end Go.Proofs.Ytggpnnoldjpmcaa
namespace Go.Proofs.Ytggpnnoldjpmcaa
open Go.RowKit

/-- The first append: onto an empty row. -/
theorem onto_none {E : World} {s u : Value} {ys : List Int} {B : Nat} (h : OwnI E s [] []) (hu : Sl 1 intCells B E u ys) (hl : ys.length ≤ 3000000) (ty : TypeId) :
    ∃ v' w', (Builtin.append_ #[43, 43] ty #[s, u]).run Try.prog E = .ok v' w' ∧ ∃ F, OwnI w' v' ys F ∧ (∀ y ∈ F, E.heap.size ≤ y) ∧ Below E.heap.size E w' := by
  obtain ⟨v', w', hr, F, h1, h2, h3⟩ := app_ints h hu (by simpa using hl) ty
  exact ⟨v', w', hr, F, by simpa using h1, fun y hy => by rcases h2 y hy with h | h; (simp at h); exact h, h3.below (Nat.le_refl _) (by simp)⟩
/-- A walk's two rows, both in whole blocks of the call's own. -/
def WRows (x : Wk) (v : Value) (lo : Nat) (w : World) : Prop := ∃ a b F1 F2, v = .agg #[a, b] ∧ OwnI w a x.ns F1 ∧ OwnI w b x.es F2 ∧ (∀ y ∈ F1, lo ≤ y) ∧ (∀ y ∈ F2, lo ≤ y) ∧ ∀ y ∈ F1, y ∉ F2

set_option maxRecDepth 100000 in
set_option maxHeartbeats 8000000 in
theorem l5Copy_any (x : Wk) (v : Value) (B : Nat) (w : World) (hx : x.At B w v) (hB : B ≤ w.heap.size) (hn : x.need ≤ 1048576) :
    Calls Try.prog 105 #[v] w fun e w' => ∃ u, e = .returned u ∧ WRows x u w.heap.size w' ∧ Below w.heap.size w w' := by
  obtain ⟨v0, v1, rfl, h0, h1⟩ := hx
  obtain ⟨p, cp, rfl⟩ := h0.form
  obtain ⟨q, cq, rfl⟩ := h1.form
  have HAN := Lib.hid h0
  have HAE := Lib.hid h1
  have hb1 : x.ns.length ≤ 1048576 := by unfold Wk.need at hn; omega
  have hb2 : x.es.length ≤ 1048576 := by unfold Wk.need at hn; omega
  clear h0 h1 hn
  obtain ⟨W, eW⟩ : ∃ W, W = (w.alloc (.cells #[.slice p x.ns.length cp, .slice q x.es.length cq] 50)).alloc (.cells #[.slice none 0 0, .slice none 0 0] 50) := ⟨_, rfl⟩
  have HV := Lib.hid (show Below w.heap.size w W by rw [eW]; exact ((Below.refl _ _).alloc (Nat.le_refl _) _).alloc (by simp) _)
  have hs0 : w.heap.size + 2 ≤ W.heap.size := by rw [eW]; simp
  have HK := Lib.hid (show ∀ wk, Below (w.heap.size + 1) W wk → wk.cell? ⟨w.heap.size, 0, none⟩ = some (.slice p x.ns.length cp) ∧ wk.cell? ⟨w.heap.size, 1, none⟩ = some (.slice q x.es.length cq) from
    fun wk hk => by rw [eW] at hk; exact ⟨keepc hk (by omega) (by simp [go_sem]), keepc hk (by omega) (by simp [go_sem])⟩)
  have HKR := Lib.hid (show ∀ wk, Below (w.heap.size + 2) W wk → wk.cell? ⟨w.heap.size + 1, 0, none⟩ = some (.slice none 0 0) ∧ wk.cell? ⟨w.heap.size + 1, 1, none⟩ = some (.slice none 0 0) ∧ wk.frozen? ⟨w.heap.size + 1, 0, none⟩ = false ∧ wk.frozen? ⟨w.heap.size + 1, 1, none⟩ = false from
    fun wk hk => by
      rw [eW] at hk
      exact ⟨keepc hk (by omega) (by simp [go_sem]), keepc hk (by omega) (by simp [go_sem]), (hk.frozen (p := ⟨w.heap.size + 1, 0, none⟩) (by show w.heap.size + 1 < w.heap.size + 2; omega)).trans (World.frozen?_alloc_at _ _ _ _ (by simp)), (hk.frozen (p := ⟨w.heap.size + 1, 1, none⟩) (by show w.heap.size + 1 < w.heap.size + 2; omega)).trans (World.frozen?_alloc_at _ _ _ _ (by simp))⟩)
  have rr0 := Below.refl (w.heap.size + 2) W
  have rr2 := Below.refl (w.heap.size + 1) W
  have EW := Lib.hid eW
  clear eW
  have CA1 := Lib.hid (fun (E : World) (hE : Below (w.heap.size + 2) W E) (G : Option Addr) (ty : TypeId) => onto_none (OwnI.empty E G) (HAN.out.below ((HV.out.mono hB).trans (hE.mono (by omega)))) (by omega) ty)
  have CB1 := Lib.hid (fun (E : World) (hE : Below (w.heap.size + 2) W E) (G : Option Addr) (ty : TypeId) => onto_none (OwnI.empty E G) (HAE.out.below ((HV.out.mono hB).trans (hE.mono (by omega)))) (by omega) ty)
  go_enter Try.func105, Try.ntmps105
  go_wp2_with fail
  rw [← EW.out]
  go_region_held3 (fun w' => w'.cell? ⟨w.heap.size, 0, none⟩ = some (.slice p x.ns.length cp) ∧ w'.cell? ⟨w.heap.size, 1, none⟩ = some (.slice q x.es.length cq))
    (exact HK.out _ (show Below (w.heap.size + 1) W _ by ((repeat (first | with_reducible assumption | with_reducible exact Below.refl _ _ | refine Below.setCell ?_ (by (first | omega | (simp; omega) | (simp; done) | fail "sml")) _ | refine Below.drew ?_ | refine Below.alloc ?_ (by (first | omega | (simp; omega) | (simp; done) | fail "sml")) _)); first | done | fail "chs")))
    (first
      | (refine step_app_src (by rfl) (.tmp 3) (.tmp 5) 43 (by rfl) _ _ (by rfl) (by rfl) _ (CA1.out _ ?_ _ _) ?_; (· ((repeat (first | with_reducible assumption | with_reducible exact Below.refl _ _ | refine Below.setCell ?_ (by (first | omega | (simp; omega) | (simp; done) | fail "sml")) _ | refine Below.drew ?_ | refine Below.alloc ?_ (by (first | omega | (simp; omega) | (simp; done) | fail "sml")) _)); first | done | fail "chs")); intro vA1 wA1 hv; obtain ⟨FA, h1, h2, h3⟩ := hv; obtain ⟨pA, qA, rfl⟩ := h1.form; have hkA1 := Below.trans (show Below (w.heap.size + 2) W _ by ((repeat (first | with_reducible assumption | with_reducible exact Below.refl _ _ | refine Below.setCell ?_ (by (first | omega | (simp; omega) | (simp; done) | fail "sml")) _ | refine Below.drew ?_ | refine Below.alloc ?_ (by (first | omega | (simp; omega) | (simp; done) | fail "sml")) _)); first | done | fail "chs")) (h3.mono (by (first | omega | (simp; omega) | (simp; done) | fail "sml"))); have zA1 := hkA1.size; obtain ⟨yA0, yA1, yA2, yA3⟩ := HKR.out _ hkA1; have hmA1 := hkA1.mono (Nat.le_succ (w.heap.size + 1)); have rA1 := Below.refl wA1.heap.size wA1; (first | (have sA1 := Below.trans (show Below wB1.heap.size wB1 _ by ((repeat (first | with_reducible assumption | with_reducible exact Below.refl _ _ | refine Below.setCell ?_ (by (first | omega | (simp; omega) | (simp; done) | fail "sml")) _ | refine Below.drew ?_ | refine Below.alloc ?_ (by (first | omega | (simp; omega) | (simp; done) | fail "sml")) _)); first | done | fail "chs")) (h3.mono (by (first | omega | (simp; omega) | (simp; done) | fail "sml")))) | skip); have OA := Lib.hid h1; have GA := Lib.hid (show ∀ y ∈ FA, W.heap.size ≤ y from fun y hy => by have h9 := h2 y hy; (try simp at h9); omega); have EA := Lib.hid h2; clear h1 h2 h3)
      | (refine step_app_src (by rfl) (.tmp 7) (.tmp 9) 43 (by rfl) _ _ (by rfl) (by rfl) _ (CB1.out _ ?_ _ _) ?_; (· ((repeat (first | with_reducible assumption | with_reducible exact Below.refl _ _ | refine Below.setCell ?_ (by (first | omega | (simp; omega) | (simp; done) | fail "sml")) _ | refine Below.drew ?_ | refine Below.alloc ?_ (by (first | omega | (simp; omega) | (simp; done) | fail "sml")) _)); first | done | fail "chs")); intro vB1 wB1 hv; obtain ⟨FB, h1, h2, h3⟩ := hv; obtain ⟨pB, qB, rfl⟩ := h1.form; have hkB1 := Below.trans (show Below (w.heap.size + 2) W _ by ((repeat (first | with_reducible assumption | with_reducible exact Below.refl _ _ | refine Below.setCell ?_ (by (first | omega | (simp; omega) | (simp; done) | fail "sml")) _ | refine Below.drew ?_ | refine Below.alloc ?_ (by (first | omega | (simp; omega) | (simp; done) | fail "sml")) _)); first | done | fail "chs")) (h3.mono (by (first | omega | (simp; omega) | (simp; done) | fail "sml"))); have zB1 := hkB1.size; obtain ⟨yB0, yB1, yB2, yB3⟩ := HKR.out _ hkB1; have hmB1 := hkB1.mono (Nat.le_succ (w.heap.size + 1)); have rB1 := Below.refl wB1.heap.size wB1; (first | (have sB1 := Below.trans (show Below wA1.heap.size wA1 _ by ((repeat (first | with_reducible assumption | with_reducible exact Below.refl _ _ | refine Below.setCell ?_ (by (first | omega | (simp; omega) | (simp; done) | fail "sml")) _ | refine Below.drew ?_ | refine Below.alloc ?_ (by (first | omega | (simp; omega) | (simp; done) | fail "sml")) _)); first | done | fail "chs")) (h3.mono (by (first | omega | (simp; omega) | (simp; done) | fail "sml")))) | skip); have OB := Lib.hid h1; have GB := Lib.hid (show ∀ y ∈ FB, W.heap.size ≤ y from fun y hy => by have h9 := h2 y hy; (try simp at h9); omega); have EB := Lib.hid h2; clear h1 h2 h3)
      | fail "no arm")
  all_goals go_wp2_with fail
  all_goals first
    | exact bodyPost_ret (v := .agg #[.slice pA x.ns.length qA, .slice pB x.es.length qB]) (by simp [results, Try.results105, go_sem, yA0, yA1]) rfl ⟨_, rfl, ⟨_, _, FA, FB, rfl, OA.out.chg (G := [w.heap.size + 1]) (((Chg.refl _ _).setCell (by simp) _).setCell (by simp) _) (fun y hy => by have := GA.out y hy; simp; omega), (OB.out.below sA1).chg (G := [w.heap.size + 1]) (((Chg.refl _ _).setCell (by simp) _).setCell (by simp) _) (fun y hy => by have := GB.out y hy; simp; omega), fun y hy => by have := GA.out y hy; omega, fun y hy => by have := GB.out y hy; omega, fun y hy hy2 => by have h9 := EA.out y hy; have h8 := OB.out.lt y hy2; (try simp at h9); omega⟩, ((HV.out.trans (hkA1.mono (by omega))).setCell (by (first | omega | (simp; omega) | (simp; done) | fail "sml")) _).setCell (by (first | omega | (simp; omega) | (simp; done) | fail "sml")) _⟩
    | exact bodyPost_ret (v := .agg #[.slice pA x.ns.length qA, .slice pB x.es.length qB]) (by simp [results, Try.results105, go_sem, yB0, yB1]) rfl ⟨_, rfl, ⟨_, _, FA, FB, rfl, (OA.out.below sB1).chg (G := [w.heap.size + 1]) (((Chg.refl _ _).setCell (by simp) _).setCell (by simp) _) (fun y hy => by have := GA.out y hy; simp; omega), OB.out.chg (G := [w.heap.size + 1]) (((Chg.refl _ _).setCell (by simp) _).setCell (by simp) _) (fun y hy => by have := GB.out y hy; simp; omega), fun y hy => by have := GA.out y hy; omega, fun y hy => by have := GB.out y hy; omega, fun y hy hy2 => by have h9 := EB.out y hy2; have h8 := OA.out.lt y hy; (try simp at h9); omega⟩, ((HV.out.trans (hkB1.mono (by omega))).setCell (by (first | omega | (simp; omega) | (simp; done) | fail "sml")) _).setCell (by (first | omega | (simp; omega) | (simp; done) | fail "sml")) _⟩
    | fail "end"
end Go.Proofs.Ytggpnnoldjpmcaa
namespace Go.Proofs.Ytggpnnoldjpmcaa
open Go.RowKit

/-- A new walk, laid into a variable. -/
theorem wk_end {x : Wk} {B k : Nat} {wk : World} {s1 s2 : Value} {F1 F2 : List Nat} (h1 : OwnSl 1 intCells wk s1 x.ns F1) (h2 : OwnSl 1 intCells wk s2 x.es F2) (g1 : ∀ y ∈ F1, B ≤ y) (g2 : ∀ y ∈ F2, B ≤ y) (hk : k < B) (hd : ∀ y ∈ F1, y ∉ F2) :
    x.Has (.agg #[s1, s2]) (F1 ++ F2) ((wk.setCell ⟨k, 0, none⟩ s1).setCell ⟨k, 1, none⟩ s2) :=
  ⟨s1, s2, F1, F2, rfl, rfl, h1.chg (G := [k]) (((Chg.refl _ _).setCell (by simp) _).setCell (by simp) _) (fun y hy => by have := g1 y hy; simp; omega), h2.chg (G := [k]) (((Chg.refl _ _).setCell (by simp) _).setCell (by simp) _) (fun y hy => by have := g2 y hy; simp; omega), hd⟩

end Go.Proofs.Ytggpnnoldjpmcaa
namespace Go.Proofs.Ytggpnnoldjpmcaa
open Go.RowKit

/-- A block of two cells. -/
def Pr (w : World) (b : Nat) (u v : Value) : Prop := w.cell? ⟨b, 0, none⟩ = some u ∧ w.cell? ⟨b, 1, none⟩ = some v
theorem Pr.keep {w w' : World} {B b : Nat} {u v : Value} (hb : Below B w w') (h : b < B) (hp : Pr w b u v) : Pr w' b u v := ⟨keepc hb h hp.1, keepc hb h hp.2⟩
def wkExt (x : Wk) (ns es : List Int) : Wk := ⟨x.ns ++ ns, x.es ++ es⟩
theorem concat2 (xs ys : List Int) (u v : Value) (B : Nat) (E : World) (b : Nat) (hu : Sl 1 intCells B E u xs) (hv : Sl 1 intCells B E v ys) (hB : B ≤ E.heap.size) (hp : Pr E b u v) (hl : xs.length + ys.length ≤ 3000000) :
    Calls Try.prog 123 #[.slice (some ⟨b, 0, none⟩) 2 2] E fun e w' => ∃ v' F, e = .returned v' ∧ OwnSl 1 intCells w' v' (xs ++ ys) F ∧ (∀ y ∈ F, E.heap.size ≤ y) ∧ Below E.heap.size E w' := by
  have h := concatInt_any [(u, xs), (v, ys)] b 2 B E (fun i hi => by
    match i, hi with
    | 0, _ => exact hp.1
    | 1, _ => exact hp.2) (fun i hi => by
    match i, hi with
    | 0, _ => exact hu
    | 1, _ => exact hv) hB (by simp) (by simp [upTo]; omega) (World.block_lt_of_cell? E _ hp.1)
  have hj : joined [(u, xs), (v, ys)] [(u, xs), (v, ys)].length = xs ++ ys := by simp [joined]
  rw [hj] at h
  exact h

set_option maxRecDepth 100000 in
set_option maxHeartbeats 16000000 in
theorem extendWalk_any (x : Wk) (ns es : List Int) (v vn ve : Value) (B : Nat) (w : World) (hx : x.At B w v) (hns : Sl 1 intCells B w vn ns) (hes : Sl 1 intCells B w ve es) (hB : B ≤ w.heap.size) (hn : x.need ≤ 1048576) (hn1 : ns.length ≤ 1048576) (hn2 : es.length ≤ 1048576) :
    Calls Try.prog 112 #[v, vn, ve] w fun e w' => ∃ v' F, e = .returned v' ∧ (wkExt x ns es).Has v' F w' ∧ (∀ y ∈ F, w.heap.size ≤ y) ∧ Below w.heap.size w w' := by
  obtain ⟨a, b, rfl, ha, hb⟩ := hx
  obtain ⟨p, cp, rfl⟩ := ha.form
  obtain ⟨q, cq, rfl⟩ := hb.form
  obtain ⟨pn, cn, rfl⟩ := hns.form
  obtain ⟨pe, ce, rfl⟩ := hes.form
  have H1 := Lib.hid ha
  have H2 := Lib.hid hb
  have H3 := Lib.hid hns
  have H4 := Lib.hid hes
  have hl1 : x.ns.length ≤ 1048576 := by unfold Wk.need at hn; omega
  have hl2 : x.es.length ≤ 1048576 := by unfold Wk.need at hn; omega
  clear ha hb hn hns hes
  obtain ⟨W, eW⟩ : ∃ W, W = (w.alloc (.cells #[.slice p x.ns.length cp, .slice q x.es.length cq] 50)).alloc (.cells #[.slice none 0 0, .slice none 0 0] 50) := ⟨_, rfl⟩
  have HV := Lib.hid (show Below w.heap.size w W by rw [eW]; exact two_more (Nat.le_refl _) _ _)
  have hs0 : w.heap.size + 2 ≤ W.heap.size := by rw [eW]; simp
  have HK := Lib.hid (show ∀ wk, Below W.heap.size W wk → w.heap.size + 2 ≤ wk.heap.size ∧ wk.cell? ⟨w.heap.size, 0, none⟩ = some (.slice p x.ns.length cp) ∧ wk.cell? ⟨w.heap.size, 1, none⟩ = some (.slice q x.es.length cq) ∧ wk.cell? ⟨w.heap.size + 1, 0, none⟩ = some (.slice none 0 0) ∧ wk.cell? ⟨w.heap.size + 1, 1, none⟩ = some (.slice none 0 0) from
    fun wk hk => by rw [eW] at hk; exact two_boxes (hk.mono (by simp)))
  have HKA := Lib.hid (show ∀ wk, Below (w.heap.size + 1) W wk → wk.cell? ⟨w.heap.size, 0, none⟩ = some (.slice p x.ns.length cp) ∧ wk.cell? ⟨w.heap.size, 1, none⟩ = some (.slice q x.es.length cq) from
    fun wk hk => ⟨keepc hk (by omega) (HK.out _ (Below.refl _ _)).2.1, keepc hk (by omega) (HK.out _ (Below.refl _ _)).2.2.1⟩)
  have HKF := Lib.hid (show ∀ wk, Below W.heap.size W wk → ∀ o, wk.frozen? ⟨w.heap.size + 1, o, none⟩ = false from
    fun wk hk o => by
      rw [eW] at hk
      exact (hk.frozen (p := ⟨w.heap.size + 1, o, none⟩) (by simp)).trans (World.frozen?_alloc_at _ _ _ _ (by simp)))
  have CN := Lib.hid (fun (E : World) (hE : Below W.heap.size W E) (bb : Nat) (hp : Pr E bb (.slice p x.ns.length cp) (.slice pn ns.length cn)) => concat2 x.ns ns _ _ B E bb (H1.out.below ((HV.out.mono hB).trans (hE.mono (by omega)))) (H3.out.below ((HV.out.mono hB).trans (hE.mono (by omega)))) (by have := hE.size; omega) hp (by omega))
  have CE := Lib.hid (fun (E : World) (hE : Below W.heap.size W E) (bb : Nat) (hp : Pr E bb (.slice q x.es.length cq) (.slice pe es.length ce)) => concat2 x.es es _ _ B E bb (H2.out.below ((HV.out.mono hB).trans (hE.mono (by omega)))) (H4.out.below ((HV.out.mono hB).trans (hE.mono (by omega)))) (by have := hE.size; omega) hp (by omega))
  have EW := Lib.hid eW
  clear eW
  go_enter Try.func112, Try.ntmps112
  go_wp2_with fail
  rw [← EW.out]
  have rr0 := Below.refl W.heap.size W
  have rr1 := Below.refl (w.heap.size + 1) W
  go_region_held3 (fun w' => w'.cell? ⟨w.heap.size, 0, none⟩ = some (.slice p x.ns.length cp) ∧ w'.cell? ⟨w.heap.size, 1, none⟩ = some (.slice q x.es.length cq))
    (exact HKA.out _ (show Below (w.heap.size + 1) W _ by ((repeat (first | with_reducible assumption | with_reducible exact Below.refl _ _ | refine Below.setCell ?_ (by (first | omega | (simp; omega) | (simp; done) | fail "sml")) _ | refine Below.drew ?_ | refine Below.alloc ?_ (by (first | omega | (simp; omega) | (simp; done) | fail "sml")) _)); first | done | fail "chs")))
    (first
      | (go_at_call 123; with_reducible refine Calls.mono (CN.out _ ?_ _ ?_) ?_; (· ((repeat (first | with_reducible assumption | with_reducible exact Below.refl _ _ | refine Below.setCell ?_ (by (first | omega | (simp; omega) | (simp; done) | fail "sml")) _ | refine Below.drew ?_ | refine Below.alloc ?_ (by (first | omega | (simp; omega) | (simp; done) | fail "sml")) _)); first | done | fail "chs")); (· (first | with_reducible assumption | (unfold Pr; constructor <;> (simp [go_sem]; done)) | fail "pr")); rintro en w1 ⟨v1, F1, rfl, ho1, hf1, hb1⟩; have hk1 := Below.trans (show Below W.heap.size W _ by ((repeat (first | with_reducible assumption | with_reducible exact Below.refl _ _ | refine Below.setCell ?_ (by (first | omega | (simp; omega) | (simp; done) | fail "sml")) _ | refine Below.drew ?_ | refine Below.alloc ?_ (by (first | omega | (simp; omega) | (simp; done) | fail "sml")) _)); first | done | fail "chs")) (hb1.mono (by (first | omega | (simp; omega) | (simp; done) | fail "sml"))); have z1 := hk1.size; have hk1s := hk1.mono (show w.heap.size + 1 ≤ W.heap.size by omega); obtain ⟨y0, _, _, y1, y2⟩ := HK.out _ hk1; have y3 := HKF.out _ hk1 0; have y4 := HKF.out _ hk1 1; have r1 := Below.refl w1.heap.size w1; (first | (have r12 := Below.trans (show Below w2.heap.size w2 _ by ((repeat (first | with_reducible assumption | with_reducible exact Below.refl _ _ | refine Below.setCell ?_ (by (first | omega | (simp; omega) | (simp; done) | fail "sml")) _ | refine Below.drew ?_ | refine Below.alloc ?_ (by (first | omega | (simp; omega) | (simp; done) | fail "sml")) _)); first | done | fail "chs")) (hb1.mono (by (first | omega | (simp; omega) | (simp; done) | fail "sml")))) | skip); (first | (have ue0 := Pr.keep (u := (.slice q x.es.length cq)) (v := (.slice pe es.length ce)) (b := W.heap.size) hb1 (by (first | omega | (simp; omega) | (simp; done) | fail "sml")) (by (first | with_reducible assumption | (unfold Pr; constructor <;> (simp [go_sem]; done)) | fail "pr"))) | skip); (first | (have ue1 := Pr.keep (u := (.slice q x.es.length cq)) (v := (.slice pe es.length ce)) (b := W.heap.size + 1) hb1 (by (first | omega | (simp; omega) | (simp; done) | fail "sml")) (by (first | with_reducible assumption | (unfold Pr; constructor <;> (simp [go_sem]; done)) | fail "pr"))) | skip); obtain ⟨p1, q1, rfl⟩ := ho1.sl.form; rw [List.length_append] at ho1; have O1 := Lib.hid ho1; have G1 := Lib.hid (show ∀ y ∈ F1, W.heap.size ≤ y from fun y hy => by have h1 := hf1 y hy; (try simp at h1); omega); have D1 := Lib.hid hf1; clear ho1 hf1 hb1)
      | (go_at_call 123; with_reducible refine Calls.mono (CE.out _ ?_ _ ?_) ?_; (· ((repeat (first | with_reducible assumption | with_reducible exact Below.refl _ _ | refine Below.setCell ?_ (by (first | omega | (simp; omega) | (simp; done) | fail "sml")) _ | refine Below.drew ?_ | refine Below.alloc ?_ (by (first | omega | (simp; omega) | (simp; done) | fail "sml")) _)); first | done | fail "chs")); (· (first | with_reducible assumption | (unfold Pr; constructor <;> (simp [go_sem]; done)) | fail "pr")); rintro en w2 ⟨v2, F2, rfl, ho2, hf2, hb2⟩; have hk2 := Below.trans (show Below W.heap.size W _ by ((repeat (first | with_reducible assumption | with_reducible exact Below.refl _ _ | refine Below.setCell ?_ (by (first | omega | (simp; omega) | (simp; done) | fail "sml")) _ | refine Below.drew ?_ | refine Below.alloc ?_ (by (first | omega | (simp; omega) | (simp; done) | fail "sml")) _)); first | done | fail "chs")) (hb2.mono (by (first | omega | (simp; omega) | (simp; done) | fail "sml"))); have z2 := hk2.size; have hk2s := hk2.mono (show w.heap.size + 1 ≤ W.heap.size by omega); obtain ⟨x0, _, _, x1, x2⟩ := HK.out _ hk2; have x3 := HKF.out _ hk2 0; have x4 := HKF.out _ hk2 1; have r2 := Below.refl w2.heap.size w2; (first | (have r21 := Below.trans (show Below w1.heap.size w1 _ by ((repeat (first | with_reducible assumption | with_reducible exact Below.refl _ _ | refine Below.setCell ?_ (by (first | omega | (simp; omega) | (simp; done) | fail "sml")) _ | refine Below.drew ?_ | refine Below.alloc ?_ (by (first | omega | (simp; omega) | (simp; done) | fail "sml")) _)); first | done | fail "chs")) (hb2.mono (by (first | omega | (simp; omega) | (simp; done) | fail "sml")))) | skip); (first | (have un0 := Pr.keep (u := (.slice p x.ns.length cp)) (v := (.slice pn ns.length cn)) (b := W.heap.size) hb2 (by (first | omega | (simp; omega) | (simp; done) | fail "sml")) (by (first | with_reducible assumption | (unfold Pr; constructor <;> (simp [go_sem]; done)) | fail "pr"))) | skip); (first | (have un1 := Pr.keep (u := (.slice p x.ns.length cp)) (v := (.slice pn ns.length cn)) (b := W.heap.size + 1) hb2 (by (first | omega | (simp; omega) | (simp; done) | fail "sml")) (by (first | with_reducible assumption | (unfold Pr; constructor <;> (simp [go_sem]; done)) | fail "pr"))) | skip); obtain ⟨p2, q2, rfl⟩ := ho2.sl.form; rw [List.length_append] at ho2; have O2 := Lib.hid ho2; have G2 := Lib.hid (show ∀ y ∈ F2, W.heap.size ≤ y from fun y hy => by have h1 := hf2 y hy; (try simp at h1); omega); have D2 := Lib.hid hf2; clear ho2 hf2 hb2))
  all_goals go_wp2_with fail
  all_goals first
    | exact bodyPost_ret (v := .agg #[.slice p1 (x.ns.length + ns.length) q1, .slice p2 (x.es.length + es.length) q2]) (by simp [results, Try.results112, go_sem, x1, x2]) rfl ⟨_, F1 ++ F2, rfl, wk_end (O1.out.below r21) O2.out G1.out G2.out (by omega) (fun y hy hy2 => by have a1 := O1.out.lt y hy; have b2 := D2.out y hy2; (try simp at b2); omega), (fun y hy => by rcases List.mem_append.1 hy with h | h; (have := G1.out y h; omega); (have := G2.out y h; omega)), ((HV.out.trans (hk2.mono (by omega))).setCell (by simp) _).setCell (by simp) _⟩
    | exact bodyPost_ret (v := .agg #[.slice p1 (x.ns.length + ns.length) q1, .slice p2 (x.es.length + es.length) q2]) (by simp [results, Try.results112, go_sem, y1, y2]) rfl ⟨_, F1 ++ F2, rfl, wk_end O1.out (O2.out.below r12) G1.out G2.out (by omega) (fun y hy hy2 => by have a1 := O2.out.lt y hy2; have b2 := D1.out y hy; (try simp at b2); omega), (fun y hy => by rcases List.mem_append.1 hy with h | h; (have := G1.out y h; omega); (have := G2.out y h; omega)), ((HV.out.trans (hk1.mono (by omega))).setCell (by simp) _).setCell (by simp) _⟩
    | fail "end"
end Go.Proofs.Ytggpnnoldjpmcaa
namespace Go.Proofs.Ytggpnnoldjpmcaa
open Go.RowKit
namespace Kd
variable {α : Type}
theorem ORow.upd {K : Kd α} {w : World} : ∀ {xs : List α} {c : Nat → Option Value} {F : List Nat}, K.ORow w xs c F → ∀ (k : Nat) (hk : k < xs.length), ∃ cs F1, (∀ y ∈ F1, y ∈ F) ∧ (∀ j u, cs[j]? = some u → c (k * K.sz + j) = some u) ∧ K.ow w xs[k] cs F1 ∧
    ∀ (w' : World) (x' : α) (cs' : List Value) (c' : Nat → Option Value) (G : List Nat), Chg (G ++ F1) w w' → (∀ y ∈ G, y ∉ F) → K.ow w' x' cs' F1 → (∀ j u, cs'[j]? = some u → c' (k * K.sz + j) = some u) → (∀ i, (i < k * K.sz ∨ (k + 1) * K.sz ≤ i) → c' i = c i) → K.ORow w' (xs.set k x') c' F
  | [], _, _, _, k, hk => by simp at hk
  | x :: xs, c, F, h, k, hk => by
    obtain ⟨cs, F1, F2, rfl, hdj, h0, h1, h2⟩ := h
    have hl := K.rd_len (K.ow_rd h1)
    cases k with
    | zero =>
      refine ⟨cs, F1, fun y hy => List.mem_append_left _ hy, fun j u hu => by rw [Nat.zero_mul, Nat.zero_add]; exact h0 j u hu, h1, fun w' x' cs' c' G hc hG ho hcs hcc => ?_⟩
      refine ⟨cs', F1, F2, rfl, hdj, fun j u hu => by have := hcs j u hu; rwa [Nat.zero_mul, Nat.zero_add] at this, ho, h2.chg hc (fun y hy hm => ?_) fun i _ => hcc (i + K.sz) (.inr (by rw [Nat.zero_add, Nat.one_mul]; omega))⟩
      rcases List.mem_append.1 hm with hm | hm
      · exact hG y hm (List.mem_append_right _ hy)
      · exact hdj y hm hy
    | succ k =>
      obtain ⟨cs1, F3, g1, g2, g3, g4⟩ := h2.upd k (by simpa using hk)
      refine ⟨cs1, F3, fun y hy => List.mem_append_right _ (g1 y hy), fun j u hu => ?_, by simpa using g3, fun w' x' cs' c' G hc hG ho hcs hcc => ?_⟩
      · have := g2 j u hu
        rw [show (k + 1) * K.sz + j = k * K.sz + j + K.sz by rw [Nat.add_mul]; omega]
        exact this
      · refine ⟨cs, F1, F2, rfl, hdj, fun j u hu => ?_, K.ow_chg h1 hc (fun y hy hm => ?_), g4 w' x' cs' (fun i => c' (i + K.sz)) G hc (fun y hy hm => hG y hy (List.mem_append_right _ hm)) ho (fun j u hu => ?_) fun i hi => ?_⟩
        · have : j < cs.length := (List.getElem?_eq_some_iff.1 hu).1
          rw [hcc j (.inl (by rw [Nat.add_mul]; omega))]
          exact h0 j u hu
        · rcases List.mem_append.1 hm with hm | hm
          · exact hG y hm (List.mem_append_left _ hy)
          · exact hdj y hy (g1 y hm)
        · have := hcs j u hu
          rw [show (k + 1) * K.sz + j = k * K.sz + j + K.sz by rw [Nat.add_mul]; omega] at this
          exact this
        · refine hcc (i + K.sz) ?_
          rw [Nat.add_mul, Nat.add_mul (k + 1)]
          rcases hi with hi | hi
          · left; omega
          · right; rw [Nat.add_mul] at hi ⊢; omega
/-- An element of a row, and what is left of the row when it has changed. -/
theorem Ow.upd {K : Kd α} {w : World} {p : Option Addr} {n cap : Nat} {xs : List α} {F : List Nat} (h : K.Ow w (.slice p n cap) xs F) {k : Nat} (hk : k < xs.length) :
    ∃ b off cs F1, p = some ⟨b, off, none⟩ ∧ b ∈ F ∧ b ∉ F1 ∧ (∀ y ∈ F1, y ∈ F) ∧ b < w.heap.size ∧ (∀ o, w.frozen? ⟨b, o, none⟩ = false) ∧ (∀ j u, cs[j]? = some u → w.cell? ⟨b, off + k * K.sz + j, none⟩ = some u) ∧ K.ow w xs[k] cs F1 ∧
      ∀ (w' : World) (x' : α) (cs' : List Value), Chg (b :: F1) w w' → (∀ o, w'.frozen? ⟨b, o, none⟩ = false) → K.ow w' x' cs' F1 → (∀ j u, cs'[j]? = some u → w'.cell? ⟨b, off + k * K.sz + j, none⟩ = some u) →
        (∀ o, (o < off + k * K.sz ∨ off + (k + 1) * K.sz ≤ o) → w'.cell? ⟨b, o, none⟩ = w.cell? ⟨b, o, none⟩) → K.Ow w' (.slice p n cap) (xs.set k x') F := by
  obtain ⟨p', cap', h1, h2, h3, h4⟩ := h
  cases h1
  rcases h4 with ⟨rfl, _⟩ | ⟨b, off, F', rfl, rfl, hn, hlt, hf, ho⟩
  · simp at hk
  · obtain ⟨cs, F1, g1, g2, g3, g4⟩ := ho.upd k hk
    refine ⟨b, off, cs, F1, rfl, by simp, fun hm => hn (g1 b hm), fun y hy => List.mem_cons_of_mem _ (g1 y hy), hlt, hf, fun j u hu => by rw [Nat.add_assoc]; exact g2 j u hu, g3, fun w' x' cs' hc hfr ho' hcs hcc => ?_⟩
    refine ⟨some ⟨b, off, none⟩, cap, by simp, by simpa using h2, h3, .inr ⟨b, off, F', rfl, rfl, hn, Nat.lt_of_lt_of_le hlt hc.size, hfr, ?_⟩⟩
    refine g4 w' x' cs' _ [b] hc (by simpa using hn) ho' (fun j u hu => ?_) fun i hi => ?_
    · have := hcs j u hu
      rwa [Nat.add_assoc] at this
    · refine hcc (off + i) ?_
      rcases hi with hi | hi
      · left; omega
      · right; omega
end Kd
end Go.Proofs.Ytggpnnoldjpmcaa
namespace Go.Proofs.Ytggpnnoldjpmcaa
open Go.RowKit

theorem kBn_upd {w : World} {p : Option Addr} {n cap : Nat} {xs : List Bn} {F : List Nat} (h : kBn.Ow w (.slice p n cap) xs F) {k : Nat} (hk : k < xs.length) :
    ∃ b off F1 q c, p = some ⟨b, off, none⟩ ∧ b ∈ F ∧ b ∉ F1 ∧ (∀ y ∈ F1, y ∈ F) ∧ b < w.heap.size ∧ (∀ o, w.frozen? ⟨b, o, none⟩ = false) ∧
      w.cell? ⟨b, off + k * 3, none⟩ = some (.string xs[k].v) ∧ w.cell? ⟨b, off + k * 3 + 1, none⟩ = some (.slice q xs[k].ids.length c) ∧ w.cell? ⟨b, off + k * 3 + 2, none⟩ = some (.bool xs[k].g) ∧
      OwnSl 1 intCells w (.slice q xs[k].ids.length c) xs[k].ids F1 ∧
      ∀ (w' : World) (x' : Bn), Chg (b :: F1) w w' → (∀ o, w'.frozen? ⟨b, o, none⟩ = false) → OwnSl 1 intCells w' (.slice q xs[k].ids.length c) x'.ids F1 →
        w'.cell? ⟨b, off + k * 3, none⟩ = some (.string x'.v) → w'.cell? ⟨b, off + k * 3 + 1, none⟩ = some (.slice q xs[k].ids.length c) → w'.cell? ⟨b, off + k * 3 + 2, none⟩ = some (.bool x'.g) →
        (∀ o, (o < off + k * 3 ∨ off + (k + 1) * 3 ≤ o) → w'.cell? ⟨b, o, none⟩ = w.cell? ⟨b, o, none⟩) → kBn.Ow w' (.slice p n cap) (xs.set k x') F := by
  obtain ⟨b, off, cs, F1, e, hb, hn, hs, hl, hf, hc, ho, hback⟩ := h.upd hk
  obtain ⟨s, rfl, hi⟩ := kBn_ow.1 ho
  obtain ⟨q, c, rfl⟩ := hi.sl.form
  refine ⟨b, off, F1, q, c, e, hb, hn, hs, hl, hf, hc 0 _ rfl, hc 1 _ rfl, hc 2 _ rfl, hi, fun w' x' h1 h2 h3 a0 a1 a2 h4 => hback w' x' _ h1 h2 (kBn_ow.2 ⟨_, rfl, h3⟩) (fun j u hu => ?_) h4⟩
  match j, hu with
  | 0, hu => cases hu; exact a0
  | 1, hu => cases hu; exact a1
  | 2, hu => cases hu; exact a2
  | j + 3, hu => simp at hu

set_option maxRecDepth 100000 in
set_option maxHeartbeats 4000000 in
theorem markBindS_any (xs : List Bn) (v : Value) (F : List Nat) (m : Int) (w : World) (hv : kBn.Ow w v xs F) (hm : 1 ≤ m) (hb : m + 2 * xs.length + sumBn xs ≤ 90000000) :
    Calls Try.prog 19 #[v, .int .i64 m] w fun e w' => ∃ r : Int, e = .returned (.int .i64 r) ∧ 1 ≤ r ∧ Chg F w w' := by
  obtain ⟨p, cap, rfl⟩ := hv.form
  obtain ⟨_, hm1, hm2⟩ := hv.rd.max
  unfold maxLen at hm2
  have HV := Lib.hid hv
  have HB := Lib.hid hb
  clear hv hb
  go_enter Try.func19, Try.ntmps19
  go_wp2_with fail
  go_loopw [1, 5] (fun kk i wr => ∃ (k : Nat) (t : Int) (ys : List Bn), k ≤ xs.length ∧ i = .int .i64 k ∧ kk = .int .i64 t ∧ 1 ≤ t ∧ RowKit.Hid (t ≤ m + 2 * k + sumBn (xs.take k)) ∧ RowKit.Hid (ys.length = xs.length ∧ ys.drop k = xs.drop k) ∧ RowKit.Hid (kBn.Ow wr (.slice p xs.length cap) ys F) ∧ RowKit.Hid (Chg F w wr)) (fun _ i _ => xs.length - (intOf i).toNat)
  case atStart => exact ⟨0, m, xs, Nat.zero_le _, rfl, rfl, hm, Lib.hid (by simp [sumBn]), Lib.hid ⟨rfl, rfl⟩, Lib.hid HV.out, Lib.hid (Chg.refl _ _)⟩
  case round =>
    obtain ⟨k, t, ys, hk, rfl, rfl, ht, HT, HY, HO, HC⟩ := hrel
    by_cases hlt : k < xs.length
    · have hltY : k < ys.length := by rw [HY.out.1]; exact hlt
      have hek : ys[k] = xs[k] := by
        have h9 := HY.out.2
        rw [List.drop_eq_getElem_cons hltY, List.drop_eq_getElem_cons hlt] at h9
        exact (List.cons.inj h9).1
      have hsum := sumBn_succ xs k hlt
      have hsum2 := sumBn_le xs (k + 1)
      obtain ⟨b, off, F1, q, c, rfl, hbF, hbk, hsub, hbl, hfz, c0, c1, c2, hks, hback⟩ := kBn_upd HO.out hltY
      rw [hek] at c0 c1 c2 hks hback
      obtain ⟨x, ex⟩ : ∃ x, x = xs[k] := ⟨_, rfl⟩
      rw [← ex] at c0 c1 c2 hks hback hsum
      have HS := Lib.hid hsum
      have hneed : x.ids.length ≤ x.need := by unfold Bn.need; omega
      have hbound : t + 2 + x.ids.length ≤ 90000000 := by
        have h1 := HT.out; have h2 := HB.out
        omega
      have HN := Lib.hid (show ∀ x', (ys.set k x').length = xs.length ∧ (ys.set k x').drop (k + 1) = xs.drop (k + 1) from fun x' => by
        refine ⟨by rw [List.length_set]; exact HY.out.1, ?_⟩
        rw [List.drop_set_of_lt (by omega)]
        have h9 := HY.out.2
        rw [List.drop_eq_getElem_cons hltY, List.drop_eq_getElem_cons hlt] at h9
        exact (List.cons.inj h9).2)
      have HT2 := Lib.hid (show t + 1 + x.ids.length + 1 ≤ m + 2 * (k + 1 : Nat) + sumBn (xs.take (k + 1)) by
        have h1 := HT.out; have h2 := HS.out
        rw [h2]; push_cast; omega)
      have HBACK := Lib.hid hback
      have HKS := Lib.hid hks
      have HFZ := Lib.hid hfz
      have HSUB := Lib.hid hsub
      have HBK := Lib.hid hbk
      have HBF := Lib.hid hbF
      clear hback hks hfz hsub hbk hbF ex hek hsum hsum2 HY HO HT HS hneed
      go_wp2_with fail
      refine (markText_any _ _ (by omega) (by omega)).mono ?_
      rintro e w1 ⟨rfl, hb1⟩
      have hz1 : b < w1.heap.size := by have := hb1.size; omega
      have d0 := keepc hb1 hbl c0
      have d1 := keepc hb1 hbl c1
      have d2 := keepc hb1 hbl c2
      have HD := Lib.hid (show (∀ i, w1.cell? ⟨b, i, none⟩ = wr.cell? ⟨b, i, none⟩) ∧ (∀ o, w1.frozen? ⟨b, o, none⟩ = false) from
        ⟨fun i => hb1.cell (p := ⟨b, i, none⟩) hbl, fun o => (hb1.frozen (p := ⟨b, o, none⟩) hbl).trans (HFZ.out o)⟩)
      have f0 := HD.out.2 (off + k * 3)
      have HW1 := Lib.hid (show Chg [b] wr w1 from (Chg.refl [b] wr).then_below hb1)
      have HKS1 := Lib.hid (HKS.out.chg HW1.out (fun x hx => by simp; rintro rfl; exact HBK.out hx))
      clear hb1 c0 c1 c2
      go_wp2_with fail
      have HKS2 := Lib.hid (HKS1.out.chg (G := [b]) (w' := w1.setCell ⟨b, off + k * 3, none⟩ (.string (mt t))) ((Chg.refl [b] w1).setCell (by simp) _) (fun x hx => by simp; rintro rfl; exact HBK.out hx))
      refine (markIntS_any _ _ _ _ _ HKS2.out (by omega) (by omega)).mono ?_
      rintro e w2 ⟨rfl, hk2, hc2⟩
      have hbw : ∀ i, w2.cell? ⟨b, i, none⟩ = (w1.setCell ⟨b, off + k * 3, none⟩ (.string (mt t))).cell? ⟨b, i, none⟩ := fun i => World.cell?_of_block (a := ⟨b, i, none⟩) (hc2.block b (by simpa using hz1) HBK.out)
      have hbf : ∀ i, w2.frozen? ⟨b, i, none⟩ = (w1.setCell ⟨b, off + k * 3, none⟩ (.string (mt t))).frozen? ⟨b, i, none⟩ := fun i => World.frozen?_of_block (a := ⟨b, i, none⟩) (hc2.block b (by simpa using hz1) HBK.out)
      have g0 : w2.cell? ⟨b, off + k * 3, none⟩ = some (.string (mt t)) := (hbw _).trans (set_same _ _ _ _ _ d0)
      have g1 : w2.cell? ⟨b, off + k * 3 + 1, none⟩ = some (.slice q x.ids.length c) := (hbw _).trans ((set_near _ _ _ _ _ (by omega)).trans d1)
      have g2 : w2.cell? ⟨b, off + k * 3 + 2, none⟩ = some (.bool x.g) := (hbw _).trans ((set_near _ _ _ _ _ (by omega)).trans d2)
      have HFR := Lib.hid (show ∀ o, w2.frozen? ⟨b, o, none⟩ = false from fun o => (hbf o).trans (by simpa [go_sem] using HD.out.2 o))
      have HEL := Lib.hid (show ∀ i, i ≠ off + k * 3 → w2.cell? ⟨b, i, none⟩ = wr.cell? ⟨b, i, none⟩ from fun i hi => (hbw i).trans ((set_near _ _ _ _ _ (fun e => hi e.symm)).trans (HD.out.1 i)))
      have f2 := HFR.out (off + k * 3 + 2)
      have HW2 := Lib.hid (show Chg (b :: F1) wr w2 from (HW1.out.mono (fun x hx => by simp at hx; simp [hx])).trans (((Chg.refl (b :: F1) w1).setCell (by simp) _).trans (hc2.mono (fun x hx => by simp [hx]))))
      have HK2 := Lib.hid hk2
      have HEND := Lib.hid (show ∀ r : Bool, kBn.Ow (w2.setCell ⟨b, off + k * 3 + 2, none⟩ (.bool r)) (.slice (some ⟨b, off, none⟩) xs.length cap) (ys.set k ⟨mt t, (List.range x.ids.length).map (mkInt (t + 1)), r⟩) F ∧ Chg F w (w2.setCell ⟨b, off + k * 3 + 2, none⟩ (.bool r)) from fun r => by
        have hst : Chg (b :: F1) w2 (w2.setCell ⟨b, off + k * 3 + 2, none⟩ (.bool r)) := (Chg.refl _ _).setCell (by simp) _
        refine ⟨HBACK.out _ ⟨_, _, r⟩ (HW2.out.trans hst) (fun o => by simpa [go_sem] using HFR.out o) (HK2.out.chg (G := [b]) ((Chg.refl [b] w2).setCell (by simp) _) (fun x hx => by simp; rintro rfl; exact HBK.out hx)) ((set_near _ _ _ _ _ (by omega)).trans g0) ((set_near _ _ _ _ _ (by omega)).trans g1) (set_same _ _ _ _ _ g2) (fun o ho => ?_), ?_⟩
        · exact (set_near _ _ _ _ _ (by omega)).trans (HEL.out o (by omega))
        · exact HC.out.trans ((HW2.out.trans hst).mono (fun y hy => by rcases List.mem_cons.1 hy with rfl | hy; exact HBF.out; exact HSUB.out y hy)))
      clear hk2 hc2 d0 d1 d2 f0 hbw hbf
      go_wp2_with fail
      go_roundw
      case rel =>
        exact ⟨k + 1, t + 1 + x.ids.length + 1, _, by omega, by go_num, by go_num, by omega, HT2, Lib.hid (HN.out _), Lib.hid (HEND.out _).1, Lib.hid (HEND.out _).2⟩
      case measure => simp [intOf]; omega
    · obtain rfl : k = xs.length := by omega
      go_wp2_with fail
      go_ret
      exact ⟨t, rfl, ht, HC.out⟩
end Go.Proofs.Ytggpnnoldjpmcaa
namespace Go.Proofs.Ytggpnnoldjpmcaa
open Go.ChangeShapes Go.WideShapes Go.Deep Go.RowKit Go.Joins

section
variable {H : Type} {enc : TypeId × Value → H} {w : World} {base : Nat} {spare : Nat → Bool} {held : Bool}

theorem open_i64 {t : TypeId} {fuel : Nat} {u : Value} {y : DataW H × List MemPlace} (ht : Try.prog.underlying t = some (.int .i64)) (h : DataW.trod enc Try.prog w base spare held fuel t [u] = some y) : ∃ n, u = .int .i64 n ∧ I64 n := by
  obtain ⟨n, hn, _, hw⟩ := DataW.trod_int ht h
  simp at hn
  refine ⟨n, hn, ?_⟩
  have := hw
  simp [Lit.wf, IntKind.min, IntKind.max, IntKind.signed, IntKind.bits] at this
  unfold I64; omega
theorem open_str {t : TypeId} {fuel : Nat} {u : Value} {y : DataW H × List MemPlace} (ht : Try.prog.underlying t = some .string) (h : DataW.trod enc Try.prog w base spare held fuel t [u] = some y) : ∃ s : ByteArray, u = .string s ∧ s.size ≤ maxLen := by
  obtain ⟨s, hs, _, hw⟩ := DataW.trod_string ht h
  simp at hs
  exact ⟨s, hs, hw⟩

end
end Go.Proofs.Ytggpnnoldjpmcaa
namespace Go.Proofs.Ytggpnnoldjpmcaa
open Go.RowKit

def endV (x : Int × Int) : Value := .agg #[.int .i64 x.1, .int .i64 x.2]
theorem endV_inj {x y : Int × Int} (h : endV x = endV y) : x = y := by
  obtain ⟨a, b⟩ := x
  obtain ⟨c, d⟩ := y
  simp [endV] at h
  rw [h.1, h.2]
theorem kEnd : WideMaps.KeyLaw Try.prog 113 := deep_law (m := 8) (by omega) (by kernel_rfl) (by kernel_rfl) (by kernel_rfl)
theorem wf_i64 {n : Int} (h : I64 n) : (Lit.int .i64 n).wf = true := by
  unfold I64 at h
  simp [Lit.wf, IntKind.min, IntKind.max, IntKind.signed, IntKind.bits]; omega
theorem key_end {x : Int × Int} (h1 : I64 x.1) (h2 : I64 x.2) : ∃ l, keyOf Try.prog 113 (endV x) = some l := by
  have hk : Try.prog.keyType 113 = true := by kernel_rfl
  have hc : Try.prog.cellsOf 113 = 2 := by kernel_rfl
  have hi : Try.prog.cellsOf 3 = 1 := by kernel_rfl
  have hs : Try.prog.types.size ≠ 0 := by
    have : (Try.prog.types.size == 0) = false := by kernel_rfl
    intro h0; rw [h0] at this; simp at this
  obtain ⟨m, hm⟩ := Nat.exists_eq_succ_of_ne_zero hs
  have w1 := wf_i64 h1
  have w2 := wf_i64 h2
  have hu := Try.underlying113
  have hq := Try.underlying3
  unfold keyOf
  simp only [hu]
  rw [if_pos (by simp [hk, Value.formed, endV, hu, hc]), hm]
  unfold Program.keyLits
  simp only [hu, endV, Value.cells]
  rw [if_pos ⟨by rw [hc]; rfl, by simp⟩]
  simp [Program.keyLits, hi, hq, w1, w2]

/-- Entries at the pairs S, each with g of its pair. -/
structure IM (es : Array MapEntry) (clock : Nat) (S : List (Int × Int)) (g : Int × Int → Value) : Prop where
  keys : ∀ (i : Nat) (x : MapEntry), es.toList[i]? = some x → ∃ y ∈ S, x.key = endV y ∧ x.val = g y
  dom : ∀ y ∈ S, ∃ (i : Nat) (x : MapEntry), es.toList[i]? = some x ∧ x.key = endV y
  inj : ∀ (i j : Nat) (x x' : MapEntry), es.toList[i]? = some x → es.toList[j]? = some x' → x.key = x'.key → i = j
  born : ∀ (i : Nat) (x : MapEntry), es.toList[i]? = some x → x.born < clock
  binj : ∀ (i j : Nat) (x x' : MapEntry), es.toList[i]? = some x → es.toList[j]? = some x' → x.born = x'.born → i = j
  ok : ∀ y ∈ S, I64 y.1 ∧ I64 y.2
theorem IM.empty (g : Int × Int → Value) : IM #[] 0 [] g := ⟨by simp, by simp, by simp, by simp, by simp, by simp⟩
def Pairs64 (x : Int × Int) : Prop := I64 x.1 ∧ I64 x.2
section
variable {es : Array MapEntry} {clock : Nat} {S : List (Int × Int)} {g : Int × Int → Value}
theorem IM.keysOk (h : IM es clock S g) : ∀ e ∈ es.toList, ∃ l, keyOf Try.prog 113 e.key = some l := fun e he => by
  obtain ⟨i, hi, rfl⟩ := List.getElem_of_mem he
  obtain ⟨y, hy, hk, _⟩ := h.keys i _ (List.getElem?_eq_getElem hi)
  rw [hk]
  exact key_end (h.ok y hy).1 (h.ok y hy).2
theorem IM.find (h : IM es clock S g) (w : World) {x : Int × Int} (hx : Pairs64 x) :
    ((Instr.findKey 113 (endV x) es.toList).run Try.prog w = .ok none w ∧ x ∉ S) ∨ ∃ (j : Nat) (e : MapEntry), (Instr.findKey 113 (endV x) es.toList).run Try.prog w = .ok (some (j, g x)) w ∧ es.toList[j]? = some e ∧ e.key = endV x ∧ e.val = g x ∧ x ∈ S := by
  obtain ⟨l, hl⟩ := key_end hx.1 hx.2
  rcases kEnd.find w hl es.toList h.keysOk with ⟨h1, h2⟩ | ⟨j, e, h1, h2, h3⟩
  · refine .inl ⟨h1, fun hm => ?_⟩
    obtain ⟨i, e, he, hk⟩ := h.dom x hm
    exact h2 e (List.mem_of_getElem? he) hk
  · obtain ⟨y, hy, hk, hv⟩ := h.keys j e h2
    have hxy : y = x := endV_inj (hk.symm.trans h3)
    subst hxy
    exact .inr ⟨j, e, by rw [← hv]; exact h1, h2, h3, hv, hy⟩
end
/-- Block b is a map with entries at the pairs S. -/
def IMap (w : World) (b : Nat) (S : List (Int × Int)) (g : Int × Int → Value) : Prop := ∃ es clock, w.heap[b]? = some (.map es clock) ∧ IM es clock S g
theorem IMap.lt {w : World} {b : Nat} {S : List (Int × Int)} {g : Int × Int → Value} (h : IMap w b S g) : b < w.heap.size := by
  obtain ⟨es, c, h, _⟩ := h; exact (Array.getElem?_eq_some_iff.1 h).1
theorem IMap.made (w : World) (g : Int × Int → Value) : IMap (w.alloc (.map #[] 0)) w.heap.size [] g := ⟨#[], 0, (MapKept.heap_alloc w _).1, IM.empty g⟩
theorem IMap.chg {w w' : World} {b : Nat} {S : List (Int × Int)} {g : Int × Int → Value} {G : List Nat} (h : IMap w b S g) (hc : Chg G w w') (hb : b ∉ G) : IMap w' b S g := by
  have hl := h.lt
  obtain ⟨es, c, h1, h2⟩ := h
  exact ⟨es, c, (hc.block b hl hb).trans h1, h2⟩
theorem chg_map {w : World} {b : Nat} {es : Array MapEntry} {c : Nat} (hb : w.heap[b]? = some (.map es c)) (o : Obj) : Chg [b] w { w with heap := w.heap.setIfInBounds b o } :=
  ⟨rfl, rfl, rfl, by simp, fun k _ hk => (MapKept.heap_set hb).2 k (fun e => hk (by simp [e]))⟩
section
variable {t e : TypeId} {z : Value} {w : World} {b : Nat} {S : List (Int × Int)} {g : Int × Int → Value}
open Classical in
/-- What a lookup finds. -/
noncomputable def atM (S : List (Int × Int)) (g : Int × Int → Value) (z : Value) (x : Int × Int) : Value := if x ∈ S then g x else z
theorem run_lookupI (ht : Try.prog.underlying t = some (.map 113 e)) (hz : ∀ w, (zeroValue e).run Try.prog w = .ok z w) (h : IMap w b S g) {x : Int × Int} (hx : Pairs64 x) :
    (Instr.lookup t (.map (some b)) (endV x) false).run Try.prog w = .ok (atM S g z x) w := by
  obtain ⟨es, c, hb, hE⟩ := h
  obtain ⟨l, hl⟩ := key_end hx.1 hx.2
  have hc := kEnd.check w es.isEmpty hl
  rcases hE.find w hx with ⟨h1, h2⟩ | ⟨j, e0, h1, _, _, _, h2⟩
  · simp [Instr.lookup, run_underlying ht, MapKept.run_getObj_map hb, hc, h1, hz, Result.andThen, atM, h2]
  · simp [Instr.lookup, run_underlying ht, MapKept.run_getObj_map hb, hc, h1, Result.andThen, atM, h2]
open Classical in
noncomputable def updM (g : Int × Int → Value) (x : Int × Int) (v : Value) : Int × Int → Value := fun y => if y = x then v else g y
theorem run_lookup2I (ht : Try.prog.underlying t = some (.map 113 e)) (hz : ∀ w, (zeroValue e).run Try.prog w = .ok z w) (h : IMap w b S g) {x : Int × Int} (hx : Pairs64 x) :
    ((Instr.lookup t (.map (some b)) (endV x) true).run Try.prog w = .ok (.tuple #[z, .bool false]) w ∧ x ∉ S) ∨ ((Instr.lookup t (.map (some b)) (endV x) true).run Try.prog w = .ok (.tuple #[g x, .bool true]) w ∧ x ∈ S) := by
  obtain ⟨es, c, hb, hE⟩ := h
  obtain ⟨l, hl⟩ := key_end hx.1 hx.2
  have hc := kEnd.check w es.isEmpty hl
  rcases hE.find w hx with ⟨h1, h2⟩ | ⟨j, e0, h1, _, _, _, h2⟩
  · exact .inl ⟨by simp [Instr.lookup, run_underlying ht, MapKept.run_getObj_map hb, hc, h1, hz, Result.andThen], h2⟩
  · exact .inr ⟨by simp [Instr.lookup, run_underlying ht, MapKept.run_getObj_map hb, hc, h1, Result.andThen], h2⟩
theorem IM.push {es : Array MapEntry} {c : Nat} (hE : IM es c S g) {x : Int × Int} (hx : Pairs64 x) (h2 : x ∉ S) (v : Value) : IM (es.push ⟨endV x, v, c⟩) (c + 1) (x :: S) (updM g x v) := by
  have hg : ∀ (i : Nat) (y : MapEntry), (es.push ⟨endV x, v, c⟩).toList[i]? = some y → es.toList[i]? = some y ∨ (i = es.toList.length ∧ y = ⟨endV x, v, c⟩) := fun i y hy => by
    rw [Array.toList_push, List.getElem?_append] at hy
    split at hy
    · exact .inl hy
    · rename_i hge
      have hi : i - es.toList.length = 0 := by
        have := (List.getElem?_eq_some_iff.1 hy).1; simp at this; omega
      rw [hi] at hy
      simp at hy
      exact .inr ⟨by omega, hy.symm⟩
  have hlast : (es.push ⟨endV x, v, c⟩).toList[es.toList.length]? = some ⟨endV x, v, c⟩ := by simp
  have hold : ∀ (i : Nat) (y : MapEntry), es.toList[i]? = some y → (es.push ⟨endV x, v, c⟩).toList[i]? = some y := fun i y hy => by
    rw [Array.toList_push, List.getElem?_append_left (List.getElem?_eq_some_iff.1 hy).1]; exact hy
  refine ⟨?_, ?_, ?_, ?_, ?_, ?_⟩
  · intro i y hy
    rcases hg i y hy with h | ⟨_, rfl⟩
    · obtain ⟨q, hq, e1, e2⟩ := hE.keys i y h
      refine ⟨q, List.mem_cons_of_mem _ hq, e1, ?_⟩
      have hne : q ≠ x := fun e => h2 (e ▸ hq)
      simp [updM, hne, e2]
    · exact ⟨x, by simp, rfl, by simp [updM]⟩
  · intro q hq
    rcases List.mem_cons.1 hq with rfl | hq
    · exact ⟨_, _, hlast, rfl⟩
    · obtain ⟨i, y, e1, e2⟩ := hE.dom q hq
      exact ⟨i, y, hold i y e1, e2⟩
  · intro i j y y' hy hy' he
    rcases hg i y hy with h | ⟨rfl, rfl⟩
    · rcases hg j y' hy' with h' | ⟨rfl, rfl⟩
      · exact hE.inj i j y y' h h' he
      · obtain ⟨q, hq, e1, _⟩ := hE.keys i y h
        exact absurd (endV_inj (e1.symm.trans he) ▸ hq) h2
    · rcases hg j y' hy' with h' | ⟨rfl, rfl⟩
      · obtain ⟨q, hq, e1, _⟩ := hE.keys j y' h'
        exact absurd (endV_inj (e1.symm.trans he.symm) ▸ hq) h2
      · rfl
  · intro i y hy
    rcases hg i y hy with h | ⟨_, rfl⟩
    · have := hE.born i y h; omega
    · exact Nat.lt_succ_self c
  · intro i j y y' hy hy' he
    rcases hg i y hy with h | ⟨rfl, rfl⟩
    · rcases hg j y' hy' with h' | ⟨rfl, rfl⟩
      · exact hE.binj i j y y' h h' he
      · have := hE.born i y h; simp at he; omega
    · rcases hg j y' hy' with h' | ⟨rfl, rfl⟩
      · have := hE.born j y' h'; simp at he; omega
      · rfl
  · intro q hq
    rcases List.mem_cons.1 hq with rfl | hq
    · exact hx
    · exact hE.ok q hq
theorem run_updateI (ht : Try.prog.underlying t = some (.map 113 e)) (h : IMap w b S g) {x : Int × Int} (hx : Pairs64 x) (hn : x ∉ S) (v : Value) :
    ∃ w1, (Instr.mapUpdate t (.map (some b)) (endV x) v).run Try.prog w = .ok () w1 ∧ IMap w1 b (x :: S) (updM g x v) ∧ Chg [b] w w1 := by
  obtain ⟨es, c, hb, hE⟩ := h
  obtain ⟨l, hl⟩ := key_end hx.1 hx.2
  have hc := kEnd.check w false hl
  rcases hE.find w hx with ⟨h1, _⟩ | ⟨_, _, _, _, _, _, h2⟩
  · refine ⟨{ w with heap := w.heap.setIfInBounds b (.map (es.push ⟨endV x, v, c⟩) (c + 1)) }, ?_, ⟨_, _, (MapKept.heap_set hb).1, hE.push hx hn v⟩, chg_map hb _⟩
    simp [Instr.mapUpdate, run_underlying ht, MapKept.run_getObj_map hb, hc, h1, MapKept.run_setObj_map _ hb, Result.andThen]
  · exact absurd h2 hn
/-- The entry at x was born at st. -/
def BornAt (w : World) (b : Nat) (x : Int × Int) (st : Nat) : Prop := ∃ (es : Array MapEntry) (clock i : Nat) (e : MapEntry), w.heap[b]? = some (.map es clock) ∧ es.toList[i]? = some e ∧ e.key = endV x ∧ e.born = st
theorem run_entryI (ht : Try.prog.underlying t = some (.map 113 e)) (hz : ∀ w, (zeroValue e).run Try.prog w = .ok z w) (h : IMap w b S g) {x : Int × Int} (hx : Pairs64 x) :
    ∃ (st : Nat) (w1 : World), (Instr.mapEntry t (.map (some b)) (endV x)).run Try.prog w = .ok (.tuple #[atM S g z x, goInt st]) w1 ∧ IMap w1 b (x :: S) (updM g x (atM S g z x)) ∧ BornAt w1 b x st ∧ Chg [b] w w1 := by
  obtain ⟨es, c, hb, hE⟩ := h
  obtain ⟨l, hl⟩ := key_end hx.1 hx.2
  have hc := kEnd.check w false hl
  rcases hE.find w hx with ⟨h1, h2⟩ | ⟨j, e0, h1, hj, hk, hv, h2⟩
  · have hg : ∀ (i : Nat) (y : MapEntry), (es.push ⟨endV x, z, c⟩).toList[i]? = some y → es.toList[i]? = some y ∨ (i = es.toList.length ∧ y = ⟨endV x, z, c⟩) := fun i y hy => by
      rw [Array.toList_push, List.getElem?_append] at hy
      split at hy
      · exact .inl hy
      · rename_i hge
        have hi : i - es.toList.length = 0 := by
          have := (List.getElem?_eq_some_iff.1 hy).1; simp at this; omega
        rw [hi] at hy
        simp at hy
        exact .inr ⟨by omega, hy.symm⟩
    have hlast : (es.push ⟨endV x, z, c⟩).toList[es.toList.length]? = some ⟨endV x, z, c⟩ := by simp
    have hold : ∀ (i : Nat) (y : MapEntry), es.toList[i]? = some y → (es.push ⟨endV x, z, c⟩).toList[i]? = some y := fun i y hy => by
      rw [Array.toList_push, List.getElem?_append_left (List.getElem?_eq_some_iff.1 hy).1]; exact hy
    refine ⟨c, { w with heap := w.heap.setIfInBounds b (.map (es.push ⟨endV x, z, c⟩) (c + 1)) }, ?_, ⟨_, _, (MapKept.heap_set hb).1, ⟨?_, ?_, ?_, ?_, ?_, ?_⟩⟩, ⟨_, _, es.toList.length, _, (MapKept.heap_set hb).1, hlast, rfl, rfl⟩, chg_map hb _⟩
    · simp [Instr.mapEntry, run_underlying ht, MapKept.run_getObj_map hb, hc, h1, hz, MapKept.run_setObj_map _ hb, Result.andThen, atM, h2]
    · intro i y hy
      rcases hg i y hy with h | ⟨_, rfl⟩
      · obtain ⟨q, hq, e1, e2⟩ := hE.keys i y h
        refine ⟨q, List.mem_cons_of_mem _ hq, e1, ?_⟩
        have hne : q ≠ x := fun e => h2 (e ▸ hq)
        simp [updM, hne, e2]
      · exact ⟨x, by simp, rfl, by simp [updM, atM, h2]⟩
    · intro q hq
      rcases List.mem_cons.1 hq with rfl | hq
      · exact ⟨_, _, hlast, rfl⟩
      · obtain ⟨i, y, e1, e2⟩ := hE.dom q hq
        exact ⟨i, y, hold i y e1, e2⟩
    · intro i j y y' hy hy' he
      rcases hg i y hy with h | ⟨rfl, rfl⟩
      · rcases hg j y' hy' with h' | ⟨rfl, rfl⟩
        · exact hE.inj i j y y' h h' he
        · obtain ⟨q, hq, e1, _⟩ := hE.keys i y h
          exact absurd (endV_inj (e1.symm.trans he) ▸ hq) h2
      · rcases hg j y' hy' with h' | ⟨rfl, rfl⟩
        · obtain ⟨q, hq, e1, _⟩ := hE.keys j y' h'
          exact absurd (endV_inj (e1.symm.trans he.symm) ▸ hq) h2
        · rfl
    · intro i y hy
      rcases hg i y hy with h | ⟨_, rfl⟩
      · have := hE.born i y h; omega
      · exact Nat.lt_succ_self c
    · intro i j y y' hy hy' he
      rcases hg i y hy with h | ⟨rfl, rfl⟩
      · rcases hg j y' hy' with h' | ⟨rfl, rfl⟩
        · exact hE.binj i j y y' h h' he
        · have := hE.born i y h; simp at he; omega
      · rcases hg j y' hy' with h' | ⟨rfl, rfl⟩
        · have := hE.born j y' h'; simp at he; omega
        · rfl
    · intro q hq
      rcases List.mem_cons.1 hq with rfl | hq
      · exact hx
      · exact hE.ok q hq
  · have hsame : es.modify j (fun e' => { e' with key := endV x }) = es := by
      apply Array.ext'
      apply List.ext_getElem?
      intro i
      rw [Array.toList_modify, List.getElem?_modify]
      by_cases hij : j = i
      · subst hij
        rw [hj]
        simp [← hk]
      · cases hi : es.toList[i]? <;> simp [hij]
    have hje : es[j]? = some e0 := by simpa using hj
    refine ⟨e0.born, { w with heap := w.heap.setIfInBounds b (.map es c) }, ?_, ⟨es, c, (MapKept.heap_set hb).1, ⟨?_, ?_, hE.inj, hE.born, hE.binj, ?_⟩⟩, ⟨es, c, j, e0, (MapKept.heap_set hb).1, hj, hk, rfl⟩, chg_map hb _⟩
    · simp [Instr.mapEntry, run_underlying ht, MapKept.run_getObj_map hb, hc, h1, hje, hk, kEnd.stays w hl, hsame, MapKept.run_setObj_map _ hb, Result.andThen, atM, h2]
    · intro i y hy
      obtain ⟨q, hq, e1, e2⟩ := hE.keys i y hy
      refine ⟨q, List.mem_cons_of_mem _ hq, e1, ?_⟩
      by_cases hqx : q = x
      · subst hqx; simp [updM, atM, h2, e2]
      · simp [updM, hqx, e2]
    · intro q hq
      rcases List.mem_cons.1 hq with rfl | hq
      · exact hE.dom q h2
      · exact hE.dom q hq
    · intro q hq
      rcases List.mem_cons.1 hq with rfl | hq
      · exact hx
      · exact hE.ok q hq
theorem run_estoreI {x : Int × Int} {st : Nat} (h : IMap w b S g) (hs : BornAt w b x st) (v : Value) :
    ∃ w1, (Instr.entryStore t (.map (some b)) (goInt st) v).run Try.prog w = .ok () w1 ∧ IMap w1 b S (updM g x v) ∧ Chg [b] w w1 := by
  obtain ⟨es, c, hb, hE⟩ := h
  obtain ⟨es', c', j, e0, hb', hj, hk, rfl⟩ := hs
  rw [hb] at hb'
  cases hb'
  have hidx : es.findIdx? (fun e => ((e.born : Nat) : Int) == ((e0.born : Nat) : Int)) = some j := by
    rw [show es.findIdx? (fun e => ((e.born : Nat) : Int) == ((e0.born : Nat) : Int)) = es.toList.findIdx? (fun e => ((e.born : Nat) : Int) == ((e0.born : Nat) : Int)) from by cases es; simp]
    rw [List.findIdx?_eq_some_iff_getElem]
    obtain ⟨hlt, hj2⟩ := List.getElem?_eq_some_iff.1 hj
    refine ⟨hlt, by rw [hj2]; simp, fun i hi => ?_⟩
    have hli : i < es.toList.length := by omega
    intro hbq
    have hbq' : (es.toList[i]).born = e0.born := by simp only [beq_iff_eq, Int.natCast_inj] at hbq; exact hbq
    have := hE.binj i j _ _ (List.getElem?_eq_getElem hli) hj hbq'
    omega
  have hg : ∀ (i : Nat) (y : MapEntry), (es.modify j fun e => { e with val := v }).toList[i]? = some y → ∃ y0, es.toList[i]? = some y0 ∧ y = if j = i then { y0 with val := v } else y0 := fun i y hy => by
    rw [Array.toList_modify, List.getElem?_modify] at hy
    cases hi : es.toList[i]? with
    | none => rw [hi] at hy; simp at hy
    | some y0 =>
      rw [hi] at hy
      refine ⟨y0, rfl, ?_⟩
      by_cases hij : j = i
      · simp [hij] at hy ⊢; exact hy.symm
      · simp [hij] at hy ⊢; exact hy.symm
  have hof : ∀ (i : Nat) (y0 : MapEntry), es.toList[i]? = some y0 → ∃ y, (es.modify j fun e => { e with val := v }).toList[i]? = some y ∧ y.key = y0.key := fun i y0 hi => by
    rw [Array.toList_modify, List.getElem?_modify, hi]
    by_cases hij : j = i
    · exact ⟨{ y0 with val := v }, by simp [hij], rfl⟩
    · exact ⟨y0, by simp [hij], rfl⟩
  have hkb : ∀ (i : Nat) (y y0 : MapEntry), y = (if j = i then { y0 with val := v } else y0) → y.key = y0.key ∧ y.born = y0.born := fun i y y0 h => by
    rw [h]; split <;> exact ⟨rfl, rfl⟩
  refine ⟨{ w with heap := w.heap.setIfInBounds b (.map (es.modify j fun e => { e with val := v }) c) }, ?_, ⟨_, _, (MapKept.heap_set hb).1, ⟨?_, ?_, ?_, ?_, ?_, hE.ok⟩⟩, chg_map hb _⟩
  · simp [Instr.entryStore, MapKept.run_getObj_map hb, asInt, asIntOf, goInt, hidx, MapKept.run_setObj_map _ hb, Result.andThen]
  · intro i y hy
    obtain ⟨y0, h0, hy0⟩ := hg i y hy
    obtain ⟨q, hq, e1, e2⟩ := hE.keys i y0 h0
    by_cases hij : j = i
    · subst hij
      rw [hj] at h0
      cases h0
      have hqx : q = x := endV_inj (e1.symm.trans hk)
      subst hqx
      exact ⟨q, hq, by rw [hy0]; simpa using e1, by rw [hy0]; simp [updM]⟩
    · have hqx : q ≠ x := fun e => by
        subst e
        exact hij (hE.inj j i _ _ hj h0 (hk.trans e1.symm))
      exact ⟨q, hq, by rw [hy0]; simpa [hij] using e1, by rw [hy0]; simp [hij, updM, hqx, e2]⟩
  · intro q hq
    obtain ⟨i, y0, h0, e1⟩ := hE.dom q hq
    obtain ⟨y, hy, e2⟩ := hof i y0 h0
    exact ⟨i, y, hy, e2.trans e1⟩
  · intro i k y y' hy hy' he
    obtain ⟨y0, h0, hy0⟩ := hg i y hy
    obtain ⟨y1, h1, hy1⟩ := hg k y' hy'
    exact hE.inj i k y0 y1 h0 h1 ((hkb i y y0 hy0).1.symm.trans (he.trans (hkb k y' y1 hy1).1))
  · intro i y hy
    obtain ⟨y0, h0, hy0⟩ := hg i y hy
    rw [(hkb i y y0 hy0).2]; exact hE.born i y0 h0
  · intro i k y y' hy hy' he
    obtain ⟨y0, h0, hy0⟩ := hg i y hy
    obtain ⟨y1, h1, hy1⟩ := hg k y' hy'
    exact hE.binj i k y0 y1 h0 h1 ((hkb i y y0 hy0).2.symm.trans (he.trans (hkb k y' y1 hy1).2))
end
end Go.Proofs.Ytggpnnoldjpmcaa
namespace Go.Proofs.Ytggpnnoldjpmcaa
open Go.RowKit

set_option maxHeartbeats 1000000 in
theorem lastNode_any (x : Wk) (v : Value) (B : Nat) (w : World) (hx : x.At B w v) (hl : x.es.length < x.ns.length) :
    Calls Try.prog 111 #[v] w fun e w' => e = .returned (.int .i64 x.ns[x.es.length]) ∧ Below w.heap.size w w' := by
  obtain ⟨v0, v1, rfl, h0, h1⟩ := hx
  obtain ⟨q, cq, rfl⟩ := h1.form
  obtain ⟨p, cp, rfl⟩ := h0.form
  have hm1 := h0.max
  have hm2 := h1.max
  unfold maxLen at hm1 hm2
  obtain ⟨b, off, rfl, hb, c0⟩ := h0.it hl
  have hlt := World.block_lt_of_cell? w _ c0
  have c1 : (w.alloc (.cells #[.slice (some ⟨b, off, none⟩) x.ns.length cp, .slice q x.es.length cq] 50)).cell? ⟨b, off + x.es.length, none⟩ = some (.int .i64 x.ns[x.es.length]) := keepc ((Below.refl _ _).alloc (Nat.le_refl _) _) hlt c0
  have hi : (x.es.length : Int) < (x.ns.length : Int) := by omega
  obtain ⟨z, ez⟩ : ∃ z, z = x.ns[x.es.length] := ⟨_, rfl⟩
  rw [← ez] at c1 ⊢
  clear ez c0
  go_enter Try.func111, Try.ntmps111
  go_wp2_with fail
  go_ret
  exact ⟨rfl, (Below.refl _ _).alloc (Nat.le_refl _) _⟩
end Go.Proofs.Ytggpnnoldjpmcaa
namespace Go.Proofs.Ytggpnnoldjpmcaa
open Go.ChangeShapes Go.WideShapes Go.Deep Go.RowKit Go.Joins

section
variable {H : Type} {enc : TypeId × Value → H} {w : World} {base : Nat} {spare : Nat → Bool} {held : Bool}

/-- A slice of ints that is read: a list in memory. -/
theorem open_int_list {fuel : Nat} {v : Value} {y : DataW H × List MemPlace} (h : DataW.trod enc Try.prog w base spare held fuel 43 [v] = some y) :
    ∃ xs : List Int, Sl 1 intCells w.heap.size w v xs ∧ ∀ x ∈ xs, I64 x := by
  rcases open_slice Try.underlying43 h with ⟨h0, _⟩ | ⟨a, len, cap, m, n, D, Pl, hcs, hb, hl, hm, hmm, hx, hi⟩
  · simp at h0
    exact ⟨[], ⟨none, 0, 0, h0, rfl, Nat.le_refl _, Nat.zero_le _, fun i hi => by simp at hi⟩, by simp⟩
  · simp at hcs
    have hlm : len ≤ m := by rw [hmm]; split <;> omega
    have hC : Try.prog.cellsOf 3 = 1 := by kernel_rfl
    have key : ∀ i, i < len → ∃ z : Int, w.cell? (a.add i) = some (.int .i64 z) ∧ I64 z := by
      intro i him
      obtain ⟨cs', hc, ht'⟩ := hi i (by omega)
      rw [hC] at hc
      obtain ⟨_, hcl, hat⟩ := World.cells?_some hc
      have h0 := hat 0 (by decide)
      have hv : cs'[0]? = some (cs'[0]'(by omega)) := List.getElem?_eq_getElem (by omega)
      have hone : cs' = [cs'[0]'(by omega)] := by
        match cs', hcl with
        | [u], _ => rfl
      rw [hone] at ht'
      obtain ⟨z, hz, hz2⟩ := open_i64 Try.underlying3 ht'
      rw [hv, hz] at h0
      refine ⟨z, ?_, hz2⟩
      rw [← h0, Go.Deep.add_add, Nat.mul_one, Nat.add_zero]
    rw [hcs]
    refine sl_of hl hm I64 fun i him => ?_
    obtain ⟨z, hz, hz2⟩ := key i him
    refine ⟨z, ?_, hz2⟩
    obtain ⟨b, off, spot⟩ := a
    obtain ⟨z0, hz0, _⟩ := key 0 (by omega)
    have hs : spot = none := by simpa [Addr.add] using World.cell?_spot hz0
    clear hz0
    subst hs
    rw [add_plain] at hz
    refine ⟨b, off, rfl, World.block_lt_of_cell? w _ hz, fun j v hv => ?_⟩
    match j, hv with
    | 0, hv => simp [intCells] at hv; subst hv; simpa using hz
    | j + 1, hv => simp [intCells] at hv

set_option maxRecDepth 100000 in
/-- A Walk that came in. -/
theorem open_walk {r : Reach} {b0 : Nat} {v : Value} {d : DataW H} {p : List MemPlace} (hv : Value.okWide Try.prog w r b0 45 v) (h : DataW.Trod enc Try.prog w base spare held 45 v d p) :
    ∃ x : Wk, x.At w.heap.size w v ∧ x.Ok := by
  obtain ⟨v0, v1, y0, y1, n, rfl, _, _, h0, h1⟩ := open_agg2 Try.underlying45 (by kernel_rfl) (by kernel_rfl) hv h
  obtain ⟨ns, hn, hno⟩ := open_int_list h0
  obtain ⟨es, he, heo⟩ := open_int_list h1
  exact ⟨⟨ns, es⟩, ⟨v0, v1, rfl, hn, he⟩, hno, heo⟩
end
end Go.Proofs.Ytggpnnoldjpmcaa
namespace Go.Proofs.Ytggpnnoldjpmcaa
open Go.ChangeShapes Go.WideShapes Go.Deep Go.RowKit Go.Joins

section
variable {H : Type} {enc : TypeId × Value → H} {w : World} {base : Nat} {spare : Nat → Bool} {held : Bool}
/-- As open_struct_rows, with how deep the fields are read. -/
theorem open_struct_rows_lt {P : Program} {t e : TypeId} {fs : Array Field} {fuel : Nat} {v : Value} {x : DataW H × List MemPlace} (ht : P.underlying t = some (.slice e)) (he : P.underlying e = some (.struct fs))
    (hone : oneCellFields P fs = true) (hC : P.cellsOf e = fs.size) (hpos : 0 < fs.size) (h : DataW.trod enc P w base spare held fuel t [v] = some x) :
    ∃ (p : Option Addr) (len cap : Nat), v = .slice p len cap ∧ len ≤ cap ∧ cap ≤ maxLen ∧
      ∀ i, i < len → ∃ (b off : Nat) (n : Nat), n < fuel ∧ p = some ⟨b, off, none⟩ ∧ b < w.heap.size ∧ ∀ (j : Nat) (f : Field), fs[j]? = some f → ∃ (u : Value) (y : DataW H × List MemPlace), w.cell? ⟨b, off + i * fs.size + j, none⟩ = some u ∧ DataW.trod enc P w base spare held n f.type [u] = some y := by
  rcases DataW.trod_slice ht h with ⟨h0, _⟩ | ⟨a, len, cap, elems, rest, n, hfu, hcs, _, hb, hl, hm, hlen, hel, _, _⟩
  · simp at h0
    exact ⟨none, 0, 0, h0, Nat.le_refl _, Nat.zero_le _, fun i hi => by omega⟩
  · simp at hcs
    have key : ∀ i, i < len → ∃ n : Nat, n < fuel ∧ ∀ (j : Nat) (f : Field), fs[j]? = some f → ∃ (u : Value) (y : DataW H × List MemPlace), w.cell? (a.add (i * fs.size + j)) = some u ∧ DataW.trod enc P w base spare held n f.type [u] = some y := by
      intro i him
      have k1 := hel i him
      rw [List.getElem?_eq_getElem (by omega)] at k1
      obtain ⟨cs', hc, ht'⟩ := Option.bind_eq_some_iff.1 k1
      rw [hC] at hc
      obtain ⟨ys, n', hn', hy, hlen, hyl, hf⟩ := DataW.trod_struct he ht'
      obtain ⟨_, hcl, hat⟩ := World.cells?_some hc
      refine ⟨n', by omega, fun j f hj => ?_⟩
      obtain ⟨ho, hk⟩ := hone_of hone j f hj
      have hjl : j < fs.size := (Array.getElem?_eq_some_iff.1 hj).1
      have hcell := hat j hjl
      have hv : cs'[j]? = some (cs'[j]'(by omega)) := List.getElem?_eq_getElem (by omega)
      have h1 := hf j f hj
      rw [ho, hk] at h1
      have hone' : (cs'.drop j).take 1 = [cs'[j]'(by omega)] := by
        rw [List.drop_eq_getElem_cons (by omega)]
        rfl
      rw [hone'] at h1
      have hys : ys[j]? = some (ys[j]'(by omega)) := List.getElem?_eq_getElem (by omega)
      refine ⟨_, _, ?_, h1.trans hys⟩
      rw [← Go.Deep.add_add, hcell, hv]
    refine ⟨some a, len, cap, hcs, hl, hm, fun i him => ?_⟩
    obtain ⟨n0, _, k0⟩ := key 0 (by omega)
    obtain ⟨u0, y0, c0, _⟩ := k0 0 _ (Array.getElem?_eq_getElem hpos)
    rw [Nat.zero_mul, Nat.add_zero] at c0
    obtain ⟨b, off, spot⟩ := a
    have hs : spot = none := by simpa [Addr.add] using World.cell?_spot c0
    subst hs
    obtain ⟨n, hlt, hn⟩ := key i him
    refine ⟨b, off, n, hlt, rfl, by simpa [Addr.add] using World.block_lt_of_cell? w _ c0, fun j f hj => ?_⟩
    obtain ⟨u, y, h1, h2⟩ := hn j f hj
    rw [add_plain, ← Nat.add_assoc] at h1
    exact ⟨u, y, h1, h2⟩
end

theorem Fo.ok_of (l : List Ex) (h : ∀ x ∈ l, I64 x.op ∧ x.a.size ≤ maxLen ∧ x.ks.Ok) : (Fo.of l).Ok := by
  induction l with
  | nil => trivial
  | cons e l ih =>
    obtain ⟨h1, h2, h3⟩ := h e (by simp)
    exact ⟨h1, h2, h3, ih fun x hx => h x (by simp [hx])⟩
/-- From a fact at each index to a row of expressions. -/
theorem fo_of {w : World} {p : Option Addr} {len cap : Nat} (hl : len ≤ cap) (hm : cap ≤ maxLen)
    (h : ∀ i, i < len → ∃ x : Ex, (∃ b off, p = some ⟨b, off, none⟩ ∧ b < w.heap.size ∧ w.cell? ⟨b, off + i * 3, none⟩ = some (.int .i64 x.op) ∧ w.cell? ⟨b, off + i * 3 + 1, none⟩ = some (.string x.a) ∧ ∃ v, w.cell? ⟨b, off + i * 3 + 2, none⟩ = some v ∧ x.ks.In w.heap.size w v) ∧ I64 x.op ∧ x.a.size ≤ maxLen ∧ x.ks.Ok) :
    ∃ f : Fo, f.In w.heap.size w (.slice p len cap) ∧ f.Ok := by
  have key : ∃ l : List Ex, l.length = len ∧ ∀ (i : Nat) (hi : i < l.length), (∃ b off, p = some ⟨b, off, none⟩ ∧ b < w.heap.size ∧ w.cell? ⟨b, off + i * 3, none⟩ = some (.int .i64 l[i].op) ∧ w.cell? ⟨b, off + i * 3 + 1, none⟩ = some (.string l[i].a) ∧ ∃ v, w.cell? ⟨b, off + i * 3 + 2, none⟩ = some v ∧ l[i].ks.In w.heap.size w v) ∧ I64 l[i].op ∧ l[i].a.size ≤ maxLen ∧ l[i].ks.Ok := by
    refine ⟨List.ofFn fun i : Fin len => Classical.choose (h i.1 i.2), by simp, fun i hi => ?_⟩
    rw [List.getElem_ofFn]
    exact Classical.choose_spec (h i (by simpa using hi))
  obtain ⟨l, hlen, hk⟩ := key
  refine ⟨Fo.of l, ⟨p, cap, by rw [Fo.list_of, hlen], by rw [Fo.list_of, hlen]; exact hl, hm, ?_⟩, Fo.ok_of l fun x hx => ?_⟩
  · rw [Fo.list_of]
    by_cases h0 : l.length = 0
    · exact .inl (List.eq_nil_of_length_eq_zero h0)
    · obtain ⟨⟨b, off, rfl, hb, _⟩, _⟩ := hk 0 (by omega)
      refine .inr ⟨b, off, rfl, hb, Fo.of_row l off fun i hi => ?_⟩
      obtain ⟨⟨b', off', e, _, g1, g2, g3⟩, _⟩ := hk i hi
      cases e
      exact ⟨g1, g2, g3⟩
  · obtain ⟨i, hi, rfl⟩ := List.getElem_of_mem hx
    exact (hk i hi).2

section
variable {H : Type} {enc : TypeId × Value → H} {w : World} {base : Nat} {spare : Nat → Bool} {held : Bool}
set_option maxRecDepth 100000 in
theorem open_exprs (fuel : Nat) : ∀ {v : Value} {y : DataW H × List MemPlace}, DataW.trod enc Try.prog w base spare held fuel 121 [v] = some y → ∃ f : Fo, f.In w.heap.size w v ∧ f.Ok := by
  induction fuel using Nat.strongRecOn with
  | _ fuel ih =>
    intro v y h
    obtain ⟨p, len, cap, rfl, hl, hm, hi⟩ := open_struct_rows_lt Try.underlying121 Try.underlying123 (by kernel_rfl) (by kernel_rfl) (by decide) h
    refine fo_of hl hm fun i him => ?_
    obtain ⟨b, off, n, hn, rfl, hlt, hf⟩ := hi i him
    obtain ⟨u0, y0, c0, h0⟩ := hf 0 _ rfl
    obtain ⟨u1, y1, c1, h1⟩ := hf 1 _ rfl
    obtain ⟨u2, y2, c2, h2⟩ := hf 2 _ rfl
    obtain ⟨o, rfl, ho⟩ := open_i64 Try.underlying3 h0
    obtain ⟨s, rfl, hs⟩ := open_str Try.underlying9 h1
    obtain ⟨ks, hk, hok⟩ := ih n hn h2
    exact ⟨⟨o, s, ks⟩, ⟨b, off, rfl, hlt, c0, c1, u2, c2, hk⟩, ho, hs, hok⟩
set_option maxRecDepth 100000 in
/-- An Expr that came in. -/
theorem open_expr {r : Reach} {b0 : Nat} {v : Value} {d : DataW H} {p : List MemPlace} (hv : Value.okWide Try.prog w r b0 123 v) (h : DataW.Trod enc Try.prog w base spare held 123 v d p) :
    ∃ e : Ex, e.At w.heap.size w v ∧ e.Ok ∧ e.ks.Ok := by
  obtain ⟨v0, v1, v2, y0, y1, y2, n, rfl, _, _, h0, h1, h2⟩ := open_agg3 Try.underlying123 (by kernel_rfl) (by kernel_rfl) hv h
  obtain ⟨o, rfl, ho⟩ := open_i64 Try.underlying3 h0
  obtain ⟨s, rfl, hs⟩ := open_str Try.underlying9 h1
  obtain ⟨ks, hk, hok⟩ := open_exprs n h2
  exact ⟨⟨o, s, ks⟩, ⟨v2, rfl, hk⟩, ⟨ho, hs⟩, hok⟩
end
end Go.Proofs.Ytggpnnoldjpmcaa
namespace Go.Proofs.Ytggpnnoldjpmcaa
open Go.ChangeShapes Go.WideShapes Go.Deep Go.RowKit Go.Joins

section
variable {H : Type} {enc : TypeId × Value → H} {w : World} {base : Nat} {spare : Nat → Bool} {held : Bool}
/-- From a fact at each index to a row of a kind. -/
theorem Kd.rd_of {α : Type} (K : Kd α) {B : Nat} {w : World} {p : Option Addr} {len cap : Nat} (hl : len ≤ cap) (hm : cap ≤ maxLen) (Ok : α → Prop)
    (h : ∀ i, i < len → ∃ x : α, (∃ b off cs, p = some ⟨b, off, none⟩ ∧ b < B ∧ (∀ j u, cs[j]? = some u → w.cell? ⟨b, off + i * K.sz + j, none⟩ = some u) ∧ K.rd B w x cs) ∧ Ok x) :
    ∃ xs : List α, K.Rd B w (.slice p len cap) xs ∧ ∀ x ∈ xs, Ok x := by
  refine ⟨List.ofFn fun i : Fin len => Classical.choose (h i.1 i.2), ⟨p, cap, by simp, by simpa using hl, hm, fun i hi => ?_⟩, fun x hx => ?_⟩
  · rw [List.getElem_ofFn]
    exact (Classical.choose_spec (h i (by simpa using hi))).1
  · obtain ⟨i, rfl⟩ := List.mem_ofFn.1 hx
    exact (Classical.choose_spec (h i.1 i.2)).2
theorem open_cells {P : Program} {t e : TypeId} {c fuel : Nat} {v : Value} {y : DataW H × List MemPlace} (ht : P.underlying t = some (.slice e)) (hC : P.cellsOf e = c) (hpos : 0 < c) (h : DataW.trod enc P w base spare held fuel t [v] = some y) :
    ∃ (p : Option Addr) (len cap : Nat), v = .slice p len cap ∧ len ≤ cap ∧ cap ≤ maxLen ∧ ∀ i, i < len → ∃ (b off n : Nat) (cs : List Value) (z : DataW H × List MemPlace), p = some ⟨b, off, none⟩ ∧ b < w.heap.size ∧ cs.length = c ∧ (∀ j u, cs[j]? = some u → w.cell? ⟨b, off + i * c + j, none⟩ = some u) ∧ DataW.trod enc P w base spare held n e cs = some z := by
  rcases DataW.trod_slice ht h with ⟨h0, _⟩ | ⟨a, len, cap, elems, rest, n, hfu, hcs, _, hb, hl, hm, hlen, hel, _, _⟩
  · simp at h0
    exact ⟨none, 0, 0, h0, Nat.le_refl _, Nat.zero_le _, fun i hi => by omega⟩
  · simp at hcs
    subst hcs
    rw [hC] at hel
    refine ⟨some a, len, cap, rfl, hl, hm, fun i him => ?_⟩
    have k1 := hel i him
    rw [List.getElem?_eq_getElem (by omega)] at k1
    obtain ⟨cs', hc, ht'⟩ := Option.bind_eq_some_iff.1 k1
    obtain ⟨_, hcl, hat⟩ := World.cells?_some hc
    have hcell : ∀ j, j < c → w.cell? (a.add (i * c + j)) = cs'[j]? := fun j hj => by rw [← Go.Deep.add_add]; exact hat j hj
    have c00 := (hcell 0 hpos).trans (List.getElem?_eq_getElem (show 0 < cs'.length by omega))
    obtain ⟨b, off, spot⟩ := a
    have hs : spot = none := by
      have := World.cell?_spot c00
      unfold Addr.add at this
      split at this
      · simpa using this
      · rename_i hne
        have h2 := hel 0 (by omega)
        rw [List.getElem?_eq_getElem (by omega)] at h2
        obtain ⟨cs2, hc2, _⟩ := Option.bind_eq_some_iff.1 h2
        obtain ⟨_, hcl2, hat2⟩ := World.cells?_some hc2
        simpa [Addr.add] using World.cell?_spot ((hat2 0 hpos).trans (List.getElem?_eq_getElem (show 0 < cs2.length by omega)))
    subst hs
    have hb0 : b < w.heap.size := by have h := World.block_lt_of_cell? w _ c00; rw [add_plain] at h; exact h
    refine ⟨b, off, n, cs', _, rfl, hb0, hcl, fun j u hu => ?_, ht'⟩
    have hj : j < c := by have := (List.getElem?_eq_some_iff.1 hu).1; omega
    have := hcell j hj
    rw [add_plain, hu] at this
    rw [Nat.add_assoc]; exact this
end
end Go.Proofs.Ytggpnnoldjpmcaa
namespace Go.Proofs.Ytggpnnoldjpmcaa
open Go.ChangeShapes Go.WideShapes Go.Deep Go.RowKit Go.Joins

section
variable {H : Type} {enc : TypeId × Value → H} {w : World} {base : Nat} {spare : Nat → Bool} {held : Bool}
set_option maxRecDepth 100000 in
theorem open_binds {fuel : Nat} {v : Value} {y : DataW H × List MemPlace} (h : DataW.trod enc Try.prog w base spare held fuel 34 [v] = some y) :
    ∃ xs : List Bn, kBn.Rd w.heap.size w v xs ∧ ∀ x ∈ xs, x.Ok := by
  obtain ⟨p, len, cap, rfl, hl, hm, hi⟩ := open_struct_rows Try.underlying34 Try.underlying88 (by kernel_rfl) (by kernel_rfl) (by decide) h
  refine Kd.rd_of kBn hl hm Bn.Ok fun i him => ?_
  obtain ⟨b, off, n, rfl, hlt, hf⟩ := hi i him
  obtain ⟨u0, y0, c0, h0⟩ := hf 0 _ rfl
  obtain ⟨u1, y1, c1, h1⟩ := hf 1 _ rfl
  obtain ⟨u2, y2, c2, h2⟩ := hf 2 _ rfl
  obtain ⟨s, rfl, hs⟩ := open_str Try.underlying9 h0
  obtain ⟨ids, hids, hio⟩ := open_int_list h1
  obtain ⟨g, hg, _⟩ := DataW.trod_bool Try.underlying4 h2
  simp only [List.cons.injEq, and_true] at hg
  subst hg
  refine ⟨⟨s, ids, g⟩, ⟨b, off, _, rfl, hlt, fun j u hu => ?_, kBn_rd.2 ⟨u1, rfl, hids⟩⟩, hs, hio⟩
  match j, hu with
  | 0, hu => simp at hu; subst hu; exact c0
  | 1, hu => simp at hu; subst hu; exact c1
  | 2, hu => simp at hu; subst hu; exact c2
  | j + 3, hu => simp at hu
theorem kM1 : Try.prog.cellsOf 45 = 2 := by kernel_rfl
theorem kM2 : Try.prog.cellsOf 34 = 1 := by kernel_rfl
theorem kM3 : Try.prog.cellsOf 47 = 3 := by kernel_rfl
theorem kM4 : Try.prog.cellsOf 43 = 1 := by kernel_rfl
set_option maxRecDepth 100000 in
/-- A Match's three cells. -/
theorem open_match3 {n : Nat} {c0 c1 c2 : Value} {y : DataW H × List MemPlace} (h : DataW.trod enc Try.prog w base spare held n 47 [c0, c1, c2] = some y) :
    ∃ m : Mt, (Sl 1 intCells w.heap.size w c0 m.w.ns ∧ Sl 1 intCells w.heap.size w c1 m.w.es ∧ kBn.Rd w.heap.size w c2 m.bs) ∧ m.Ok := by
  obtain ⟨y0, y1, k, _, _, h0, h1⟩ := trod_struct2 Try.underlying47 h
  simp only [kM1, kM2, List.drop_zero, List.drop_succ_cons, List.take_succ_cons, List.take_zero] at h0 h1
  obtain ⟨z0, z1, k', _, _, g0, g1⟩ := trod_struct2 Try.underlying45 h0
  simp only [kM4, List.drop_zero, List.drop_succ_cons, List.take_succ_cons, List.take_zero] at g0 g1
  obtain ⟨ns, hn, hno⟩ := open_int_list g0
  obtain ⟨es, he, heo⟩ := open_int_list g1
  obtain ⟨bs, hb, hbo⟩ := open_binds h1
  exact ⟨⟨⟨ns, es⟩, bs⟩, ⟨hn, he, hb⟩, ⟨hno, heo⟩, hbo⟩
set_option maxRecDepth 100000 in
/-- A Match that came in. -/
theorem open_match {r : Reach} {b0 : Nat} {v : Value} {d : DataW H} {p : List MemPlace} (hv : Value.okWide Try.prog w r b0 47 v) (h : DataW.Trod enc Try.prog w base spare held 47 v d p) :
    ∃ m : Mt, m.At w.heap.size w v ∧ m.Ok := by
  obtain ⟨cs, rfl, hsz⟩ := okWide_struct Try.underlying47 hv
  obtain ⟨c0, c1, c2, rfl⟩ := array3 (hsz.trans kM3)
  obtain ⟨fuel, hf⟩ := h
  obtain ⟨m, ⟨h0, h1, h2⟩, hok⟩ := open_match3 (by simpa [Value.cells] using hf)
  exact ⟨m, ⟨_, _, _, rfl, h0, h1, h2⟩, hok⟩
end
end Go.Proofs.Ytggpnnoldjpmcaa
namespace Go.Proofs.Ytggpnnoldjpmcaa
theorem Try.own : ownKnob Try.prog.godebug = none := by kernel_rfl
theorem Try.laidOut : laidOutB Try.prog = true := by kernel_rfl
end Go.Proofs.Ytggpnnoldjpmcaa
