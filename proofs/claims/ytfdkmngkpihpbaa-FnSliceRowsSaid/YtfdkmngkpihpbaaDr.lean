/- Drawing: a source with a count, lists of constants, a variable of two slices of the call's own. -/
import Derived.Test.YtfdkmngkpihpbaaDraw2
import Derived.Test.YtfdkmngkpihpbaaOwnM
import Derived.Test.YtfdkmngkpihpbaaRegE
import Derived.Test.YtfdkmngkpihpbaaBox
namespace Go.Proofs.Ytfdkmngkpihpbaa
open Go.RowKit

theorem Chg.alloc {F : List Nat} {a w : World} (h : Chg F a w) (o : Obj) : Chg F a (w.alloc o) := h.then_below ((Below.refl _ _).alloc (Nat.le_refl _) o)
theorem Chg.drew {F : List Nat} {a w : World} (h : Chg F a w) : Chg F a w.drew := ⟨h.os, h.tape, h.output, h.size, h.block⟩
/-- Blocks that are new since a do not count. -/
theorem Chg.past {F G : List Nat} {a b c : World} (h : Chg G a b) (hc : Chg F b c) (hF : ∀ x ∈ F, x ∈ G ∨ a.heap.size ≤ x) : Chg G a c :=
  ⟨hc.os.trans h.os, hc.tape.trans h.tape, hc.output.trans h.output, Nat.le_trans h.size hc.size, fun k hk hn => by
    have hnF : k ∉ F := fun hm => by
      rcases hF k hm with h1 | h1
      · exact hn h1
      · omega
    exact (hc.block k (Nat.lt_of_lt_of_le hk h.size) hnF).trans (h.block k hk hn)⟩
theorem Chg.cellOf {F : List Nat} {w w' : World} (hc : Chg F w w') {b o : Nat} {x : Value} (hb : b ∉ F) (h : w.cell? ⟨b, o, none⟩ = some x) : w'.cell? ⟨b, o, none⟩ = some x :=
  (World.cell?_of_block (w := w) (a := ⟨b, o, none⟩) (hc.block b (World.block_lt_of_cell? w _ h) hb)).trans h
theorem Chg.frozenOf {F : List Nat} {w w' : World} (hc : Chg F w w') {b o : Nat} (hb : b ∉ F) (hl : b < w.heap.size) (h : w.frozen? ⟨b, o, none⟩ = false) : w'.frozen? ⟨b, o, none⟩ = false :=
  (World.frozen?_of_block (w := w) (a := ⟨b, o, none⟩) (hc.block b hl hb)).trans h

/-- A drawing source of which at most N bytes have been asked for. -/
def Dr (w : World) (a N : Nat) : Prop := ∃ n, n ≤ N ∧ Rd w a n
theorem Dr.lt {w : World} {a N : Nat} (h : Dr w a N) : a < w.heap.size := h.elim fun _ h => h.2.lt
theorem Dr.mono {w : World} {a N M : Nat} (h : Dr w a N) (hl : N ≤ M) : Dr w a M := h.elim fun n h => ⟨n, Nat.le_trans h.1 hl, h.2⟩
theorem Dr.keep {w w' : World} {a N : Nat} (h : Dr w a N) (hb : ∀ k, k ≤ a → w'.heap[k]? = w.heap[k]?) : Dr w' a N := h.elim fun n h => ⟨n, h.1, h.2.keep hb⟩
theorem Dr.chg {F : List Nat} {w w' : World} {a N : Nat} (h : Dr w a N) (hc : Chg F w w') (hF : ∀ x ∈ F, a < x) : Dr w' a N :=
  h.keep fun k hk => hc.block k (by have := h.lt; omega) (fun hm => by have := hF k hm; omega)
theorem Dr.alloc {w : World} {a N : Nat} (h : Dr w a N) (o : Obj) : Dr (w.alloc o) a N := h.chg ((Chg.refl [] w).alloc o) (by simp)
theorem Dr.drew {w : World} {a N : Nat} (h : Dr w a N) : Dr w.drew a N := h.keep fun _ _ => rfl
theorem Dr.set {w : World} {a N b o : Nat} {x : Value} (h : Dr w a N) (hb : a < b) : Dr (w.setCell ⟨b, o, none⟩ x) a N := h.chg ((Chg.refl [b] w).setCell (p := ⟨b, o, none⟩) (by simp) x) (by simpa using hb)
theorem Dr.below {w w' : World} {a N : Nat} (h : Dr w a N) (hb : Below w.heap.size w w') : Dr w' a N := h.chg (Chg.of_below hb []) (by simp)

/-- n cells of which P holds, from a block's beginning. -/
def Cs (P : Value → Prop) (w : World) (b n : Nat) : Prop := b < w.heap.size ∧ ∀ i, i < n → ∃ v, P v ∧ w.cell? ⟨b, i, none⟩ = some v
theorem Cs.chg {P : Value → Prop} {F : List Nat} {w w' : World} {b n : Nat} (h : Cs P w b n) (hc : Chg F w w') (hb : b ∉ F) : Cs P w' b n :=
  ⟨Nat.lt_of_lt_of_le h.1 hc.size, fun i hi => by obtain ⟨v, h1, h2⟩ := h.2 i hi; exact ⟨v, h1, hc.cellOf hb h2⟩⟩
theorem Cs.alloc {P : Value → Prop} {w : World} {b n : Nat} (h : Cs P w b n) (o : Obj) : Cs P (w.alloc o) b n := h.chg ((Chg.refl [] w).alloc o) (by simp)
theorem Cs.fresh {P : Value → Prop} (p : Value → Bool) (hp : ∀ v, p v = true → P v) (w : World) (cs : Array Value) (T : TypeId) {b n : Nat} (hb : b = w.heap.size) (hn : n = cs.size) (h : cs.all p = true) : Cs P (w.alloc (.cells cs T)) b n := by
  subst hb hn
  refine ⟨by simp, fun i hi => ⟨cs[i], hp _ (Array.all_eq_true.1 h i hi), ?_⟩⟩
  exact (World.cell?_alloc_at cs T _ i rfl).trans (Array.getElem?_eq_getElem hi)
def strP (v : Value) : Prop := ∃ s : ByteArray, v = .string s ∧ s.size ≤ 100
def strB (v : Value) : Bool := match v with | .string s => decide (s.size ≤ 100) | _ => false
theorem strB_spec (v : Value) (h : strB v = true) : strP v := by
  cases v <;> first | (simp [strB] at h; exact ⟨_, rfl, h⟩) | (simp [strB] at h)
def intP (v : Value) : Prop := ∃ z : Int, v = .int .i64 z ∧ -1000 ≤ z ∧ z ≤ 1000
def intB (v : Value) : Bool := match v with | .int .i64 z => decide (-1000 ≤ z) && decide (z ≤ 1000) | _ => false
theorem intB_spec (v : Value) (h : intB v = true) : intP v := by
  unfold intB at h
  split at h
  · simp at h; exact ⟨_, rfl, h.1, h.2⟩
  · cases h

theorem pick_dr (m : Int) (a N : Nat) (w : World) (h : Dr w a N) (hN : N ≤ 999000) :
    Calls Try.prog 87 #[.pointer (some ⟨a, 0, none⟩), .int .i64 m] w fun e w' => ∃ q : Int, e = .returned (.int .i64 q) ∧ 0 ≤ q ∧ q < top m ∧ Dr w' a (N + 1) ∧ Chg [a] w w' := by
  obtain ⟨n, hn, hr⟩ := h
  refine (pick_any m a n w hr (by omega)).mono ?_
  rintro e w' ⟨q, h1, h2, h3, h4, h5⟩
  exact ⟨q, h1, h2, h3, ⟨n + 1, by omega, h4⟩, h5⟩
/-- As pick_dr; the number is a natural one. -/
theorem pick_nat (m : Nat) (a N : Nat) (w : World) (h : Dr w a N) (hN : N ≤ 999000) (hm : 0 < m) :
    Calls Try.prog 87 #[.pointer (some ⟨a, 0, none⟩), .int .i64 m] w fun e w' => ∃ q : Nat, e = .returned (.int .i64 q) ∧ q < m ∧ Dr w' a (N + 1) ∧ Chg [a] w w' := by
  refine (pick_dr m a N w h hN).mono ?_
  rintro e w' ⟨q, h1, h2, h3, h4, h5⟩
  rw [top_of (by omega)] at h3
  obtain ⟨q, rfl⟩ := Int.eq_ofNat_of_zero_le h2
  exact ⟨q, h1, by omega, h4, h5⟩

set_option maxHeartbeats 1000000 in
theorem of_dr (a N b n cap : Nat) (w : World) (h : Dr w a N) (hN : N ≤ 999000) (hc : Cs strP w b n) (hn : 0 < n) (hab : b ≠ a) :
    Calls Try.prog 90 #[.pointer (some ⟨a, 0, none⟩), .slice (some ⟨b, 0, none⟩) n cap] w fun e w' => ∃ s : ByteArray, e = .returned (.string s) ∧ s.size ≤ 100 ∧ Dr w' a (N + 1) ∧ Chg [a] w w' := by
  go_enter Try.func90, Try.ntmps90
  have HC := Lib.hid hc
  clear hc
  go_wp2_with fail
  refine (pick_nat n a N _ h hN hn).mono ?_
  rintro e w1 ⟨q, rfl, hq1, hr, hch⟩
  obtain ⟨v, ⟨s, rfl, hs⟩, hcell⟩ := (HC.out.chg hch (by simpa using hab)).2 q hq1
  have HR := Lib.hid hr
  have HCH := Lib.hid hch
  have HS := Lib.hid hs
  clear hr hch hs
  go_wp2_with fail
  go_ret
  exact ⟨s, rfl, HS.out, HR.out, HCH.out⟩

set_option maxHeartbeats 1000000 in
theorem num_dr (a N b n cap : Nat) (w : World) (h : Dr w a N) (hN : N ≤ 999000) (hc : Cs intP w b n) (hn : 0 < n) (hab : b ≠ a) :
    Calls Try.prog 51 #[.pointer (some ⟨a, 0, none⟩), .slice (some ⟨b, 0, none⟩) n cap] w fun e w' => ∃ z : Int, e = .returned (.int .i64 z) ∧ -1000 ≤ z ∧ z ≤ 1000 ∧ Dr w' a (N + 1) ∧ Chg [a] w w' := by
  go_enter Try.func51, Try.ntmps51
  have HC := Lib.hid hc
  clear hc
  go_wp2_with fail
  refine (pick_nat n a N _ h hN hn).mono ?_
  rintro e w1 ⟨q, rfl, hq1, hr, hch⟩
  obtain ⟨v, ⟨z, rfl, hz⟩, hcell⟩ := (HC.out.chg hch (by simpa using hab)).2 q hq1
  have HR := Lib.hid hr
  have HCH := Lib.hid hch
  have HZ := Lib.hid hz
  clear hr hch hz
  go_wp2_with fail
  go_ret
  exact ⟨z, rfl, HZ.out.1, HZ.out.2, HR.out, HCH.out⟩

/-- An append in a region, by whatever its run is known to give. -/
theorem wp_app {P : Program} {w : World} {o : Oper} {a : Act} {K : Act → World → Prop} {Q : Exit → Act → World → Prop} (s x : Operand) (t : TypeId)
    (ho : o.op = .call { callee := .builtin .append, args := #[s, x], argTypes := #[t, t] }) (vs vx : Value) (hs : a.eval s = vs) (hx : a.eval x = vx) (R : Value → World → Prop)
    (hr : ∃ v' w', (Builtin.append_ #[t, t] o.type #[vs, vx]).run P w = .ok v' w' ∧ R v' w') (h : ∀ v' w', R v' w' → K (a.put o.dst v') w') : Oper.wp P o a w K Q := by
  obtain ⟨v', w', hr, hR⟩ := hr
  unfold Oper.wp execOp
  simp only [ho, resolve, invoke, builtin, Sem.run_bind, Sem.run_pure, Result.andThen_ok, List.map_toArray, List.map_cons, List.map_nil, hs, hx, hr]
  exact h v' w' hR

/-- A list of constants has been made: the world by a letter. -/
theorem made {P : Value → Prop} {p : Value → Bool} (hp : ∀ v, p v = true → P v) {K : Act → World → Prop} {A : Act} {E : World} {cs : Array Value} {T : TypeId} (n : Nat) (hn : n = cs.size) (h : cs.all p = true)
    (hk : ∀ w1, Chg [] E w1 → E.heap.size < w1.heap.size → Cs P w1 E.heap.size n → K A w1) : K A (E.alloc (.cells cs T)) :=
  hk _ ((Chg.refl _ _).alloc _) (by simp) (Cs.fresh p hp E cs T rfl hn h)

/-- A variable of two slices in block b, both in memory of the call's own, from block lo on. -/
def Two {α β : Type} (sz1 : Nat) (enc1 : α → List Value) (T1 : TypeId) (xs : List α) (sz2 : Nat) (enc2 : β → List Value) (T2 : TypeId) (ys : List β) (b lo : Nat) (v1 v2 : Value) (w : World) : Prop :=
  (b < w.heap.size ∧ lo ≤ b) ∧ (w.cell? ⟨b, 0, none⟩ = some v1 ∧ w.cell? ⟨b, 1, none⟩ = some v2) ∧ (w.frozen? ⟨b, 0, none⟩ = false ∧ w.frozen? ⟨b, 1, none⟩ = false) ∧
    ∃ F1 F2, OwnS sz1 enc1 T1 w v1 xs F1 ∧ OwnS sz2 enc2 T2 w v2 ys F2 ∧ (∀ x ∈ F1, lo ≤ x ∧ x ≠ b) ∧ (∀ x ∈ F2, lo ≤ x ∧ x ≠ b) ∧ ∀ x ∈ F1, x ∉ F2
section
variable {α β : Type} {sz1 : Nat} {enc1 : α → List Value} {T1 : TypeId} {xs : List α} {sz2 : Nat} {enc2 : β → List Value} {T2 : TypeId} {ys : List β} {b lo : Nat} {v1 v2 : Value} {w : World}
theorem Two.chg {G : List Nat} {w' : World} (h : Two sz1 enc1 T1 xs sz2 enc2 T2 ys b lo v1 v2 w) (hc : Chg G w w') (hG : ∀ x ∈ G, x < lo) : Two sz1 enc1 T1 xs sz2 enc2 T2 ys b lo v1 v2 w' := by
  obtain ⟨⟨h1, h2⟩, ⟨h3, h4⟩, ⟨h5, h6⟩, F1, F2, h7, h8, h9, h10, h11⟩ := h
  have hb : b ∉ G := fun hm => by have := hG b hm; omega
  exact ⟨⟨Nat.lt_of_lt_of_le h1 hc.size, h2⟩, ⟨hc.cellOf hb h3, hc.cellOf hb h4⟩, ⟨hc.frozenOf hb h1 h5, hc.frozenOf hb h1 h6⟩, F1, F2,
    h7.chg hc (fun x hx hm => by have := hG x hm; have := (h9 x hx).1; omega), h8.chg hc (fun x hx hm => by have := hG x hm; have := (h10 x hx).1; omega), h9, h10, h11⟩
/-- One more behind field 0, and the field is stored anew. -/
theorem Two.app1 (hen : ∀ x, (enc1 x).length = sz1) (hone : ∀ (x : α), ∀ u ∈ enc1 x, u.oneCell' = true) (t ty : TypeId) (i : TypeInfo) (z : Value) (bytes : Nat)
    (ht : Try.prog.underlying t = some (.slice T1)) (hi : Try.prog.info? T1 = some i) (hz : i.zero = some z) (hsz : i.size = sz1) (hby : i.bytes = bytes) (hzs : z.cells.size = sz1)
    (h : Two sz1 enc1 T1 xs sz2 enc2 T2 ys b lo v1 v2 w) (y : α) (cs : Array Value) (hcs : cs = (enc1 y).toArray) (hl : xs.length < 1000000) (hb1 : (xs.length + 1) * bytes ≤ 140737488355328) :
    ∃ v' w', (Builtin.append_ #[t, t] ty #[v1, .slice (some ⟨w.heap.size, 0, none⟩) 1 1]).run Try.prog (w.alloc (.cells cs T1)) = .ok v' w' ∧
      (Two sz1 enc1 T1 (xs ++ [y]) sz2 enc2 T2 ys b lo v' v2 (w'.setCell ⟨b, 0, none⟩ v') ∧ (w'.cell? ⟨b, 0, none⟩ = some v1 ∧ w'.cell? ⟨b, 1, none⟩ = some v2 ∧ w'.frozen? ⟨b, 0, none⟩ = false ∧ w'.frozen? ⟨b, 1, none⟩ = false) ∧ ∃ G, Chg G w (w'.setCell ⟨b, 0, none⟩ v') ∧ ∀ x ∈ G, lo ≤ x) := by
  subst hcs
  have hbe : Chg [] w (w.alloc (.cells (enc1 y).toArray T1)) := (Chg.refl _ _).alloc _
  obtain ⟨⟨h1, h2⟩, ⟨h3, h4⟩, ⟨h5, h6⟩, F1, F2, h7, h8, h9, h10, h11⟩ := h.chg hbe (by simp)
  obtain ⟨v', w', hr, F', o1, o2, hc⟩ := OwnS.append hen hone t ty T1 i z bytes ht hi hz hsz hby hzs h7 y w.heap.size 1 (fun j u hu => by
    rw [World.cell?_alloc_at _ _ _ _ rfl]; simpa using hu) (by omega) hb1
  have hbF : b ∉ F1 := fun hm => (h9 b hm).2 rfl
  have c0 := hc.cellOf hbF h3
  have c1 := hc.cellOf hbF h4
  have f0 := hc.frozenOf hbF h1 h5
  have f1 := hc.frozenOf hbF h1 h6
  have hbw : b < w'.heap.size := Nat.lt_of_lt_of_le h1 hc.size
  have hnew : ∀ x ∈ F', lo ≤ x ∧ x ≠ b := fun x hx => by
    rcases o2 x hx with h | h
    · exact h9 x h
    · omega
  have hs : Chg [b] w' (w'.setCell ⟨b, 0, none⟩ v') := (Chg.refl _ _).setCell (p := ⟨b, 0, none⟩) (by simp) v'
  have hmine := o1.chg hs (fun x hx hm => by simp at hm; exact (hnew x hx).2 hm)
  have hol := h8.lt
  have hother := (h8.chg hc (fun x hx hm => h11 x hm hx)).chg hs (fun x hx hm => by simp at hm; exact (h10 x hx).2 hm)
  have hdis : ∀ x ∈ F', x ∉ F2 := fun x hx hm => by
    rcases o2 x hx with h | h
    · exact (fun x hx hm => h11 x hm hx) x hm h
    · have := hol x hm; omega
  refine ⟨v', w', hr, ⟨⟨by simpa using hbw, h2⟩, ⟨set_same _ _ _ _ _ c0, (set_near _ _ _ _ _ (by omega)).trans c1⟩, ⟨by simpa [go_sem] using f0, by simpa [go_sem] using f1⟩, F', F2, hmine, hother, hnew, h10, fun x hx => hdis x hx⟩, ⟨c0, c1, f0, f1⟩, b :: F1, ?_, ?_⟩
  · refine ((hbe.mono (by simp)).trans (hc.mono (fun x hx => List.mem_cons_of_mem _ hx))).trans (hs.mono (by simp))
  · intro x hx
    rcases List.mem_cons.1 hx with rfl | hx
    · exact h2
    · exact (h9 x hx).1
/-- One more behind field 1, and the field is stored anew. -/
theorem Two.app2 (hen : ∀ x, (enc2 x).length = sz2) (hone : ∀ (x : β), ∀ u ∈ enc2 x, u.oneCell' = true) (t ty : TypeId) (i : TypeInfo) (z : Value) (bytes : Nat)
    (ht : Try.prog.underlying t = some (.slice T2)) (hi : Try.prog.info? T2 = some i) (hz : i.zero = some z) (hsz : i.size = sz2) (hby : i.bytes = bytes) (hzs : z.cells.size = sz2)
    (h : Two sz1 enc1 T1 xs sz2 enc2 T2 ys b lo v1 v2 w) (y : β) (cs : Array Value) (hcs : cs = (enc2 y).toArray) (hl : ys.length < 1000000) (hb1 : (ys.length + 1) * bytes ≤ 140737488355328) :
    ∃ v' w', (Builtin.append_ #[t, t] ty #[v2, .slice (some ⟨w.heap.size, 0, none⟩) 1 1]).run Try.prog (w.alloc (.cells cs T2)) = .ok v' w' ∧
      (Two sz1 enc1 T1 xs sz2 enc2 T2 (ys ++ [y]) b lo v1 v' (w'.setCell ⟨b, 1, none⟩ v') ∧ (w'.cell? ⟨b, 0, none⟩ = some v1 ∧ w'.cell? ⟨b, 1, none⟩ = some v2 ∧ w'.frozen? ⟨b, 0, none⟩ = false ∧ w'.frozen? ⟨b, 1, none⟩ = false) ∧ ∃ G, Chg G w (w'.setCell ⟨b, 1, none⟩ v') ∧ ∀ x ∈ G, lo ≤ x) := by
  subst hcs
  have hbe : Chg [] w (w.alloc (.cells (enc2 y).toArray T2)) := (Chg.refl _ _).alloc _
  obtain ⟨⟨h1, h2⟩, ⟨h3, h4⟩, ⟨h5, h6⟩, F1, F2, h7, h8, h9, h10, h11⟩ := h.chg hbe (by simp)
  obtain ⟨v', w', hr, F', o1, o2, hc⟩ := OwnS.append hen hone t ty T2 i z bytes ht hi hz hsz hby hzs h8 y w.heap.size 1 (fun j u hu => by
    rw [World.cell?_alloc_at _ _ _ _ rfl]; simpa using hu) (by omega) hb1
  have hbF : b ∉ F2 := fun hm => (h10 b hm).2 rfl
  have c0 := hc.cellOf hbF h3
  have c1 := hc.cellOf hbF h4
  have f0 := hc.frozenOf hbF h1 h5
  have f1 := hc.frozenOf hbF h1 h6
  have hbw : b < w'.heap.size := Nat.lt_of_lt_of_le h1 hc.size
  have hnew : ∀ x ∈ F', lo ≤ x ∧ x ≠ b := fun x hx => by
    rcases o2 x hx with h | h
    · exact h10 x h
    · omega
  have hs : Chg [b] w' (w'.setCell ⟨b, 1, none⟩ v') := (Chg.refl _ _).setCell (p := ⟨b, 1, none⟩) (by simp) v'
  have hmine := o1.chg hs (fun x hx hm => by simp at hm; exact (hnew x hx).2 hm)
  have hol := h7.lt
  have hother := (h7.chg hc (fun x hx hm => h11 x hx hm)).chg hs (fun x hx hm => by simp at hm; exact (h9 x hx).2 hm)
  have hdis : ∀ x ∈ F', x ∉ F1 := fun x hx hm => by
    rcases o2 x hx with h | h
    · exact (fun x hx hm => h11 x hx hm) x hm h
    · have := hol x hm; omega
  refine ⟨v', w', hr, ⟨⟨by simpa using hbw, h2⟩, ⟨(set_near _ _ _ _ _ (by omega)).trans c0, set_same _ _ _ _ _ c1⟩, ⟨by simpa [go_sem] using f0, by simpa [go_sem] using f1⟩, F1, F', hother, hmine, h9, hnew, fun x hx hm => hdis x hm hx⟩, ⟨c0, c1, f0, f1⟩, b :: F2, ?_, ?_⟩
  · refine ((hbe.mono (by simp)).trans (hc.mono (fun x hx => List.mem_cons_of_mem _ hx))).trans (hs.mono (by simp))
  · intro x hx
    rcases List.mem_cons.1 hx with rfl | hx
    · exact h2
    · exact (h10 x hx).1
theorem Two.has {g : Gr} {w : World} {b lo : Nat} {v1 v2 : Value} (h : Two 2 Nd.cells 141 g.ns 4 Ed.cells 143 g.es b lo v1 v2 w) : ∃ F, g.Has (.agg #[v1, v2]) F w ∧ ∀ x ∈ F, lo ≤ x ∧ x ≠ b := by
  obtain ⟨_, _, _, F1, F2, h7, h8, h9, h10, h11⟩ := h
  refine ⟨F1 ++ F2, ⟨F1, F2, rfl, _, _, rfl, OwnS.own (enc := Nd.cells) (fun _ => rfl) h7, OwnS.own (enc := Ed.cells) (fun _ => rfl) h8, fun _ _ => Nat.zero_le _, fun _ _ => Nat.zero_le _, h11⟩, fun x hx => ?_⟩
  rcases List.mem_append.1 hx with h | h
  · exact h9 x h
  · exact h10 x h
end
/-- A graph in the making, in the variable in block b. -/
abbrev GTwo (ns : List Nd) (es : List Ed) (b lo : Nat) (v1 v2 : Value) (w : World) : Prop := Two 2 Nd.cells 141 ns 4 Ed.cells 143 es b lo v1 v2 w
theorem appN {b lo : Nat} {v1 v2 : Value} {w : World} {ns : List Nd} {es : List Ed} (h : GTwo ns es b lo v1 v2 w) (x : Nd) (hl : ns.length < 1000000) :
    ∃ v' w', (Builtin.append_ #[68, 68] 68 #[v1, .slice (some ⟨w.heap.size, 0, none⟩) 1 1]).run Try.prog (w.alloc (.cells #[.string x.l, .int .i64 x.n] 141)) = .ok v' w' ∧
      (GTwo (ns ++ [x]) es b lo v' v2 (w'.setCell ⟨b, 0, none⟩ v') ∧ (w'.cell? ⟨b, 0, none⟩ = some v1 ∧ w'.cell? ⟨b, 1, none⟩ = some v2 ∧ w'.frozen? ⟨b, 0, none⟩ = false ∧ w'.frozen? ⟨b, 1, none⟩ = false) ∧ (∃ p c, v' = .slice p (ns.length + 1) c) ∧ ∃ G, Chg G w (w'.setCell ⟨b, 0, none⟩ v') ∧ ∀ x ∈ G, lo ≤ x) := by
  obtain ⟨i, hi, hzz⟩ := Option.map_eq_some_iff.1 infoNode
  simp only [Prod.mk.injEq] at hzz
  obtain ⟨v', w', h1, h2, h3, h4⟩ := Two.app1 (enc1 := Nd.cells) (sz1 := 2) (fun _ => rfl) (fun x u hu => by simp [Nd.cells] at hu; rcases hu with rfl | rfl <;> rfl) 68 68 i _ 24 Try.underlying68 hi hzz.1 hzz.2.1 hzz.2.2 (by decide) h _ _ rfl hl (by omega)
  refine ⟨v', w', h1, h2, h3, ?_, h4⟩
  obtain ⟨_, _, _, F1, F2, o1, o2, _⟩ := h2
  simpa using OwnS.form o1
theorem appE {b lo : Nat} {v1 v2 : Value} {w : World} {ns : List Nd} {es : List Ed} (h : GTwo ns es b lo v1 v2 w) (x : Ed) (hl : es.length < 1000000) :
    ∃ v' w', (Builtin.append_ #[69, 69] 69 #[v2, .slice (some ⟨w.heap.size, 0, none⟩) 1 1]).run Try.prog (w.alloc (.cells #[.int .i64 x.f, .int .i64 x.t, .string x.l, .int .i64 x.n] 143)) = .ok v' w' ∧
      (GTwo ns (es ++ [x]) b lo v1 v' (w'.setCell ⟨b, 1, none⟩ v') ∧ (w'.cell? ⟨b, 0, none⟩ = some v1 ∧ w'.cell? ⟨b, 1, none⟩ = some v2 ∧ w'.frozen? ⟨b, 0, none⟩ = false ∧ w'.frozen? ⟨b, 1, none⟩ = false) ∧ (∃ p c, v' = .slice p (es.length + 1) c) ∧ ∃ G, Chg G w (w'.setCell ⟨b, 1, none⟩ v') ∧ ∀ x ∈ G, lo ≤ x) := by
  obtain ⟨i, hi, hzz⟩ := Option.map_eq_some_iff.1 infoEdge
  simp only [Prod.mk.injEq] at hzz
  obtain ⟨v', w', h1, h2, h3, h4⟩ := Two.app2 (enc2 := Ed.cells) (sz2 := 4) (fun _ => rfl) (fun x u hu => by simp [Ed.cells] at hu; rcases hu with rfl | rfl | rfl | rfl <;> rfl) 69 69 i _ 40 Try.underlying69 hi hzz.1 hzz.2.1 hzz.2.2 (by decide) h _ _ rfl hl (by omega)
  refine ⟨v', w', h1, h2, h3, ?_, h4⟩
  obtain ⟨_, _, _, F1, F2, o1, o2, _⟩ := h2
  simpa using OwnS.form o2
end Go.Proofs.Ytfdkmngkpihpbaa
