/- AutoValid on both sides. -/
import Derived.Test.YtbbemeaojmfndaaDoorAcTo
import Derived.Test.YtbbemeaojmfndaaDoorElV
import Derived.Test.YtbbemeaojmfndaaDoorElSame
import Derived.Test.YtbbemeaojmfndaaDoorSElSame
namespace Go.Proofs.YtbbemeaojmfndaaDoor
open Go.RowKit

def zrEl : El := ⟨false, ⟨#[]⟩, ⟨0, ⟨#[]⟩, .nil⟩, ⟨0, ⟨#[]⟩, .nil⟩, 0⟩
noncomputable def zrE (e : El) : Bool := elEq e zrEl
theorem zrEl_liv (B : Nat) (w : World) : zrEl.Liv B w (.agg #[.bool false, .string ⟨#[]⟩, .int .i64 0, .string ⟨#[]⟩, .slice none 0 0, .int .i64 0, .string ⟨#[]⟩, .slice none 0 0, .int .i64 0]) := ⟨_, _, rfl, ⟨none, 0, rfl, Nat.le_refl _, Nat.zero_le _, .inl rfl⟩, ⟨none, 0, rfl, Nat.le_refl _, Nat.zero_le _, .inl rfl⟩⟩
noncomputable def acV (s : Int) (a : Ac) : Bool := (decide (0 ≤ a.f) && decide (a.f < s)) && (decide (0 ≤ a.t) && decide (a.t < s)) && (if a.fr = true then zrE a.x else (decide (a.x.v.size = 0) && elemV a.x))
noncomputable def auV (a : Au) : Bool := (decide (2 ≤ a.s) && (decide (a.s ≤ 60) && decide (a.ar.length ≤ 200))) && a.ar.all (acV a.s)
theorem acV_bad {s : Int} {a : Ac} (h : a.f < 0 ∨ s ≤ a.f ∨ a.t < 0 ∨ s ≤ a.t) : acV s a = false := by
  have hx : ((decide (0 ≤ a.f) && decide (a.f < s)) && (decide (0 ≤ a.t) && decide (a.t < s))) = false := by
    rw [Bool.eq_false_iff]; intro h'; simp at h'; omega
  unfold acV; rw [hx]; rfl
theorem acV_good {s : Int} {a : Ac} (h1 : ¬ a.f < 0) (h2 : ¬ s ≤ a.f) (h3 : ¬ a.t < 0) (h4 : ¬ s ≤ a.t) : acV s a = (if a.fr = true then zrE a.x else (decide (a.x.v.size = 0) && elemV a.x)) := by
  have hx : ((decide (0 ≤ a.f) && decide (a.f < s)) && (decide (0 ≤ a.t) && decide (a.t < s))) = true := by simp; omega
  unfold acV; rw [hx]; rfl
theorem auV_bad {a : Au} (h : a.s < 2 ∨ 60 < a.s ∨ 200 < a.ar.length) : auV a = false := by
  have hx : (decide (2 ≤ a.s) && (decide (a.s ≤ 60) && decide (a.ar.length ≤ 200))) = false := by
    rw [Bool.eq_false_iff]; intro h'; simp at h'; omega
  unfold auV; rw [hx]; rfl
theorem auV_good {a : Au} (h1 : ¬ a.s < 2) (h2 : ¬ 60 < a.s) (h3 : ¬ 200 < a.ar.length) : auV a = a.ar.all (acV a.s) := by
  have hx : (decide (2 ≤ a.s) && (decide (a.s ≤ 60) && decide (a.ar.length ≤ 200))) = true := by simp; omega
  unfold auV; rw [hx]; rfl
/-- An arc of a row in memory of a call's own. -/
theorem kAc_own {w : World} {p : Option Addr} {n cap : Nat} {xs : List Ac} {F : List Nat} (h : kAc.Ow w (.slice p n cap) xs F) {k : Nat} (hk : k < xs.length) :
    ∃ b off q c q' c' F1, p = some ⟨b, off, none⟩ ∧ b < w.heap.size ∧ w.cell? ⟨b, off + k * 12, none⟩ = some (.int .i64 xs[k].f) ∧ w.cell? ⟨b, off + k * 12 + 1, none⟩ = some (.int .i64 xs[k].t) ∧ w.cell? ⟨b, off + k * 12 + 2, none⟩ = some (.bool xs[k].fr) ∧ w.cell? ⟨b, off + k * 12 + 3, none⟩ = some (.bool xs[k].x.n) ∧ w.cell? ⟨b, off + k * 12 + 4, none⟩ = some (.string xs[k].x.v) ∧ w.cell? ⟨b, off + k * 12 + 5, none⟩ = some (.int .i64 xs[k].x.l.op) ∧ w.cell? ⟨b, off + k * 12 + 6, none⟩ = some (.string xs[k].x.l.a) ∧ w.cell? ⟨b, off + k * 12 + 7, none⟩ = some (.slice q xs[k].x.l.ks.list.length c) ∧ w.cell? ⟨b, off + k * 12 + 8, none⟩ = some (.int .i64 xs[k].x.c.op) ∧ w.cell? ⟨b, off + k * 12 + 9, none⟩ = some (.string xs[k].x.c.a) ∧ w.cell? ⟨b, off + k * 12 + 10, none⟩ = some (.slice q' xs[k].x.c.ks.list.length c') ∧ w.cell? ⟨b, off + k * 12 + 11, none⟩ = some (.int .i64 xs[k].x.d) ∧ xs[k].Has (.agg #[.int .i64 xs[k].f, .int .i64 xs[k].t, .bool xs[k].fr, .bool xs[k].x.n, .string xs[k].x.v, .int .i64 xs[k].x.l.op, .string xs[k].x.l.a, .slice q xs[k].x.l.ks.list.length c, .int .i64 xs[k].x.c.op, .string xs[k].x.c.a, .slice q' xs[k].x.c.ks.list.length c', .int .i64 xs[k].x.d]) F1 w := by
  obtain ⟨p', cap', h1, h2, h3, h4⟩ := h
  cases h1
  rcases h4 with ⟨rfl, _⟩ | ⟨b, off, F', e, rfl, hn, hlt, hf, ho⟩
  · simp at hk
  · obtain ⟨cs, F1, g1, g2, g3⟩ := ho.get k hk
    obtain ⟨k1, k2, G1, G2, rfl, rfl, hdj, o1, o2⟩ := g3
    obtain ⟨q, c, rfl⟩ := o1.in.form
    obtain ⟨q', c', rfl⟩ := o2.in.form
    have hc : ∀ j u, (xs[k].cs (.slice q xs[k].x.l.ks.list.length c) (.slice q' xs[k].x.c.ks.list.length c'))[j]? = some u → w.cell? ⟨b, off + k * 12 + j, none⟩ = some u := fun j u hu => by rw [Nat.add_assoc]; exact g2 j u hu
    exact ⟨b, off, q, c, q', c', G1 ++ G2, e, hlt, hc 0 _ rfl, hc 1 _ rfl, hc 2 _ rfl, hc 3 _ rfl, hc 4 _ rfl, hc 5 _ rfl, hc 6 _ rfl, hc 7 _ rfl, hc 8 _ rfl, hc 9 _ rfl, hc 10 _ rfl, hc 11 _ rfl, ⟨_, _, G1, G2, rfl, rfl, hdj, o1, o2⟩⟩

set_option maxRecDepth 100000 in
set_option maxHeartbeats 4000000 in
theorem arcValid_any (a : Ac) (v : Value) (F : List Nat) (s : Int) (w : World) (ha : a.Has v F w) (hn : a.need ≤ 1048576) (hvars : Vars w) :
    Calls Tryd.prog 50 #[v, .int .i64 s] w fun en w' => en = .returned (.bool (acV s a)) ∧ Below w.heap.size w w' := by
  obtain ⟨f, t, fr, x⟩ := a
  have hsm := El.sm_of (e := x) hn
  have hs1 : x.l.ks.size ≤ 1048576 := (El.sm_need (e := x) hn).2.2.1
  have hs2 : x.c.ks.size ≤ 1048576 := (El.sm_need (e := x) hn).2.2.2.2.1
  obtain ⟨k, k', F1, F2, rfl, rfl, hdj, o1, o2⟩ := ha
  simp only at o1 o2 ⊢
  obtain ⟨p, c, rfl⟩ := o1.in.form
  obtain ⟨q, d, rfl⟩ := o2.in.form
  have HE := Lib.hid (show x.Has (.agg #[.bool x.n, .string x.v, .int .i64 x.l.op, .string x.l.a, .slice p x.l.ks.list.length c, .int .i64 x.c.op, .string x.c.a, .slice q x.c.ks.list.length d, .int .i64 x.d]) (F1 ++ F2) w from ⟨_, _, F1, F2, rfl, rfl, hdj, o1, o2⟩)
  have HVV := Lib.hid hvars
  have HSM := Lib.hid hsm
  have HBAD := Lib.hid (fun h => acV_bad (s := s) (a := ⟨f, t, fr, x⟩) h)
  clear o1 o2 hdj hvars hn hsm
  have HV0 := Lib.hid (fun (o : Obj) => (Below.refl w.heap.size w).alloc (Nat.le_refl _) o)
  by_cases h1 : f < 0
  · have HR := Lib.hid (HBAD.out (Or.inl h1))
    go_enter Tryd.func50, Tryd.ntmps50
    go_wp2_with fail
    go_ret
    exact ⟨ret_bool (by rw [HR.out]), HV0.out _⟩
  by_cases h2 : s ≤ f
  · have HR := Lib.hid (HBAD.out (Or.inr (Or.inl h2)))
    go_enter Tryd.func50, Tryd.ntmps50
    go_wp2_with fail
    go_ret
    exact ⟨ret_bool (by rw [HR.out]), HV0.out _⟩
  by_cases h3 : t < 0
  · have HR := Lib.hid (HBAD.out (Or.inr (Or.inr (Or.inl h3))))
    go_enter Tryd.func50, Tryd.ntmps50
    go_wp2_with fail
    go_ret
    exact ⟨ret_bool (by rw [HR.out]), HV0.out _⟩
  by_cases h4 : s ≤ t
  · have HR := Lib.hid (HBAD.out (Or.inr (Or.inr (Or.inr h4))))
    go_enter Tryd.func50, Tryd.ntmps50
    go_wp2_with fail
    go_ret
    exact ⟨ret_bool (by rw [HR.out]), HV0.out _⟩
  have HG := Lib.hid (acV_good (s := s) (a := ⟨f, t, fr, x⟩) h1 h2 h3 h4)
  clear HBAD
  cases fr with
  | true =>
    have HG2 := Lib.hid (show acV s ⟨f, t, true, x⟩ = elEq x zrEl from HG.out)
    go_enter Tryd.func50, Tryd.ntmps50
    go_wp2_with fail
    refine (elemSame_of x zrEl _ _ _ _ (HE.out.below (HV0.out _)).liv (zrEl_liv _ _) (Nat.le_refl _) hs1 hs2).mono ?_
    rintro en w1 ⟨rfl, hb1⟩
    have HB1 := Lib.hid (below_past hb1)
    clear hb1
    go_wp2_with fail
    go_ret
    exact ⟨ret_bool HG2.out.symm, HB1.out⟩
  | false =>
    by_cases h0 : x.v.size = 0
    · have HG2 := Lib.hid (show acV s ⟨f, t, false, x⟩ = elemV x from HG.out.trans (by show (decide (x.v.size = 0) && elemV x) = _; rw [decide_eq_true h0]; rfl))
      have e2 := str_empty h0
      have e3 := str_empty' h0
      go_enter Tryd.func50, Tryd.ntmps50
      go_wp2_with fail
      refine (elemValid_any x _ _ _ (HE.out.below (HV0.out _)).at (Nat.le_refl _) HSM.out (HVV.out.below (HV0.out _))).mono ?_
      rintro en w1 ⟨rfl, hb1⟩
      have HB1 := Lib.hid (below_past hb1)
      clear hb1
      cases hE : elemV x with
      | true =>
        have HG3 := Lib.hid (HG2.out.trans hE)
        clear hE
        go_wp2_with fail
        go_ret
        exact ⟨ret_bool (by rw [HG3.out]), HB1.out⟩
      | false =>
        have HG3 := Lib.hid (HG2.out.trans hE)
        clear hE
        go_wp2_with fail
        go_ret
        exact ⟨ret_bool (by rw [HG3.out]), HB1.out⟩
    · have HG2 := Lib.hid (show acV s ⟨f, t, false, x⟩ = false from HG.out.trans (by show (decide (x.v.size = 0) && elemV x) = _; rw [decide_eq_false h0]; rfl))
      have e2 := str_nonempty (s := x.v) (by omega)
      have e3 := str_nonempty'' (s := x.v) (by omega)
      go_enter Tryd.func50, Tryd.ntmps50
      go_wp2_with fail
      go_ret
      exact ⟨ret_bool (by rw [HG2.out]), HV0.out _⟩

set_option maxRecDepth 100000 in
set_option maxHeartbeats 1000000 in
theorem autoValidFn_any (a : Ac) (v : Value) (F : List Nat) (s : Int) (c : Nat) (w : World) (ha : a.Has v F w) (hn : a.need ≤ 1048576) (hvars : Vars w) (hc : w.cell? ⟨c, 0, none⟩ = some (.int .i64 s)) :
    Calls Tryd.prog 49 #[v, .pointer (some ⟨c, 0, none⟩)] w fun en w' => en = .returned (.bool (!acV s a)) ∧ Below w.heap.size w w' := by
  have hlt := World.block_lt_of_cell? w _ hc
  have HA := Lib.hid ha
  have HVV := Lib.hid hvars
  obtain ⟨p, d, q, e, rfl⟩ := ha.form
  clear ha hvars
  have HV0 := Lib.hid (fun (o : Obj) => (Below.refl w.heap.size w).alloc (Nat.le_refl _) o)
  go_enter Tryd.func49, Tryd.ntmps49
  go_wp2_with fail
  refine (arcValid_any a _ F s _ (HA.out.chg (Chg.of_below (HV0.out _) []) (by simp)) hn (HVV.out.below (HV0.out _))).mono ?_
  rintro en w1 ⟨rfl, hb1⟩
  have HB1 := Lib.hid (below_past hb1)
  clear hb1
  cases hE : acV s a with
  | true =>
    go_wp2_with fail
    go_ret
    exact ⟨ret_bool (by rw [hE]; rfl), HB1.out⟩
  | false =>
    go_wp2_with fail
    go_ret
    exact ⟨ret_bool (by rw [hE]; rfl), HB1.out⟩

def AcOk (s : Int) (xs : List Ac) (k : Nat) : Prop := ∀ (i : Nat) (h : i < xs.length), i < k → acV s xs[i] = true
theorem AcOk.zero (s : Int) (xs : List Ac) : AcOk s xs 0 := fun _ _ h => by omega
theorem AcOk.succ {s : Int} {xs : List Ac} {k : Nat} (h : AcOk s xs k) (hk : k < xs.length) (hp : acV s xs[k] = true) : AcOk s xs (k + 1) := fun i hi hik => by
  by_cases hik' : i = k
  · subst hik'; exact hp
  · exact h i hi (by omega)
theorem AcOk.full {s : Int} {xs : List Ac} (h : AcOk s xs xs.length) : xs.all (acV s) = true := by
  rw [List.all_eq_true]; intro x hx
  obtain ⟨i, hi, rfl⟩ := List.getElem_of_mem hx
  exact h i hi hi
theorem acs_bad {s : Int} {xs : List Ac} {k : Nat} (hk : k < xs.length) (hp : acV s xs[k] = false) : xs.all (acV s) = false := by
  rw [List.all_eq_false]; exact ⟨_, List.getElem_mem hk, by rw [hp]; simp⟩

set_option maxRecDepth 100000 in
set_option maxHeartbeats 1000000 in
theorem indexArc_any (xs : List Ac) (v : Value) (F : List Nat) (s : Int) (c : Nat) (w : World) (hv : kAc.Ow w v xs F) (hn : sumAc xs ≤ 1048576) (hvars : Vars w) (hc : w.cell? ⟨c, 0, none⟩ = some (.int .i64 s)) :
    Calls Tryd.prog 82 #[v, .func (.func 49) #[] #[.pointer (some ⟨c, 0, none⟩)]] w fun e w' => ∃ r : Int, e = .returned (.int .i64 r) ∧ ((r = -1 ∧ xs.all (acV s) = true) ∨ (0 ≤ r ∧ xs.all (acV s) = false)) ∧ Below w.heap.size w w' := by
  have hcl : c < w.heap.size := World.block_lt_of_cell? w _ hc
  obtain ⟨p, cap, rfl⟩ := hv.form
  obtain ⟨_, _, hm⟩ := hv.rd.max
  unfold maxLen at hm
  have HV := Lib.hid hv
  have HVV := Lib.hid hvars
  clear hv hvars
  go_enter Tryd.func82, Tryd.ntmps82
  go_wp2_with fail
  go_loopw [8] (fun i wr => ∃ k : Nat, k ≤ xs.length ∧ i = .int .i64 k ∧ RowKit.Hid (AcOk s xs k) ∧ Below w.heap.size w wr) (fun i _ => xs.length - (intOf i).toNat)
  case atStart => exact ⟨0, Nat.zero_le _, rfl, Lib.hid (AcOk.zero _ _), Below.refl _ _⟩
  case round =>
    obtain ⟨k, hk, rfl, HAC, hbw⟩ := hrel
    have hsz := hbw.size
    have HB := Lib.hid hbw
    clear hbw
    by_cases hlt : k < xs.length
    · obtain ⟨b, off, q, d, q', d', F1, rfl, hb, c0, c1, c2, c3, c4, c5, c6, c7, c8, c9, c10, c11, hin⟩ := kAc_own (HV.out.below HB.out) hlt
      have hgood := Lib.hid (fun h => HAC.out.succ hlt h)
      have hbad := Lib.hid (fun h => acs_bad (s := s) (xs := xs) hlt h)
      have hsize := sumAc_get xs k hlt
      obtain ⟨x, ex⟩ : ∃ x, x = xs[k] := ⟨_, rfl⟩
      rw [← ex] at c0 c1 c2 c3 c4 c5 c6 c7 c8 c9 c10 c11 hin hgood hbad hsize
      have HIN := Lib.hid hin
      have HSZ := Lib.hid (Nat.le_trans hsize hn)
      clear ex hin HAC hsize
      go_wp2_with fail
      refine (autoValidFn_any x _ F1 s c _ HIN.out HSZ.out (HVV.out.below HB.out) (keepc HB.out hcl hc)).mono ?_
      rintro e w1 ⟨rfl, hb1⟩
      have HB1 := Lib.hid (HB.out.trans (hb1.mono hsz))
      clear hb1
      cases hp : acV s x with
      | false =>
        have HG := Lib.hid (hbad.out hp)
        clear hgood hbad hp
        go_wp2_with fail
        go_ret
        exact ⟨k, rfl, .inr ⟨by omega, HG.out⟩, HB1.out⟩
      | true =>
        have HG := Lib.hid (hgood.out hp)
        clear hgood hbad hp
        go_wp2_with fail
        go_roundw
        case rel => exact ⟨k + 1, by omega, by go_num, HG, HB1.out⟩
        case measure => simp [intOf]; omega
    · obtain rfl : k = xs.length := by omega
      have HG := Lib.hid HAC.out.full
      go_wp2_with fail
      go_ret
      exact ⟨-1, rfl, .inl ⟨rfl, HG.out⟩, HB.out⟩

set_option maxHeartbeats 400000 in
theorem containsArc_any (xs : List Ac) (v : Value) (F : List Nat) (s : Int) (c : Nat) (w : World) (hv : kAc.Ow w v xs F) (hn : sumAc xs ≤ 1048576) (hvars : Vars w) (hc : w.cell? ⟨c, 0, none⟩ = some (.int .i64 s)) :
    Calls Tryd.prog 48 #[v, .func (.func 49) #[] #[.pointer (some ⟨c, 0, none⟩)]] w fun e w' => e = .returned (.bool (!xs.all (acV s))) ∧ Below w.heap.size w w' := by
  go_enter Tryd.func48, Tryd.ntmps48
  go_wp2_with fail
  with_reducible refine (indexArc_any xs v F s c w hv hn hvars hc).mono ?_
  rintro e w1 ⟨r, rfl, hr, hb1⟩
  have HB := Lib.hid hb1
  clear hb1
  rcases hr with ⟨hr, hz⟩ | ⟨hr, hz⟩
  · have HZ := Lib.hid hz
    clear hz
    subst hr
    go_wp2_with fail
    go_ret
    exact ⟨ret_bool (by rw [HZ.out]; rfl), HB.out⟩
  · have HZ := Lib.hid hz
    have q0 : decide (0 ≤ r) = true := decide_eq_true hr
    clear hz
    go_wp2_with fail
    go_ret
    exact ⟨ret_bool (by rw [HZ.out]; rfl), HB.out⟩

set_option maxRecDepth 100000 in
set_option maxHeartbeats 1000000 in
theorem autoValid_any (a : Au) (v : Value) (F : List Nat) (w : World) (ha : a.Has v F w) (hn : a.need ≤ 1048576) (hvars : Vars w) :
    Calls Tryd.prog 22 #[v] w fun en w' => en = .returned (.bool (auV a)) ∧ Below w.heap.size w w' := by
  obtain ⟨b, rfl, hb⟩ := ha
  have HB := Lib.hid hb
  have HVV := Lib.hid hvars
  obtain ⟨p, c, rfl⟩ := hb.form
  obtain ⟨_, _, hm⟩ := hb.rd.max
  unfold maxLen at hm
  have hn2 : sumAc a.ar ≤ 1048576 := by unfold Au.need at hn; omega
  clear hb hvars hn
  have HBAD := Lib.hid (fun h => auV_bad (a := a) h)
  have HV0 := Lib.hid (fun (o : Obj) => (Below.refl w.heap.size w).alloc (Nat.le_refl _) o)
  by_cases h1 : a.s < 2
  · have HR := Lib.hid (HBAD.out (Or.inl h1))
    have hle : a.s ≤ 1 := by omega
    go_enter Tryd.func22, Tryd.ntmps22
    go_wp2_with fail
    go_ret
    exact ⟨ret_bool (by rw [HR.out]), HV0.out _⟩
  have hle : ¬ a.s ≤ 1 := by omega
  by_cases h2 : 60 < a.s
  · have HR := Lib.hid (HBAD.out (Or.inr (Or.inl h2)))
    go_enter Tryd.func22, Tryd.ntmps22
    go_wp2_with fail
    go_ret
    exact ⟨ret_bool (by rw [HR.out]), HV0.out _⟩
  by_cases h3 : 200 < a.ar.length
  · have HR := Lib.hid (HBAD.out (Or.inr (Or.inr h3)))
    have h3' : (200 : Int) < a.ar.length := by omega
    go_enter Tryd.func22, Tryd.ntmps22
    go_wp2_with fail
    go_ret
    exact ⟨ret_bool (by rw [HR.out]), HV0.out _⟩
  have h3' : ¬ (200 : Int) < a.ar.length := by omega
  have HG := Lib.hid (auV_good (a := a) h1 h2 h3)
  go_enter Tryd.func22, Tryd.ntmps22
  go_wp2_with fail
  refine (containsArc_any a.ar _ F a.s w.heap.size _ (HB.out.below (HV0.out _)) hn2 (HVV.out.below (HV0.out _)) (by simp [go_sem])).mono ?_
  rintro en w1 ⟨rfl, hb1⟩
  have HB1 := Lib.hid (below_past hb1)
  clear hb1
  cases hE : a.ar.all (acV a.s) with
  | true =>
    have HG3 := Lib.hid (HG.out.trans hE)
    clear hE
    go_wp2_with fail
    go_ret
    exact ⟨ret_bool (by rw [HG3.out]), HB1.out⟩
  | false =>
    have HG3 := Lib.hid (HG.out.trans hE)
    clear hE
    go_wp2_with fail
    go_ret
    exact ⟨ret_bool (by rw [HG3.out]), HB1.out⟩

set_option maxRecDepth 100000 in
set_option maxHeartbeats 1000000 in
theorem l4Zr_any (e : El) (u : Value) (B : Nat) (w : World) (hu : e.At B w u) (hB : B ≤ w.heap.size) :
    Calls Tryd.prog 46 #[u] w fun en w' => en = .returned (.bool (zrE e)) ∧ Below w.heap.size w w' := by
  obtain ⟨p, c, p', c', rfl, _, _⟩ := hu.form
  have HU := Lib.hid hu
  clear hu
  go_enter Tryd.func46, Tryd.ntmps46
  go_wp2_with fail
  refine (specElemSame_of e zrEl _ _ B _ (HU.out.below ((Below.refl _ _).alloc hB _) (Nat.le_refl _)) (zrEl_liv _ _).at (by simp; omega)).mono ?_
  rintro en w1 ⟨rfl, hb1⟩
  have HB1 := Lib.hid (below_past hb1)
  clear hb1
  go_wp2_with fail
  go_ret
  exact ⟨ret_bool rfl, HB1.out⟩

set_option maxRecDepth 100000 in
set_option maxHeartbeats 4000000 in
theorem specAutoValid_any (a : Au) (v : Value) (B : Nat) (w : World) (ha : a.At B w v) (hB : B ≤ w.heap.size) (hn : a.need ≤ 1048576) :
    Calls Tryd.prog 20 #[v] w fun en w' => en = .returned (.bool (auV a)) ∧ Below w.heap.size w w' := by
  obtain ⟨b0, rfl, hb⟩ := ha
  have HBR := Lib.hid hb
  obtain ⟨p, c, rfl⟩ := hb.form
  obtain ⟨_, hm0, hm⟩ := hb.max
  unfold maxLen at hm
  have hn2 : sumAc a.ar ≤ 1048576 := by unfold Au.need at hn; omega
  clear hb hn
  have HBAD := Lib.hid (fun h => auV_bad (a := a) h)
  have HV0 := Lib.hid (fun (o : Obj) => (Below.refl w.heap.size w).alloc (Nat.le_refl _) o)
  by_cases h1 : a.s < 2
  · have HR := Lib.hid (HBAD.out (Or.inl h1))
    go_enter Tryd.func20, Tryd.ntmps20
    go_wp2_with fail
    go_ret
    exact ⟨ret_bool (by rw [HR.out]), HV0.out _⟩
  by_cases h2 : 60 < a.s
  · have HR := Lib.hid (HBAD.out (Or.inr (Or.inl h2)))
    go_enter Tryd.func20, Tryd.ntmps20
    go_wp2_with fail
    go_ret
    exact ⟨ret_bool (by rw [HR.out]), HV0.out _⟩
  by_cases h3 : 200 < a.ar.length
  · have HR := Lib.hid (HBAD.out (Or.inr (Or.inr h3)))
    have h3' : (200 : Int) < a.ar.length := by omega
    go_enter Tryd.func20, Tryd.ntmps20
    go_wp2_with fail
    go_ret
    exact ⟨ret_bool (by rw [HR.out]), HV0.out _⟩
  have h3' : ¬ (200 : Int) < a.ar.length := by omega
  have HG := Lib.hid (auV_good (a := a) h1 h2 h3)
  obtain ⟨W, eW⟩ : ∃ W, W = w.alloc (.cells #[.int .i64 a.s, .slice p a.ar.length c] 59) := ⟨_, rfl⟩
  have sW : w.heap.size < W.heap.size := by rw [eW]; simp
  have HVW := Lib.hid (show Below w.heap.size w W by rw [eW]; exact (Below.refl _ _).alloc (Nat.le_refl _) _)
  have HK := Lib.hid (fun (E : World) (hE : Below W.heap.size W E) => (⟨keepc hE sW (by rw [eW]; simp [go_sem]), keepc hE sW (by rw [eW]; simp [go_sem])⟩ : E.cell? ⟨w.heap.size, 0, none⟩ = some (.int .i64 a.s) ∧ E.cell? ⟨w.heap.size, 1, none⟩ = some (.slice p a.ar.length c)))
  clear HBAD HV0
  go_enter Tryd.func20, Tryd.ntmps20
  go_wp2_with fail
  rw [← eW]
  clear eW
  go_loopw [3] (fun i wr => ∃ k : Nat, k ≤ a.ar.length ∧ i = .int .i64 k ∧ RowKit.Hid (AcOk a.s a.ar k) ∧ Below W.heap.size W wr) (fun i _ => a.ar.length - (intOf i).toNat)
  case atStart => exact ⟨0, Nat.zero_le _, rfl, Lib.hid (AcOk.zero _ _), Below.refl _ _⟩
  case round =>
    obtain ⟨k, hk, rfl, HAC, hbw⟩ := hrel
    have hsz := hbw.size
    have HB := Lib.hid hbw
    obtain ⟨kc0, kc1⟩ := HK.out _ hbw
    have hq : w.heap.size < wr.heap.size := by omega
    clear hbw
    by_cases hlt : k < a.ar.length
    · obtain ⟨b, off, q, d, q', d', rfl, hb, c0, c1, c2, c3, c4, c5, c6, c7, c8, c9, c10, c11, hin⟩ := kAc_get (HBR.out.to ((HVW.out.trans (HB.out.mono (by omega))).mono hB) (Nat.le_refl _)) hlt
      have hgood := Lib.hid (fun h => HAC.out.succ hlt h)
      have hbad := Lib.hid (fun h => acs_bad (s := a.s) (xs := a.ar) hlt h)
      have hsize := sumAc_get a.ar k hlt
      obtain ⟨x, ex⟩ : ∃ x, x = a.ar[k] := ⟨_, rfl⟩
      rw [← ex] at c0 c1 c2 c3 c4 c5 c6 c7 c8 c9 c10 c11 hin hgood hbad hsize
      obtain ⟨f, t, fr, x⟩ := x
      simp only at c0 c1 c2 c3 c4 c5 c6 c7 c8 c9 c10 c11
      have HIN := Lib.hid (show x.At B wr (.agg #[.bool x.n, .string x.v, .int .i64 x.l.op, .string x.l.a, .slice q x.l.ks.list.length d, .int .i64 x.c.op, .string x.c.a, .slice q' x.c.ks.list.length d', .int .i64 x.d]) from by obtain ⟨k1, k2, e1, g1, g2⟩ := hin; simp only [Value.agg.injEq] at e1; have e2 := congrArg Array.toList e1; simp only [List.cons.injEq, and_true, true_and] at e2; obtain ⟨rfl, rfl⟩ := e2; exact ⟨_, _, rfl, g1, g2⟩)
      have HSZ := Lib.hid (Nat.le_trans hsize hn2)
      have HABAD := Lib.hid (fun h => hbad.out (acV_bad (s := a.s) (a := ⟨f, t, fr, x⟩) h))
      have HEND := Lib.hid (fun (E : World) (hE : Below wr.heap.size wr E) => HVW.out.trans ((HB.out.trans (hE.mono hsz)).mono (Nat.le_of_lt sW)))
      have HKX := Lib.hid (fun (E : World) (hE : Below wr.heap.size wr E) => HK.out E (HB.out.trans (hE.mono hsz)))
      clear ex hin HAC hsize
      have HN0 := Lib.hid (fun (o : Obj) => (Below.refl wr.heap.size wr).alloc (Nat.le_refl _) o)
      by_cases h4 : f < 0
      · have HR := Lib.hid (HG.out.trans (HABAD.out (Or.inl h4)))
        clear hgood hbad
        go_wp2_with fail
        go_ret
        exact ⟨ret_bool (by rw [HR.out]), HEND.out _ (HN0.out _)⟩
      by_cases h5 : a.s ≤ f
      · have HR := Lib.hid (HG.out.trans (HABAD.out (Or.inr (Or.inl h5))))
        clear hgood hbad
        go_wp2_with fail
        go_ret
        exact ⟨ret_bool (by rw [HR.out]), HEND.out _ (HN0.out _)⟩
      by_cases h6 : t < 0
      · have HR := Lib.hid (HG.out.trans (HABAD.out (Or.inr (Or.inr (Or.inl h6)))))
        clear hgood hbad
        go_wp2_with fail
        go_ret
        exact ⟨ret_bool (by rw [HR.out]), HEND.out _ (HN0.out _)⟩
      by_cases h7 : a.s ≤ t
      · have HR := Lib.hid (HG.out.trans (HABAD.out (Or.inr (Or.inr (Or.inr h7)))))
        clear hgood hbad
        go_wp2_with fail
        go_ret
        exact ⟨ret_bool (by rw [HR.out]), HEND.out _ (HN0.out _)⟩
      have HSG := Lib.hid (acV_good (s := a.s) (a := ⟨f, t, fr, x⟩) h4 h5 h6 h7)
      clear HABAD
      cases fr with
      | true =>
        have HG2 := Lib.hid (show acV a.s ⟨f, t, true, x⟩ = zrE x from HSG.out)
        clear HSG
        go_wp2_with fail
        refine (l4Zr_any x _ B _ (HIN.out.below ((HN0.out _).mono (by omega)) (Nat.le_refl _)) (by simp; omega)).mono ?_
        rintro en w1 ⟨rfl, hb1⟩
        have n2 : w1.cell? ⟨wr.heap.size, 2, none⟩ = some (.bool true) := (hb1.cell (by simp)).trans (by simp [go_sem])
        have HB1 := Lib.hid (below_past hb1)
        obtain ⟨m0, m1⟩ := HKX.out _ HB1.out
        have hz1 : wr.heap.size < w1.heap.size := by have := hb1.size; simp at this; omega
        have hq1 : w.heap.size < w1.heap.size := by omega
        clear hb1 kc0 kc1
        cases hE : zrE x with
        | true =>
          have HG3 := Lib.hid (hgood.out (HG2.out.trans hE))
          clear hE hgood hbad
          go_wp2_with fail
          go_roundw
          case rel => exact ⟨k + 1, by omega, by go_num, HG3, HB.out.trans (HB1.out.mono hsz)⟩
          case measure => simp [intOf]; omega
        | false =>
          have HG3 := Lib.hid (HG.out.trans (hbad.out (HG2.out.trans hE)))
          clear hE hgood hbad
          go_wp2_with fail
          go_ret
          exact ⟨ret_bool (by rw [HG3.out]), HEND.out _ HB1.out⟩
      | false =>
        have HG2 := Lib.hid (show acV a.s ⟨f, t, false, x⟩ = (decide (x.v.size = 0) && elemV x) from HSG.out)
        clear HSG
        go_wp2_with fail
        refine (specElemValid_any x _ B _ (HIN.out.below ((HN0.out _).mono (by omega)) (Nat.le_refl _)) (by simp; omega) (El.sm_of HSZ.out)).mono ?_
        rintro en w1 ⟨rfl, hb1⟩
        have n4 : w1.cell? ⟨wr.heap.size, 4, none⟩ = some (.string x.v) := (hb1.cell (by simp)).trans (by simp [go_sem])
        have HB1 := Lib.hid (below_past hb1)
        obtain ⟨m0, m1⟩ := HKX.out _ HB1.out
        have hz1 : wr.heap.size < w1.heap.size := by have := hb1.size; simp at this; omega
        have hq1 : w.heap.size < w1.heap.size := by omega
        clear hb1 kc0 kc1
        cases hE : elemV x with
        | true =>
          by_cases h0 : x.v.size = 0
          · have HG3 := Lib.hid (hgood.out (HG2.out.trans (by rw [hE, decide_eq_true h0]; rfl)))
            have e2 := str_empty h0
            have e3 := str_empty' h0
            clear hE hgood hbad
            go_wp2_with fail
            go_roundw
            case rel => exact ⟨k + 1, by omega, by go_num, HG3, HB.out.trans (HB1.out.mono hsz)⟩
            case measure => simp [intOf]; omega
          · have HG3 := Lib.hid (HG.out.trans (hbad.out (HG2.out.trans (by rw [decide_eq_false h0]; rfl))))
            have e2 := str_nonempty (s := x.v) (by omega)
            have e3 := str_nonempty'' (s := x.v) (by omega)
            clear hE hgood hbad
            go_wp2_with fail
            go_ret
            exact ⟨ret_bool (by rw [HG3.out]), HEND.out _ HB1.out⟩
        | false =>
          have HG3 := Lib.hid (HG.out.trans (hbad.out (HG2.out.trans (by rw [hE]; simp))))
          clear hE hgood hbad
          go_wp2_with fail
          go_ret
          exact ⟨ret_bool (by rw [HG3.out]), HEND.out _ HB1.out⟩
    · obtain rfl : k = a.ar.length := by omega
      have HG3 := Lib.hid (HG.out.trans HAC.out.full)
      go_wp2_with fail
      go_ret
      exact ⟨ret_bool (by rw [HG3.out]), HVW.out.trans (HB.out.mono (Nat.le_of_lt sW))⟩
end Go.Proofs.YtbbemeaojmfndaaDoor
