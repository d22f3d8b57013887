/- What fits an expression: as data; impl.LabelHolds, impl.NumHolds. -/
import Derived.Test.YtbbemeaojmfndaaDoorExV
import Derived.Test.YtbbemeaojmfndaaDoorSExV
namespace Go.Proofs.YtbbemeaojmfndaaDoor
open Go.RowKit

def nodeH (atom : ByteArray → Bool) (any : Bool) (o : Int) (a : ByteArray) (l : List Bool) : Bool :=
  if o = 2 then any else if o = 3 then !(l.getD 0 false) else if o = 4 then l.getD 0 false && l.getD 1 false else if o = 5 then l.getD 0 false || l.getD 1 false else atom a
def Fo.hold (atom : ByteArray → Bool) (any : Bool) : Fo → List Bool
  | .nil => []
  | .cons o a k r => nodeH atom any o a (k.hold atom any) :: r.hold atom any
def Ex.hold (atom : ByteArray → Bool) (any : Bool) (e : Ex) : Bool := nodeH atom any e.op e.a (e.ks.hold atom any)
theorem Fo.hold_list (atom : ByteArray → Bool) (any : Bool) (f : Fo) : f.hold atom any = f.list.map (Ex.hold atom any) := by
  induction f with
  | nil => rfl
  | cons o a k r _ ih => simp only [Fo.hold, Fo.list, ih, List.map_cons]; rfl
theorem Fo.hold_get (atom : ByteArray → Bool) (any : Bool) (f : Fo) (k : Nat) (hk : k < f.list.length) : (f.hold atom any).getD k false = f.list[k].hold atom any := by
  rw [Fo.hold_list, List.getD_eq_getElem?_getD, List.getElem?_map, List.getElem?_eq_getElem hk]; rfl
theorem Ex.hold_any (atom : ByteArray → Bool) (any : Bool) {e : Ex} (h : e.op = 2) : e.hold atom any = any := by unfold Ex.hold nodeH; rw [if_pos h]
theorem Ex.hold_not (atom : ByteArray → Bool) (any : Bool) {e : Ex} (h : e.op = 3) (hl : e.ks.list.length = 1) : e.hold atom any = !(e.ks.list[0].hold atom any) := by
  rw [← Fo.hold_get atom any e.ks 0 (by omega)]
  show nodeH _ _ _ _ _ = _
  unfold nodeH
  rw [if_neg (by omega), if_pos h]
theorem Ex.hold_and (atom : ByteArray → Bool) (any : Bool) {e : Ex} (h : e.op = 4) (hl : e.ks.list.length = 2) : e.hold atom any = (e.ks.list[0].hold atom any && e.ks.list[1].hold atom any) := by
  rw [← Fo.hold_get atom any e.ks 0 (by omega), ← Fo.hold_get atom any e.ks 1 (by omega)]
  show nodeH _ _ _ _ _ = _
  unfold nodeH
  rw [if_neg (by omega), if_neg (by omega), if_pos h]
theorem Ex.hold_or (atom : ByteArray → Bool) (any : Bool) {e : Ex} (h : e.op = 5) (hl : e.ks.list.length = 2) : e.hold atom any = (e.ks.list[0].hold atom any || e.ks.list[1].hold atom any) := by
  rw [← Fo.hold_get atom any e.ks 0 (by omega), ← Fo.hold_get atom any e.ks 1 (by omega)]
  show nodeH _ _ _ _ _ = _
  unfold nodeH
  rw [if_neg (by omega), if_neg (by omega), if_neg (by omega), if_pos h]
theorem Ex.hold_atom (atom : ByteArray → Bool) (any : Bool) {e : Ex} (h : e.op = 1) : e.hold atom any = atom e.a := by
  unfold Ex.hold nodeH
  rw [if_neg (by omega), if_neg (by omega), if_neg (by omega), if_neg (by omega)]
theorem Ex.okB_parts {kind : Int} {e : Ex} {d : Nat} (h : e.okB kind d = true) : 0 < d ∧ topB kind e.op e.a e.ks.list.length = true ∧ ∀ (k : Nat) (hk : k < e.ks.list.length), e.ks.list[k].okB kind (d - 1) = true := by
  unfold Ex.okB at h
  simp only [Bool.and_eq_true, decide_eq_true_eq] at h
  exact ⟨h.1, h.2.1, Fo.okB_get.1 h.2.2⟩
theorem topB_cases {kind o : Int} {a : ByteArray} {n : Nat} (h : topB kind o a n = true) :
    (o = 1 ∧ n = 0 ∧ atomB kind a = true) ∨ (o = 2 ∧ n = 0) ∨ (o = 3 ∧ n = 1) ∨ (o = 4 ∧ n = 2) ∨ (o = 5 ∧ n = 2) := by
  unfold topB at h
  by_cases o1 : o = 1
  · rw [if_pos o1] at h; simp at h; exact .inl ⟨o1, h⟩
  rw [if_neg o1] at h
  by_cases o2 : o = 2
  · rw [if_pos o2] at h; simp at h; exact .inr (.inl ⟨o2, h.1⟩)
  rw [if_neg o2] at h
  by_cases o3 : o = 3
  · rw [if_pos o3] at h; simp at h; exact .inr (.inr (.inl ⟨o3, h.1⟩))
  rw [if_neg o3] at h
  by_cases o4 : o = 4 ∨ o = 5
  · rw [if_pos o4] at h; simp at h
    rcases o4 with o4 | o5
    · exact .inr (.inr (.inr (.inl ⟨o4, h.1⟩)))
    · exact .inr (.inr (.inr (.inr ⟨o5, h.1⟩)))
  rw [if_neg o4] at h; cases h
def cmpB (s : UInt8) (n : Nat) (num : Int) : Bool := if s.toNat = 60 then decide (num < (n : Int)) else if s.toNat = 61 then num == (n : Int) else decide ((n : Int) < num)
def condH (num : Int) (a : ByteArray) : Bool := match condOf a.data.toList with | some (s, n) => cmpB s n num | none => false
def lholds (e : Ex) (s : ByteArray) : Bool := exV 1 e && (lbl s && e.hold (fun a => a.toList == s.toList) (!decide (s.size = 0)))
def nholds (e : Ex) (num : Int) : Bool := exV 2 e && (nm num && e.hold (condH num) true)

set_option maxRecDepth 100000 in
set_option maxHeartbeats 400000 in
theorem labelAtom_any (a s : ByteArray) (c : Nat) (w : World) (_ha : a.size ≤ 1048576) (_hv : Vars w) (hc : w.cell? ⟨c, 0, none⟩ = some (.string s)) :
    Calls Tryd.prog 87 #[.string a, .pointer (some ⟨c, 0, none⟩)] w fun e w' => e = .returned (.bool (a.toList == s.toList)) ∧ Below w.heap.size w w' := by
  go_enter Tryd.func87, Tryd.ntmps87
  go_wp2_with fail
  go_ret
  exact ⟨rfl, Below.refl _ _⟩
set_option maxRecDepth 100000 in
set_option maxHeartbeats 4000000 in
theorem exprHoldsL_any (kind : Int) (s : ByteArray) (any : Bool) (c : Nat) (d : Nat) : ∀ (e : Ex) (k : Value) (B : Nat) (w : World), e.ks.In B w k → B ≤ w.heap.size → e.okB kind d = true → e.a.size ≤ 1048576 → e.ks.Sm → Vars w → w.cell? ⟨c, 0, none⟩ = some (.string s) →
    Calls Tryd.prog 86 #[.agg #[.int .i64 e.op, .string e.a, k], .bool any, .func (.func 87) #[] #[.pointer (some ⟨c, 0, none⟩)]] w fun en w' => en = .returned (.bool (e.hold (fun a => a.toList == s.toList) any)) ∧ Below w.heap.size w w' := by
  induction d with
  | zero =>
    intro e k B w _ _ hok
    rw [Ex.okB_zero] at hok; cases hok
  | succ d ih =>
    intro e k B w hk hB hok ha hsm hv hc
    have IH := Lib.hid ih
    have HSM := Lib.hid hsm
    have HV := Lib.hid hv
    obtain ⟨_, htop, hoks⟩ := Ex.okB_parts hok
    simp only [Nat.add_sub_cancel] at hoks
    clear ih hsm hv hok
    obtain ⟨p, cap, rfl⟩ := hk.form
    obtain ⟨_, hm1, hm2⟩ := hk.max
    unfold maxLen at hm2
    have HK := Lib.hid hk
    clear hk
    have hcl := World.block_lt_of_cell? w _ hc
    rcases topB_cases htop with ⟨oo, hl, hat⟩ | ⟨oo, hl⟩ | ⟨oo, hl⟩ | ⟨oo, hl⟩ | ⟨oo, hl⟩
    · have HT := Lib.hid (Ex.hold_atom (fun a => a.toList == s.toList) any oo)
      have HBW := Lib.hid (show Below w.heap.size w (w.alloc (.cells #[.int .i64 1, .string e.a, .slice p 0 cap] 25)) from (Below.refl _ _).alloc (Nat.le_refl _) _)
      have hc' := keepc HBW.out hcl hc
      rw [oo, hl]
      clear hoks hc htop hat hl
      go_enter Tryd.func86, Tryd.ntmps86
      go_wp2_with fail
      refine (labelAtom_any e.a _ c _ ha (HV.out.below HBW.out) hc').mono ?_
      rintro en w1 ⟨rfl, hb1⟩
      have HB1 := Lib.hid (HBW.out.trans (hb1.mono (by simp)))
      clear hb1 hc'
      go_wp2_with fail
      go_ret
      exact ⟨by rw [HT.out]; rfl, HB1.out⟩
    · have HT := Lib.hid (Ex.hold_any (fun a => a.toList == s.toList) any oo)
      rw [oo]
      clear hoks htop hc
      go_enter Tryd.func86, Tryd.ntmps86
      go_wp2_with fail
      go_ret
      exact ⟨by rw [HT.out]; rfl, (Below.refl _ _).alloc (Nat.le_refl _) _⟩
    · have hx := Ex.hold_not (fun a => a.toList == s.toList) any oo hl
      have HBW := Lib.hid (show Below w.heap.size w (w.alloc (.cells #[.int .i64 3, .string e.a, .slice p 1 cap] 25)) from (Below.refl _ _).alloc (Nat.le_refl _) _)
      have hc' := keepc HBW.out hcl hc
      rw [hl] at HK
      obtain ⟨b0, off0, q0, l0, cc0, eb0, hb0, d00, d01, d02, hin0⟩ := (HK.out.below (HBW.out.mono hB) (Nat.le_refl _)).get 0 (by omega)
      have hsm0 := HSM.out.get 0 (by omega)
      have hok0 := hoks 0 (by omega)
      simp only [Nat.zero_mul, Nat.add_zero] at d00 d01 d02
      obtain ⟨x0, ex0⟩ : ∃ x, x = e.ks.list[0] := ⟨_, rfl⟩
      rw [← ex0] at d00 d01 hin0 hsm0 hok0 hx
      have HIN0 := Lib.hid hin0
      have hxa0 := hsm0.1
      have HXS0 := Lib.hid hsm0.2
      have HO0 := Lib.hid hok0
      clear ex0 hin0 hsm0 hok0
      subst eb0
      have HT := Lib.hid hx
      rw [oo, hl]
      rw [hl] at hm1
      clear hoks htop hc hx hl
      go_enter Tryd.func86, Tryd.ntmps86
      go_wp2_with fail
      refine (IH.out x0 _ B _ HIN0.out (by simp; omega) HO0.out hxa0 HXS0.out (HV.out.below HBW.out) hc').mono ?_
      rintro en w1 ⟨rfl, hb1⟩
      have HB1 := Lib.hid (HBW.out.trans (hb1.mono (by simp)))
      clear hb1 hc'
      go_wp2_with fail
      go_ret
      exact ⟨by rw [HT.out]; rfl, HB1.out⟩
    · have hx := Ex.hold_and (fun a => a.toList == s.toList) any oo hl
      have HBW := Lib.hid (show Below w.heap.size w (w.alloc (.cells #[.int .i64 4, .string e.a, .slice p 2 cap] 25)) from (Below.refl _ _).alloc (Nat.le_refl _) _)
      have hc' := keepc HBW.out hcl hc
      rw [hl] at HK
      obtain ⟨b0, off0, q0, l0, cc0, eb0, hb0, d00, d01, d02, hin0⟩ := (HK.out.below (HBW.out.mono hB) (Nat.le_refl _)).get 0 (by omega)
      have hsm0 := HSM.out.get 0 (by omega)
      have hok0 := hoks 0 (by omega)
      simp only [Nat.zero_mul, Nat.add_zero] at d00 d01 d02
      obtain ⟨x0, ex0⟩ : ∃ x, x = e.ks.list[0] := ⟨_, rfl⟩
      rw [← ex0] at d00 d01 hin0 hsm0 hok0 hx
      have HIN0 := Lib.hid hin0
      have hxa0 := hsm0.1
      have HXS0 := Lib.hid hsm0.2
      have HO0 := Lib.hid hok0
      clear ex0 hin0 hsm0 hok0
      obtain ⟨b1, off1, q1, l1, cc1, eb1, hb1, d10, d11, d12, hin1⟩ := (HK.out.below (HBW.out.mono hB) (Nat.le_refl _)).get 1 (by omega)
      have hsm1 := HSM.out.get 1 (by omega)
      have hok1 := hoks 1 (by omega)
      simp only [Nat.one_mul] at d10 d11 d12
      obtain ⟨x1, ex1⟩ : ∃ x, x = e.ks.list[1] := ⟨_, rfl⟩
      rw [← ex1] at d10 d11 hin1 hsm1 hok1 hx
      have HIN1 := Lib.hid hin1
      have hxa1 := hsm1.1
      have HXS1 := Lib.hid hsm1.2
      have HO1 := Lib.hid hok1
      clear ex1 hin1 hsm1 hok1
      subst eb0
      cases eb1
      have HX := Lib.hid hx
      rw [oo, hl]
      rw [hl] at hm1
      clear hoks htop hc hx hl
      go_enter Tryd.func86, Tryd.ntmps86
      go_wp2_with fail
      refine (IH.out x0 _ B _ HIN0.out (by simp; omega) HO0.out hxa0 HXS0.out (HV.out.below HBW.out) hc').mono ?_
      rintro en w1 ⟨rfl, hb1⟩
      have g2 := new_cell hb1 (j := 2) rfl
      have hs1 : w.heap.size < w1.heap.size := by have := hb1.size; simp at this; omega
      have f0 := keepc hb1 (by simp; omega) d10
      have f1 := keepc hb1 (by simp; omega) d11
      have f2 := keepc hb1 (by simp; omega) d12
      have hc1 := keepc hb1 (by simp; omega) hc'
      have HB1 := Lib.hid (HBW.out.trans (hb1.mono (by simp)))
      have HIN1' := Lib.hid (HIN1.out.below (hb1.mono (by simp; omega)) (Nat.le_refl _))
      clear hb1 hc' d00 d01 d02 d10 d11 d12
      cases hx0 : x0.hold (fun a => a.toList == s.toList) any with
      | false =>
        have HT := Lib.hid (show e.hold (fun a => a.toList == s.toList) any = false by rw [HX.out, hx0]; rfl)
        go_wp2_with fail
        go_ret
        exact ⟨by rw [HT.out]; rfl, HB1.out⟩
      | true =>
        have HT := Lib.hid (show e.hold (fun a => a.toList == s.toList) any = x1.hold (fun a => a.toList == s.toList) any by rw [HX.out, hx0]; rfl)
        go_wp2_with fail
        refine (IH.out x1 _ B _ HIN1'.out (by omega) HO1.out hxa1 HXS1.out (HV.out.below HB1.out) hc1).mono ?_
        rintro en w2 ⟨rfl, hb2⟩
        have HB2 := Lib.hid (HB1.out.trans (hb2.mono (by omega)))
        clear hb2
        go_wp2_with fail
        go_ret
        exact ⟨by rw [HT.out]; rfl, HB2.out⟩
    · have hx := Ex.hold_or (fun a => a.toList == s.toList) any oo hl
      have HBW := Lib.hid (show Below w.heap.size w (w.alloc (.cells #[.int .i64 5, .string e.a, .slice p 2 cap] 25)) from (Below.refl _ _).alloc (Nat.le_refl _) _)
      have hc' := keepc HBW.out hcl hc
      rw [hl] at HK
      obtain ⟨b0, off0, q0, l0, cc0, eb0, hb0, d00, d01, d02, hin0⟩ := (HK.out.below (HBW.out.mono hB) (Nat.le_refl _)).get 0 (by omega)
      have hsm0 := HSM.out.get 0 (by omega)
      have hok0 := hoks 0 (by omega)
      simp only [Nat.zero_mul, Nat.add_zero] at d00 d01 d02
      obtain ⟨x0, ex0⟩ : ∃ x, x = e.ks.list[0] := ⟨_, rfl⟩
      rw [← ex0] at d00 d01 hin0 hsm0 hok0 hx
      have HIN0 := Lib.hid hin0
      have hxa0 := hsm0.1
      have HXS0 := Lib.hid hsm0.2
      have HO0 := Lib.hid hok0
      clear ex0 hin0 hsm0 hok0
      obtain ⟨b1, off1, q1, l1, cc1, eb1, hb1, d10, d11, d12, hin1⟩ := (HK.out.below (HBW.out.mono hB) (Nat.le_refl _)).get 1 (by omega)
      have hsm1 := HSM.out.get 1 (by omega)
      have hok1 := hoks 1 (by omega)
      simp only [Nat.one_mul] at d10 d11 d12
      obtain ⟨x1, ex1⟩ : ∃ x, x = e.ks.list[1] := ⟨_, rfl⟩
      rw [← ex1] at d10 d11 hin1 hsm1 hok1 hx
      have HIN1 := Lib.hid hin1
      have hxa1 := hsm1.1
      have HXS1 := Lib.hid hsm1.2
      have HO1 := Lib.hid hok1
      clear ex1 hin1 hsm1 hok1
      subst eb0
      cases eb1
      have HX := Lib.hid hx
      rw [oo, hl]
      rw [hl] at hm1
      clear hoks htop hc hx hl
      go_enter Tryd.func86, Tryd.ntmps86
      go_wp2_with fail
      refine (IH.out x0 _ B _ HIN0.out (by simp; omega) HO0.out hxa0 HXS0.out (HV.out.below HBW.out) hc').mono ?_
      rintro en w1 ⟨rfl, hb1⟩
      have g2 := new_cell hb1 (j := 2) rfl
      have hs1 : w.heap.size < w1.heap.size := by have := hb1.size; simp at this; omega
      have f0 := keepc hb1 (by simp; omega) d10
      have f1 := keepc hb1 (by simp; omega) d11
      have f2 := keepc hb1 (by simp; omega) d12
      have hc1 := keepc hb1 (by simp; omega) hc'
      have HB1 := Lib.hid (HBW.out.trans (hb1.mono (by simp)))
      have HIN1' := Lib.hid (HIN1.out.below (hb1.mono (by simp; omega)) (Nat.le_refl _))
      clear hb1 hc' d00 d01 d02 d10 d11 d12
      cases hx0 : x0.hold (fun a => a.toList == s.toList) any with
      | true =>
        have HT := Lib.hid (show e.hold (fun a => a.toList == s.toList) any = true by rw [HX.out, hx0]; rfl)
        go_wp2_with fail
        go_ret
        exact ⟨by rw [HT.out]; rfl, HB1.out⟩
      | false =>
        have HT := Lib.hid (show e.hold (fun a => a.toList == s.toList) any = x1.hold (fun a => a.toList == s.toList) any by rw [HX.out, hx0]; rfl)
        go_wp2_with fail
        refine (IH.out x1 _ B _ HIN1'.out (by omega) HO1.out hxa1 HXS1.out (HV.out.below HB1.out) hc1).mono ?_
        rintro en w2 ⟨rfl, hb2⟩
        have HB2 := Lib.hid (HB1.out.trans (hb2.mono (by omega)))
        clear hb2
        go_wp2_with fail
        go_ret
        exact ⟨by rw [HT.out]; rfl, HB2.out⟩

theorem condH_none {num : Int} {a : ByteArray} (h : condOf a.data.toList = none) : condH num a = false := by unfold condH; rw [h]
theorem condH_some {num : Int} {a : ByteArray} {s : UInt8} {n : Nat} (h : condOf a.data.toList = some (s, n)) : condH num a = cmpB s n num := by unfold condH; rw [h]
theorem condOf_sign {l : List UInt8} {s : UInt8} {n : Nat} (h : condOf l = some (s, n)) : isS s = true := by
  rw [cond_of] at h
  cases l with
  | nil => cases h
  | cons c r =>
    by_cases hc : isS c = true
    · simp only [hc, if_true] at h
      obtain ⟨m, _, e⟩ := Option.map_eq_some_iff.1 h
      cases e; exact hc
    · simp [hc] at h
set_option maxRecDepth 100000 in
set_option maxHeartbeats 2000000 in
theorem condHolds_any (a : ByteArray) (num : Int) (w : World) (ha : a.size ≤ 1048576) (hv : Vars w) :
    Calls Tryd.prog 89 #[.string a, .int .i64 num] w fun e w' => e = .returned (.bool (condH num a)) ∧ Below w.heap.size w w' := by
  have HV := Lib.hid hv
  clear hv
  cases hcd : condOf a.data.toList with
  | none =>
    have HT := Lib.hid (condH_none (num := num) hcd)
    have HC := Lib.hid (show condB a = false by unfold condB; rw [hcd]; rfl)
    clear hcd
    go_enter Tryd.func89, Tryd.ntmps89
    go_wp2_with fail
    refine (splitCond_any a _ ha HV.out).mono ?_
    rintro e w1 ⟨c, v, rfl, _, hb1⟩
    have HB1 := Lib.hid hb1
    rw [HC.out]
    clear hb1
    by_cases c60 : c = 60
    · subst c60
      go_wp2_with fail
      go_ret
      exact ⟨by rw [HT.out]; rfl, HB1.out⟩
    have b60 : (c == 60) = false := beq_eq_false_iff_ne.2 c60
    by_cases c61 : c = 61
    · subst c61
      clear c60
      go_wp2_with fail
      go_ret
      exact ⟨by rw [HT.out]; rfl, HB1.out⟩
    have b61 : (c == 61) = false := beq_eq_false_iff_ne.2 c61
    clear c60 c61
    go_wp2_with fail
    go_ret
    exact ⟨by rw [HT.out]; rfl, HB1.out⟩
  | some sn =>
    obtain ⟨s, n⟩ := sn
    have HCD := Lib.hid hcd
    have hS := (isS_iff s).1 (condOf_sign hcd)
    have HH := Lib.hid (condH_some (num := num) hcd)
    have HC := Lib.hid (show condB a = true by unfold condB; rw [hcd]; rfl)
    clear hcd
    go_enter Tryd.func89, Tryd.ntmps89
    go_wp2_with fail
    refine (splitCond_any a _ ha HV.out).mono ?_
    rintro e w1 ⟨c, v, rfl, hcv, hb1⟩
    obtain ⟨rfl, rfl⟩ := hcv s n HCD.out
    have HB1 := Lib.hid hb1
    rw [HC.out]
    clear hb1 hcv
    by_cases c60 : s.toNat = 60
    · have b60 : ((s.toNat : Int) == 60) = true := by rw [beq_iff_eq]; omega
      have HT := Lib.hid (show condH num a = decide (num < (n : Int)) by rw [HH.out]; unfold cmpB; rw [if_pos c60])
      clear c60 hS
      go_wp2_with fail
      go_ret
      exact ⟨by rw [HT.out]; rfl, HB1.out⟩
    have b60 : ((s.toNat : Int) == 60) = false := by rw [beq_eq_false_iff_ne]; omega
    by_cases c61 : s.toNat = 61
    · have b61 : ((s.toNat : Int) == 61) = true := by rw [beq_iff_eq]; omega
      have HT := Lib.hid (show condH num a = (num == (n : Int)) by rw [HH.out]; unfold cmpB; rw [if_neg c60, if_pos c61])
      clear c60 c61 hS
      go_wp2_with fail
      go_ret
      exact ⟨by rw [HT.out]; rfl, HB1.out⟩
    have b61 : ((s.toNat : Int) == 61) = false := by rw [beq_eq_false_iff_ne]; omega
    have HT := Lib.hid (show condH num a = decide ((n : Int) < num) by rw [HH.out]; unfold cmpB; rw [if_neg c60, if_neg c61])
    clear c60 c61 hS
    go_wp2_with fail
    go_ret
    exact ⟨by rw [HT.out]; rfl, HB1.out⟩
set_option maxRecDepth 100000 in
set_option maxHeartbeats 400000 in
theorem numAtom_any (a : ByteArray) (num : Int) (c : Nat) (w : World) (ha : a.size ≤ 1048576) (hv : Vars w) (hc : w.cell? ⟨c, 0, none⟩ = some (.int .i64 num)) :
    Calls Tryd.prog 88 #[.string a, .pointer (some ⟨c, 0, none⟩)] w fun e w' => e = .returned (.bool (condH num a)) ∧ Below w.heap.size w w' := by
  have HV := Lib.hid hv
  clear hv
  go_enter Tryd.func88, Tryd.ntmps88
  go_wp2_with fail
  refine (condHolds_any a num _ ha HV.out).mono ?_
  rintro e w1 ⟨rfl, hb1⟩
  have HB1 := Lib.hid hb1
  clear hb1
  go_wp2_with fail
  go_ret
  exact ⟨rfl, HB1.out⟩
set_option maxRecDepth 100000 in
set_option maxHeartbeats 4000000 in
theorem exprHoldsN_any (kind : Int) (num : Int) (any : Bool) (c : Nat) (d : Nat) : ∀ (e : Ex) (k : Value) (B : Nat) (w : World), e.ks.In B w k → B ≤ w.heap.size → e.okB kind d = true → e.a.size ≤ 1048576 → e.ks.Sm → Vars w → w.cell? ⟨c, 0, none⟩ = some (.int .i64 num) →
    Calls Tryd.prog 86 #[.agg #[.int .i64 e.op, .string e.a, k], .bool any, .func (.func 88) #[] #[.pointer (some ⟨c, 0, none⟩)]] w fun en w' => en = .returned (.bool (e.hold (condH num) any)) ∧ Below w.heap.size w w' := by
  induction d with
  | zero =>
    intro e k B w _ _ hok
    rw [Ex.okB_zero] at hok; cases hok
  | succ d ih =>
    intro e k B w hk hB hok ha hsm hv hc
    have IH := Lib.hid ih
    have HSM := Lib.hid hsm
    have HV := Lib.hid hv
    obtain ⟨_, htop, hoks⟩ := Ex.okB_parts hok
    simp only [Nat.add_sub_cancel] at hoks
    clear ih hsm hv hok
    obtain ⟨p, cap, rfl⟩ := hk.form
    obtain ⟨_, hm1, hm2⟩ := hk.max
    unfold maxLen at hm2
    have HK := Lib.hid hk
    clear hk
    have hcl := World.block_lt_of_cell? w _ hc
    rcases topB_cases htop with ⟨oo, hl, hat⟩ | ⟨oo, hl⟩ | ⟨oo, hl⟩ | ⟨oo, hl⟩ | ⟨oo, hl⟩
    · have HT := Lib.hid (Ex.hold_atom (condH num) any oo)
      have HBW := Lib.hid (show Below w.heap.size w (w.alloc (.cells #[.int .i64 1, .string e.a, .slice p 0 cap] 25)) from (Below.refl _ _).alloc (Nat.le_refl _) _)
      have hc' := keepc HBW.out hcl hc
      rw [oo, hl]
      clear hoks hc htop hat hl
      go_enter Tryd.func86, Tryd.ntmps86
      go_wp2_with fail
      refine (numAtom_any e.a _ c _ ha (HV.out.below HBW.out) hc').mono ?_
      rintro en w1 ⟨rfl, hb1⟩
      have HB1 := Lib.hid (HBW.out.trans (hb1.mono (by simp)))
      clear hb1 hc'
      go_wp2_with fail
      go_ret
      exact ⟨by rw [HT.out]; rfl, HB1.out⟩
    · have HT := Lib.hid (Ex.hold_any (condH num) any oo)
      rw [oo]
      clear hoks htop hc
      go_enter Tryd.func86, Tryd.ntmps86
      go_wp2_with fail
      go_ret
      exact ⟨by rw [HT.out]; rfl, (Below.refl _ _).alloc (Nat.le_refl _) _⟩
    · have hx := Ex.hold_not (condH num) any oo hl
      have HBW := Lib.hid (show Below w.heap.size w (w.alloc (.cells #[.int .i64 3, .string e.a, .slice p 1 cap] 25)) from (Below.refl _ _).alloc (Nat.le_refl _) _)
      have hc' := keepc HBW.out hcl hc
      rw [hl] at HK
      obtain ⟨b0, off0, q0, l0, cc0, eb0, hb0, d00, d01, d02, hin0⟩ := (HK.out.below (HBW.out.mono hB) (Nat.le_refl _)).get 0 (by omega)
      have hsm0 := HSM.out.get 0 (by omega)
      have hok0 := hoks 0 (by omega)
      simp only [Nat.zero_mul, Nat.add_zero] at d00 d01 d02
      obtain ⟨x0, ex0⟩ : ∃ x, x = e.ks.list[0] := ⟨_, rfl⟩
      rw [← ex0] at d00 d01 hin0 hsm0 hok0 hx
      have HIN0 := Lib.hid hin0
      have hxa0 := hsm0.1
      have HXS0 := Lib.hid hsm0.2
      have HO0 := Lib.hid hok0
      clear ex0 hin0 hsm0 hok0
      subst eb0
      have HT := Lib.hid hx
      rw [oo, hl]
      rw [hl] at hm1
      clear hoks htop hc hx hl
      go_enter Tryd.func86, Tryd.ntmps86
      go_wp2_with fail
      refine (IH.out x0 _ B _ HIN0.out (by simp; omega) HO0.out hxa0 HXS0.out (HV.out.below HBW.out) hc').mono ?_
      rintro en w1 ⟨rfl, hb1⟩
      have HB1 := Lib.hid (HBW.out.trans (hb1.mono (by simp)))
      clear hb1 hc'
      go_wp2_with fail
      go_ret
      exact ⟨by rw [HT.out]; rfl, HB1.out⟩
    · have hx := Ex.hold_and (condH num) any oo hl
      have HBW := Lib.hid (show Below w.heap.size w (w.alloc (.cells #[.int .i64 4, .string e.a, .slice p 2 cap] 25)) from (Below.refl _ _).alloc (Nat.le_refl _) _)
      have hc' := keepc HBW.out hcl hc
      rw [hl] at HK
      obtain ⟨b0, off0, q0, l0, cc0, eb0, hb0, d00, d01, d02, hin0⟩ := (HK.out.below (HBW.out.mono hB) (Nat.le_refl _)).get 0 (by omega)
      have hsm0 := HSM.out.get 0 (by omega)
      have hok0 := hoks 0 (by omega)
      simp only [Nat.zero_mul, Nat.add_zero] at d00 d01 d02
      obtain ⟨x0, ex0⟩ : ∃ x, x = e.ks.list[0] := ⟨_, rfl⟩
      rw [← ex0] at d00 d01 hin0 hsm0 hok0 hx
      have HIN0 := Lib.hid hin0
      have hxa0 := hsm0.1
      have HXS0 := Lib.hid hsm0.2
      have HO0 := Lib.hid hok0
      clear ex0 hin0 hsm0 hok0
      obtain ⟨b1, off1, q1, l1, cc1, eb1, hb1, d10, d11, d12, hin1⟩ := (HK.out.below (HBW.out.mono hB) (Nat.le_refl _)).get 1 (by omega)
      have hsm1 := HSM.out.get 1 (by omega)
      have hok1 := hoks 1 (by omega)
      simp only [Nat.one_mul] at d10 d11 d12
      obtain ⟨x1, ex1⟩ : ∃ x, x = e.ks.list[1] := ⟨_, rfl⟩
      rw [← ex1] at d10 d11 hin1 hsm1 hok1 hx
      have HIN1 := Lib.hid hin1
      have hxa1 := hsm1.1
      have HXS1 := Lib.hid hsm1.2
      have HO1 := Lib.hid hok1
      clear ex1 hin1 hsm1 hok1
      subst eb0
      cases eb1
      have HX := Lib.hid hx
      rw [oo, hl]
      rw [hl] at hm1
      clear hoks htop hc hx hl
      go_enter Tryd.func86, Tryd.ntmps86
      go_wp2_with fail
      refine (IH.out x0 _ B _ HIN0.out (by simp; omega) HO0.out hxa0 HXS0.out (HV.out.below HBW.out) hc').mono ?_
      rintro en w1 ⟨rfl, hb1⟩
      have g2 := new_cell hb1 (j := 2) rfl
      have hs1 : w.heap.size < w1.heap.size := by have := hb1.size; simp at this; omega
      have f0 := keepc hb1 (by simp; omega) d10
      have f1 := keepc hb1 (by simp; omega) d11
      have f2 := keepc hb1 (by simp; omega) d12
      have hc1 := keepc hb1 (by simp; omega) hc'
      have HB1 := Lib.hid (HBW.out.trans (hb1.mono (by simp)))
      have HIN1' := Lib.hid (HIN1.out.below (hb1.mono (by simp; omega)) (Nat.le_refl _))
      clear hb1 hc' d00 d01 d02 d10 d11 d12
      cases hx0 : x0.hold (condH num) any with
      | false =>
        have HT := Lib.hid (show e.hold (condH num) any = false by rw [HX.out, hx0]; rfl)
        go_wp2_with fail
        go_ret
        exact ⟨by rw [HT.out]; rfl, HB1.out⟩
      | true =>
        have HT := Lib.hid (show e.hold (condH num) any = x1.hold (condH num) any by rw [HX.out, hx0]; rfl)
        go_wp2_with fail
        refine (IH.out x1 _ B _ HIN1'.out (by omega) HO1.out hxa1 HXS1.out (HV.out.below HB1.out) hc1).mono ?_
        rintro en w2 ⟨rfl, hb2⟩
        have HB2 := Lib.hid (HB1.out.trans (hb2.mono (by omega)))
        clear hb2
        go_wp2_with fail
        go_ret
        exact ⟨by rw [HT.out]; rfl, HB2.out⟩
    · have hx := Ex.hold_or (condH num) any oo hl
      have HBW := Lib.hid (show Below w.heap.size w (w.alloc (.cells #[.int .i64 5, .string e.a, .slice p 2 cap] 25)) from (Below.refl _ _).alloc (Nat.le_refl _) _)
      have hc' := keepc HBW.out hcl hc
      rw [hl] at HK
      obtain ⟨b0, off0, q0, l0, cc0, eb0, hb0, d00, d01, d02, hin0⟩ := (HK.out.below (HBW.out.mono hB) (Nat.le_refl _)).get 0 (by omega)
      have hsm0 := HSM.out.get 0 (by omega)
      have hok0 := hoks 0 (by omega)
      simp only [Nat.zero_mul, Nat.add_zero] at d00 d01 d02
      obtain ⟨x0, ex0⟩ : ∃ x, x = e.ks.list[0] := ⟨_, rfl⟩
      rw [← ex0] at d00 d01 hin0 hsm0 hok0 hx
      have HIN0 := Lib.hid hin0
      have hxa0 := hsm0.1
      have HXS0 := Lib.hid hsm0.2
      have HO0 := Lib.hid hok0
      clear ex0 hin0 hsm0 hok0
      obtain ⟨b1, off1, q1, l1, cc1, eb1, hb1, d10, d11, d12, hin1⟩ := (HK.out.below (HBW.out.mono hB) (Nat.le_refl _)).get 1 (by omega)
      have hsm1 := HSM.out.get 1 (by omega)
      have hok1 := hoks 1 (by omega)
      simp only [Nat.one_mul] at d10 d11 d12
      obtain ⟨x1, ex1⟩ : ∃ x, x = e.ks.list[1] := ⟨_, rfl⟩
      rw [← ex1] at d10 d11 hin1 hsm1 hok1 hx
      have HIN1 := Lib.hid hin1
      have hxa1 := hsm1.1
      have HXS1 := Lib.hid hsm1.2
      have HO1 := Lib.hid hok1
      clear ex1 hin1 hsm1 hok1
      subst eb0
      cases eb1
      have HX := Lib.hid hx
      rw [oo, hl]
      rw [hl] at hm1
      clear hoks htop hc hx hl
      go_enter Tryd.func86, Tryd.ntmps86
      go_wp2_with fail
      refine (IH.out x0 _ B _ HIN0.out (by simp; omega) HO0.out hxa0 HXS0.out (HV.out.below HBW.out) hc').mono ?_
      rintro en w1 ⟨rfl, hb1⟩
      have g2 := new_cell hb1 (j := 2) rfl
      have hs1 : w.heap.size < w1.heap.size := by have := hb1.size; simp at this; omega
      have f0 := keepc hb1 (by simp; omega) d10
      have f1 := keepc hb1 (by simp; omega) d11
      have f2 := keepc hb1 (by simp; omega) d12
      have hc1 := keepc hb1 (by simp; omega) hc'
      have HB1 := Lib.hid (HBW.out.trans (hb1.mono (by simp)))
      have HIN1' := Lib.hid (HIN1.out.below (hb1.mono (by simp; omega)) (Nat.le_refl _))
      clear hb1 hc' d00 d01 d02 d10 d11 d12
      cases hx0 : x0.hold (condH num) any with
      | true =>
        have HT := Lib.hid (show e.hold (condH num) any = true by rw [HX.out, hx0]; rfl)
        go_wp2_with fail
        go_ret
        exact ⟨by rw [HT.out]; rfl, HB1.out⟩
      | false =>
        have HT := Lib.hid (show e.hold (condH num) any = x1.hold (condH num) any by rw [HX.out, hx0]; rfl)
        go_wp2_with fail
        refine (IH.out x1 _ B _ HIN1'.out (by omega) HO1.out hxa1 HXS1.out (HV.out.below HB1.out) hc1).mono ?_
        rintro en w2 ⟨rfl, hb2⟩
        have HB2 := Lib.hid (HB1.out.trans (hb2.mono (by omega)))
        clear hb2
        go_wp2_with fail
        go_ret
        exact ⟨by rw [HT.out]; rfl, HB2.out⟩

theorem lholds_bad {e : Ex} {s : ByteArray} (h : exV 1 e = false) : lholds e s = false := by unfold lholds; rw [h]; rfl
theorem lholds_lbl {e : Ex} {s : ByteArray} (h : lbl s = false) : lholds e s = false := by unfold lholds; rw [h]; simp
theorem exV_ok {kind : Int} {e : Ex} (h : exV kind e = true) : e.okB kind 12 = true := by
  unfold exV at h; simp only [Bool.and_eq_true] at h; exact h.2.1
set_option maxRecDepth 100000 in
set_option maxHeartbeats 2000000 in
theorem labelHolds_any (e : Ex) (v : Value) (s : ByteArray) (B : Nat) (w : World) (hv : e.At B w v) (hB : B ≤ w.heap.size) (ha : e.a.size ≤ 1048576) (hsm : e.ks.Sm) (hs : s.size ≤ 1048576) (hvars : Vars w) :
    Calls Tryd.prog 69 #[v, .string s] w fun en w' => en = .returned (.bool (lholds e s)) ∧ Below w.heap.size w w' := by
  have HSM := Lib.hid hsm
  have HVV := Lib.hid hvars
  have HE := Lib.hid hv
  clear hsm hvars
  obtain ⟨k, rfl, hk⟩ := hv
  obtain ⟨p, cap, rfl⟩ := hk.form
  have HK := Lib.hid hk
  clear hk
  obtain ⟨W0, eW⟩ : ∃ W0, W0 = (w.alloc (.cells #[.int .i64 e.op, .string e.a, .slice p e.ks.list.length cap] 25)).alloc (.cells #[.string s] 9) := ⟨_, rfl⟩
  have HB0 := Lib.hid (show Below w.heap.size w W0 by rw [eW]; exact ((Below.refl _ _).alloc (Nat.le_refl _) _).alloc (by simp) _)
  have HC := Lib.hid (show ∀ wk, Below (w.heap.size + 2) W0 wk → w.heap.size + 2 ≤ wk.heap.size ∧ wk.cell? ⟨w.heap.size, 0, none⟩ = some (.int .i64 e.op) ∧ wk.cell? ⟨w.heap.size, 1, none⟩ = some (.string e.a) ∧ wk.cell? ⟨w.heap.size, 2, none⟩ = some (.slice p e.ks.list.length cap) ∧ wk.cell? ⟨w.heap.size + 1, 0, none⟩ = some (.string s) from
    fun wk hk => by rw [eW] at hk; exact ⟨by have := hk.size; simp at this; omega, keepc hk (by omega) (by simp [go_sem]), keepc hk (by omega) (by simp [go_sem]), keepc hk (by omega) (by simp [go_sem]), keepc hk (by omega) (by simp [go_sem])⟩)
  have hs0 : w.heap.size + 2 ≤ W0.heap.size := by rw [eW]; simp
  have HA := Lib.hid (Below.refl (w.heap.size + 2) W0)
  have EW := Lib.hid eW
  clear eW
  go_enter Tryd.func69, Tryd.ntmps69
  go_wp2_with fail
  rw [← EW.out]
  refine (exprValid_any e _ 1 B _ (HE.out.below (HB0.out.mono hB) (Nat.le_refl _)) (by omega) ha HSM.out (HVV.out.below HB0.out)).mono ?_
  rintro en w1 ⟨rfl, hb1⟩
  have HA := Lib.hid (HA.out.trans (hb1.mono hs0))
  have HB1 := Lib.hid (HB0.out.trans (hb1.mono (by omega)))
  clear hb1
  obtain ⟨hz, c0, c1, c2, c3⟩ := HC.out w1 HA.out
  cases hV : exV 1 e with
  | false =>
    have HT := Lib.hid (lholds_bad (s := s) hV)
    go_wp2_with fail
    go_ret
    exact ⟨by rw [HT.out]; rfl, HB1.out⟩
  | true =>
    have HOK := Lib.hid (exV_ok hV)
    by_cases hs0 : s.size = 0
    · have h1 := str_empty hs0
      have h2 := str_empty' hs0
      obtain ⟨R, eR⟩ : ∃ R, R = e.hold (fun a => a.toList == s.toList) false := ⟨_, rfl⟩
      have HR := Lib.hid eR
      have HT := Lib.hid (show lholds e s = R by rw [eR]; unfold lholds lbl; rw [hV, decide_eq_true hs0]; rfl)
      clear eR
      go_wp2_with fail
      refine (exprHoldsL_any 1 s false (w.heap.size + 1) 12 e _ B _ (HK.out.below (HB1.out.mono hB) (Nat.le_refl _)) (by omega) HOK.out ha HSM.out (HVV.out.below HB1.out) c3).mono ?_
      rintro en w2 ⟨hen, hb2⟩
      rw [← HR.out] at hen
      subst hen
      have HB2 := Lib.hid (HB1.out.trans (hb2.mono (by omega)))
      clear hb2
      go_wp2_with fail
      go_ret
      exact ⟨by rw [HT.out]; rfl, HB2.out⟩
    · have h1 := str_nonempty (s := s) (by omega)
      have h2 := str_nonempty'' (s := s) (by omega)
      go_wp2_with fail
      refine (labelValid_any s _ (by unfold maxLen; omega)).mono ?_
      rintro en w2 ⟨rfl, rfl⟩
      cases hl : lv s with
      | false =>
        have HT := Lib.hid (lholds_lbl (e := e) (show lbl s = false by unfold lbl; rw [hl, decide_eq_false hs0]; rfl))
        go_wp2_with fail
        go_ret
        exact ⟨by rw [HT.out]; rfl, HB1.out⟩
      | true =>
        have HT := Lib.hid (show lholds e s = e.hold (fun a => a.toList == s.toList) true by unfold lholds lbl; rw [hV, hl, decide_eq_false hs0]; rfl)
        go_wp2_with fail
        refine (exprHoldsL_any 1 s true (w.heap.size + 1) 12 e _ B _ (HK.out.below (HB1.out.mono hB) (Nat.le_refl _)) (by omega) HOK.out ha HSM.out (HVV.out.below HB1.out) c3).mono ?_
        rintro en w2 ⟨rfl, hb2⟩
        have HB2 := Lib.hid (HB1.out.trans (hb2.mono (by omega)))
        clear hb2
        go_wp2_with fail
        go_ret
        exact ⟨by rw [HT.out]; rfl, HB2.out⟩

theorem nholds_bad {e : Ex} {n : Int} (h : exV 2 e = false) : nholds e n = false := by unfold nholds; rw [h]; rfl
theorem nholds_nm {e : Ex} {n : Int} (h : nm n = false) : nholds e n = false := by unfold nholds; rw [h]; simp
theorem nholds_ok {e : Ex} {n : Int} (h : exV 2 e = true) (hn : nm n = true) : nholds e n = e.hold (condH n) true := by unfold nholds; rw [h, hn]; rfl
set_option maxRecDepth 100000 in
set_option maxHeartbeats 2000000 in
theorem numHolds_any (e : Ex) (v : Value) (n : Int) (B : Nat) (w : World) (hv : e.At B w v) (hB : B ≤ w.heap.size) (ha : e.a.size ≤ 1048576) (hsm : e.ks.Sm) (hvars : Vars w) :
    Calls Tryd.prog 70 #[v, .int .i64 n] w fun en w' => en = .returned (.bool (nholds e n)) ∧ Below w.heap.size w w' := by
  have HSM := Lib.hid hsm
  have HVV := Lib.hid hvars
  have HE := Lib.hid hv
  clear hsm hvars
  obtain ⟨k, rfl, hk⟩ := hv
  obtain ⟨p, cap, rfl⟩ := hk.form
  have HK := Lib.hid hk
  clear hk
  obtain ⟨W0, eW⟩ : ∃ W0, W0 = (w.alloc (.cells #[.int .i64 e.op, .string e.a, .slice p e.ks.list.length cap] 25)).alloc (.cells #[.int .i64 n] 3) := ⟨_, rfl⟩
  have HB0 := Lib.hid (show Below w.heap.size w W0 by rw [eW]; exact ((Below.refl _ _).alloc (Nat.le_refl _) _).alloc (by simp) _)
  have HC := Lib.hid (show ∀ wk, Below (w.heap.size + 2) W0 wk → w.heap.size + 2 ≤ wk.heap.size ∧ wk.cell? ⟨w.heap.size, 0, none⟩ = some (.int .i64 e.op) ∧ wk.cell? ⟨w.heap.size, 1, none⟩ = some (.string e.a) ∧ wk.cell? ⟨w.heap.size, 2, none⟩ = some (.slice p e.ks.list.length cap) ∧ wk.cell? ⟨w.heap.size + 1, 0, none⟩ = some (.int .i64 n) from
    fun wk hk => by rw [eW] at hk; exact ⟨by have := hk.size; simp at this; omega, keepc hk (by omega) (by simp [go_sem]), keepc hk (by omega) (by simp [go_sem]), keepc hk (by omega) (by simp [go_sem]), keepc hk (by omega) (by simp [go_sem])⟩)
  have hs0 : w.heap.size + 2 ≤ W0.heap.size := by rw [eW]; simp
  have HA := Lib.hid (Below.refl (w.heap.size + 2) W0)
  have EW := Lib.hid eW
  clear eW
  go_enter Tryd.func70, Tryd.ntmps70
  go_wp2_with fail
  rw [← EW.out]
  refine (exprValid_any e _ 2 B _ (HE.out.below (HB0.out.mono hB) (Nat.le_refl _)) (by omega) ha HSM.out (HVV.out.below HB0.out)).mono ?_
  rintro en w1 ⟨rfl, hb1⟩
  have HA := Lib.hid (HA.out.trans (hb1.mono hs0))
  have HB1 := Lib.hid (HB0.out.trans (hb1.mono (by omega)))
  clear hb1
  obtain ⟨hz, c0, c1, c2, c3⟩ := HC.out w1 HA.out
  cases hV : exV 2 e with
  | false =>
    have HT := Lib.hid (nholds_bad (n := n) hV)
    go_wp2_with fail
    go_ret
    exact ⟨by rw [HT.out]; rfl, HB1.out⟩
  | true =>
    have HOK := Lib.hid (exV_ok hV)
    cases hn : nm n with
    | false =>
      have HT := Lib.hid (nholds_nm (e := e) hn)
      by_cases h0 : n < 0
      · have b0 : decide (n < 0) = true := decide_eq_true h0
        clear hn
        go_wp2_with fail
        go_ret
        exact ⟨by rw [HT.out]; rfl, HB1.out⟩
      · have b0 : decide (n < 0) = false := decide_eq_false h0
        have h99 : 99 < n := by
          by_cases h9 : n ≤ 99
          · rw [(nm_iff n).2 ⟨by omega, h9⟩] at hn; cases hn
          · omega
        have b9 : decide (99 < n) = true := decide_eq_true h99
        clear hn
        go_wp2_with fail
        go_ret
        exact ⟨by rw [HT.out]; rfl, HB1.out⟩
    | true =>
      have HT := Lib.hid (nholds_ok hV hn)
      obtain ⟨h0, h99⟩ := (nm_iff n).1 hn
      have b0 : decide (n < 0) = false := decide_eq_false (by omega)
      have b9 : decide (99 < n) = false := decide_eq_false (by omega)
      clear hn
      go_wp2_with fail
      refine (exprHoldsN_any 2 n true (w.heap.size + 1) 12 e _ B _ (HK.out.below (HB1.out.mono hB) (Nat.le_refl _)) (by omega) HOK.out ha HSM.out (HVV.out.below HB1.out) c3).mono ?_
      rintro en w2 ⟨rfl, hb2⟩
      have HB2 := Lib.hid (HB1.out.trans (hb2.mono (by omega)))
      clear hb2
      go_wp2_with fail
      go_ret
      exact ⟨by rw [HT.out]; rfl, HB2.out⟩
end Go.Proofs.YtbbemeaojmfndaaDoor
