/- spec.LabelHolds, spec.NumHolds. -/
import Derived.Test.YtghhabailgfelaaDoorHolds
namespace Go.Proofs.YtghhabailgfelaaDoor
open Go.RowKit

theorem condB_some {a : ByteArray} (h : condB a = true) : ∃ s n, condOf a.data.toList = some (s, n) ∧ 2 ≤ a.size ∧ isS s = true ∧ num14 a.data.toList.tail = some (n : Int) ∧ ∀ hh : 0 < a.size, a[0] = s := by
  unfold condB at h
  obtain ⟨⟨s, n⟩, hc⟩ := Option.isSome_iff_exists.1 h
  have hS := condOf_sign hc
  have hc2 := hc
  rw [cond_of] at hc2
  cases hl : a.data.toList with
  | nil => rw [hl] at hc2; cases hc2
  | cons c r =>
    rw [hl] at hc2
    by_cases hcs : isS c = true
    · simp only [hcs, if_true] at hc2
      obtain ⟨m, hm, e⟩ := Option.map_eq_some_iff.1 hc2
      cases e
      have h14 := ((num14_99 r (n : Int)).2 ⟨by simpa using hm, by omega⟩).1
      have hlen : a.size = 1 + r.length := size_of hl
      refine ⟨s, n, by rw [← hl]; exact hc, ?_, hS, h14, fun hh => ?_⟩
      · rcases num99_cases hm with ⟨d, rfl, _⟩ | ⟨d, e, rfl, _⟩ <;> simp at hlen <;> omega
      · have := head_at hh
        rw [hl] at this
        exact (List.cons.inj this).1.symm
    · simp [hcs] at hc2

set_option maxRecDepth 100000 in
set_option maxHeartbeats 4000000 in
theorem l2HoldsL_any (s : ByteArray) (AT : ByteArray → Bool) (AN : Bool) (HAT : RowKit.Hid (AT = (fun a => a.toList == s.toList))) (HAN : RowKit.Hid (AN = (!decide (s.size = 0)))) (d : Nat) : ∀ (e : Ex) (k : Value) (B : Nat) (w : World), e.ks.In B w k → B ≤ w.heap.size → e.okB 1 d = true → e.a.size ≤ 1048576 → e.ks.Sm →
    Calls Tryd.prog 65 #[.agg #[.int .i64 e.op, .string e.a, k], .int .i64 1, .string s, .int .i64 0] w fun en w' => en = .returned (.bool (e.hold AT AN)) ∧ Below w.heap.size w w' := by
  induction d with
  | zero =>
    intro e k B w _ _ hok
    rw [Ex.okB_zero] at hok; cases hok
  | succ d ih =>
    intro e k B w hk hB hok ha hsm
    have IH := Lib.hid ih
    have HSM := Lib.hid hsm
    obtain ⟨_, htop, hoks⟩ := Ex.okB_parts hok
    simp only [Nat.add_sub_cancel] at hoks
    clear ih hsm hok
    obtain ⟨p, cap, rfl⟩ := hk.form
    obtain ⟨_, hm1, hm2⟩ := hk.max
    unfold maxLen at hm2
    have HK := Lib.hid hk
    clear hk
    rcases topB_cases htop with ⟨oo, hl, hat⟩ | ⟨oo, hl⟩ | ⟨oo, hl⟩ | ⟨oo, hl⟩ | ⟨oo, hl⟩
    · have HT := Lib.hid (Ex.hold_atom AT AN oo)
      have HBW := Lib.hid (show Below w.heap.size w (w.alloc (.cells #[.int .i64 1, .string e.a, .slice p 0 cap] 29)) from (Below.refl _ _).alloc (Nat.le_refl _) _)
      rw [oo, hl]
      clear hoks htop hl
      have HA1 := Lib.hid (show AT e.a = (e.a.toList == s.toList) by rw [HAT.out])
      go_enter Tryd.func65, Tryd.ntmps65
      go_wp2_with fail
      go_ret
      exact ⟨by rw [HT.out, HA1.out]; rfl, HBW.out⟩
    · have HT := Lib.hid (Ex.hold_any AT AN oo)
      rw [oo]
      clear hoks htop
      by_cases hs0 : s.size = 0
      · have h1 := str_empty hs0
        have h2 := str_empty' hs0
        have HN := Lib.hid (show AN = false by rw [HAN.out, decide_eq_true hs0]; rfl)
        go_enter Tryd.func65, Tryd.ntmps65
        go_wp2_with fail
        go_ret
        exact ⟨by rw [HT.out, HN.out]; rfl, (Below.refl _ _).alloc (Nat.le_refl _) _⟩
      · have h1 := str_nonempty (s := s) (by omega)
        have h2 := str_nonempty'' (s := s) (by omega)
        have HN := Lib.hid (show AN = true by rw [HAN.out, decide_eq_false hs0]; rfl)
        go_enter Tryd.func65, Tryd.ntmps65
        go_wp2_with fail
        go_ret
        exact ⟨by rw [HT.out, HN.out]; rfl, (Below.refl _ _).alloc (Nat.le_refl _) _⟩
    · have hx := Ex.hold_not AT AN oo hl
      have HBW := Lib.hid (show Below w.heap.size w (w.alloc (.cells #[.int .i64 3, .string e.a, .slice p 1 cap] 29)) from (Below.refl _ _).alloc (Nat.le_refl _) _)
      rw [hl] at HK
      obtain ⟨b0, off0, q0, l0, cc0, eb0, hb0, d00, d01, d02, hin0⟩ := (HK.out.below (HBW.out.mono hB) (Nat.le_refl _)).get 0 (by omega)
      have hsm0 := HSM.out.get 0 (by omega)
      have hok0 := hoks 0 (by omega)
      simp only [Nat.zero_mul, Nat.add_zero] at d00 d01 d02
      obtain ⟨x0, ex0⟩ : ∃ x, x = e.ks.list[0] := ⟨_, rfl⟩
      rw [← ex0] at d00 d01 hin0 hsm0 hok0 hx
      have HIN0 := Lib.hid hin0
      have hxa0 := hsm0.1
      have HXS0 := Lib.hid hsm0.2
      have HO0 := Lib.hid hok0
      clear ex0 hin0 hsm0 hok0
      subst eb0
      have HT := Lib.hid hx
      rw [oo, hl]
      rw [hl] at hm1
      clear hoks htop hx hl
      go_enter Tryd.func65, Tryd.ntmps65
      go_wp2_with fail
      refine (IH.out x0 _ B _ HIN0.out (by simp; omega) HO0.out hxa0 HXS0.out).mono ?_
      rintro en w1 ⟨rfl, hb1⟩
      have HB1 := Lib.hid (HBW.out.trans (hb1.mono (by simp)))
      clear hb1
      go_wp2_with fail
      go_ret
      exact ⟨by rw [HT.out]; rfl, HB1.out⟩
    · have hx := Ex.hold_and AT AN oo hl
      have HBW := Lib.hid (show Below w.heap.size w (w.alloc (.cells #[.int .i64 4, .string e.a, .slice p 2 cap] 29)) from (Below.refl _ _).alloc (Nat.le_refl _) _)
      rw [hl] at HK
      obtain ⟨b0, off0, q0, l0, cc0, eb0, hb0, d00, d01, d02, hin0⟩ := (HK.out.below (HBW.out.mono hB) (Nat.le_refl _)).get 0 (by omega)
      have hsm0 := HSM.out.get 0 (by omega)
      have hok0 := hoks 0 (by omega)
      simp only [Nat.zero_mul, Nat.add_zero] at d00 d01 d02
      obtain ⟨x0, ex0⟩ : ∃ x, x = e.ks.list[0] := ⟨_, rfl⟩
      rw [← ex0] at d00 d01 hin0 hsm0 hok0 hx
      have HIN0 := Lib.hid hin0
      have hxa0 := hsm0.1
      have HXS0 := Lib.hid hsm0.2
      have HO0 := Lib.hid hok0
      clear ex0 hin0 hsm0 hok0
      obtain ⟨b1, off1, q1, l1, cc1, eb1, hb1, d10, d11, d12, hin1⟩ := (HK.out.below (HBW.out.mono hB) (Nat.le_refl _)).get 1 (by omega)
      have hsm1 := HSM.out.get 1 (by omega)
      have hok1 := hoks 1 (by omega)
      simp only [Nat.one_mul] at d10 d11 d12
      obtain ⟨x1, ex1⟩ : ∃ x, x = e.ks.list[1] := ⟨_, rfl⟩
      rw [← ex1] at d10 d11 hin1 hsm1 hok1 hx
      have HIN1 := Lib.hid hin1
      have hxa1 := hsm1.1
      have HXS1 := Lib.hid hsm1.2
      have HO1 := Lib.hid hok1
      clear ex1 hin1 hsm1 hok1
      subst eb0
      cases eb1
      have HX := Lib.hid hx
      rw [oo, hl]
      rw [hl] at hm1
      clear hoks htop hx hl
      go_enter Tryd.func65, Tryd.ntmps65
      go_wp2_with fail
      refine (IH.out x0 _ B _ HIN0.out (by simp; omega) HO0.out hxa0 HXS0.out).mono ?_
      rintro en w1 ⟨rfl, hb1⟩
      have g2 := new_cell hb1 (j := 2) rfl
      have hs1 : w.heap.size < w1.heap.size := by have := hb1.size; simp at this; omega
      have f0 := keepc hb1 (by simp; omega) d10
      have f1 := keepc hb1 (by simp; omega) d11
      have f2 := keepc hb1 (by simp; omega) d12
      have HB1 := Lib.hid (HBW.out.trans (hb1.mono (by simp)))
      have HIN1' := Lib.hid (HIN1.out.below (hb1.mono (by simp; omega)) (Nat.le_refl _))
      clear hb1 d00 d01 d02 d10 d11 d12
      cases hx0 : x0.hold AT AN with
      | false =>
        have HT := Lib.hid (show e.hold AT AN = false by rw [HX.out, hx0]; rfl)
        go_wp2_with fail
        go_ret
        exact ⟨by rw [HT.out]; rfl, HB1.out⟩
      | true =>
        have HT := Lib.hid (show e.hold AT AN = x1.hold AT AN by rw [HX.out, hx0]; rfl)
        go_wp2_with fail
        refine (IH.out x1 _ B _ HIN1'.out (by omega) HO1.out hxa1 HXS1.out).mono ?_
        rintro en w2 ⟨rfl, hb2⟩
        have HB2 := Lib.hid (HB1.out.trans (hb2.mono (by omega)))
        clear hb2
        go_wp2_with fail
        go_ret
        exact ⟨by rw [HT.out]; rfl, HB2.out⟩
    · have hx := Ex.hold_or AT AN oo hl
      have HBW := Lib.hid (show Below w.heap.size w (w.alloc (.cells #[.int .i64 5, .string e.a, .slice p 2 cap] 29)) from (Below.refl _ _).alloc (Nat.le_refl _) _)
      rw [hl] at HK
      obtain ⟨b0, off0, q0, l0, cc0, eb0, hb0, d00, d01, d02, hin0⟩ := (HK.out.below (HBW.out.mono hB) (Nat.le_refl _)).get 0 (by omega)
      have hsm0 := HSM.out.get 0 (by omega)
      have hok0 := hoks 0 (by omega)
      simp only [Nat.zero_mul, Nat.add_zero] at d00 d01 d02
      obtain ⟨x0, ex0⟩ : ∃ x, x = e.ks.list[0] := ⟨_, rfl⟩
      rw [← ex0] at d00 d01 hin0 hsm0 hok0 hx
      have HIN0 := Lib.hid hin0
      have hxa0 := hsm0.1
      have HXS0 := Lib.hid hsm0.2
      have HO0 := Lib.hid hok0
      clear ex0 hin0 hsm0 hok0
      obtain ⟨b1, off1, q1, l1, cc1, eb1, hb1, d10, d11, d12, hin1⟩ := (HK.out.below (HBW.out.mono hB) (Nat.le_refl _)).get 1 (by omega)
      have hsm1 := HSM.out.get 1 (by omega)
      have hok1 := hoks 1 (by omega)
      simp only [Nat.one_mul] at d10 d11 d12
      obtain ⟨x1, ex1⟩ : ∃ x, x = e.ks.list[1] := ⟨_, rfl⟩
      rw [← ex1] at d10 d11 hin1 hsm1 hok1 hx
      have HIN1 := Lib.hid hin1
      have hxa1 := hsm1.1
      have HXS1 := Lib.hid hsm1.2
      have HO1 := Lib.hid hok1
      clear ex1 hin1 hsm1 hok1
      subst eb0
      cases eb1
      have HX := Lib.hid hx
      rw [oo, hl]
      rw [hl] at hm1
      clear hoks htop hx hl
      go_enter Tryd.func65, Tryd.ntmps65
      go_wp2_with fail
      refine (IH.out x0 _ B _ HIN0.out (by simp; omega) HO0.out hxa0 HXS0.out).mono ?_
      rintro en w1 ⟨rfl, hb1⟩
      have g2 := new_cell hb1 (j := 2) rfl
      have hs1 : w.heap.size < w1.heap.size := by have := hb1.size; simp at this; omega
      have f0 := keepc hb1 (by simp; omega) d10
      have f1 := keepc hb1 (by simp; omega) d11
      have f2 := keepc hb1 (by simp; omega) d12
      have HB1 := Lib.hid (HBW.out.trans (hb1.mono (by simp)))
      have HIN1' := Lib.hid (HIN1.out.below (hb1.mono (by simp; omega)) (Nat.le_refl _))
      clear hb1 d00 d01 d02 d10 d11 d12
      cases hx0 : x0.hold AT AN with
      | true =>
        have HT := Lib.hid (show e.hold AT AN = true by rw [HX.out, hx0]; rfl)
        go_wp2_with fail
        go_ret
        exact ⟨by rw [HT.out]; rfl, HB1.out⟩
      | false =>
        have HT := Lib.hid (show e.hold AT AN = x1.hold AT AN by rw [HX.out, hx0]; rfl)
        go_wp2_with fail
        refine (IH.out x1 _ B _ HIN1'.out (by omega) HO1.out hxa1 HXS1.out).mono ?_
        rintro en w2 ⟨rfl, hb2⟩
        have HB2 := Lib.hid (HB1.out.trans (hb2.mono (by omega)))
        clear hb2
        go_wp2_with fail
        go_ret
        exact ⟨by rw [HT.out]; rfl, HB2.out⟩
set_option maxRecDepth 100000 in
set_option maxHeartbeats 4000000 in
theorem l2HoldsN_any (num : Int) (AT : ByteArray → Bool) (AN : Bool) (HAT : RowKit.Hid (AT = (condH num))) (HAN : RowKit.Hid (AN = (true))) (d : Nat) : ∀ (e : Ex) (k : Value) (B : Nat) (w : World), e.ks.In B w k → B ≤ w.heap.size → e.okB 2 d = true → e.a.size ≤ 1048576 → e.ks.Sm →
    Calls Tryd.prog 65 #[.agg #[.int .i64 e.op, .string e.a, k], .int .i64 2, .string ⟨#[]⟩, .int .i64 num] w fun en w' => en = .returned (.bool (e.hold AT AN)) ∧ Below w.heap.size w w' := by
  induction d with
  | zero =>
    intro e k B w _ _ hok
    rw [Ex.okB_zero] at hok; cases hok
  | succ d ih =>
    intro e k B w hk hB hok ha hsm
    have IH := Lib.hid ih
    have HSM := Lib.hid hsm
    obtain ⟨_, htop, hoks⟩ := Ex.okB_parts hok
    simp only [Nat.add_sub_cancel] at hoks
    clear ih hsm hok
    obtain ⟨p, cap, rfl⟩ := hk.form
    obtain ⟨_, hm1, hm2⟩ := hk.max
    unfold maxLen at hm2
    have HK := Lib.hid hk
    clear hk
    rcases topB_cases htop with ⟨oo, hl, hat⟩ | ⟨oo, hl⟩ | ⟨oo, hl⟩ | ⟨oo, hl⟩ | ⟨oo, hl⟩
    · have HT := Lib.hid (Ex.hold_atom AT AN oo)
      have HBW := Lib.hid (show Below w.heap.size w (w.alloc (.cells #[.int .i64 1, .string e.a, .slice p 0 cap] 29)) from (Below.refl _ _).alloc (Nat.le_refl _) _)
      rw [oo, hl]
      clear hoks htop hl
      have HA1 := Lib.hid (show AT e.a = condH num e.a by rw [HAT.out])
      obtain ⟨s, n, hcd, h2, hS, h14, h0⟩ := condB_some (show condB e.a = true from hat)
      have hpos : 0 < e.a.size := by omega
      have j1 : (1 : Int) ≤ (e.a.size : Int) := by omega
      have hs0 := h0 hpos
      have HEX := Lib.hid (show num14 (e.a.extract 1 e.a.size).data.toList = some (n : Int) by
        rw [show (e.a.extract 1 e.a.size).data.toList = e.a.data.toList.tail from by simp [ByteArray.data_extract, List.extract_eq_take_drop]; rw [List.take_of_length_le (by simp)]]
        exact h14)
      have HH := Lib.hid (condH_some (num := num) hcd)
      have hSc := (isS_iff s).1 hS
      rw [← hs0] at HH hSc
      clear hcd h14 h0 hS hs0 hat
      by_cases c60 : e.a[0].toNat = 60
      · have b60 : ((e.a[0].toNat : Int) == 60) = true := by rw [beq_iff_eq]; omega
        have b61 : ((e.a[0].toNat : Int) == 61) = false := by rw [beq_eq_false_iff_ne]; omega
        have b62 : ((e.a[0].toNat : Int) == 62) = false := by rw [beq_eq_false_iff_ne]; omega
        have HF := Lib.hid (show condH num e.a = decide (num < (n : Int)) by rw [HH.out]; unfold cmpB; rw [if_pos c60])
        clear c60 hSc
        cases hq : decide (num < (n : Int)) with
        | true =>
        rw [hq] at HF
        go_enter Tryd.func65, Tryd.ntmps65
        go_wp2_with fail
        refine (l14Num_any (e.a.extract 1 e.a.size) _ (by rw [ByteArray.size_extract]; omega)).mono ?_
        rintro en w' ⟨he, rfl⟩
        rw [HEX.out] at he
        unfold NumR at he
        subst he
        go_wp2_with fail
        go_ret
        exact ⟨by rw [HT.out, HA1.out, HF.out]; rfl, HBW.out⟩
        | false =>
        rw [hq] at HF
        go_enter Tryd.func65, Tryd.ntmps65
        go_wp2_with fail
        refine (l14Num_any (e.a.extract 1 e.a.size) _ (by rw [ByteArray.size_extract]; omega)).mono ?_
        rintro en w' ⟨he, rfl⟩
        rw [HEX.out] at he
        unfold NumR at he
        subst he
        go_wp2_with fail
        go_ret
        exact ⟨by rw [HT.out, HA1.out, HF.out]; rfl, HBW.out⟩
      by_cases c61 : e.a[0].toNat = 61
      · have b60 : ((e.a[0].toNat : Int) == 60) = false := by rw [beq_eq_false_iff_ne]; omega
        have b61 : ((e.a[0].toNat : Int) == 61) = true := by rw [beq_iff_eq]; omega
        have b62 : ((e.a[0].toNat : Int) == 62) = false := by rw [beq_eq_false_iff_ne]; omega
        have HF := Lib.hid (show condH num e.a = (num == (n : Int)) by rw [HH.out]; unfold cmpB; rw [if_neg c60, if_pos c61])
        clear c60 c61 hSc
        cases hq : (num == (n : Int)) with
        | true =>
        rw [hq] at HF
        go_enter Tryd.func65, Tryd.ntmps65
        go_wp2_with fail
        refine (l14Num_any (e.a.extract 1 e.a.size) _ (by rw [ByteArray.size_extract]; omega)).mono ?_
        rintro en w' ⟨he, rfl⟩
        rw [HEX.out] at he
        unfold NumR at he
        subst he
        go_wp2_with fail
        go_ret
        exact ⟨by rw [HT.out, HA1.out, HF.out]; rfl, HBW.out⟩
        | false =>
        rw [hq] at HF
        go_enter Tryd.func65, Tryd.ntmps65
        go_wp2_with fail
        refine (l14Num_any (e.a.extract 1 e.a.size) _ (by rw [ByteArray.size_extract]; omega)).mono ?_
        rintro en w' ⟨he, rfl⟩
        rw [HEX.out] at he
        unfold NumR at he
        subst he
        go_wp2_with fail
        go_ret
        exact ⟨by rw [HT.out, HA1.out, HF.out]; rfl, HBW.out⟩
      · have b60 : ((e.a[0].toNat : Int) == 60) = false := by rw [beq_eq_false_iff_ne]; omega
        have b61 : ((e.a[0].toNat : Int) == 61) = false := by rw [beq_eq_false_iff_ne]; omega
        have b62 : ((e.a[0].toNat : Int) == 62) = true := by rw [beq_iff_eq]; omega
        have HF := Lib.hid (show condH num e.a = decide ((n : Int) < num) by rw [HH.out]; unfold cmpB; rw [if_neg c60, if_neg c61])
        clear c60 c61 hSc
        cases hq : decide ((n : Int) < num) with
        | true =>
        rw [hq] at HF
        go_enter Tryd.func65, Tryd.ntmps65
        go_wp2_with fail
        refine (l14Num_any (e.a.extract 1 e.a.size) _ (by rw [ByteArray.size_extract]; omega)).mono ?_
        rintro en w' ⟨he, rfl⟩
        rw [HEX.out] at he
        unfold NumR at he
        subst he
        go_wp2_with fail
        go_ret
        exact ⟨by rw [HT.out, HA1.out, HF.out]; rfl, HBW.out⟩
        | false =>
        rw [hq] at HF
        go_enter Tryd.func65, Tryd.ntmps65
        go_wp2_with fail
        refine (l14Num_any (e.a.extract 1 e.a.size) _ (by rw [ByteArray.size_extract]; omega)).mono ?_
        rintro en w' ⟨he, rfl⟩
        rw [HEX.out] at he
        unfold NumR at he
        subst he
        go_wp2_with fail
        go_ret
        exact ⟨by rw [HT.out, HA1.out, HF.out]; rfl, HBW.out⟩
    · have HT := Lib.hid (Ex.hold_any AT AN oo)
      rw [oo]
      clear hoks htop
      have HN := Lib.hid (show AN = true by rw [HAN.out])
      go_enter Tryd.func65, Tryd.ntmps65
      go_wp2_with fail
      go_ret
      exact ⟨by rw [HT.out, HN.out]; rfl, (Below.refl _ _).alloc (Nat.le_refl _) _⟩
    · have hx := Ex.hold_not AT AN oo hl
      have HBW := Lib.hid (show Below w.heap.size w (w.alloc (.cells #[.int .i64 3, .string e.a, .slice p 1 cap] 29)) from (Below.refl _ _).alloc (Nat.le_refl _) _)
      rw [hl] at HK
      obtain ⟨b0, off0, q0, l0, cc0, eb0, hb0, d00, d01, d02, hin0⟩ := (HK.out.below (HBW.out.mono hB) (Nat.le_refl _)).get 0 (by omega)
      have hsm0 := HSM.out.get 0 (by omega)
      have hok0 := hoks 0 (by omega)
      simp only [Nat.zero_mul, Nat.add_zero] at d00 d01 d02
      obtain ⟨x0, ex0⟩ : ∃ x, x = e.ks.list[0] := ⟨_, rfl⟩
      rw [← ex0] at d00 d01 hin0 hsm0 hok0 hx
      have HIN0 := Lib.hid hin0
      have hxa0 := hsm0.1
      have HXS0 := Lib.hid hsm0.2
      have HO0 := Lib.hid hok0
      clear ex0 hin0 hsm0 hok0
      subst eb0
      have HT := Lib.hid hx
      rw [oo, hl]
      rw [hl] at hm1
      clear hoks htop hx hl
      go_enter Tryd.func65, Tryd.ntmps65
      go_wp2_with fail
      refine (IH.out x0 _ B _ HIN0.out (by simp; omega) HO0.out hxa0 HXS0.out).mono ?_
      rintro en w1 ⟨rfl, hb1⟩
      have HB1 := Lib.hid (HBW.out.trans (hb1.mono (by simp)))
      clear hb1
      go_wp2_with fail
      go_ret
      exact ⟨by rw [HT.out]; rfl, HB1.out⟩
    · have hx := Ex.hold_and AT AN oo hl
      have HBW := Lib.hid (show Below w.heap.size w (w.alloc (.cells #[.int .i64 4, .string e.a, .slice p 2 cap] 29)) from (Below.refl _ _).alloc (Nat.le_refl _) _)
      rw [hl] at HK
      obtain ⟨b0, off0, q0, l0, cc0, eb0, hb0, d00, d01, d02, hin0⟩ := (HK.out.below (HBW.out.mono hB) (Nat.le_refl _)).get 0 (by omega)
      have hsm0 := HSM.out.get 0 (by omega)
      have hok0 := hoks 0 (by omega)
      simp only [Nat.zero_mul, Nat.add_zero] at d00 d01 d02
      obtain ⟨x0, ex0⟩ : ∃ x, x = e.ks.list[0] := ⟨_, rfl⟩
      rw [← ex0] at d00 d01 hin0 hsm0 hok0 hx
      have HIN0 := Lib.hid hin0
      have hxa0 := hsm0.1
      have HXS0 := Lib.hid hsm0.2
      have HO0 := Lib.hid hok0
      clear ex0 hin0 hsm0 hok0
      obtain ⟨b1, off1, q1, l1, cc1, eb1, hb1, d10, d11, d12, hin1⟩ := (HK.out.below (HBW.out.mono hB) (Nat.le_refl _)).get 1 (by omega)
      have hsm1 := HSM.out.get 1 (by omega)
      have hok1 := hoks 1 (by omega)
      simp only [Nat.one_mul] at d10 d11 d12
      obtain ⟨x1, ex1⟩ : ∃ x, x = e.ks.list[1] := ⟨_, rfl⟩
      rw [← ex1] at d10 d11 hin1 hsm1 hok1 hx
      have HIN1 := Lib.hid hin1
      have hxa1 := hsm1.1
      have HXS1 := Lib.hid hsm1.2
      have HO1 := Lib.hid hok1
      clear ex1 hin1 hsm1 hok1
      subst eb0
      cases eb1
      have HX := Lib.hid hx
      rw [oo, hl]
      rw [hl] at hm1
      clear hoks htop hx hl
      go_enter Tryd.func65, Tryd.ntmps65
      go_wp2_with fail
      refine (IH.out x0 _ B _ HIN0.out (by simp; omega) HO0.out hxa0 HXS0.out).mono ?_
      rintro en w1 ⟨rfl, hb1⟩
      have g2 := new_cell hb1 (j := 2) rfl
      have hs1 : w.heap.size < w1.heap.size := by have := hb1.size; simp at this; omega
      have f0 := keepc hb1 (by simp; omega) d10
      have f1 := keepc hb1 (by simp; omega) d11
      have f2 := keepc hb1 (by simp; omega) d12
      have HB1 := Lib.hid (HBW.out.trans (hb1.mono (by simp)))
      have HIN1' := Lib.hid (HIN1.out.below (hb1.mono (by simp; omega)) (Nat.le_refl _))
      clear hb1 d00 d01 d02 d10 d11 d12
      cases hx0 : x0.hold AT AN with
      | false =>
        have HT := Lib.hid (show e.hold AT AN = false by rw [HX.out, hx0]; rfl)
        go_wp2_with fail
        go_ret
        exact ⟨by rw [HT.out]; rfl, HB1.out⟩
      | true =>
        have HT := Lib.hid (show e.hold AT AN = x1.hold AT AN by rw [HX.out, hx0]; rfl)
        go_wp2_with fail
        refine (IH.out x1 _ B _ HIN1'.out (by omega) HO1.out hxa1 HXS1.out).mono ?_
        rintro en w2 ⟨rfl, hb2⟩
        have HB2 := Lib.hid (HB1.out.trans (hb2.mono (by omega)))
        clear hb2
        go_wp2_with fail
        go_ret
        exact ⟨by rw [HT.out]; rfl, HB2.out⟩
    · have hx := Ex.hold_or AT AN oo hl
      have HBW := Lib.hid (show Below w.heap.size w (w.alloc (.cells #[.int .i64 5, .string e.a, .slice p 2 cap] 29)) from (Below.refl _ _).alloc (Nat.le_refl _) _)
      rw [hl] at HK
      obtain ⟨b0, off0, q0, l0, cc0, eb0, hb0, d00, d01, d02, hin0⟩ := (HK.out.below (HBW.out.mono hB) (Nat.le_refl _)).get 0 (by omega)
      have hsm0 := HSM.out.get 0 (by omega)
      have hok0 := hoks 0 (by omega)
      simp only [Nat.zero_mul, Nat.add_zero] at d00 d01 d02
      obtain ⟨x0, ex0⟩ : ∃ x, x = e.ks.list[0] := ⟨_, rfl⟩
      rw [← ex0] at d00 d01 hin0 hsm0 hok0 hx
      have HIN0 := Lib.hid hin0
      have hxa0 := hsm0.1
      have HXS0 := Lib.hid hsm0.2
      have HO0 := Lib.hid hok0
      clear ex0 hin0 hsm0 hok0
      obtain ⟨b1, off1, q1, l1, cc1, eb1, hb1, d10, d11, d12, hin1⟩ := (HK.out.below (HBW.out.mono hB) (Nat.le_refl _)).get 1 (by omega)
      have hsm1 := HSM.out.get 1 (by omega)
      have hok1 := hoks 1 (by omega)
      simp only [Nat.one_mul] at d10 d11 d12
      obtain ⟨x1, ex1⟩ : ∃ x, x = e.ks.list[1] := ⟨_, rfl⟩
      rw [← ex1] at d10 d11 hin1 hsm1 hok1 hx
      have HIN1 := Lib.hid hin1
      have hxa1 := hsm1.1
      have HXS1 := Lib.hid hsm1.2
      have HO1 := Lib.hid hok1
      clear ex1 hin1 hsm1 hok1
      subst eb0
      cases eb1
      have HX := Lib.hid hx
      rw [oo, hl]
      rw [hl] at hm1
      clear hoks htop hx hl
      go_enter Tryd.func65, Tryd.ntmps65
      go_wp2_with fail
      refine (IH.out x0 _ B _ HIN0.out (by simp; omega) HO0.out hxa0 HXS0.out).mono ?_
      rintro en w1 ⟨rfl, hb1⟩
      have g2 := new_cell hb1 (j := 2) rfl
      have hs1 : w.heap.size < w1.heap.size := by have := hb1.size; simp at this; omega
      have f0 := keepc hb1 (by simp; omega) d10
      have f1 := keepc hb1 (by simp; omega) d11
      have f2 := keepc hb1 (by simp; omega) d12
      have HB1 := Lib.hid (HBW.out.trans (hb1.mono (by simp)))
      have HIN1' := Lib.hid (HIN1.out.below (hb1.mono (by simp; omega)) (Nat.le_refl _))
      clear hb1 d00 d01 d02 d10 d11 d12
      cases hx0 : x0.hold AT AN with
      | true =>
        have HT := Lib.hid (show e.hold AT AN = true by rw [HX.out, hx0]; rfl)
        go_wp2_with fail
        go_ret
        exact ⟨by rw [HT.out]; rfl, HB1.out⟩
      | false =>
        have HT := Lib.hid (show e.hold AT AN = x1.hold AT AN by rw [HX.out, hx0]; rfl)
        go_wp2_with fail
        refine (IH.out x1 _ B _ HIN1'.out (by omega) HO1.out hxa1 HXS1.out).mono ?_
        rintro en w2 ⟨rfl, hb2⟩
        have HB2 := Lib.hid (HB1.out.trans (hb2.mono (by omega)))
        clear hb2
        go_wp2_with fail
        go_ret
        exact ⟨by rw [HT.out]; rfl, HB2.out⟩

end Go.Proofs.YtghhabailgfelaaDoor
