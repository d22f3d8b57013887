/- WalkMode, on the model's side. -/
import Derived.Test.YtfdkmngkpihpbaaWkM2
import Derived.WalkSmall
namespace Go.Proofs.Ytfdkmngkpihpbaa
open Go.RowKit

set_option maxRecDepth 100000 in
set_option maxHeartbeats 2000000 in
theorem l5Mode_any (x : Wk) (m : Int) (v : Value) (B : Nat) (w : World) (hx : x.At B w v) (hB : B ≤ w.heap.size) (hs : wkShape x = true) :
    Calls Try.prog 55 #[v, .int .i64 m] w fun e w' => e = .returned (.bool (modeB x m)) ∧ Below w.heap.size w w' := by
  have HX := Lib.hid hx
  have HS := Lib.hid hs
  have l1a : x.es.length < x.ns.length := by have := (wkShape_iff.1 hs).1; omega
  have l1b : x.ns.length ≤ x.es.length + 1 := by have := (wkShape_iff.1 hs).1; omega
  have l2 := (wkShape_iff.1 hs).2
  obtain ⟨a, b, rfl, ha, hb⟩ := hx
  obtain ⟨p, cap, rfl⟩ := ha.form
  obtain ⟨q, cq, rfl⟩ := hb.form
  have hm := ha.max
  have hm2 := hb.max
  unfold maxLen at hm hm2
  have HA := Lib.hid ha
  have HBS := Lib.hid hb
  clear ha hb hs
  have HV := Lib.hid ((Below.refl w.heap.size w).alloc (Nat.le_refl _) (.cells #[.slice p x.ns.length cap, .slice q x.es.length cq] 25))
  have HVB := Lib.hid ((Below.refl B w).alloc hB (.cells #[.slice p x.ns.length cap, .slice q x.es.length cq] 25))
  by_cases m2 : m = 2
  · subst m2
    go_enter Try.func55, Try.ntmps55
    go_wp2_with fail
    with_reducible refine (l5Once_any x.es _ B _ (HBS.out.below HVB.out) (by simp; omega)).mono ?_
    rintro e w2 ⟨rfl, hb2⟩
    have HB2 := Lib.hid (HV.out.trans (hb2.mono (by simp)))
    clear hb2
    go_wp2_with fail
    go_ret
    exact ⟨ret_bool (by rw [modeB_two]), HB2.out⟩
  by_cases m3 : m = 3
  · subst m3
    go_enter Try.func55, Try.ntmps55
    go_wp2_with fail
    with_reducible refine (l5Once_any x.ns _ B _ (HA.out.below HVB.out) (by simp; omega)).mono ?_
    rintro e w2 ⟨rfl, hb2⟩
    have HB2 := Lib.hid (HV.out.trans (hb2.mono (by simp)))
    clear hb2
    go_wp2_with fail
    go_ret
    exact ⟨ret_bool (by rw [modeB_three]), HB2.out⟩
  by_cases m4 : m = 4
  · subst m4
    obtain ⟨b0, o0, rfl, hb0, c0⟩ := HA.out.it (k := 0) (by omega)
    obtain ⟨b1, o1, e1, _, c1⟩ := HA.out.it (k := x.ns.length - 1) (by omega)
    cases e1
    have HD := Lib.hid (HA.out.drop1 (by omega))
    have HE := Lib.hid (simple_iff HS.out (by omega) (by omega))
    have hl0 : (0 : Int) < (x.ns.length : Int) := by omega
    have hlt0 : b0 < w.heap.size := by omega
    have hsub : (x.ns.length : Int) - 1 = ((x.ns.length - 1 : Nat) : Int) := by omega
    have d0 := keepc HV.out hlt0 c0
    have d1 := keepc HV.out hlt0 c1
    rw [Nat.add_zero] at d0
    clear c0 c1 hb0
    obtain ⟨y, ey⟩ : ∃ y, y = x.ns[0]'(by omega) := ⟨_, rfl⟩
    obtain ⟨z, ez⟩ : ∃ z, z = x.ns[x.ns.length - 1]'(by omega) := ⟨_, rfl⟩
    rw [← ey] at d0 HE
    rw [← ez] at d1 HE
    clear ey ez
    by_cases h1 : 1 < x.ns.length
    · have g1 : decide (1 < (x.ns.length : Int)) = true := decide_eq_true (by omega)
      by_cases h2 : y = z
      · have HG := Lib.hid (HE.out.trans (if_pos ⟨h1, h2⟩))
        have g2 : (y == z) = true := by simpa using h2
        clear h2 HE
        go_enter Try.func55, Try.ntmps55
        go_wp2_with fail
        go_quiet (fail)
        go_wp2_with fail
        with_reducible refine (l5Once_any (x.ns.drop 1) _ B _ (HD.out.below (below_drewN HVB.out _)) (by simp; omega)).mono ?_
        rintro e w2 ⟨rfl, hb2⟩
        have HB2 := Lib.hid ((below_drewN HV.out _).trans (hb2.mono (by simp)))
        clear hb2
        go_wp2_with fail
        go_ret
        exact ⟨ret_bool (by rw [modeB_four, HG.out, List.drop_one]), HB2.out⟩
      · have HG := Lib.hid (HE.out.trans (if_neg fun h => h2 h.2))
        have g2 : (y == z) = false := by simpa using h2
        clear h2 HE
        go_enter Try.func55, Try.ntmps55
        go_wp2_with fail
        go_quiet (fail)
        go_wp2_with fail
        with_reducible refine (l5Once_any x.ns _ B _ (HA.out.below (below_drewN HVB.out _)) (by simp; omega)).mono ?_
        rintro e w2 ⟨rfl, hb2⟩
        have HB2 := Lib.hid ((below_drewN HV.out _).trans (hb2.mono (by simp)))
        clear hb2
        go_wp2_with fail
        go_ret
        exact ⟨ret_bool (by rw [modeB_four, HG.out]), HB2.out⟩
    · have HG := Lib.hid (HE.out.trans (if_neg fun h => h1 h.1))
      have g1 : decide (1 < (x.ns.length : Int)) = false := decide_eq_false (by omega)
      clear HE
      go_enter Try.func55, Try.ntmps55
      go_wp2_with fail
      go_quiet (fail)
      go_wp2_with fail
      with_reducible refine (l5Once_any x.ns _ B _ (HA.out.below (below_drewN HVB.out _)) (by simp; omega)).mono ?_
      rintro e w2 ⟨rfl, hb2⟩
      have HB2 := Lib.hid ((below_drewN HV.out _).trans (hb2.mono (by simp)))
      clear hb2
      go_wp2_with fail
      go_ret
      exact ⟨ret_bool (by rw [modeB_four, HG.out]), HB2.out⟩
  have z2 : (m == 2) = false := by simpa using m2
  have z3 : (m == 3) = false := by simpa using m3
  have z4 : (m == 4) = false := by simpa using m4
  have HM := Lib.hid (modeB_other x m m2 m3 m4)
  clear m2 m3 m4
  go_enter Try.func55, Try.ntmps55
  go_wp2_with fail
  go_ret
  exact ⟨ret_bool (by rw [HM.out]), HV.out⟩

set_option maxHeartbeats 1000000 in
theorem specWalkMode_any (x : Wk) (m : Int) (v : Value) (B : Nat) (w : World) (hx : x.At B w v) (hB : B ≤ w.heap.size) (hn : x.need ≤ 1048576) :
    Calls Try.prog 17 #[v, .int .i64 m] w fun e w' => e = .returned (.bool (wkMode x m)) ∧ Below w.heap.size w w' := by
  have HX := Lib.hid hx
  obtain ⟨p, cap, q, cq, rfl⟩ := hx.form
  clear hx
  go_enter Try.func17, Try.ntmps17
  go_wp2_with fail
  with_reducible refine (l5Shape_any x _ B _ (HX.out.to ((Below.refl B w).alloc hB _) (Nat.le_refl _)) hn).mono ?_
  rintro e w1 ⟨rfl, hb1⟩
  obtain ⟨hs1, p1, q1⟩ := one_box (hb1.mono (by simp))
  have HB1 := Lib.hid (((Below.refl _ w).alloc (Nat.le_refl _) _).trans (hb1.mono (by simp)))
  clear hb1
  by_cases hs : wkShape x = true
  · have HS := Lib.hid hs
    rw [hs]
    clear hs
    go_wp2_with fail
    with_reducible refine (l5Mode_any x m _ B _ (HX.out.to (HB1.out.mono hB) (Nat.le_refl _)) (by omega) HS.out).mono ?_
    rintro e w2 ⟨rfl, hb2⟩
    have HB2 := Lib.hid (HB1.out.trans (hb2.mono (by omega)))
    clear hb2
    go_wp2_with fail
    go_ret
    exact ⟨ret_bool (by unfold wkMode; rw [HS.out]; rfl), HB2.out⟩
  · have HS := Lib.hid (Bool.eq_false_iff.2 hs)
    rw [HS.out]
    clear hs
    go_wp2_with fail
    go_ret
    exact ⟨ret_bool (by unfold wkMode; rw [HS.out]; rfl), HB1.out⟩
end Go.Proofs.Ytfdkmngkpihpbaa
