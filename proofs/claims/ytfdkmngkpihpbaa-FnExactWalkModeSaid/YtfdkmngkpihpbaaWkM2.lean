/- WalkMode, on both sides. -/
import Derived.Test.YtfdkmngkpihpbaaWkM
import Derived.WalkSmall
namespace Go.Proofs.Ytfdkmngkpihpbaa
open Go.RowKit

theorem modeB_two (x : Wk) : modeB x 2 = onceB x.es := by simp [modeB]
theorem modeB_three (x : Wk) : modeB x 3 = onceB x.ns := by simp [modeB]
theorem modeB_four (x : Wk) : modeB x 4 = (onceB (x.ns.drop 1) && onceB (x.ns.take x.es.length)) := by simp [modeB]
theorem modeB_other (x : Wk) (m : Int) (h2 : m ≠ 2) (h3 : m ≠ 3) (h4 : m ≠ 4) : modeB x m = (m == 1) := by
  unfold modeB
  by_cases h : m = 1
  · subst h; rfl
  · rw [if_neg h, if_neg h2, if_neg h3, if_neg h4]; symm; simpa using h

set_option maxRecDepth 100000 in
set_option maxHeartbeats 8000000 in
theorem walkMode_any (x : Wk) (m : Int) (v : Value) (B : Nat) (w : World) (hx : x.At B w v) (hB : B ≤ w.heap.size) (hn : x.need ≤ 1048576) :
    Calls Try.prog 16 #[v, .int .i64 m] w fun e w' => e = .returned (.bool (wkMode x m)) ∧ Below w.heap.size w w' := by
  have HX := Lib.hid hx
  obtain ⟨a, b, rfl, ha, hb⟩ := hx
  obtain ⟨p, cap, rfl⟩ := ha.form
  obtain ⟨q, cq, rfl⟩ := hb.form
  have hm := ha.max
  have hm2 := hb.max
  unfold maxLen at hm hm2
  have HN := Lib.hid hn
  have HA := Lib.hid ha
  have HBS := Lib.hid hb
  clear ha hb hn
  go_enter Try.func16, Try.ntmps16
  go_wp2_with fail
  with_reducible refine (hasShape_any x _ B _ (HX.out.to ((Below.refl B w).alloc hB _) (Nat.le_refl _)) HN.out).mono ?_
  rintro e w1 ⟨rfl, hb1⟩
  obtain ⟨hs1, p1, q1⟩ := one_box (hb1.mono (by simp))
  have HB1 := Lib.hid (((Below.refl _ w).alloc (Nat.le_refl _) _).trans (hb1.mono (by simp)))
  clear hb1
  by_cases hs : wkShape x = true
  · have HS := Lib.hid hs
    have l1a : x.es.length < x.ns.length := by have := (wkShape_iff.1 hs).1; omega
    have l1b : x.ns.length ≤ x.es.length + 1 := by have := (wkShape_iff.1 hs).1; omega
    have l2 := (wkShape_iff.1 hs).2
    rw [hs]
    clear hs
    by_cases m1 : m = 1
    · subst m1
      go_wp2_with fail
      go_ret
      exact ⟨ret_bool (by unfold wkMode modeB; rw [HS.out]; rfl), HB1.out⟩
    by_cases m2 : m = 2
    · subst m2
      go_wp2_with fail
      with_reducible refine (eachOnce_any x.es _ B _ (HBS.out.below (HB1.out.mono hB)) (by omega)).mono ?_
      rintro e w2 ⟨rfl, hb2⟩
      have HB2 := Lib.hid (HB1.out.trans (hb2.mono (by omega)))
      clear hb2
      go_wp2_with fail
      go_ret
      exact ⟨ret_bool (by unfold wkMode; rw [HS.out, modeB_two]; rfl), HB2.out⟩
    by_cases m3 : m = 3
    · subst m3
      go_wp2_with fail
      with_reducible refine (eachOnce_any x.ns _ B _ (HA.out.below (HB1.out.mono hB)) (by omega)).mono ?_
      rintro e w2 ⟨rfl, hb2⟩
      have HB2 := Lib.hid (HB1.out.trans (hb2.mono (by omega)))
      clear hb2
      go_wp2_with fail
      go_ret
      exact ⟨ret_bool (by unfold wkMode; rw [HS.out, modeB_three]; rfl), HB2.out⟩
    by_cases m4 : m = 4
    · subst m4
      obtain ⟨b0, o0, rfl, _, _⟩ := HA.out.it (k := 0) (by omega)
      by_cases c1 : cap = 1
      · subst c1
        have HD := Lib.hid HA.out.drop1_last
        have HT := Lib.hid (HA.out.take (k := x.es.length) (by omega))
        go_wp2_with fail
        with_reducible refine (eachOnce_any (x.ns.drop 1) _ B _ (HD.out.below (HB1.out.mono hB)) (by omega)).mono ?_
        rintro e w2 ⟨rfl, hb2⟩
        have p2 := keepc hb2 hs1 p1
        have q2 := keepc hb2 hs1 q1
        have hs2 := hb2.size
        have HB2 := Lib.hid (HB1.out.trans (hb2.mono (by omega)))
        clear hb2
        by_cases e1 : onceB (x.ns.drop 1) = true
        · have E1 := Lib.hid e1
          rw [e1]
          clear e1
          go_wp2_with fail
          with_reducible refine (eachOnce_any (x.ns.take x.es.length) _ B _ (HT.out.below (HB2.out.mono hB)) (by omega)).mono ?_
          rintro e w3 ⟨rfl, hb3⟩
          have HB3 := Lib.hid (HB2.out.trans (hb3.mono (by omega)))
          clear hb3
          go_wp2_with fail
          go_ret
          exact ⟨ret_bool (by unfold wkMode; rw [HS.out, modeB_four, E1.out]; rfl), HB3.out⟩
        · have E1 := Lib.hid (Bool.eq_false_iff.2 e1)
          rw [E1.out]
          clear e1
          go_wp2_with fail
          go_ret
          exact ⟨ret_bool (by unfold wkMode; rw [HS.out, modeB_four, E1.out]; rfl), HB2.out⟩
      · have c2 : 1 < cap := by omega
        have HD := Lib.hid (HA.out.drop1 (by omega))
        clear c1
        have HT := Lib.hid (HA.out.take (k := x.es.length) (by omega))
        go_wp2_with fail
        with_reducible refine (eachOnce_any (x.ns.drop 1) _ B _ (HD.out.below (HB1.out.mono hB)) (by omega)).mono ?_
        rintro e w2 ⟨rfl, hb2⟩
        have p2 := keepc hb2 hs1 p1
        have q2 := keepc hb2 hs1 q1
        have hs2 := hb2.size
        have HB2 := Lib.hid (HB1.out.trans (hb2.mono (by omega)))
        clear hb2
        by_cases e1 : onceB (x.ns.drop 1) = true
        · have E1 := Lib.hid e1
          rw [e1]
          clear e1
          go_wp2_with fail
          with_reducible refine (eachOnce_any (x.ns.take x.es.length) _ B _ (HT.out.below (HB2.out.mono hB)) (by omega)).mono ?_
          rintro e w3 ⟨rfl, hb3⟩
          have HB3 := Lib.hid (HB2.out.trans (hb3.mono (by omega)))
          clear hb3
          go_wp2_with fail
          go_ret
          exact ⟨ret_bool (by unfold wkMode; rw [HS.out, modeB_four, E1.out]; rfl), HB3.out⟩
        · have E1 := Lib.hid (Bool.eq_false_iff.2 e1)
          rw [E1.out]
          clear e1
          go_wp2_with fail
          go_ret
          exact ⟨ret_bool (by unfold wkMode; rw [HS.out, modeB_four, E1.out]; rfl), HB2.out⟩
    have z1 : (m == 1) = false := by simpa using m1
    have z2 : (m == 2) = false := by simpa using m2
    have z3 : (m == 3) = false := by simpa using m3
    have z4 : (m == 4) = false := by simpa using m4
    have HM := Lib.hid (show modeB x m = false by rw [modeB_other x m m2 m3 m4]; exact z1)
    clear m1 m2 m3 m4
    go_wp2_with fail
    go_ret
    exact ⟨ret_bool (by unfold wkMode; rw [HM.out, Bool.and_false]), HB1.out⟩
  · have HS := Lib.hid (Bool.eq_false_iff.2 hs)
    rw [HS.out]
    clear hs
    go_wp2_with fail
    go_ret
    exact ⟨ret_bool (by unfold wkMode; rw [HS.out]; rfl), HB1.out⟩

end Go.Proofs.Ytfdkmngkpihpbaa
