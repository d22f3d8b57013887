/- spec.PatSame. -/
import Derived.Test.YtggpnnoldjpmcaaPtL
import Derived.Test.YtggpnnoldjpmcaaSElSame
import Derived.StillTailTactics
namespace Go.Proofs.Ytggpnnoldjpmcaa
open Go.RowKit

theorem pt_ext {x y : Pt} (h1 : x.op = y.op) (h2 : x.e = y.e) (h3 : x.lo = y.lo) (h4 : x.hi = y.hi) (h5 : x.ks.list = y.ks.list) : x = y := by
  obtain ⟨o, e, k, l, h⟩ := x
  obtain ⟨o', e', k', l', h'⟩ := y
  simp only at h1 h2 h3 h4 h5
  rw [h1, h2, h3, h4, ← Pf.of_list k, ← Pf.of_list k', h5]
def SamePt (x y : Pt) : Prop := ∀ (v v' : Value) (B : Nat) (w : World), x.At B w v → y.At B w v' → B ≤ w.heap.size →
  Calls Try.prog 42 #[v, v'] w fun en w' => en = .returned (.bool (ptEq x y)) ∧ Below w.heap.size w w'

set_option maxRecDepth 100000 in
set_option maxHeartbeats 8000000 in
theorem samePtN (n : Nat) : ∀ x y : Pt, x.ks.size ≤ n → SamePt x y := by
  induction n using Nat.strongRecOn with
  | _ n ih =>
    intro x y hn v v' B w hv hv' hB
    have IH := Lib.hid ih
    clear ih
    obtain ⟨p, pc, q, qc, r, rc, rfl, hl, hc, hk⟩ := Pt.AtL.form hv
    obtain ⟨p2, pc2, q2, qc2, r2, rc2, rfl, hl2, hc2, hk2⟩ := Pt.AtL.form hv'
    obtain ⟨_, hm1, hm2⟩ := hk.max
    obtain ⟨_, hn1, hn2⟩ := hk2.max
    unfold maxLen at hm2 hn2
    have HL := Lib.hid hl
    have HC := Lib.hid hc
    have HK := Lib.hid hk
    have HL2 := Lib.hid hl2
    have HC2 := Lib.hid hc2
    have HK2 := Lib.hid hk2
    clear hv hv' hl hc hk hl2 hc2 hk2
    obtain ⟨W0, eW⟩ : ∃ W0, W0 = (w.alloc (.cells #[.int .i64 x.op, .bool x.e.n, .string x.e.v, .int .i64 x.e.l.op, .string x.e.l.a, .slice p x.e.l.ks.list.length pc, .int .i64 x.e.c.op, .string x.e.c.a, .slice q x.e.c.ks.list.length qc, .int .i64 x.e.d, .slice r x.ks.list.length rc, .int .i64 x.lo, .int .i64 x.hi] 78)).alloc (.cells #[.int .i64 y.op, .bool y.e.n, .string y.e.v, .int .i64 y.e.l.op, .string y.e.l.a, .slice p2 y.e.l.ks.list.length pc2, .int .i64 y.e.c.op, .string y.e.c.a, .slice q2 y.e.c.ks.list.length qc2, .int .i64 y.e.d, .slice r2 y.ks.list.length rc2, .int .i64 y.lo, .int .i64 y.hi] 78) := ⟨_, rfl⟩
    have HV := Lib.hid (show Below w.heap.size w W0 by rw [eW]; exact ((Below.refl w.heap.size w).alloc (by simp) _).alloc (by simp) _)
    have HX := Lib.hid (show ∀ wk, Below (w.heap.size + 2) W0 wk → wk.cell? ⟨w.heap.size, 10, none⟩ = some (.slice r x.ks.list.length rc) ∧ wk.cell? ⟨w.heap.size, 11, none⟩ = some (.int .i64 x.lo) ∧ wk.cell? ⟨w.heap.size, 12, none⟩ = some (.int .i64 x.hi) ∧ wk.cell? ⟨w.heap.size + 1, 10, none⟩ = some (.slice r2 y.ks.list.length rc2) ∧ wk.cell? ⟨w.heap.size + 1, 11, none⟩ = some (.int .i64 y.lo) ∧ wk.cell? ⟨w.heap.size + 1, 12, none⟩ = some (.int .i64 y.hi) from fun wk hk => by rw [eW] at hk; exact ⟨keepc hk (by omega) (by simp [go_sem]), keepc hk (by omega) (by simp [go_sem]), keepc hk (by omega) (by simp [go_sem]), keepc hk (by omega) (by simp [go_sem]), keepc hk (by omega) (by simp [go_sem]), keepc hk (by omega) (by simp [go_sem])⟩)
    have hz0 : w.heap.size + 2 ≤ W0.heap.size := by rw [eW]; simp
    have HA0 := Lib.hid (Below.refl (w.heap.size + 2) W0)
    have EW := Lib.hid eW
    clear eW
    by_cases ho : x.op = y.op
    · have o1 : (x.op == y.op) = true := beq_iff_eq.2 ho
      have o2 : (x.op != y.op) = false := by simp [ho]
      have HO := Lib.hid ho
      clear ho
      go_enter Try.func42, Try.ntmps42
      go_wp2_with fail
      rw [← EW.out]
      refine (specElemSame_of x.e y.e _ _ B _ ⟨_, _, rfl, (HL.out.below (HV.out.mono hB) (Nat.le_refl _)).1, (HC.out.below (HV.out.mono hB) (Nat.le_refl _)).1⟩ ⟨_, _, rfl, (HL2.out.below (HV.out.mono hB) (Nat.le_refl _)).1, (HC2.out.below (HV.out.mono hB) (Nat.le_refl _)).1⟩ (by omega)).mono ?_
      rintro en w1 ⟨hen, hb1⟩
      have HA1 := Lib.hid (hb1.mono hz0)
      have hz1 : w.heap.size + 2 ≤ w1.heap.size := by have := hb1.size; omega
      clear hb1
      obtain ⟨a0, a1, a2, b0, b1, b2⟩ := HX.out _ HA1.out
      by_cases hel : x.e = y.e
      · rw [elEq_true hel] at hen
        subst hen
        have HEL := Lib.hid hel
        clear hel
        by_cases hlo : x.lo = y.lo
        · have q1 : (x.lo == y.lo) = true := beq_iff_eq.2 hlo
          have q1' : (x.lo != y.lo) = false := by simp [hlo]
          have HLO := Lib.hid hlo
          clear hlo
          by_cases hhi : x.hi = y.hi
          · have q2 : (x.hi == y.hi) = true := beq_iff_eq.2 hhi
            have q2' : (x.hi != y.hi) = false := by simp [hhi]
            have HHI := Lib.hid hhi
            clear hhi
            by_cases hll : x.ks.list.length = y.ks.list.length
            · have HLN := Lib.hid hll
              have l1 : ((x.ks.list.length : Int) == (y.ks.list.length : Int)) = true := by rw [beq_iff_eq]; omega
              have l2 : ((x.ks.list.length : Int) != (y.ks.list.length : Int)) = false := by simp [hll]
              have hl' : x.ks.list.length ≤ y.ks.list.length := by omega
              have hl'' : y.ks.list.length ≤ x.ks.list.length := by omega
              clear hll
              go_wp2_with fail
              go_loopw [5] (fun i wr => ∃ (m : Nat), m ≤ x.ks.list.length ∧ i = .int .i64 m ∧ RowKit.Hid (∀ (j : Nat) (h : j < x.ks.list.length) (h' : j < y.ks.list.length), j < m → x.ks.list[j] = y.ks.list[j]) ∧ RowKit.Hid (Below (w.heap.size + 2) W0 wr)) (fun i _ => x.ks.list.length - (intOf i).toNat)
              case atStart => exact ⟨0, Nat.zero_le _, rfl, Lib.hid (fun j _ _ h => by omega), HA1⟩
              case round =>
                clear a0 a1 a2 b0 b1 b2
                obtain ⟨m, hm, rfl, HEQ, HA⟩ := hrel
                have hz : w.heap.size + 2 ≤ wr.heap.size := by have := HA.out.size; omega
                obtain ⟨a0, _, _, b0, _, _⟩ := HX.out _ HA.out
                by_cases hlt : m < x.ks.list.length
                · have HB2 := Lib.hid (HV.out.trans (HA.out.mono (by omega)))
                  have hlt2 : m < y.ks.list.length := by omega
                  obtain ⟨b, off, rfl, hb, _, h13⟩ := (HK.out.below (HB2.out.mono hB) (Nat.le_refl _)).get m hlt
                  obtain ⟨s1, t1, s2, t2, s3, t3, c0, c1, c2, c3, c4, c5, c6, c7, c8, c9, c10, c11, c12, hat⟩ := h13.at
                  obtain ⟨b', off', rfl, hb', _, h13'⟩ := (HK2.out.below (HB2.out.mono hB) (Nat.le_refl _)).get m hlt2
                  obtain ⟨s1', t1', s2', t2', s3', t3', d0, d1, d2, d3, d4, d5, d6, d7, d8, d9, d10, d11, d12, hat'⟩ := h13'.at
                  have hsz := x.ks.size_get m hlt
                  have hih := IH.out x.ks.list[m].ks.size (by omega) x.ks.list[m] y.ks.list[m] (Nat.le_refl _)
                  have hne : x.ks.list[m] ≠ y.ks.list[m] → x ≠ y := by
                    rintro h rfl; exact h rfl
                  have hst : x.ks.list[m] = y.ks.list[m] → ∀ (j : Nat) (h : j < x.ks.list.length) (h' : j < y.ks.list.length), j < m + 1 → x.ks.list[j] = y.ks.list[j] := by
                    intro h j h1 h2 h3
                    by_cases hj : j = m
                    · subst hj; exact h
                    · exact HEQ.out j h1 h2 (by omega)
                  obtain ⟨u, eu⟩ : ∃ u, u = x.ks.list[m] := ⟨_, rfl⟩
                  obtain ⟨z, ez⟩ : ∃ z, z = y.ks.list[m] := ⟨_, rfl⟩
                  rw [← eu] at c0 c1 c2 c3 c4 c5 c6 c7 c8 c9 c10 c11 c12 hat hih hne hst
                  rw [← ez] at d0 d1 d2 d3 d4 d5 d6 d7 d8 d9 d10 d11 d12 hat' hih hne hst
                  have HAT := Lib.hid hat
                  have HAT' := Lib.hid hat'
                  have HI := Lib.hid hih
                  have HNE := Lib.hid hne
                  have HST := Lib.hid hst
                  clear eu ez hat hat' hih hne hst h13 h13'
                  simp only [Nat.add_zero] at c0 d0
                  go_wp2_with fail
                  go_still_tail 10, (by kernel_rfl)
                  go_wp2_with fail
                  refine (HI.out _ _ B _ (Pt.At.to HAT.out (Below.refl _ _).drew (Nat.le_refl _)) (Pt.At.to HAT'.out (Below.refl _ _).drew (Nat.le_refl _)) (by simp; omega)).mono ?_
                  rintro en w2 ⟨hen, hb2⟩
                  have HB3 := Lib.hid (HA.out.drew.trans (hb2.mono (by simp; omega)))
                  clear hb2
                  by_cases hxy : u = z
                  · rw [ptEq_true hxy] at hen
                    subst hen
                    have HS2 := Lib.hid (HST.out hxy)
                    clear hxy
                    go_wp2_with fail
                    go_roundw
                    case rel => exact ⟨m + 1, by omega, by go_num, HS2, HB3⟩
                    case measure => simp [intOf]; omega
                  · rw [ptEq_false hxy] at hen
                    subst hen
                    have HE := Lib.hid (ptEq_false (HNE.out hxy))
                    clear hxy
                    go_wp2_with fail
                    go_ret
                    exact ⟨by rw [HE.out]; rfl, HV.out.trans (HB3.out.mono (by omega))⟩
                · obtain rfl : m = x.ks.list.length := by omega
                  have HE := Lib.hid (ptEq_true (pt_ext HO.out HEL.out HLO.out HHI.out (List.ext_getElem HLN.out fun j h h' => HEQ.out j h h' h)))
                  go_wp2_with fail
                  go_ret
                  exact ⟨by rw [HE.out]; rfl, HV.out.trans (HA.out.mono (by omega))⟩
            · have HE := Lib.hid (ptEq_false (show x ≠ y by rintro rfl; exact hll rfl))
              have l1 : ((x.ks.list.length : Int) == (y.ks.list.length : Int)) = false := by rw [beq_eq_false_iff_ne]; omega
              have l2 : ((x.ks.list.length : Int) != (y.ks.list.length : Int)) = true := by rw [bne_iff_ne]; omega
              clear hll
              go_wp2_with fail
              go_ret
              exact ⟨by rw [HE.out]; rfl, HV.out.trans (HA1.out.mono (by omega))⟩
          · have HE := Lib.hid (ptEq_false (show x ≠ y by rintro rfl; exact hhi rfl))
            have q2 : (x.hi == y.hi) = false := beq_eq_false_iff_ne.2 hhi
            have q2' : (x.hi != y.hi) = true := by rw [bne_iff_ne]; exact hhi
            clear hhi
            go_wp2_with fail
            go_ret
            exact ⟨by rw [HE.out]; rfl, HV.out.trans (HA1.out.mono (by omega))⟩
        · have HE := Lib.hid (ptEq_false (show x ≠ y by rintro rfl; exact hlo rfl))
          have q1 : (x.lo == y.lo) = false := beq_eq_false_iff_ne.2 hlo
          have q1' : (x.lo != y.lo) = true := by rw [bne_iff_ne]; exact hlo
          clear hlo
          go_wp2_with fail
          go_ret
          exact ⟨by rw [HE.out]; rfl, HV.out.trans (HA1.out.mono (by omega))⟩
      · rw [elEq_false hel] at hen
        subst hen
        have HE := Lib.hid (ptEq_false (show x ≠ y by rintro rfl; exact hel rfl))
        clear hel
        go_wp2_with fail
        go_ret
        exact ⟨by rw [HE.out]; rfl, HV.out.trans (HA1.out.mono (by omega))⟩
    · have HE := Lib.hid (ptEq_false (show x ≠ y by rintro rfl; exact ho rfl))
      have o1 : (x.op == y.op) = false := beq_eq_false_iff_ne.2 ho
      have o2 : (x.op != y.op) = true := by rw [bne_iff_ne]; exact ho
      clear ho
      go_enter Try.func42, Try.ntmps42
      go_wp2_with fail
      go_ret
      exact ⟨by rw [HE.out]; rfl, by rw [← EW.out]; exact HV.out⟩
theorem specPatSame_any (x y : Pt) (v v' : Value) (B : Nat) (w : World) (hv : x.At B w v) (hv' : y.At B w v') (hB : B ≤ w.heap.size) :
    Calls Try.prog 42 #[v, v'] w fun en w' => en = .returned (.bool (ptEq x y)) ∧ Below w.heap.size w w' := samePtN x.ks.size x y (Nat.le_refl _) v v' B w hv hv' hB
end Go.Proofs.Ytggpnnoldjpmcaa
