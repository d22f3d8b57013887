/- spec.ExprSame. -/
import Derived.Test.YtggpnnoldjpmcaaExL
import Derived.StillTailTactics
namespace Go.Proofs.Ytggpnnoldjpmcaa
open Go.RowKit

theorem ex_ext {e f : Ex} (h1 : e.op = f.op) (h2 : e.a = f.a) (h3 : e.ks.list = f.ks.list) : e = f := by
  obtain ⟨o, a, k⟩ := e
  obtain ⟨o', a', k'⟩ := f
  simp only at h1 h2 h3
  rw [h1, h2, ← Fo.of_list k, ← Fo.of_list k', h3]
theorem str_eq_b {a b : ByteArray} (h : a = b) : (a.toList == b.toList) = true ∧ (a.toList != b.toList) = false := by subst h; simp
theorem str_ne_b {a b : ByteArray} (h : a ≠ b) : (a.toList == b.toList) = false ∧ (a.toList != b.toList) = true := by
  have : a.toList ≠ b.toList := fun e => h (bytes_ext e)
  simp [this]
def SameEx (e f : Ex) : Prop := ∀ (k k' : Value) (B : Nat) (w : World), e.ks.In B w k → f.ks.In B w k' → B ≤ w.heap.size →
  Calls Try.prog 116 #[.agg #[.int .i64 e.op, .string e.a, k], .agg #[.int .i64 f.op, .string f.a, k']] w fun en w' => en = .returned (.bool (exEq e f)) ∧ Below w.heap.size w w'

set_option maxRecDepth 100000 in
set_option maxHeartbeats 4000000 in
theorem sameExN (n : Nat) : ∀ e f : Ex, e.ks.size ≤ n → SameEx e f := by
  induction n using Nat.strongRecOn with
  | _ n ih =>
    intro e f hn k k' B w hk hk' hB
    have IH := Lib.hid ih
    clear ih
    obtain ⟨p, cap, rfl⟩ := hk.form
    obtain ⟨q, caq, rfl⟩ := hk'.form
    obtain ⟨_, hm1, hm2⟩ := hk.max
    obtain ⟨_, hn1, hn2⟩ := hk'.max
    unfold maxLen at hm2 hn2
    have HK := Lib.hid hk
    have HK' := Lib.hid hk'
    clear hk hk'
    obtain ⟨W0, eW⟩ : ∃ W0, W0 = (w.alloc (.cells #[.int .i64 e.op, .string e.a, .slice p e.ks.list.length cap] 74)).alloc (.cells #[.int .i64 f.op, .string f.a, .slice q f.ks.list.length caq] 74) := ⟨_, rfl⟩
    have HV := Lib.hid (show Below w.heap.size w W0 by rw [eW]; exact ((Below.refl w.heap.size w).alloc (by simp) _).alloc (by simp) _)
    have HC := Lib.hid (show ∀ wk, Below (w.heap.size + 2) W0 wk → w.heap.size + 2 ≤ wk.heap.size ∧ wk.cell? ⟨w.heap.size, 2, none⟩ = some (.slice p e.ks.list.length cap) ∧ wk.cell? ⟨w.heap.size + 1, 2, none⟩ = some (.slice q f.ks.list.length caq) from
      fun wk hk => by rw [eW] at hk; exact ⟨by have := hk.size; simp at this; omega, keepc hk (by omega) (by simp [go_sem]), keepc hk (by omega) (by simp [go_sem])⟩)
    have hz0 : w.heap.size + 2 ≤ W0.heap.size := by rw [eW]; simp
    have HA0 := Lib.hid (Below.refl (w.heap.size + 2) W0)
    have EW := Lib.hid eW
    clear eW
    by_cases ho : e.op = f.op
    · have o1 : (e.op == f.op) = true := beq_iff_eq.2 ho
      have o2 : (e.op != f.op) = false := by simp [ho]
      have HO := Lib.hid ho
      clear ho
      by_cases ha : e.a = f.a
      · obtain ⟨a1, a2⟩ := str_eq_b ha
        have HAE := Lib.hid ha
        clear ha
        by_cases hl : e.ks.list.length = f.ks.list.length
        · have HL := Lib.hid hl
          have l1 : ((e.ks.list.length : Int) == (f.ks.list.length : Int)) = true := by rw [beq_iff_eq]; omega
          have l2 : ((e.ks.list.length : Int) != (f.ks.list.length : Int)) = false := by simp [hl]
          have hl' : e.ks.list.length ≤ f.ks.list.length := by omega
          have hl'' : f.ks.list.length ≤ e.ks.list.length := by omega
          clear hl
          go_enter Try.func116, Try.ntmps116
          go_wp2_with fail
          rw [← EW.out]
          go_loopw [5] (fun i wr => ∃ (m : Nat), m ≤ e.ks.list.length ∧ i = .int .i64 m ∧ RowKit.Hid (∀ (j : Nat) (h : j < e.ks.list.length) (h' : j < f.ks.list.length), j < m → e.ks.list[j] = f.ks.list[j]) ∧ RowKit.Hid (Below (w.heap.size + 2) W0 wr)) (fun i _ => e.ks.list.length - (intOf i).toNat)
          case atStart => exact ⟨0, Nat.zero_le _, rfl, Lib.hid (fun j _ _ h => by omega), HA0⟩
          case round =>
            obtain ⟨m, hm, rfl, HEQ, HA⟩ := hrel
            obtain ⟨hz, c0, c1⟩ := HC.out _ HA.out
            by_cases hlt : m < e.ks.list.length
            · have HB2 := Lib.hid (HV.out.trans (HA.out.mono (by omega)))
              have hlt2 : m < f.ks.list.length := by omega
              obtain ⟨b, off, r, l, cc, rfl, hb, d0, d1, d2, hin⟩ := (HK.out.below (HB2.out.mono hB) (Nat.le_refl _)).get m hlt
              obtain ⟨b', off', r', l', cc', rfl, hb', d0', d1', d2', hin'⟩ := (HK'.out.below (HB2.out.mono hB) (Nat.le_refl _)).get m hlt2
              have hsz := e.ks.size_get m hlt
              have hih := IH.out e.ks.list[m].ks.size (by omega) e.ks.list[m] f.ks.list[m] (Nat.le_refl _)
              have hne : e.ks.list[m] ≠ f.ks.list[m] → e ≠ f := by
                rintro h rfl; exact h rfl
              have hst : e.ks.list[m] = f.ks.list[m] → ∀ (j : Nat) (h : j < e.ks.list.length) (h' : j < f.ks.list.length), j < m + 1 → e.ks.list[j] = f.ks.list[j] := by
                intro h j h1 h2 h3
                by_cases hj : j = m
                · subst hj; exact h
                · exact HEQ.out j h1 h2 (by omega)
              obtain ⟨x, ex⟩ : ∃ x, x = e.ks.list[m] := ⟨_, rfl⟩
              obtain ⟨y, ey⟩ : ∃ y, y = f.ks.list[m] := ⟨_, rfl⟩
              rw [← ex] at d0 d1 hin hih hne hst
              rw [← ey] at d0' d1' hin' hih hne hst
              have HIN := Lib.hid hin
              have HIN' := Lib.hid hin'
              have HI := Lib.hid hih
              have HNE := Lib.hid hne
              have HST := Lib.hid hst
              clear ex ey hin hin' hih hne hst
              go_wp2_with fail
              go_still_tail 10, (by kernel_rfl)
              go_wp2_with fail
              refine (HI.out _ _ B _ (HIN.out.below (Below.refl _ _).drew (Nat.le_refl _)) (HIN'.out.below (Below.refl _ _).drew (Nat.le_refl _)) (by simp; omega)).mono ?_
              rintro en w1 ⟨hen, hb1⟩
              have HB1 := Lib.hid (HA.out.drew.trans (hb1.mono (by simp; omega)))
              clear hb1
              by_cases hxy : x = y
              · rw [exEq_true hxy] at hen
                subst hen
                have HS2 := Lib.hid (HST.out hxy)
                clear hxy
                go_wp2_with fail
                go_roundw
                case rel => exact ⟨m + 1, by omega, by go_num, HS2, HB1⟩
                case measure => simp [intOf]; omega
              · rw [exEq_false hxy] at hen
                subst hen
                have HE := Lib.hid (exEq_false (HNE.out hxy))
                clear hxy
                go_wp2_with fail
                go_ret
                exact ⟨by rw [HE.out]; rfl, HV.out.trans (HB1.out.mono (by omega))⟩
            · obtain rfl : m = e.ks.list.length := by omega
              have HE := Lib.hid (exEq_true (ex_ext HO.out HAE.out (List.ext_getElem HL.out fun j h h' => HEQ.out j h h' h)))
              go_wp2_with fail
              go_ret
              exact ⟨by rw [HE.out]; rfl, HV.out.trans (HA.out.mono (by omega))⟩
        · have HE := Lib.hid (exEq_false (show e ≠ f by rintro rfl; exact hl rfl))
          have l1 : ((e.ks.list.length : Int) == (f.ks.list.length : Int)) = false := by rw [beq_eq_false_iff_ne]; omega
          have l2 : ((e.ks.list.length : Int) != (f.ks.list.length : Int)) = true := by rw [bne_iff_ne]; omega
          clear hl
          go_enter Try.func116, Try.ntmps116
          go_wp2_with fail
          go_ret
          exact ⟨by rw [HE.out]; rfl, by rw [← EW.out]; exact HV.out⟩
      · have HE := Lib.hid (exEq_false (show e ≠ f by rintro rfl; exact ha rfl))
        obtain ⟨a1, a2⟩ := str_ne_b ha
        clear ha
        go_enter Try.func116, Try.ntmps116
        go_wp2_with fail
        go_ret
        exact ⟨by rw [HE.out]; rfl, by rw [← EW.out]; exact HV.out⟩
    · have HE := Lib.hid (exEq_false (show e ≠ f by rintro rfl; exact ho rfl))
      have o1 : (e.op == f.op) = false := beq_eq_false_iff_ne.2 ho
      have o2 : (e.op != f.op) = true := by rw [bne_iff_ne]; exact ho
      clear ho
      go_enter Try.func116, Try.ntmps116
      go_wp2_with fail
      go_ret
      exact ⟨by rw [HE.out]; rfl, by rw [← EW.out]; exact HV.out⟩
theorem specExprSame_any (e f : Ex) (v u : Value) (B : Nat) (w : World) (hv : e.At B w v) (hu : f.At B w u) (hB : B ≤ w.heap.size) :
    Calls Try.prog 116 #[v, u] w fun en w' => en = .returned (.bool (exEq e f)) ∧ Below w.heap.size w w' := by
  obtain ⟨k, rfl, hk⟩ := hv
  obtain ⟨k', rfl, hk'⟩ := hu
  exact sameExN e.ks.size e f (Nat.le_refl _) k k' B w hk hk' hB
end Go.Proofs.Ytggpnnoldjpmcaa
