/- spec.ElemSame -/
import Derived.Test.YtggpnnoldjpmcaaElSameP
namespace Go.Proofs.Ytggpnnoldjpmcaa
open Go.RowKit

set_option maxRecDepth 100000 in
set_option maxHeartbeats 4000000 in
theorem specElemSame_of (e f : El) (u u' : Value) (B : Nat) (w : World) (hu : e.At B w u) (hu' : f.At B w u') (hB : B ≤ w.heap.size) :
    Calls Try.prog 88 #[u, u'] w fun en w' => en = .returned (.bool (elEq e f)) ∧ Below w.heap.size w w' := by
  obtain ⟨k1, k2, rfl, h1, h2⟩ := hu
  obtain ⟨k3, k4, rfl, h3, h4⟩ := hu'
  obtain ⟨n, v, l, c, d⟩ := e
  obtain ⟨n', v', l', c', d'⟩ := f
  simp only at h1 h2 h3 h4 ⊢
  obtain ⟨p, pc, rfl⟩ := h1.form
  obtain ⟨q, qc, rfl⟩ := h2.form
  obtain ⟨p', pc', rfl⟩ := h3.form
  obtain ⟨q', qc', rfl⟩ := h4.form
  have H1 := Lib.hid h1
  have H2 := Lib.hid h2
  have H3 := Lib.hid h3
  have H4 := Lib.hid h4
  clear h1 h2 h3 h4
  obtain ⟨W0, eW⟩ : ∃ W0, W0 = (w.alloc (.cells #[.bool n, .string v, .int .i64 l.op, .string l.a, .slice p l.ks.list.length pc, .int .i64 c.op, .string c.a, .slice q c.ks.list.length qc, .int .i64 d] 76)).alloc (.cells #[.bool n', .string v', .int .i64 l'.op, .string l'.a, .slice p' l'.ks.list.length pc', .int .i64 c'.op, .string c'.a, .slice q' c'.ks.list.length qc', .int .i64 d'] 76) := ⟨_, rfl⟩
  have HV := Lib.hid (show Below w.heap.size w W0 by rw [eW]; exact ((Below.refl w.heap.size w).alloc (by simp) _).alloc (by simp) _)
  have hz0 : w.heap.size + 2 ≤ W0.heap.size := by rw [eW]; simp
  have HC := Lib.hid (show ∀ wk, Below (w.heap.size + 2) W0 wk → wk.cell? ⟨w.heap.size, 5, none⟩ = some (.int .i64 c.op) ∧ wk.cell? ⟨w.heap.size, 6, none⟩ = some (.string c.a) ∧ wk.cell? ⟨w.heap.size, 7, none⟩ = some (.slice q c.ks.list.length qc) ∧ wk.cell? ⟨w.heap.size + 1, 5, none⟩ = some (.int .i64 c'.op) ∧ wk.cell? ⟨w.heap.size + 1, 6, none⟩ = some (.string c'.a) ∧ wk.cell? ⟨w.heap.size + 1, 7, none⟩ = some (.slice q' c'.ks.list.length qc') from
    fun wk hk => by rw [eW] at hk; exact ⟨keepc hk (by omega) (by simp [go_sem]), keepc hk (by omega) (by simp [go_sem]), keepc hk (by omega) (by simp [go_sem]), keepc hk (by omega) (by simp [go_sem]), keepc hk (by omega) (by simp [go_sem]), keepc hk (by omega) (by simp [go_sem])⟩)
  have EW := Lib.hid eW
  clear eW
  by_cases hd : d = d'
  · subst hd
    by_cases hv : v = v'
    · subst hv
      by_cases hn : n = n'
      · subst hn
        by_cases hl : l = l'
        · have HL := Lib.hid hl
          clear hl
          go_enter Try.func88, Try.ntmps88
          go_wp2_with fail
          rw [← EW.out]
          refine (sameExN l.ks.size l l' (Nat.le_refl _) _ _ B _ (H1.out.below (HV.out.mono hB) (Nat.le_refl _)) (H3.out.below (HV.out.mono hB) (Nat.le_refl _)) (by omega)).mono ?_
          rintro en w1 ⟨hen, hb1⟩
          rw [exEq_true HL.out] at hen
          subst hen
          obtain ⟨c5, c6, c7, y5, y6, y7⟩ := HC.out _ (hb1.mono hz0)
          have HB1 := Lib.hid (HV.out.trans (hb1.mono (by omega)))
          have hz1 : w.heap.size + 2 ≤ w1.heap.size := by have := hb1.size; omega
          clear hb1
          by_cases hc : c = c'
          · have HCC := Lib.hid hc
            have HE := Lib.hid (elEq_true (show (⟨n, v, l, c, d⟩ : El) = ⟨n, v, l', c', d⟩ by rw [HL.out, hc]))
            clear hc
            go_wp2_with fail
            refine (sameExN c.ks.size c c' (Nat.le_refl _) _ _ B _ (H2.out.below (HB1.out.mono hB) (Nat.le_refl _)) (H4.out.below (HB1.out.mono hB) (Nat.le_refl _)) (by omega)).mono ?_
            rintro en w2 ⟨hen, hb2⟩
            rw [exEq_true HCC.out] at hen
            subst hen
            have HB2 := Lib.hid (HB1.out.trans (hb2.mono (by omega)))
            clear hb2
            go_wp2_with fail
            go_ret
            exact ⟨by rw [HE.out]; rfl, HB2.out⟩
          · have HCC := Lib.hid hc
            have HE := Lib.hid (elEq_false (show (⟨n, v, l, c, d⟩ : El) ≠ ⟨n, v, l', c', d⟩ by intro h; exact HCC.out (congrArg El.c h)))
            clear hc
            go_wp2_with fail
            refine (sameExN c.ks.size c c' (Nat.le_refl _) _ _ B _ (H2.out.below (HB1.out.mono hB) (Nat.le_refl _)) (H4.out.below (HB1.out.mono hB) (Nat.le_refl _)) (by omega)).mono ?_
            rintro en w2 ⟨hen, hb2⟩
            rw [exEq_false HCC.out] at hen
            subst hen
            have HB2 := Lib.hid (HB1.out.trans (hb2.mono (by omega)))
            clear hb2
            go_wp2_with fail
            go_ret
            exact ⟨by rw [HE.out]; rfl, HB2.out⟩
        · have HL := Lib.hid hl
          have HE := Lib.hid (elEq_false (show (⟨n, v, l, c, d⟩ : El) ≠ ⟨n, v, l', c', d⟩ by intro h; exact HL.out (congrArg El.l h)))
          clear hl
          go_enter Try.func88, Try.ntmps88
          go_wp2_with fail
          rw [← EW.out]
          refine (sameExN l.ks.size l l' (Nat.le_refl _) _ _ B _ (H1.out.below (HV.out.mono hB) (Nat.le_refl _)) (H3.out.below (HV.out.mono hB) (Nat.le_refl _)) (by omega)).mono ?_
          rintro en w1 ⟨hen, hb1⟩
          rw [exEq_false HL.out] at hen
          subst hen
          have HB1 := Lib.hid (HV.out.trans (hb1.mono (by omega)))
          clear hb1
          go_wp2_with fail
          go_ret
          exact ⟨by rw [HE.out]; rfl, HB1.out⟩
      · have HE := Lib.hid (elEq_false (show (⟨n, v, l, c, d⟩ : El) ≠ ⟨n', v, l', c', d⟩ by intro h; exact hn (congrArg El.n h)))
        have hnn : (n == n') = false := beq_eq_false_iff_ne.2 hn
        clear hn
        go_enter Try.func88, Try.ntmps88
        go_wp2_with fail
        go_ret
        exact ⟨by rw [HE.out]; rfl, by rw [← EW.out]; exact HV.out⟩
    · have HE := Lib.hid (elEq_false (show (⟨n, v, l, c, d⟩ : El) ≠ ⟨n', v', l', c', d⟩ by intro h; exact hv (congrArg El.v h)))
      obtain ⟨a1, a2⟩ := str_ne_b hv
      clear hv
      by_cases hn : n = n'
      · subst hn
        go_enter Try.func88, Try.ntmps88
        go_wp2_with fail
        go_ret
        exact ⟨by rw [HE.out]; rfl, by rw [← EW.out]; exact HV.out⟩
      · have hnn : (n == n') = false := beq_eq_false_iff_ne.2 hn
        clear hn
        go_enter Try.func88, Try.ntmps88
        go_wp2_with fail
        go_ret
        exact ⟨by rw [HE.out]; rfl, by rw [← EW.out]; exact HV.out⟩
  · have HE := Lib.hid (elEq_false (show (⟨n, v, l, c, d⟩ : El) ≠ ⟨n', v', l', c', d'⟩ by intro h; exact hd (congrArg El.d h)))
    have d1 : (d == d') = false := beq_eq_false_iff_ne.2 hd
    clear hd
    by_cases hn : n = n'
    · subst hn
      by_cases hv : v = v'
      · subst hv
        go_enter Try.func88, Try.ntmps88
        go_wp2_with fail
        go_ret
        exact ⟨by rw [HE.out]; rfl, by rw [← EW.out]; exact HV.out⟩
      · obtain ⟨a1, a2⟩ := str_ne_b hv
        clear hv
        go_enter Try.func88, Try.ntmps88
        go_wp2_with fail
        go_ret
        exact ⟨by rw [HE.out]; rfl, by rw [← EW.out]; exact HV.out⟩
    · have hnn : (n == n') = false := beq_eq_false_iff_ne.2 hn
      clear hn
      go_enter Try.func88, Try.ntmps88
      go_wp2_with fail
      go_ret
      exact ⟨by rw [HE.out]; rfl, by rw [← EW.out]; exact HV.out⟩
theorem specElemSame_any (e f : El) (u u' : Value) (B : Nat) (w : World) (hu : e.At B w u) (hu' : f.At B w u') (hB : B ≤ w.heap.size) :
    Calls Try.prog 88 #[u, u'] w fun en w' => en = .returned (.bool (elEq e f)) ∧ Below w.heap.size w w' := specElemSame_of e f u u' B w hu hu' hB
end Go.Proofs.Ytggpnnoldjpmcaa
