/- FormatMatch: the model's side. -/
import Derived.Test.YthpclghhlodnhaaDoorFM
import Derived.Test.YthpclghhlodnhaaDoorWkF3
namespace Go.Proofs.YthpclghhlodnhaaDoor
open Go.RowKit

set_option maxRecDepth 100000 in
set_option maxHeartbeats 8000000 in
theorem specFormatMatch_any (m : Mt) (v : Value) (B : Nat) (w : World) (hx : m.At B w v) (hB : B ≤ w.heap.size) (hn : m.need ≤ 1048576) (hok : ∀ b ∈ m.bs, b.Ok) :
    Calls Tryd.prog 14 #[v] w fun e w' => e = .returned (.string (fmtM m)) ∧ Below w.heap.size w w' := by
  obtain ⟨va, vb, vc, rfl, ha, hb, hc⟩ := hx
  have HWK := Lib.hid (show m.w.At B w (.agg #[va, vb]) from ⟨va, vb, rfl, ha, hb⟩)
  have HNW := Lib.hid (show m.w.need ≤ 1048576 by have h5 : m.need = m.w.need + (m.bs.length + sumBn m.bs) := rfl; omega)
  have HSM := Lib.hid (fun k (hk : k < m.bs.length) => fmtM_small hn hok hk)
  have HOK := Lib.hid hok
  have hlen : m.bs.length ≤ 1048576 := by have h5 : m.need = m.w.need + (m.bs.length + sumBn m.bs) := rfl; omega
  obtain ⟨r, cr, rfl⟩ := hc.form
  have HR := Lib.hid hc
  have HE := Lib.hid (show fmtM m = bsT (fmtW m.w) m.bs m.bs.length from rfl)
  clear ha hb hc hn hok
  obtain ⟨W, eW⟩ : ∃ W, W = w.alloc (.cells #[va, vb, .slice r m.bs.length cr] 59) := ⟨_, rfl⟩
  have HV := Lib.hid (show Below w.heap.size w W by rw [eW]; exact (Below.refl _ _).alloc (Nat.le_refl _) _)
  have hs0 : w.heap.size + 1 ≤ W.heap.size := by rw [eW]; simp
  have HK := Lib.hid (show ∀ wk, Below (w.heap.size + 1) W wk → w.heap.size + 1 ≤ wk.heap.size ∧ wk.cell? ⟨w.heap.size, 0, none⟩ = some va ∧ wk.cell? ⟨w.heap.size, 1, none⟩ = some vb ∧ wk.cell? ⟨w.heap.size, 2, none⟩ = some (.slice r m.bs.length cr) from
    fun wk hk => by rw [eW] at hk; exact ⟨by have := hk.size; simp at this; omega, keepc hk (by omega) (by simp [go_sem]), keepc hk (by omega) (by simp [go_sem]), keepc hk (by omega) (by simp [go_sem])⟩)
  have HA := Lib.hid (Below.refl (w.heap.size + 1) W)
  have EW := Lib.hid eW
  clear eW
  go_enter Tryd.func14, Tryd.ntmps14
  go_wp2_with fail
  rw [← EW.out]
  obtain ⟨hz, a0, a1, a2⟩ := HK.out _ HA.out
  go_wp2_with fail
  with_reducible refine (specFormatWalk_any m.w _ B _ ((HWK.out.to (HV.out.mono hB) (Nat.le_refl _))) (by omega) HNW.out).mono ?_
  rintro e w1 ⟨rfl, hb1⟩
  have HA1 := Lib.hid (HA.out.trans (hb1.mono (by omega)))
  clear hb1 HA hz a0 a1 a2
  obtain ⟨T0, eT0⟩ : ∃ T0, T0 = fmtW m.w := ⟨_, rfl⟩
  rw [← eT0] at HSM HE ⊢
  clear eT0
  obtain ⟨hz, a0, a1, a2⟩ := HK.out _ HA1.out
  go_wp2_with fail
  go_loopw [3, 4] (fun t i wr => ∃ (k : Nat) (T : ByteArray), k ≤ m.bs.length ∧ i = .int .i64 k ∧ t = .string T ∧ RowKit.Hid (T = bsT T0 m.bs k) ∧ RowKit.Hid (Below (w.heap.size + 1) W wr)) (fun _ i _ => m.bs.length - (intOf i).toNat)
  case atStart => exact ⟨0, _, Nat.zero_le _, rfl, rfl, Lib.hid rfl, HA1⟩
  case round =>
    clear hz a0 a1 a2 HA1
    obtain ⟨k, T, hk, rfl, rfl, HTK, HA⟩ := hrel
    obtain ⟨wo, ewo⟩ : ∃ u, u = wr := ⟨_, rfl⟩
    subst ewo
    obtain ⟨hz, a0, a1, a2⟩ := HK.out _ HA.out
    by_cases hlt : k < m.bs.length
    · obtain ⟨b0, o0, q, cq, rfl, hb0, c0, c1, c2, hin⟩ := kBn_get (HR.out.to (HV.out.mono hB) (Nat.le_refl _)) hlt
      have hsm := HSM.out k hlt
      have HXK := Lib.hid (HOK.out _ (List.getElem_mem hlt))
      have HN := Lib.hid (bsT_succ T0 m.bs hlt)
      rw [← HTK.out] at hsm HN
      obtain ⟨x, ex⟩ : ∃ x, x = m.bs[k] := ⟨_, rfl⟩
      rw [← ex] at c0 c1 c2 hin hsm HXK HN
      clear ex HTK
      have HC := Lib.hid (fun (E : World) (hE : Below (w.heap.size + 1) W E) => And.intro (keepc (b := b0) (o := o0 + k * 3) hE (by omega) c0) (And.intro (keepc (b := b0) (o := o0 + k * 3 + 1) hE (by omega) c1) (keepc (b := b0) (o := o0 + k * 3 + 2) hE (by omega) c2)))
      have HIN := Lib.hid (fun (E : World) (hE : Below (w.heap.size + 1) W E) => hin.below (hE.mono (by omega)))
      have hmi := hin.max
      unfold maxLen at hmi
      clear c0 c1 c2 hin
      obtain ⟨d0, d1, d2⟩ := HC.out _ HA.out
      have n1 : (9223372036854775807 < T.size + 1) = False := eq_false (by omega)
      have n2 : (9223372036854775807 < T.size + 1 + x.v.size) = False := eq_false (by omega)
      have n3 : (9223372036854775807 < T.size + 1 + x.v.size + 1) = False := eq_false (by omega)
      have HH := Lib.hid (show T ++ (⟨#[32]⟩ : ByteArray) ++ x.v ++ (⟨#[61]⟩ : ByteArray) = bnH T x from rfl)
      have HHS := Lib.hid (bnH_size T x)
      go_wp2_with fail
      go_loopw [3, 5] (fun t i wv => ∃ (j : Nat) (U : ByteArray), j ≤ x.ids.length ∧ i = .int .i64 j ∧ t = .string U ∧ RowKit.Hid (U = idsT (bnH T x) x.ids j) ∧ RowKit.Hid (Below (w.heap.size + 1) W wv)) (fun _ i _ => x.ids.length - (intOf i).toNat)
      case atStart => exact ⟨0, _, Nat.zero_le _, rfl, rfl, HH, HA⟩
      case round =>
        clear hz a0 a1 a2 d0 d1 d2 HA n1 n2 n3
        obtain ⟨j, U, hj, rfl, rfl, HU, HA⟩ := hrel
        obtain ⟨hz, a0, a1, a2⟩ := HK.out _ HA.out
        obtain ⟨d0, d1, d2⟩ := HC.out _ HA.out
        have hus : U.size ≤ T.size + x.v.size + 2 + 22 * j := by
          have h8 := idsT_size (T0 := bnH T x) HXK.out.2 j hj
          have h9 := HHS.out
          rw [← HU.out] at h8
          omega
        by_cases hjl : j < x.ids.length
        · obtain ⟨b1, o1, rfl, hb1, e0⟩ := (HIN.out _ HA.out).it hjl
          have hI := HXK.out.2 _ (List.getElem_mem hjl)
          have HM := Lib.hid (idsT_succ (bnH T x) x.ids hjl)
          rw [← HU.out] at HM
          obtain ⟨y, ey⟩ : ∃ y, y = x.ids[j] := ⟨_, rfl⟩
          rw [← ey] at e0 hI HM
          clear ey HU
          obtain ⟨TE, eTE⟩ : ∃ t, t = dec y := ⟨_, rfl⟩
          have hTE : TE.size ≤ 21 := by rw [eTE]; exact decA_size hI.1 hI.2
          rw [← eTE] at HM
          have CE := Lib.hid (fun (E : World) (hE : Below (w.heap.size + 1) W E) => show Calls Tryd.prog 37 #[.int .i64 y] E (fun en w' => en = .returned (.string TE) ∧ Below (w.heap.size + 1) W w') from
            (l14DecA_any y E hI.1 hI.2).mono fun en w' ⟨he, hb⟩ => ⟨by rw [he, eTE], hE.trans (hb.mono (by have := hE.size; omega))⟩)
          clear eTE hI
          by_cases hj0 : 0 < j
          · have HC2 := Lib.hid (show U ++ (⟨#[44]⟩ : ByteArray) ++ TE = idsT (bnH T x) x.ids (j + 1) by rw [HM.out]; unfold commaT; rw [if_pos hj0])
            have n1 : (9223372036854775807 < U.size + 1) = False := eq_false (by omega)
            have n2 : (9223372036854775807 < U.size + 1 + TE.size) = False := eq_false (by omega)
            go_wp2_with fail
            with_reducible refine (CE.out _ HA.out).mono ?_
            rintro e w3 ⟨rfl, hk3⟩
            go_wp2_with fail
            go_roundw
            case rel => exact ⟨j + 1, _, by omega, by go_num, rfl, HC2, Lib.hid hk3⟩
            case measure => simp [intOf]; omega
          · have HC2 := Lib.hid (show U ++ TE = idsT (bnH T x) x.ids (j + 1) by rw [HM.out]; unfold commaT; rw [if_neg hj0])
            have n2 : (9223372036854775807 < U.size + TE.size) = False := eq_false (by omega)
            go_wp2_with fail
            with_reducible refine (CE.out _ HA.out).mono ?_
            rintro e w3 ⟨rfl, hk3⟩
            go_wp2_with fail
            go_roundw
            case rel => exact ⟨j + 1, _, by omega, by go_num, rfl, HC2, Lib.hid hk3⟩
            case measure => simp [intOf]; omega
        · obtain rfl : j = x.ids.length := by omega
          have HU2 := Lib.hid (show U = bnI T x from HU.out)
          cases hg : x.g with
          | true =>
            rw [hg] at d2
            have HC2 := Lib.hid (show U ++ (⟨#[59]⟩ : ByteArray) = bsT T0 m.bs (k + 1) by rw [HN.out]; unfold bnT; rw [hg, HU2.out]; rfl)
            have n2 : (9223372036854775807 < U.size + 1) = False := eq_false (by omega)
            clear hg
            go_wp2_with fail
            go_roundw
            case rel => exact ⟨k + 1, _, by omega, by go_num, rfl, HC2, HA⟩
            case measure => simp [intOf]; omega
          | false =>
            rw [hg] at d2
            have HC2 := Lib.hid (show U = bsT T0 m.bs (k + 1) by rw [HN.out]; unfold bnT; rw [hg, HU2.out]; rfl)
            clear hg
            go_wp2_with fail
            go_roundw
            case rel => exact ⟨k + 1, _, by omega, by go_num, rfl, HC2, HA⟩
            case measure => simp [intOf]; omega
    · obtain rfl : k = m.bs.length := by omega
      go_wp2_with fail
      go_ret
      exact ⟨by rw [HE.out, ← HTK.out]; rfl, HV.out.trans (HA.out.mono (by omega))⟩
end Go.Proofs.YthpclghhlodnhaaDoor
