/- FormatMatch: the program's side. -/
import Derived.Test.YthpclghhlodnhaaDoorFM
import Derived.Test.YthpclghhlodnhaaDoorFG
import Derived.Test.YthpclghhlodnhaaDoorWkF2
import Derived.Test.YthpclghhlodnhaaDoorBldK
namespace Go.Proofs.YthpclghhlodnhaaDoor
open Go.RowKit

theorem ba_app (a b c : ByteArray) : a ++ (b ++ c) = a ++ b ++ c := by simp [ByteArray.append_assoc]

set_option maxRecDepth 100000 in
set_option maxHeartbeats 8000000 in
theorem formatMatch_any (m : Mt) (v : Value) (B : Nat) (w : World) (hx : m.At B w v) (hB : B ≤ w.heap.size) (hn : m.need ≤ 1048576) (hok : ∀ b ∈ m.bs, b.Ok) (hV : VarsI w) :
    Calls Tryd.prog 16 #[v] w fun e w' => e = .returned (.string (fmtM m)) ∧ Below w.heap.size w w' := by
  obtain ⟨va, vb, vc, rfl, ha, hb, hc⟩ := hx
  have HWK := Lib.hid (show m.w.At B w (.agg #[va, vb]) from ⟨va, vb, rfl, ha, hb⟩)
  have HNW := Lib.hid (show m.w.need ≤ 1048576 by have h5 : m.need = m.w.need + (m.bs.length + sumBn m.bs) := rfl; omega)
  have HSM := Lib.hid (fun k (hk : k < m.bs.length) => fmtM_small hn hok hk)
  have HOK := Lib.hid hok
  have HVI := Lib.hid hV
  have hlen : m.bs.length ≤ 1048576 := by have h5 : m.need = m.w.need + (m.bs.length + sumBn m.bs) := rfl; omega
  obtain ⟨r, cr, rfl⟩ := hc.form
  have HR := Lib.hid hc
  have HE := Lib.hid (show fmtM m = bsT (fmtW m.w) m.bs m.bs.length from rfl)
  have HT0 := Lib.hid (fmtW_le m.w)
  clear ha hb hc hn hok hV
  obtain ⟨W, eW⟩ : ∃ W, W = w.alloc (.cells #[va, vb, .slice r m.bs.length cr] 59) := ⟨_, rfl⟩
  have HV := Lib.hid (show Below w.heap.size w W by rw [eW]; exact (Below.refl _ _).alloc (Nat.le_refl _) _)
  obtain ⟨hs0, hs1⟩ : w.heap.size + 1 ≤ W.heap.size ∧ W.heap.size ≤ w.heap.size + 1 := by rw [eW]; constructor <;> simp
  have HK := Lib.hid (show ∀ wk, Below (w.heap.size + 1) W wk → w.heap.size + 1 ≤ wk.heap.size ∧ wk.cell? ⟨w.heap.size, 0, none⟩ = some va ∧ wk.cell? ⟨w.heap.size, 1, none⟩ = some vb ∧ wk.cell? ⟨w.heap.size, 2, none⟩ = some (.slice r m.bs.length cr) from
    fun wk hk => by rw [eW] at hk; exact ⟨by have := hk.size; simp at this; omega, keepc hk (by omega) (by simp [go_sem]), keepc hk (by omega) (by simp [go_sem]), keepc hk (by omega) (by simp [go_sem])⟩)
  have HVA := Lib.hid (show ∀ wk, Below (w.heap.size + 1) W wk → VarsI wk from fun wk hk => HVI.out.below (HV.out.trans (hk.mono (by omega))))
  have HB0 := Lib.hid (show Bld W.heap.size W.heap.size [] (W.alloc (.cells #[.pointer none, .slice none 0 0] 90)) from Bld.new W)
  obtain ⟨W2, eW2⟩ : ∃ u, u = W.alloc (.cells #[.pointer none, .slice none 0 0] 90) := ⟨_, rfl⟩
  rw [← eW2] at HB0
  have HA2 := Lib.hid (show Below (w.heap.size + 1) W W2 by rw [eW2]; exact (Below.refl _ _).alloc (by omega) _)
  have hs2 : W.heap.size + 1 ≤ W2.heap.size := by rw [eW2]; simp
  have EW := Lib.hid eW
  have EW2 := Lib.hid eW2
  clear eW eW2
  go_enter Tryd.func16, Tryd.ntmps16
  obtain ⟨hz, a0, a1, a2⟩ := HK.out _ HA2.out
  go_upto_region 1 with fail
  rw [← EW.out]
  go_upto_region 2 with fail
  rw [← EW2.out]
  go_wp2_with fail
  with_reducible refine (formatWalk_any m.w _ B _ ((HWK.out.to ((HV.out.mono hB).trans (HA2.out.mono (by omega))) (Nat.le_refl _))) (by omega) HNW.out (HVA.out _ HA2.out)).mono ?_
  rintro e w1 ⟨rfl, hb1⟩
  have hs3 := hb1.size
  have HA3 := Lib.hid (HA2.out.trans (hb1.mono (by omega)))
  have HB1 := Lib.hid (HB0.out.below hb1)
  clear hb1 HA2 HB0 hz a0 a1 a2
  obtain ⟨T0, eT0⟩ : ∃ T0, T0 = fmtW m.w := ⟨_, rfl⟩
  rw [← eT0] at HSM HE HT0 ⊢
  clear eT0
  obtain ⟨hz, a0, a1, a2⟩ := HK.out _ HA3.out
  go_wp2_with fail
  refine (writeString_keep W.heap.size W.heap.size _ _ _ HB1.out (by have := HT0.out; simp; omega) (by omega)).mono ?_
  rintro e w2 ⟨⟨kk, rfl⟩, hbl, hb2, _⟩
  have hs4 := hb2.size
  have HA4 := Lib.hid (HA3.out.trans (hb2.mono (by omega)))
  have HB2 := Lib.hid (show Bld W.heap.size W.heap.size (Lib.strCells T0) w2 by simpa using hbl)
  have hs5 : W.heap.size + 1 ≤ w2.heap.size := by omega
  clear hb2 hbl HA3 HB1 hz a0 a1 a2 hs4 hs3 hs2
  obtain ⟨hz, a0, a1, a2⟩ := HK.out _ HA4.out
  go_wp2_with fail
  go_loopw [15] (fun i wr => ∃ (k : Nat), k ≤ m.bs.length ∧ i = .int .i64 k ∧ RowKit.Hid (Bld W.heap.size W.heap.size (Lib.strCells (bsT T0 m.bs k)) wr) ∧ RowKit.Hid (Below (w.heap.size + 1) W wr) ∧ W.heap.size + 1 ≤ wr.heap.size) (fun i _ => m.bs.length - (intOf i).toNat)
  case atStart => exact ⟨0, Nat.zero_le _, rfl, HB2, HA4, hs5⟩
  case round =>
    clear hz a0 a1 a2 HA4 HB2 hs5
    obtain ⟨k, hk, rfl, HBK, HA, hs2⟩ := hrel
    obtain ⟨wo, ewo⟩ : ∃ u, u = wr := ⟨_, rfl⟩
    subst ewo
    obtain ⟨hz, a0, a1, a2⟩ := HK.out _ HA.out
    by_cases hlt : k < m.bs.length
    · obtain ⟨b0, o0, q, cq, rfl, hb0, c0, c1, c2, hin⟩ := kBn_get (HR.out.to (HV.out.mono hB) (Nat.le_refl _)) hlt
      have hsm := HSM.out k hlt
      have HXK := Lib.hid (HOK.out _ (List.getElem_mem hlt))
      have HN := Lib.hid (bsT_succ T0 m.bs hlt)
      obtain ⟨x, ex⟩ : ∃ x, x = m.bs[k] := ⟨_, rfl⟩
      rw [← ex] at c0 c1 c2 hin hsm HXK HN
      clear ex
      obtain ⟨T, eT⟩ : ∃ T, T = bsT T0 m.bs k := ⟨_, rfl⟩
      rw [← eT] at HBK HN hsm
      clear eT
      have HIN := Lib.hid (fun (E : World) (hE : Below (w.heap.size + 1) W E) => hin.below (hE.mono (by omega)))
      have hmi := hin.max
      unfold maxLen at hmi
      have d0 := keepc (b := b0) (o := o0 + k * 3) HA.out (by omega) c0
      have d1 := keepc (b := b0) (o := o0 + k * 3 + 1) HA.out (by omega) c1
      have d2 := keepc (b := b0) (o := o0 + k * 3 + 2) HA.out (by omega) c2
      clear c0 c1 c2 hin
      obtain ⟨W7, eW7⟩ : ∃ u, u = wo.alloc (.cells #[.string x.v, .slice q x.ids.length cq, .bool x.g] 83) := ⟨_, rfl⟩
      have hs7 : wo.heap.size + 1 ≤ W7.heap.size := by rw [eW7]; simp
      have HP := Lib.hid (show W7.heap[wo.heap.size]? = some (.cells #[.string x.v, .slice q x.ids.length cq, .bool x.g] 83 (0, 0)) by rw [eW7]; exact heap_alloc_new wo _)
      have HC := Lib.hid (show ∀ E : World, E.heap[wo.heap.size]? = some (.cells #[.string x.v, .slice q x.ids.length cq, .bool x.g] 83 (0, 0)) → E.cell? ⟨wo.heap.size, 0, none⟩ = some (.string x.v) ∧ E.cell? ⟨wo.heap.size, 1, none⟩ = some (.slice q x.ids.length cq) ∧ E.cell? ⟨wo.heap.size, 2, none⟩ = some (.bool x.g) from
        fun E h => ⟨by rw [Lib.cell_of_heap h]; rfl, by rw [Lib.cell_of_heap h]; rfl, by rw [Lib.cell_of_heap h]; rfl⟩)
      have HA7 := Lib.hid (show Below (w.heap.size + 1) W W7 by rw [eW7]; exact HA.out.alloc hz _)
      have HB7 := Lib.hid (show Bld W.heap.size W.heap.size (Lib.strCells T) W7 by rw [eW7]; exact HBK.out.below ((Below.refl _ _).alloc (Nat.le_refl _) _))
      have EW7 := Lib.hid eW7
      have hne : wo.heap.size ≠ W.heap.size := by omega
      have hT8 : (83 : TypeId) ≠ 5 := by decide
      have n1 : (9223372036854775807 < 1 + x.v.size) = False := eq_false (by omega)
      have n2 : (9223372036854775807 < 1 + x.v.size + 1) = False := eq_false (by omega)
      have HHS := Lib.hid (bnH_size T x)
      clear eW7 HBK HA
      go_upto_region 6 with fail
      rw [← EW7.out]
      clear d0 d1 d2 a0 a1 a2 hz
      obtain ⟨d0, d1, d2⟩ := HC.out _ HP.out
      go_wp2_with fail
      refine (writeString_keep W.heap.size W.heap.size _ _ _ HB7.out (by rw [Lib.strCells_length]; simp only [ByteArray.size_append]; have : (⟨#[32]⟩ : ByteArray).size = 1 := rfl; have : (⟨#[61]⟩ : ByteArray).size = 1 := rfl; omega) (by omega)).mono ?_
      rintro e w8 ⟨⟨kk, rfl⟩, hbl, hb8, hkt⟩
      have hs8 := hb8.size
      have HA8 := Lib.hid (HA7.out.trans (hb8.mono (by omega)))
      have HP8 := Lib.hid ((hkt _ _ _ _ hne hT8 HP.out).trans HP.out)
      have HB8 := Lib.hid (show Bld W.heap.size W.heap.size (Lib.strCells (bnH T x)) w8 by
        have e9 : bnH T x = T ++ ((⟨#[32]⟩ : ByteArray) ++ x.v ++ (⟨#[61]⟩ : ByteArray)) := by unfold bnH; simp only [ba_app]
        rw [e9, strCells_add]; exact hbl)
      have hs9 : wo.heap.size + 1 ≤ w8.heap.size := by omega
      clear hb8 hbl hkt HA7 HB7 HP d0 d1 d2 n1 n2 hs8 hs7 EW7
      obtain ⟨d0, d1, d2⟩ := HC.out _ HP8.out
      go_wp2_with fail
      go_loopw [27] (fun i wv => ∃ (j : Nat), j ≤ x.ids.length ∧ i = .int .i64 j ∧ RowKit.Hid (Bld W.heap.size W.heap.size (Lib.strCells (idsT (bnH T x) x.ids j)) wv) ∧ RowKit.Hid (Below (w.heap.size + 1) W wv) ∧ wo.heap.size + 1 ≤ wv.heap.size ∧ RowKit.Hid (wv.heap[wo.heap.size]? = some (.cells #[.string x.v, .slice q x.ids.length cq, .bool x.g] 83 (0, 0)))) (fun i _ => x.ids.length - (intOf i).toNat)
      case atStart => exact ⟨0, Nat.zero_le _, rfl, HB8, HA8, hs9, HP8⟩
      case round =>
        clear d0 d1 d2 HA8 HB8 HP8 hs9
        obtain ⟨j, hj, rfl, HU, HA, hs9, HP⟩ := hrel
        obtain ⟨d0, d1, d2⟩ := HC.out _ HP.out
        have hus : (idsT (bnH T x) x.ids j).size ≤ T.size + x.v.size + 2 + 22 * j := by
          have h8 := idsT_size (T0 := bnH T x) HXK.out.2 j hj
          have h9 := HHS.out
          omega
        by_cases hjl : j < x.ids.length
        · obtain ⟨b1, o1, rfl, hb1, e0⟩ := (HIN.out _ HA.out).it hjl
          have hI := HXK.out.2 _ (List.getElem_mem hjl)
          have HM := Lib.hid (idsT_succ (bnH T x) x.ids hjl)
          obtain ⟨y, ey⟩ : ∃ y, y = x.ids[j] := ⟨_, rfl⟩
          rw [← ey] at e0 hI HM
          clear ey
          obtain ⟨U, eU⟩ : ∃ U, U = idsT (bnH T x) x.ids j := ⟨_, rfl⟩
          rw [← eU] at HU HM hus
          clear eU
          obtain ⟨TE, eTE⟩ : ∃ t, t = dec y := ⟨_, rfl⟩
          have hTE : TE.size ≤ 21 := by rw [eTE]; exact decA_size hI.1 hI.2
          rw [← eTE] at HM
          have CE := Lib.hid (fun (E : World) (hE : Below (w.heap.size + 1) W E) => show Calls Tryd.prog 42 #[.int .i64 y] E (fun en w' => en = .returned (.string TE) ∧ Below E.heap.size E w') from
            (itoaA_any y E hI.1 hI.2 (HVA.out _ hE)).mono fun en w' ⟨he, hb⟩ => ⟨by rw [he, eTE], hb⟩)
          clear eTE hI
          by_cases hj0 : 0 < j
          · have HC2 := Lib.hid (show idsT (bnH T x) x.ids (j + 1) = U ++ (⟨#[44]⟩ : ByteArray) ++ TE by rw [HM.out]; unfold commaT; rw [if_pos hj0])
            go_wp2_with fail
            refine (writeString_keep W.heap.size W.heap.size _ _ _ HU.out (by rw [Lib.strCells_length]; have : (⟨#[44]⟩ : ByteArray).size = 1 := rfl; omega) (by omega)).mono ?_
            rintro e w3 ⟨⟨kk, rfl⟩, hbl, hb3, hkt⟩
            have hs3 := hb3.size
            have HA3 := Lib.hid (HA.out.trans (hb3.mono (by omega)))
            have HP3 := Lib.hid ((hkt _ _ _ _ hne hT8 HP.out).trans HP.out)
            have HU3 := Lib.hid hbl
            clear hb3 hkt hbl d0 d1 d2 HA HP HU
            obtain ⟨d0, d1, d2⟩ := HC.out _ HP3.out
            go_wp2_with fail
            with_reducible refine (CE.out _ HA3.out).mono ?_
            rintro e w4 ⟨rfl, hb4⟩
            have hs4 := hb4.size
            have HA4 := Lib.hid (HA3.out.trans (hb4.mono (by omega)))
            have HP4 := Lib.hid ((hb4.block _ (by omega)).trans HP3.out)
            have HU4 := Lib.hid (HU3.out.below hb4)
            clear hb4 d0 d1 d2 HA3 HP3 HU3
            obtain ⟨d0, d1, d2⟩ := HC.out _ HP4.out
            go_wp2_with fail
            refine (writeString_keep W.heap.size W.heap.size _ _ _ HU4.out (by rw [List.length_append, Lib.strCells_length, Lib.strCells_length]; have : (⟨#[44]⟩ : ByteArray).size = 1 := rfl; omega) (by omega)).mono ?_
            rintro e w5 ⟨⟨kk, rfl⟩, hbl, hb5, hkt⟩
            have hs5 := hb5.size
            have HA5 := Lib.hid (HA4.out.trans (hb5.mono (by omega)))
            have HP5 := Lib.hid ((hkt _ _ _ _ hne hT8 HP4.out).trans HP4.out)
            have HU5 := Lib.hid (show Bld W.heap.size W.heap.size (Lib.strCells (idsT (bnH T x) x.ids (j + 1))) w5 by rw [HC2.out, strCells_add, strCells_add]; exact hbl)
            clear hb5 hkt hbl d0 d1 d2 HA4 HP4 HU4
            go_wp2_with fail
            go_roundw
            case rel => exact ⟨j + 1, by omega, by go_num, HU5, HA5, by omega, HP5⟩
            case measure => simp [intOf]; omega
          · have HC2 := Lib.hid (show idsT (bnH T x) x.ids (j + 1) = U ++ TE by rw [HM.out]; unfold commaT; rw [if_neg hj0])
            go_wp2_with fail
            with_reducible refine (CE.out _ HA.out).mono ?_
            rintro e w4 ⟨rfl, hb4⟩
            have hs4 := hb4.size
            have HA4 := Lib.hid (HA.out.trans (hb4.mono (by omega)))
            have HP4 := Lib.hid ((hb4.block _ (by omega)).trans HP.out)
            have HU4 := Lib.hid (HU.out.below hb4)
            clear hb4 d0 d1 d2 HA HP HU
            obtain ⟨d0, d1, d2⟩ := HC.out _ HP4.out
            go_wp2_with fail
            refine (writeString_keep W.heap.size W.heap.size _ _ _ HU4.out (by rw [Lib.strCells_length]; omega) (by omega)).mono ?_
            rintro e w5 ⟨⟨kk, rfl⟩, hbl, hb5, hkt⟩
            have hs5 := hb5.size
            have HA5 := Lib.hid (HA4.out.trans (hb5.mono (by omega)))
            have HP5 := Lib.hid ((hkt _ _ _ _ hne hT8 HP4.out).trans HP4.out)
            have HU5 := Lib.hid (show Bld W.heap.size W.heap.size (Lib.strCells (idsT (bnH T x) x.ids (j + 1))) w5 by rw [HC2.out, strCells_add]; exact hbl)
            clear hb5 hkt hbl d0 d1 d2 HA4 HP4 HU4
            go_wp2_with fail
            go_roundw
            case rel => exact ⟨j + 1, by omega, by go_num, HU5, HA5, by omega, HP5⟩
            case measure => simp [intOf]; omega
        · obtain rfl : j = x.ids.length := by omega
          cases hg : x.g with
          | true =>
            rw [hg] at d2
            have HC2 := Lib.hid (show bsT T0 m.bs (k + 1) = idsT (bnH T x) x.ids x.ids.length ++ (⟨#[59]⟩ : ByteArray) by rw [HN.out]; unfold bnT; rw [hg]; rfl)
            clear hg
            go_wp2_with fail
            refine (writeString_keep W.heap.size W.heap.size _ _ _ HU.out (by rw [Lib.strCells_length]; have : (⟨#[59]⟩ : ByteArray).size = 1 := rfl; omega) (by omega)).mono ?_
            rintro e w5 ⟨⟨kk, rfl⟩, hbl, hb5, _⟩
            have hs5 := hb5.size
            have HA5 := Lib.hid (HA.out.trans (hb5.mono (by omega)))
            have HU5 := Lib.hid (show Bld W.heap.size W.heap.size (Lib.strCells (bsT T0 m.bs (k + 1))) w5 by rw [HC2.out, strCells_add]; exact hbl)
            clear hb5 hbl d0 d1 d2 HA HP HU
            go_wp2_with fail
            go_roundw
            case rel => exact ⟨k + 1, by omega, by go_num, HU5, HA5, by omega⟩
            case measure => simp [intOf]; omega
          | false =>
            rw [hg] at d2
            have HC2 := Lib.hid (show bsT T0 m.bs (k + 1) = idsT (bnH T x) x.ids x.ids.length by rw [HN.out]; unfold bnT; rw [hg]; rfl)
            have HU5 := Lib.hid (show Bld W.heap.size W.heap.size (Lib.strCells (bsT T0 m.bs (k + 1))) _ by rw [HC2.out]; exact HU.out)
            clear hg
            go_wp2_with fail
            go_roundw
            case rel => exact ⟨k + 1, by omega, by go_num, HU5, HA, by omega⟩
            case measure => simp [intOf]; omega
    · obtain rfl : k = m.bs.length := by omega
      go_wp2_with fail
      refine (bldString_any W.heap.size W.heap.size _ _ HBK.out (by omega)).mono ?_
      rintro e w5 ⟨rfl, hb5⟩
      have HA5 := Lib.hid (HA.out.trans (hb5.mono (by omega)))
      clear hb5
      go_wp2_with fail
      go_ret
      exact ⟨by rw [HE.out]; rfl, HV.out.trans (HA5.out.mono (by omega))⟩
end Go.Proofs.YthpclghhlodnhaaDoor
