/- FormatWalk: the program's side. -/
import Derived.Test.YthpclghhlodnhaaDoorWkF
namespace Go.Proofs.YthpclghhlodnhaaDoor
open Go.RowKit

set_option maxRecDepth 100000 in
set_option maxHeartbeats 8000000 in
theorem formatWalk_any (x : Wk) (v : Value) (B : Nat) (w : World) (hx : x.At B w v) (hB : B ≤ w.heap.size) (hn : x.need ≤ 1048576) (hV : VarsI w) :
    Calls Tryd.prog 41 #[v] w fun e w' => e = .returned (.string (fmtW x)) ∧ Below w.heap.size w w' := by
  have HX := Lib.hid hx
  have HVI := Lib.hid hV
  have HN := Lib.hid hn
  obtain ⟨a, b, rfl, ha, hb⟩ := hx
  obtain ⟨p, cp, rfl⟩ := ha.form
  obtain ⟨q, cq, rfl⟩ := hb.form
  have hm := ha.max
  have hm2 := hb.max
  unfold maxLen at hm hm2
  have H1 := Lib.hid ha
  have H2 := Lib.hid hb
  clear ha hb hn hV
  obtain ⟨W, eW⟩ : ∃ W, W = w.alloc (.cells #[.slice p x.ns.length cp, .slice q x.es.length cq] 56) := ⟨_, rfl⟩
  have HV := Lib.hid (show Below w.heap.size w W by rw [eW]; exact (Below.refl _ _).alloc (Nat.le_refl _) _)
  have hs0 : w.heap.size + 1 ≤ W.heap.size := by rw [eW]; simp
  have HK := Lib.hid (show ∀ wk, Below (w.heap.size + 1) W wk → w.heap.size + 1 ≤ wk.heap.size ∧ wk.cell? ⟨w.heap.size, 0, none⟩ = some (.slice p x.ns.length cp) ∧ wk.cell? ⟨w.heap.size, 1, none⟩ = some (.slice q x.es.length cq) from
    fun wk hk => by rw [eW] at hk; exact one_box hk)
  have HA := Lib.hid (Below.refl (w.heap.size + 1) W)
  have HVA := Lib.hid (show ∀ wk, Below (w.heap.size + 1) W wk → VarsI wk from fun wk hk => HVI.out.below (HV.out.trans (hk.mono (by omega))))
  have EW := Lib.hid eW
  clear eW
  go_enter Tryd.func41, Tryd.ntmps41
  go_wp2_with fail
  rw [← EW.out]
  with_reducible refine (hasText_any x _ B _ (HX.out.to (HV.out.mono hB) (Nat.le_refl _)) (by omega) HN.out).mono ?_
  rintro e w1 ⟨rfl, hb1⟩
  have HA1 := Lib.hid (HA.out.trans (hb1.mono (by omega)))
  clear hb1 HA
  obtain ⟨hz, a0, a1⟩ := HK.out _ HA1.out
  cases hT : wkText x with
  | false =>
    have HT := Lib.hid (show fmtW x = ⟨#[]⟩ by unfold fmtW; rw [hT]; rfl)
    clear hT
    go_wp2_with fail
    go_ret
    exact ⟨by rw [HT.out]; rfl, HV.out.trans (HA1.out.mono (by omega))⟩
  | true =>
    have HT := Lib.hid (show fmtW x = wkTx x x.es.length by unfold fmtW; rw [hT]; rfl)
    have HSN := Lib.hid (wkText_all hT).1
    have HSE := Lib.hid (wkText_all hT).2
    have hsh : wkShape x = true := by unfold wkText at hT; simp only [Bool.and_eq_true] at hT; exact hT.1
    have l1a : x.es.length < x.ns.length := by have := (wkShape_iff.1 hsh).1; omega
    have l2 := (wkShape_iff.1 hsh).2
    have HSZ := Lib.hid (wkTx_size HSN.out HSE.out)
    clear hT hsh
    obtain ⟨b0, o0, rfl, hb0, c0⟩ := (H1.out.below ((HV.out.mono hB).trans (HA1.out.mono (by omega)))).it (k := 0) (by omega)
    rw [Nat.add_zero] at c0
    have hg0 : (0 : Int) < (x.ns.length : Int) := by omega
    have hg1 : 0 < x.ns.length := by omega
    have hz0 := HSN.out _ (List.getElem_mem hg1)
    have HT0 := Lib.hid (show dec x.ns[0] = wkTx x 0 by unfold wkTx; rw [getD_at _ hg1])
    obtain ⟨z0, ez⟩ : ∃ z, z = x.ns[0] := ⟨_, rfl⟩
    rw [← ez] at c0 hz0 HT0
    clear ez
    go_wp2_with fail
    with_reducible refine (itoaI_any z0 _ hz0.1 hz0.2 (HVA.out _ HA1.out)).mono ?_
    rintro e w2 ⟨rfl, hb2⟩
    have HA2 := Lib.hid (HA1.out.trans (hb2.mono (by omega)))
    rw [HT0.out]
    clear hb2 hz a0 a1 c0
    obtain ⟨hz, a0, a1⟩ := HK.out _ HA2.out
    go_wp2_with fail
    go_loopw [3, 17] (fun t i wr => ∃ (k : Nat) (T : ByteArray), k ≤ x.es.length ∧ i = .int .i64 k ∧ t = .string T ∧ RowKit.Hid (T = wkTx x k) ∧ RowKit.Hid (Below (w.heap.size + 1) W wr)) (fun _ i _ => x.es.length - (intOf i).toNat)
    case atStart => exact ⟨0, _, Nat.zero_le _, rfl, rfl, Lib.hid rfl, HA2⟩
    case round =>
      clear hz a0 a1 HA2
      obtain ⟨k, T, hk, rfl, rfl, HTK, HA⟩ := hrel
      obtain ⟨hz, a0, a1⟩ := HK.out _ HA.out
      have hTs : T.size ≤ 50 := by rw [HTK.out]; have := HSZ.out k (by omega) hk; omega
      by_cases hlt : k < x.es.length
      · have hlb : k + 1 < x.ns.length := by omega
        have hBW := HA.out.size
        obtain ⟨bq, oq, rfl, hbq, d0⟩ := (H2.out.below ((HV.out.mono hB).trans (HA.out.mono (by omega)))).it hlt
        have HCB := Lib.hid (show ∀ wk, Below (w.heap.size + 1) W wk → wk.cell? ⟨b0, o0 + (k + 1), none⟩ = some (.int .i64 x.ns[k + 1]) from fun wk hk => by
          obtain ⟨b9, o9, e9, _, c9⟩ := (H1.out.below ((HV.out.mono hB).trans (hk.mono (by omega)))).it hlb
          cases e9; exact c9)
        have hze := HSE.out _ (List.getElem_mem hlt)
        have hzn := HSN.out _ (List.getElem_mem hlb)
        have HTN := Lib.hid (show T ++ (((⟨#[45]⟩ : ByteArray) ++ dec x.es[k]) ++ (⟨#[45]⟩ : ByteArray) ++ dec x.ns[k + 1]) = wkTx x (k + 1) by
          show _ = wkTx x k ++ _
          rw [getD_at _ hlt, getD_at _ hlb, HTK.out])
        obtain ⟨ze, eze⟩ : ∃ z, z = x.es[k] := ⟨_, rfl⟩
        obtain ⟨zn, ezn⟩ : ∃ z, z = x.ns[k + 1] := ⟨_, rfl⟩
        rw [← eze] at d0 hze HTN
        rw [← ezn] at HCB hzn HTN
        clear eze ezn
        obtain ⟨TE, eTE⟩ : ∃ t, t = dec ze := ⟨_, rfl⟩
        obtain ⟨TN, eTN⟩ : ∃ t, t = dec zn := ⟨_, rfl⟩
        have hTE : TE.size ≤ 2 := by rw [eTE]; exact dec_size hze.1 hze.2
        have hTN : TN.size ≤ 2 := by rw [eTN]; exact dec_size hzn.1 hzn.2
        rw [← eTE, ← eTN] at HTN
        have hkj : (k : Int) + 1 < (x.ns.length : Int) := by omega
        have hkw : IntKind.i64.wrap ((k : Int) + 1) = (k : Int) + 1 := IntWalk.i64_in _ (by omega)
        have hk0 : (0 : Int) ≤ (k : Int) + 1 := by omega
        have n1 : (9223372036854775807 < 1 + TE.size) = False := eq_false (by omega)
        have n2 : (9223372036854775807 < 1 + TE.size + 1) = False := eq_false (by omega)
        have n3 : (9223372036854775807 < 1 + TE.size + 1 + TN.size) = False := eq_false (by omega)
        have n4 : (9223372036854775807 < T.size + (1 + TE.size + 1 + TN.size)) = False := eq_false (by omega)
        have CE := Lib.hid (fun (E : World) (hE : Below (w.heap.size + 1) W E) => show Calls Tryd.prog 42 #[.int .i64 ze] E (fun en w' => en = .returned (.string TE) ∧ Below (w.heap.size + 1) W w') from
          (itoaI_any ze E hze.1 hze.2 (HVA.out E hE)).mono fun en w' ⟨he, hb⟩ => ⟨by rw [he, eTE], hE.trans (hb.mono (by have := hE.size; omega))⟩)
        have CN := Lib.hid (fun (E : World) (hE : Below (w.heap.size + 1) W E) => show Calls Tryd.prog 42 #[.int .i64 zn] E (fun en w' => en = .returned (.string TN) ∧ Below (w.heap.size + 1) W w') from
          (itoaI_any zn E hzn.1 hzn.2 (HVA.out E hE)).mono fun en w' ⟨he, hb⟩ => ⟨by rw [he, eTN], hE.trans (hb.mono (by have := hE.size; omega))⟩)
        clear eTE eTN
        have rr0 := HA.out
        go_upto_region 7 with fail
        go_region_held3 (fun w' => w'.cell? ⟨w.heap.size, 0, none⟩ = some (.slice (some ⟨b0, o0, none⟩) x.ns.length cp) ∧ w'.cell? ⟨b0, o0 + (k + 1), none⟩ = some (.int .i64 zn))
          (exact (fun hk => ⟨(HK.out _ hk).2.1, HCB.out _ hk⟩) (show Below (w.heap.size + 1) W _ by ((repeat (first | with_reducible assumption | with_reducible exact Below.refl _ _ | refine Below.setCell ?_ (by (first | omega | (simp; omega) | (simp; done) | fail "sml")) _ | refine Below.drew ?_ | refine Below.alloc ?_ (by (first | omega | (simp; omega) | (simp; done) | fail "sml")) _)); first | done | fail "chs")))
          (first
            | (go_at_call 42; with_reducible refine (CE.out _ (by ((repeat (first | with_reducible assumption | with_reducible exact Below.refl _ _ | refine Below.setCell ?_ (by (first | omega | (simp; omega) | (simp; done) | fail "sml")) _ | refine Below.drew ?_ | refine Below.alloc ?_ (by (first | omega | (simp; omega) | (simp; done) | fail "sml")) _)); first | done | fail "chs"))).mono ?_; rintro en wa ⟨rfl, hka⟩)
            | (go_at_call 42; with_reducible refine (CN.out _ (by ((repeat (first | with_reducible assumption | with_reducible exact Below.refl _ _ | refine Below.setCell ?_ (by (first | omega | (simp; omega) | (simp; done) | fail "sml")) _ | refine Below.drew ?_ | refine Below.alloc ?_ (by (first | omega | (simp; omega) | (simp; done) | fail "sml")) _)); first | done | fail "chs"))).mono ?_; rintro en wb ⟨rfl, hkb⟩)
            | fail "no arm")
        all_goals
          (go_wp2_with fail
           go_roundw
           · exact ⟨k + 1, _, by omega, by go_num, rfl, HTN, Lib.hid (show Below (w.heap.size + 1) W _ by ((repeat (first | with_reducible assumption | with_reducible exact Below.refl _ _ | refine Below.setCell ?_ (by (first | omega | (simp; omega) | (simp; done) | fail "sml")) _ | refine Below.drew ?_ | refine Below.alloc ?_ (by (first | omega | (simp; omega) | (simp; done) | fail "sml")) _)); first | done | fail "chs"))⟩
           · simp [intOf]; omega)
      · obtain rfl : k = x.es.length := by omega
        go_wp2_with fail
        go_ret
        exact ⟨by rw [HT.out, HTK.out]; rfl, HV.out.trans (HA.out.mono (by omega))⟩
end Go.Proofs.YthpclghhlodnhaaDoor
