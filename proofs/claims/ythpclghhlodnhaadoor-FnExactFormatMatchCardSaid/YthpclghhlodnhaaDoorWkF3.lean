/- FormatWalk: the model's side. -/
import Derived.Test.YthpclghhlodnhaaDoorWkF
namespace Go.Proofs.YthpclghhlodnhaaDoor
open Go.RowKit

/-- The text in front of node k. -/
def preW (x : Wk) : Nat → ByteArray
  | 0 => ⟨#[]⟩
  | k + 1 => wkTx x k
theorem ba_assoc (a b c : ByteArray) : a ++ b ++ c = a ++ (b ++ c) := by simp [ByteArray.append_assoc]
theorem fmtW_no {x : Wk} (h : wkText x = false) : fmtW x = ⟨#[]⟩ := by unfold fmtW; rw [h]; rfl

set_option maxRecDepth 100000 in
set_option maxHeartbeats 8000000 in
theorem specFormatWalk_any (x : Wk) (v : Value) (B : Nat) (w : World) (hx : x.At B w v) (hB : B ≤ w.heap.size) (hn : x.need ≤ 1048576) :
    Calls Tryd.prog 36 #[v] w fun e w' => e = .returned (.string (fmtW x)) ∧ Below w.heap.size w w' := by
  have HX := Lib.hid hx
  have HN := Lib.hid hn
  obtain ⟨a, b, rfl, ha, hb⟩ := hx
  obtain ⟨p, cp, rfl⟩ := ha.form
  obtain ⟨q, cq, rfl⟩ := hb.form
  have hm := ha.max
  have hm2 := hb.max
  unfold maxLen at hm hm2
  have H1 := Lib.hid ha
  have H2 := Lib.hid hb
  clear ha hb hn
  obtain ⟨W, eW⟩ : ∃ W, W = w.alloc (.cells #[.slice p x.ns.length cp, .slice q x.es.length cq] 56) := ⟨_, rfl⟩
  have HV := Lib.hid (show Below w.heap.size w W by rw [eW]; exact (Below.refl _ _).alloc (Nat.le_refl _) _)
  have hs0 : w.heap.size + 1 ≤ W.heap.size := by rw [eW]; simp
  have HK := Lib.hid (show ∀ wk, Below (w.heap.size + 1) W wk → w.heap.size + 1 ≤ wk.heap.size ∧ wk.cell? ⟨w.heap.size, 0, none⟩ = some (.slice p x.ns.length cp) ∧ wk.cell? ⟨w.heap.size, 1, none⟩ = some (.slice q x.es.length cq) from
    fun wk hk => by rw [eW] at hk; exact one_box hk)
  have HA := Lib.hid (Below.refl (w.heap.size + 1) W)
  have EW := Lib.hid eW
  clear eW
  go_enter Tryd.func36, Tryd.ntmps36
  go_wp2_with fail
  rw [← EW.out]
  with_reducible refine (l5Shape_any x _ B _ (HX.out.to (HV.out.mono hB) (Nat.le_refl _)) HN.out).mono ?_
  rintro e w1 ⟨rfl, hb1⟩
  have HA1 := Lib.hid (HA.out.trans (hb1.mono (by omega)))
  clear hb1 HA
  obtain ⟨hz, a0, a1⟩ := HK.out _ HA1.out
  cases hsh : wkShape x with
  | false =>
    have HT := Lib.hid (fmtW_no (x := x) (by unfold wkText; rw [hsh]; rfl))
    clear hsh
    go_wp2_with fail
    go_ret
    exact ⟨by rw [HT.out]; rfl, HV.out.trans (HA1.out.mono (by omega))⟩
  | true =>
    have l1a : x.es.length < x.ns.length := by have := (wkShape_iff.1 hsh).1; omega
    have l1b : x.ns.length ≤ x.es.length + 1 := by have := (wkShape_iff.1 hsh).1; omega
    have l2 := (wkShape_iff.1 hsh).2
    have HSH := Lib.hid hsh
    clear hsh
    go_wp2_with fail
    go_loopw [3, 4] (fun t i wr => ∃ (k : Nat) (T : ByteArray), k ≤ x.ns.length ∧ i = .int .i64 k ∧ t = .string T ∧ T.size ≤ 6 * k ∧ RowKit.Hid (T = preW x k) ∧ RowKit.Hid (AllP smallB x.ns k) ∧ RowKit.Hid (AllP smallB x.es (k - 1)) ∧ RowKit.Hid (Below (w.heap.size + 1) W wr)) (fun _ i _ => x.ns.length - (intOf i).toNat)
    case atStart => exact ⟨0, _, Nat.zero_le _, rfl, rfl, by simp [ByteArray.size], Lib.hid rfl, Lib.hid (AllP.zero _ _), Lib.hid (AllP.zero _ _), HA1⟩
    case round =>
      clear hz a0 a1 HA1
      obtain ⟨k, T, hk, rfl, rfl, hTs, HTK, HPN, HPE, HA⟩ := hrel
      obtain ⟨hz, a0, a1⟩ := HK.out _ HA.out
      by_cases hlt : k < x.ns.length
      · have hBW := HA.out.size
        obtain ⟨b0, o0, rfl, hb0, c0⟩ := (H1.out.below ((HV.out.mono hB).trans (HA.out.mono (by omega)))).it hlt
        have HCN := Lib.hid (show ∀ wk, Below (w.heap.size + 1) W wk → wk.cell? ⟨b0, o0 + k, none⟩ = some (.int .i64 x.ns[k]) from fun wk hk => by
          obtain ⟨b9, o9, e9, _, c9⟩ := (H1.out.below ((HV.out.mono hB).trans (hk.mono (by omega)))).it hlt
          cases e9; exact c9)
        have HPB := Lib.hid (fun h => all_bad (f := smallB) (xs := x.ns) hlt h)
        have HPG := Lib.hid (fun h => HPN.out.succ (f := smallB) hlt h)
        have HGD := Lib.hid (getD_at x.ns hlt)
        obtain ⟨zn, ezn⟩ : ∃ z, z = x.ns[k] := ⟨_, rfl⟩
        rw [← ezn] at c0 HCN HPB HPG HGD
        clear ezn
        go_wp2_with fail
        with_reducible refine (l5Small_any zn _).mono ?_
        rintro e w2 ⟨rfl, hb2⟩
        have HA2 := Lib.hid (HA.out.trans (hb2.mono (by omega)))
        clear hb2 hz a0 a1 c0
        obtain ⟨hz, a0, a1⟩ := HK.out _ HA2.out
        have c0 := HCN.out _ HA2.out
        cases hzs : smallB zn with
        | false =>
          have HT := Lib.hid (fmtW_no (x := x) (by unfold wkText; rw [HPB.out hzs]; simp))
          clear hzs
          go_wp2_with fail
          go_ret
          exact ⟨by rw [HT.out]; rfl, HV.out.trans (HA2.out.mono (by omega))⟩
        | true =>
          have hzr := smallB_iff.1 hzs
          have HPN2 := Lib.hid (HPG.out hzs)
          have hdz : (dec zn).size ≤ 2 := dec_size hzr.1 hzr.2
          clear hzs
          cases k with
          | zero =>
            rw [Nat.add_zero] at c0
            have HPE2 := Lib.hid (show AllP smallB x.es (0 + 1 - 1) from AllP.zero _ _)
            have HTN := Lib.hid (show T ++ dec zn = preW x (0 + 1) by
              show T ++ dec zn = dec (x.ns.getD 0 0)
              rw [HGD.out, HTK.out]
              show (⟨#[]⟩ : ByteArray) ++ dec zn = dec zn
              exact ByteArray.empty_append)
            go_wp2_with fail
            with_reducible refine (l14Dec_any zn _ hzr.1 hzr.2).mono ?_
            rintro e w3 ⟨rfl, hb3⟩
            have HA3 := Lib.hid (HA2.out.trans (hb3.mono (by omega)))
            clear hb3
            have n1 : (9223372036854775807 < T.size + (dec zn).size) = False := eq_false (by omega)
            go_wp2_with fail
            go_roundw
            case rel => exact ⟨0 + 1, _, by omega, by go_num, rfl, by rw [ByteArray.size_append]; omega, HTN, HPN2, HPE2, HA3⟩
            case measure => simp [intOf]; omega
          | succ j =>
            have hje : j < x.es.length := by omega
            obtain ⟨bq, oq, rfl, hbq, d9⟩ := (H2.out.below ((HV.out.mono hB).trans (HA2.out.mono (by omega)))).it hje
            clear d9
            have HCE := Lib.hid (show ∀ wk, Below (w.heap.size + 1) W wk → wk.cell? ⟨bq, oq + j, none⟩ = some (.int .i64 x.es[j]) from fun wk hk => by
              obtain ⟨b9, o9, e9, _, c9⟩ := (H2.out.below ((HV.out.mono hB).trans (hk.mono (by omega)))).it hje
              cases e9; exact c9)
            have HQB := Lib.hid (fun h => all_bad (f := smallB) (xs := x.es) hje h)
            have HQG := Lib.hid (fun h => AllP.succ (f := smallB) (xs := x.es) (k := j) HPE.out hje h)
            have HGE := Lib.hid (getD_at x.es hje)
            obtain ⟨ze, eze⟩ : ∃ z, z = x.es[j] := ⟨_, rfl⟩
            rw [← eze] at HCE HQB HQG HGE
            clear eze
            have d0 := HCE.out _ HA2.out
            have hgt : decide ((0 : Int) < ((j + 1 : Nat) : Int)) = true := decide_eq_true (by omega)
            have hsub : ((j + 1 : Nat) : Int) - 1 = (j : Int) := by omega
            have hji : (j : Int) < (x.es.length : Int) := by omega
            go_wp2_with fail
            with_reducible refine (l5Small_any ze _).mono ?_
            rintro e w3 ⟨rfl, hb3⟩
            have HA3 := Lib.hid (HA2.out.trans (hb3.mono (by omega)))
            clear hb3 hz a0 a1 c0 d0
            obtain ⟨hz, a0, a1⟩ := HK.out _ HA3.out
            have c0 := HCN.out _ HA3.out
            have d0 := HCE.out _ HA3.out
            cases hes : smallB ze with
            | false =>
              have HT := Lib.hid (fmtW_no (x := x) (by unfold wkText; rw [HQB.out hes]; simp))
              clear hes
              go_wp2_with fail
              go_ret
              exact ⟨by rw [HT.out]; rfl, HV.out.trans (HA3.out.mono (by omega))⟩
            | true =>
              have her := smallB_iff.1 hes
              have HPE2 := Lib.hid (show AllP smallB x.es (j + 1 + 1 - 1) from HQG.out hes)
              have hde : (dec ze).size ≤ 2 := dec_size her.1 her.2
              clear hes
              have HTN := Lib.hid (show T ++ (⟨#[45]⟩ : ByteArray) ++ dec ze ++ (⟨#[45]⟩ : ByteArray) ++ dec zn = preW x (j + 1 + 1) by
                show _ = wkTx x j ++ _
                rw [HGD.out, HGE.out, HTK.out]
                show wkTx x j ++ _ ++ _ ++ _ ++ _ = _
                simp only [ba_assoc])
              go_wp2_with fail
              with_reducible refine (l14Dec_any ze _ her.1 her.2).mono ?_
              rintro e w4 ⟨rfl, hb4⟩
              have HA4 := Lib.hid (HA3.out.trans (hb4.mono (by omega)))
              clear hb4 hz a0 a1 c0 d0
              obtain ⟨hz, a0, a1⟩ := HK.out _ HA4.out
              have c0 := HCN.out _ HA4.out
              go_wp2_with fail
              with_reducible refine (l14Dec_any zn _ hzr.1 hzr.2).mono ?_
              rintro e w5 ⟨rfl, hb5⟩
              have HA5 := Lib.hid (HA4.out.trans (hb5.mono (by omega)))
              clear hb5
              go_wp2_with fail
              go_roundw
              case rel => exact ⟨j + 1 + 1, _, by omega, by go_num, rfl, by simp only [ByteArray.size_append]; have : (⟨#[45]⟩ : ByteArray).size = 1 := rfl; omega, HTN, HPN2, HPE2, HA5⟩
              case measure => simp [intOf]; omega
      · have HT := Lib.hid (show fmtW x = T by
          have h1 : x.ns.all smallB = true := by have h := HPN.out; unfold AllP at h; rwa [List.take_of_length_le (by omega)] at h
          have h2 : x.es.all smallB = true := by have h := HPE.out; unfold AllP at h; rwa [List.take_of_length_le (by omega)] at h
          unfold fmtW wkText
          rw [HSH.out, h1, h2, HTK.out, show k = x.es.length + 1 by omega]
          rfl)
        go_wp2_with fail
        go_ret
        exact ⟨by rw [HT.out]; rfl, HV.out.trans (HA.out.mono (by omega))⟩
end Go.Proofs.YthpclghhlodnhaaDoor
