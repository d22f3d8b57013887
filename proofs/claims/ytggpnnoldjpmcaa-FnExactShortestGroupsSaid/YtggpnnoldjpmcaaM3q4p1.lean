/- Lemmas on the data and the memory of this program's values: several texts in one. -/
import Derived.Test.YtggpnnoldjpmcaaM3q1p1
namespace Go.Proofs.Ytggpnnoldjpmcaa
open Go.RowKit

set_option maxRecDepth 100000 in
set_option maxHeartbeats 4000000 in
theorem specShortestGroups_any (xs : List Mt) (v : Value) (n : Int) (B : Nat) (w : World) (hv : kMt.Rd B w v xs) (hB : B ≤ w.heap.size) (hn : xs.length + sumMt xs ≤ 1048576) :
    Calls Try.prog 33 #[v, .int .i64 n] w (MbPost (groupR n xs) (okF n xs) w) := by
  obtain ⟨p, cap, rfl⟩ := hv.form
  obtain ⟨_, hm1, hm2⟩ := hv.max
  unfold maxLen at hm2
  have HV := Lib.hid hv
  clear hv
  obtain ⟨W, eW⟩ : ∃ W, W = w.alloc (.cells #[] 52) := ⟨_, rfl⟩
  have kW : Below w.heap.size w W := by rw [eW]; exact (Below.refl _ _).alloc (Nat.le_refl _) _
  have EW := Lib.hid eW
  clear eW
  go_enter Try.func33, Try.ntmps33
  go_wp2_with fail
  rw [← EW.out]
  refine (l9Shape_any xs _ B W (HV.out.to (kW.mono hB) (Nat.le_refl _)) (Nat.le_trans hB kW.size) (by omega)).mono ?_
  rintro en w1 ⟨rfl, hb1⟩
  have r1 : Below w.heap.size w w1 := kW.trans (hb1.mono kW.size)
  clear hb1
  cases hE : xs.all shP with
  | false =>
    have HO := Lib.hid (show okF n xs = false by unfold okF; rw [hE]; rfl)
    have HR := Lib.hid (show groupR n xs = [] by unfold groupR; rw [HO.out]; rfl)
    clear hE
    go_wp2_with fail
    refine bodyPost_ret (v := .tuple #[.slice (some ⟨w.heap.size, 0, none⟩) 0 0, .bool false]) (by simp [results, Try.results33, go_sem]) rfl ?_
    exact ⟨_, [], by rw [HO.out], by rw [HR.out]; exact (Kd.OwB.nil kMt 52 _ _).ow, by simp, r1⟩
  | true =>
    by_cases hneg : n < 0
    · have HO := Lib.hid (show okF n xs = false by unfold okF; rw [hE, decide_eq_true hneg]; rfl)
      have HR := Lib.hid (show groupR n xs = [] by unfold groupR; rw [HO.out]; rfl)
      clear hE
      go_wp2_with fail
      refine bodyPost_ret (v := .tuple #[.slice (some ⟨w.heap.size, 0, none⟩) 0 0, .bool false]) (by simp [results, Try.results33, go_sem]) rfl ?_
      exact ⟨_, [], by rw [HO.out], by rw [HR.out]; exact (Kd.OwB.nil kMt 52 _ _).ow, by simp, r1⟩
    have HO := Lib.hid (show okF n xs = true by unfold okF; rw [hE, decide_eq_false hneg]; rfl)
    have HR := Lib.hid (show groupR n xs = accR (groupP n xs) xs xs.length by unfold groupR; rw [HO.out]; rfl)
    have HE := Lib.hid hE
    clear hE
    go_wp2_with fail
    go_loopw [6, 7] (fun cp i wr => ∃ (k : Nat) (F : List Nat), k ≤ xs.length ∧ i = .int .i64 k ∧ RowKit.Hid (kMt.OwB 52 wr cp (accR (groupP n xs) xs k) F) ∧ RowKit.Hid (∀ y ∈ F, w.heap.size ≤ y) ∧ RowKit.Hid (Below w.heap.size w wr)) (fun _ i _ => xs.length - (intOf i).toNat)
    case atStart => exact ⟨0, [], Nat.zero_le _, rfl, Lib.hid (Kd.OwB.nil kMt _ _ _), Lib.hid (by simp), Lib.hid r1⟩
    case round =>
      obtain ⟨k, F, hk, rfl, HA, HF, HB⟩ := hrel
      have hsz := HB.out.size
      by_cases hlt : k < xs.length
      · have hkl : (k : Int) < (xs.length : Int) := by omega
        go_wp2_with fail
        refine (l9Lengths_any xs _ k B wr (HV.out.to (HB.out.mono hB) (Nat.le_refl _)) (by omega) (by omega) hlt HE.out).mono ?_
        rintro en w2 ⟨rfl, hb2⟩
        have HB2 := Lib.hid (HB.out.trans (hb2.mono hsz))
        have HA2 := Lib.hid (HA.out.below hb2)
        clear hb2
        obtain ⟨b, off, q, d, q', d', r, e, rfl, hb, c0, c1, c2, hin⟩ := kMt_get (HV.out.to (HB2.out.mono hB) (Nat.le_refl _)) hlt
        have hsize := sumMt_get xs k hlt
        have hp := groupP_at (n := n) hlt
        have hyes := fun (h : groupP n xs k = true) (w' : World) (v' : Value) (F' : List Nat) (ho : kMt.OwB 52 w' v' (accR (groupP n xs) xs k ++ [xs[k]]) F') => (accR_yes hlt h ▸ ho : kMt.OwB 52 w' v' (accR (groupP n xs) xs (k + 1)) F')
        have hno := fun (h : groupP n xs k = false) (w' : World) (v' : Value) (F' : List Nat) (ho : kMt.OwB 52 w' v' (accR (groupP n xs) xs k) F') => (accR_no hlt h ▸ ho : kMt.OwB 52 w' v' (accR (groupP n xs) xs (k + 1)) F')
        have HLE := Lib.hid (show (accR (groupP n xs) xs k).length ≤ 1048576 from Nat.le_trans (accR_len _ _ _) (by omega))
        obtain ⟨x, ex⟩ : ∃ x, x = xs[k] := ⟨_, rfl⟩
        rw [← ex] at c0 c1 c2 hin hsize hyes hp ⊢
        obtain ⟨t, et⟩ : ∃ t : Int, t = (lesN xs (endP x) (lenE x) : Int) := ⟨_, rfl⟩
        rw [← et] at hp ⊢
        have HIN := Lib.hid hin
        have HYES := Lib.hid hyes
        have HNO := Lib.hid hno
        have HP := Lib.hid hp
        have hnx : x.need ≤ 1048576 := by omega
        clear ex et hin hsize hyes hno hp
        by_cases hc : t < n
        · have HY := Lib.hid (HYES.out (HP.out.trans (decide_eq_true hc)))
          go_wp2_with fail
          refine (l9Copy_any x _ B w2 HIN.out (by have := HB2.out.size; omega) hnx).mono ?_
          rintro en w3 ⟨v2, G, rfl, ho, hG, hb2⟩
          obtain ⟨pA, cA, qA, dA, pB, cB, rfl⟩ := ho.at.form
          obtain ⟨W2, eW2⟩ : ∃ W2, W2 = w3.alloc (.cells #[.slice pA x.w.ns.length cA, .slice qA x.w.es.length dA, .slice pB x.bs.length cB] 52) := ⟨_, rfl⟩
          have kW2 : Below w3.heap.size w3 W2 := by rw [eW2]; exact (Below.refl _ _).alloc (Nat.le_refl _) _
          have s2 := hb2.size
          have HAP := Lib.hid (appMatch (HA2.out.below (hb2.trans (kW2.mono s2))) 57 x pA cA qA dA pB cB G w3.heap.size 1 (ho.chg (Chg.of_below kW2 []) (by simp)) (fun z hz hz2 => by have := HA2.out.lt z hz; have := hG z hz2; omega) (by rw [eW2]; simp [go_sem]) (by rw [eW2]; simp [go_sem]) (by rw [eW2]; simp [go_sem]) HLE.out)
          have HG := Lib.hid hG
          have HB3 := Lib.hid (hb2.trans (kW2.mono s2))
          have hs1 : w.heap.size ≤ w2.heap.size := HB2.out.size
          have EW2 := Lib.hid eW2
          clear ho hG hb2 kW2 eW2
          go_wp2_with (at_builtin; rw [← EW2.out]; refine wpApp rfl (.tmp 28) (.tmp 34) 57 rfl _ _ rfl rfl _ HAP.out ?_; rintro v3 w4 hr; have HR9 := Lib.hid hr; clear hr)
          obtain ⟨F', hF1, hF2, hF3⟩ := HR9.out
          have hge := ge_app hs1 HB3.out hF2 HF.out HG.out
          have hbe := below_app HB2.out HB3.out hF3 HF.out
          go_roundw
          case rel => exact ⟨k + 1, F', by omega, by go_num, Lib.hid (HY.out _ _ _ hF1), Lib.hid hge, Lib.hid hbe⟩
          case measure => simp [intOf]; omega
        · have HN := Lib.hid (HNO.out (HP.out.trans (decide_eq_false hc)) _ _ _ HA2.out)
          go_wp2_with fail
          go_roundw
          case rel => exact ⟨k + 1, F, by omega, by go_num, HN, HF, HB2⟩
          case measure => simp [intOf]; omega
      · obtain rfl : k = xs.length := by omega
        have hkl : ¬ (xs.length : Int) < (xs.length : Int) := by omega
        have HO2 := Lib.hid HA.out.ow
        go_wp2_with fail
        refine bodyPost_ret (v := .tuple #[u6, .bool true]) (by simp [results, Try.results33, go_sem]) rfl ?_
        exact ⟨_, F, by rw [HO.out], by rw [HR.out]; exact HO2.out, HF.out, HB.out⟩
end Go.Proofs.Ytggpnnoldjpmcaa
