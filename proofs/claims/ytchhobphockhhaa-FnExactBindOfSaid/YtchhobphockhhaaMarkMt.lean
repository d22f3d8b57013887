/- Marks on binds and matches: what a mark writes lies in the match's own blocks; what a bind holds. -/
import Derived.Test.YtchhobphockhhaaKdUp
import Derived.Test.YtchhobphockhhaaBn
import Derived.Test.YtchhobphockhhaaMark
import Derived.Test.YtchhobphockhhaaHeld
namespace Go.Proofs.Ytchhobphockhhaa
open Go.RowKit

theorem kBn_upd {w : World} {p : Option Addr} {n cap : Nat} {xs : List Bn} {F : List Nat} (h : kBn.Ow w (.slice p n cap) xs F) {k : Nat} (hk : k < xs.length) :
    ∃ b off F1 q c, p = some ⟨b, off, none⟩ ∧ b ∈ F ∧ b ∉ F1 ∧ (∀ y ∈ F1, y ∈ F) ∧ b < w.heap.size ∧ (∀ o, w.frozen? ⟨b, o, none⟩ = false) ∧
      w.cell? ⟨b, off + k * 3, none⟩ = some (.string xs[k].v) ∧ w.cell? ⟨b, off + k * 3 + 1, none⟩ = some (.slice q xs[k].ids.length c) ∧ w.cell? ⟨b, off + k * 3 + 2, none⟩ = some (.bool xs[k].g) ∧
      OwnSl 1 intCells w (.slice q xs[k].ids.length c) xs[k].ids F1 ∧
      ∀ (w' : World) (x' : Bn), Chg (b :: F1) w w' → (∀ o, w'.frozen? ⟨b, o, none⟩ = false) → OwnSl 1 intCells w' (.slice q xs[k].ids.length c) x'.ids F1 →
        w'.cell? ⟨b, off + k * 3, none⟩ = some (.string x'.v) → w'.cell? ⟨b, off + k * 3 + 1, none⟩ = some (.slice q xs[k].ids.length c) → w'.cell? ⟨b, off + k * 3 + 2, none⟩ = some (.bool x'.g) →
        (∀ o, (o < off + k * 3 ∨ off + (k + 1) * 3 ≤ o) → w'.cell? ⟨b, o, none⟩ = w.cell? ⟨b, o, none⟩) → kBn.Ow w' (.slice p n cap) (xs.set k x') F := by
  obtain ⟨b, off, cs, F1, e, hb, hn, hs, hl, hf, hc, ho, hback⟩ := h.upd hk
  obtain ⟨s, rfl, hi⟩ := kBn_ow.1 ho
  obtain ⟨q, c, rfl⟩ := hi.sl.form
  refine ⟨b, off, F1, q, c, e, hb, hn, hs, hl, hf, hc 0 _ rfl, hc 1 _ rfl, hc 2 _ rfl, hi, fun w' x' h1 h2 h3 a0 a1 a2 h4 => hback w' x' _ h1 h2 (kBn_ow.2 ⟨_, rfl, h3⟩) (fun j u hu => ?_) h4⟩
  match j, hu with
  | 0, hu => cases hu; exact a0
  | 1, hu => cases hu; exact a1
  | 2, hu => cases hu; exact a2
  | j + 3, hu => simp at hu

set_option maxRecDepth 100000 in
set_option maxHeartbeats 4000000 in
theorem markBindS_any (xs : List Bn) (v : Value) (F : List Nat) (m : Int) (w : World) (hv : kBn.Ow w v xs F) (hm : 1 ≤ m) (hb : m + 2 * xs.length + sumBn xs ≤ 90000000) :
    Calls Try.prog 77 #[v, .int .i64 m] w fun e w' => ∃ r : Int, e = .returned (.int .i64 r) ∧ 1 ≤ r ∧ Chg F w w' := by
  obtain ⟨p, cap, rfl⟩ := hv.form
  obtain ⟨_, hm1, hm2⟩ := hv.rd.max
  unfold maxLen at hm2
  have HV := Lib.hid hv
  have HB := Lib.hid hb
  clear hv hb
  go_enter Try.func77, Try.ntmps77
  go_wp2_with fail
  go_loopw [1, 5] (fun kk i wr => ∃ (k : Nat) (t : Int) (ys : List Bn), k ≤ xs.length ∧ i = .int .i64 k ∧ kk = .int .i64 t ∧ 1 ≤ t ∧ RowKit.Hid (t ≤ m + 2 * k + sumBn (xs.take k)) ∧ RowKit.Hid (ys.length = xs.length ∧ ys.drop k = xs.drop k) ∧ RowKit.Hid (kBn.Ow wr (.slice p xs.length cap) ys F) ∧ RowKit.Hid (Chg F w wr)) (fun _ i _ => xs.length - (intOf i).toNat)
  case atStart => exact ⟨0, m, xs, Nat.zero_le _, rfl, rfl, hm, Lib.hid (by simp [sumBn]), Lib.hid ⟨rfl, rfl⟩, Lib.hid HV.out, Lib.hid (Chg.refl _ _)⟩
  case round =>
    obtain ⟨k, t, ys, hk, rfl, rfl, ht, HT, HY, HO, HC⟩ := hrel
    by_cases hlt : k < xs.length
    · have hltY : k < ys.length := by rw [HY.out.1]; exact hlt
      have hek : ys[k] = xs[k] := by
        have h9 := HY.out.2
        rw [List.drop_eq_getElem_cons hltY, List.drop_eq_getElem_cons hlt] at h9
        exact (List.cons.inj h9).1
      have hsum := sumBn_succ xs k hlt
      have hsum2 := sumBn_le xs (k + 1)
      obtain ⟨b, off, F1, q, c, rfl, hbF, hbk, hsub, hbl, hfz, c0, c1, c2, hks, hback⟩ := kBn_upd HO.out hltY
      rw [hek] at c0 c1 c2 hks hback
      obtain ⟨x, ex⟩ : ∃ x, x = xs[k] := ⟨_, rfl⟩
      rw [← ex] at c0 c1 c2 hks hback hsum
      have HS := Lib.hid hsum
      have hneed : x.ids.length ≤ x.need := by unfold Bn.need; omega
      have hbound : t + 2 + x.ids.length ≤ 90000000 := by
        have h1 := HT.out; have h2 := HB.out
        omega
      have HN := Lib.hid (show ∀ x', (ys.set k x').length = xs.length ∧ (ys.set k x').drop (k + 1) = xs.drop (k + 1) from fun x' => by
        refine ⟨by rw [List.length_set]; exact HY.out.1, ?_⟩
        rw [List.drop_set_of_lt (by omega)]
        have h9 := HY.out.2
        rw [List.drop_eq_getElem_cons hltY, List.drop_eq_getElem_cons hlt] at h9
        exact (List.cons.inj h9).2)
      have HT2 := Lib.hid (show t + 1 + x.ids.length + 1 ≤ m + 2 * (k + 1 : Nat) + sumBn (xs.take (k + 1)) by
        have h1 := HT.out; have h2 := HS.out
        rw [h2]; push_cast; omega)
      have HBACK := Lib.hid hback
      have HKS := Lib.hid hks
      have HFZ := Lib.hid hfz
      have HSUB := Lib.hid hsub
      have HBK := Lib.hid hbk
      have HBF := Lib.hid hbF
      clear hback hks hfz hsub hbk hbF ex hek hsum hsum2 HY HO HT HS hneed
      go_wp2_with fail
      refine (markText_any _ _ (by omega) (by omega)).mono ?_
      rintro e w1 ⟨rfl, hb1⟩
      have hz1 : b < w1.heap.size := by have := hb1.size; omega
      have d0 := keepc hb1 hbl c0
      have d1 := keepc hb1 hbl c1
      have d2 := keepc hb1 hbl c2
      have HD := Lib.hid (show (∀ i, w1.cell? ⟨b, i, none⟩ = wr.cell? ⟨b, i, none⟩) ∧ (∀ o, w1.frozen? ⟨b, o, none⟩ = false) from
        ⟨fun i => hb1.cell (p := ⟨b, i, none⟩) hbl, fun o => (hb1.frozen (p := ⟨b, o, none⟩) hbl).trans (HFZ.out o)⟩)
      have f0 := HD.out.2 (off + k * 3)
      have HW1 := Lib.hid (show Chg [b] wr w1 from (Chg.refl [b] wr).then_below hb1)
      have HKS1 := Lib.hid (HKS.out.chg HW1.out (fun x hx => by simp; rintro rfl; exact HBK.out hx))
      clear hb1 c0 c1 c2
      go_wp2_with fail
      have HKS2 := Lib.hid (HKS1.out.chg (G := [b]) (w' := w1.setCell ⟨b, off + k * 3, none⟩ (.string (mt t))) ((Chg.refl [b] w1).setCell (by simp) _) (fun x hx => by simp; rintro rfl; exact HBK.out hx))
      refine (markIntS_any _ _ _ _ _ HKS2.out (by omega) (by omega)).mono ?_
      rintro e w2 ⟨rfl, hk2, hc2⟩
      have hbw : ∀ i, w2.cell? ⟨b, i, none⟩ = (w1.setCell ⟨b, off + k * 3, none⟩ (.string (mt t))).cell? ⟨b, i, none⟩ := fun i => World.cell?_of_block (a := ⟨b, i, none⟩) (hc2.block b (by simpa using hz1) HBK.out)
      have hbf : ∀ i, w2.frozen? ⟨b, i, none⟩ = (w1.setCell ⟨b, off + k * 3, none⟩ (.string (mt t))).frozen? ⟨b, i, none⟩ := fun i => World.frozen?_of_block (a := ⟨b, i, none⟩) (hc2.block b (by simpa using hz1) HBK.out)
      have g0 : w2.cell? ⟨b, off + k * 3, none⟩ = some (.string (mt t)) := (hbw _).trans (set_same _ _ _ _ _ d0)
      have g1 : w2.cell? ⟨b, off + k * 3 + 1, none⟩ = some (.slice q x.ids.length c) := (hbw _).trans ((set_near _ _ _ _ _ (by omega)).trans d1)
      have g2 : w2.cell? ⟨b, off + k * 3 + 2, none⟩ = some (.bool x.g) := (hbw _).trans ((set_near _ _ _ _ _ (by omega)).trans d2)
      have HFR := Lib.hid (show ∀ o, w2.frozen? ⟨b, o, none⟩ = false from fun o => (hbf o).trans (by simpa [go_sem] using HD.out.2 o))
      have HEL := Lib.hid (show ∀ i, i ≠ off + k * 3 → w2.cell? ⟨b, i, none⟩ = wr.cell? ⟨b, i, none⟩ from fun i hi => (hbw i).trans ((set_near _ _ _ _ _ (fun e => hi e.symm)).trans (HD.out.1 i)))
      have f2 := HFR.out (off + k * 3 + 2)
      have HW2 := Lib.hid (show Chg (b :: F1) wr w2 from (HW1.out.mono (fun x hx => by simp at hx; simp [hx])).trans (((Chg.refl (b :: F1) w1).setCell (by simp) _).trans (hc2.mono (fun x hx => by simp [hx]))))
      have HK2 := Lib.hid hk2
      have HEND := Lib.hid (show ∀ r : Bool, kBn.Ow (w2.setCell ⟨b, off + k * 3 + 2, none⟩ (.bool r)) (.slice (some ⟨b, off, none⟩) xs.length cap) (ys.set k ⟨mt t, (List.range x.ids.length).map (mkInt (t + 1)), r⟩) F ∧ Chg F w (w2.setCell ⟨b, off + k * 3 + 2, none⟩ (.bool r)) from fun r => by
        have hst : Chg (b :: F1) w2 (w2.setCell ⟨b, off + k * 3 + 2, none⟩ (.bool r)) := (Chg.refl _ _).setCell (by simp) _
        refine ⟨HBACK.out _ ⟨_, _, r⟩ (HW2.out.trans hst) (fun o => by simpa [go_sem] using HFR.out o) (HK2.out.chg (G := [b]) ((Chg.refl [b] w2).setCell (by simp) _) (fun x hx => by simp; rintro rfl; exact HBK.out hx)) ((set_near _ _ _ _ _ (by omega)).trans g0) ((set_near _ _ _ _ _ (by omega)).trans g1) (set_same _ _ _ _ _ g2) (fun o ho => ?_), ?_⟩
        · exact (set_near _ _ _ _ _ (by omega)).trans (HEL.out o (by omega))
        · exact HC.out.trans ((HW2.out.trans hst).mono (fun y hy => by rcases List.mem_cons.1 hy with rfl | hy; exact HBF.out; exact HSUB.out y hy)))
      clear hk2 hc2 d0 d1 d2 f0 hbw hbf
      go_wp2_with fail
      go_roundw
      case rel =>
        exact ⟨k + 1, t + 1 + x.ids.length + 1, _, by omega, by go_num, by go_num, by omega, HT2, Lib.hid (HN.out _), Lib.hid (HEND.out _).1, Lib.hid (HEND.out _).2⟩
      case measure => simp [intOf]; omega
    · obtain rfl : k = xs.length := by omega
      go_wp2_with fail
      go_ret
      exact ⟨t, rfl, ht, HC.out⟩
end Go.Proofs.Ytchhobphockhhaa
