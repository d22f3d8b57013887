/- The walk of FnExactDistinctRows. -/
import Derived.Test.YtfdkmngkpihpbaaM1q0p1
import Derived.Test.YtfdkmngkpihpbaaM0q0p2
import Derived.Test.YtfdkmngkpihpbaaM0q4p1
import Derived.Deep.RegionHeld3
import Derived.Deep.DeepCutAuto
namespace Go.Proofs.Ytfdkmngkpihpbaa
open Go.RowKit

set_option maxRecDepth 100000 in
set_option maxHeartbeats 16000000 in
theorem lawExactDistinctRows (a : Tb)  (v_a : Value) (w : World) (h_a : a.At w.heap.size w v_a) (hok_a : a.Ok) :
    Calls Try.prog 12 #[v_a] w fun en w' => en = .returned (.bool true) ∧ Below w.heap.size w w' := by
  have HE_a := Lib.hid h_a
  have HOK_a := Lib.hid hok_a
  obtain ⟨p0a, c0a, q0a, d0a, rfl⟩ := h_a.form
  clear h_a hok_a
  obtain ⟨R, eR⟩ : ∃ R : Tb, R = dsR a := ⟨_, rfl⟩
  obtain ⟨T, eT⟩ : ∃ T : Bool, T = a.ok := ⟨_, rfl⟩
  obtain ⟨W0, eW⟩ : ∃ W0, W0 = (w.alloc (.cells #[.slice p0a a.cs.length c0a, .slice q0a a.rs.length d0a] 44)) := ⟨_, rfl⟩
  have HV := Lib.hid (show Below w.heap.size w W0 by rw [eW]; exact (Below.refl w.heap.size w).alloc (by simp) _)
  have HK := Lib.hid (show ∀ wk, Below (w.heap.size + 1) W0 wk → w.heap.size + 1 ≤ wk.heap.size ∧ wk.cell? ⟨w.heap.size, 0, none⟩ = some (.slice p0a a.cs.length c0a) ∧ wk.cell? ⟨w.heap.size, 1, none⟩ = some (.slice q0a a.rs.length d0a) from
    fun wk hk => by rw [eW] at hk; exact ⟨by have := hk.size; simp at this; omega, keepc hk (by omega) (by simp [go_sem]), keepc hk (by omega) (by simp [go_sem])⟩)
  have hs0 : w.heap.size + 1 ≤ W0.heap.size := by rw [eW]; simp
  have HA := Lib.hid (Below.refl (w.heap.size + 1) W0)
  have HEA_a := Lib.hid (show ∀ wk, Below (w.heap.size + 1) W0 wk → a.At w.heap.size wk (.agg #[.slice p0a a.cs.length c0a, .slice q0a a.rs.length d0a]) from fun wk hk => HE_a.out.to (HV.out.trans (hk.mono (by omega))) (Nat.le_refl _))
  have EW := Lib.hid eW
  clear eW HE_a
  go_enter Try.func12, Try.ntmps12
  go_wp2_with fail
  rw [← EW.out]
  refine (szTable_any a _ 1048576 w.heap.size _ (HEA_a.out _ HA.out) (by omega) (by omega) (by omega) HOK_a.out).mono ?_
  rintro en w1 ⟨r_a, rfl, hr_a, hb⟩
  have hs_w1 : W0.heap.size ≤ w1.heap.size := hb.size
  have HA := Lib.hid (HA.out.trans (hb.mono (by omega)))
  clear hb
  obtain ⟨hz, aa0, aa1⟩ := HK.out _ HA.out
  have hq_a : w.heap.size < w1.heap.size := by omega
  rcases hr_a with hr_a | ⟨hr0_a, hr_a⟩
  · have hneg : r_a < 0 := by omega
    clear hr_a
    go_wp2_with fail
    go_ret
    exact ⟨rfl, HV.out.trans (HA.out.mono (by omega))⟩
  have hneed_a : a.need ≤ 1048576 := by omega
  have hl1_a : a.cs.length + sumR a.rs ≤ 1048576 := by unfold Tb.need at hneed_a; omega
  clear hr_a
  have HRB := Lib.hid (show R.cs.length + sumR R.rs ≤ 1048576 from eR ▸ (show (dsR a).cs.length + sumR (dsR a).rs ≤ 1048576 by (have hh := hneed_a; unfold Tb.need at hh; have hd := dst_all a.rs; rcases Bool.eq_false_or_eq_true a.ok with h | h; (rw [dsR_yes h]; exact (show a.cs.length + sumR (dst a.rs) ≤ 1048576 by omega)); (rw [dsR_no h]; simp [noTb, sumR]))))
  have hRB := HRB.out
  have CS := Lib.hid (fun (v_a : Value) (B : Nat) (E : World) (hB : B ≤ E.heap.size) (h_a : a.At B E v_a) => eR ▸ eT ▸ specDistinctRows_any a v_a B E h_a hB HOK_a.out hneed_a)
  have CI := Lib.hid (fun (v_a : Value) (B : Nat) (E : World) (hB : B ≤ E.heap.size) (h_a : a.At B E v_a) => eR ▸ eT ▸ distinctRows_any a v_a B E h_a hB HOK_a.out hneed_a)
  have CT_a := Lib.hid (fun (E : World) (hE : Below (w.heap.size + 1) W0 E) => (show Calls Try.prog 30 #[.agg #[.slice p0a a.cs.length c0a, .slice q0a a.rs.length d0a]] E _ from (fun (hv : a.At w.heap.size E (.agg #[.slice p0a a.cs.length c0a, .slice q0a a.rs.length d0a])) (hB : w.heap.size ≤ E.heap.size) => toTable_any a _ w.heap.size E hv hB hneed_a) (HEA_a.out E hE) (by have := hE.size; omega)))
  clear eR eT
  go_wp2_with fail
  refine (CT_a.out _ HA.out).mono ?_
  rintro en w2 ⟨vw2, Fw2, rfl, ho, _, hb⟩
  clear hz aa0 aa1 hq_a
  have hsp := ho.at
  have hs_w2 : w1.heap.size ≤ w2.heap.size := hb.size
  have HA := Lib.hid (HA.out.trans (hb.mono (by omega)))
  clear ho hb
  obtain ⟨hz, aa0, aa1⟩ := HK.out _ HA.out
  have hq_a : w.heap.size < w2.heap.size := by omega
  go_wp2_with fail
  refine (CS.out _ _ _ (Nat.le_refl _) hsp).mono ?_
  rintro en w3 ⟨vw3, FW, rfl, ho, hf, hb⟩
  clear hz aa0 aa1 hq_a
  clear hsp
  have hs_w3 : w2.heap.size ≤ w3.heap.size := hb.size
  have HA := Lib.hid (HA.out.trans (hb.mono (by omega)))
  have HO := Lib.hid ho
  have GW := Lib.hid (show ∀ y ∈ FW, w2.heap.size ≤ y ∧ y < w3.heap.size from fun y hy => ⟨hf y hy, ho.lt y hy⟩)
  obtain ⟨pW, cW, qW, dW, rfl⟩ := ho.at.form
  clear ho hf hb
  obtain ⟨hz, aa0, aa1⟩ := HK.out _ HA.out
  have hq_a : w.heap.size < w3.heap.size := by omega
  go_wp2_with fail
  clear hz aa0 aa1 hq_a
  obtain ⟨W3_W, eW⟩ : ∃ u, u = w3.alloc (.cells #[.slice pW R.cs.length cW, .slice qW R.rs.length dW] 33) := ⟨_, rfl⟩
  rw [← eW]
  have hszW3_W : w3.heap.size < W3_W.heap.size := by rw [eW]; simp
  have hbW : Below w3.heap.size w3 W3_W := by rw [eW]; exact (Below.refl _ _).alloc (Nat.le_refl _) _
  have LW := Lib.hid (show LocV R.Has w3.heap.size #[.slice pW R.cs.length cW, .slice qW R.rs.length dW] FW W3_W by rw [eW]; exact LocV.fresh (Tb.goes R) HO.out)
  have hs_W3_W : w3.heap.size ≤ W3_W.heap.size := hbW.size
  have HA := Lib.hid (HA.out.trans (hbW.mono (by omega)))
  clear hbW eW HO
  obtain ⟨hz, aa0, aa1⟩ := HK.out _ HA.out
  have hq_a : w.heap.size < W3_W.heap.size := by omega
  obtain ⟨wwk, wwc, _⟩ := LW.out
  have ww0 := wwc 0 _ rfl
  have ww1 := wwc 1 _ rfl
  clear wwc
  go_wp2_with fail
  refine (CT_a.out _ HA.out).mono ?_
  rintro en w4 ⟨vw4, FX, rfl, ho, hf, hb⟩
  clear hz aa0 aa1 hq_a wwk ww0 ww1
  have hs_w4 : W3_W.heap.size ≤ w4.heap.size := hb.size
  have LW := Lib.hid (LW.out.below (Tb.goes R) hb)
  have HA := Lib.hid (HA.out.trans (hb.mono (by omega)))
  have HO := Lib.hid ho
  have GX := Lib.hid (show ∀ y ∈ FX, W3_W.heap.size ≤ y ∧ y < w4.heap.size from fun y hy => ⟨hf y hy, ho.lt y hy⟩)
  obtain ⟨pX, cX, qX, dX, rfl⟩ := ho.at.form
  clear ho hf hb
  obtain ⟨hz, aa0, aa1⟩ := HK.out _ HA.out
  have hq_a : w.heap.size < w4.heap.size := by omega
  obtain ⟨wwk, wwc, _⟩ := LW.out
  have ww0 := wwc 0 _ rfl
  have ww1 := wwc 1 _ rfl
  clear wwc
  go_wp2_with fail
  clear hz aa0 aa1 hq_a wwk ww0 ww1
  obtain ⟨W4_X, eW⟩ : ∃ u, u = w4.alloc (.cells #[.slice pX a.cs.length cX, .slice qX a.rs.length dX] 33) := ⟨_, rfl⟩
  rw [← eW]
  have hszW4_X : w4.heap.size < W4_X.heap.size := by rw [eW]; simp
  have hbW : Below w4.heap.size w4 W4_X := by rw [eW]; exact (Below.refl _ _).alloc (Nat.le_refl _) _
  have LX := Lib.hid (show LocV a.Has w4.heap.size #[.slice pX a.cs.length cX, .slice qX a.rs.length dX] FX W4_X by rw [eW]; exact LocV.fresh (Tb.goes a) HO.out)
  have hs_W4_X : w4.heap.size ≤ W4_X.heap.size := hbW.size
  have LW := Lib.hid (LW.out.below (Tb.goes R) hbW)
  have HA := Lib.hid (HA.out.trans (hbW.mono (by omega)))
  clear hbW eW HO
  obtain ⟨hz, aa0, aa1⟩ := HK.out _ HA.out
  have hq_a : w.heap.size < W4_X.heap.size := by omega
  obtain ⟨wwk, wwc, _⟩ := LW.out
  have ww0 := wwc 0 _ rfl
  have ww1 := wwc 1 _ rfl
  clear wwc
  obtain ⟨xxk, xxc, _⟩ := LX.out
  have xx0 := xxc 0 _ rfl
  have xx1 := xxc 1 _ rfl
  clear xxc
  go_wp2_with fail
  refine (CI.out _ W4_X.heap.size _ (Nat.le_refl _) (LX.out.2.2.at.to (Below.refl _ _) (Nat.le_refl _))).mono ?_
  rintro en w5 ⟨vw5, FG, rfl, ho, hf, hb⟩
  clear hz aa0 aa1 hq_a wwk ww0 ww1 xxk xx0 xx1
  have hs_w5 : W4_X.heap.size ≤ w5.heap.size := hb.size
  have LW := Lib.hid (LW.out.below (Tb.goes R) hb)
  have LX := Lib.hid (LX.out.below (Tb.goes a) hb)
  have HA := Lib.hid (HA.out.trans (hb.mono (by omega)))
  have HO := Lib.hid ho
  have GG := Lib.hid (show ∀ y ∈ FG, W4_X.heap.size ≤ y ∧ y < w5.heap.size from fun y hy => ⟨hf y hy, ho.lt y hy⟩)
  obtain ⟨pG, cG, qG, dG, rfl⟩ := ho.at.form
  clear ho hf hb
  obtain ⟨hz, aa0, aa1⟩ := HK.out _ HA.out
  have hq_a : w.heap.size < w5.heap.size := by omega
  obtain ⟨wwk, wwc, _⟩ := LW.out
  have ww0 := wwc 0 _ rfl
  have ww1 := wwc 1 _ rfl
  clear wwc
  obtain ⟨xxk, xxc, _⟩ := LX.out
  have xx0 := xxc 0 _ rfl
  have xx1 := xxc 1 _ rfl
  clear xxc
  go_wp2_with fail
  clear hz aa0 aa1 hq_a wwk ww0 ww1 xxk xx0 xx1
  obtain ⟨W5_G, eW⟩ : ∃ u, u = w5.alloc (.cells #[.slice pG R.cs.length cG, .slice qG R.rs.length dG] 33) := ⟨_, rfl⟩
  rw [← eW]
  have hszW5_G : w5.heap.size < W5_G.heap.size := by rw [eW]; simp
  have hbW : Below w5.heap.size w5 W5_G := by rw [eW]; exact (Below.refl _ _).alloc (Nat.le_refl _) _
  have LG := Lib.hid (show LocV R.Has w5.heap.size #[.slice pG R.cs.length cG, .slice qG R.rs.length dG] FG W5_G by rw [eW]; exact LocV.fresh (Tb.goes R) HO.out)
  have hs_W5_G : w5.heap.size ≤ W5_G.heap.size := hbW.size
  have LW := Lib.hid (LW.out.below (Tb.goes R) hbW)
  have LX := Lib.hid (LX.out.below (Tb.goes a) hbW)
  have HA := Lib.hid (HA.out.trans (hbW.mono (by omega)))
  clear hbW eW HO
  obtain ⟨hz, aa0, aa1⟩ := HK.out _ HA.out
  have hq_a : w.heap.size < W5_G.heap.size := by omega
  obtain ⟨wwk, wwc, _⟩ := LW.out
  have ww0 := wwc 0 _ rfl
  have ww1 := wwc 1 _ rfl
  clear wwc
  obtain ⟨xxk, xxc, _⟩ := LX.out
  have xx0 := xxc 0 _ rfl
  have xx1 := xxc 1 _ rfl
  clear xxc
  obtain ⟨ggk, ggc, _⟩ := LG.out
  have gg0 := ggc 0 _ rfl
  have gg1 := ggc 1 _ rfl
  clear ggc
  go_wp2_with fail
  refine (eqTable_any R _ _ W5_G.heap.size _ LG.out.2.2.at LW.out.2.2.at (Nat.le_refl _)).mono ?_
  rintro en w6 ⟨rfl, hb⟩
  clear hz aa0 aa1 hq_a wwk ww0 ww1 xxk xx0 xx1 ggk gg0 gg1
  have hs_w6 : W5_G.heap.size ≤ w6.heap.size := hb.size
  have LW := Lib.hid (LW.out.below (Tb.goes R) hb)
  have LX := Lib.hid (LX.out.below (Tb.goes a) hb)
  have LG := Lib.hid (LG.out.below (Tb.goes R) hb)
  have HA := Lib.hid (HA.out.trans (hb.mono (by omega)))
  clear hb
  obtain ⟨hz, aa0, aa1⟩ := HK.out _ HA.out
  have hq_a : w.heap.size < w6.heap.size := by omega
  obtain ⟨wwk, wwc, _⟩ := LW.out
  have ww0 := wwc 0 _ rfl
  have ww1 := wwc 1 _ rfl
  clear wwc
  obtain ⟨xxk, xxc, _⟩ := LX.out
  have xx0 := xxc 0 _ rfl
  have xx1 := xxc 1 _ rfl
  clear xxc
  obtain ⟨ggk, ggc, _⟩ := LG.out
  have gg0 := ggc 0 _ rfl
  have gg1 := ggc 1 _ rfl
  clear ggc
  have hA0 := HA.out
  have rr0 := Below.refl w6.heap.size w6
  go_upto_region 10 with fail
  go_cut [45] (fun s wx => s = .bool false ∧ Below w6.heap.size w6 wx)
  case first =>
    go_region_held3 (fun w' => w'.cell? ⟨w.heap.size, 0, none⟩ = some (.slice p0a a.cs.length c0a) ∧ w'.cell? ⟨w.heap.size, 1, none⟩ = some (.slice q0a a.rs.length d0a) ∧ w'.cell? ⟨w4.heap.size, 0, none⟩ = some (.slice pX a.cs.length cX) ∧ w'.cell? ⟨w4.heap.size, 1, none⟩ = some (.slice qX a.rs.length dX))
      (exact ⟨keepc (show Below w6.heap.size w6 _ by ((repeat (first | with_reducible assumption | with_reducible exact Below.refl _ _ | refine Below.setCell ?_ (by (first | omega | (simp; omega) | (simp; done) | fail "sml")) _ | refine Below.drew ?_ | refine Below.alloc ?_ (by (first | omega | (simp; omega) | (simp; done) | fail "sml")) _)); first | done | fail "chs")) hq_a aa0, keepc (show Below w6.heap.size w6 _ by ((repeat (first | with_reducible assumption | with_reducible exact Below.refl _ _ | refine Below.setCell ?_ (by (first | omega | (simp; omega) | (simp; done) | fail "sml")) _ | refine Below.drew ?_ | refine Below.alloc ?_ (by (first | omega | (simp; omega) | (simp; done) | fail "sml")) _)); first | done | fail "chs")) hq_a aa1, keepc (show Below w6.heap.size w6 _ by ((repeat (first | with_reducible assumption | with_reducible exact Below.refl _ _ | refine Below.setCell ?_ (by (first | omega | (simp; omega) | (simp; done) | fail "sml")) _ | refine Below.drew ?_ | refine Below.alloc ?_ (by (first | omega | (simp; omega) | (simp; done) | fail "sml")) _)); first | done | fail "chs")) xxk xx0, keepc (show Below w6.heap.size w6 _ by ((repeat (first | with_reducible assumption | with_reducible exact Below.refl _ _ | refine Below.setCell ?_ (by (first | omega | (simp; omega) | (simp; done) | fail "sml")) _ | refine Below.drew ?_ | refine Below.alloc ?_ (by (first | omega | (simp; omega) | (simp; done) | fail "sml")) _)); first | done | fail "chs")) xxk xx1⟩)
      (first
        | (go_at_call 30; refine (CT_a.out _ (hA0.trans (Below.mono (show Below w6.heap.size w6 _ by ((repeat (first | with_reducible assumption | with_reducible exact Below.refl _ _ | refine Below.setCell ?_ (by (first | omega | (simp; omega) | (simp; done) | fail "sml")) _ | refine Below.drew ?_ | refine Below.alloc ?_ (by (first | omega | (simp; omega) | (simp; done) | fail "sml")) _)); first | done | fail "chs")) (by omega)))).mono ?_; rintro en wa ⟨va, Fa, rfl, hh, _, hb⟩; have hka := Below.trans (show Below w6.heap.size w6 _ by ((repeat (first | with_reducible assumption | with_reducible exact Below.refl _ _ | refine Below.setCell ?_ (by (first | omega | (simp; omega) | (simp; done) | fail "sml")) _ | refine Below.drew ?_ | refine Below.alloc ?_ (by (first | omega | (simp; omega) | (simp; done) | fail "sml")) _)); first | done | fail "chs")) (hb.mono (by (first | omega | (simp; omega) | (simp; done) | fail "sml"))); have za := hka.size; have HHa := Lib.hid hh.at; clear hh hb)
        | (go_at_call 31; refine (eqTable_any a _ _ wa.heap.size _ (LX.out.2.2.at.to (by ((repeat (first | with_reducible assumption | with_reducible exact Below.refl _ _ | refine Below.setCell ?_ (by (first | omega | (simp; omega) | (simp; done) | fail "sml")) _ | refine Below.drew ?_ | refine Below.alloc ?_ (by (first | omega | (simp; omega) | (simp; done) | fail "sml")) _)); first | done | fail "chs")) (by omega)) (HHa.out.to (by ((repeat (first | with_reducible assumption | with_reducible exact Below.refl _ _ | refine Below.setCell ?_ (by (first | omega | (simp; omega) | (simp; done) | fail "sml")) _ | refine Below.drew ?_ | refine Below.alloc ?_ (by (first | omega | (simp; omega) | (simp; done) | fail "sml")) _)); first | done | fail "chs")) (Nat.le_refl _)) (by (first | omega | (simp; omega) | (simp; done) | fail "sml"))).mono ?_; rintro en wb ⟨rfl, hbb⟩; have hkb := Below.trans (show Below w6.heap.size w6 _ by ((repeat (first | with_reducible assumption | with_reducible exact Below.refl _ _ | refine Below.setCell ?_ (by (first | omega | (simp; omega) | (simp; done) | fail "sml")) _ | refine Below.drew ?_ | refine Below.alloc ?_ (by (first | omega | (simp; omega) | (simp; done) | fail "sml")) _)); first | done | fail "chs")) (hbb.mono (by first | omega | (simp; omega))); clear hbb))
    all_goals (go_wp2_with fail; go_meet)
    all_goals exact ⟨rfl, by ((repeat (first | with_reducible assumption | with_reducible exact Below.refl _ _ | refine Below.setCell ?_ (by (first | omega | (simp; omega) | (simp; done) | fail "sml")) _ | refine Below.drew ?_ | refine Below.alloc ?_ (by (first | omega | (simp; omega) | (simp; done) | fail "sml")) _)); first | done | fail "chs")⟩
  case rest =>
  obtain ⟨rfl, hbx⟩ := hcut
  clear hz aa0 aa1 hq_a wwk ww0 ww1 xxk xx0 xx1 ggk gg0 gg1
  clear hA0 rr0
  obtain ⟨w7, ew⟩ : ∃ u, u = wc := ⟨_, rfl⟩
  subst ew
  have hs_w7 : w6.heap.size ≤ w7.heap.size := hbx.size
  have LW := Lib.hid (LW.out.below (Tb.goes R) hbx)
  have LX := Lib.hid (LX.out.below (Tb.goes a) hbx)
  have LG := Lib.hid (LG.out.below (Tb.goes R) hbx)
  have HA := Lib.hid (HA.out.trans (hbx.mono (by omega)))
  clear hbx
  obtain ⟨hz, aa0, aa1⟩ := HK.out _ HA.out
  have hq_a : w.heap.size < w7.heap.size := by omega
  obtain ⟨wwk, wwc, _⟩ := LW.out
  have ww0 := wwc 0 _ rfl
  have ww1 := wwc 1 _ rfl
  clear wwc
  obtain ⟨xxk, xxc, _⟩ := LX.out
  have xx0 := xxc 0 _ rfl
  have xx1 := xxc 1 _ rfl
  clear xxc
  obtain ⟨ggk, ggc, _⟩ := LG.out
  have gg0 := ggc 0 _ rfl
  have gg1 := ggc 1 _ rfl
  clear ggc
  go_wp2_with fail
  refine (markTable_any a _ FX 1 _ LX.out.2.2 (by omega) (by omega)).mono ?_
  rintro en w8 ⟨rfl, ho, hc⟩
  clear hz aa0 aa1 hq_a wwk ww0 ww1 xxk xx0 xx1 ggk gg0 gg1
  have hs_w8 : w7.heap.size ≤ w8.heap.size := hc.size
  have HA := Lib.hid (HA.out.trans (hc.below (by omega) (fun y hy => by have := GX.out y hy; omega)))
  have LW := Lib.hid (LW.out.chg (Tb.goes R) hc (fun hy => by have := GX.out _ hy; omega) (fun y hy hy2 => by have h1 := GW.out y hy; have h2 := GX.out y hy2; omega))
  have LG := Lib.hid (LG.out.chg (Tb.goes R) hc (fun hy => by have := GX.out _ hy; omega) (fun y hy hy2 => by have h1 := GG.out y hy; have h2 := GX.out y hy2; omega))
  clear hc ho LX
  obtain ⟨hz, aa0, aa1⟩ := HK.out _ HA.out
  have hq_a : w.heap.size < w8.heap.size := by omega
  obtain ⟨wwk, wwc, _⟩ := LW.out
  have ww0 := wwc 0 _ rfl
  have ww1 := wwc 1 _ rfl
  clear wwc
  obtain ⟨ggk, ggc, _⟩ := LG.out
  have gg0 := ggc 0 _ rfl
  have gg1 := ggc 1 _ rfl
  clear ggc
  have hn1 : ¬ ((1 : Int) + a.cs.length + sumR a.rs < 0) := by omega
  go_wp2_with fail
  refine (eqTable_any R _ _ w8.heap.size _ LG.out.2.2.at LW.out.2.2.at (Nat.le_refl _)).mono ?_
  rintro en w9 ⟨rfl, hb⟩
  clear hz aa0 aa1 hq_a wwk ww0 ww1 ggk gg0 gg1
  have hs_w9 : w8.heap.size ≤ w9.heap.size := hb.size
  have LW := Lib.hid (LW.out.below (Tb.goes R) hb)
  have LG := Lib.hid (LG.out.below (Tb.goes R) hb)
  have HA := Lib.hid (HA.out.trans (hb.mono (by omega)))
  clear hb
  obtain ⟨hz, aa0, aa1⟩ := HK.out _ HA.out
  have hq_a : w.heap.size < w9.heap.size := by omega
  obtain ⟨wwk, wwc, _⟩ := LW.out
  have ww0 := wwc 0 _ rfl
  have ww1 := wwc 1 _ rfl
  clear wwc
  obtain ⟨ggk, ggc, _⟩ := LG.out
  have gg0 := ggc 0 _ rfl
  have gg1 := ggc 1 _ rfl
  clear ggc
  clear hn1
  go_wp2_with fail
  refine (markTable_any R _ FG 1 _ LG.out.2.2 (by omega) (by omega)).mono ?_
  rintro en w10 ⟨rfl, ho, hc⟩
  clear hz aa0 aa1 hq_a wwk ww0 ww1 ggk gg0 gg1
  have hs_w10 : w9.heap.size ≤ w10.heap.size := hc.size
  have HA := Lib.hid (HA.out.trans (hc.below (by omega) (fun y hy => by have := GG.out y hy; omega)))
  have LW := Lib.hid (LW.out.chg (Tb.goes R) hc (fun hy => by have := GG.out _ hy; omega) (fun y hy hy2 => by have h1 := GW.out y hy; have h2 := GG.out y hy2; omega))
  have LM := Lib.hid (LG.out.turn (Q := (R.marked 1).Has) hc (fun hy => by have := GG.out _ hy; omega) ho)
  clear hc ho LG
  obtain ⟨hz, aa0, aa1⟩ := HK.out _ HA.out
  have hq_a : w.heap.size < w10.heap.size := by omega
  obtain ⟨wwk, wwc, _⟩ := LW.out
  have ww0 := wwc 0 _ rfl
  have ww1 := wwc 1 _ rfl
  clear wwc
  obtain ⟨mmk, mmc, _⟩ := LM.out
  have mm0 := mmc 0 _ rfl
  have mm1 := mmc 1 _ rfl
  clear mmc
  go_wp2_with fail
  refine (heldTable_any R _ 1 w10.heap.size _ LM.out.2.2.at (Nat.le_refl _) (by omega) (by omega)).mono ?_
  rintro en w11 ⟨rfl, hb⟩
  clear hz aa0 aa1 hq_a wwk ww0 ww1 mmk mm0 mm1
  have hs_w11 : w10.heap.size ≤ w11.heap.size := hb.size
  have LW := Lib.hid (LW.out.below (Tb.goes R) hb)
  have LM := Lib.hid (LM.out.below (Tb.goes (R.marked 1)) hb)
  have HA := Lib.hid (HA.out.trans (hb.mono (by omega)))
  clear hb
  obtain ⟨hz, aa0, aa1⟩ := HK.out _ HA.out
  have hq_a : w.heap.size < w11.heap.size := by omega
  obtain ⟨wwk, wwc, _⟩ := LW.out
  have ww0 := wwc 0 _ rfl
  have ww1 := wwc 1 _ rfl
  clear wwc
  obtain ⟨mmk, mmc, _⟩ := LM.out
  have mm0 := mmc 0 _ rfl
  have mm1 := mmc 1 _ rfl
  clear mmc
  have hn2 : ¬ ((1 : Int) + R.cs.length + sumR R.rs < 0) := by omega
  have hdum := hn2
  clear hdum
  go_wp2_with fail
  refine (CT_a.out _ HA.out).mono ?_
  rintro en w12 ⟨vw12, Fw12, rfl, ho, _, hb⟩
  clear hz aa0 aa1 hq_a wwk ww0 ww1 mmk mm0 mm1
  have hsp := ho.at
  have hs_w12 : w11.heap.size ≤ w12.heap.size := hb.size
  have LW := Lib.hid (LW.out.below (Tb.goes R) hb)
  have LM := Lib.hid (LM.out.below (Tb.goes (R.marked 1)) hb)
  have HA := Lib.hid (HA.out.trans (hb.mono (by omega)))
  clear ho hb
  obtain ⟨hz, aa0, aa1⟩ := HK.out _ HA.out
  have hq_a : w.heap.size < w12.heap.size := by omega
  obtain ⟨wwk, wwc, _⟩ := LW.out
  have ww0 := wwc 0 _ rfl
  have ww1 := wwc 1 _ rfl
  clear wwc
  obtain ⟨mmk, mmc, _⟩ := LM.out
  have mm0 := mmc 0 _ rfl
  have mm1 := mmc 1 _ rfl
  clear mmc
  go_wp2_with fail
  refine (CI.out _ _ _ (Nat.le_refl _) hsp).mono ?_
  rintro en w13 ⟨vw13, FH, rfl, ho, hf, hb⟩
  clear hz aa0 aa1 hq_a wwk ww0 ww1 mmk mm0 mm1
  clear hsp
  have hs_w13 : w12.heap.size ≤ w13.heap.size := hb.size
  have LW := Lib.hid (LW.out.below (Tb.goes R) hb)
  have LM := Lib.hid (LM.out.below (Tb.goes (R.marked 1)) hb)
  have HA := Lib.hid (HA.out.trans (hb.mono (by omega)))
  have HO := Lib.hid ho
  have GH := Lib.hid (show ∀ y ∈ FH, w12.heap.size ≤ y ∧ y < w13.heap.size from fun y hy => ⟨hf y hy, ho.lt y hy⟩)
  obtain ⟨pH, cH, qH, dH, rfl⟩ := ho.at.form
  clear ho hf hb
  obtain ⟨hz, aa0, aa1⟩ := HK.out _ HA.out
  have hq_a : w.heap.size < w13.heap.size := by omega
  obtain ⟨wwk, wwc, _⟩ := LW.out
  have ww0 := wwc 0 _ rfl
  have ww1 := wwc 1 _ rfl
  clear wwc
  obtain ⟨mmk, mmc, _⟩ := LM.out
  have mm0 := mmc 0 _ rfl
  have mm1 := mmc 1 _ rfl
  clear mmc
  go_wp2_with fail
  clear hz aa0 aa1 hq_a wwk ww0 ww1 mmk mm0 mm1
  obtain ⟨W13_H, eW⟩ : ∃ u, u = w13.alloc (.cells #[.slice pH R.cs.length cH, .slice qH R.rs.length dH] 33) := ⟨_, rfl⟩
  rw [← eW]
  have hszW13_H : w13.heap.size < W13_H.heap.size := by rw [eW]; simp
  have hbW : Below w13.heap.size w13 W13_H := by rw [eW]; exact (Below.refl _ _).alloc (Nat.le_refl _) _
  have LH := Lib.hid (show LocV R.Has w13.heap.size #[.slice pH R.cs.length cH, .slice qH R.rs.length dH] FH W13_H by rw [eW]; exact LocV.fresh (Tb.goes R) HO.out)
  have hs_W13_H : w13.heap.size ≤ W13_H.heap.size := hbW.size
  have LW := Lib.hid (LW.out.below (Tb.goes R) hbW)
  have LM := Lib.hid (LM.out.below (Tb.goes (R.marked 1)) hbW)
  have HA := Lib.hid (HA.out.trans (hbW.mono (by omega)))
  clear hbW eW HO
  obtain ⟨hz, aa0, aa1⟩ := HK.out _ HA.out
  have hq_a : w.heap.size < W13_H.heap.size := by omega
  obtain ⟨wwk, wwc, _⟩ := LW.out
  have ww0 := wwc 0 _ rfl
  have ww1 := wwc 1 _ rfl
  clear wwc
  obtain ⟨mmk, mmc, _⟩ := LM.out
  have mm0 := mmc 0 _ rfl
  have mm1 := mmc 1 _ rfl
  clear mmc
  obtain ⟨hhk, hhc, _⟩ := LH.out
  have hh0 := hhc 0 _ rfl
  have hh1 := hhc 1 _ rfl
  clear hhc
  go_wp2_with fail
  refine (eqTable_any R _ _ W13_H.heap.size _ LH.out.2.2.at LW.out.2.2.at (Nat.le_refl _)).mono ?_
  rintro en w14 ⟨rfl, hb⟩
  clear hz aa0 aa1 hq_a wwk ww0 ww1 mmk mm0 mm1 hhk hh0 hh1
  have hs_w14 : W13_H.heap.size ≤ w14.heap.size := hb.size
  have LW := Lib.hid (LW.out.below (Tb.goes R) hb)
  have LM := Lib.hid (LM.out.below (Tb.goes (R.marked 1)) hb)
  have LH := Lib.hid (LH.out.below (Tb.goes R) hb)
  have HA := Lib.hid (HA.out.trans (hb.mono (by omega)))
  clear hb
  obtain ⟨hz, aa0, aa1⟩ := HK.out _ HA.out
  have hq_a : w.heap.size < w14.heap.size := by omega
  obtain ⟨wwk, wwc, _⟩ := LW.out
  have ww0 := wwc 0 _ rfl
  have ww1 := wwc 1 _ rfl
  clear wwc
  obtain ⟨mmk, mmc, _⟩ := LM.out
  have mm0 := mmc 0 _ rfl
  have mm1 := mmc 1 _ rfl
  clear mmc
  obtain ⟨hhk, hhc, _⟩ := LH.out
  have hh0 := hhc 0 _ rfl
  have hh1 := hhc 1 _ rfl
  clear hhc
  go_wp2_with fail
  refine (heldTable_any R _ 1 w14.heap.size _ LM.out.2.2.at (Nat.le_refl _) (by omega) (by omega)).mono ?_
  rintro en w15 ⟨rfl, hb⟩
  clear hz aa0 aa1 hq_a wwk ww0 ww1 mmk mm0 mm1 hhk hh0 hh1
  have hs_w15 : w14.heap.size ≤ w15.heap.size := hb.size
  have LW := Lib.hid (LW.out.below (Tb.goes R) hb)
  have LM := Lib.hid (LM.out.below (Tb.goes (R.marked 1)) hb)
  have LH := Lib.hid (LH.out.below (Tb.goes R) hb)
  have HA := Lib.hid (HA.out.trans (hb.mono (by omega)))
  clear hb
  obtain ⟨hz, aa0, aa1⟩ := HK.out _ HA.out
  have hq_a : w.heap.size < w15.heap.size := by omega
  obtain ⟨wwk, wwc, _⟩ := LW.out
  have ww0 := wwc 0 _ rfl
  have ww1 := wwc 1 _ rfl
  clear wwc
  obtain ⟨mmk, mmc, _⟩ := LM.out
  have mm0 := mmc 0 _ rfl
  have mm1 := mmc 1 _ rfl
  clear mmc
  obtain ⟨hhk, hhc, _⟩ := LH.out
  have hh0 := hhc 0 _ rfl
  have hh1 := hhc 1 _ rfl
  clear hhc
  go_wp2_with fail
  go_ret
  exact ⟨rfl, HV.out.trans (HA.out.mono (by omega))⟩
end Go.Proofs.Ytfdkmngkpihpbaa
