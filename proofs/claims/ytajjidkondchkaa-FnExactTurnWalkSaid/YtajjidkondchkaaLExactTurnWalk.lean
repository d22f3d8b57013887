/- The walk of FnExactTurnWalk. -/
import Derived.Test.YtajjidkondchkaaWkT2
import Derived.Test.YtajjidkondchkaaKindsG
import Derived.Deep.RegionHeld3
import Derived.Deep.DeepCutAuto
namespace Go.Proofs.Ytajjidkondchkaa
open Go.RowKit

set_option maxRecDepth 100000 in
set_option maxHeartbeats 16000000 in
theorem lawExactTurnWalk (x : Wk) (v_x : Value) (w : World) (h_x : x.At w.heap.size w v_x) (hok_x : x.Ok) :
    Calls Try.prog 6 #[v_x] w fun en w' => en = .returned (.bool true) ∧ Below w.heap.size w w' := by
  have HE_x := Lib.hid h_x
  have HOK_x := Lib.hid hok_x
  obtain ⟨p0x, c0x, q0x, d0x, rfl⟩ := h_x.form
  clear h_x hok_x
  obtain ⟨R, eR⟩ : ∃ R : Wk, R = wkTurn x := ⟨_, rfl⟩
  obtain ⟨W0, eW⟩ : ∃ W0, W0 = (w.alloc (.cells #[.slice p0x x.ns.length c0x, .slice q0x x.es.length d0x] 28)) := ⟨_, rfl⟩
  have HV := Lib.hid (show Below w.heap.size w W0 by rw [eW]; exact (Below.refl w.heap.size w).alloc (by simp) _)
  have HK := Lib.hid (show ∀ wk, Below (w.heap.size + 1) W0 wk → w.heap.size + 1 ≤ wk.heap.size ∧ wk.cell? ⟨w.heap.size, 0, none⟩ = some (.slice p0x x.ns.length c0x) ∧ wk.cell? ⟨w.heap.size, 1, none⟩ = some (.slice q0x x.es.length d0x) from
    fun wk hk => by rw [eW] at hk; exact ⟨by have := hk.size; simp at this; omega, keepc hk (by omega) (by simp [go_sem]), keepc hk (by omega) (by simp [go_sem])⟩)
  have hs0 : w.heap.size + 1 ≤ W0.heap.size := by rw [eW]; simp
  have HA := Lib.hid (Below.refl (w.heap.size + 1) W0)
  have HEA_x := Lib.hid (show ∀ wk, Below (w.heap.size + 1) W0 wk → x.At w.heap.size wk (.agg #[.slice p0x x.ns.length c0x, .slice q0x x.es.length d0x]) from fun wk hk => HE_x.out.to (HV.out.trans (hk.mono (by omega))) (Nat.le_refl _))
  have EW := Lib.hid eW
  clear eW HE_x
  go_enter Try.func6, Try.ntmps6
  go_wp2_with fail
  rw [← EW.out]
  refine (szWalk_any x _ 1048576 w.heap.size _ (HEA_x.out _ HA.out) (by omega) (by omega) (by omega)).mono ?_
  rintro en w1 ⟨r_x, rfl, hr_x, hb⟩
  have hs_w1 : W0.heap.size ≤ w1.heap.size := hb.size
  have HA := Lib.hid (HA.out.trans (hb.mono (by omega)))
  clear hb
  obtain ⟨hz, ax0, ax1⟩ := HK.out _ HA.out
  have hq_x : w.heap.size < w1.heap.size := by omega
  rcases hr_x with hr_x | ⟨hr0_x, hr_x⟩
  · have hneg : r_x < 0 := by omega
    clear hr_x
    go_wp2_with fail
    go_ret
    exact ⟨rfl, HV.out.trans (HA.out.mono (by omega))⟩
  have hneed_x : x.need ≤ 1048576 := by omega
  have hl1_x : x.ns.length ≤ 1048576 := by unfold Wk.need at hneed_x; omega
  have hl2_x : x.es.length ≤ 1048576 := by unfold Wk.need at hneed_x; omega
  clear hr_x
  have HRB := Lib.hid (show R.ns.length ≤ 1048576 ∧ R.es.length ≤ 1048576 from eR ▸ ⟨by simp only [wkTurn, List.length_reverse]; unfold Wk.need at hneed_x; omega, by simp only [wkTurn, List.length_reverse]; unfold Wk.need at hneed_x; omega⟩)
  have hRB := HRB.out
  have CS := Lib.hid (fun (v_x : Value) (B : Nat) (E : World) (hB : B ≤ E.heap.size) (h_x : x.At B E v_x) => eR ▸ specTurnWalk_any x v_x B E h_x hB hneed_x)
  have CI := Lib.hid (fun (v_x : Value) (B : Nat) (E : World) (hB : B ≤ E.heap.size) (h_x : x.At B E v_x) => eR ▸ turnWalk_any x v_x B E h_x hB hneed_x)
  have CT_x := Lib.hid (fun (E : World) (hE : Below (w.heap.size + 1) W0 E) => (show Calls Try.prog 15 #[.agg #[.slice p0x x.ns.length c0x, .slice q0x x.es.length d0x]] E _ from (fun (hv : x.At w.heap.size E (.agg #[.slice p0x x.ns.length c0x, .slice q0x x.es.length d0x])) (hB : w.heap.size ≤ E.heap.size) => toWalk_any x _ w.heap.size E hv hB hneed_x) (HEA_x.out E hE) (by have := hE.size; omega)))
  clear eR
  go_wp2_with fail
  refine (CT_x.out _ HA.out).mono ?_
  rintro en w2 ⟨vw2, Fw2, rfl, ho, _, hb⟩
  clear hz ax0 ax1 hq_x
  have hsp := ho.at
  have hs_w2 : w1.heap.size ≤ w2.heap.size := hb.size
  have HA := Lib.hid (HA.out.trans (hb.mono (by omega)))
  clear ho hb
  obtain ⟨hz, ax0, ax1⟩ := HK.out _ HA.out
  have hq_x : w.heap.size < w2.heap.size := by omega
  go_wp2_with fail
  refine (CS.out _ _ _ (Nat.le_refl _) hsp).mono ?_
  rintro en w3 ⟨vw3, FW, rfl, ho, hf, hb⟩
  clear hz ax0 ax1 hq_x
  clear hsp
  have hs_w3 : w2.heap.size ≤ w3.heap.size := hb.size
  have HA := Lib.hid (HA.out.trans (hb.mono (by omega)))
  have HO := Lib.hid ho
  have GW := Lib.hid (show ∀ y ∈ FW, w2.heap.size ≤ y ∧ y < w3.heap.size from fun y hy => ⟨hf y hy, ho.lt y hy⟩)
  obtain ⟨pW, cW, qW, dW, rfl⟩ := ho.at.form
  clear ho hf hb
  obtain ⟨hz, ax0, ax1⟩ := HK.out _ HA.out
  have hq_x : w.heap.size < w3.heap.size := by omega
  go_wp2_with fail
  clear hz ax0 ax1 hq_x
  obtain ⟨W3_W, eW⟩ : ∃ u, u = w3.alloc (.cells #[.slice pW R.ns.length cW, .slice qW R.es.length dW] 37) := ⟨_, rfl⟩
  rw [← eW]
  have hszW3_W : w3.heap.size < W3_W.heap.size := by rw [eW]; simp
  have hbW : Below w3.heap.size w3 W3_W := by rw [eW]; exact (Below.refl _ _).alloc (Nat.le_refl _) _
  have LW := Lib.hid (show LocV R.Has w3.heap.size #[.slice pW R.ns.length cW, .slice qW R.es.length dW] FW W3_W by rw [eW]; exact LocV.fresh (Wk.goes R) HO.out)
  have hs_W3_W : w3.heap.size ≤ W3_W.heap.size := hbW.size
  have HA := Lib.hid (HA.out.trans (hbW.mono (by omega)))
  clear hbW eW HO
  obtain ⟨hz, ax0, ax1⟩ := HK.out _ HA.out
  have hq_x : w.heap.size < W3_W.heap.size := by omega
  obtain ⟨wwk, wwc, _⟩ := LW.out
  have ww0 := wwc 0 _ rfl
  have ww1 := wwc 1 _ rfl
  clear wwc
  go_wp2_with fail
  refine (CT_x.out _ HA.out).mono ?_
  rintro en w4 ⟨vw4, FX, rfl, ho, hf, hb⟩
  clear hz ax0 ax1 hq_x wwk ww0 ww1
  have hs_w4 : W3_W.heap.size ≤ w4.heap.size := hb.size
  have LW := Lib.hid (LW.out.below (Wk.goes R) hb)
  have HA := Lib.hid (HA.out.trans (hb.mono (by omega)))
  have HO := Lib.hid ho
  have GX := Lib.hid (show ∀ y ∈ FX, W3_W.heap.size ≤ y ∧ y < w4.heap.size from fun y hy => ⟨hf y hy, ho.lt y hy⟩)
  obtain ⟨pX, cX, qX, dX, rfl⟩ := ho.at.form
  clear ho hf hb
  obtain ⟨hz, ax0, ax1⟩ := HK.out _ HA.out
  have hq_x : w.heap.size < w4.heap.size := by omega
  obtain ⟨wwk, wwc, _⟩ := LW.out
  have ww0 := wwc 0 _ rfl
  have ww1 := wwc 1 _ rfl
  clear wwc
  go_wp2_with fail
  clear hz ax0 ax1 hq_x wwk ww0 ww1
  obtain ⟨W4_X, eW⟩ : ∃ u, u = w4.alloc (.cells #[.slice pX x.ns.length cX, .slice qX x.es.length dX] 37) := ⟨_, rfl⟩
  rw [← eW]
  have hszW4_X : w4.heap.size < W4_X.heap.size := by rw [eW]; simp
  have hbW : Below w4.heap.size w4 W4_X := by rw [eW]; exact (Below.refl _ _).alloc (Nat.le_refl _) _
  have LX := Lib.hid (show LocV x.Has w4.heap.size #[.slice pX x.ns.length cX, .slice qX x.es.length dX] FX W4_X by rw [eW]; exact LocV.fresh (Wk.goes x) HO.out)
  have hs_W4_X : w4.heap.size ≤ W4_X.heap.size := hbW.size
  have LW := Lib.hid (LW.out.below (Wk.goes R) hbW)
  have HA := Lib.hid (HA.out.trans (hbW.mono (by omega)))
  clear hbW eW HO
  obtain ⟨hz, ax0, ax1⟩ := HK.out _ HA.out
  have hq_x : w.heap.size < W4_X.heap.size := by omega
  obtain ⟨wwk, wwc, _⟩ := LW.out
  have ww0 := wwc 0 _ rfl
  have ww1 := wwc 1 _ rfl
  clear wwc
  obtain ⟨xxk, xxc, _⟩ := LX.out
  have xx0 := xxc 0 _ rfl
  have xx1 := xxc 1 _ rfl
  clear xxc
  go_wp2_with fail
  refine (CI.out _ W4_X.heap.size _ (Nat.le_refl _) (LX.out.2.2.at.to (Below.refl _ _) (Nat.le_refl _))).mono ?_
  rintro en w5 ⟨vw5, FG, rfl, ho, hf, hb⟩
  clear hz ax0 ax1 hq_x wwk ww0 ww1 xxk xx0 xx1
  have hs_w5 : W4_X.heap.size ≤ w5.heap.size := hb.size
  have LW := Lib.hid (LW.out.below (Wk.goes R) hb)
  have LX := Lib.hid (LX.out.below (Wk.goes x) hb)
  have HA := Lib.hid (HA.out.trans (hb.mono (by omega)))
  have HO := Lib.hid ho
  have GG := Lib.hid (show ∀ y ∈ FG, W4_X.heap.size ≤ y ∧ y < w5.heap.size from fun y hy => ⟨hf y hy, ho.lt y hy⟩)
  obtain ⟨pG, cG, qG, dG, rfl⟩ := ho.at.form
  clear ho hf hb
  obtain ⟨hz, ax0, ax1⟩ := HK.out _ HA.out
  have hq_x : w.heap.size < w5.heap.size := by omega
  obtain ⟨wwk, wwc, _⟩ := LW.out
  have ww0 := wwc 0 _ rfl
  have ww1 := wwc 1 _ rfl
  clear wwc
  obtain ⟨xxk, xxc, _⟩ := LX.out
  have xx0 := xxc 0 _ rfl
  have xx1 := xxc 1 _ rfl
  clear xxc
  go_wp2_with fail
  clear hz ax0 ax1 hq_x wwk ww0 ww1 xxk xx0 xx1
  obtain ⟨W5_G, eW⟩ : ∃ u, u = w5.alloc (.cells #[.slice pG R.ns.length cG, .slice qG R.es.length dG] 37) := ⟨_, rfl⟩
  rw [← eW]
  have hszW5_G : w5.heap.size < W5_G.heap.size := by rw [eW]; simp
  have hbW : Below w5.heap.size w5 W5_G := by rw [eW]; exact (Below.refl _ _).alloc (Nat.le_refl _) _
  have LG := Lib.hid (show LocV R.Has w5.heap.size #[.slice pG R.ns.length cG, .slice qG R.es.length dG] FG W5_G by rw [eW]; exact LocV.fresh (Wk.goes R) HO.out)
  have hs_W5_G : w5.heap.size ≤ W5_G.heap.size := hbW.size
  have LW := Lib.hid (LW.out.below (Wk.goes R) hbW)
  have LX := Lib.hid (LX.out.below (Wk.goes x) hbW)
  have HA := Lib.hid (HA.out.trans (hbW.mono (by omega)))
  clear hbW eW HO
  obtain ⟨hz, ax0, ax1⟩ := HK.out _ HA.out
  have hq_x : w.heap.size < W5_G.heap.size := by omega
  obtain ⟨wwk, wwc, _⟩ := LW.out
  have ww0 := wwc 0 _ rfl
  have ww1 := wwc 1 _ rfl
  clear wwc
  obtain ⟨xxk, xxc, _⟩ := LX.out
  have xx0 := xxc 0 _ rfl
  have xx1 := xxc 1 _ rfl
  clear xxc
  obtain ⟨ggk, ggc, _⟩ := LG.out
  have gg0 := ggc 0 _ rfl
  have gg1 := ggc 1 _ rfl
  clear ggc
  go_wp2_with fail
  refine (eqWalk_any R _ _ W5_G.heap.size _ LG.out.2.2.at LW.out.2.2.at (Nat.le_refl _)).mono ?_
  rintro en w6 ⟨rfl, hb⟩
  clear hz ax0 ax1 hq_x wwk ww0 ww1 xxk xx0 xx1 ggk gg0 gg1
  have hs_w6 : W5_G.heap.size ≤ w6.heap.size := hb.size
  have LW := Lib.hid (LW.out.below (Wk.goes R) hb)
  have LX := Lib.hid (LX.out.below (Wk.goes x) hb)
  have LG := Lib.hid (LG.out.below (Wk.goes R) hb)
  have HA := Lib.hid (HA.out.trans (hb.mono (by omega)))
  clear hb
  obtain ⟨hz, ax0, ax1⟩ := HK.out _ HA.out
  have hq_x : w.heap.size < w6.heap.size := by omega
  obtain ⟨wwk, wwc, _⟩ := LW.out
  have ww0 := wwc 0 _ rfl
  have ww1 := wwc 1 _ rfl
  clear wwc
  obtain ⟨xxk, xxc, _⟩ := LX.out
  have xx0 := xxc 0 _ rfl
  have xx1 := xxc 1 _ rfl
  clear xxc
  obtain ⟨ggk, ggc, _⟩ := LG.out
  have gg0 := ggc 0 _ rfl
  have gg1 := ggc 1 _ rfl
  clear ggc
  have hA0 := HA.out
  have rr0 := Below.refl w6.heap.size w6
  go_upto_region 10 with fail
  go_cut [31] (fun s wx => s = .bool false ∧ Below w6.heap.size w6 wx)
  case first =>
    go_region_held3 (fun w' => w'.cell? ⟨w.heap.size, 0, none⟩ = some (.slice p0x x.ns.length c0x) ∧ w'.cell? ⟨w.heap.size, 1, none⟩ = some (.slice q0x x.es.length d0x) ∧ w'.cell? ⟨w4.heap.size, 0, none⟩ = some (.slice pX x.ns.length cX) ∧ w'.cell? ⟨w4.heap.size, 1, none⟩ = some (.slice qX x.es.length dX))
      (exact ⟨keepc (show Below w6.heap.size w6 _ by ((repeat (first | with_reducible assumption | with_reducible exact Below.refl _ _ | refine Below.setCell ?_ (by (first | omega | (simp; omega) | (simp; done) | fail "sml")) _ | refine Below.drew ?_ | refine Below.alloc ?_ (by (first | omega | (simp; omega) | (simp; done) | fail "sml")) _)); first | done | fail "chs")) hq_x ax0, keepc (show Below w6.heap.size w6 _ by ((repeat (first | with_reducible assumption | with_reducible exact Below.refl _ _ | refine Below.setCell ?_ (by (first | omega | (simp; omega) | (simp; done) | fail "sml")) _ | refine Below.drew ?_ | refine Below.alloc ?_ (by (first | omega | (simp; omega) | (simp; done) | fail "sml")) _)); first | done | fail "chs")) hq_x ax1, keepc (show Below w6.heap.size w6 _ by ((repeat (first | with_reducible assumption | with_reducible exact Below.refl _ _ | refine Below.setCell ?_ (by (first | omega | (simp; omega) | (simp; done) | fail "sml")) _ | refine Below.drew ?_ | refine Below.alloc ?_ (by (first | omega | (simp; omega) | (simp; done) | fail "sml")) _)); first | done | fail "chs")) xxk xx0, keepc (show Below w6.heap.size w6 _ by ((repeat (first | with_reducible assumption | with_reducible exact Below.refl _ _ | refine Below.setCell ?_ (by (first | omega | (simp; omega) | (simp; done) | fail "sml")) _ | refine Below.drew ?_ | refine Below.alloc ?_ (by (first | omega | (simp; omega) | (simp; done) | fail "sml")) _)); first | done | fail "chs")) xxk xx1⟩)
      (first
        | (go_at_call 15; refine (CT_x.out _ (hA0.trans (Below.mono (show Below w6.heap.size w6 _ by ((repeat (first | with_reducible assumption | with_reducible exact Below.refl _ _ | refine Below.setCell ?_ (by (first | omega | (simp; omega) | (simp; done) | fail "sml")) _ | refine Below.drew ?_ | refine Below.alloc ?_ (by (first | omega | (simp; omega) | (simp; done) | fail "sml")) _)); first | done | fail "chs")) (by omega)))).mono ?_; rintro en wa ⟨va, Fa, rfl, hh, _, hb⟩; have hka := Below.trans (show Below w6.heap.size w6 _ by ((repeat (first | with_reducible assumption | with_reducible exact Below.refl _ _ | refine Below.setCell ?_ (by (first | omega | (simp; omega) | (simp; done) | fail "sml")) _ | refine Below.drew ?_ | refine Below.alloc ?_ (by (first | omega | (simp; omega) | (simp; done) | fail "sml")) _)); first | done | fail "chs")) (hb.mono (by (first | omega | (simp; omega) | (simp; done) | fail "sml"))); have za := hka.size; have HHa := Lib.hid hh.at; clear hh hb)
        | (go_at_call 18; refine (eqWalk_any x _ _ wa.heap.size _ (LX.out.2.2.at.to (by ((repeat (first | with_reducible assumption | with_reducible exact Below.refl _ _ | refine Below.setCell ?_ (by (first | omega | (simp; omega) | (simp; done) | fail "sml")) _ | refine Below.drew ?_ | refine Below.alloc ?_ (by (first | omega | (simp; omega) | (simp; done) | fail "sml")) _)); first | done | fail "chs")) (by omega)) (HHa.out.to (by ((repeat (first | with_reducible assumption | with_reducible exact Below.refl _ _ | refine Below.setCell ?_ (by (first | omega | (simp; omega) | (simp; done) | fail "sml")) _ | refine Below.drew ?_ | refine Below.alloc ?_ (by (first | omega | (simp; omega) | (simp; done) | fail "sml")) _)); first | done | fail "chs")) (Nat.le_refl _)) (by (first | omega | (simp; omega) | (simp; done) | fail "sml"))).mono ?_; rintro en wb ⟨rfl, hbb⟩; have hkb := Below.trans (show Below w6.heap.size w6 _ by ((repeat (first | with_reducible assumption | with_reducible exact Below.refl _ _ | refine Below.setCell ?_ (by (first | omega | (simp; omega) | (simp; done) | fail "sml")) _ | refine Below.drew ?_ | refine Below.alloc ?_ (by (first | omega | (simp; omega) | (simp; done) | fail "sml")) _)); first | done | fail "chs")) (hbb.mono (by first | omega | (simp; omega))); clear hbb))
    all_goals (go_wp2_with fail; go_meet)
    all_goals exact ⟨rfl, by ((repeat (first | with_reducible assumption | with_reducible exact Below.refl _ _ | refine Below.setCell ?_ (by (first | omega | (simp; omega) | (simp; done) | fail "sml")) _ | refine Below.drew ?_ | refine Below.alloc ?_ (by (first | omega | (simp; omega) | (simp; done) | fail "sml")) _)); first | done | fail "chs")⟩
  case rest =>
  obtain ⟨rfl, hbx⟩ := hcut
  clear hz ax0 ax1 hq_x wwk ww0 ww1 xxk xx0 xx1 ggk gg0 gg1
  clear hA0 rr0
  obtain ⟨w7, ew⟩ : ∃ u, u = wc := ⟨_, rfl⟩
  subst ew
  have hs_w7 : w6.heap.size ≤ w7.heap.size := hbx.size
  have LW := Lib.hid (LW.out.below (Wk.goes R) hbx)
  have LX := Lib.hid (LX.out.below (Wk.goes x) hbx)
  have LG := Lib.hid (LG.out.below (Wk.goes R) hbx)
  have HA := Lib.hid (HA.out.trans (hbx.mono (by omega)))
  clear hbx
  obtain ⟨hz, ax0, ax1⟩ := HK.out _ HA.out
  have hq_x : w.heap.size < w7.heap.size := by omega
  obtain ⟨wwk, wwc, _⟩ := LW.out
  have ww0 := wwc 0 _ rfl
  have ww1 := wwc 1 _ rfl
  clear wwc
  obtain ⟨xxk, xxc, _⟩ := LX.out
  have xx0 := xxc 0 _ rfl
  have xx1 := xxc 1 _ rfl
  clear xxc
  obtain ⟨ggk, ggc, _⟩ := LG.out
  have gg0 := ggc 0 _ rfl
  have gg1 := ggc 1 _ rfl
  clear ggc
  go_wp2_with fail
  refine (markWalk_any x _ FX 1 _ LX.out.2.2 (by omega) (by omega)).mono ?_
  rintro en w8 ⟨rfl, ho, hc⟩
  clear hz ax0 ax1 hq_x wwk ww0 ww1 xxk xx0 xx1 ggk gg0 gg1
  have hs_w8 : w7.heap.size ≤ w8.heap.size := hc.size
  have HA := Lib.hid (HA.out.trans (hc.below (by omega) (fun y hy => by have := GX.out y hy; omega)))
  have LW := Lib.hid (LW.out.chg (Wk.goes R) hc (fun hy => by have := GX.out _ hy; omega) (fun y hy hy2 => by have h1 := GW.out y hy; have h2 := GX.out y hy2; omega))
  have LG := Lib.hid (LG.out.chg (Wk.goes R) hc (fun hy => by have := GX.out _ hy; omega) (fun y hy hy2 => by have h1 := GG.out y hy; have h2 := GX.out y hy2; omega))
  clear hc ho LX
  obtain ⟨hz, ax0, ax1⟩ := HK.out _ HA.out
  have hq_x : w.heap.size < w8.heap.size := by omega
  obtain ⟨wwk, wwc, _⟩ := LW.out
  have ww0 := wwc 0 _ rfl
  have ww1 := wwc 1 _ rfl
  clear wwc
  obtain ⟨ggk, ggc, _⟩ := LG.out
  have gg0 := ggc 0 _ rfl
  have gg1 := ggc 1 _ rfl
  clear ggc
  have hn1 : ¬ ((1 : Int) + x.ns.length + x.es.length < 0) := by omega
  go_wp2_with fail
  refine (eqWalk_any R _ _ w8.heap.size _ LG.out.2.2.at LW.out.2.2.at (Nat.le_refl _)).mono ?_
  rintro en w9 ⟨rfl, hb⟩
  clear hz ax0 ax1 hq_x wwk ww0 ww1 ggk gg0 gg1
  have hs_w9 : w8.heap.size ≤ w9.heap.size := hb.size
  have LW := Lib.hid (LW.out.below (Wk.goes R) hb)
  have LG := Lib.hid (LG.out.below (Wk.goes R) hb)
  have HA := Lib.hid (HA.out.trans (hb.mono (by omega)))
  clear hb
  obtain ⟨hz, ax0, ax1⟩ := HK.out _ HA.out
  have hq_x : w.heap.size < w9.heap.size := by omega
  obtain ⟨wwk, wwc, _⟩ := LW.out
  have ww0 := wwc 0 _ rfl
  have ww1 := wwc 1 _ rfl
  clear wwc
  obtain ⟨ggk, ggc, _⟩ := LG.out
  have gg0 := ggc 0 _ rfl
  have gg1 := ggc 1 _ rfl
  clear ggc
  clear hn1
  go_wp2_with fail
  refine (markWalk_any R _ FG 1 _ LG.out.2.2 (by omega) (by omega)).mono ?_
  rintro en w10 ⟨rfl, ho, hc⟩
  clear hz ax0 ax1 hq_x wwk ww0 ww1 ggk gg0 gg1
  have hs_w10 : w9.heap.size ≤ w10.heap.size := hc.size
  have HA := Lib.hid (HA.out.trans (hc.below (by omega) (fun y hy => by have := GG.out y hy; omega)))
  have LW := Lib.hid (LW.out.chg (Wk.goes R) hc (fun hy => by have := GG.out _ hy; omega) (fun y hy hy2 => by have h1 := GW.out y hy; have h2 := GG.out y hy2; omega))
  have LM := Lib.hid (LG.out.turn (Q := (R.marked 1).Has) hc (fun hy => by have := GG.out _ hy; omega) ho)
  clear hc ho LG
  obtain ⟨hz, ax0, ax1⟩ := HK.out _ HA.out
  have hq_x : w.heap.size < w10.heap.size := by omega
  obtain ⟨wwk, wwc, _⟩ := LW.out
  have ww0 := wwc 0 _ rfl
  have ww1 := wwc 1 _ rfl
  clear wwc
  obtain ⟨mmk, mmc, _⟩ := LM.out
  have mm0 := mmc 0 _ rfl
  have mm1 := mmc 1 _ rfl
  clear mmc
  go_wp2_with fail
  refine (heldWalk_any R _ 1 w10.heap.size _ LM.out.2.2.at (Nat.le_refl _) (by omega) (by omega)).mono ?_
  rintro en w11 ⟨rfl, hb⟩
  clear hz ax0 ax1 hq_x wwk ww0 ww1 mmk mm0 mm1
  have hs_w11 : w10.heap.size ≤ w11.heap.size := hb.size
  have LW := Lib.hid (LW.out.below (Wk.goes R) hb)
  have LM := Lib.hid (LM.out.below (Wk.goes (R.marked 1)) hb)
  have HA := Lib.hid (HA.out.trans (hb.mono (by omega)))
  clear hb
  obtain ⟨hz, ax0, ax1⟩ := HK.out _ HA.out
  have hq_x : w.heap.size < w11.heap.size := by omega
  obtain ⟨wwk, wwc, _⟩ := LW.out
  have ww0 := wwc 0 _ rfl
  have ww1 := wwc 1 _ rfl
  clear wwc
  obtain ⟨mmk, mmc, _⟩ := LM.out
  have mm0 := mmc 0 _ rfl
  have mm1 := mmc 1 _ rfl
  clear mmc
  have hn2 : ¬ ((1 : Int) + R.ns.length + R.es.length < 0) := by omega
  have hdum := hn2
  clear hdum
  go_wp2_with fail
  refine (CT_x.out _ HA.out).mono ?_
  rintro en w12 ⟨vw12, Fw12, rfl, ho, _, hb⟩
  clear hz ax0 ax1 hq_x wwk ww0 ww1 mmk mm0 mm1
  have hsp := ho.at
  have hs_w12 : w11.heap.size ≤ w12.heap.size := hb.size
  have LW := Lib.hid (LW.out.below (Wk.goes R) hb)
  have LM := Lib.hid (LM.out.below (Wk.goes (R.marked 1)) hb)
  have HA := Lib.hid (HA.out.trans (hb.mono (by omega)))
  clear ho hb
  obtain ⟨hz, ax0, ax1⟩ := HK.out _ HA.out
  have hq_x : w.heap.size < w12.heap.size := by omega
  obtain ⟨wwk, wwc, _⟩ := LW.out
  have ww0 := wwc 0 _ rfl
  have ww1 := wwc 1 _ rfl
  clear wwc
  obtain ⟨mmk, mmc, _⟩ := LM.out
  have mm0 := mmc 0 _ rfl
  have mm1 := mmc 1 _ rfl
  clear mmc
  go_wp2_with fail
  refine (CI.out _ _ _ (Nat.le_refl _) hsp).mono ?_
  rintro en w13 ⟨vw13, FH, rfl, ho, hf, hb⟩
  clear hz ax0 ax1 hq_x wwk ww0 ww1 mmk mm0 mm1
  clear hsp
  have hs_w13 : w12.heap.size ≤ w13.heap.size := hb.size
  have LW := Lib.hid (LW.out.below (Wk.goes R) hb)
  have LM := Lib.hid (LM.out.below (Wk.goes (R.marked 1)) hb)
  have HA := Lib.hid (HA.out.trans (hb.mono (by omega)))
  have HO := Lib.hid ho
  have GH := Lib.hid (show ∀ y ∈ FH, w12.heap.size ≤ y ∧ y < w13.heap.size from fun y hy => ⟨hf y hy, ho.lt y hy⟩)
  obtain ⟨pH, cH, qH, dH, rfl⟩ := ho.at.form
  clear ho hf hb
  obtain ⟨hz, ax0, ax1⟩ := HK.out _ HA.out
  have hq_x : w.heap.size < w13.heap.size := by omega
  obtain ⟨wwk, wwc, _⟩ := LW.out
  have ww0 := wwc 0 _ rfl
  have ww1 := wwc 1 _ rfl
  clear wwc
  obtain ⟨mmk, mmc, _⟩ := LM.out
  have mm0 := mmc 0 _ rfl
  have mm1 := mmc 1 _ rfl
  clear mmc
  go_wp2_with fail
  clear hz ax0 ax1 hq_x wwk ww0 ww1 mmk mm0 mm1
  obtain ⟨W13_H, eW⟩ : ∃ u, u = w13.alloc (.cells #[.slice pH R.ns.length cH, .slice qH R.es.length dH] 37) := ⟨_, rfl⟩
  rw [← eW]
  have hszW13_H : w13.heap.size < W13_H.heap.size := by rw [eW]; simp
  have hbW : Below w13.heap.size w13 W13_H := by rw [eW]; exact (Below.refl _ _).alloc (Nat.le_refl _) _
  have LH := Lib.hid (show LocV R.Has w13.heap.size #[.slice pH R.ns.length cH, .slice qH R.es.length dH] FH W13_H by rw [eW]; exact LocV.fresh (Wk.goes R) HO.out)
  have hs_W13_H : w13.heap.size ≤ W13_H.heap.size := hbW.size
  have LW := Lib.hid (LW.out.below (Wk.goes R) hbW)
  have LM := Lib.hid (LM.out.below (Wk.goes (R.marked 1)) hbW)
  have HA := Lib.hid (HA.out.trans (hbW.mono (by omega)))
  clear hbW eW HO
  obtain ⟨hz, ax0, ax1⟩ := HK.out _ HA.out
  have hq_x : w.heap.size < W13_H.heap.size := by omega
  obtain ⟨wwk, wwc, _⟩ := LW.out
  have ww0 := wwc 0 _ rfl
  have ww1 := wwc 1 _ rfl
  clear wwc
  obtain ⟨mmk, mmc, _⟩ := LM.out
  have mm0 := mmc 0 _ rfl
  have mm1 := mmc 1 _ rfl
  clear mmc
  obtain ⟨hhk, hhc, _⟩ := LH.out
  have hh0 := hhc 0 _ rfl
  have hh1 := hhc 1 _ rfl
  clear hhc
  go_wp2_with fail
  refine (eqWalk_any R _ _ W13_H.heap.size _ LH.out.2.2.at LW.out.2.2.at (Nat.le_refl _)).mono ?_
  rintro en w14 ⟨rfl, hb⟩
  clear hz ax0 ax1 hq_x wwk ww0 ww1 mmk mm0 mm1 hhk hh0 hh1
  have hs_w14 : W13_H.heap.size ≤ w14.heap.size := hb.size
  have LW := Lib.hid (LW.out.below (Wk.goes R) hb)
  have LM := Lib.hid (LM.out.below (Wk.goes (R.marked 1)) hb)
  have LH := Lib.hid (LH.out.below (Wk.goes R) hb)
  have HA := Lib.hid (HA.out.trans (hb.mono (by omega)))
  clear hb
  obtain ⟨hz, ax0, ax1⟩ := HK.out _ HA.out
  have hq_x : w.heap.size < w14.heap.size := by omega
  obtain ⟨wwk, wwc, _⟩ := LW.out
  have ww0 := wwc 0 _ rfl
  have ww1 := wwc 1 _ rfl
  clear wwc
  obtain ⟨mmk, mmc, _⟩ := LM.out
  have mm0 := mmc 0 _ rfl
  have mm1 := mmc 1 _ rfl
  clear mmc
  obtain ⟨hhk, hhc, _⟩ := LH.out
  have hh0 := hhc 0 _ rfl
  have hh1 := hhc 1 _ rfl
  clear hhc
  go_wp2_with fail
  refine (heldWalk_any R _ 1 w14.heap.size _ LM.out.2.2.at (Nat.le_refl _) (by omega) (by omega)).mono ?_
  rintro en w15 ⟨rfl, hb⟩
  clear hz ax0 ax1 hq_x wwk ww0 ww1 mmk mm0 mm1 hhk hh0 hh1
  have hs_w15 : w14.heap.size ≤ w15.heap.size := hb.size
  have LW := Lib.hid (LW.out.below (Wk.goes R) hb)
  have LM := Lib.hid (LM.out.below (Wk.goes (R.marked 1)) hb)
  have LH := Lib.hid (LH.out.below (Wk.goes R) hb)
  have HA := Lib.hid (HA.out.trans (hb.mono (by omega)))
  clear hb
  obtain ⟨hz, ax0, ax1⟩ := HK.out _ HA.out
  have hq_x : w.heap.size < w15.heap.size := by omega
  obtain ⟨wwk, wwc, _⟩ := LW.out
  have ww0 := wwc 0 _ rfl
  have ww1 := wwc 1 _ rfl
  clear wwc
  obtain ⟨mmk, mmc, _⟩ := LM.out
  have mm0 := mmc 0 _ rfl
  have mm1 := mmc 1 _ rfl
  clear mmc
  obtain ⟨hhk, hhc, _⟩ := LH.out
  have hh0 := hhc 0 _ rfl
  have hh1 := hhc 1 _ rfl
  clear hhc
  go_wp2_with fail
  go_ret
  exact ⟨rfl, HV.out.trans (HA.out.mono (by omega))⟩
end Go.Proofs.Ytajjidkondchkaa
