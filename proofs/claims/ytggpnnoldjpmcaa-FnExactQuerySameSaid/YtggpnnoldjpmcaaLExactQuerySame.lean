/- The walk of FnExactQuerySame. -/
import Derived.Test.YtggpnnoldjpmcaaSQyS
import Derived.Test.YtggpnnoldjpmcaaQyS
import Derived.Test.YtggpnnoldjpmcaaKindsQ
import Derived.Deep.RegionHeld3
import Derived.Deep.DeepCutAuto
namespace Go.Proofs.Ytggpnnoldjpmcaa
open Go.RowKit

set_option maxRecDepth 100000 in
set_option maxHeartbeats 16000000 in
theorem lawExactQuerySame (x : Qy) (y : Qy) (v_x : Value) (v_y : Value) (w : World) (h_x : x.At w.heap.size w v_x) (h_y : y.At w.heap.size w v_y) (hok_x : x.Ok) (hok_y : y.Ok) :
    Calls Try.prog 3 #[v_x, v_y] w fun en w' => en = .returned (.bool true) ∧ Below w.heap.size w w' := by
  have HE_x := Lib.hid h_x
  have HOK_x := Lib.hid hok_x
  have HE_y := Lib.hid h_y
  have HOK_y := Lib.hid hok_y
  obtain ⟨p0x, c0x, q0x, d0x, rfl⟩ := h_x.form
  obtain ⟨p0y, c0y, q0y, d0y, rfl⟩ := h_y.form
  clear h_x hok_x h_y hok_y
  obtain ⟨R0, eR0⟩ : ∃ R0 : Bool, R0 = qyEq x y := ⟨_, rfl⟩
  obtain ⟨W0, eW⟩ : ∃ W0, W0 = ((w.alloc (.cells #[.slice p0x x.ps.list.length c0x, .slice q0x x.ts.length d0x] 25)).alloc (.cells #[.slice p0y y.ps.list.length c0y, .slice q0y y.ts.length d0y] 25)) := ⟨_, rfl⟩
  have HV := Lib.hid (show Below w.heap.size w W0 by rw [eW]; exact ((Below.refl w.heap.size w).alloc (by simp) _).alloc (by simp) _)
  have HK := Lib.hid (show ∀ wk, Below (w.heap.size + 2) W0 wk → w.heap.size + 2 ≤ wk.heap.size ∧ wk.cell? ⟨w.heap.size, 0, none⟩ = some (.slice p0x x.ps.list.length c0x) ∧ wk.cell? ⟨w.heap.size, 1, none⟩ = some (.slice q0x x.ts.length d0x) ∧ wk.cell? ⟨w.heap.size + 1, 0, none⟩ = some (.slice p0y y.ps.list.length c0y) ∧ wk.cell? ⟨w.heap.size + 1, 1, none⟩ = some (.slice q0y y.ts.length d0y) from
    fun wk hk => by rw [eW] at hk; exact ⟨by have := hk.size; simp at this; omega, keepc hk (by omega) (by simp [go_sem]), keepc hk (by omega) (by simp [go_sem]), keepc hk (by omega) (by simp [go_sem]), keepc hk (by omega) (by simp [go_sem])⟩)
  have hs0 : w.heap.size + 2 ≤ W0.heap.size := by rw [eW]; simp
  have HA := Lib.hid (Below.refl (w.heap.size + 2) W0)
  have HEA_x := Lib.hid (show ∀ wk, Below (w.heap.size + 2) W0 wk → x.At w.heap.size wk (.agg #[.slice p0x x.ps.list.length c0x, .slice q0x x.ts.length d0x]) from fun wk hk => HE_x.out.to (HV.out.trans (hk.mono (by omega))) (Nat.le_refl _))
  have HEA_y := Lib.hid (show ∀ wk, Below (w.heap.size + 2) W0 wk → y.At w.heap.size wk (.agg #[.slice p0y y.ps.list.length c0y, .slice q0y y.ts.length d0y]) from fun wk hk => HE_y.out.to (HV.out.trans (hk.mono (by omega))) (Nat.le_refl _))
  have EW := Lib.hid eW
  clear eW HE_x HE_y
  go_enter Try.func3, Try.ntmps3
  go_wp2_with fail
  rw [← EW.out]
  refine (szQuery_any x _ 1048576 w.heap.size _ (HEA_x.out _ HA.out) (by omega) (by omega) (by omega) HOK_x.out).mono ?_
  rintro en w1 ⟨r_x, rfl, hr_x, hb⟩
  have hs_w1 : W0.heap.size ≤ w1.heap.size := hb.size
  have HA := Lib.hid (HA.out.trans (hb.mono (by omega)))
  clear hb
  obtain ⟨hz, ax0, ax1, ay0, ay1⟩ := HK.out _ HA.out
  have hq_x : w.heap.size < w1.heap.size := by omega
  have hq_y : w.heap.size + 1 < w1.heap.size := by omega
  rcases hr_x with hr_x | ⟨hr0_x, hr_x⟩
  · have hneg : r_x < 0 := by omega
    clear hr_x
    go_wp2_with fail
    go_ret
    exact ⟨rfl, HV.out.trans (HA.out.mono (by omega))⟩
  have hneed_x : x.ps.need ≤ 1048576 := by unfold Qy.need at hr_x; omega
  have hl2_x : x.ts.length ≤ 1048576 := by unfold Qy.need at hr_x; omega
  have hrm_x : r_x ≤ 1048576 := by omega
  clear hr_x
  go_wp2_with fail
  refine (szQuery_any y _ r_x w.heap.size _ (HEA_y.out _ HA.out) (by omega) hr0_x hrm_x HOK_y.out).mono ?_
  rintro en w2 ⟨r_y, rfl, hr_y, hb⟩
  clear hz ax0 ax1 ay0 ay1 hq_x hq_y
  have hs_w2 : w1.heap.size ≤ w2.heap.size := hb.size
  have HA := Lib.hid (HA.out.trans (hb.mono (by omega)))
  clear hb
  obtain ⟨hz, ax0, ax1, ay0, ay1⟩ := HK.out _ HA.out
  have hq_x : w.heap.size < w2.heap.size := by omega
  have hq_y : w.heap.size + 1 < w2.heap.size := by omega
  rcases hr_y with hr_y | ⟨hr0_y, hr_y⟩
  · have hneg : r_y < 0 := by omega
    clear hr_y
    go_wp2_with fail
    go_ret
    exact ⟨rfl, HV.out.trans (HA.out.mono (by omega))⟩
  have hneed_y : y.ps.need ≤ 1048576 := by unfold Qy.need at hr_y; omega
  have hl2_y : y.ts.length ≤ 1048576 := by unfold Qy.need at hr_y; omega
  have hrm_y : r_y ≤ 1048576 := by omega
  clear hr_y
  have CS := Lib.hid (fun (v_x : Value) (v_y : Value) (B : Nat) (E : World) (hB : B ≤ E.heap.size) (h_x : x.At B E v_x) (h_y : y.At B E v_y) => eR0 ▸ specQuerySame_any x y v_x v_y B E h_x h_y hB)
  have CI := Lib.hid (fun (v_x : Value) (F_x : List Nat) (v_y : Value) (F_y : List Nat) (E : World) (h_x : x.Has v_x F_x E) (h_y : y.Has v_y F_y E) => eR0 ▸ querySame_any x y v_x v_y F_x F_y E h_x h_y hneed_x)
  have CT_x := Lib.hid (fun (E : World) (hE : Below (w.heap.size + 2) W0 E) => (show Calls Try.prog 11 #[.agg #[.slice p0x x.ps.list.length c0x, .slice q0x x.ts.length d0x]] E _ from (fun (hv : x.At w.heap.size E (.agg #[.slice p0x x.ps.list.length c0x, .slice q0x x.ts.length d0x])) (hB : w.heap.size ≤ E.heap.size) => toQuery_has x _ w.heap.size E hv hB hneed_x hl2_x) (HEA_x.out E hE) (by have := hE.size; omega)))
  have CT_y := Lib.hid (fun (E : World) (hE : Below (w.heap.size + 2) W0 E) => (show Calls Try.prog 11 #[.agg #[.slice p0y y.ps.list.length c0y, .slice q0y y.ts.length d0y]] E _ from (fun (hv : y.At w.heap.size E (.agg #[.slice p0y y.ps.list.length c0y, .slice q0y y.ts.length d0y])) (hB : w.heap.size ≤ E.heap.size) => toQuery_has y _ w.heap.size E hv hB hneed_y hl2_y) (HEA_y.out E hE) (by have := hE.size; omega)))
  clear eR0 hneed_x hneed_y
  have hA0 := HA.out
  have rr0 := Below.refl w2.heap.size w2
  go_upto_region 8 with fail
  go_cut [6] (fun s wx => s = .bool R0 ∧ Below w2.heap.size w2 wx)
  case first =>
    go_region_held3 (fun w' => w'.cell? ⟨w.heap.size, 0, none⟩ = some (.slice p0x x.ps.list.length c0x) ∧ w'.cell? ⟨w.heap.size, 1, none⟩ = some (.slice q0x x.ts.length d0x) ∧ w'.cell? ⟨w.heap.size + 1, 0, none⟩ = some (.slice p0y y.ps.list.length c0y) ∧ w'.cell? ⟨w.heap.size + 1, 1, none⟩ = some (.slice q0y y.ts.length d0y))
      (exact (HK.out _ (hA0.trans (Below.mono (show Below w2.heap.size w2 _ by ((repeat (first | with_reducible assumption | with_reducible exact Below.refl _ _ | refine Below.setCell ?_ (by (first | omega | (simp; omega) | (simp; done) | fail "sml")) _ | refine Below.drew ?_ | refine Below.alloc ?_ (by (first | omega | (simp; omega) | (simp; done) | fail "sml")) _)); first | done | fail "chs")) (by omega)))).2)
      (first
        | (go_at_call 11; with_reducible refine (CT_x.out _ (hA0.trans (Below.mono (show Below w2.heap.size w2 _ by ((repeat (first | with_reducible assumption | with_reducible exact Below.refl _ _ | refine Below.setCell ?_ (by (first | omega | (simp; omega) | (simp; done) | fail "sml")) _ | refine Below.drew ?_ | refine Below.alloc ?_ (by (first | omega | (simp; omega) | (simp; done) | fail "sml")) _)); first | done | fail "chs")) (by omega)))).mono ?_; rintro en wa_x ⟨va_x, Fa, rfl, hh, _, hb⟩; have hk_x := Below.trans (show Below w2.heap.size w2 _ by ((repeat (first | with_reducible assumption | with_reducible exact Below.refl _ _ | refine Below.setCell ?_ (by (first | omega | (simp; omega) | (simp; done) | fail "sml")) _ | refine Below.drew ?_ | refine Below.alloc ?_ (by (first | omega | (simp; omega) | (simp; done) | fail "sml")) _)); first | done | fail "chs")) (hb.mono (by (first | omega | (simp; omega) | (simp; done) | fail "sml"))); have z_x := hk_x.size; have raa_x := Below.refl wa_x.heap.size wa_x; (first | (have r_yx := Below.trans (show Below wa_y.heap.size wa_y _ by ((repeat (first | with_reducible assumption | with_reducible exact Below.refl _ _ | refine Below.setCell ?_ (by (first | omega | (simp; omega) | (simp; done) | fail "sml")) _ | refine Below.drew ?_ | refine Below.alloc ?_ (by (first | omega | (simp; omega) | (simp; done) | fail "sml")) _)); first | done | fail "chs")) (hb.mono (by (first | omega | (simp; omega) | (simp; done) | fail "sml")))) | skip); have HH_x := Lib.hid (fun X (hX : Below wa_x.heap.size wa_x X) => hh.at.to hX hX.size); clear hh hb)
        | (go_at_call 11; with_reducible refine (CT_y.out _ (hA0.trans (Below.mono (show Below w2.heap.size w2 _ by ((repeat (first | with_reducible assumption | with_reducible exact Below.refl _ _ | refine Below.setCell ?_ (by (first | omega | (simp; omega) | (simp; done) | fail "sml")) _ | refine Below.drew ?_ | refine Below.alloc ?_ (by (first | omega | (simp; omega) | (simp; done) | fail "sml")) _)); first | done | fail "chs")) (by omega)))).mono ?_; rintro en wa_y ⟨va_y, Fa, rfl, hh, _, hb⟩; have hk_y := Below.trans (show Below w2.heap.size w2 _ by ((repeat (first | with_reducible assumption | with_reducible exact Below.refl _ _ | refine Below.setCell ?_ (by (first | omega | (simp; omega) | (simp; done) | fail "sml")) _ | refine Below.drew ?_ | refine Below.alloc ?_ (by (first | omega | (simp; omega) | (simp; done) | fail "sml")) _)); first | done | fail "chs")) (hb.mono (by (first | omega | (simp; omega) | (simp; done) | fail "sml"))); have z_y := hk_y.size; have raa_y := Below.refl wa_y.heap.size wa_y; (first | (have r_xy := Below.trans (show Below wa_x.heap.size wa_x _ by ((repeat (first | with_reducible assumption | with_reducible exact Below.refl _ _ | refine Below.setCell ?_ (by (first | omega | (simp; omega) | (simp; done) | fail "sml")) _ | refine Below.drew ?_ | refine Below.alloc ?_ (by (first | omega | (simp; omega) | (simp; done) | fail "sml")) _)); first | done | fail "chs")) (hb.mono (by (first | omega | (simp; omega) | (simp; done) | fail "sml")))) | skip); have HH_y := Lib.hid (fun X (hX : Below wa_y.heap.size wa_y X) => hh.at.to hX hX.size); clear hh hb)
        | (go_at_call 10; refine (CS.out _ _ _ _ (Nat.le_refl _) (HH_x.out _ (by ((repeat (first | with_reducible assumption | with_reducible exact Below.refl _ _ | refine Below.setCell ?_ (by (first | omega | (simp; omega) | (simp; done) | fail "sml")) _ | refine Below.drew ?_ | refine Below.alloc ?_ (by (first | omega | (simp; omega) | (simp; done) | fail "sml")) _)); first | done | fail "chs"))) (HH_y.out _ (by ((repeat (first | with_reducible assumption | with_reducible exact Below.refl _ _ | refine Below.setCell ?_ (by (first | omega | (simp; omega) | (simp; done) | fail "sml")) _ | refine Below.drew ?_ | refine Below.alloc ?_ (by (first | omega | (simp; omega) | (simp; done) | fail "sml")) _)); first | done | fail "chs")))).mono ?_; rintro en wq ⟨rfl, hbq⟩; have hkq := Below.trans (show Below w2.heap.size w2 _ by ((repeat (first | with_reducible assumption | with_reducible exact Below.refl _ _ | refine Below.setCell ?_ (by (first | omega | (simp; omega) | (simp; done) | fail "sml")) _ | refine Below.drew ?_ | refine Below.alloc ?_ (by (first | omega | (simp; omega) | (simp; done) | fail "sml")) _)); first | done | fail "chs")) (hbq.mono (by (first | omega | (simp; omega) | (simp; done) | fail "sml"))); clear hbq))
    all_goals (go_wp2_with fail; go_meet)
    all_goals exact ⟨rfl, by ((repeat (first | with_reducible assumption | with_reducible exact Below.refl _ _ | refine Below.setCell ?_ (by (first | omega | (simp; omega) | (simp; done) | fail "sml")) _ | refine Below.drew ?_ | refine Below.alloc ?_ (by (first | omega | (simp; omega) | (simp; done) | fail "sml")) _)); first | done | fail "chs")⟩
  case rest =>
  obtain ⟨rfl, hbx⟩ := hcut
  clear hz ax0 ax1 ay0 ay1 hq_x hq_y
  clear hA0 rr0
  obtain ⟨w3, ew⟩ : ∃ u, u = wc := ⟨_, rfl⟩
  subst ew
  have hs_w3 : w2.heap.size ≤ w3.heap.size := hbx.size
  have HA := Lib.hid (HA.out.trans (hbx.mono (by omega)))
  clear hbx
  obtain ⟨hz, ax0, ax1, ay0, ay1⟩ := HK.out _ HA.out
  have hq_x : w.heap.size < w3.heap.size := by omega
  have hq_y : w.heap.size + 1 < w3.heap.size := by omega
  go_wp2_with fail
  refine (CT_x.out _ HA.out).mono ?_
  rintro en w4 ⟨vw4, FXx, rfl, ho, hf, hb⟩
  clear hz ax0 ax1 ay0 ay1 hq_x hq_y
  have hs_w4 : w3.heap.size ≤ w4.heap.size := hb.size
  have HA := Lib.hid (HA.out.trans (hb.mono (by omega)))
  have HO := Lib.hid ho
  obtain ⟨pXx, cXx, qXx, dXx, rfl⟩ := ho.at.form
  clear ho hf hb
  obtain ⟨hz, ax0, ax1, ay0, ay1⟩ := HK.out _ HA.out
  have hq_x : w.heap.size < w4.heap.size := by omega
  have hq_y : w.heap.size + 1 < w4.heap.size := by omega
  go_wp2_with fail
  clear hz ax0 ax1 ay0 ay1 hq_x hq_y
  obtain ⟨W4, eW⟩ : ∃ u, u = w4.alloc (.cells #[.slice pXx x.ps.list.length cXx, .slice qXx x.ts.length dXx] 31) := ⟨_, rfl⟩
  rw [← eW]
  have hszW4 : w4.heap.size < W4.heap.size := by rw [eW]; simp
  have hbW : Below w4.heap.size w4 W4 := by rw [eW]; exact (Below.refl _ _).alloc (Nat.le_refl _) _
  have LXx := Lib.hid (show LocV x.Has w4.heap.size #[.slice pXx x.ps.list.length cXx, .slice qXx x.ts.length dXx] FXx W4 by rw [eW]; exact LocV.fresh (Qy.goes x) HO.out)
  have hs_W4 : w4.heap.size ≤ W4.heap.size := hbW.size
  have HA := Lib.hid (HA.out.trans (hbW.mono (by omega)))
  clear hbW eW HO
  refine (CT_y.out _ HA.out).mono ?_
  rintro en w5 ⟨vw5, FXy, rfl, ho, hf, hb⟩
  have hs_w5 : W4.heap.size ≤ w5.heap.size := hb.size
  have LXx := Lib.hid (LXx.out.below (Qy.goes x) hb)
  have HA := Lib.hid (HA.out.trans (hb.mono (by omega)))
  have HO := Lib.hid ho
  obtain ⟨pXy, cXy, qXy, dXy, rfl⟩ := ho.at.form
  clear ho hf hb
  obtain ⟨hz, ax0, ax1, ay0, ay1⟩ := HK.out _ HA.out
  have hq_x : w.heap.size < w5.heap.size := by omega
  have hq_y : w.heap.size + 1 < w5.heap.size := by omega
  obtain ⟨xxk, xxc, _⟩ := LXx.out
  have xx0 := xxc 0 _ rfl
  have xx1 := xxc 1 _ rfl
  clear xxc
  go_wp2_with fail
  clear hz ax0 ax1 ay0 ay1 hq_x hq_y xxk xx0 xx1
  obtain ⟨W5, eW⟩ : ∃ u, u = w5.alloc (.cells #[.slice pXy y.ps.list.length cXy, .slice qXy y.ts.length dXy] 31) := ⟨_, rfl⟩
  rw [← eW]
  have hszW5 : w5.heap.size < W5.heap.size := by rw [eW]; simp
  have hbW : Below w5.heap.size w5 W5 := by rw [eW]; exact (Below.refl _ _).alloc (Nat.le_refl _) _
  have LXy := Lib.hid (show LocV y.Has w5.heap.size #[.slice pXy y.ps.list.length cXy, .slice qXy y.ts.length dXy] FXy W5 by rw [eW]; exact LocV.fresh (Qy.goes y) HO.out)
  have hs_W5 : w5.heap.size ≤ W5.heap.size := hbW.size
  have LXx := Lib.hid (LXx.out.below (Qy.goes x) hbW)
  have HA := Lib.hid (HA.out.trans (hbW.mono (by omega)))
  clear hbW eW HO
  refine (CI.out _ _ _ _ _ LXx.out.2.2 LXy.out.2.2).mono ?_
  rintro en w6 ⟨rfl, hb⟩
  have hs_w6 : W5.heap.size ≤ w6.heap.size := hb.size
  have LXx := Lib.hid (LXx.out.below (Qy.goes x) hb)
  have LXy := Lib.hid (LXy.out.below (Qy.goes y) hb)
  have HA := Lib.hid (HA.out.trans (hb.mono (by omega)))
  clear hb
  obtain ⟨hz, ax0, ax1, ay0, ay1⟩ := HK.out _ HA.out
  have hq_x : w.heap.size < w6.heap.size := by omega
  have hq_y : w.heap.size + 1 < w6.heap.size := by omega
  obtain ⟨xxk, xxc, _⟩ := LXx.out
  have xx0 := xxc 0 _ rfl
  have xx1 := xxc 1 _ rfl
  clear xxc
  obtain ⟨xyk, xyc, _⟩ := LXy.out
  have xy0 := xyc 0 _ rfl
  have xy1 := xyc 1 _ rfl
  clear xyc
  have hA0 := HA.out
  have rr0 := Below.refl w6.heap.size w6
  go_upto_region 14 with fail
  go_cut [39] (fun s wx => s = .bool false ∧ Below w6.heap.size w6 wx)
  case first =>
    go_region_held3 (fun w' => w'.cell? ⟨w.heap.size, 0, none⟩ = some (.slice p0x x.ps.list.length c0x) ∧ w'.cell? ⟨w.heap.size, 1, none⟩ = some (.slice q0x x.ts.length d0x) ∧ w'.cell? ⟨w4.heap.size, 0, none⟩ = some (.slice pXx x.ps.list.length cXx) ∧ w'.cell? ⟨w4.heap.size, 1, none⟩ = some (.slice qXx x.ts.length dXx))
      (exact ⟨keepc (show Below w6.heap.size w6 _ by ((repeat (first | with_reducible assumption | with_reducible exact Below.refl _ _ | refine Below.setCell ?_ (by (first | omega | (simp; omega) | (simp; done) | fail "sml")) _ | refine Below.drew ?_ | refine Below.alloc ?_ (by (first | omega | (simp; omega) | (simp; done) | fail "sml")) _)); first | done | fail "chs")) hq_x ax0, keepc (show Below w6.heap.size w6 _ by ((repeat (first | with_reducible assumption | with_reducible exact Below.refl _ _ | refine Below.setCell ?_ (by (first | omega | (simp; omega) | (simp; done) | fail "sml")) _ | refine Below.drew ?_ | refine Below.alloc ?_ (by (first | omega | (simp; omega) | (simp; done) | fail "sml")) _)); first | done | fail "chs")) hq_x ax1, keepc (show Below w6.heap.size w6 _ by ((repeat (first | with_reducible assumption | with_reducible exact Below.refl _ _ | refine Below.setCell ?_ (by (first | omega | (simp; omega) | (simp; done) | fail "sml")) _ | refine Below.drew ?_ | refine Below.alloc ?_ (by (first | omega | (simp; omega) | (simp; done) | fail "sml")) _)); first | done | fail "chs")) xxk xx0, keepc (show Below w6.heap.size w6 _ by ((repeat (first | with_reducible assumption | with_reducible exact Below.refl _ _ | refine Below.setCell ?_ (by (first | omega | (simp; omega) | (simp; done) | fail "sml")) _ | refine Below.drew ?_ | refine Below.alloc ?_ (by (first | omega | (simp; omega) | (simp; done) | fail "sml")) _)); first | done | fail "chs")) xxk xx1⟩)
      (first
        | (go_at_call 11; refine (CT_x.out _ (hA0.trans (Below.mono (show Below w6.heap.size w6 _ by ((repeat (first | with_reducible assumption | with_reducible exact Below.refl _ _ | refine Below.setCell ?_ (by (first | omega | (simp; omega) | (simp; done) | fail "sml")) _ | refine Below.drew ?_ | refine Below.alloc ?_ (by (first | omega | (simp; omega) | (simp; done) | fail "sml")) _)); first | done | fail "chs")) (by omega)))).mono ?_; rintro en wa ⟨va, Fa, rfl, hh, _, hb⟩; have hka := Below.trans (show Below w6.heap.size w6 _ by ((repeat (first | with_reducible assumption | with_reducible exact Below.refl _ _ | refine Below.setCell ?_ (by (first | omega | (simp; omega) | (simp; done) | fail "sml")) _ | refine Below.drew ?_ | refine Below.alloc ?_ (by (first | omega | (simp; omega) | (simp; done) | fail "sml")) _)); first | done | fail "chs")) (hb.mono (by (first | omega | (simp; omega) | (simp; done) | fail "sml"))); have za := hka.size; have HHa := Lib.hid hh.at; clear hh hb)
        | (go_at_call 13; refine (eqQuery_any x _ _ wa.heap.size _ (LXx.out.2.2.at.to (by ((repeat (first | with_reducible assumption | with_reducible exact Below.refl _ _ | refine Below.setCell ?_ (by (first | omega | (simp; omega) | (simp; done) | fail "sml")) _ | refine Below.drew ?_ | refine Below.alloc ?_ (by (first | omega | (simp; omega) | (simp; done) | fail "sml")) _)); first | done | fail "chs")) (by omega)) (HHa.out.to (by ((repeat (first | with_reducible assumption | with_reducible exact Below.refl _ _ | refine Below.setCell ?_ (by (first | omega | (simp; omega) | (simp; done) | fail "sml")) _ | refine Below.drew ?_ | refine Below.alloc ?_ (by (first | omega | (simp; omega) | (simp; done) | fail "sml")) _)); first | done | fail "chs")) (Nat.le_refl _)) (by (first | omega | (simp; omega) | (simp; done) | fail "sml"))).mono ?_; rintro en wb ⟨rfl, hbb⟩; have hkb := Below.trans (show Below w6.heap.size w6 _ by ((repeat (first | with_reducible assumption | with_reducible exact Below.refl _ _ | refine Below.setCell ?_ (by (first | omega | (simp; omega) | (simp; done) | fail "sml")) _ | refine Below.drew ?_ | refine Below.alloc ?_ (by (first | omega | (simp; omega) | (simp; done) | fail "sml")) _)); first | done | fail "chs")) (hbb.mono (by first | omega | (simp; omega))); clear hbb))
    all_goals (go_wp2_with fail; go_meet)
    all_goals exact ⟨rfl, by ((repeat (first | with_reducible assumption | with_reducible exact Below.refl _ _ | refine Below.setCell ?_ (by (first | omega | (simp; omega) | (simp; done) | fail "sml")) _ | refine Below.drew ?_ | refine Below.alloc ?_ (by (first | omega | (simp; omega) | (simp; done) | fail "sml")) _)); first | done | fail "chs")⟩
  case rest =>
  obtain ⟨rfl, hbx⟩ := hcut
  clear hz ax0 ax1 ay0 ay1 hq_x hq_y xxk xx0 xx1 xyk xy0 xy1
  clear hA0 rr0
  obtain ⟨w7, ew⟩ : ∃ u, u = wc := ⟨_, rfl⟩
  subst ew
  have hs_w7 : w6.heap.size ≤ w7.heap.size := hbx.size
  have LXx := Lib.hid (LXx.out.below (Qy.goes x) hbx)
  have LXy := Lib.hid (LXy.out.below (Qy.goes y) hbx)
  have HA := Lib.hid (HA.out.trans (hbx.mono (by omega)))
  clear hbx
  obtain ⟨hz, ax0, ax1, ay0, ay1⟩ := HK.out _ HA.out
  have hq_x : w.heap.size < w7.heap.size := by omega
  have hq_y : w.heap.size + 1 < w7.heap.size := by omega
  obtain ⟨xxk, xxc, _⟩ := LXx.out
  have xx0 := xxc 0 _ rfl
  have xx1 := xxc 1 _ rfl
  clear xxc
  obtain ⟨xyk, xyc, _⟩ := LXy.out
  have xy0 := xyc 0 _ rfl
  have xy1 := xyc 1 _ rfl
  clear xyc
  have hA0 := HA.out
  have rr0 := Below.refl w7.heap.size w7
  go_upto_region 16 with fail
  go_cut [44] (fun s wx => s = .bool false ∧ Below w7.heap.size w7 wx)
  case first =>
    go_region_held3 (fun w' => w'.cell? ⟨w.heap.size + 1, 0, none⟩ = some (.slice p0y y.ps.list.length c0y) ∧ w'.cell? ⟨w.heap.size + 1, 1, none⟩ = some (.slice q0y y.ts.length d0y) ∧ w'.cell? ⟨w5.heap.size, 0, none⟩ = some (.slice pXy y.ps.list.length cXy) ∧ w'.cell? ⟨w5.heap.size, 1, none⟩ = some (.slice qXy y.ts.length dXy))
      (exact ⟨keepc (show Below w7.heap.size w7 _ by ((repeat (first | with_reducible assumption | with_reducible exact Below.refl _ _ | refine Below.setCell ?_ (by (first | omega | (simp; omega) | (simp; done) | fail "sml")) _ | refine Below.drew ?_ | refine Below.alloc ?_ (by (first | omega | (simp; omega) | (simp; done) | fail "sml")) _)); first | done | fail "chs")) hq_y ay0, keepc (show Below w7.heap.size w7 _ by ((repeat (first | with_reducible assumption | with_reducible exact Below.refl _ _ | refine Below.setCell ?_ (by (first | omega | (simp; omega) | (simp; done) | fail "sml")) _ | refine Below.drew ?_ | refine Below.alloc ?_ (by (first | omega | (simp; omega) | (simp; done) | fail "sml")) _)); first | done | fail "chs")) hq_y ay1, keepc (show Below w7.heap.size w7 _ by ((repeat (first | with_reducible assumption | with_reducible exact Below.refl _ _ | refine Below.setCell ?_ (by (first | omega | (simp; omega) | (simp; done) | fail "sml")) _ | refine Below.drew ?_ | refine Below.alloc ?_ (by (first | omega | (simp; omega) | (simp; done) | fail "sml")) _)); first | done | fail "chs")) xyk xy0, keepc (show Below w7.heap.size w7 _ by ((repeat (first | with_reducible assumption | with_reducible exact Below.refl _ _ | refine Below.setCell ?_ (by (first | omega | (simp; omega) | (simp; done) | fail "sml")) _ | refine Below.drew ?_ | refine Below.alloc ?_ (by (first | omega | (simp; omega) | (simp; done) | fail "sml")) _)); first | done | fail "chs")) xyk xy1⟩)
      (first
        | (go_at_call 11; refine (CT_y.out _ (hA0.trans (Below.mono (show Below w7.heap.size w7 _ by ((repeat (first | with_reducible assumption | with_reducible exact Below.refl _ _ | refine Below.setCell ?_ (by (first | omega | (simp; omega) | (simp; done) | fail "sml")) _ | refine Below.drew ?_ | refine Below.alloc ?_ (by (first | omega | (simp; omega) | (simp; done) | fail "sml")) _)); first | done | fail "chs")) (by omega)))).mono ?_; rintro en wa ⟨va, Fa, rfl, hh, _, hb⟩; have hka := Below.trans (show Below w7.heap.size w7 _ by ((repeat (first | with_reducible assumption | with_reducible exact Below.refl _ _ | refine Below.setCell ?_ (by (first | omega | (simp; omega) | (simp; done) | fail "sml")) _ | refine Below.drew ?_ | refine Below.alloc ?_ (by (first | omega | (simp; omega) | (simp; done) | fail "sml")) _)); first | done | fail "chs")) (hb.mono (by (first | omega | (simp; omega) | (simp; done) | fail "sml"))); have za := hka.size; have HHa := Lib.hid hh.at; clear hh hb)
        | (go_at_call 13; refine (eqQuery_any y _ _ wa.heap.size _ (LXy.out.2.2.at.to (by ((repeat (first | with_reducible assumption | with_reducible exact Below.refl _ _ | refine Below.setCell ?_ (by (first | omega | (simp; omega) | (simp; done) | fail "sml")) _ | refine Below.drew ?_ | refine Below.alloc ?_ (by (first | omega | (simp; omega) | (simp; done) | fail "sml")) _)); first | done | fail "chs")) (by omega)) (HHa.out.to (by ((repeat (first | with_reducible assumption | with_reducible exact Below.refl _ _ | refine Below.setCell ?_ (by (first | omega | (simp; omega) | (simp; done) | fail "sml")) _ | refine Below.drew ?_ | refine Below.alloc ?_ (by (first | omega | (simp; omega) | (simp; done) | fail "sml")) _)); first | done | fail "chs")) (Nat.le_refl _)) (by (first | omega | (simp; omega) | (simp; done) | fail "sml"))).mono ?_; rintro en wb ⟨rfl, hbb⟩; have hkb := Below.trans (show Below w7.heap.size w7 _ by ((repeat (first | with_reducible assumption | with_reducible exact Below.refl _ _ | refine Below.setCell ?_ (by (first | omega | (simp; omega) | (simp; done) | fail "sml")) _ | refine Below.drew ?_ | refine Below.alloc ?_ (by (first | omega | (simp; omega) | (simp; done) | fail "sml")) _)); first | done | fail "chs")) (hbb.mono (by first | omega | (simp; omega))); clear hbb))
    all_goals (go_wp2_with fail; go_meet)
    all_goals exact ⟨rfl, by ((repeat (first | with_reducible assumption | with_reducible exact Below.refl _ _ | refine Below.setCell ?_ (by (first | omega | (simp; omega) | (simp; done) | fail "sml")) _ | refine Below.drew ?_ | refine Below.alloc ?_ (by (first | omega | (simp; omega) | (simp; done) | fail "sml")) _)); first | done | fail "chs")⟩
  case rest =>
  obtain ⟨rfl, hbx⟩ := hcut
  clear hz ax0 ax1 ay0 ay1 hq_x hq_y xxk xx0 xx1 xyk xy0 xy1
  clear hA0 rr0
  obtain ⟨w8, ew⟩ : ∃ u, u = wc := ⟨_, rfl⟩
  subst ew
  have hs_w8 : w7.heap.size ≤ w8.heap.size := hbx.size
  have LXx := Lib.hid (LXx.out.below (Qy.goes x) hbx)
  have LXy := Lib.hid (LXy.out.below (Qy.goes y) hbx)
  have HA := Lib.hid (HA.out.trans (hbx.mono (by omega)))
  clear hbx
  obtain ⟨hz, ax0, ax1, ay0, ay1⟩ := HK.out _ HA.out
  have hq_x : w.heap.size < w8.heap.size := by omega
  have hq_y : w.heap.size + 1 < w8.heap.size := by omega
  obtain ⟨xxk, xxc, _⟩ := LXx.out
  have xx0 := xxc 0 _ rfl
  have xx1 := xxc 1 _ rfl
  clear xxc
  obtain ⟨xyk, xyc, _⟩ := LXy.out
  have xy0 := xyc 0 _ rfl
  have xy1 := xyc 1 _ rfl
  clear xyc
  go_wp2_with fail
  go_ret
  exact ⟨rfl, HV.out.trans (HA.out.mono (by omega))⟩
end Go.Proofs.Ytggpnnoldjpmcaa
