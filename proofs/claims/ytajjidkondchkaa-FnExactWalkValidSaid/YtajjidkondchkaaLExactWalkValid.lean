/- The walk of FnExactWalkValid. -/
import Derived.Test.YtajjidkondchkaaWkV2
import Derived.Test.YtajjidkondchkaaKindsG
import Derived.Deep.RegionHeld3
import Derived.Deep.DeepCutAuto
namespace Go.Proofs.Ytajjidkondchkaa
open Go.RowKit

set_option maxRecDepth 100000 in
set_option maxHeartbeats 16000000 in
theorem lawExactWalkValid (g : Gr) (x : Wk) (v_g : Value) (v_x : Value) (w : World) (h_g : g.At w.heap.size w v_g) (h_x : x.At w.heap.size w v_x) (hok_g : g.Ok) (hok_x : x.Ok) :
    Calls Try.prog 3 #[v_g, v_x] w fun en w' => en = .returned (.bool true) ∧ Below w.heap.size w w' := by
  have HE_g := Lib.hid h_g
  have HOK_g := Lib.hid hok_g
  have HE_x := Lib.hid h_x
  have HOK_x := Lib.hid hok_x
  obtain ⟨p0g, c0g, q0g, d0g, rfl⟩ := h_g.form
  obtain ⟨p0x, c0x, q0x, d0x, rfl⟩ := h_x.form
  clear h_g hok_g h_x hok_x
  obtain ⟨R0, eR0⟩ : ∃ R0 : Bool, R0 = wkValid g x := ⟨_, rfl⟩
  obtain ⟨W0, eW⟩ : ∃ W0, W0 = ((w.alloc (.cells #[.slice p0g g.ns.length c0g, .slice q0g g.es.length d0g] 25)).alloc (.cells #[.slice p0x x.ns.length c0x, .slice q0x x.es.length d0x] 28)) := ⟨_, rfl⟩
  have HV := Lib.hid (show Below w.heap.size w W0 by rw [eW]; exact ((Below.refl w.heap.size w).alloc (by simp) _).alloc (by simp) _)
  have HK := Lib.hid (show ∀ wk, Below (w.heap.size + 2) W0 wk → w.heap.size + 2 ≤ wk.heap.size ∧ wk.cell? ⟨w.heap.size, 0, none⟩ = some (.slice p0g g.ns.length c0g) ∧ wk.cell? ⟨w.heap.size, 1, none⟩ = some (.slice q0g g.es.length d0g) ∧ wk.cell? ⟨w.heap.size + 1, 0, none⟩ = some (.slice p0x x.ns.length c0x) ∧ wk.cell? ⟨w.heap.size + 1, 1, none⟩ = some (.slice q0x x.es.length d0x) from
    fun wk hk => by rw [eW] at hk; exact ⟨by have := hk.size; simp at this; omega, keepc hk (by omega) (by simp [go_sem]), keepc hk (by omega) (by simp [go_sem]), keepc hk (by omega) (by simp [go_sem]), keepc hk (by omega) (by simp [go_sem])⟩)
  have hs0 : w.heap.size + 2 ≤ W0.heap.size := by rw [eW]; simp
  have HA := Lib.hid (Below.refl (w.heap.size + 2) W0)
  have HEA_g := Lib.hid (show ∀ wk, Below (w.heap.size + 2) W0 wk → g.At w.heap.size wk (.agg #[.slice p0g g.ns.length c0g, .slice q0g g.es.length d0g]) from fun wk hk => HE_g.out.to (HV.out.trans (hk.mono (by omega))) (Nat.le_refl _))
  have HEA_x := Lib.hid (show ∀ wk, Below (w.heap.size + 2) W0 wk → x.At w.heap.size wk (.agg #[.slice p0x x.ns.length c0x, .slice q0x x.es.length d0x]) from fun wk hk => HE_x.out.to (HV.out.trans (hk.mono (by omega))) (Nat.le_refl _))
  have EW := Lib.hid eW
  clear eW HE_g HE_x
  go_enter Try.func3, Try.ntmps3
  go_wp2_with fail
  rw [← EW.out]
  refine (szGraph_any g _ 1048576 w.heap.size _ (HEA_g.out _ HA.out) (by omega) (by omega) (by omega) HOK_g.out).mono ?_
  rintro en w1 ⟨r_g, rfl, hr_g, hb⟩
  have hs_w1 : W0.heap.size ≤ w1.heap.size := hb.size
  have HA := Lib.hid (HA.out.trans (hb.mono (by omega)))
  clear hb
  obtain ⟨hz, ag0, ag1, ax0, ax1⟩ := HK.out _ HA.out
  have hq_g : w.heap.size < w1.heap.size := by omega
  have hq_x : w.heap.size + 1 < w1.heap.size := by omega
  rcases hr_g with hr_g | ⟨hr0_g, hr_g⟩
  · have hneg : r_g < 0 := by omega
    clear hr_g
    go_wp2_with fail
    go_ret
    exact ⟨rfl, HV.out.trans (HA.out.mono (by omega))⟩
  have hl1_g : g.ns.length ≤ 1048576 := by unfold Gr.need at hr_g; omega
  have hl2_g : g.es.length ≤ 1048576 := by unfold Gr.need at hr_g; omega
  have hrm_g : r_g ≤ 1048576 := by omega
  clear hr_g
  go_wp2_with fail
  refine (szWalk_any x _ r_g w.heap.size _ (HEA_x.out _ HA.out) (by omega) hr0_g hrm_g).mono ?_
  rintro en w2 ⟨r_x, rfl, hr_x, hb⟩
  clear hz ag0 ag1 ax0 ax1 hq_g hq_x
  have hs_w2 : w1.heap.size ≤ w2.heap.size := hb.size
  have HA := Lib.hid (HA.out.trans (hb.mono (by omega)))
  clear hb
  obtain ⟨hz, ag0, ag1, ax0, ax1⟩ := HK.out _ HA.out
  have hq_g : w.heap.size < w2.heap.size := by omega
  have hq_x : w.heap.size + 1 < w2.heap.size := by omega
  rcases hr_x with hr_x | ⟨hr0_x, hr_x⟩
  · have hneg : r_x < 0 := by omega
    clear hr_x
    go_wp2_with fail
    go_ret
    exact ⟨rfl, HV.out.trans (HA.out.mono (by omega))⟩
  have hneed_x : x.need ≤ 1048576 := by omega
  have hrm_x : r_x ≤ 1048576 := by omega
  clear hr_x
  have CS := Lib.hid (fun (v_g : Value) (v_x : Value) (B : Nat) (E : World) (hB : B ≤ E.heap.size) (h_g : g.At B E v_g) (h_x : x.At B E v_x) => eR0 ▸ specWalkValid_any g x v_g v_x B E h_g h_x hB HOK_g.out hneed_x)
  have CI := Lib.hid (fun (v_g : Value) (F_g : List Nat) (v_x : Value) (F_x : List Nat) (E : World) (h_g : g.Has v_g F_g E) (h_x : x.Has v_x F_x E) => eR0 ▸ walkValid_any g x v_g v_x E.heap.size E h_g.at h_x.at (Nat.le_refl _) HOK_g.out hneed_x)
  have CT_g := Lib.hid (fun (E : World) (hE : Below (w.heap.size + 2) W0 E) => (show Calls Try.prog 14 #[.agg #[.slice p0g g.ns.length c0g, .slice q0g g.es.length d0g]] E _ from (fun (hv : g.At w.heap.size E (.agg #[.slice p0g g.ns.length c0g, .slice q0g g.es.length d0g])) (hB : w.heap.size ≤ E.heap.size) => toGraph_has g _ w.heap.size E hv hB hl1_g hl2_g) (HEA_g.out E hE) (by have := hE.size; omega)))
  have CT_x := Lib.hid (fun (E : World) (hE : Below (w.heap.size + 2) W0 E) => (show Calls Try.prog 15 #[.agg #[.slice p0x x.ns.length c0x, .slice q0x x.es.length d0x]] E _ from (fun (hv : x.At w.heap.size E (.agg #[.slice p0x x.ns.length c0x, .slice q0x x.es.length d0x])) (hB : w.heap.size ≤ E.heap.size) => toWalk_any x _ w.heap.size E hv hB hneed_x) (HEA_x.out E hE) (by have := hE.size; omega)))
  clear eR0  hneed_x
  have hA0 := HA.out
  have rr0 := Below.refl w2.heap.size w2
  go_upto_region 8 with fail
  go_cut [6] (fun s wx => s = .bool R0 ∧ Below w2.heap.size w2 wx)
  case first =>
    go_region_held3 (fun w' => w'.cell? ⟨w.heap.size, 0, none⟩ = some (.slice p0g g.ns.length c0g) ∧ w'.cell? ⟨w.heap.size, 1, none⟩ = some (.slice q0g g.es.length d0g) ∧ w'.cell? ⟨w.heap.size + 1, 0, none⟩ = some (.slice p0x x.ns.length c0x) ∧ w'.cell? ⟨w.heap.size + 1, 1, none⟩ = some (.slice q0x x.es.length d0x))
      (exact (HK.out _ (hA0.trans (Below.mono (show Below w2.heap.size w2 _ by ((repeat (first | with_reducible assumption | with_reducible exact Below.refl _ _ | refine Below.setCell ?_ (by (first | omega | (simp; omega) | (simp; done) | fail "sml")) _ | refine Below.drew ?_ | refine Below.alloc ?_ (by (first | omega | (simp; omega) | (simp; done) | fail "sml")) _)); first | done | fail "chs")) (by omega)))).2)
      (first
        | (go_at_call 14; with_reducible refine (CT_g.out _ (hA0.trans (Below.mono (show Below w2.heap.size w2 _ by ((repeat (first | with_reducible assumption | with_reducible exact Below.refl _ _ | refine Below.setCell ?_ (by (first | omega | (simp; omega) | (simp; done) | fail "sml")) _ | refine Below.drew ?_ | refine Below.alloc ?_ (by (first | omega | (simp; omega) | (simp; done) | fail "sml")) _)); first | done | fail "chs")) (by omega)))).mono ?_; rintro en wa_g ⟨va_g, Fa, rfl, hh, _, hb⟩; have hk_g := Below.trans (show Below w2.heap.size w2 _ by ((repeat (first | with_reducible assumption | with_reducible exact Below.refl _ _ | refine Below.setCell ?_ (by (first | omega | (simp; omega) | (simp; done) | fail "sml")) _ | refine Below.drew ?_ | refine Below.alloc ?_ (by (first | omega | (simp; omega) | (simp; done) | fail "sml")) _)); first | done | fail "chs")) (hb.mono (by (first | omega | (simp; omega) | (simp; done) | fail "sml"))); have z_g := hk_g.size; have raa_g := Below.refl wa_g.heap.size wa_g; (first | (have r_xg := Below.trans (show Below wa_x.heap.size wa_x _ by ((repeat (first | with_reducible assumption | with_reducible exact Below.refl _ _ | refine Below.setCell ?_ (by (first | omega | (simp; omega) | (simp; done) | fail "sml")) _ | refine Below.drew ?_ | refine Below.alloc ?_ (by (first | omega | (simp; omega) | (simp; done) | fail "sml")) _)); first | done | fail "chs")) (hb.mono (by (first | omega | (simp; omega) | (simp; done) | fail "sml")))) | skip); have HH_g := Lib.hid (fun X (hX : Below wa_g.heap.size wa_g X) => hh.at.to hX hX.size); clear hh hb)
        | (go_at_call 15; with_reducible refine (CT_x.out _ (hA0.trans (Below.mono (show Below w2.heap.size w2 _ by ((repeat (first | with_reducible assumption | with_reducible exact Below.refl _ _ | refine Below.setCell ?_ (by (first | omega | (simp; omega) | (simp; done) | fail "sml")) _ | refine Below.drew ?_ | refine Below.alloc ?_ (by (first | omega | (simp; omega) | (simp; done) | fail "sml")) _)); first | done | fail "chs")) (by omega)))).mono ?_; rintro en wa_x ⟨va_x, Fa, rfl, hh, _, hb⟩; have hk_x := Below.trans (show Below w2.heap.size w2 _ by ((repeat (first | with_reducible assumption | with_reducible exact Below.refl _ _ | refine Below.setCell ?_ (by (first | omega | (simp; omega) | (simp; done) | fail "sml")) _ | refine Below.drew ?_ | refine Below.alloc ?_ (by (first | omega | (simp; omega) | (simp; done) | fail "sml")) _)); first | done | fail "chs")) (hb.mono (by (first | omega | (simp; omega) | (simp; done) | fail "sml"))); have z_x := hk_x.size; have raa_x := Below.refl wa_x.heap.size wa_x; (first | (have r_gx := Below.trans (show Below wa_g.heap.size wa_g _ by ((repeat (first | with_reducible assumption | with_reducible exact Below.refl _ _ | refine Below.setCell ?_ (by (first | omega | (simp; omega) | (simp; done) | fail "sml")) _ | refine Below.drew ?_ | refine Below.alloc ?_ (by (first | omega | (simp; omega) | (simp; done) | fail "sml")) _)); first | done | fail "chs")) (hb.mono (by (first | omega | (simp; omega) | (simp; done) | fail "sml")))) | skip); have HH_x := Lib.hid (fun X (hX : Below wa_x.heap.size wa_x X) => hh.at.to hX hX.size); clear hh hb)
        | (go_at_call 13; refine (CS.out _ _ _ _ (Nat.le_refl _) (HH_g.out _ (by ((repeat (first | with_reducible assumption | with_reducible exact Below.refl _ _ | refine Below.setCell ?_ (by (first | omega | (simp; omega) | (simp; done) | fail "sml")) _ | refine Below.drew ?_ | refine Below.alloc ?_ (by (first | omega | (simp; omega) | (simp; done) | fail "sml")) _)); first | done | fail "chs"))) (HH_x.out _ (by ((repeat (first | with_reducible assumption | with_reducible exact Below.refl _ _ | refine Below.setCell ?_ (by (first | omega | (simp; omega) | (simp; done) | fail "sml")) _ | refine Below.drew ?_ | refine Below.alloc ?_ (by (first | omega | (simp; omega) | (simp; done) | fail "sml")) _)); first | done | fail "chs")))).mono ?_; rintro en wq ⟨rfl, hbq⟩; have hkq := Below.trans (show Below w2.heap.size w2 _ by ((repeat (first | with_reducible assumption | with_reducible exact Below.refl _ _ | refine Below.setCell ?_ (by (first | omega | (simp; omega) | (simp; done) | fail "sml")) _ | refine Below.drew ?_ | refine Below.alloc ?_ (by (first | omega | (simp; omega) | (simp; done) | fail "sml")) _)); first | done | fail "chs")) (hbq.mono (by (first | omega | (simp; omega) | (simp; done) | fail "sml"))); clear hbq))
    all_goals (go_wp2_with fail; go_meet)
    all_goals exact ⟨rfl, by ((repeat (first | with_reducible assumption | with_reducible exact Below.refl _ _ | refine Below.setCell ?_ (by (first | omega | (simp; omega) | (simp; done) | fail "sml")) _ | refine Below.drew ?_ | refine Below.alloc ?_ (by (first | omega | (simp; omega) | (simp; done) | fail "sml")) _)); first | done | fail "chs")⟩
  case rest =>
  obtain ⟨rfl, hbx⟩ := hcut
  clear hz ag0 ag1 ax0 ax1 hq_g hq_x
  clear hA0 rr0
  obtain ⟨w3, ew⟩ : ∃ u, u = wc := ⟨_, rfl⟩
  subst ew
  have hs_w3 : w2.heap.size ≤ w3.heap.size := hbx.size
  have HA := Lib.hid (HA.out.trans (hbx.mono (by omega)))
  clear hbx
  obtain ⟨hz, ag0, ag1, ax0, ax1⟩ := HK.out _ HA.out
  have hq_g : w.heap.size < w3.heap.size := by omega
  have hq_x : w.heap.size + 1 < w3.heap.size := by omega
  go_wp2_with fail
  refine (CT_g.out _ HA.out).mono ?_
  rintro en w4 ⟨vw4, FXg, rfl, ho, hf, hb⟩
  clear hz ag0 ag1 ax0 ax1 hq_g hq_x
  have hs_w4 : w3.heap.size ≤ w4.heap.size := hb.size
  have HA := Lib.hid (HA.out.trans (hb.mono (by omega)))
  have HO := Lib.hid ho
  obtain ⟨pXg, cXg, qXg, dXg, rfl⟩ := ho.at.form
  clear ho hf hb
  obtain ⟨hz, ag0, ag1, ax0, ax1⟩ := HK.out _ HA.out
  have hq_g : w.heap.size < w4.heap.size := by omega
  have hq_x : w.heap.size + 1 < w4.heap.size := by omega
  go_wp2_with fail
  clear hz ag0 ag1 ax0 ax1 hq_g hq_x
  obtain ⟨W4, eW⟩ : ∃ u, u = w4.alloc (.cells #[.slice pXg g.ns.length cXg, .slice qXg g.es.length dXg] 35) := ⟨_, rfl⟩
  rw [← eW]
  have hszW4 : w4.heap.size < W4.heap.size := by rw [eW]; simp
  have hbW : Below w4.heap.size w4 W4 := by rw [eW]; exact (Below.refl _ _).alloc (Nat.le_refl _) _
  have LXg := Lib.hid (show LocV g.Has w4.heap.size #[.slice pXg g.ns.length cXg, .slice qXg g.es.length dXg] FXg W4 by rw [eW]; exact LocV.fresh (Gr.goes g) HO.out)
  have hs_W4 : w4.heap.size ≤ W4.heap.size := hbW.size
  have HA := Lib.hid (HA.out.trans (hbW.mono (by omega)))
  clear hbW eW HO
  refine (CT_x.out _ HA.out).mono ?_
  rintro en w5 ⟨vw5, FXx, rfl, ho, hf, hb⟩
  have hs_w5 : W4.heap.size ≤ w5.heap.size := hb.size
  have LXg := Lib.hid (LXg.out.below (Gr.goes g) hb)
  have HA := Lib.hid (HA.out.trans (hb.mono (by omega)))
  have HO := Lib.hid ho
  obtain ⟨pXx, cXx, qXx, dXx, rfl⟩ := ho.at.form
  clear ho hf hb
  obtain ⟨hz, ag0, ag1, ax0, ax1⟩ := HK.out _ HA.out
  have hq_g : w.heap.size < w5.heap.size := by omega
  have hq_x : w.heap.size + 1 < w5.heap.size := by omega
  obtain ⟨xgk, xgc, _⟩ := LXg.out
  have xg0 := xgc 0 _ rfl
  have xg1 := xgc 1 _ rfl
  clear xgc
  go_wp2_with fail
  clear hz ag0 ag1 ax0 ax1 hq_g hq_x xgk xg0 xg1
  obtain ⟨W5, eW⟩ : ∃ u, u = w5.alloc (.cells #[.slice pXx x.ns.length cXx, .slice qXx x.es.length dXx] 37) := ⟨_, rfl⟩
  rw [← eW]
  have hszW5 : w5.heap.size < W5.heap.size := by rw [eW]; simp
  have hbW : Below w5.heap.size w5 W5 := by rw [eW]; exact (Below.refl _ _).alloc (Nat.le_refl _) _
  have LXx := Lib.hid (show LocV x.Has w5.heap.size #[.slice pXx x.ns.length cXx, .slice qXx x.es.length dXx] FXx W5 by rw [eW]; exact LocV.fresh (Wk.goes x) HO.out)
  have hs_W5 : w5.heap.size ≤ W5.heap.size := hbW.size
  have LXg := Lib.hid (LXg.out.below (Gr.goes g) hbW)
  have HA := Lib.hid (HA.out.trans (hbW.mono (by omega)))
  clear hbW eW HO
  refine (CI.out _ _ _ _ _ LXg.out.2.2 LXx.out.2.2).mono ?_
  rintro en w6 ⟨rfl, hb⟩
  have hs_w6 : W5.heap.size ≤ w6.heap.size := hb.size
  have LXg := Lib.hid (LXg.out.below (Gr.goes g) hb)
  have LXx := Lib.hid (LXx.out.below (Wk.goes x) hb)
  have HA := Lib.hid (HA.out.trans (hb.mono (by omega)))
  clear hb
  obtain ⟨hz, ag0, ag1, ax0, ax1⟩ := HK.out _ HA.out
  have hq_g : w.heap.size < w6.heap.size := by omega
  have hq_x : w.heap.size + 1 < w6.heap.size := by omega
  obtain ⟨xgk, xgc, _⟩ := LXg.out
  have xg0 := xgc 0 _ rfl
  have xg1 := xgc 1 _ rfl
  clear xgc
  obtain ⟨xxk, xxc, _⟩ := LXx.out
  have xx0 := xxc 0 _ rfl
  have xx1 := xxc 1 _ rfl
  clear xxc
  have hA0 := HA.out
  have rr0 := Below.refl w6.heap.size w6
  go_upto_region 14 with fail
  go_cut [39] (fun s wx => s = .bool false ∧ Below w6.heap.size w6 wx)
  case first =>
    go_region_held3 (fun w' => w'.cell? ⟨w.heap.size, 0, none⟩ = some (.slice p0g g.ns.length c0g) ∧ w'.cell? ⟨w.heap.size, 1, none⟩ = some (.slice q0g g.es.length d0g) ∧ w'.cell? ⟨w4.heap.size, 0, none⟩ = some (.slice pXg g.ns.length cXg) ∧ w'.cell? ⟨w4.heap.size, 1, none⟩ = some (.slice qXg g.es.length dXg))
      (exact ⟨keepc (show Below w6.heap.size w6 _ by ((repeat (first | with_reducible assumption | with_reducible exact Below.refl _ _ | refine Below.setCell ?_ (by (first | omega | (simp; omega) | (simp; done) | fail "sml")) _ | refine Below.drew ?_ | refine Below.alloc ?_ (by (first | omega | (simp; omega) | (simp; done) | fail "sml")) _)); first | done | fail "chs")) hq_g ag0, keepc (show Below w6.heap.size w6 _ by ((repeat (first | with_reducible assumption | with_reducible exact Below.refl _ _ | refine Below.setCell ?_ (by (first | omega | (simp; omega) | (simp; done) | fail "sml")) _ | refine Below.drew ?_ | refine Below.alloc ?_ (by (first | omega | (simp; omega) | (simp; done) | fail "sml")) _)); first | done | fail "chs")) hq_g ag1, keepc (show Below w6.heap.size w6 _ by ((repeat (first | with_reducible assumption | with_reducible exact Below.refl _ _ | refine Below.setCell ?_ (by (first | omega | (simp; omega) | (simp; done) | fail "sml")) _ | refine Below.drew ?_ | refine Below.alloc ?_ (by (first | omega | (simp; omega) | (simp; done) | fail "sml")) _)); first | done | fail "chs")) xgk xg0, keepc (show Below w6.heap.size w6 _ by ((repeat (first | with_reducible assumption | with_reducible exact Below.refl _ _ | refine Below.setCell ?_ (by (first | omega | (simp; omega) | (simp; done) | fail "sml")) _ | refine Below.drew ?_ | refine Below.alloc ?_ (by (first | omega | (simp; omega) | (simp; done) | fail "sml")) _)); first | done | fail "chs")) xgk xg1⟩)
      (first
        | (go_at_call 14; refine (CT_g.out _ (hA0.trans (Below.mono (show Below w6.heap.size w6 _ by ((repeat (first | with_reducible assumption | with_reducible exact Below.refl _ _ | refine Below.setCell ?_ (by (first | omega | (simp; omega) | (simp; done) | fail "sml")) _ | refine Below.drew ?_ | refine Below.alloc ?_ (by (first | omega | (simp; omega) | (simp; done) | fail "sml")) _)); first | done | fail "chs")) (by omega)))).mono ?_; rintro en wa ⟨va, Fa, rfl, hh, _, hb⟩; have hka := Below.trans (show Below w6.heap.size w6 _ by ((repeat (first | with_reducible assumption | with_reducible exact Below.refl _ _ | refine Below.setCell ?_ (by (first | omega | (simp; omega) | (simp; done) | fail "sml")) _ | refine Below.drew ?_ | refine Below.alloc ?_ (by (first | omega | (simp; omega) | (simp; done) | fail "sml")) _)); first | done | fail "chs")) (hb.mono (by (first | omega | (simp; omega) | (simp; done) | fail "sml"))); have za := hka.size; have HHa := Lib.hid hh.at; clear hh hb)
        | (go_at_call 17; refine (eqGraph_any g _ _ wa.heap.size _ (LXg.out.2.2.at.to (by ((repeat (first | with_reducible assumption | with_reducible exact Below.refl _ _ | refine Below.setCell ?_ (by (first | omega | (simp; omega) | (simp; done) | fail "sml")) _ | refine Below.drew ?_ | refine Below.alloc ?_ (by (first | omega | (simp; omega) | (simp; done) | fail "sml")) _)); first | done | fail "chs")) (by omega)) (HHa.out.to (by ((repeat (first | with_reducible assumption | with_reducible exact Below.refl _ _ | refine Below.setCell ?_ (by (first | omega | (simp; omega) | (simp; done) | fail "sml")) _ | refine Below.drew ?_ | refine Below.alloc ?_ (by (first | omega | (simp; omega) | (simp; done) | fail "sml")) _)); first | done | fail "chs")) (Nat.le_refl _)) (by (first | omega | (simp; omega) | (simp; done) | fail "sml"))).mono ?_; rintro en wb ⟨rfl, hbb⟩; have hkb := Below.trans (show Below w6.heap.size w6 _ by ((repeat (first | with_reducible assumption | with_reducible exact Below.refl _ _ | refine Below.setCell ?_ (by (first | omega | (simp; omega) | (simp; done) | fail "sml")) _ | refine Below.drew ?_ | refine Below.alloc ?_ (by (first | omega | (simp; omega) | (simp; done) | fail "sml")) _)); first | done | fail "chs")) (hbb.mono (by first | omega | (simp; omega))); clear hbb))
    all_goals (go_wp2_with fail; go_meet)
    all_goals exact ⟨rfl, by ((repeat (first | with_reducible assumption | with_reducible exact Below.refl _ _ | refine Below.setCell ?_ (by (first | omega | (simp; omega) | (simp; done) | fail "sml")) _ | refine Below.drew ?_ | refine Below.alloc ?_ (by (first | omega | (simp; omega) | (simp; done) | fail "sml")) _)); first | done | fail "chs")⟩
  case rest =>
  obtain ⟨rfl, hbx⟩ := hcut
  clear hz ag0 ag1 ax0 ax1 hq_g hq_x xgk xg0 xg1 xxk xx0 xx1
  clear hA0 rr0
  obtain ⟨w7, ew⟩ : ∃ u, u = wc := ⟨_, rfl⟩
  subst ew
  have hs_w7 : w6.heap.size ≤ w7.heap.size := hbx.size
  have LXg := Lib.hid (LXg.out.below (Gr.goes g) hbx)
  have LXx := Lib.hid (LXx.out.below (Wk.goes x) hbx)
  have HA := Lib.hid (HA.out.trans (hbx.mono (by omega)))
  clear hbx
  obtain ⟨hz, ag0, ag1, ax0, ax1⟩ := HK.out _ HA.out
  have hq_g : w.heap.size < w7.heap.size := by omega
  have hq_x : w.heap.size + 1 < w7.heap.size := by omega
  obtain ⟨xgk, xgc, _⟩ := LXg.out
  have xg0 := xgc 0 _ rfl
  have xg1 := xgc 1 _ rfl
  clear xgc
  obtain ⟨xxk, xxc, _⟩ := LXx.out
  have xx0 := xxc 0 _ rfl
  have xx1 := xxc 1 _ rfl
  clear xxc
  have hA0 := HA.out
  have rr0 := Below.refl w7.heap.size w7
  go_upto_region 16 with fail
  go_cut [44] (fun s wx => s = .bool false ∧ Below w7.heap.size w7 wx)
  case first =>
    go_region_held3 (fun w' => w'.cell? ⟨w.heap.size + 1, 0, none⟩ = some (.slice p0x x.ns.length c0x) ∧ w'.cell? ⟨w.heap.size + 1, 1, none⟩ = some (.slice q0x x.es.length d0x) ∧ w'.cell? ⟨w5.heap.size, 0, none⟩ = some (.slice pXx x.ns.length cXx) ∧ w'.cell? ⟨w5.heap.size, 1, none⟩ = some (.slice qXx x.es.length dXx))
      (exact ⟨keepc (show Below w7.heap.size w7 _ by ((repeat (first | with_reducible assumption | with_reducible exact Below.refl _ _ | refine Below.setCell ?_ (by (first | omega | (simp; omega) | (simp; done) | fail "sml")) _ | refine Below.drew ?_ | refine Below.alloc ?_ (by (first | omega | (simp; omega) | (simp; done) | fail "sml")) _)); first | done | fail "chs")) hq_x ax0, keepc (show Below w7.heap.size w7 _ by ((repeat (first | with_reducible assumption | with_reducible exact Below.refl _ _ | refine Below.setCell ?_ (by (first | omega | (simp; omega) | (simp; done) | fail "sml")) _ | refine Below.drew ?_ | refine Below.alloc ?_ (by (first | omega | (simp; omega) | (simp; done) | fail "sml")) _)); first | done | fail "chs")) hq_x ax1, keepc (show Below w7.heap.size w7 _ by ((repeat (first | with_reducible assumption | with_reducible exact Below.refl _ _ | refine Below.setCell ?_ (by (first | omega | (simp; omega) | (simp; done) | fail "sml")) _ | refine Below.drew ?_ | refine Below.alloc ?_ (by (first | omega | (simp; omega) | (simp; done) | fail "sml")) _)); first | done | fail "chs")) xxk xx0, keepc (show Below w7.heap.size w7 _ by ((repeat (first | with_reducible assumption | with_reducible exact Below.refl _ _ | refine Below.setCell ?_ (by (first | omega | (simp; omega) | (simp; done) | fail "sml")) _ | refine Below.drew ?_ | refine Below.alloc ?_ (by (first | omega | (simp; omega) | (simp; done) | fail "sml")) _)); first | done | fail "chs")) xxk xx1⟩)
      (first
        | (go_at_call 15; refine (CT_x.out _ (hA0.trans (Below.mono (show Below w7.heap.size w7 _ by ((repeat (first | with_reducible assumption | with_reducible exact Below.refl _ _ | refine Below.setCell ?_ (by (first | omega | (simp; omega) | (simp; done) | fail "sml")) _ | refine Below.drew ?_ | refine Below.alloc ?_ (by (first | omega | (simp; omega) | (simp; done) | fail "sml")) _)); first | done | fail "chs")) (by omega)))).mono ?_; rintro en wa ⟨va, Fa, rfl, hh, _, hb⟩; have hka := Below.trans (show Below w7.heap.size w7 _ by ((repeat (first | with_reducible assumption | with_reducible exact Below.refl _ _ | refine Below.setCell ?_ (by (first | omega | (simp; omega) | (simp; done) | fail "sml")) _ | refine Below.drew ?_ | refine Below.alloc ?_ (by (first | omega | (simp; omega) | (simp; done) | fail "sml")) _)); first | done | fail "chs")) (hb.mono (by (first | omega | (simp; omega) | (simp; done) | fail "sml"))); have za := hka.size; have HHa := Lib.hid hh.at; clear hh hb)
        | (go_at_call 18; refine (eqWalk_any x _ _ wa.heap.size _ (LXx.out.2.2.at.to (by ((repeat (first | with_reducible assumption | with_reducible exact Below.refl _ _ | refine Below.setCell ?_ (by (first | omega | (simp; omega) | (simp; done) | fail "sml")) _ | refine Below.drew ?_ | refine Below.alloc ?_ (by (first | omega | (simp; omega) | (simp; done) | fail "sml")) _)); first | done | fail "chs")) (by omega)) (HHa.out.to (by ((repeat (first | with_reducible assumption | with_reducible exact Below.refl _ _ | refine Below.setCell ?_ (by (first | omega | (simp; omega) | (simp; done) | fail "sml")) _ | refine Below.drew ?_ | refine Below.alloc ?_ (by (first | omega | (simp; omega) | (simp; done) | fail "sml")) _)); first | done | fail "chs")) (Nat.le_refl _)) (by (first | omega | (simp; omega) | (simp; done) | fail "sml"))).mono ?_; rintro en wb ⟨rfl, hbb⟩; have hkb := Below.trans (show Below w7.heap.size w7 _ by ((repeat (first | with_reducible assumption | with_reducible exact Below.refl _ _ | refine Below.setCell ?_ (by (first | omega | (simp; omega) | (simp; done) | fail "sml")) _ | refine Below.drew ?_ | refine Below.alloc ?_ (by (first | omega | (simp; omega) | (simp; done) | fail "sml")) _)); first | done | fail "chs")) (hbb.mono (by first | omega | (simp; omega))); clear hbb))
    all_goals (go_wp2_with fail; go_meet)
    all_goals exact ⟨rfl, by ((repeat (first | with_reducible assumption | with_reducible exact Below.refl _ _ | refine Below.setCell ?_ (by (first | omega | (simp; omega) | (simp; done) | fail "sml")) _ | refine Below.drew ?_ | refine Below.alloc ?_ (by (first | omega | (simp; omega) | (simp; done) | fail "sml")) _)); first | done | fail "chs")⟩
  case rest =>
  obtain ⟨rfl, hbx⟩ := hcut
  clear hz ag0 ag1 ax0 ax1 hq_g hq_x xgk xg0 xg1 xxk xx0 xx1
  clear hA0 rr0
  obtain ⟨w8, ew⟩ : ∃ u, u = wc := ⟨_, rfl⟩
  subst ew
  have hs_w8 : w7.heap.size ≤ w8.heap.size := hbx.size
  have LXg := Lib.hid (LXg.out.below (Gr.goes g) hbx)
  have LXx := Lib.hid (LXx.out.below (Wk.goes x) hbx)
  have HA := Lib.hid (HA.out.trans (hbx.mono (by omega)))
  clear hbx
  obtain ⟨hz, ag0, ag1, ax0, ax1⟩ := HK.out _ HA.out
  have hq_g : w.heap.size < w8.heap.size := by omega
  have hq_x : w.heap.size + 1 < w8.heap.size := by omega
  obtain ⟨xgk, xgc, _⟩ := LXg.out
  have xg0 := xgc 0 _ rfl
  have xg1 := xgc 1 _ rfl
  clear xgc
  obtain ⟨xxk, xxc, _⟩ := LXx.out
  have xx0 := xxc 0 _ rfl
  have xx1 := xxc 1 _ rfl
  clear xxc
  go_wp2_with fail
  go_ret
  exact ⟨rfl, HV.out.trans (HA.out.mono (by omega))⟩
end Go.Proofs.Ytajjidkondchkaa
