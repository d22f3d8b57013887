/- The walk of FnExactHopsFrom. -/
import Derived.Test.YtpojfgapldgigaaGreatDoorSHops
import Derived.Test.YtpojfgapldgigaaGreatDoorKinds
import Derived.Deep.RegionHeld3
import Derived.Deep.DeepCutAuto
namespace Go.Proofs.YtpojfgapldgigaaGreatDoor
open Go.RowKit

set_option maxRecDepth 100000 in
set_option maxHeartbeats 16000000 in
theorem lawExactHopsFrom (g : Gr) (n : Int) (e : El) (v_g : Value) (v_e : Value) (w : World) (h_g : g.At w.heap.size w v_g) (h_e : e.At w.heap.size w v_e) (hok_g : g.Ok) (hok_e : e.Ok) (hvars : Vars w) :
    Calls Tryz.prog 3 #[v_g, .int .i64 n, v_e] w fun en w' => en = .returned (.bool true) ∧ Below w.heap.size w w' := by
  have HE_g := Lib.hid h_g
  have HOK_g := Lib.hid hok_g
  have HE_e := Lib.hid h_e
  have HOK_e := Lib.hid hok_e
  have HVV := Lib.hid hvars
  obtain ⟨p0g, c0g, q0g, d0g, rfl⟩ := h_g.form
  obtain ⟨p0e, c0e, q0e, d0e, rfl, _, _⟩ := h_e.form
  clear h_g hok_g h_e hok_e hvars
  obtain ⟨R, eR⟩ : ∃ R, R = hopsR g n e := ⟨_, rfl⟩
  have hRs : R.length ≤ 1000 := by rw [eR]; exact Nat.le_trans (hopsR_len g n e) (by omega)
  obtain ⟨W0, eW⟩ : ∃ W0, W0 = ((w.alloc (.cells #[.slice p0g g.ns.length c0g, .slice q0g g.es.length d0g] 25)).alloc (.cells #[.bool e.n, .string e.v, .int .i64 e.l.op, .string e.l.a, .slice p0e e.l.ks.list.length c0e, .int .i64 e.c.op, .string e.c.a, .slice q0e e.c.ks.list.length d0e, .int .i64 e.d] 30)) := ⟨_, rfl⟩
  have HV := Lib.hid (show Below w.heap.size w W0 by rw [eW]; exact ((Below.refl w.heap.size w).alloc (by simp) _).alloc (by simp) _)
  have HK := Lib.hid (show ∀ wk, Below (w.heap.size + 2) W0 wk → w.heap.size + 2 ≤ wk.heap.size ∧ wk.cell? ⟨w.heap.size, 0, none⟩ = some (.slice p0g g.ns.length c0g) ∧ wk.cell? ⟨w.heap.size, 1, none⟩ = some (.slice q0g g.es.length d0g) ∧ wk.cell? ⟨w.heap.size + 1, 0, none⟩ = some (.bool e.n) ∧ wk.cell? ⟨w.heap.size + 1, 1, none⟩ = some (.string e.v) ∧ wk.cell? ⟨w.heap.size + 1, 2, none⟩ = some (.int .i64 e.l.op) ∧ wk.cell? ⟨w.heap.size + 1, 3, none⟩ = some (.string e.l.a) ∧ wk.cell? ⟨w.heap.size + 1, 4, none⟩ = some (.slice p0e e.l.ks.list.length c0e) ∧ wk.cell? ⟨w.heap.size + 1, 5, none⟩ = some (.int .i64 e.c.op) ∧ wk.cell? ⟨w.heap.size + 1, 6, none⟩ = some (.string e.c.a) ∧ wk.cell? ⟨w.heap.size + 1, 7, none⟩ = some (.slice q0e e.c.ks.list.length d0e) ∧ wk.cell? ⟨w.heap.size + 1, 8, none⟩ = some (.int .i64 e.d) from
    fun wk hk => by rw [eW] at hk; exact ⟨by have := hk.size; simp at this; omega, keepc hk (by omega) (by simp [go_sem]), keepc hk (by omega) (by simp [go_sem]), keepc hk (by omega) (by simp [go_sem]), keepc hk (by omega) (by simp [go_sem]), keepc hk (by omega) (by simp [go_sem]), keepc hk (by omega) (by simp [go_sem]), keepc hk (by omega) (by simp [go_sem]), keepc hk (by omega) (by simp [go_sem]), keepc hk (by omega) (by simp [go_sem]), keepc hk (by omega) (by simp [go_sem]), keepc hk (by omega) (by simp [go_sem])⟩)
  have hs0 : w.heap.size + 2 ≤ W0.heap.size := by rw [eW]; simp
  have HA := Lib.hid (Below.refl (w.heap.size + 2) W0)
  have HVA := Lib.hid (show ∀ wk, Below (w.heap.size + 2) W0 wk → Vars wk from fun wk hk => HVV.out.below (HV.out.trans (hk.mono (by omega))))
  have HEA_g := Lib.hid (show ∀ wk, Below (w.heap.size + 2) W0 wk → g.At w.heap.size wk (.agg #[.slice p0g g.ns.length c0g, .slice q0g g.es.length d0g]) from fun wk hk => HE_g.out.to (HV.out.trans (hk.mono (by omega))) (Nat.le_refl _))
  have HEA_e := Lib.hid (show ∀ wk, Below (w.heap.size + 2) W0 wk → e.At w.heap.size wk (.agg #[.bool e.n, .string e.v, .int .i64 e.l.op, .string e.l.a, .slice p0e e.l.ks.list.length c0e, .int .i64 e.c.op, .string e.c.a, .slice q0e e.c.ks.list.length d0e, .int .i64 e.d]) from fun wk hk => HE_e.out.to (HV.out.trans (hk.mono (by omega))) (Nat.le_refl _))
  have EW := Lib.hid eW
  clear eW HE_g HE_e HVV
  go_enter Tryz.func3, Tryz.ntmps3
  go_wp2_with fail
  rw [← EW.out]
  refine (szGraph_any g _ 1048576 w.heap.size _ (HEA_g.out _ HA.out) (by omega) (by omega) (by omega) HOK_g.out).mono ?_
  rintro en w1 ⟨r_g, rfl, hr_g, hb⟩
  have hs_w1 : W0.heap.size ≤ w1.heap.size := hb.size
  have HA := Lib.hid (HA.out.trans (hb.mono (by omega)))
  clear hb
  obtain ⟨hz, ag0, ag1, ae0, ae1, ae2, ae3, ae4, ae5, ae6, ae7, ae8⟩ := HK.out _ HA.out
  have hq_g : w.heap.size < w1.heap.size := by omega
  have hq_e : w.heap.size + 1 < w1.heap.size := by omega
  rcases hr_g with hr_g | ⟨hr0_g, hr_g⟩
  · have hneg : r_g < 0 := by omega
    clear hr_g
    go_wp2_with fail
    go_ret
    exact ⟨rfl, HV.out.trans (HA.out.mono (by omega))⟩
  have hl1_g : g.ns.length ≤ 1048576 := by unfold Gr.need at hr_g; omega
  have hl2_g : g.es.length ≤ 1048576 := by unfold Gr.need at hr_g; omega
  have hrm_g : r_g ≤ 1048576 := by omega
  clear hr_g
  go_wp2_with fail
  refine (szElem_any e _ r_g w.heap.size _ (HEA_e.out _ HA.out) (by omega) hr0_g hrm_g HOK_e.out).mono ?_
  rintro en w2 ⟨r_e, rfl, hr_e, hb⟩
  clear hz ag0 ag1 ae0 ae1 ae2 ae3 ae4 ae5 ae6 ae7 ae8 hq_g hq_e
  have hs_w2 : w1.heap.size ≤ w2.heap.size := hb.size
  have HA := Lib.hid (HA.out.trans (hb.mono (by omega)))
  clear hb
  obtain ⟨hz, ag0, ag1, ae0, ae1, ae2, ae3, ae4, ae5, ae6, ae7, ae8⟩ := HK.out _ HA.out
  have hq_g : w.heap.size < w2.heap.size := by omega
  have hq_e : w.heap.size + 1 < w2.heap.size := by omega
  rcases hr_e with hr_e | ⟨hr0_e, hr_e⟩
  · have hneg : r_e < 0 := by omega
    clear hr_e
    go_wp2_with fail
    go_ret
    exact ⟨rfl, HV.out.trans (HA.out.mono (by omega))⟩
  have hneed_e : elNeed e ≤ 1048576 := by omega
  have hz1_e := (El.sm_need hneed_e).2.2.1
  have hz2_e := (El.sm_need hneed_e).2.2.2.2.1
  have HSM_e := Lib.hid (El.sm_of hneed_e)
  have hrm_e : r_e ≤ 1048576 := by omega
  clear hr_e hneed_e
  have CS := Lib.hid (fun (v_g : Value) (v_e : Value) (B : Nat) (E : World) (hB : B ≤ E.heap.size) (h_g : g.At B E v_g) (h_e : e.At B E v_e) => eR ▸ specHopsFrom_any g e v_g v_e n B E h_g h_e hB HOK_g.out HSM_e.out)
  have CI := Lib.hid (fun (v_g : Value) (v_e : Value) (B : Nat) (E : World) (hB : B ≤ E.heap.size) (h_g : g.At B E v_g) (h_e : e.At B E v_e) (hV : Vars E) => eR ▸ hopsFrom_any g e v_g v_e n B E h_g h_e hB HOK_g.out HSM_e.out hV)
  have CT_g := Lib.hid (fun (E : World) (hE : Below (w.heap.size + 2) W0 E) => (show Calls Tryz.prog 7 #[.agg #[.slice p0g g.ns.length c0g, .slice q0g g.es.length d0g]] E _ from (fun (hv : g.At w.heap.size E (.agg #[.slice p0g g.ns.length c0g, .slice q0g g.es.length d0g])) (hB : w.heap.size ≤ E.heap.size) => toGraph_has g _ w.heap.size E hv hB hl1_g hl2_g) (HEA_g.out E hE) (by have := hE.size; omega)))
  have CT_e := Lib.hid (fun (E : World) (hE : Below (w.heap.size + 2) W0 E) => (show Calls Tryz.prog 8 #[.agg #[.bool e.n, .string e.v, .int .i64 e.l.op, .string e.l.a, .slice p0e e.l.ks.list.length c0e, .int .i64 e.c.op, .string e.c.a, .slice q0e e.c.ks.list.length d0e, .int .i64 e.d]] E _ from (fun (hv : e.At w.heap.size E (.agg #[.bool e.n, .string e.v, .int .i64 e.l.op, .string e.l.a, .slice p0e e.l.ks.list.length c0e, .int .i64 e.c.op, .string e.c.a, .slice q0e e.c.ks.list.length d0e, .int .i64 e.d])) (hB : w.heap.size ≤ E.heap.size) => toElem_any e _ w.heap.size E hv hB hz1_e hz2_e) (HEA_e.out E hE) (by have := hE.size; omega)))
  clear eR
  have hA0 := HA.out
  have rr0 := Below.refl w2.heap.size w2
  go_upto_region 8 with fail
  go_cut [8] (fun s wx => ∃ p c F, s = .slice p R.length c ∧ OwnSl 2 Hp.cells wx (.slice p R.length c) R F ∧ (∀ y ∈ F, w2.heap.size ≤ y) ∧ Below w2.heap.size w2 wx)
  case first =>
    go_region_held3 (fun w' => w'.cell? ⟨w.heap.size, 0, none⟩ = some (.slice p0g g.ns.length c0g) ∧ w'.cell? ⟨w.heap.size, 1, none⟩ = some (.slice q0g g.es.length d0g) ∧ w'.cell? ⟨w.heap.size + 1, 0, none⟩ = some (.bool e.n) ∧ w'.cell? ⟨w.heap.size + 1, 1, none⟩ = some (.string e.v) ∧ w'.cell? ⟨w.heap.size + 1, 2, none⟩ = some (.int .i64 e.l.op) ∧ w'.cell? ⟨w.heap.size + 1, 3, none⟩ = some (.string e.l.a) ∧ w'.cell? ⟨w.heap.size + 1, 4, none⟩ = some (.slice p0e e.l.ks.list.length c0e) ∧ w'.cell? ⟨w.heap.size + 1, 5, none⟩ = some (.int .i64 e.c.op) ∧ w'.cell? ⟨w.heap.size + 1, 6, none⟩ = some (.string e.c.a) ∧ w'.cell? ⟨w.heap.size + 1, 7, none⟩ = some (.slice q0e e.c.ks.list.length d0e) ∧ w'.cell? ⟨w.heap.size + 1, 8, none⟩ = some (.int .i64 e.d))
      (exact (HK.out _ (hA0.trans (Below.mono (show Below w2.heap.size w2 _ by ((repeat (first | with_reducible assumption | with_reducible exact Below.refl _ _ | refine Below.setCell ?_ (by (first | omega | (simp; omega) | (simp; done) | fail "sml")) _ | refine Below.drew ?_ | refine Below.alloc ?_ (by (first | omega | (simp; omega) | (simp; done) | fail "sml")) _)); first | done | fail "chs")) (by omega)))).2)
      (first
        | (go_at_call 7; refine (CT_g.out _ (hA0.trans (Below.mono (show Below w2.heap.size w2 _ by ((repeat (first | with_reducible assumption | with_reducible exact Below.refl _ _ | refine Below.setCell ?_ (by (first | omega | (simp; omega) | (simp; done) | fail "sml")) _ | refine Below.drew ?_ | refine Below.alloc ?_ (by (first | omega | (simp; omega) | (simp; done) | fail "sml")) _)); first | done | fail "chs")) (by omega)))).mono ?_; rintro en wa_g ⟨va_g, Fa, rfl, hh, _, hb⟩; have hk_g := Below.trans (show Below w2.heap.size w2 _ by ((repeat (first | with_reducible assumption | with_reducible exact Below.refl _ _ | refine Below.setCell ?_ (by (first | omega | (simp; omega) | (simp; done) | fail "sml")) _ | refine Below.drew ?_ | refine Below.alloc ?_ (by (first | omega | (simp; omega) | (simp; done) | fail "sml")) _)); first | done | fail "chs")) (hb.mono (by (first | omega | (simp; omega) | (simp; done) | fail "sml"))); have z_g := hk_g.size; have raa_g := Below.refl wa_g.heap.size wa_g; (first | (have r_eg := Below.trans (show Below wa_e.heap.size wa_e _ by ((repeat (first | with_reducible assumption | with_reducible exact Below.refl _ _ | refine Below.setCell ?_ (by (first | omega | (simp; omega) | (simp; done) | fail "sml")) _ | refine Below.drew ?_ | refine Below.alloc ?_ (by (first | omega | (simp; omega) | (simp; done) | fail "sml")) _)); first | done | fail "chs")) (hb.mono (by (first | omega | (simp; omega) | (simp; done) | fail "sml")))) | skip); have HH_g := Lib.hid (fun X (hX : Below wa_g.heap.size wa_g X) => hh.at.to hX hX.size); clear hh hb)
        | (go_at_call 8; refine (CT_e.out _ (hA0.trans (Below.mono (show Below w2.heap.size w2 _ by ((repeat (first | with_reducible assumption | with_reducible exact Below.refl _ _ | refine Below.setCell ?_ (by (first | omega | (simp; omega) | (simp; done) | fail "sml")) _ | refine Below.drew ?_ | refine Below.alloc ?_ (by (first | omega | (simp; omega) | (simp; done) | fail "sml")) _)); first | done | fail "chs")) (by omega)))).mono ?_; rintro en wa_e ⟨va_e, Fa, rfl, hh, _, hb⟩; have hk_e := Below.trans (show Below w2.heap.size w2 _ by ((repeat (first | with_reducible assumption | with_reducible exact Below.refl _ _ | refine Below.setCell ?_ (by (first | omega | (simp; omega) | (simp; done) | fail "sml")) _ | refine Below.drew ?_ | refine Below.alloc ?_ (by (first | omega | (simp; omega) | (simp; done) | fail "sml")) _)); first | done | fail "chs")) (hb.mono (by (first | omega | (simp; omega) | (simp; done) | fail "sml"))); have z_e := hk_e.size; have raa_e := Below.refl wa_e.heap.size wa_e; (first | (have r_ge := Below.trans (show Below wa_g.heap.size wa_g _ by ((repeat (first | with_reducible assumption | with_reducible exact Below.refl _ _ | refine Below.setCell ?_ (by (first | omega | (simp; omega) | (simp; done) | fail "sml")) _ | refine Below.drew ?_ | refine Below.alloc ?_ (by (first | omega | (simp; omega) | (simp; done) | fail "sml")) _)); first | done | fail "chs")) (hb.mono (by (first | omega | (simp; omega) | (simp; done) | fail "sml")))) | skip); have HH_e := Lib.hid (fun X (hX : Below wa_e.heap.size wa_e X) => hh.at.to hX hX.size); clear hh hb)
        | (go_at_call 6; refine (CS.out _ _ _ _ (Nat.le_refl _) (HH_g.out _ (by ((repeat (first | with_reducible assumption | with_reducible exact Below.refl _ _ | refine Below.setCell ?_ (by (first | omega | (simp; omega) | (simp; done) | fail "sml")) _ | refine Below.drew ?_ | refine Below.alloc ?_ (by (first | omega | (simp; omega) | (simp; done) | fail "sml")) _)); first | done | fail "chs"))) (HH_e.out _ (by ((repeat (first | with_reducible assumption | with_reducible exact Below.refl _ _ | refine Below.setCell ?_ (by (first | omega | (simp; omega) | (simp; done) | fail "sml")) _ | refine Below.drew ?_ | refine Below.alloc ?_ (by (first | omega | (simp; omega) | (simp; done) | fail "sml")) _)); first | done | fail "chs")))).mono ?_; rintro en wq ⟨vq, Fq, rfl, hhq, hfq, hbq⟩; have hkq := Below.trans (show Below w2.heap.size w2 _ by ((repeat (first | with_reducible assumption | with_reducible exact Below.refl _ _ | refine Below.setCell ?_ (by (first | omega | (simp; omega) | (simp; done) | fail "sml")) _ | refine Below.drew ?_ | refine Below.alloc ?_ (by (first | omega | (simp; omega) | (simp; done) | fail "sml")) _)); first | done | fail "chs")) (hbq.mono (by (first | omega | (simp; omega) | (simp; done) | fail "sml"))); have HQ := Lib.hid hhq; have HFQ := Lib.hid (show ∀ y ∈ Fq, w2.heap.size ≤ y from fun y hy => by have h1 := hfq y hy; (try simp at h1); omega); clear hhq hfq hbq))
    all_goals (go_wp2_with fail; go_meet)
    all_goals (obtain ⟨pq, cq, rfl⟩ := HQ.out.sl.form; exact ⟨pq, cq, Fq, rfl, HQ.out, HFQ.out, by ((repeat (first | with_reducible assumption | with_reducible exact Below.refl _ _ | refine Below.setCell ?_ (by (first | omega | (simp; omega) | (simp; done) | fail "sml")) _ | refine Below.drew ?_ | refine Below.alloc ?_ (by (first | omega | (simp; omega) | (simp; done) | fail "sml")) _)); first | done | fail "chs")⟩)
  case rest =>
  obtain ⟨pW, cW, FW, rfl, hW, hfW, hbx⟩ := hcut
  clear hz ag0 ag1 ae0 ae1 ae2 ae3 ae4 ae5 ae6 ae7 ae8 hq_g hq_e
  clear hA0 rr0
  obtain ⟨w3, ew⟩ : ∃ u, u = wc := ⟨_, rfl⟩
  subst ew
  have hs_w3 : w2.heap.size ≤ w3.heap.size := hbx.size
  have HA := Lib.hid (HA.out.trans (hbx.mono (by omega)))
  have HW := Lib.hid hW
  have GW := Lib.hid (show ∀ y ∈ FW, w2.heap.size ≤ y ∧ y < w3.heap.size from fun y hy => ⟨hfW y hy, hW.lt y hy⟩)
  clear hW hfW hbx
  obtain ⟨hz, ag0, ag1, ae0, ae1, ae2, ae3, ae4, ae5, ae6, ae7, ae8⟩ := HK.out _ HA.out
  have hq_g : w.heap.size < w3.heap.size := by omega
  have hq_e : w.heap.size + 1 < w3.heap.size := by omega
  go_wp2_with fail
  refine (CT_g.out _ HA.out).mono ?_
  rintro en w4 ⟨vw4, FXg, rfl, ho, hf, hb⟩
  clear hz ag0 ag1 ae0 ae1 ae2 ae3 ae4 ae5 ae6 ae7 ae8 hq_g hq_e
  have hs_w4 : w3.heap.size ≤ w4.heap.size := hb.size
  have HW := Lib.hid (HW.out.below hb)
  have HA := Lib.hid (HA.out.trans (hb.mono (by omega)))
  have HO := Lib.hid ho
  have GXg := Lib.hid (show ∀ y ∈ FXg, w3.heap.size ≤ y ∧ y < w4.heap.size from fun y hy => ⟨hf y hy, ho.lt y hy⟩)
  obtain ⟨pXg, cXg, qXg, dXg, rfl⟩ := ho.at.form
  clear ho hf hb
  obtain ⟨hz, ag0, ag1, ae0, ae1, ae2, ae3, ae4, ae5, ae6, ae7, ae8⟩ := HK.out _ HA.out
  have hq_g : w.heap.size < w4.heap.size := by omega
  have hq_e : w.heap.size + 1 < w4.heap.size := by omega
  go_wp2_with fail
  clear hz ag0 ag1 ae0 ae1 ae2 ae3 ae4 ae5 ae6 ae7 ae8 hq_g hq_e
  obtain ⟨W4, eW⟩ : ∃ u, u = w4.alloc (.cells #[.slice pXg g.ns.length cXg, .slice qXg g.es.length dXg] 38) := ⟨_, rfl⟩
  rw [← eW]
  have hszW4 : w4.heap.size < W4.heap.size := by rw [eW]; simp
  have hbW : Below w4.heap.size w4 W4 := by rw [eW]; exact (Below.refl _ _).alloc (Nat.le_refl _) _
  have LXg := Lib.hid (show LocV g.Has w4.heap.size #[.slice pXg g.ns.length cXg, .slice qXg g.es.length dXg] FXg W4 by rw [eW]; exact LocV.fresh (Gr.goes g) HO.out)
  have hs_W4 : w4.heap.size ≤ W4.heap.size := hbW.size
  have HW := Lib.hid (HW.out.below hbW)
  have HA := Lib.hid (HA.out.trans (hbW.mono (by omega)))
  clear hbW eW HO
  refine (CT_e.out _ HA.out).mono ?_
  rintro en w5 ⟨vw5, FXe, rfl, ho, hf, hb⟩
  have hs_w5 : W4.heap.size ≤ w5.heap.size := hb.size
  have HW := Lib.hid (HW.out.below hb)
  have LXg := Lib.hid (LXg.out.below (Gr.goes g) hb)
  have HA := Lib.hid (HA.out.trans (hb.mono (by omega)))
  have HO := Lib.hid ho
  have GXe := Lib.hid (show ∀ y ∈ FXe, W4.heap.size ≤ y ∧ y < w5.heap.size from fun y hy => ⟨hf y hy, ho.lt y hy⟩)
  obtain ⟨pXe, cXe, qXe, dXe, rfl, _, _⟩ := ho.at.form
  clear ho hf hb
  obtain ⟨hz, ag0, ag1, ae0, ae1, ae2, ae3, ae4, ae5, ae6, ae7, ae8⟩ := HK.out _ HA.out
  have hq_g : w.heap.size < w5.heap.size := by omega
  have hq_e : w.heap.size + 1 < w5.heap.size := by omega
  obtain ⟨xgk, xgc, _⟩ := LXg.out
  have xg0 := xgc 0 _ rfl
  have xg1 := xgc 1 _ rfl
  clear xgc
  go_wp2_with fail
  clear hz ag0 ag1 ae0 ae1 ae2 ae3 ae4 ae5 ae6 ae7 ae8 hq_g hq_e xgk xg0 xg1
  obtain ⟨W5, eW⟩ : ∃ u, u = w5.alloc (.cells #[.bool e.n, .string e.v, .int .i64 e.l.op, .string e.l.a, .slice pXe e.l.ks.list.length cXe, .int .i64 e.c.op, .string e.c.a, .slice qXe e.c.ks.list.length dXe, .int .i64 e.d] 44) := ⟨_, rfl⟩
  rw [← eW]
  have hszW5 : w5.heap.size < W5.heap.size := by rw [eW]; simp
  have hbW : Below w5.heap.size w5 W5 := by rw [eW]; exact (Below.refl _ _).alloc (Nat.le_refl _) _
  have LXe := Lib.hid (show LocV e.Has w5.heap.size #[.bool e.n, .string e.v, .int .i64 e.l.op, .string e.l.a, .slice pXe e.l.ks.list.length cXe, .int .i64 e.c.op, .string e.c.a, .slice qXe e.c.ks.list.length dXe, .int .i64 e.d] FXe W5 by rw [eW]; exact LocV.fresh (El.goes e) HO.out)
  have hs_W5 : w5.heap.size ≤ W5.heap.size := hbW.size
  have HW := Lib.hid (HW.out.below hbW)
  have LXg := Lib.hid (LXg.out.below (Gr.goes g) hbW)
  have HA := Lib.hid (HA.out.trans (hbW.mono (by omega)))
  clear hbW eW HO
  refine (CI.out _ _ W5.heap.size _ (Nat.le_refl _) (LXg.out.2.2.at.to (Below.refl _ _) (Nat.le_refl _)) (LXe.out.2.2.at.to (Below.refl _ _) (Nat.le_refl _)) (HVA.out _ HA.out)).mono ?_
  rintro en w6 ⟨vw6, FG, rfl, ho, hf, hb⟩
  have hs_w6 : W5.heap.size ≤ w6.heap.size := hb.size
  have HW := Lib.hid (HW.out.below hb)
  have LXg := Lib.hid (LXg.out.below (Gr.goes g) hb)
  have LXe := Lib.hid (LXe.out.below (El.goes e) hb)
  have HA := Lib.hid (HA.out.trans (hb.mono (by omega)))
  have HG := Lib.hid ho
  have GG := Lib.hid (show ∀ y ∈ FG, W5.heap.size ≤ y ∧ y < w6.heap.size from fun y hy => ⟨hf y hy, ho.lt y hy⟩)
  obtain ⟨pG, cG, rfl⟩ := ho.sl.form
  clear ho hf hb
  obtain ⟨hz, ag0, ag1, ae0, ae1, ae2, ae3, ae4, ae5, ae6, ae7, ae8⟩ := HK.out _ HA.out
  have hq_g : w.heap.size < w6.heap.size := by omega
  have hq_e : w.heap.size + 1 < w6.heap.size := by omega
  obtain ⟨xgk, xgc, _⟩ := LXg.out
  have xg0 := xgc 0 _ rfl
  have xg1 := xgc 1 _ rfl
  clear xgc
  obtain ⟨xek, xec, _⟩ := LXe.out
  have xe0 := xec 0 _ rfl
  have xe1 := xec 1 _ rfl
  have xe2 := xec 2 _ rfl
  have xe3 := xec 3 _ rfl
  have xe4 := xec 4 _ rfl
  have xe5 := xec 5 _ rfl
  have xe6 := xec 6 _ rfl
  have xe7 := xec 7 _ rfl
  have xe8 := xec 8 _ rfl
  clear xec
  go_wp2_with fail
  refine (eqHopS_any R _ _ w6.heap.size _ HG.out.sl HW.out.sl (Nat.le_refl _)).mono ?_
  rintro en w7 ⟨rfl, hb⟩
  clear hz ag0 ag1 ae0 ae1 ae2 ae3 ae4 ae5 ae6 ae7 ae8 hq_g hq_e xgk xg0 xg1 xek xe0 xe1 xe2 xe3 xe4 xe5 xe6 xe7 xe8
  have hs_w7 : w6.heap.size ≤ w7.heap.size := hb.size
  have HW := Lib.hid (HW.out.below hb)
  have LXg := Lib.hid (LXg.out.below (Gr.goes g) hb)
  have LXe := Lib.hid (LXe.out.below (El.goes e) hb)
  have HG := Lib.hid (HG.out.below hb)
  have HA := Lib.hid (HA.out.trans (hb.mono (by omega)))
  clear hb
  obtain ⟨hz, ag0, ag1, ae0, ae1, ae2, ae3, ae4, ae5, ae6, ae7, ae8⟩ := HK.out _ HA.out
  have hq_g : w.heap.size < w7.heap.size := by omega
  have hq_e : w.heap.size + 1 < w7.heap.size := by omega
  obtain ⟨xgk, xgc, _⟩ := LXg.out
  have xg0 := xgc 0 _ rfl
  have xg1 := xgc 1 _ rfl
  clear xgc
  obtain ⟨xek, xec, _⟩ := LXe.out
  have xe0 := xec 0 _ rfl
  have xe1 := xec 1 _ rfl
  have xe2 := xec 2 _ rfl
  have xe3 := xec 3 _ rfl
  have xe4 := xec 4 _ rfl
  have xe5 := xec 5 _ rfl
  have xe6 := xec 6 _ rfl
  have xe7 := xec 7 _ rfl
  have xe8 := xec 8 _ rfl
  clear xec
  have hA0 := HA.out
  have rr0 := Below.refl w7.heap.size w7
  go_upto_region 14 with fail
  go_cut [48] (fun s wx => s = .bool false ∧ Below w7.heap.size w7 wx)
  case first =>
    go_region_held3 (fun w' => w'.cell? ⟨w.heap.size, 0, none⟩ = some (.slice p0g g.ns.length c0g) ∧ w'.cell? ⟨w.heap.size, 1, none⟩ = some (.slice q0g g.es.length d0g) ∧ w'.cell? ⟨w4.heap.size, 0, none⟩ = some (.slice pXg g.ns.length cXg) ∧ w'.cell? ⟨w4.heap.size, 1, none⟩ = some (.slice qXg g.es.length dXg))
      (exact ⟨keepc (show Below w7.heap.size w7 _ by ((repeat (first | with_reducible assumption | with_reducible exact Below.refl _ _ | refine Below.setCell ?_ (by (first | omega | (simp; omega) | (simp; done) | fail "sml")) _ | refine Below.drew ?_ | refine Below.alloc ?_ (by (first | omega | (simp; omega) | (simp; done) | fail "sml")) _)); first | done | fail "chs")) hq_g ag0, keepc (show Below w7.heap.size w7 _ by ((repeat (first | with_reducible assumption | with_reducible exact Below.refl _ _ | refine Below.setCell ?_ (by (first | omega | (simp; omega) | (simp; done) | fail "sml")) _ | refine Below.drew ?_ | refine Below.alloc ?_ (by (first | omega | (simp; omega) | (simp; done) | fail "sml")) _)); first | done | fail "chs")) hq_g ag1, keepc (show Below w7.heap.size w7 _ by ((repeat (first | with_reducible assumption | with_reducible exact Below.refl _ _ | refine Below.setCell ?_ (by (first | omega | (simp; omega) | (simp; done) | fail "sml")) _ | refine Below.drew ?_ | refine Below.alloc ?_ (by (first | omega | (simp; omega) | (simp; done) | fail "sml")) _)); first | done | fail "chs")) xgk xg0, keepc (show Below w7.heap.size w7 _ by ((repeat (first | with_reducible assumption | with_reducible exact Below.refl _ _ | refine Below.setCell ?_ (by (first | omega | (simp; omega) | (simp; done) | fail "sml")) _ | refine Below.drew ?_ | refine Below.alloc ?_ (by (first | omega | (simp; omega) | (simp; done) | fail "sml")) _)); first | done | fail "chs")) xgk xg1⟩)
      (first
        | (go_at_call 7; refine (CT_g.out _ (hA0.trans (Below.mono (show Below w7.heap.size w7 _ by ((repeat (first | with_reducible assumption | with_reducible exact Below.refl _ _ | refine Below.setCell ?_ (by (first | omega | (simp; omega) | (simp; done) | fail "sml")) _ | refine Below.drew ?_ | refine Below.alloc ?_ (by (first | omega | (simp; omega) | (simp; done) | fail "sml")) _)); first | done | fail "chs")) (by omega)))).mono ?_; rintro en wa ⟨va, Fa, rfl, hh, _, hb⟩; have hka := Below.trans (show Below w7.heap.size w7 _ by ((repeat (first | with_reducible assumption | with_reducible exact Below.refl _ _ | refine Below.setCell ?_ (by (first | omega | (simp; omega) | (simp; done) | fail "sml")) _ | refine Below.drew ?_ | refine Below.alloc ?_ (by (first | omega | (simp; omega) | (simp; done) | fail "sml")) _)); first | done | fail "chs")) (hb.mono (by (first | omega | (simp; omega) | (simp; done) | fail "sml"))); have za := hka.size; have HHa := Lib.hid hh.at; clear hh hb)
        | (go_at_call 11; refine (eqGraph_any g _ _ wa.heap.size _ (LXg.out.2.2.at.to (by ((repeat (first | with_reducible assumption | with_reducible exact Below.refl _ _ | refine Below.setCell ?_ (by (first | omega | (simp; omega) | (simp; done) | fail "sml")) _ | refine Below.drew ?_ | refine Below.alloc ?_ (by (first | omega | (simp; omega) | (simp; done) | fail "sml")) _)); first | done | fail "chs")) (by omega)) (HHa.out.to (by ((repeat (first | with_reducible assumption | with_reducible exact Below.refl _ _ | refine Below.setCell ?_ (by (first | omega | (simp; omega) | (simp; done) | fail "sml")) _ | refine Below.drew ?_ | refine Below.alloc ?_ (by (first | omega | (simp; omega) | (simp; done) | fail "sml")) _)); first | done | fail "chs")) (Nat.le_refl _)) (by (first | omega | (simp; omega) | (simp; done) | fail "sml"))).mono ?_; rintro en wb ⟨rfl, hbb⟩; have hkb := Below.trans (show Below w7.heap.size w7 _ by ((repeat (first | with_reducible assumption | with_reducible exact Below.refl _ _ | refine Below.setCell ?_ (by (first | omega | (simp; omega) | (simp; done) | fail "sml")) _ | refine Below.drew ?_ | refine Below.alloc ?_ (by (first | omega | (simp; omega) | (simp; done) | fail "sml")) _)); first | done | fail "chs")) (hbb.mono (by first | omega | (simp; omega))); clear hbb))
    all_goals (go_wp2_with fail; go_meet)
    all_goals exact ⟨rfl, by ((repeat (first | with_reducible assumption | with_reducible exact Below.refl _ _ | refine Below.setCell ?_ (by (first | omega | (simp; omega) | (simp; done) | fail "sml")) _ | refine Below.drew ?_ | refine Below.alloc ?_ (by (first | omega | (simp; omega) | (simp; done) | fail "sml")) _)); first | done | fail "chs")⟩
  case rest =>
  obtain ⟨rfl, hbx⟩ := hcut
  clear hz ag0 ag1 ae0 ae1 ae2 ae3 ae4 ae5 ae6 ae7 ae8 hq_g hq_e xgk xg0 xg1 xek xe0 xe1 xe2 xe3 xe4 xe5 xe6 xe7 xe8
  clear hA0 rr0
  obtain ⟨w8, ew⟩ : ∃ u, u = wc := ⟨_, rfl⟩
  subst ew
  have hs_w8 : w7.heap.size ≤ w8.heap.size := hbx.size
  have HW := Lib.hid (HW.out.below hbx)
  have LXg := Lib.hid (LXg.out.below (Gr.goes g) hbx)
  have LXe := Lib.hid (LXe.out.below (El.goes e) hbx)
  have HG := Lib.hid (HG.out.below hbx)
  have HA := Lib.hid (HA.out.trans (hbx.mono (by omega)))
  clear hbx
  obtain ⟨hz, ag0, ag1, ae0, ae1, ae2, ae3, ae4, ae5, ae6, ae7, ae8⟩ := HK.out _ HA.out
  have hq_g : w.heap.size < w8.heap.size := by omega
  have hq_e : w.heap.size + 1 < w8.heap.size := by omega
  obtain ⟨xgk, xgc, _⟩ := LXg.out
  have xg0 := xgc 0 _ rfl
  have xg1 := xgc 1 _ rfl
  clear xgc
  obtain ⟨xek, xec, _⟩ := LXe.out
  have xe0 := xec 0 _ rfl
  have xe1 := xec 1 _ rfl
  have xe2 := xec 2 _ rfl
  have xe3 := xec 3 _ rfl
  have xe4 := xec 4 _ rfl
  have xe5 := xec 5 _ rfl
  have xe6 := xec 6 _ rfl
  have xe7 := xec 7 _ rfl
  have xe8 := xec 8 _ rfl
  clear xec
  have hA0 := HA.out
  have rr0 := Below.refl w8.heap.size w8
  go_upto_region 16 with fail
  go_cut [53] (fun s wx => s = .bool false ∧ Below w8.heap.size w8 wx)
  case first =>
    go_region_held3 (fun w' => w'.cell? ⟨w.heap.size + 1, 0, none⟩ = some (.bool e.n) ∧ w'.cell? ⟨w.heap.size + 1, 1, none⟩ = some (.string e.v) ∧ w'.cell? ⟨w.heap.size + 1, 2, none⟩ = some (.int .i64 e.l.op) ∧ w'.cell? ⟨w.heap.size + 1, 3, none⟩ = some (.string e.l.a) ∧ w'.cell? ⟨w.heap.size + 1, 4, none⟩ = some (.slice p0e e.l.ks.list.length c0e) ∧ w'.cell? ⟨w.heap.size + 1, 5, none⟩ = some (.int .i64 e.c.op) ∧ w'.cell? ⟨w.heap.size + 1, 6, none⟩ = some (.string e.c.a) ∧ w'.cell? ⟨w.heap.size + 1, 7, none⟩ = some (.slice q0e e.c.ks.list.length d0e) ∧ w'.cell? ⟨w.heap.size + 1, 8, none⟩ = some (.int .i64 e.d) ∧ w'.cell? ⟨w5.heap.size, 0, none⟩ = some (.bool e.n) ∧ w'.cell? ⟨w5.heap.size, 1, none⟩ = some (.string e.v) ∧ w'.cell? ⟨w5.heap.size, 2, none⟩ = some (.int .i64 e.l.op) ∧ w'.cell? ⟨w5.heap.size, 3, none⟩ = some (.string e.l.a) ∧ w'.cell? ⟨w5.heap.size, 4, none⟩ = some (.slice pXe e.l.ks.list.length cXe) ∧ w'.cell? ⟨w5.heap.size, 5, none⟩ = some (.int .i64 e.c.op) ∧ w'.cell? ⟨w5.heap.size, 6, none⟩ = some (.string e.c.a) ∧ w'.cell? ⟨w5.heap.size, 7, none⟩ = some (.slice qXe e.c.ks.list.length dXe) ∧ w'.cell? ⟨w5.heap.size, 8, none⟩ = some (.int .i64 e.d))
      (exact ⟨keepc (show Below w8.heap.size w8 _ by ((repeat (first | with_reducible assumption | with_reducible exact Below.refl _ _ | refine Below.setCell ?_ (by (first | omega | (simp; omega) | (simp; done) | fail "sml")) _ | refine Below.drew ?_ | refine Below.alloc ?_ (by (first | omega | (simp; omega) | (simp; done) | fail "sml")) _)); first | done | fail "chs")) hq_e ae0, keepc (show Below w8.heap.size w8 _ by ((repeat (first | with_reducible assumption | with_reducible exact Below.refl _ _ | refine Below.setCell ?_ (by (first | omega | (simp; omega) | (simp; done) | fail "sml")) _ | refine Below.drew ?_ | refine Below.alloc ?_ (by (first | omega | (simp; omega) | (simp; done) | fail "sml")) _)); first | done | fail "chs")) hq_e ae1, keepc (show Below w8.heap.size w8 _ by ((repeat (first | with_reducible assumption | with_reducible exact Below.refl _ _ | refine Below.setCell ?_ (by (first | omega | (simp; omega) | (simp; done) | fail "sml")) _ | refine Below.drew ?_ | refine Below.alloc ?_ (by (first | omega | (simp; omega) | (simp; done) | fail "sml")) _)); first | done | fail "chs")) hq_e ae2, keepc (show Below w8.heap.size w8 _ by ((repeat (first | with_reducible assumption | with_reducible exact Below.refl _ _ | refine Below.setCell ?_ (by (first | omega | (simp; omega) | (simp; done) | fail "sml")) _ | refine Below.drew ?_ | refine Below.alloc ?_ (by (first | omega | (simp; omega) | (simp; done) | fail "sml")) _)); first | done | fail "chs")) hq_e ae3, keepc (show Below w8.heap.size w8 _ by ((repeat (first | with_reducible assumption | with_reducible exact Below.refl _ _ | refine Below.setCell ?_ (by (first | omega | (simp; omega) | (simp; done) | fail "sml")) _ | refine Below.drew ?_ | refine Below.alloc ?_ (by (first | omega | (simp; omega) | (simp; done) | fail "sml")) _)); first | done | fail "chs")) hq_e ae4, keepc (show Below w8.heap.size w8 _ by ((repeat (first | with_reducible assumption | with_reducible exact Below.refl _ _ | refine Below.setCell ?_ (by (first | omega | (simp; omega) | (simp; done) | fail "sml")) _ | refine Below.drew ?_ | refine Below.alloc ?_ (by (first | omega | (simp; omega) | (simp; done) | fail "sml")) _)); first | done | fail "chs")) hq_e ae5, keepc (show Below w8.heap.size w8 _ by ((repeat (first | with_reducible assumption | with_reducible exact Below.refl _ _ | refine Below.setCell ?_ (by (first | omega | (simp; omega) | (simp; done) | fail "sml")) _ | refine Below.drew ?_ | refine Below.alloc ?_ (by (first | omega | (simp; omega) | (simp; done) | fail "sml")) _)); first | done | fail "chs")) hq_e ae6, keepc (show Below w8.heap.size w8 _ by ((repeat (first | with_reducible assumption | with_reducible exact Below.refl _ _ | refine Below.setCell ?_ (by (first | omega | (simp; omega) | (simp; done) | fail "sml")) _ | refine Below.drew ?_ | refine Below.alloc ?_ (by (first | omega | (simp; omega) | (simp; done) | fail "sml")) _)); first | done | fail "chs")) hq_e ae7, keepc (show Below w8.heap.size w8 _ by ((repeat (first | with_reducible assumption | with_reducible exact Below.refl _ _ | refine Below.setCell ?_ (by (first | omega | (simp; omega) | (simp; done) | fail "sml")) _ | refine Below.drew ?_ | refine Below.alloc ?_ (by (first | omega | (simp; omega) | (simp; done) | fail "sml")) _)); first | done | fail "chs")) hq_e ae8, keepc (show Below w8.heap.size w8 _ by ((repeat (first | with_reducible assumption | with_reducible exact Below.refl _ _ | refine Below.setCell ?_ (by (first | omega | (simp; omega) | (simp; done) | fail "sml")) _ | refine Below.drew ?_ | refine Below.alloc ?_ (by (first | omega | (simp; omega) | (simp; done) | fail "sml")) _)); first | done | fail "chs")) xek xe0, keepc (show Below w8.heap.size w8 _ by ((repeat (first | with_reducible assumption | with_reducible exact Below.refl _ _ | refine Below.setCell ?_ (by (first | omega | (simp; omega) | (simp; done) | fail "sml")) _ | refine Below.drew ?_ | refine Below.alloc ?_ (by (first | omega | (simp; omega) | (simp; done) | fail "sml")) _)); first | done | fail "chs")) xek xe1, keepc (show Below w8.heap.size w8 _ by ((repeat (first | with_reducible assumption | with_reducible exact Below.refl _ _ | refine Below.setCell ?_ (by (first | omega | (simp; omega) | (simp; done) | fail "sml")) _ | refine Below.drew ?_ | refine Below.alloc ?_ (by (first | omega | (simp; omega) | (simp; done) | fail "sml")) _)); first | done | fail "chs")) xek xe2, keepc (show Below w8.heap.size w8 _ by ((repeat (first | with_reducible assumption | with_reducible exact Below.refl _ _ | refine Below.setCell ?_ (by (first | omega | (simp; omega) | (simp; done) | fail "sml")) _ | refine Below.drew ?_ | refine Below.alloc ?_ (by (first | omega | (simp; omega) | (simp; done) | fail "sml")) _)); first | done | fail "chs")) xek xe3, keepc (show Below w8.heap.size w8 _ by ((repeat (first | with_reducible assumption | with_reducible exact Below.refl _ _ | refine Below.setCell ?_ (by (first | omega | (simp; omega) | (simp; done) | fail "sml")) _ | refine Below.drew ?_ | refine Below.alloc ?_ (by (first | omega | (simp; omega) | (simp; done) | fail "sml")) _)); first | done | fail "chs")) xek xe4, keepc (show Below w8.heap.size w8 _ by ((repeat (first | with_reducible assumption | with_reducible exact Below.refl _ _ | refine Below.setCell ?_ (by (first | omega | (simp; omega) | (simp; done) | fail "sml")) _ | refine Below.drew ?_ | refine Below.alloc ?_ (by (first | omega | (simp; omega) | (simp; done) | fail "sml")) _)); first | done | fail "chs")) xek xe5, keepc (show Below w8.heap.size w8 _ by ((repeat (first | with_reducible assumption | with_reducible exact Below.refl _ _ | refine Below.setCell ?_ (by (first | omega | (simp; omega) | (simp; done) | fail "sml")) _ | refine Below.drew ?_ | refine Below.alloc ?_ (by (first | omega | (simp; omega) | (simp; done) | fail "sml")) _)); first | done | fail "chs")) xek xe6, keepc (show Below w8.heap.size w8 _ by ((repeat (first | with_reducible assumption | with_reducible exact Below.refl _ _ | refine Below.setCell ?_ (by (first | omega | (simp; omega) | (simp; done) | fail "sml")) _ | refine Below.drew ?_ | refine Below.alloc ?_ (by (first | omega | (simp; omega) | (simp; done) | fail "sml")) _)); first | done | fail "chs")) xek xe7, keepc (show Below w8.heap.size w8 _ by ((repeat (first | with_reducible assumption | with_reducible exact Below.refl _ _ | refine Below.setCell ?_ (by (first | omega | (simp; omega) | (simp; done) | fail "sml")) _ | refine Below.drew ?_ | refine Below.alloc ?_ (by (first | omega | (simp; omega) | (simp; done) | fail "sml")) _)); first | done | fail "chs")) xek xe8⟩)
      (first
        | (go_at_call 8; refine (CT_e.out _ (hA0.trans (Below.mono (show Below w8.heap.size w8 _ by ((repeat (first | with_reducible assumption | with_reducible exact Below.refl _ _ | refine Below.setCell ?_ (by (first | omega | (simp; omega) | (simp; done) | fail "sml")) _ | refine Below.drew ?_ | refine Below.alloc ?_ (by (first | omega | (simp; omega) | (simp; done) | fail "sml")) _)); first | done | fail "chs")) (by omega)))).mono ?_; rintro en wa ⟨va, Fa, rfl, hh, _, hb⟩; have hka := Below.trans (show Below w8.heap.size w8 _ by ((repeat (first | with_reducible assumption | with_reducible exact Below.refl _ _ | refine Below.setCell ?_ (by (first | omega | (simp; omega) | (simp; done) | fail "sml")) _ | refine Below.drew ?_ | refine Below.alloc ?_ (by (first | omega | (simp; omega) | (simp; done) | fail "sml")) _)); first | done | fail "chs")) (hb.mono (by (first | omega | (simp; omega) | (simp; done) | fail "sml"))); have za := hka.size; have HHa := Lib.hid hh.at; clear hh hb)
        | (go_at_call 12; refine (eqElem_any e _ _ wa.heap.size _ (LXe.out.2.2.at.to (by ((repeat (first | with_reducible assumption | with_reducible exact Below.refl _ _ | refine Below.setCell ?_ (by (first | omega | (simp; omega) | (simp; done) | fail "sml")) _ | refine Below.drew ?_ | refine Below.alloc ?_ (by (first | omega | (simp; omega) | (simp; done) | fail "sml")) _)); first | done | fail "chs")) (by omega)) (HHa.out.to (by ((repeat (first | with_reducible assumption | with_reducible exact Below.refl _ _ | refine Below.setCell ?_ (by (first | omega | (simp; omega) | (simp; done) | fail "sml")) _ | refine Below.drew ?_ | refine Below.alloc ?_ (by (first | omega | (simp; omega) | (simp; done) | fail "sml")) _)); first | done | fail "chs")) (Nat.le_refl _)) (by (first | omega | (simp; omega) | (simp; done) | fail "sml"))).mono ?_; rintro en wb ⟨rfl, hbb⟩; have hkb := Below.trans (show Below w8.heap.size w8 _ by ((repeat (first | with_reducible assumption | with_reducible exact Below.refl _ _ | refine Below.setCell ?_ (by (first | omega | (simp; omega) | (simp; done) | fail "sml")) _ | refine Below.drew ?_ | refine Below.alloc ?_ (by (first | omega | (simp; omega) | (simp; done) | fail "sml")) _)); first | done | fail "chs")) (hbb.mono (by first | omega | (simp; omega))); clear hbb))
    all_goals (go_wp2_with fail; go_meet)
    all_goals exact ⟨rfl, by ((repeat (first | with_reducible assumption | with_reducible exact Below.refl _ _ | refine Below.setCell ?_ (by (first | omega | (simp; omega) | (simp; done) | fail "sml")) _ | refine Below.drew ?_ | refine Below.alloc ?_ (by (first | omega | (simp; omega) | (simp; done) | fail "sml")) _)); first | done | fail "chs")⟩
  case rest =>
  obtain ⟨rfl, hbx⟩ := hcut
  clear hz ag0 ag1 ae0 ae1 ae2 ae3 ae4 ae5 ae6 ae7 ae8 hq_g hq_e xgk xg0 xg1 xek xe0 xe1 xe2 xe3 xe4 xe5 xe6 xe7 xe8
  clear hA0 rr0
  obtain ⟨w9, ew⟩ : ∃ u, u = wc := ⟨_, rfl⟩
  subst ew
  have hs_w9 : w8.heap.size ≤ w9.heap.size := hbx.size
  have HW := Lib.hid (HW.out.below hbx)
  have LXg := Lib.hid (LXg.out.below (Gr.goes g) hbx)
  have LXe := Lib.hid (LXe.out.below (El.goes e) hbx)
  have HG := Lib.hid (HG.out.below hbx)
  have HA := Lib.hid (HA.out.trans (hbx.mono (by omega)))
  clear hbx
  obtain ⟨hz, ag0, ag1, ae0, ae1, ae2, ae3, ae4, ae5, ae6, ae7, ae8⟩ := HK.out _ HA.out
  have hq_g : w.heap.size < w9.heap.size := by omega
  have hq_e : w.heap.size + 1 < w9.heap.size := by omega
  obtain ⟨xgk, xgc, _⟩ := LXg.out
  have xg0 := xgc 0 _ rfl
  have xg1 := xgc 1 _ rfl
  clear xgc
  obtain ⟨xek, xec, _⟩ := LXe.out
  have xe0 := xec 0 _ rfl
  have xe1 := xec 1 _ rfl
  have xe2 := xec 2 _ rfl
  have xe3 := xec 3 _ rfl
  have xe4 := xec 4 _ rfl
  have xe5 := xec 5 _ rfl
  have xe6 := xec 6 _ rfl
  have xe7 := xec 7 _ rfl
  have xe8 := xec 8 _ rfl
  clear xec
  go_wp2_with fail
  refine (markGraph_has g _ FXg 1 _ LXg.out.2.2 (by omega) (by omega)).mono ?_
  rintro en w10 ⟨rfl, ho, hc⟩
  clear hz ag0 ag1 ae0 ae1 ae2 ae3 ae4 ae5 ae6 ae7 ae8 hq_g hq_e xgk xg0 xg1 xek xe0 xe1 xe2 xe3 xe4 xe5 xe6 xe7 xe8
  have hs_w10 : w9.heap.size ≤ w10.heap.size := hc.size
  have HA := Lib.hid (HA.out.trans (hc.below (by omega) (fun y hy => by have := GXg.out y hy; omega)))
  have HW := Lib.hid (HW.out.chg hc (fun y hy hy2 => by have h1 := GW.out y hy; have h2 := GXg.out y hy2; omega))
  have LXe := Lib.hid (LXe.out.chg (El.goes e) hc (fun hy => by have := GXg.out _ hy; omega) (fun y hy hy2 => by have h1 := GXe.out y hy; have h2 := GXg.out y hy2; omega))
  have HG := Lib.hid (HG.out.chg hc (fun y hy hy2 => by have h1 := GG.out y hy; have h2 := GXg.out y hy2; omega))
  clear hc ho
  clear LXg
  obtain ⟨hz, ag0, ag1, ae0, ae1, ae2, ae3, ae4, ae5, ae6, ae7, ae8⟩ := HK.out _ HA.out
  have hq_g : w.heap.size < w10.heap.size := by omega
  have hq_e : w.heap.size + 1 < w10.heap.size := by omega
  obtain ⟨xek, xec, _⟩ := LXe.out
  have xe0 := xec 0 _ rfl
  have xe1 := xec 1 _ rfl
  have xe2 := xec 2 _ rfl
  have xe3 := xec 3 _ rfl
  have xe4 := xec 4 _ rfl
  have xe5 := xec 5 _ rfl
  have xe6 := xec 6 _ rfl
  have xe7 := xec 7 _ rfl
  have xe8 := xec 8 _ rfl
  clear xec
  go_wp2_with fail
  refine (markElem_any e _ FXe _ _ LXe.out.2.2 (by omega) (by omega)).mono ?_
  rintro en w11 ⟨rfl, ho, hc⟩
  clear hz ag0 ag1 ae0 ae1 ae2 ae3 ae4 ae5 ae6 ae7 ae8 hq_g hq_e xek xe0 xe1 xe2 xe3 xe4 xe5 xe6 xe7 xe8
  have hs_w11 : w10.heap.size ≤ w11.heap.size := hc.size
  have HA := Lib.hid (HA.out.trans (hc.below (by omega) (fun y hy => by have := GXe.out y hy; omega)))
  have HW := Lib.hid (HW.out.chg hc (fun y hy hy2 => by have h1 := GW.out y hy; have h2 := GXe.out y hy2; omega))
  have HG := Lib.hid (HG.out.chg hc (fun y hy hy2 => by have h1 := GG.out y hy; have h2 := GXe.out y hy2; omega))
  clear hc ho
  clear LXe
  obtain ⟨hz, ag0, ag1, ae0, ae1, ae2, ae3, ae4, ae5, ae6, ae7, ae8⟩ := HK.out _ HA.out
  have hq_g : w.heap.size < w11.heap.size := by omega
  have hq_e : w.heap.size + 1 < w11.heap.size := by omega
  have hn1 : ¬ ((1 : Int) + 2 * g.ns.length + 4 * g.es.length + 2 * (e.l.ks.size + e.c.ks.size) < 0) := by omega
  go_wp2_with fail
  refine (eqHopS_any R _ _ w11.heap.size _ HG.out.sl HW.out.sl (Nat.le_refl _)).mono ?_
  rintro en w12 ⟨rfl, hb⟩
  clear hz ag0 ag1 ae0 ae1 ae2 ae3 ae4 ae5 ae6 ae7 ae8 hq_g hq_e
  have hs_w12 : w11.heap.size ≤ w12.heap.size := hb.size
  have HW := Lib.hid (HW.out.below hb)
  have HG := Lib.hid (HG.out.below hb)
  have HA := Lib.hid (HA.out.trans (hb.mono (by omega)))
  clear hb
  obtain ⟨hz, ag0, ag1, ae0, ae1, ae2, ae3, ae4, ae5, ae6, ae7, ae8⟩ := HK.out _ HA.out
  have hq_g : w.heap.size < w12.heap.size := by omega
  have hq_e : w.heap.size + 1 < w12.heap.size := by omega
  clear hn1
  go_wp2_with fail
  refine (markHopS_any R _ FG 1 _ HG.out (by omega) (by omega)).mono ?_
  rintro en w13 ⟨rfl, ho, hc⟩
  clear hz ag0 ag1 ae0 ae1 ae2 ae3 ae4 ae5 ae6 ae7 ae8 hq_g hq_e
  have hs_w13 : w12.heap.size ≤ w13.heap.size := hc.size
  have HA := Lib.hid (HA.out.trans (hc.below (by omega) (fun y hy => by have := GG.out y hy; omega)))
  have HW := Lib.hid (HW.out.chg hc (fun y hy hy2 => by have h1 := GW.out y hy; have h2 := GG.out y hy2; omega))
  have HM := Lib.hid ho
  clear hc ho HG
  obtain ⟨hz, ag0, ag1, ae0, ae1, ae2, ae3, ae4, ae5, ae6, ae7, ae8⟩ := HK.out _ HA.out
  have hq_g : w.heap.size < w13.heap.size := by omega
  have hq_e : w.heap.size + 1 < w13.heap.size := by omega
  go_wp2_with fail
  refine (heldHopS_any R.length _ 1 w13.heap.size _ HM.out.sl (Nat.le_refl _) (by omega) (by omega)).mono ?_
  rintro en w14 ⟨rfl, hb⟩
  clear hz ag0 ag1 ae0 ae1 ae2 ae3 ae4 ae5 ae6 ae7 ae8 hq_g hq_e
  have hs_w14 : w13.heap.size ≤ w14.heap.size := hb.size
  have HW := Lib.hid (HW.out.below hb)
  have HM := Lib.hid (HM.out.below hb)
  have HA := Lib.hid (HA.out.trans (hb.mono (by omega)))
  clear hb
  obtain ⟨hz, ag0, ag1, ae0, ae1, ae2, ae3, ae4, ae5, ae6, ae7, ae8⟩ := HK.out _ HA.out
  have hq_g : w.heap.size < w14.heap.size := by omega
  have hq_e : w.heap.size + 1 < w14.heap.size := by omega
  have hn2 : ¬ ((1 : Int) + 2 * (R.length : Int) < 0) := by omega
  have hdum := hn2
  clear hdum
  have hA0 := HA.out
  have rr0 := Below.refl w14.heap.size w14
  go_upto_region 31 with fail
  go_cut [15] (fun s wx => ∃ p c F, s = .slice p R.length c ∧ OwnSl 2 Hp.cells wx (.slice p R.length c) R F ∧ (∀ y ∈ F, w14.heap.size ≤ y) ∧ Below w14.heap.size w14 wx)
  case first =>
    go_region_held3 (fun w' => w'.cell? ⟨w.heap.size, 0, none⟩ = some (.slice p0g g.ns.length c0g) ∧ w'.cell? ⟨w.heap.size, 1, none⟩ = some (.slice q0g g.es.length d0g) ∧ w'.cell? ⟨w.heap.size + 1, 0, none⟩ = some (.bool e.n) ∧ w'.cell? ⟨w.heap.size + 1, 1, none⟩ = some (.string e.v) ∧ w'.cell? ⟨w.heap.size + 1, 2, none⟩ = some (.int .i64 e.l.op) ∧ w'.cell? ⟨w.heap.size + 1, 3, none⟩ = some (.string e.l.a) ∧ w'.cell? ⟨w.heap.size + 1, 4, none⟩ = some (.slice p0e e.l.ks.list.length c0e) ∧ w'.cell? ⟨w.heap.size + 1, 5, none⟩ = some (.int .i64 e.c.op) ∧ w'.cell? ⟨w.heap.size + 1, 6, none⟩ = some (.string e.c.a) ∧ w'.cell? ⟨w.heap.size + 1, 7, none⟩ = some (.slice q0e e.c.ks.list.length d0e) ∧ w'.cell? ⟨w.heap.size + 1, 8, none⟩ = some (.int .i64 e.d))
      (exact (HK.out _ (hA0.trans (Below.mono (show Below w14.heap.size w14 _ by ((repeat (first | with_reducible assumption | with_reducible exact Below.refl _ _ | refine Below.setCell ?_ (by (first | omega | (simp; omega) | (simp; done) | fail "sml")) _ | refine Below.drew ?_ | refine Below.alloc ?_ (by (first | omega | (simp; omega) | (simp; done) | fail "sml")) _)); first | done | fail "chs")) (by omega)))).2)
      (first
        | (go_at_call 7; refine (CT_g.out _ (hA0.trans (Below.mono (show Below w14.heap.size w14 _ by ((repeat (first | with_reducible assumption | with_reducible exact Below.refl _ _ | refine Below.setCell ?_ (by (first | omega | (simp; omega) | (simp; done) | fail "sml")) _ | refine Below.drew ?_ | refine Below.alloc ?_ (by (first | omega | (simp; omega) | (simp; done) | fail "sml")) _)); first | done | fail "chs")) (by omega)))).mono ?_; rintro en wa_g ⟨va_g, Fa, rfl, hh, _, hb⟩; have hk_g := Below.trans (show Below w14.heap.size w14 _ by ((repeat (first | with_reducible assumption | with_reducible exact Below.refl _ _ | refine Below.setCell ?_ (by (first | omega | (simp; omega) | (simp; done) | fail "sml")) _ | refine Below.drew ?_ | refine Below.alloc ?_ (by (first | omega | (simp; omega) | (simp; done) | fail "sml")) _)); first | done | fail "chs")) (hb.mono (by (first | omega | (simp; omega) | (simp; done) | fail "sml"))); have z_g := hk_g.size; have raa_g := Below.refl wa_g.heap.size wa_g; (first | (have r_eg := Below.trans (show Below wa_e.heap.size wa_e _ by ((repeat (first | with_reducible assumption | with_reducible exact Below.refl _ _ | refine Below.setCell ?_ (by (first | omega | (simp; omega) | (simp; done) | fail "sml")) _ | refine Below.drew ?_ | refine Below.alloc ?_ (by (first | omega | (simp; omega) | (simp; done) | fail "sml")) _)); first | done | fail "chs")) (hb.mono (by (first | omega | (simp; omega) | (simp; done) | fail "sml")))) | skip); have HH_g := Lib.hid (fun X (hX : Below wa_g.heap.size wa_g X) => hh.at.to hX hX.size); clear hh hb)
        | (go_at_call 8; refine (CT_e.out _ (hA0.trans (Below.mono (show Below w14.heap.size w14 _ by ((repeat (first | with_reducible assumption | with_reducible exact Below.refl _ _ | refine Below.setCell ?_ (by (first | omega | (simp; omega) | (simp; done) | fail "sml")) _ | refine Below.drew ?_ | refine Below.alloc ?_ (by (first | omega | (simp; omega) | (simp; done) | fail "sml")) _)); first | done | fail "chs")) (by omega)))).mono ?_; rintro en wa_e ⟨va_e, Fa, rfl, hh, _, hb⟩; have hk_e := Below.trans (show Below w14.heap.size w14 _ by ((repeat (first | with_reducible assumption | with_reducible exact Below.refl _ _ | refine Below.setCell ?_ (by (first | omega | (simp; omega) | (simp; done) | fail "sml")) _ | refine Below.drew ?_ | refine Below.alloc ?_ (by (first | omega | (simp; omega) | (simp; done) | fail "sml")) _)); first | done | fail "chs")) (hb.mono (by (first | omega | (simp; omega) | (simp; done) | fail "sml"))); have z_e := hk_e.size; have raa_e := Below.refl wa_e.heap.size wa_e; (first | (have r_ge := Below.trans (show Below wa_g.heap.size wa_g _ by ((repeat (first | with_reducible assumption | with_reducible exact Below.refl _ _ | refine Below.setCell ?_ (by (first | omega | (simp; omega) | (simp; done) | fail "sml")) _ | refine Below.drew ?_ | refine Below.alloc ?_ (by (first | omega | (simp; omega) | (simp; done) | fail "sml")) _)); first | done | fail "chs")) (hb.mono (by (first | omega | (simp; omega) | (simp; done) | fail "sml")))) | skip); have HH_e := Lib.hid (fun X (hX : Below wa_e.heap.size wa_e X) => hh.at.to hX hX.size); clear hh hb)
        | (go_at_call 9; refine (CI.out _ _ _ _ (Nat.le_refl _) (HH_g.out _ (by ((repeat (first | with_reducible assumption | with_reducible exact Below.refl _ _ | refine Below.setCell ?_ (by (first | omega | (simp; omega) | (simp; done) | fail "sml")) _ | refine Below.drew ?_ | refine Below.alloc ?_ (by (first | omega | (simp; omega) | (simp; done) | fail "sml")) _)); first | done | fail "chs"))) (HH_e.out _ (by ((repeat (first | with_reducible assumption | with_reducible exact Below.refl _ _ | refine Below.setCell ?_ (by (first | omega | (simp; omega) | (simp; done) | fail "sml")) _ | refine Below.drew ?_ | refine Below.alloc ?_ (by (first | omega | (simp; omega) | (simp; done) | fail "sml")) _)); first | done | fail "chs"))) (HVA.out _ (hA0.trans (Below.mono (show Below w14.heap.size w14 _ by ((repeat (first | with_reducible assumption | with_reducible exact Below.refl _ _ | refine Below.setCell ?_ (by (first | omega | (simp; omega) | (simp; done) | fail "sml")) _ | refine Below.drew ?_ | refine Below.alloc ?_ (by (first | omega | (simp; omega) | (simp; done) | fail "sml")) _)); first | done | fail "chs")) (by omega))))).mono ?_; rintro en wq ⟨vq, Fq, rfl, hhq, hfq, hbq⟩; have hkq := Below.trans (show Below w14.heap.size w14 _ by ((repeat (first | with_reducible assumption | with_reducible exact Below.refl _ _ | refine Below.setCell ?_ (by (first | omega | (simp; omega) | (simp; done) | fail "sml")) _ | refine Below.drew ?_ | refine Below.alloc ?_ (by (first | omega | (simp; omega) | (simp; done) | fail "sml")) _)); first | done | fail "chs")) (hbq.mono (by (first | omega | (simp; omega) | (simp; done) | fail "sml"))); have HQ := Lib.hid hhq; have HFQ := Lib.hid (show ∀ y ∈ Fq, w14.heap.size ≤ y from fun y hy => by have h1 := hfq y hy; (try simp at h1); omega); clear hhq hfq hbq))
    all_goals (go_wp2_with fail; go_meet)
    all_goals (obtain ⟨pq, cq, rfl⟩ := HQ.out.sl.form; exact ⟨pq, cq, Fq, rfl, HQ.out, HFQ.out, by ((repeat (first | with_reducible assumption | with_reducible exact Below.refl _ _ | refine Below.setCell ?_ (by (first | omega | (simp; omega) | (simp; done) | fail "sml")) _ | refine Below.drew ?_ | refine Below.alloc ?_ (by (first | omega | (simp; omega) | (simp; done) | fail "sml")) _)); first | done | fail "chs")⟩)
  case rest =>
  obtain ⟨pH, cH, FH, rfl, hH, hfH, hbx⟩ := hcut
  clear hz ag0 ag1 ae0 ae1 ae2 ae3 ae4 ae5 ae6 ae7 ae8 hq_g hq_e
  clear hA0 rr0
  obtain ⟨w15, ew⟩ : ∃ u, u = wc := ⟨_, rfl⟩
  subst ew
  have hs_w15 : w14.heap.size ≤ w15.heap.size := hbx.size
  have HW := Lib.hid (HW.out.below hbx)
  have HM := Lib.hid (HM.out.below hbx)
  have HA := Lib.hid (HA.out.trans (hbx.mono (by omega)))
  have HH := Lib.hid hH
  have GH := Lib.hid (show ∀ y ∈ FH, w14.heap.size ≤ y ∧ y < w15.heap.size from fun y hy => ⟨hfH y hy, hH.lt y hy⟩)
  clear hH hfH hbx
  obtain ⟨hz, ag0, ag1, ae0, ae1, ae2, ae3, ae4, ae5, ae6, ae7, ae8⟩ := HK.out _ HA.out
  have hq_g : w.heap.size < w15.heap.size := by omega
  have hq_e : w.heap.size + 1 < w15.heap.size := by omega
  go_wp2_with fail
  refine (eqHopS_any R _ _ w15.heap.size _ HH.out.sl HW.out.sl (Nat.le_refl _)).mono ?_
  rintro en w16 ⟨rfl, hb⟩
  clear hz ag0 ag1 ae0 ae1 ae2 ae3 ae4 ae5 ae6 ae7 ae8 hq_g hq_e
  have hs_w16 : w15.heap.size ≤ w16.heap.size := hb.size
  have HW := Lib.hid (HW.out.below hb)
  have HM := Lib.hid (HM.out.below hb)
  have HH := Lib.hid (HH.out.below hb)
  have HA := Lib.hid (HA.out.trans (hb.mono (by omega)))
  clear hb
  obtain ⟨hz, ag0, ag1, ae0, ae1, ae2, ae3, ae4, ae5, ae6, ae7, ae8⟩ := HK.out _ HA.out
  have hq_g : w.heap.size < w16.heap.size := by omega
  have hq_e : w.heap.size + 1 < w16.heap.size := by omega
  go_wp2_with fail
  refine (heldHopS_any R.length _ 1 w16.heap.size _ HM.out.sl (Nat.le_refl _) (by omega) (by omega)).mono ?_
  rintro en w17 ⟨rfl, hb⟩
  clear hz ag0 ag1 ae0 ae1 ae2 ae3 ae4 ae5 ae6 ae7 ae8 hq_g hq_e
  have hs_w17 : w16.heap.size ≤ w17.heap.size := hb.size
  have HW := Lib.hid (HW.out.below hb)
  have HM := Lib.hid (HM.out.below hb)
  have HH := Lib.hid (HH.out.below hb)
  have HA := Lib.hid (HA.out.trans (hb.mono (by omega)))
  clear hb
  obtain ⟨hz, ag0, ag1, ae0, ae1, ae2, ae3, ae4, ae5, ae6, ae7, ae8⟩ := HK.out _ HA.out
  have hq_g : w.heap.size < w17.heap.size := by omega
  have hq_e : w.heap.size + 1 < w17.heap.size := by omega
  go_wp2_with fail
  go_ret
  exact ⟨rfl, HV.out.trans (HA.out.mono (by omega))⟩
end Go.Proofs.YtpojfgapldgigaaGreatDoor
