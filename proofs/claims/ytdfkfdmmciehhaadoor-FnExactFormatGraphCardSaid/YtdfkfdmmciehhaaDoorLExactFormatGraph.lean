/- The walk of FnExactFormatGraph. -/
import Derived.Test.YtdfkfdmmciehhaaDoorFGI
import Derived.Test.YtdfkfdmmciehhaaDoorFGS
import Derived.Test.YtdfkfdmmciehhaaDoorKindsG
import Derived.Deep.RegionHeld3
import Derived.Deep.DeepCutAuto
namespace Go.Proofs.YtdfkfdmmciehhaaDoor
open Go.RowKit

set_option maxRecDepth 100000 in
set_option maxHeartbeats 16000000 in
theorem lawExactFormatGraph (g : Gr) (v_g : Value) (w : World) (h_g : g.At w.heap.size w v_g) (hok_g : g.Ok) (hvars : VarsI w) :
    Calls Tryd.prog 3 #[v_g] w fun en w' => en = .returned (.bool true) ∧ Below w.heap.size w w' := by
  have HE_g := Lib.hid h_g
  have HOK_g := Lib.hid hok_g
  have HVV := Lib.hid hvars
  obtain ⟨p0g, c0g, q0g, d0g, rfl⟩ := h_g.form
  clear h_g hok_g hvars
  obtain ⟨R0, eR0⟩ : ∃ R0 : ByteArray, R0 = fmtG g := ⟨_, rfl⟩
  obtain ⟨W0, eW⟩ : ∃ W0, W0 = (w.alloc (.cells #[.slice p0g g.ns.length c0g, .slice q0g g.es.length d0g] 25)) := ⟨_, rfl⟩
  have HV := Lib.hid (show Below w.heap.size w W0 by rw [eW]; exact (Below.refl w.heap.size w).alloc (by simp) _)
  have HK := Lib.hid (show ∀ wk, Below (w.heap.size + 1) W0 wk → w.heap.size + 1 ≤ wk.heap.size ∧ wk.cell? ⟨w.heap.size, 0, none⟩ = some (.slice p0g g.ns.length c0g) ∧ wk.cell? ⟨w.heap.size, 1, none⟩ = some (.slice q0g g.es.length d0g) from
    fun wk hk => by rw [eW] at hk; exact ⟨by have := hk.size; simp at this; omega, keepc hk (by omega) (by simp [go_sem]), keepc hk (by omega) (by simp [go_sem])⟩)
  have hs0 : w.heap.size + 1 ≤ W0.heap.size := by rw [eW]; simp
  have HA := Lib.hid (Below.refl (w.heap.size + 1) W0)
  have HVA := Lib.hid (show ∀ wk, Below (w.heap.size + 1) W0 wk → VarsI wk from fun wk hk => HVV.out.below (HV.out.trans (hk.mono (by omega))))
  have HEA_g := Lib.hid (show ∀ wk, Below (w.heap.size + 1) W0 wk → g.At w.heap.size wk (.agg #[.slice p0g g.ns.length c0g, .slice q0g g.es.length d0g]) from fun wk hk => HE_g.out.to (HV.out.trans (hk.mono (by omega))) (Nat.le_refl _))
  have EW := Lib.hid eW
  clear eW HE_g HVV
  go_enter Tryd.func3, Tryd.ntmps3
  go_wp2_with fail
  rw [← EW.out]
  refine (szGraph_any g _ 1048576 w.heap.size _ (HEA_g.out _ HA.out) (by omega) (by omega) (by omega) HOK_g.out).mono ?_
  rintro en w1 ⟨r_g, rfl, hr_g, hb⟩
  have hs_w1 : W0.heap.size ≤ w1.heap.size := hb.size
  have HA := Lib.hid (HA.out.trans (hb.mono (by omega)))
  clear hb
  obtain ⟨hz, ag0, ag1⟩ := HK.out _ HA.out
  have hq_g : w.heap.size < w1.heap.size := by omega
  rcases hr_g with hr_g | ⟨hr0_g, hr_g⟩
  · have hneg : r_g < 0 := by omega
    clear hr_g
    go_wp2_with fail
    go_ret
    exact ⟨rfl, HV.out.trans (HA.out.mono (by omega))⟩
  have hl1_g : g.ns.length ≤ 1048576 := by unfold Gr.need at hr_g; omega
  have hl2_g : g.es.length ≤ 1048576 := by unfold Gr.need at hr_g; omega
  have hrm_g : r_g ≤ 1048576 := by omega
  clear hr_g
  have CS := Lib.hid (fun (v_g : Value) (B : Nat) (E : World) (hB : B ≤ E.heap.size) (h_g : g.At B E v_g) => eR0 ▸ specFormatGraph_any g v_g B E h_g hB HOK_g.out)
  have CI := Lib.hid (fun (v_g : Value) (F_g : List Nat) (E : World) (h_g : g.Has v_g F_g E) (hV : VarsI E) => eR0 ▸ formatGraph_any g v_g E.heap.size E h_g.at (Nat.le_refl _) HOK_g.out hV)
  have CT_g := Lib.hid (fun (E : World) (hE : Below (w.heap.size + 1) W0 E) => (show Calls Tryd.prog 6 #[.agg #[.slice p0g g.ns.length c0g, .slice q0g g.es.length d0g]] E _ from (fun (hv : g.At w.heap.size E (.agg #[.slice p0g g.ns.length c0g, .slice q0g g.es.length d0g])) (hB : w.heap.size ≤ E.heap.size) => toGraph_has g _ w.heap.size E hv hB hl1_g hl2_g) (HEA_g.out E hE) (by have := hE.size; omega)))
  clear eR0 
  go_wp2_with fail
  refine (CT_g.out _ HA.out).mono ?_
  rintro en w2 ⟨vs, Fs, rfl, ho, hf, hb⟩
  clear hz ag0 ag1 hq_g
  have hsp := ho.at
  have hB0 := Below.refl w2.heap.size w2
  have hs_w2 : w1.heap.size ≤ w2.heap.size := hb.size
  have HA := Lib.hid (HA.out.trans (hb.mono (by omega)))
  clear ho hf hb
  obtain ⟨hz, ag0, ag1⟩ := HK.out _ HA.out
  have hq_g : w.heap.size < w2.heap.size := by omega
  go_wp2_with fail
  refine (CS.out _ _ _ (Nat.le_refl _) hsp).mono ?_
  rintro en w3 ⟨rfl, hb⟩
  clear hz ag0 ag1 hq_g
  clear hsp hB0
  have hs_w3 : w2.heap.size ≤ w3.heap.size := hb.size
  have HA := Lib.hid (HA.out.trans (hb.mono (by omega)))
  clear hb
  obtain ⟨hz, ag0, ag1⟩ := HK.out _ HA.out
  have hq_g : w.heap.size < w3.heap.size := by omega
  go_wp2_with fail
  refine (CT_g.out _ HA.out).mono ?_
  rintro en w4 ⟨vw4, FXg, rfl, ho, hf, hb⟩
  clear hz ag0 ag1 hq_g
  have hs_w4 : w3.heap.size ≤ w4.heap.size := hb.size
  have HA := Lib.hid (HA.out.trans (hb.mono (by omega)))
  have HO := Lib.hid ho
  obtain ⟨pXg, cXg, qXg, dXg, rfl⟩ := ho.at.form
  clear ho hf hb
  obtain ⟨hz, ag0, ag1⟩ := HK.out _ HA.out
  have hq_g : w.heap.size < w4.heap.size := by omega
  go_wp2_with fail
  clear hz ag0 ag1 hq_g
  obtain ⟨W4, eW⟩ : ∃ u, u = w4.alloc (.cells #[.slice pXg g.ns.length cXg, .slice qXg g.es.length dXg] 31) := ⟨_, rfl⟩
  rw [← eW]
  have hszW4 : w4.heap.size < W4.heap.size := by rw [eW]; simp
  have hbW : Below w4.heap.size w4 W4 := by rw [eW]; exact (Below.refl _ _).alloc (Nat.le_refl _) _
  have LXg := Lib.hid (show LocV g.Has w4.heap.size #[.slice pXg g.ns.length cXg, .slice qXg g.es.length dXg] FXg W4 by rw [eW]; exact LocV.fresh (Gr.goes g) HO.out)
  have hs_W4 : w4.heap.size ≤ W4.heap.size := hbW.size
  have HA := Lib.hid (HA.out.trans (hbW.mono (by omega)))
  clear hbW eW HO
  refine (CI.out _ _ _ LXg.out.2.2 (HVA.out _ HA.out)).mono ?_
  rintro en w5 ⟨rfl, hb⟩
  have hs_w5 : W4.heap.size ≤ w5.heap.size := hb.size
  have LXg := Lib.hid (LXg.out.below (Gr.goes g) hb)
  have HA := Lib.hid (HA.out.trans (hb.mono (by omega)))
  clear hb
  obtain ⟨hz, ag0, ag1⟩ := HK.out _ HA.out
  have hq_g : w.heap.size < w5.heap.size := by omega
  obtain ⟨xgk, xgc, _⟩ := LXg.out
  have xg0 := xgc 0 _ rfl
  have xg1 := xgc 1 _ rfl
  clear xgc
  have hA0 := HA.out
  have rr0 := Below.refl w5.heap.size w5
  go_upto_region 10 with fail
  go_cut [26] (fun s wx => s = .bool false ∧ Below w5.heap.size w5 wx)
  case first =>
    go_region_held3 (fun w' => w'.cell? ⟨w.heap.size, 0, none⟩ = some (.slice p0g g.ns.length c0g) ∧ w'.cell? ⟨w.heap.size, 1, none⟩ = some (.slice q0g g.es.length d0g) ∧ w'.cell? ⟨w4.heap.size, 0, none⟩ = some (.slice pXg g.ns.length cXg) ∧ w'.cell? ⟨w4.heap.size, 1, none⟩ = some (.slice qXg g.es.length dXg))
      (exact ⟨keepc (show Below w5.heap.size w5 _ by ((repeat (first | with_reducible assumption | with_reducible exact Below.refl _ _ | refine Below.setCell ?_ (by (first | omega | (simp; omega) | (simp; done) | fail "sml")) _ | refine Below.drew ?_ | refine Below.alloc ?_ (by (first | omega | (simp; omega) | (simp; done) | fail "sml")) _)); first | done | fail "chs")) hq_g ag0, keepc (show Below w5.heap.size w5 _ by ((repeat (first | with_reducible assumption | with_reducible exact Below.refl _ _ | refine Below.setCell ?_ (by (first | omega | (simp; omega) | (simp; done) | fail "sml")) _ | refine Below.drew ?_ | refine Below.alloc ?_ (by (first | omega | (simp; omega) | (simp; done) | fail "sml")) _)); first | done | fail "chs")) hq_g ag1, keepc (show Below w5.heap.size w5 _ by ((repeat (first | with_reducible assumption | with_reducible exact Below.refl _ _ | refine Below.setCell ?_ (by (first | omega | (simp; omega) | (simp; done) | fail "sml")) _ | refine Below.drew ?_ | refine Below.alloc ?_ (by (first | omega | (simp; omega) | (simp; done) | fail "sml")) _)); first | done | fail "chs")) xgk xg0, keepc (show Below w5.heap.size w5 _ by ((repeat (first | with_reducible assumption | with_reducible exact Below.refl _ _ | refine Below.setCell ?_ (by (first | omega | (simp; omega) | (simp; done) | fail "sml")) _ | refine Below.drew ?_ | refine Below.alloc ?_ (by (first | omega | (simp; omega) | (simp; done) | fail "sml")) _)); first | done | fail "chs")) xgk xg1⟩)
      (first
        | (go_at_call 6; refine (CT_g.out _ (hA0.trans (Below.mono (show Below w5.heap.size w5 _ by ((repeat (first | with_reducible assumption | with_reducible exact Below.refl _ _ | refine Below.setCell ?_ (by (first | omega | (simp; omega) | (simp; done) | fail "sml")) _ | refine Below.drew ?_ | refine Below.alloc ?_ (by (first | omega | (simp; omega) | (simp; done) | fail "sml")) _)); first | done | fail "chs")) (by omega)))).mono ?_; rintro en wa ⟨va, Fa, rfl, hh, _, hb⟩; have hka := Below.trans (show Below w5.heap.size w5 _ by ((repeat (first | with_reducible assumption | with_reducible exact Below.refl _ _ | refine Below.setCell ?_ (by (first | omega | (simp; omega) | (simp; done) | fail "sml")) _ | refine Below.drew ?_ | refine Below.alloc ?_ (by (first | omega | (simp; omega) | (simp; done) | fail "sml")) _)); first | done | fail "chs")) (hb.mono (by (first | omega | (simp; omega) | (simp; done) | fail "sml"))); have za := hka.size; have HHa := Lib.hid hh.at; clear hh hb)
        | (go_at_call 8; refine (eqGraph_any g _ _ wa.heap.size _ (LXg.out.2.2.at.to (by ((repeat (first | with_reducible assumption | with_reducible exact Below.refl _ _ | refine Below.setCell ?_ (by (first | omega | (simp; omega) | (simp; done) | fail "sml")) _ | refine Below.drew ?_ | refine Below.alloc ?_ (by (first | omega | (simp; omega) | (simp; done) | fail "sml")) _)); first | done | fail "chs")) (by omega)) (HHa.out.to (by ((repeat (first | with_reducible assumption | with_reducible exact Below.refl _ _ | refine Below.setCell ?_ (by (first | omega | (simp; omega) | (simp; done) | fail "sml")) _ | refine Below.drew ?_ | refine Below.alloc ?_ (by (first | omega | (simp; omega) | (simp; done) | fail "sml")) _)); first | done | fail "chs")) (Nat.le_refl _)) (by (first | omega | (simp; omega) | (simp; done) | fail "sml"))).mono ?_; rintro en wb ⟨rfl, hbb⟩; have hkb := Below.trans (show Below w5.heap.size w5 _ by ((repeat (first | with_reducible assumption | with_reducible exact Below.refl _ _ | refine Below.setCell ?_ (by (first | omega | (simp; omega) | (simp; done) | fail "sml")) _ | refine Below.drew ?_ | refine Below.alloc ?_ (by (first | omega | (simp; omega) | (simp; done) | fail "sml")) _)); first | done | fail "chs")) (hbb.mono (by first | omega | (simp; omega))); clear hbb))
    all_goals (go_wp2_with fail; go_meet)
    all_goals exact ⟨rfl, by ((repeat (first | with_reducible assumption | with_reducible exact Below.refl _ _ | refine Below.setCell ?_ (by (first | omega | (simp; omega) | (simp; done) | fail "sml")) _ | refine Below.drew ?_ | refine Below.alloc ?_ (by (first | omega | (simp; omega) | (simp; done) | fail "sml")) _)); first | done | fail "chs")⟩
  case rest =>
  obtain ⟨rfl, hbx⟩ := hcut
  clear hz ag0 ag1 hq_g xgk xg0 xg1
  clear hA0 rr0
  obtain ⟨w6, ew⟩ : ∃ u, u = wc := ⟨_, rfl⟩
  subst ew
  have hs_w6 : w5.heap.size ≤ w6.heap.size := hbx.size
  have LXg := Lib.hid (LXg.out.below (Gr.goes g) hbx)
  have HA := Lib.hid (HA.out.trans (hbx.mono (by omega)))
  clear hbx
  obtain ⟨hz, ag0, ag1⟩ := HK.out _ HA.out
  have hq_g : w.heap.size < w6.heap.size := by omega
  obtain ⟨xgk, xgc, _⟩ := LXg.out
  have xg0 := xgc 0 _ rfl
  have xg1 := xgc 1 _ rfl
  clear xgc
  go_wp2_with fail
  go_ret
  exact ⟨rfl, HV.out.trans (HA.out.mono (by omega))⟩
end Go.Proofs.YtdfkfdmmciehhaaDoor
