/- The walk of FnExactWalkMode. -/
import Derived.Test.YtfdkmngkpihpbaaWkM3
import Derived.Test.YtfdkmngkpihpbaaKindsG
import Derived.Deep.RegionHeld3
import Derived.Deep.DeepCutAuto
namespace Go.Proofs.Ytfdkmngkpihpbaa
open Go.RowKit

set_option maxRecDepth 100000 in
set_option maxHeartbeats 16000000 in
theorem lawExactWalkMode (x : Wk) (m : Int) (v_x : Value) (w : World) (h_x : x.At w.heap.size w v_x) (hok_x : x.Ok) :
    Calls Try.prog 14 #[v_x, .int .i64 m] w fun en w' => en = .returned (.bool true) ∧ Below w.heap.size w w' := by
  have HE_x := Lib.hid h_x
  have HOK_x := Lib.hid hok_x
  obtain ⟨p0x, c0x, q0x, d0x, rfl⟩ := h_x.form
  clear h_x hok_x
  obtain ⟨R0, eR0⟩ : ∃ R0 : Bool, R0 = wkMode x m := ⟨_, rfl⟩
  obtain ⟨W0, eW⟩ : ∃ W0, W0 = (w.alloc (.cells #[.slice p0x x.ns.length c0x, .slice q0x x.es.length d0x] 63)) := ⟨_, rfl⟩
  have HV := Lib.hid (show Below w.heap.size w W0 by rw [eW]; exact (Below.refl w.heap.size w).alloc (by simp) _)
  have HK := Lib.hid (show ∀ wk, Below (w.heap.size + 1) W0 wk → w.heap.size + 1 ≤ wk.heap.size ∧ wk.cell? ⟨w.heap.size, 0, none⟩ = some (.slice p0x x.ns.length c0x) ∧ wk.cell? ⟨w.heap.size, 1, none⟩ = some (.slice q0x x.es.length d0x) from
    fun wk hk => by rw [eW] at hk; exact ⟨by have := hk.size; simp at this; omega, keepc hk (by omega) (by simp [go_sem]), keepc hk (by omega) (by simp [go_sem])⟩)
  have hs0 : w.heap.size + 1 ≤ W0.heap.size := by rw [eW]; simp
  have HA := Lib.hid (Below.refl (w.heap.size + 1) W0)
  have HEA_x := Lib.hid (show ∀ wk, Below (w.heap.size + 1) W0 wk → x.At w.heap.size wk (.agg #[.slice p0x x.ns.length c0x, .slice q0x x.es.length d0x]) from fun wk hk => HE_x.out.to (HV.out.trans (hk.mono (by omega))) (Nat.le_refl _))
  have EW := Lib.hid eW
  clear eW HE_x
  go_enter Try.func14, Try.ntmps14
  go_wp2_with fail
  rw [← EW.out]
  refine (szWalk_any x _ 1048576 w.heap.size _ (HEA_x.out _ HA.out) (by omega) (by omega) (by omega)).mono ?_
  rintro en w1 ⟨r_x, rfl, hr_x, hb⟩
  have hs_w1 : W0.heap.size ≤ w1.heap.size := hb.size
  have HA := Lib.hid (HA.out.trans (hb.mono (by omega)))
  clear hb
  obtain ⟨hz, ax0, ax1⟩ := HK.out _ HA.out
  have hq_x : w.heap.size < w1.heap.size := by omega
  rcases hr_x with hr_x | ⟨hr0_x, hr_x⟩
  · have hneg : r_x < 0 := by omega
    clear hr_x
    go_wp2_with fail
    go_ret
    exact ⟨rfl, HV.out.trans (HA.out.mono (by omega))⟩
  have hneed_x : x.need ≤ 1048576 := by omega
  have hrm_x : r_x ≤ 1048576 := by omega
  clear hr_x
  have CS := Lib.hid (fun (v_x : Value) (B : Nat) (E : World) (hB : B ≤ E.heap.size) (h_x : x.At B E v_x) => eR0 ▸ specWalkMode_any x m v_x B E h_x hB hneed_x)
  have CI := Lib.hid (fun (v_x : Value) (F_x : List Nat) (E : World) (h_x : x.Has v_x F_x E) => eR0 ▸ walkMode_any x m v_x E.heap.size E h_x.at (Nat.le_refl _) hneed_x)
  have CT_x := Lib.hid (fun (E : World) (hE : Below (w.heap.size + 1) W0 E) => (show Calls Try.prog 47 #[.agg #[.slice p0x x.ns.length c0x, .slice q0x x.es.length d0x]] E _ from (fun (hv : x.At w.heap.size E (.agg #[.slice p0x x.ns.length c0x, .slice q0x x.es.length d0x])) (hB : w.heap.size ≤ E.heap.size) => toWalk_any x _ w.heap.size E hv hB hneed_x) (HEA_x.out E hE) (by have := hE.size; omega)))
  clear eR0 hneed_x
  go_wp2_with fail
  refine (CT_x.out _ HA.out).mono ?_
  rintro en w2 ⟨vs, Fs, rfl, ho, hf, hb⟩
  clear hz ax0 ax1 hq_x
  have hsp := ho.at
  have hB0 := Below.refl w2.heap.size w2
  have hs_w2 : w1.heap.size ≤ w2.heap.size := hb.size
  have HA := Lib.hid (HA.out.trans (hb.mono (by omega)))
  clear ho hf hb
  obtain ⟨hz, ax0, ax1⟩ := HK.out _ HA.out
  have hq_x : w.heap.size < w2.heap.size := by omega
  go_wp2_with fail
  refine (CS.out _ _ _ (Nat.le_refl _) hsp).mono ?_
  rintro en w3 ⟨rfl, hb⟩
  clear hz ax0 ax1 hq_x
  clear hsp hB0
  have hs_w3 : w2.heap.size ≤ w3.heap.size := hb.size
  have HA := Lib.hid (HA.out.trans (hb.mono (by omega)))
  clear hb
  obtain ⟨hz, ax0, ax1⟩ := HK.out _ HA.out
  have hq_x : w.heap.size < w3.heap.size := by omega
  go_wp2_with fail
  refine (CT_x.out _ HA.out).mono ?_
  rintro en w4 ⟨vw4, FXx, rfl, ho, hf, hb⟩
  clear hz ax0 ax1 hq_x
  have hs_w4 : w3.heap.size ≤ w4.heap.size := hb.size
  have HA := Lib.hid (HA.out.trans (hb.mono (by omega)))
  have HO := Lib.hid ho
  obtain ⟨pXx, cXx, qXx, dXx, rfl⟩ := ho.at.form
  clear ho hf hb
  obtain ⟨hz, ax0, ax1⟩ := HK.out _ HA.out
  have hq_x : w.heap.size < w4.heap.size := by omega
  go_wp2_with fail
  clear hz ax0 ax1 hq_x
  obtain ⟨W4, eW⟩ : ∃ u, u = w4.alloc (.cells #[.slice pXx x.ns.length cXx, .slice qXx x.es.length dXx] 25) := ⟨_, rfl⟩
  rw [← eW]
  have hszW4 : w4.heap.size < W4.heap.size := by rw [eW]; simp
  have hbW : Below w4.heap.size w4 W4 := by rw [eW]; exact (Below.refl _ _).alloc (Nat.le_refl _) _
  have LXx := Lib.hid (show LocV x.Has w4.heap.size #[.slice pXx x.ns.length cXx, .slice qXx x.es.length dXx] FXx W4 by rw [eW]; exact LocV.fresh (Wk.goes x) HO.out)
  have hs_W4 : w4.heap.size ≤ W4.heap.size := hbW.size
  have HA := Lib.hid (HA.out.trans (hbW.mono (by omega)))
  clear hbW eW HO
  refine (CI.out _ _ _ LXx.out.2.2).mono ?_
  rintro en w5 ⟨rfl, hb⟩
  have hs_w5 : W4.heap.size ≤ w5.heap.size := hb.size
  have LXx := Lib.hid (LXx.out.below (Wk.goes x) hb)
  have HA := Lib.hid (HA.out.trans (hb.mono (by omega)))
  clear hb
  obtain ⟨hz, ax0, ax1⟩ := HK.out _ HA.out
  have hq_x : w.heap.size < w5.heap.size := by omega
  obtain ⟨xxk, xxc, _⟩ := LXx.out
  have xx0 := xxc 0 _ rfl
  have xx1 := xxc 1 _ rfl
  clear xxc
  have hA0 := HA.out
  have rr0 := Below.refl w5.heap.size w5
  go_upto_region 10 with fail
  go_cut [30] (fun s wx => s = .bool false ∧ Below w5.heap.size w5 wx)
  case first =>
    go_region_held3 (fun w' => w'.cell? ⟨w.heap.size, 0, none⟩ = some (.slice p0x x.ns.length c0x) ∧ w'.cell? ⟨w.heap.size, 1, none⟩ = some (.slice q0x x.es.length d0x) ∧ w'.cell? ⟨w4.heap.size, 0, none⟩ = some (.slice pXx x.ns.length cXx) ∧ w'.cell? ⟨w4.heap.size, 1, none⟩ = some (.slice qXx x.es.length dXx))
      (exact ⟨keepc (show Below w5.heap.size w5 _ by ((repeat (first | with_reducible assumption | with_reducible exact Below.refl _ _ | refine Below.setCell ?_ (by (first | omega | (simp; omega) | (simp; done) | fail "sml")) _ | refine Below.drew ?_ | refine Below.alloc ?_ (by (first | omega | (simp; omega) | (simp; done) | fail "sml")) _)); first | done | fail "chs")) hq_x ax0, keepc (show Below w5.heap.size w5 _ by ((repeat (first | with_reducible assumption | with_reducible exact Below.refl _ _ | refine Below.setCell ?_ (by (first | omega | (simp; omega) | (simp; done) | fail "sml")) _ | refine Below.drew ?_ | refine Below.alloc ?_ (by (first | omega | (simp; omega) | (simp; done) | fail "sml")) _)); first | done | fail "chs")) hq_x ax1, keepc (show Below w5.heap.size w5 _ by ((repeat (first | with_reducible assumption | with_reducible exact Below.refl _ _ | refine Below.setCell ?_ (by (first | omega | (simp; omega) | (simp; done) | fail "sml")) _ | refine Below.drew ?_ | refine Below.alloc ?_ (by (first | omega | (simp; omega) | (simp; done) | fail "sml")) _)); first | done | fail "chs")) xxk xx0, keepc (show Below w5.heap.size w5 _ by ((repeat (first | with_reducible assumption | with_reducible exact Below.refl _ _ | refine Below.setCell ?_ (by (first | omega | (simp; omega) | (simp; done) | fail "sml")) _ | refine Below.drew ?_ | refine Below.alloc ?_ (by (first | omega | (simp; omega) | (simp; done) | fail "sml")) _)); first | done | fail "chs")) xxk xx1⟩)
      (first
        | (go_at_call 47; refine (CT_x.out _ (hA0.trans (Below.mono (show Below w5.heap.size w5 _ by ((repeat (first | with_reducible assumption | with_reducible exact Below.refl _ _ | refine Below.setCell ?_ (by (first | omega | (simp; omega) | (simp; done) | fail "sml")) _ | refine Below.drew ?_ | refine Below.alloc ?_ (by (first | omega | (simp; omega) | (simp; done) | fail "sml")) _)); first | done | fail "chs")) (by omega)))).mono ?_; rintro en wa ⟨va, Fa, rfl, hh, _, hb⟩; have hka := Below.trans (show Below w5.heap.size w5 _ by ((repeat (first | with_reducible assumption | with_reducible exact Below.refl _ _ | refine Below.setCell ?_ (by (first | omega | (simp; omega) | (simp; done) | fail "sml")) _ | refine Below.drew ?_ | refine Below.alloc ?_ (by (first | omega | (simp; omega) | (simp; done) | fail "sml")) _)); first | done | fail "chs")) (hb.mono (by (first | omega | (simp; omega) | (simp; done) | fail "sml"))); have za := hka.size; have HHa := Lib.hid hh.at; clear hh hb)
        | (go_at_call 48; refine (eqWalk_any x _ _ wa.heap.size _ (LXx.out.2.2.at.to (by ((repeat (first | with_reducible assumption | with_reducible exact Below.refl _ _ | refine Below.setCell ?_ (by (first | omega | (simp; omega) | (simp; done) | fail "sml")) _ | refine Below.drew ?_ | refine Below.alloc ?_ (by (first | omega | (simp; omega) | (simp; done) | fail "sml")) _)); first | done | fail "chs")) (by omega)) (HHa.out.to (by ((repeat (first | with_reducible assumption | with_reducible exact Below.refl _ _ | refine Below.setCell ?_ (by (first | omega | (simp; omega) | (simp; done) | fail "sml")) _ | refine Below.drew ?_ | refine Below.alloc ?_ (by (first | omega | (simp; omega) | (simp; done) | fail "sml")) _)); first | done | fail "chs")) (Nat.le_refl _)) (by (first | omega | (simp; omega) | (simp; done) | fail "sml"))).mono ?_; rintro en wb ⟨rfl, hbb⟩; have hkb := Below.trans (show Below w5.heap.size w5 _ by ((repeat (first | with_reducible assumption | with_reducible exact Below.refl _ _ | refine Below.setCell ?_ (by (first | omega | (simp; omega) | (simp; done) | fail "sml")) _ | refine Below.drew ?_ | refine Below.alloc ?_ (by (first | omega | (simp; omega) | (simp; done) | fail "sml")) _)); first | done | fail "chs")) (hbb.mono (by first | omega | (simp; omega))); clear hbb))
    all_goals (go_wp2_with fail; go_meet)
    all_goals exact ⟨rfl, by ((repeat (first | with_reducible assumption | with_reducible exact Below.refl _ _ | refine Below.setCell ?_ (by (first | omega | (simp; omega) | (simp; done) | fail "sml")) _ | refine Below.drew ?_ | refine Below.alloc ?_ (by (first | omega | (simp; omega) | (simp; done) | fail "sml")) _)); first | done | fail "chs")⟩
  case rest =>
  obtain ⟨rfl, hbx⟩ := hcut
  clear hz ax0 ax1 hq_x xxk xx0 xx1
  clear hA0 rr0
  obtain ⟨w6, ew⟩ : ∃ u, u = wc := ⟨_, rfl⟩
  subst ew
  have hs_w6 : w5.heap.size ≤ w6.heap.size := hbx.size
  have LXx := Lib.hid (LXx.out.below (Wk.goes x) hbx)
  have HA := Lib.hid (HA.out.trans (hbx.mono (by omega)))
  clear hbx
  obtain ⟨hz, ax0, ax1⟩ := HK.out _ HA.out
  have hq_x : w.heap.size < w6.heap.size := by omega
  obtain ⟨xxk, xxc, _⟩ := LXx.out
  have xx0 := xxc 0 _ rfl
  have xx1 := xxc 1 _ rfl
  clear xxc
  go_wp2_with fail
  go_ret
  exact ⟨rfl, HV.out.trans (HA.out.mono (by omega))⟩
end Go.Proofs.Ytfdkmngkpihpbaa
