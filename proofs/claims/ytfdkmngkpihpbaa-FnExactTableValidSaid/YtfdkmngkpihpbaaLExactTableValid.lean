/- The walk of FnExactTableValid. -/
import Derived.Test.YtfdkmngkpihpbaaTbV
import Derived.Test.YtfdkmngkpihpbaaTbVs
import Derived.Test.YtfdkmngkpihpbaaTb
import Derived.Test.YtfdkmngkpihpbaaKindsG
import Derived.Deep.RegionHeld3
import Derived.Deep.DeepCutAuto
namespace Go.Proofs.Ytfdkmngkpihpbaa
open Go.RowKit

set_option maxRecDepth 100000 in
set_option maxHeartbeats 16000000 in
theorem lawExactTableValid (a : Tb) (v_a : Value) (w : World) (h_a : a.At w.heap.size w v_a) (hok_a : a.Ok) :
    Calls Try.prog 9 #[v_a] w fun en w' => en = .returned (.bool true) ∧ Below w.heap.size w w' := by
  have HE_a := Lib.hid h_a
  have HOK_a := Lib.hid hok_a
  obtain ⟨p0a, c0a, q0a, d0a, rfl⟩ := h_a.form
  clear h_a hok_a
  obtain ⟨R0, eR0⟩ : ∃ R0 : Bool, R0 = a.ok := ⟨_, rfl⟩
  obtain ⟨W0, eW⟩ : ∃ W0, W0 = (w.alloc (.cells #[.slice p0a a.cs.length c0a, .slice q0a a.rs.length d0a] 44)) := ⟨_, rfl⟩
  have HV := Lib.hid (show Below w.heap.size w W0 by rw [eW]; exact (Below.refl w.heap.size w).alloc (by simp) _)
  have HK := Lib.hid (show ∀ wk, Below (w.heap.size + 1) W0 wk → w.heap.size + 1 ≤ wk.heap.size ∧ wk.cell? ⟨w.heap.size, 0, none⟩ = some (.slice p0a a.cs.length c0a) ∧ wk.cell? ⟨w.heap.size, 1, none⟩ = some (.slice q0a a.rs.length d0a) from
    fun wk hk => by rw [eW] at hk; exact ⟨by have := hk.size; simp at this; omega, keepc hk (by omega) (by simp [go_sem]), keepc hk (by omega) (by simp [go_sem])⟩)
  have hs0 : w.heap.size + 1 ≤ W0.heap.size := by rw [eW]; simp
  have HA := Lib.hid (Below.refl (w.heap.size + 1) W0)
  have HEA_a := Lib.hid (show ∀ wk, Below (w.heap.size + 1) W0 wk → a.At w.heap.size wk (.agg #[.slice p0a a.cs.length c0a, .slice q0a a.rs.length d0a]) from fun wk hk => HE_a.out.to (HV.out.trans (hk.mono (by omega))) (Nat.le_refl _))
  have EW := Lib.hid eW
  clear eW HE_a
  go_enter Try.func9, Try.ntmps9
  go_wp2_with fail
  rw [← EW.out]
  refine (szTable_any a _ 1048576 w.heap.size _ (HEA_a.out _ HA.out) (by omega) (by omega) (by omega) HOK_a.out).mono ?_
  rintro en w1 ⟨r_a, rfl, hr_a, hb⟩
  have hs_w1 : W0.heap.size ≤ w1.heap.size := hb.size
  have HA := Lib.hid (HA.out.trans (hb.mono (by omega)))
  clear hb
  obtain ⟨hz, aa0, aa1⟩ := HK.out _ HA.out
  have hq_a : w.heap.size < w1.heap.size := by omega
  rcases hr_a with hr_a | ⟨hr0_a, hr_a⟩
  · have hneg : r_a < 0 := by omega
    clear hr_a
    go_wp2_with fail
    go_ret
    exact ⟨rfl, HV.out.trans (HA.out.mono (by omega))⟩
  have hneed_a : a.need ≤ 1048576 := by omega
  have hrm_a : r_a ≤ 1048576 := by omega
  clear hr_a
  have CS := Lib.hid (fun (v_a : Value) (B : Nat) (E : World) (hB : B ≤ E.heap.size) (h_a : a.At B E v_a) => eR0 ▸ specTableValid_any a v_a B E h_a hB HOK_a.out.1 (by unfold Tb.need at hneed_a; omega))
  have CI := Lib.hid (fun (v_a : Value) (F_a : List Nat) (E : World) (h_a : a.Has v_a F_a E) => eR0 ▸ tableValid_any a v_a E.heap.size E h_a.at (Nat.le_refl _) HOK_a.out.1)
  have CT_a := Lib.hid (fun (E : World) (hE : Below (w.heap.size + 1) W0 E) => (show Calls Try.prog 30 #[.agg #[.slice p0a a.cs.length c0a, .slice q0a a.rs.length d0a]] E _ from (fun (hv : a.At w.heap.size E (.agg #[.slice p0a a.cs.length c0a, .slice q0a a.rs.length d0a])) (hB : w.heap.size ≤ E.heap.size) => toTable_any a _ w.heap.size E hv hB hneed_a) (HEA_a.out E hE) (by have := hE.size; omega)))
  clear eR0 hneed_a
  go_wp2_with fail
  refine (CT_a.out _ HA.out).mono ?_
  rintro en w2 ⟨vs, Fs, rfl, ho, hf, hb⟩
  clear hz aa0 aa1 hq_a
  have hsp := ho.at
  have hB0 := Below.refl w2.heap.size w2
  have hs_w2 : w1.heap.size ≤ w2.heap.size := hb.size
  have HA := Lib.hid (HA.out.trans (hb.mono (by omega)))
  clear ho hf hb
  obtain ⟨hz, aa0, aa1⟩ := HK.out _ HA.out
  have hq_a : w.heap.size < w2.heap.size := by omega
  go_wp2_with fail
  refine (CS.out _ _ _ (Nat.le_refl _) hsp).mono ?_
  rintro en w3 ⟨rfl, hb⟩
  clear hz aa0 aa1 hq_a
  clear hsp hB0
  have hs_w3 : w2.heap.size ≤ w3.heap.size := hb.size
  have HA := Lib.hid (HA.out.trans (hb.mono (by omega)))
  clear hb
  obtain ⟨hz, aa0, aa1⟩ := HK.out _ HA.out
  have hq_a : w.heap.size < w3.heap.size := by omega
  go_wp2_with fail
  refine (CT_a.out _ HA.out).mono ?_
  rintro en w4 ⟨vw4, FXa, rfl, ho, hf, hb⟩
  clear hz aa0 aa1 hq_a
  have hs_w4 : w3.heap.size ≤ w4.heap.size := hb.size
  have HA := Lib.hid (HA.out.trans (hb.mono (by omega)))
  have HO := Lib.hid ho
  obtain ⟨pXa, cXa, qXa, dXa, rfl⟩ := ho.at.form
  clear ho hf hb
  obtain ⟨hz, aa0, aa1⟩ := HK.out _ HA.out
  have hq_a : w.heap.size < w4.heap.size := by omega
  go_wp2_with fail
  clear hz aa0 aa1 hq_a
  obtain ⟨W4, eW⟩ : ∃ u, u = w4.alloc (.cells #[.slice pXa a.cs.length cXa, .slice qXa a.rs.length dXa] 33) := ⟨_, rfl⟩
  rw [← eW]
  have hszW4 : w4.heap.size < W4.heap.size := by rw [eW]; simp
  have hbW : Below w4.heap.size w4 W4 := by rw [eW]; exact (Below.refl _ _).alloc (Nat.le_refl _) _
  have LXa := Lib.hid (show LocV a.Has w4.heap.size #[.slice pXa a.cs.length cXa, .slice qXa a.rs.length dXa] FXa W4 by rw [eW]; exact LocV.fresh (Tb.goes a) HO.out)
  have hs_W4 : w4.heap.size ≤ W4.heap.size := hbW.size
  have HA := Lib.hid (HA.out.trans (hbW.mono (by omega)))
  clear hbW eW HO
  refine (CI.out _ _ _ LXa.out.2.2).mono ?_
  rintro en w5 ⟨rfl, hb⟩
  have hs_w5 : W4.heap.size ≤ w5.heap.size := hb.size
  have LXa := Lib.hid (LXa.out.below (Tb.goes a) hb)
  have HA := Lib.hid (HA.out.trans (hb.mono (by omega)))
  clear hb
  obtain ⟨hz, aa0, aa1⟩ := HK.out _ HA.out
  have hq_a : w.heap.size < w5.heap.size := by omega
  obtain ⟨xak, xac, _⟩ := LXa.out
  have xa0 := xac 0 _ rfl
  have xa1 := xac 1 _ rfl
  clear xac
  have hA0 := HA.out
  have rr0 := Below.refl w5.heap.size w5
  go_upto_region 10 with fail
  go_cut [26] (fun s wx => s = .bool false ∧ Below w5.heap.size w5 wx)
  case first =>
    go_region_held3 (fun w' => w'.cell? ⟨w.heap.size, 0, none⟩ = some (.slice p0a a.cs.length c0a) ∧ w'.cell? ⟨w.heap.size, 1, none⟩ = some (.slice q0a a.rs.length d0a) ∧ w'.cell? ⟨w4.heap.size, 0, none⟩ = some (.slice pXa a.cs.length cXa) ∧ w'.cell? ⟨w4.heap.size, 1, none⟩ = some (.slice qXa a.rs.length dXa))
      (exact ⟨keepc (show Below w5.heap.size w5 _ by ((repeat (first | with_reducible assumption | with_reducible exact Below.refl _ _ | refine Below.setCell ?_ (by (first | omega | (simp; omega) | (simp; done) | fail "sml")) _ | refine Below.drew ?_ | refine Below.alloc ?_ (by (first | omega | (simp; omega) | (simp; done) | fail "sml")) _)); first | done | fail "chs")) hq_a aa0, keepc (show Below w5.heap.size w5 _ by ((repeat (first | with_reducible assumption | with_reducible exact Below.refl _ _ | refine Below.setCell ?_ (by (first | omega | (simp; omega) | (simp; done) | fail "sml")) _ | refine Below.drew ?_ | refine Below.alloc ?_ (by (first | omega | (simp; omega) | (simp; done) | fail "sml")) _)); first | done | fail "chs")) hq_a aa1, keepc (show Below w5.heap.size w5 _ by ((repeat (first | with_reducible assumption | with_reducible exact Below.refl _ _ | refine Below.setCell ?_ (by (first | omega | (simp; omega) | (simp; done) | fail "sml")) _ | refine Below.drew ?_ | refine Below.alloc ?_ (by (first | omega | (simp; omega) | (simp; done) | fail "sml")) _)); first | done | fail "chs")) xak xa0, keepc (show Below w5.heap.size w5 _ by ((repeat (first | with_reducible assumption | with_reducible exact Below.refl _ _ | refine Below.setCell ?_ (by (first | omega | (simp; omega) | (simp; done) | fail "sml")) _ | refine Below.drew ?_ | refine Below.alloc ?_ (by (first | omega | (simp; omega) | (simp; done) | fail "sml")) _)); first | done | fail "chs")) xak xa1⟩)
      (first
        | (go_at_call 30; refine (CT_a.out _ (hA0.trans (Below.mono (show Below w5.heap.size w5 _ by ((repeat (first | with_reducible assumption | with_reducible exact Below.refl _ _ | refine Below.setCell ?_ (by (first | omega | (simp; omega) | (simp; done) | fail "sml")) _ | refine Below.drew ?_ | refine Below.alloc ?_ (by (first | omega | (simp; omega) | (simp; done) | fail "sml")) _)); first | done | fail "chs")) (by omega)))).mono ?_; rintro en wa ⟨va, Fa, rfl, hh, _, hb⟩; have hka := Below.trans (show Below w5.heap.size w5 _ by ((repeat (first | with_reducible assumption | with_reducible exact Below.refl _ _ | refine Below.setCell ?_ (by (first | omega | (simp; omega) | (simp; done) | fail "sml")) _ | refine Below.drew ?_ | refine Below.alloc ?_ (by (first | omega | (simp; omega) | (simp; done) | fail "sml")) _)); first | done | fail "chs")) (hb.mono (by (first | omega | (simp; omega) | (simp; done) | fail "sml"))); have za := hka.size; have HHa := Lib.hid hh.at; clear hh hb)
        | (go_at_call 31; refine (eqTable_any a _ _ wa.heap.size _ (LXa.out.2.2.at.to (by ((repeat (first | with_reducible assumption | with_reducible exact Below.refl _ _ | refine Below.setCell ?_ (by (first | omega | (simp; omega) | (simp; done) | fail "sml")) _ | refine Below.drew ?_ | refine Below.alloc ?_ (by (first | omega | (simp; omega) | (simp; done) | fail "sml")) _)); first | done | fail "chs")) (by omega)) (HHa.out.to (by ((repeat (first | with_reducible assumption | with_reducible exact Below.refl _ _ | refine Below.setCell ?_ (by (first | omega | (simp; omega) | (simp; done) | fail "sml")) _ | refine Below.drew ?_ | refine Below.alloc ?_ (by (first | omega | (simp; omega) | (simp; done) | fail "sml")) _)); first | done | fail "chs")) (Nat.le_refl _)) (by (first | omega | (simp; omega) | (simp; done) | fail "sml"))).mono ?_; rintro en wb ⟨rfl, hbb⟩; have hkb := Below.trans (show Below w5.heap.size w5 _ by ((repeat (first | with_reducible assumption | with_reducible exact Below.refl _ _ | refine Below.setCell ?_ (by (first | omega | (simp; omega) | (simp; done) | fail "sml")) _ | refine Below.drew ?_ | refine Below.alloc ?_ (by (first | omega | (simp; omega) | (simp; done) | fail "sml")) _)); first | done | fail "chs")) (hbb.mono (by first | omega | (simp; omega))); clear hbb))
    all_goals (go_wp2_with fail; go_meet)
    all_goals exact ⟨rfl, by ((repeat (first | with_reducible assumption | with_reducible exact Below.refl _ _ | refine Below.setCell ?_ (by (first | omega | (simp; omega) | (simp; done) | fail "sml")) _ | refine Below.drew ?_ | refine Below.alloc ?_ (by (first | omega | (simp; omega) | (simp; done) | fail "sml")) _)); first | done | fail "chs")⟩
  case rest =>
  obtain ⟨rfl, hbx⟩ := hcut
  clear hz aa0 aa1 hq_a xak xa0 xa1
  clear hA0 rr0
  obtain ⟨w6, ew⟩ : ∃ u, u = wc := ⟨_, rfl⟩
  subst ew
  have hs_w6 : w5.heap.size ≤ w6.heap.size := hbx.size
  have LXa := Lib.hid (LXa.out.below (Tb.goes a) hbx)
  have HA := Lib.hid (HA.out.trans (hbx.mono (by omega)))
  clear hbx
  obtain ⟨hz, aa0, aa1⟩ := HK.out _ HA.out
  have hq_a : w.heap.size < w6.heap.size := by omega
  obtain ⟨xak, xac, _⟩ := LXa.out
  have xa0 := xac 0 _ rfl
  have xa1 := xac 1 _ rfl
  clear xac
  go_wp2_with fail
  go_ret
  exact ⟨rfl, HV.out.trans (HA.out.mono (by omega))⟩
end Go.Proofs.Ytfdkmngkpihpbaa
