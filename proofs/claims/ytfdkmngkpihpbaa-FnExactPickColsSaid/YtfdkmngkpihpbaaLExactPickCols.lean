/- The walk of FnExactPickCols. -/
import Derived.Test.YtfdkmngkpihpbaaTbPi
import Derived.Test.YtfdkmngkpihpbaaTbPs
import Derived.Test.YtfdkmngkpihpbaaM0q0p1
import Derived.Test.YtfdkmngkpihpbaaM0q0p2
import Derived.Test.YtfdkmngkpihpbaaM0q0p3
import Derived.Test.YtfdkmngkpihpbaaM0q4p1
import Derived.Test.YtfdkmngkpihpbaaM1q0p1
import Derived.Test.YtfdkmngkpihpbaaM1q1p1
import Derived.Deep.RegionHeld3
import Derived.Deep.DeepCutAuto
namespace Go.Proofs.Ytfdkmngkpihpbaa
open Go.RowKit

theorem pkR_small {x : Tb} {cs : List ByteArray} : (pkR x cs).cs.length + sumR (pkR x cs).rs ≤ 1048576 := by
  rcases Bool.eq_false_or_eq_true (pkB x cs) with h | h
  · have h2 := h
    unfold pkB tbNames at h2
    simp only [Bool.and_eq_true, decide_eq_true_eq] at h2
    have h3 := tb_parts h2.1.1
    have h4 : cs.length ≤ 6 := h2.1.2.1.1.2
    have h5 := pk_sum x cs
    have h6 : x.rs.length * cs.length ≤ 400 * 6 := Nat.mul_le_mul h3.2.1 h4
    rw [pkR_yes h]
    show cs.length + sumR (pkRs x cs) ≤ 1048576
    omega
  · rw [pkR_no h]
    simp [noTb, sumR]
set_option maxRecDepth 100000 in
set_option maxHeartbeats 16000000 in
theorem lawExactPickCols (a : Tb)  (v_a : Value) (w : World) (h_a : a.At w.heap.size w v_a) (hok_a : a.Ok) (c : List ByteArray) (v_c : Value) (h_c : kStr.Rd w.heap.size w v_c c) (hok_c : ∀ s ∈ c, s.size ≤ maxLen) :
    Calls Try.prog 11 #[v_a, v_c] w fun en w' => en = .returned (.bool true) ∧ Below w.heap.size w w' := by
  have HE_a := Lib.hid h_a
  have HOK_a := Lib.hid hok_a
  obtain ⟨pc0, cc0, rfl⟩ := h_c.form
  have hmc := h_c.max
  unfold maxLen at hmc
  have HCV := Lib.hid (fun (E : World) (hE : Below w.heap.size w E) => h_c.to hE (Nat.le_refl _))
  have HOK_c := Lib.hid hok_c
  clear h_c hok_c
  obtain ⟨p0a, c0a, q0a, d0a, rfl⟩ := h_a.form
  clear h_a hok_a
  obtain ⟨R, eR⟩ : ∃ R : Tb, R = pkR a c := ⟨_, rfl⟩
  obtain ⟨T, eT⟩ : ∃ T : Bool, T = pkB a c := ⟨_, rfl⟩
  obtain ⟨W0, eW⟩ : ∃ W0, W0 = (w.alloc (.cells #[.slice p0a a.cs.length c0a, .slice q0a a.rs.length d0a] 44)) := ⟨_, rfl⟩
  have HV := Lib.hid (show Below w.heap.size w W0 by rw [eW]; exact (Below.refl w.heap.size w).alloc (by simp) _)
  have HK := Lib.hid (show ∀ wk, Below (w.heap.size + 1) W0 wk → w.heap.size + 1 ≤ wk.heap.size ∧ wk.cell? ⟨w.heap.size, 0, none⟩ = some (.slice p0a a.cs.length c0a) ∧ wk.cell? ⟨w.heap.size, 1, none⟩ = some (.slice q0a a.rs.length d0a) from
    fun wk hk => by rw [eW] at hk; exact ⟨by have := hk.size; simp at this; omega, keepc hk (by omega) (by simp [go_sem]), keepc hk (by omega) (by simp [go_sem])⟩)
  have hs0 : w.heap.size + 1 ≤ W0.heap.size := by rw [eW]; simp
  have HA := Lib.hid (Below.refl (w.heap.size + 1) W0)
  have HEA_a := Lib.hid (show ∀ wk, Below (w.heap.size + 1) W0 wk → a.At w.heap.size wk (.agg #[.slice p0a a.cs.length c0a, .slice q0a a.rs.length d0a]) from fun wk hk => HE_a.out.to (HV.out.trans (hk.mono (by omega))) (Nat.le_refl _))
  have EW := Lib.hid eW
  clear eW HE_a
  go_enter Try.func11, Try.ntmps11
  go_wp2_with fail
  rw [← EW.out]
  refine (szTable_any a _ 1048576 w.heap.size _ (HEA_a.out _ HA.out) (by omega) (by omega) (by omega) HOK_a.out).mono ?_
  rintro en w1 ⟨r_a, rfl, hr_a, hb⟩
  have hs_w1 : W0.heap.size ≤ w1.heap.size := hb.size
  have HA := Lib.hid (HA.out.trans (hb.mono (by omega)))
  clear hb
  obtain ⟨hz, aa0, aa1⟩ := HK.out _ HA.out
  have hq_a : w.heap.size < w1.heap.size := by omega
  rcases hr_a with hr_a | ⟨hr0_a, hr_a⟩
  · have hneg : r_a < 0 := by omega
    clear hr_a
    go_wp2_with fail
    go_ret
    exact ⟨rfl, HV.out.trans (HA.out.mono (by omega))⟩
  have hneed_a : a.need ≤ 1048576 := by omega
  have hl1_a : a.cs.length + sumR a.rs ≤ 1048576 := by unfold Tb.need at hneed_a; omega
  have hrm_a : r_a ≤ 1048576 := by omega
  clear hr_a
  go_wp2_with fail
  refine (szStringS_any c _ r_a w.heap.size _ (HCV.out _ (HV.out.trans (HA.out.mono (by omega)))) (by have := HV.out.size; omega) hr0_a hrm_a HOK_c.out).mono ?_
  rintro en w2 ⟨r_c, rfl, hr_c, hb⟩
  clear hz aa0 aa1 hq_a
  have hs_w2 : w1.heap.size ≤ w2.heap.size := hb.size
  have HA := Lib.hid (HA.out.trans (hb.mono (by omega)))
  clear hb
  obtain ⟨hz, aa0, aa1⟩ := HK.out _ HA.out
  have hq_a : w.heap.size < w2.heap.size := by omega
  rcases hr_c with hr_c | ⟨hr0_c, hr_c⟩
  · have hneg : r_c < 0 := by omega
    clear hr_c
    go_wp2_with fail
    go_ret
    exact ⟨rfl, HV.out.trans (HA.out.mono (by omega))⟩
  have hneed_c : c.length ≤ 1048576 := by omega
  clear hr_c
  have HRB := Lib.hid (show R.cs.length + sumR R.rs ≤ 1048576 from eR ▸ pkR_small)
  have hRB := HRB.out
  have CS := Lib.hid (fun (v_a v_c : Value) (B : Nat) (E : World) (hB : B ≤ E.heap.size) (h_a : a.At B E v_a) (h_c : kStr.Rd B E v_c c) => eR ▸ eT ▸ specPickCols_any a c v_a v_c B E h_a h_c hB HOK_a.out HOK_c.out hneed_a hneed_c)
  have CI := Lib.hid (fun (v_a v_c : Value) (B : Nat) (E : World) (hB : B ≤ E.heap.size) (h_a : a.At B E v_a) (h_c : kStr.Rd B E v_c c) => eR ▸ eT ▸ pickCols_any a c v_a v_c B E h_a h_c hB HOK_a.out HOK_c.out hneed_a hneed_c)
  have CT_a := Lib.hid (fun (E : World) (hE : Below (w.heap.size + 1) W0 E) => (show Calls Try.prog 30 #[.agg #[.slice p0a a.cs.length c0a, .slice q0a a.rs.length d0a]] E _ from (fun (hv : a.At w.heap.size E (.agg #[.slice p0a a.cs.length c0a, .slice q0a a.rs.length d0a])) (hB : w.heap.size ≤ E.heap.size) => toTable_any a _ w.heap.size E hv hB hneed_a) (HEA_a.out E hE) (by have := hE.size; omega)))
  have CT_c := Lib.hid (fun (E : World) (hE : Below w.heap.size w E) => toStringS_any c (.slice pc0 c.length cc0) w.heap.size E (HCV.out E hE) hE.size hneed_c)
  clear eR eT
  go_wp2_with fail
  refine (CT_a.out _ HA.out).mono ?_
  rintro en w3 ⟨vw3, Fw3, rfl, ho, _, hb⟩
  clear hz aa0 aa1 hq_a
  have hsp := ho.at
  have hs_w3 : w2.heap.size ≤ w3.heap.size := hb.size
  have HA := Lib.hid (HA.out.trans (hb.mono (by omega)))
  clear ho hb
  obtain ⟨hz, aa0, aa1⟩ := HK.out _ HA.out
  have hq_a : w.heap.size < w3.heap.size := by omega
  go_wp2_with fail
  refine (CT_c.out _ (HV.out.trans (HA.out.mono (by omega)))).mono ?_
  rintro en w4 ⟨vw4, Fw4, rfl, hoc, _, hb⟩
  clear hz aa0 aa1 hq_a
  have hsc := hoc.rd
  have hsp := hsp.to hb hb.size
  have hs_w4 : w3.heap.size ≤ w4.heap.size := hb.size
  have HA := Lib.hid (HA.out.trans (hb.mono (by omega)))
  clear hoc hb
  obtain ⟨hz, aa0, aa1⟩ := HK.out _ HA.out
  have hq_a : w.heap.size < w4.heap.size := by omega
  go_wp2_with fail
  refine (CS.out _ _ _ _ (Nat.le_refl _) hsp hsc).mono ?_
  rintro en w5 ⟨vw5, FW, rfl, ho, hf, hb⟩
  clear hz aa0 aa1 hq_a
  clear hsp hsc
  have hs_w5 : w4.heap.size ≤ w5.heap.size := hb.size
  have HA := Lib.hid (HA.out.trans (hb.mono (by omega)))
  have HO := Lib.hid ho
  have GW := Lib.hid (show ∀ y ∈ FW, w4.heap.size ≤ y ∧ y < w5.heap.size from fun y hy => ⟨hf y hy, ho.lt y hy⟩)
  obtain ⟨pW, cW, qW, dW, rfl⟩ := ho.at.form
  clear ho hf hb
  obtain ⟨hz, aa0, aa1⟩ := HK.out _ HA.out
  have hq_a : w.heap.size < w5.heap.size := by omega
  go_wp2_with fail
  clear hz aa0 aa1 hq_a
  obtain ⟨W5_W, eW⟩ : ∃ u, u = w5.alloc (.cells #[.slice pW R.cs.length cW, .slice qW R.rs.length dW] 33) := ⟨_, rfl⟩
  rw [← eW]
  have hszW5_W : w5.heap.size < W5_W.heap.size := by rw [eW]; simp
  have hbW : Below w5.heap.size w5 W5_W := by rw [eW]; exact (Below.refl _ _).alloc (Nat.le_refl _) _
  have LW := Lib.hid (show LocV R.Has w5.heap.size #[.slice pW R.cs.length cW, .slice qW R.rs.length dW] FW W5_W by rw [eW]; exact LocV.fresh (Tb.goes R) HO.out)
  have hs_W5_W : w5.heap.size ≤ W5_W.heap.size := hbW.size
  have HA := Lib.hid (HA.out.trans (hbW.mono (by omega)))
  clear hbW eW HO
  obtain ⟨hz, aa0, aa1⟩ := HK.out _ HA.out
  have hq_a : w.heap.size < W5_W.heap.size := by omega
  obtain ⟨wwk, wwc, _⟩ := LW.out
  have ww0 := wwc 0 _ rfl
  have ww1 := wwc 1 _ rfl
  clear wwc
  go_wp2_with fail
  refine (CT_a.out _ HA.out).mono ?_
  rintro en w6 ⟨vw6, FX, rfl, ho, hf, hb⟩
  clear hz aa0 aa1 hq_a wwk ww0 ww1
  have hs_w6 : W5_W.heap.size ≤ w6.heap.size := hb.size
  have LW := Lib.hid (LW.out.below (Tb.goes R) hb)
  have HA := Lib.hid (HA.out.trans (hb.mono (by omega)))
  have HO := Lib.hid ho
  have GX := Lib.hid (show ∀ y ∈ FX, W5_W.heap.size ≤ y ∧ y < w6.heap.size from fun y hy => ⟨hf y hy, ho.lt y hy⟩)
  obtain ⟨pX, cX, qX, dX, rfl⟩ := ho.at.form
  clear ho hf hb
  obtain ⟨hz, aa0, aa1⟩ := HK.out _ HA.out
  have hq_a : w.heap.size < w6.heap.size := by omega
  obtain ⟨wwk, wwc, _⟩ := LW.out
  have ww0 := wwc 0 _ rfl
  have ww1 := wwc 1 _ rfl
  clear wwc
  go_wp2_with fail
  clear hz aa0 aa1 hq_a wwk ww0 ww1
  obtain ⟨W6_X, eW⟩ : ∃ u, u = w6.alloc (.cells #[.slice pX a.cs.length cX, .slice qX a.rs.length dX] 33) := ⟨_, rfl⟩
  rw [← eW]
  have hszW6_X : w6.heap.size < W6_X.heap.size := by rw [eW]; simp
  have hbW : Below w6.heap.size w6 W6_X := by rw [eW]; exact (Below.refl _ _).alloc (Nat.le_refl _) _
  have LX := Lib.hid (show LocV a.Has w6.heap.size #[.slice pX a.cs.length cX, .slice qX a.rs.length dX] FX W6_X by rw [eW]; exact LocV.fresh (Tb.goes a) HO.out)
  have hs_W6_X : w6.heap.size ≤ W6_X.heap.size := hbW.size
  have LW := Lib.hid (LW.out.below (Tb.goes R) hbW)
  have HA := Lib.hid (HA.out.trans (hbW.mono (by omega)))
  clear hbW eW HO
  obtain ⟨hz, aa0, aa1⟩ := HK.out _ HA.out
  have hq_a : w.heap.size < W6_X.heap.size := by omega
  obtain ⟨wwk, wwc, _⟩ := LW.out
  have ww0 := wwc 0 _ rfl
  have ww1 := wwc 1 _ rfl
  clear wwc
  obtain ⟨xxk, xxc, _⟩ := LX.out
  have xx0 := xxc 0 _ rfl
  have xx1 := xxc 1 _ rfl
  clear xxc
  go_wp2_with fail
  refine (CT_c.out _ (HV.out.trans (HA.out.mono (by omega)))).mono ?_
  rintro en w7 ⟨vw7, FC, rfl, ho, hf, hb⟩
  clear hz aa0 aa1 hq_a wwk ww0 ww1 xxk xx0 xx1
  have hs_w7 : W6_X.heap.size ≤ w7.heap.size := hb.size
  have LW := Lib.hid (LW.out.below (Tb.goes R) hb)
  have LX := Lib.hid (LX.out.below (Tb.goes a) hb)
  have HA := Lib.hid (HA.out.trans (hb.mono (by omega)))
  have LC := Lib.hid ho
  have GC := Lib.hid (show ∀ y ∈ FC, W6_X.heap.size ≤ y ∧ y < w7.heap.size from fun y hy => ⟨hf y hy, ho.lt y hy⟩)
  obtain ⟨pC, cC, rfl⟩ := ho.rd.form
  clear ho hf hb
  obtain ⟨hz, aa0, aa1⟩ := HK.out _ HA.out
  have hq_a : w.heap.size < w7.heap.size := by omega
  obtain ⟨wwk, wwc, _⟩ := LW.out
  have ww0 := wwc 0 _ rfl
  have ww1 := wwc 1 _ rfl
  clear wwc
  obtain ⟨xxk, xxc, _⟩ := LX.out
  have xx0 := xxc 0 _ rfl
  have xx1 := xxc 1 _ rfl
  clear xxc
  go_wp2_with fail
  refine (CI.out _ _ w7.heap.size _ (Nat.le_refl _) (LX.out.2.2.at.to (Below.refl _ _) (Nat.le_refl _)) LC.out.rd).mono ?_
  rintro en w8 ⟨vw8, FG, rfl, ho, hf, hb⟩
  clear hz aa0 aa1 hq_a wwk ww0 ww1 xxk xx0 xx1
  have hs_w8 : w7.heap.size ≤ w8.heap.size := hb.size
  have LW := Lib.hid (LW.out.below (Tb.goes R) hb)
  have LX := Lib.hid (LX.out.below (Tb.goes a) hb)
  have LC := Lib.hid (LC.out.below hb)
  have HA := Lib.hid (HA.out.trans (hb.mono (by omega)))
  have HO := Lib.hid ho
  have GG := Lib.hid (show ∀ y ∈ FG, w7.heap.size ≤ y ∧ y < w8.heap.size from fun y hy => ⟨hf y hy, ho.lt y hy⟩)
  obtain ⟨pG, cG, qG, dG, rfl⟩ := ho.at.form
  clear ho hf hb
  obtain ⟨hz, aa0, aa1⟩ := HK.out _ HA.out
  have hq_a : w.heap.size < w8.heap.size := by omega
  obtain ⟨wwk, wwc, _⟩ := LW.out
  have ww0 := wwc 0 _ rfl
  have ww1 := wwc 1 _ rfl
  clear wwc
  obtain ⟨xxk, xxc, _⟩ := LX.out
  have xx0 := xxc 0 _ rfl
  have xx1 := xxc 1 _ rfl
  clear xxc
  go_wp2_with fail
  clear hz aa0 aa1 hq_a wwk ww0 ww1 xxk xx0 xx1
  obtain ⟨W8_G, eW⟩ : ∃ u, u = w8.alloc (.cells #[.slice pG R.cs.length cG, .slice qG R.rs.length dG] 33) := ⟨_, rfl⟩
  rw [← eW]
  have hszW8_G : w8.heap.size < W8_G.heap.size := by rw [eW]; simp
  have hbW : Below w8.heap.size w8 W8_G := by rw [eW]; exact (Below.refl _ _).alloc (Nat.le_refl _) _
  have LG := Lib.hid (show LocV R.Has w8.heap.size #[.slice pG R.cs.length cG, .slice qG R.rs.length dG] FG W8_G by rw [eW]; exact LocV.fresh (Tb.goes R) HO.out)
  have hs_W8_G : w8.heap.size ≤ W8_G.heap.size := hbW.size
  have LW := Lib.hid (LW.out.below (Tb.goes R) hbW)
  have LX := Lib.hid (LX.out.below (Tb.goes a) hbW)
  have LC := Lib.hid (LC.out.below hbW)
  have HA := Lib.hid (HA.out.trans (hbW.mono (by omega)))
  clear hbW eW HO
  obtain ⟨hz, aa0, aa1⟩ := HK.out _ HA.out
  have hq_a : w.heap.size < W8_G.heap.size := by omega
  obtain ⟨wwk, wwc, _⟩ := LW.out
  have ww0 := wwc 0 _ rfl
  have ww1 := wwc 1 _ rfl
  clear wwc
  obtain ⟨xxk, xxc, _⟩ := LX.out
  have xx0 := xxc 0 _ rfl
  have xx1 := xxc 1 _ rfl
  clear xxc
  obtain ⟨ggk, ggc, _⟩ := LG.out
  have gg0 := ggc 0 _ rfl
  have gg1 := ggc 1 _ rfl
  clear ggc
  go_wp2_with fail
  refine (eqTable_any R _ _ W8_G.heap.size _ LG.out.2.2.at LW.out.2.2.at (Nat.le_refl _)).mono ?_
  rintro en w9 ⟨rfl, hb⟩
  clear hz aa0 aa1 hq_a wwk ww0 ww1 xxk xx0 xx1 ggk gg0 gg1
  have hs_w9 : W8_G.heap.size ≤ w9.heap.size := hb.size
  have LW := Lib.hid (LW.out.below (Tb.goes R) hb)
  have LX := Lib.hid (LX.out.below (Tb.goes a) hb)
  have LC := Lib.hid (LC.out.below hb)
  have LG := Lib.hid (LG.out.below (Tb.goes R) hb)
  have HA := Lib.hid (HA.out.trans (hb.mono (by omega)))
  clear hb
  obtain ⟨hz, aa0, aa1⟩ := HK.out _ HA.out
  have hq_a : w.heap.size < w9.heap.size := by omega
  obtain ⟨wwk, wwc, _⟩ := LW.out
  have ww0 := wwc 0 _ rfl
  have ww1 := wwc 1 _ rfl
  clear wwc
  obtain ⟨xxk, xxc, _⟩ := LX.out
  have xx0 := xxc 0 _ rfl
  have xx1 := xxc 1 _ rfl
  clear xxc
  obtain ⟨ggk, ggc, _⟩ := LG.out
  have gg0 := ggc 0 _ rfl
  have gg1 := ggc 1 _ rfl
  clear ggc
  have hA0 := HA.out
  have rr0 := Below.refl w9.heap.size w9
  go_upto_region 14 with fail
  go_cut [58] (fun s wx => s = .bool false ∧ Below w9.heap.size w9 wx)
  case first =>
    go_region_held3 (fun w' => w'.cell? ⟨w.heap.size, 0, none⟩ = some (.slice p0a a.cs.length c0a) ∧ w'.cell? ⟨w.heap.size, 1, none⟩ = some (.slice q0a a.rs.length d0a) ∧ w'.cell? ⟨w6.heap.size, 0, none⟩ = some (.slice pX a.cs.length cX) ∧ w'.cell? ⟨w6.heap.size, 1, none⟩ = some (.slice qX a.rs.length dX))
      (exact ⟨keepc (show Below w9.heap.size w9 _ by ((repeat (first | with_reducible assumption | with_reducible exact Below.refl _ _ | refine Below.setCell ?_ (by (first | omega | (simp; omega) | (simp; done) | fail "sml")) _ | refine Below.drew ?_ | refine Below.alloc ?_ (by (first | omega | (simp; omega) | (simp; done) | fail "sml")) _)); first | done | fail "chs")) hq_a aa0, keepc (show Below w9.heap.size w9 _ by ((repeat (first | with_reducible assumption | with_reducible exact Below.refl _ _ | refine Below.setCell ?_ (by (first | omega | (simp; omega) | (simp; done) | fail "sml")) _ | refine Below.drew ?_ | refine Below.alloc ?_ (by (first | omega | (simp; omega) | (simp; done) | fail "sml")) _)); first | done | fail "chs")) hq_a aa1, keepc (show Below w9.heap.size w9 _ by ((repeat (first | with_reducible assumption | with_reducible exact Below.refl _ _ | refine Below.setCell ?_ (by (first | omega | (simp; omega) | (simp; done) | fail "sml")) _ | refine Below.drew ?_ | refine Below.alloc ?_ (by (first | omega | (simp; omega) | (simp; done) | fail "sml")) _)); first | done | fail "chs")) xxk xx0, keepc (show Below w9.heap.size w9 _ by ((repeat (first | with_reducible assumption | with_reducible exact Below.refl _ _ | refine Below.setCell ?_ (by (first | omega | (simp; omega) | (simp; done) | fail "sml")) _ | refine Below.drew ?_ | refine Below.alloc ?_ (by (first | omega | (simp; omega) | (simp; done) | fail "sml")) _)); first | done | fail "chs")) xxk xx1⟩)
      (first
        | (go_at_call 30; refine (CT_a.out _ (hA0.trans (Below.mono (show Below w9.heap.size w9 _ by ((repeat (first | with_reducible assumption | with_reducible exact Below.refl _ _ | refine Below.setCell ?_ (by (first | omega | (simp; omega) | (simp; done) | fail "sml")) _ | refine Below.drew ?_ | refine Below.alloc ?_ (by (first | omega | (simp; omega) | (simp; done) | fail "sml")) _)); first | done | fail "chs")) (by omega)))).mono ?_; rintro en wa ⟨va, Fa, rfl, hh, _, hb⟩; have hka := Below.trans (show Below w9.heap.size w9 _ by ((repeat (first | with_reducible assumption | with_reducible exact Below.refl _ _ | refine Below.setCell ?_ (by (first | omega | (simp; omega) | (simp; done) | fail "sml")) _ | refine Below.drew ?_ | refine Below.alloc ?_ (by (first | omega | (simp; omega) | (simp; done) | fail "sml")) _)); first | done | fail "chs")) (hb.mono (by (first | omega | (simp; omega) | (simp; done) | fail "sml"))); have za := hka.size; have HHa := Lib.hid hh.at; clear hh hb)
        | (go_at_call 31; refine (eqTable_any a _ _ wa.heap.size _ (LX.out.2.2.at.to (by ((repeat (first | with_reducible assumption | with_reducible exact Below.refl _ _ | refine Below.setCell ?_ (by (first | omega | (simp; omega) | (simp; done) | fail "sml")) _ | refine Below.drew ?_ | refine Below.alloc ?_ (by (first | omega | (simp; omega) | (simp; done) | fail "sml")) _)); first | done | fail "chs")) (by omega)) (HHa.out.to (by ((repeat (first | with_reducible assumption | with_reducible exact Below.refl _ _ | refine Below.setCell ?_ (by (first | omega | (simp; omega) | (simp; done) | fail "sml")) _ | refine Below.drew ?_ | refine Below.alloc ?_ (by (first | omega | (simp; omega) | (simp; done) | fail "sml")) _)); first | done | fail "chs")) (Nat.le_refl _)) (by (first | omega | (simp; omega) | (simp; done) | fail "sml"))).mono ?_; rintro en wb ⟨rfl, hbb⟩; have hkb := Below.trans (show Below w9.heap.size w9 _ by ((repeat (first | with_reducible assumption | with_reducible exact Below.refl _ _ | refine Below.setCell ?_ (by (first | omega | (simp; omega) | (simp; done) | fail "sml")) _ | refine Below.drew ?_ | refine Below.alloc ?_ (by (first | omega | (simp; omega) | (simp; done) | fail "sml")) _)); first | done | fail "chs")) (hbb.mono (by first | omega | (simp; omega))); clear hbb))
    all_goals (go_wp2_with fail; go_meet)
    all_goals exact ⟨rfl, by ((repeat (first | with_reducible assumption | with_reducible exact Below.refl _ _ | refine Below.setCell ?_ (by (first | omega | (simp; omega) | (simp; done) | fail "sml")) _ | refine Below.drew ?_ | refine Below.alloc ?_ (by (first | omega | (simp; omega) | (simp; done) | fail "sml")) _)); first | done | fail "chs")⟩
  case rest =>
  obtain ⟨rfl, hbx⟩ := hcut
  clear hz aa0 aa1 hq_a wwk ww0 ww1 xxk xx0 xx1 ggk gg0 gg1
  clear hA0 rr0
  obtain ⟨w10, ew⟩ : ∃ u, u = wc := ⟨_, rfl⟩
  subst ew
  have hs_w10 : w9.heap.size ≤ w10.heap.size := hbx.size
  have LW := Lib.hid (LW.out.below (Tb.goes R) hbx)
  have LX := Lib.hid (LX.out.below (Tb.goes a) hbx)
  have LC := Lib.hid (LC.out.below hbx)
  have LG := Lib.hid (LG.out.below (Tb.goes R) hbx)
  have HA := Lib.hid (HA.out.trans (hbx.mono (by omega)))
  clear hbx
  obtain ⟨hz, aa0, aa1⟩ := HK.out _ HA.out
  have hq_a : w.heap.size < w10.heap.size := by omega
  obtain ⟨wwk, wwc, _⟩ := LW.out
  have ww0 := wwc 0 _ rfl
  have ww1 := wwc 1 _ rfl
  clear wwc
  obtain ⟨xxk, xxc, _⟩ := LX.out
  have xx0 := xxc 0 _ rfl
  have xx1 := xxc 1 _ rfl
  clear xxc
  obtain ⟨ggk, ggc, _⟩ := LG.out
  have gg0 := ggc 0 _ rfl
  have gg1 := ggc 1 _ rfl
  clear ggc
  go_wp2_with fail
  refine (CT_c.out _ (HV.out.trans (HA.out.mono (by omega)))).mono ?_
  rintro en w11 ⟨vw11, Fw11, rfl, hoc, _, hb⟩
  clear hz aa0 aa1 hq_a wwk ww0 ww1 xxk xx0 xx1 ggk gg0 gg1
  have hsc := hoc.rd
  have hs_w11 : w10.heap.size ≤ w11.heap.size := hb.size
  have LW := Lib.hid (LW.out.below (Tb.goes R) hb)
  have LX := Lib.hid (LX.out.below (Tb.goes a) hb)
  have LC := Lib.hid (LC.out.below hb)
  have LG := Lib.hid (LG.out.below (Tb.goes R) hb)
  have HA := Lib.hid (HA.out.trans (hb.mono (by omega)))
  clear hoc hb
  obtain ⟨hz, aa0, aa1⟩ := HK.out _ HA.out
  have hq_a : w.heap.size < w11.heap.size := by omega
  obtain ⟨wwk, wwc, _⟩ := LW.out
  have ww0 := wwc 0 _ rfl
  have ww1 := wwc 1 _ rfl
  clear wwc
  obtain ⟨xxk, xxc, _⟩ := LX.out
  have xx0 := xxc 0 _ rfl
  have xx1 := xxc 1 _ rfl
  clear xxc
  obtain ⟨ggk, ggc, _⟩ := LG.out
  have gg0 := ggc 0 _ rfl
  have gg1 := ggc 1 _ rfl
  clear ggc
  go_wp2_with fail
  refine (eqStringS_any c _ _ w11.heap.size _ LC.out.rd hsc (Nat.le_refl _)).mono ?_
  rintro en w12 ⟨rfl, hb⟩
  clear hz aa0 aa1 hq_a wwk ww0 ww1 xxk xx0 xx1 ggk gg0 gg1
  clear hsc
  have hs_w12 : w11.heap.size ≤ w12.heap.size := hb.size
  have LW := Lib.hid (LW.out.below (Tb.goes R) hb)
  have LX := Lib.hid (LX.out.below (Tb.goes a) hb)
  have LC := Lib.hid (LC.out.below hb)
  have LG := Lib.hid (LG.out.below (Tb.goes R) hb)
  have HA := Lib.hid (HA.out.trans (hb.mono (by omega)))
  clear hb
  obtain ⟨hz, aa0, aa1⟩ := HK.out _ HA.out
  have hq_a : w.heap.size < w12.heap.size := by omega
  obtain ⟨wwk, wwc, _⟩ := LW.out
  have ww0 := wwc 0 _ rfl
  have ww1 := wwc 1 _ rfl
  clear wwc
  obtain ⟨xxk, xxc, _⟩ := LX.out
  have xx0 := xxc 0 _ rfl
  have xx1 := xxc 1 _ rfl
  clear xxc
  obtain ⟨ggk, ggc, _⟩ := LG.out
  have gg0 := ggc 0 _ rfl
  have gg1 := ggc 1 _ rfl
  clear ggc
  go_wp2_with fail
  refine (markTable_any a _ FX 1 _ LX.out.2.2 (by omega) (by omega)).mono ?_
  rintro en w13 ⟨rfl, ho, hc⟩
  clear hz aa0 aa1 hq_a wwk ww0 ww1 xxk xx0 xx1 ggk gg0 gg1
  have hs_w13 : w12.heap.size ≤ w13.heap.size := hc.size
  have HA := Lib.hid (HA.out.trans (hc.below (by omega) (fun y hy => by have := GX.out y hy; omega)))
  have LW := Lib.hid (LW.out.chg (Tb.goes R) hc (fun hy => by have := GX.out _ hy; omega) (fun y hy hy2 => by have h1 := GW.out y hy; have h2 := GX.out y hy2; omega))
  have LC := Lib.hid (LC.out.chg hc (fun y hy hy2 => by have h1 := GC.out y hy; have h2 := GX.out y hy2; omega))
  have LG := Lib.hid (LG.out.chg (Tb.goes R) hc (fun hy => by have := GX.out _ hy; omega) (fun y hy hy2 => by have h1 := GG.out y hy; have h2 := GX.out y hy2; omega))
  clear hc ho LX
  obtain ⟨hz, aa0, aa1⟩ := HK.out _ HA.out
  have hq_a : w.heap.size < w13.heap.size := by omega
  obtain ⟨wwk, wwc, _⟩ := LW.out
  have ww0 := wwc 0 _ rfl
  have ww1 := wwc 1 _ rfl
  clear wwc
  obtain ⟨ggk, ggc, _⟩ := LG.out
  have gg0 := ggc 0 _ rfl
  have gg1 := ggc 1 _ rfl
  clear ggc
  go_wp2_with fail
  refine (markStringS_any c _ FC _ _ (kStr_ow.1 LC.out) (by omega) (by omega)).mono ?_
  rintro en w14 ⟨rfl, _, hc⟩
  clear hz aa0 aa1 hq_a wwk ww0 ww1 ggk gg0 gg1
  have hs_w14 : w13.heap.size ≤ w14.heap.size := hc.size
  have HA := Lib.hid (HA.out.trans (hc.below (by omega) (fun y hy => by have := GC.out y hy; omega)))
  have LW := Lib.hid (LW.out.chg (Tb.goes R) hc (fun hy => by have := GC.out _ hy; omega) (fun y hy hy2 => by have h1 := GW.out y hy; have h2 := GC.out y hy2; omega))
  have LG := Lib.hid (LG.out.chg (Tb.goes R) hc (fun hy => by have := GC.out _ hy; omega) (fun y hy hy2 => by have h1 := GG.out y hy; have h2 := GC.out y hy2; omega))
  clear hc LC
  obtain ⟨hz, aa0, aa1⟩ := HK.out _ HA.out
  have hq_a : w.heap.size < w14.heap.size := by omega
  obtain ⟨wwk, wwc, _⟩ := LW.out
  have ww0 := wwc 0 _ rfl
  have ww1 := wwc 1 _ rfl
  clear wwc
  obtain ⟨ggk, ggc, _⟩ := LG.out
  have gg0 := ggc 0 _ rfl
  have gg1 := ggc 1 _ rfl
  clear ggc
  have hn1 : ¬ ((1 : Int) + a.cs.length + sumR a.rs + c.length < 0) := by omega
  go_wp2_with fail
  refine (eqTable_any R _ _ w14.heap.size _ LG.out.2.2.at LW.out.2.2.at (Nat.le_refl _)).mono ?_
  rintro en w15 ⟨rfl, hb⟩
  clear hz aa0 aa1 hq_a wwk ww0 ww1 ggk gg0 gg1
  have hs_w15 : w14.heap.size ≤ w15.heap.size := hb.size
  have LW := Lib.hid (LW.out.below (Tb.goes R) hb)
  have LG := Lib.hid (LG.out.below (Tb.goes R) hb)
  have HA := Lib.hid (HA.out.trans (hb.mono (by omega)))
  clear hb
  obtain ⟨hz, aa0, aa1⟩ := HK.out _ HA.out
  have hq_a : w.heap.size < w15.heap.size := by omega
  obtain ⟨wwk, wwc, _⟩ := LW.out
  have ww0 := wwc 0 _ rfl
  have ww1 := wwc 1 _ rfl
  clear wwc
  obtain ⟨ggk, ggc, _⟩ := LG.out
  have gg0 := ggc 0 _ rfl
  have gg1 := ggc 1 _ rfl
  clear ggc
  clear hn1
  go_wp2_with fail
  refine (markTable_any R _ FG 1 _ LG.out.2.2 (by omega) (by omega)).mono ?_
  rintro en w16 ⟨rfl, ho, hc⟩
  clear hz aa0 aa1 hq_a wwk ww0 ww1 ggk gg0 gg1
  have hs_w16 : w15.heap.size ≤ w16.heap.size := hc.size
  have HA := Lib.hid (HA.out.trans (hc.below (by omega) (fun y hy => by have := GG.out y hy; omega)))
  have LW := Lib.hid (LW.out.chg (Tb.goes R) hc (fun hy => by have := GG.out _ hy; omega) (fun y hy hy2 => by have h1 := GW.out y hy; have h2 := GG.out y hy2; omega))
  have LM := Lib.hid (LG.out.turn (Q := (R.marked 1).Has) hc (fun hy => by have := GG.out _ hy; omega) ho)
  clear hc ho LG
  obtain ⟨hz, aa0, aa1⟩ := HK.out _ HA.out
  have hq_a : w.heap.size < w16.heap.size := by omega
  obtain ⟨wwk, wwc, _⟩ := LW.out
  have ww0 := wwc 0 _ rfl
  have ww1 := wwc 1 _ rfl
  clear wwc
  obtain ⟨mmk, mmc, _⟩ := LM.out
  have mm0 := mmc 0 _ rfl
  have mm1 := mmc 1 _ rfl
  clear mmc
  go_wp2_with fail
  refine (heldTable_any R _ 1 w16.heap.size _ LM.out.2.2.at (Nat.le_refl _) (by omega) (by omega)).mono ?_
  rintro en w17 ⟨rfl, hb⟩
  clear hz aa0 aa1 hq_a wwk ww0 ww1 mmk mm0 mm1
  have hs_w17 : w16.heap.size ≤ w17.heap.size := hb.size
  have LW := Lib.hid (LW.out.below (Tb.goes R) hb)
  have LM := Lib.hid (LM.out.below (Tb.goes (R.marked 1)) hb)
  have HA := Lib.hid (HA.out.trans (hb.mono (by omega)))
  clear hb
  obtain ⟨hz, aa0, aa1⟩ := HK.out _ HA.out
  have hq_a : w.heap.size < w17.heap.size := by omega
  obtain ⟨wwk, wwc, _⟩ := LW.out
  have ww0 := wwc 0 _ rfl
  have ww1 := wwc 1 _ rfl
  clear wwc
  obtain ⟨mmk, mmc, _⟩ := LM.out
  have mm0 := mmc 0 _ rfl
  have mm1 := mmc 1 _ rfl
  clear mmc
  have hn2 : ¬ ((1 : Int) + R.cs.length + sumR R.rs < 0) := by omega
  have hdum := hn2
  clear hdum
  go_wp2_with fail
  refine (CT_a.out _ HA.out).mono ?_
  rintro en w18 ⟨vw18, Fw18, rfl, ho, _, hb⟩
  clear hz aa0 aa1 hq_a wwk ww0 ww1 mmk mm0 mm1
  have hsp := ho.at
  have hs_w18 : w17.heap.size ≤ w18.heap.size := hb.size
  have LW := Lib.hid (LW.out.below (Tb.goes R) hb)
  have LM := Lib.hid (LM.out.below (Tb.goes (R.marked 1)) hb)
  have HA := Lib.hid (HA.out.trans (hb.mono (by omega)))
  clear ho hb
  obtain ⟨hz, aa0, aa1⟩ := HK.out _ HA.out
  have hq_a : w.heap.size < w18.heap.size := by omega
  obtain ⟨wwk, wwc, _⟩ := LW.out
  have ww0 := wwc 0 _ rfl
  have ww1 := wwc 1 _ rfl
  clear wwc
  obtain ⟨mmk, mmc, _⟩ := LM.out
  have mm0 := mmc 0 _ rfl
  have mm1 := mmc 1 _ rfl
  clear mmc
  go_wp2_with fail
  refine (CT_c.out _ (HV.out.trans (HA.out.mono (by omega)))).mono ?_
  rintro en w19 ⟨vw19, Fw19, rfl, hoc, _, hb⟩
  clear hz aa0 aa1 hq_a wwk ww0 ww1 mmk mm0 mm1
  have hsc := hoc.rd
  have hsp := hsp.to hb hb.size
  have hs_w19 : w18.heap.size ≤ w19.heap.size := hb.size
  have LW := Lib.hid (LW.out.below (Tb.goes R) hb)
  have LM := Lib.hid (LM.out.below (Tb.goes (R.marked 1)) hb)
  have HA := Lib.hid (HA.out.trans (hb.mono (by omega)))
  clear hoc hb
  obtain ⟨hz, aa0, aa1⟩ := HK.out _ HA.out
  have hq_a : w.heap.size < w19.heap.size := by omega
  obtain ⟨wwk, wwc, _⟩ := LW.out
  have ww0 := wwc 0 _ rfl
  have ww1 := wwc 1 _ rfl
  clear wwc
  obtain ⟨mmk, mmc, _⟩ := LM.out
  have mm0 := mmc 0 _ rfl
  have mm1 := mmc 1 _ rfl
  clear mmc
  go_wp2_with fail
  refine (CI.out _ _ _ _ (Nat.le_refl _) hsp hsc).mono ?_
  rintro en w20 ⟨vw20, FH, rfl, ho, hf, hb⟩
  clear hz aa0 aa1 hq_a wwk ww0 ww1 mmk mm0 mm1
  clear hsp hsc
  have hs_w20 : w19.heap.size ≤ w20.heap.size := hb.size
  have LW := Lib.hid (LW.out.below (Tb.goes R) hb)
  have LM := Lib.hid (LM.out.below (Tb.goes (R.marked 1)) hb)
  have HA := Lib.hid (HA.out.trans (hb.mono (by omega)))
  have HO := Lib.hid ho
  have GH := Lib.hid (show ∀ y ∈ FH, w19.heap.size ≤ y ∧ y < w20.heap.size from fun y hy => ⟨hf y hy, ho.lt y hy⟩)
  obtain ⟨pH, cH, qH, dH, rfl⟩ := ho.at.form
  clear ho hf hb
  obtain ⟨hz, aa0, aa1⟩ := HK.out _ HA.out
  have hq_a : w.heap.size < w20.heap.size := by omega
  obtain ⟨wwk, wwc, _⟩ := LW.out
  have ww0 := wwc 0 _ rfl
  have ww1 := wwc 1 _ rfl
  clear wwc
  obtain ⟨mmk, mmc, _⟩ := LM.out
  have mm0 := mmc 0 _ rfl
  have mm1 := mmc 1 _ rfl
  clear mmc
  go_wp2_with fail
  clear hz aa0 aa1 hq_a wwk ww0 ww1 mmk mm0 mm1
  obtain ⟨W20_H, eW⟩ : ∃ u, u = w20.alloc (.cells #[.slice pH R.cs.length cH, .slice qH R.rs.length dH] 33) := ⟨_, rfl⟩
  rw [← eW]
  have hszW20_H : w20.heap.size < W20_H.heap.size := by rw [eW]; simp
  have hbW : Below w20.heap.size w20 W20_H := by rw [eW]; exact (Below.refl _ _).alloc (Nat.le_refl _) _
  have LH := Lib.hid (show LocV R.Has w20.heap.size #[.slice pH R.cs.length cH, .slice qH R.rs.length dH] FH W20_H by rw [eW]; exact LocV.fresh (Tb.goes R) HO.out)
  have hs_W20_H : w20.heap.size ≤ W20_H.heap.size := hbW.size
  have LW := Lib.hid (LW.out.below (Tb.goes R) hbW)
  have LM := Lib.hid (LM.out.below (Tb.goes (R.marked 1)) hbW)
  have HA := Lib.hid (HA.out.trans (hbW.mono (by omega)))
  clear hbW eW HO
  obtain ⟨hz, aa0, aa1⟩ := HK.out _ HA.out
  have hq_a : w.heap.size < W20_H.heap.size := by omega
  obtain ⟨wwk, wwc, _⟩ := LW.out
  have ww0 := wwc 0 _ rfl
  have ww1 := wwc 1 _ rfl
  clear wwc
  obtain ⟨mmk, mmc, _⟩ := LM.out
  have mm0 := mmc 0 _ rfl
  have mm1 := mmc 1 _ rfl
  clear mmc
  obtain ⟨hhk, hhc, _⟩ := LH.out
  have hh0 := hhc 0 _ rfl
  have hh1 := hhc 1 _ rfl
  clear hhc
  go_wp2_with fail
  refine (eqTable_any R _ _ W20_H.heap.size _ LH.out.2.2.at LW.out.2.2.at (Nat.le_refl _)).mono ?_
  rintro en w21 ⟨rfl, hb⟩
  clear hz aa0 aa1 hq_a wwk ww0 ww1 mmk mm0 mm1 hhk hh0 hh1
  have hs_w21 : W20_H.heap.size ≤ w21.heap.size := hb.size
  have LW := Lib.hid (LW.out.below (Tb.goes R) hb)
  have LM := Lib.hid (LM.out.below (Tb.goes (R.marked 1)) hb)
  have LH := Lib.hid (LH.out.below (Tb.goes R) hb)
  have HA := Lib.hid (HA.out.trans (hb.mono (by omega)))
  clear hb
  obtain ⟨hz, aa0, aa1⟩ := HK.out _ HA.out
  have hq_a : w.heap.size < w21.heap.size := by omega
  obtain ⟨wwk, wwc, _⟩ := LW.out
  have ww0 := wwc 0 _ rfl
  have ww1 := wwc 1 _ rfl
  clear wwc
  obtain ⟨mmk, mmc, _⟩ := LM.out
  have mm0 := mmc 0 _ rfl
  have mm1 := mmc 1 _ rfl
  clear mmc
  obtain ⟨hhk, hhc, _⟩ := LH.out
  have hh0 := hhc 0 _ rfl
  have hh1 := hhc 1 _ rfl
  clear hhc
  go_wp2_with fail
  refine (heldTable_any R _ 1 w21.heap.size _ LM.out.2.2.at (Nat.le_refl _) (by omega) (by omega)).mono ?_
  rintro en w22 ⟨rfl, hb⟩
  clear hz aa0 aa1 hq_a wwk ww0 ww1 mmk mm0 mm1 hhk hh0 hh1
  have hs_w22 : w21.heap.size ≤ w22.heap.size := hb.size
  have LW := Lib.hid (LW.out.below (Tb.goes R) hb)
  have LM := Lib.hid (LM.out.below (Tb.goes (R.marked 1)) hb)
  have LH := Lib.hid (LH.out.below (Tb.goes R) hb)
  have HA := Lib.hid (HA.out.trans (hb.mono (by omega)))
  clear hb
  obtain ⟨hz, aa0, aa1⟩ := HK.out _ HA.out
  have hq_a : w.heap.size < w22.heap.size := by omega
  obtain ⟨wwk, wwc, _⟩ := LW.out
  have ww0 := wwc 0 _ rfl
  have ww1 := wwc 1 _ rfl
  clear wwc
  obtain ⟨mmk, mmc, _⟩ := LM.out
  have mm0 := mmc 0 _ rfl
  have mm1 := mmc 1 _ rfl
  clear mmc
  obtain ⟨hhk, hhc, _⟩ := LH.out
  have hh0 := hhc 0 _ rfl
  have hh1 := hhc 1 _ rfl
  clear hhc
  go_wp2_with fail
  go_ret
  exact ⟨rfl, HV.out.trans (HA.out.mono (by omega))⟩
end Go.Proofs.Ytfdkmngkpihpbaa
