/- The walk of FnExactExprSame. -/
import Derived.Test.YtlplbfbbdjaklaaSExSame
import Derived.Test.YtlplbfbbdjaklaaExSame
import Derived.Test.YtlplbfbbdjaklaaKindsP
import Derived.Deep.RegionHeld3
import Derived.Deep.DeepCutAuto
namespace Go.Proofs.Ytlplbfbbdjaklaa
open Go.RowKit

set_option maxRecDepth 100000 in
set_option maxHeartbeats 16000000 in
theorem lawExactExprSame (eA : Ex) (eB : Ex) (v_eA : Value) (v_eB : Value) (w : World) (h_eA : eA.At w.heap.size w v_eA) (h_eB : eB.At w.heap.size w v_eB) (hok_eA : eA.Ok ∧ eA.ks.Ok) (hok_eB : eB.Ok ∧ eB.ks.Ok) :
    Calls Try.prog 3 #[v_eA, v_eB] w fun en w' => en = .returned (.bool true) ∧ Below w.heap.size w w' := by
  have HE_eA := Lib.hid h_eA
  have HOK_eA := Lib.hid hok_eA
  have HE_eB := Lib.hid h_eB
  have HOK_eB := Lib.hid hok_eB
  obtain ⟨p0eA, c0eA, rfl⟩ := h_eA.form
  obtain ⟨p0eB, c0eB, rfl⟩ := h_eB.form
  clear h_eA hok_eA h_eB hok_eB
  obtain ⟨R0, eR0⟩ : ∃ R0 : Bool, R0 = exEq eA eB := ⟨_, rfl⟩
  obtain ⟨W0, eW⟩ : ∃ W0, W0 = ((w.alloc (.cells #[.int .i64 eA.op, .string eA.a, .slice p0eA eA.ks.list.length c0eA] 24)).alloc (.cells #[.int .i64 eB.op, .string eB.a, .slice p0eB eB.ks.list.length c0eB] 24)) := ⟨_, rfl⟩
  have HV := Lib.hid (show Below w.heap.size w W0 by rw [eW]; exact ((Below.refl w.heap.size w).alloc (by simp) _).alloc (by simp) _)
  have HK := Lib.hid (show ∀ wk, Below (w.heap.size + 2) W0 wk → w.heap.size + 2 ≤ wk.heap.size ∧ wk.cell? ⟨w.heap.size, 0, none⟩ = some (.int .i64 eA.op) ∧ wk.cell? ⟨w.heap.size, 1, none⟩ = some (.string eA.a) ∧ wk.cell? ⟨w.heap.size, 2, none⟩ = some (.slice p0eA eA.ks.list.length c0eA) ∧ wk.cell? ⟨w.heap.size + 1, 0, none⟩ = some (.int .i64 eB.op) ∧ wk.cell? ⟨w.heap.size + 1, 1, none⟩ = some (.string eB.a) ∧ wk.cell? ⟨w.heap.size + 1, 2, none⟩ = some (.slice p0eB eB.ks.list.length c0eB) from
    fun wk hk => by rw [eW] at hk; exact ⟨by have := hk.size; simp at this; omega, keepc hk (by omega) (by simp [go_sem]), keepc hk (by omega) (by simp [go_sem]), keepc hk (by omega) (by simp [go_sem]), keepc hk (by omega) (by simp [go_sem]), keepc hk (by omega) (by simp [go_sem]), keepc hk (by omega) (by simp [go_sem])⟩)
  have hs0 : w.heap.size + 2 ≤ W0.heap.size := by rw [eW]; simp
  have HA := Lib.hid (Below.refl (w.heap.size + 2) W0)
  have HEA_eA := Lib.hid (show ∀ wk, Below (w.heap.size + 2) W0 wk → eA.At w.heap.size wk (.agg #[.int .i64 eA.op, .string eA.a, .slice p0eA eA.ks.list.length c0eA]) from fun wk hk => HE_eA.out.to (HV.out.trans (hk.mono (by omega))) (Nat.le_refl _))
  have HEA_eB := Lib.hid (show ∀ wk, Below (w.heap.size + 2) W0 wk → eB.At w.heap.size wk (.agg #[.int .i64 eB.op, .string eB.a, .slice p0eB eB.ks.list.length c0eB]) from fun wk hk => HE_eB.out.to (HV.out.trans (hk.mono (by omega))) (Nat.le_refl _))
  have EW := Lib.hid eW
  clear eW HE_eA HE_eB
  go_enter Try.func3, Try.ntmps3
  go_wp2_with fail
  rw [← EW.out]
  refine (szExpr_any eA _ 1048576 w.heap.size _ (HEA_eA.out _ HA.out) (by omega) (by omega) (by omega) HOK_eA.out.1.2 HOK_eA.out.2).mono ?_
  rintro en w1 ⟨r_eA, rfl, hr_eA, hb⟩
  have hs_w1 : W0.heap.size ≤ w1.heap.size := hb.size
  have HA := Lib.hid (HA.out.trans (hb.mono (by omega)))
  clear hb
  obtain ⟨hz, aeA0, aeA1, aeA2, aeB0, aeB1, aeB2⟩ := HK.out _ HA.out
  have hq_eA : w.heap.size < w1.heap.size := by omega
  have hq_eB : w.heap.size + 1 < w1.heap.size := by omega
  rcases hr_eA with hr_eA | ⟨hr0_eA, hr_eA⟩
  · have hneg : r_eA < 0 := by omega
    clear hr_eA
    go_wp2_with fail
    go_ret
    exact ⟨rfl, HV.out.trans (HA.out.mono (by omega))⟩
  have hneed_eA : exNeed eA ≤ 1048576 := by omega
  have hz1_eA : eA.ks.size ≤ 1048576 := by have := eA.ks.size_need; unfold exNeed at hneed_eA; omega
  have hz2_eA : eA.a.size ≤ 1048576 := by unfold exNeed at hneed_eA; omega
  have hrm_eA : r_eA ≤ 1048576 := by omega
  clear hr_eA
  go_wp2_with fail
  refine (szExpr_any eB _ r_eA w.heap.size _ (HEA_eB.out _ HA.out) (by omega) hr0_eA hrm_eA HOK_eB.out.1.2 HOK_eB.out.2).mono ?_
  rintro en w2 ⟨r_eB, rfl, hr_eB, hb⟩
  clear hz aeA0 aeA1 aeA2 aeB0 aeB1 aeB2 hq_eA hq_eB
  have hs_w2 : w1.heap.size ≤ w2.heap.size := hb.size
  have HA := Lib.hid (HA.out.trans (hb.mono (by omega)))
  clear hb
  obtain ⟨hz, aeA0, aeA1, aeA2, aeB0, aeB1, aeB2⟩ := HK.out _ HA.out
  have hq_eA : w.heap.size < w2.heap.size := by omega
  have hq_eB : w.heap.size + 1 < w2.heap.size := by omega
  rcases hr_eB with hr_eB | ⟨hr0_eB, hr_eB⟩
  · have hneg : r_eB < 0 := by omega
    clear hr_eB
    go_wp2_with fail
    go_ret
    exact ⟨rfl, HV.out.trans (HA.out.mono (by omega))⟩
  have hneed_eB : exNeed eB ≤ 1048576 := by omega
  have hz1_eB : eB.ks.size ≤ 1048576 := by have := eB.ks.size_need; unfold exNeed at hneed_eB; omega
  have hz2_eB : eB.a.size ≤ 1048576 := by unfold exNeed at hneed_eB; omega
  have hrm_eB : r_eB ≤ 1048576 := by omega
  clear hr_eB
  have CS := Lib.hid (fun (v_eA : Value) (v_eB : Value) (B : Nat) (E : World) (hB : B ≤ E.heap.size) (h_eA : eA.At B E v_eA) (h_eB : eB.At B E v_eB) => eR0 ▸ specExprSame_any eA eB v_eA v_eB B E h_eA h_eB hB)
  have CI := Lib.hid (fun (v_eA : Value) (F_eA : List Nat) (v_eB : Value) (F_eB : List Nat) (E : World) (h_eA : eA.Has v_eA F_eA E) (h_eB : eB.Has v_eB F_eB E) => eR0 ▸ exprSame_any eA eB v_eA v_eB F_eA F_eB E h_eA h_eB hz1_eA)
  have CT_eA := Lib.hid (fun (E : World) (hE : Below (w.heap.size + 2) W0 E) => (show Calls Try.prog 9 #[.agg #[.int .i64 eA.op, .string eA.a, .slice p0eA eA.ks.list.length c0eA]] E _ from (fun (hv : eA.At w.heap.size E (.agg #[.int .i64 eA.op, .string eA.a, .slice p0eA eA.ks.list.length c0eA])) (hB : w.heap.size ≤ E.heap.size) => toExpr_any eA _ w.heap.size E hv hB hz1_eA) (HEA_eA.out E hE) (by have := hE.size; omega)))
  have CT_eB := Lib.hid (fun (E : World) (hE : Below (w.heap.size + 2) W0 E) => (show Calls Try.prog 9 #[.agg #[.int .i64 eB.op, .string eB.a, .slice p0eB eB.ks.list.length c0eB]] E _ from (fun (hv : eB.At w.heap.size E (.agg #[.int .i64 eB.op, .string eB.a, .slice p0eB eB.ks.list.length c0eB])) (hB : w.heap.size ≤ E.heap.size) => toExpr_any eB _ w.heap.size E hv hB hz1_eB) (HEA_eB.out E hE) (by have := hE.size; omega)))
  clear eR0 hneed_eA hneed_eB
  have hA0 := HA.out
  have rr0 := Below.refl w2.heap.size w2
  go_upto_region 8 with fail
  go_cut [6] (fun s wx => s = .bool R0 ∧ Below w2.heap.size w2 wx)
  case first =>
    go_region_held3 (fun w' => w'.cell? ⟨w.heap.size, 0, none⟩ = some (.int .i64 eA.op) ∧ w'.cell? ⟨w.heap.size, 1, none⟩ = some (.string eA.a) ∧ w'.cell? ⟨w.heap.size, 2, none⟩ = some (.slice p0eA eA.ks.list.length c0eA) ∧ w'.cell? ⟨w.heap.size + 1, 0, none⟩ = some (.int .i64 eB.op) ∧ w'.cell? ⟨w.heap.size + 1, 1, none⟩ = some (.string eB.a) ∧ w'.cell? ⟨w.heap.size + 1, 2, none⟩ = some (.slice p0eB eB.ks.list.length c0eB))
      (exact (HK.out _ (hA0.trans (Below.mono (show Below w2.heap.size w2 _ by ((repeat (first | with_reducible assumption | with_reducible exact Below.refl _ _ | refine Below.setCell ?_ (by (first | omega | (simp; omega) | (simp; done) | fail "sml")) _ | refine Below.drew ?_ | refine Below.alloc ?_ (by (first | omega | (simp; omega) | (simp; done) | fail "sml")) _)); first | done | fail "chs")) (by omega)))).2)
      (first
        | (go_at_call 9; with_reducible refine (CT_eA.out _ (hA0.trans (Below.mono (show Below w2.heap.size w2 _ by ((repeat (first | with_reducible assumption | with_reducible exact Below.refl _ _ | refine Below.setCell ?_ (by (first | omega | (simp; omega) | (simp; done) | fail "sml")) _ | refine Below.drew ?_ | refine Below.alloc ?_ (by (first | omega | (simp; omega) | (simp; done) | fail "sml")) _)); first | done | fail "chs")) (by omega)))).mono ?_; rintro en wa_eA ⟨va_eA, Fa, rfl, hh, _, hb⟩; have hk_eA := Below.trans (show Below w2.heap.size w2 _ by ((repeat (first | with_reducible assumption | with_reducible exact Below.refl _ _ | refine Below.setCell ?_ (by (first | omega | (simp; omega) | (simp; done) | fail "sml")) _ | refine Below.drew ?_ | refine Below.alloc ?_ (by (first | omega | (simp; omega) | (simp; done) | fail "sml")) _)); first | done | fail "chs")) (hb.mono (by (first | omega | (simp; omega) | (simp; done) | fail "sml"))); have z_eA := hk_eA.size; have raa_eA := Below.refl wa_eA.heap.size wa_eA; (first | (have r_eBeA := Below.trans (show Below wa_eB.heap.size wa_eB _ by ((repeat (first | with_reducible assumption | with_reducible exact Below.refl _ _ | refine Below.setCell ?_ (by (first | omega | (simp; omega) | (simp; done) | fail "sml")) _ | refine Below.drew ?_ | refine Below.alloc ?_ (by (first | omega | (simp; omega) | (simp; done) | fail "sml")) _)); first | done | fail "chs")) (hb.mono (by (first | omega | (simp; omega) | (simp; done) | fail "sml")))) | skip); have HH_eA := Lib.hid (fun X (hX : Below wa_eA.heap.size wa_eA X) => hh.at.to hX hX.size); clear hh hb)
        | (go_at_call 9; with_reducible refine (CT_eB.out _ (hA0.trans (Below.mono (show Below w2.heap.size w2 _ by ((repeat (first | with_reducible assumption | with_reducible exact Below.refl _ _ | refine Below.setCell ?_ (by (first | omega | (simp; omega) | (simp; done) | fail "sml")) _ | refine Below.drew ?_ | refine Below.alloc ?_ (by (first | omega | (simp; omega) | (simp; done) | fail "sml")) _)); first | done | fail "chs")) (by omega)))).mono ?_; rintro en wa_eB ⟨va_eB, Fa, rfl, hh, _, hb⟩; have hk_eB := Below.trans (show Below w2.heap.size w2 _ by ((repeat (first | with_reducible assumption | with_reducible exact Below.refl _ _ | refine Below.setCell ?_ (by (first | omega | (simp; omega) | (simp; done) | fail "sml")) _ | refine Below.drew ?_ | refine Below.alloc ?_ (by (first | omega | (simp; omega) | (simp; done) | fail "sml")) _)); first | done | fail "chs")) (hb.mono (by (first | omega | (simp; omega) | (simp; done) | fail "sml"))); have z_eB := hk_eB.size; have raa_eB := Below.refl wa_eB.heap.size wa_eB; (first | (have r_eAeB := Below.trans (show Below wa_eA.heap.size wa_eA _ by ((repeat (first | with_reducible assumption | with_reducible exact Below.refl _ _ | refine Below.setCell ?_ (by (first | omega | (simp; omega) | (simp; done) | fail "sml")) _ | refine Below.drew ?_ | refine Below.alloc ?_ (by (first | omega | (simp; omega) | (simp; done) | fail "sml")) _)); first | done | fail "chs")) (hb.mono (by (first | omega | (simp; omega) | (simp; done) | fail "sml")))) | skip); have HH_eB := Lib.hid (fun X (hX : Below wa_eB.heap.size wa_eB X) => hh.at.to hX hX.size); clear hh hb)
        | (go_at_call 8; refine (CS.out _ _ _ _ (Nat.le_refl _) (HH_eA.out _ (by ((repeat (first | with_reducible assumption | with_reducible exact Below.refl _ _ | refine Below.setCell ?_ (by (first | omega | (simp; omega) | (simp; done) | fail "sml")) _ | refine Below.drew ?_ | refine Below.alloc ?_ (by (first | omega | (simp; omega) | (simp; done) | fail "sml")) _)); first | done | fail "chs"))) (HH_eB.out _ (by ((repeat (first | with_reducible assumption | with_reducible exact Below.refl _ _ | refine Below.setCell ?_ (by (first | omega | (simp; omega) | (simp; done) | fail "sml")) _ | refine Below.drew ?_ | refine Below.alloc ?_ (by (first | omega | (simp; omega) | (simp; done) | fail "sml")) _)); first | done | fail "chs")))).mono ?_; rintro en wq ⟨rfl, hbq⟩; have hkq := Below.trans (show Below w2.heap.size w2 _ by ((repeat (first | with_reducible assumption | with_reducible exact Below.refl _ _ | refine Below.setCell ?_ (by (first | omega | (simp; omega) | (simp; done) | fail "sml")) _ | refine Below.drew ?_ | refine Below.alloc ?_ (by (first | omega | (simp; omega) | (simp; done) | fail "sml")) _)); first | done | fail "chs")) (hbq.mono (by (first | omega | (simp; omega) | (simp; done) | fail "sml"))); clear hbq))
    all_goals (go_wp2_with fail; go_meet)
    all_goals exact ⟨rfl, by ((repeat (first | with_reducible assumption | with_reducible exact Below.refl _ _ | refine Below.setCell ?_ (by (first | omega | (simp; omega) | (simp; done) | fail "sml")) _ | refine Below.drew ?_ | refine Below.alloc ?_ (by (first | omega | (simp; omega) | (simp; done) | fail "sml")) _)); first | done | fail "chs")⟩
  case rest =>
  obtain ⟨rfl, hbx⟩ := hcut
  clear hz aeA0 aeA1 aeA2 aeB0 aeB1 aeB2 hq_eA hq_eB
  clear hA0 rr0
  obtain ⟨w3, ew⟩ : ∃ u, u = wc := ⟨_, rfl⟩
  subst ew
  have hs_w3 : w2.heap.size ≤ w3.heap.size := hbx.size
  have HA := Lib.hid (HA.out.trans (hbx.mono (by omega)))
  clear hbx
  obtain ⟨hz, aeA0, aeA1, aeA2, aeB0, aeB1, aeB2⟩ := HK.out _ HA.out
  have hq_eA : w.heap.size < w3.heap.size := by omega
  have hq_eB : w.heap.size + 1 < w3.heap.size := by omega
  go_wp2_with fail
  refine (CT_eA.out _ HA.out).mono ?_
  rintro en w4 ⟨vw4, FXeA, rfl, ho, hf, hb⟩
  clear hz aeA0 aeA1 aeA2 aeB0 aeB1 aeB2 hq_eA hq_eB
  have hs_w4 : w3.heap.size ≤ w4.heap.size := hb.size
  have HA := Lib.hid (HA.out.trans (hb.mono (by omega)))
  have HO := Lib.hid ho
  obtain ⟨pXeA, cXeA, rfl⟩ := ho.at.form
  clear ho hf hb
  obtain ⟨hz, aeA0, aeA1, aeA2, aeB0, aeB1, aeB2⟩ := HK.out _ HA.out
  have hq_eA : w.heap.size < w4.heap.size := by omega
  have hq_eB : w.heap.size + 1 < w4.heap.size := by omega
  go_wp2_with fail
  clear hz aeA0 aeA1 aeA2 aeB0 aeB1 aeB2 hq_eA hq_eB
  obtain ⟨W4, eW⟩ : ∃ u, u = w4.alloc (.cells #[.int .i64 eA.op, .string eA.a, .slice pXeA eA.ks.list.length cXeA] 29) := ⟨_, rfl⟩
  rw [← eW]
  have hszW4 : w4.heap.size < W4.heap.size := by rw [eW]; simp
  have hbW : Below w4.heap.size w4 W4 := by rw [eW]; exact (Below.refl _ _).alloc (Nat.le_refl _) _
  have LXeA := Lib.hid (show LocV eA.Has w4.heap.size #[.int .i64 eA.op, .string eA.a, .slice pXeA eA.ks.list.length cXeA] FXeA W4 by rw [eW]; exact LocV.fresh (Ex.goes eA) HO.out)
  have hs_W4 : w4.heap.size ≤ W4.heap.size := hbW.size
  have HA := Lib.hid (HA.out.trans (hbW.mono (by omega)))
  clear hbW eW HO
  refine (CT_eB.out _ HA.out).mono ?_
  rintro en w5 ⟨vw5, FXeB, rfl, ho, hf, hb⟩
  have hs_w5 : W4.heap.size ≤ w5.heap.size := hb.size
  have LXeA := Lib.hid (LXeA.out.below (Ex.goes eA) hb)
  have HA := Lib.hid (HA.out.trans (hb.mono (by omega)))
  have HO := Lib.hid ho
  obtain ⟨pXeB, cXeB, rfl⟩ := ho.at.form
  clear ho hf hb
  obtain ⟨hz, aeA0, aeA1, aeA2, aeB0, aeB1, aeB2⟩ := HK.out _ HA.out
  have hq_eA : w.heap.size < w5.heap.size := by omega
  have hq_eB : w.heap.size + 1 < w5.heap.size := by omega
  obtain ⟨xeAk, xeAc, _⟩ := LXeA.out
  have xeA0 := xeAc 0 _ rfl
  have xeA1 := xeAc 1 _ rfl
  have xeA2 := xeAc 2 _ rfl
  clear xeAc
  go_wp2_with fail
  clear hz aeA0 aeA1 aeA2 aeB0 aeB1 aeB2 hq_eA hq_eB xeAk xeA0 xeA1 xeA2
  obtain ⟨W5, eW⟩ : ∃ u, u = w5.alloc (.cells #[.int .i64 eB.op, .string eB.a, .slice pXeB eB.ks.list.length cXeB] 29) := ⟨_, rfl⟩
  rw [← eW]
  have hszW5 : w5.heap.size < W5.heap.size := by rw [eW]; simp
  have hbW : Below w5.heap.size w5 W5 := by rw [eW]; exact (Below.refl _ _).alloc (Nat.le_refl _) _
  have LXeB := Lib.hid (show LocV eB.Has w5.heap.size #[.int .i64 eB.op, .string eB.a, .slice pXeB eB.ks.list.length cXeB] FXeB W5 by rw [eW]; exact LocV.fresh (Ex.goes eB) HO.out)
  have hs_W5 : w5.heap.size ≤ W5.heap.size := hbW.size
  have LXeA := Lib.hid (LXeA.out.below (Ex.goes eA) hbW)
  have HA := Lib.hid (HA.out.trans (hbW.mono (by omega)))
  clear hbW eW HO
  refine (CI.out _ _ _ _ _ LXeA.out.2.2 LXeB.out.2.2).mono ?_
  rintro en w6 ⟨rfl, hb⟩
  have hs_w6 : W5.heap.size ≤ w6.heap.size := hb.size
  have LXeA := Lib.hid (LXeA.out.below (Ex.goes eA) hb)
  have LXeB := Lib.hid (LXeB.out.below (Ex.goes eB) hb)
  have HA := Lib.hid (HA.out.trans (hb.mono (by omega)))
  clear hb
  obtain ⟨hz, aeA0, aeA1, aeA2, aeB0, aeB1, aeB2⟩ := HK.out _ HA.out
  have hq_eA : w.heap.size < w6.heap.size := by omega
  have hq_eB : w.heap.size + 1 < w6.heap.size := by omega
  obtain ⟨xeAk, xeAc, _⟩ := LXeA.out
  have xeA0 := xeAc 0 _ rfl
  have xeA1 := xeAc 1 _ rfl
  have xeA2 := xeAc 2 _ rfl
  clear xeAc
  obtain ⟨xeBk, xeBc, _⟩ := LXeB.out
  have xeB0 := xeBc 0 _ rfl
  have xeB1 := xeBc 1 _ rfl
  have xeB2 := xeBc 2 _ rfl
  clear xeBc
  have hA0 := HA.out
  have rr0 := Below.refl w6.heap.size w6
  go_upto_region 14 with fail
  go_cut [39] (fun s wx => s = .bool false ∧ Below w6.heap.size w6 wx)
  case first =>
    go_region_held3 (fun w' => w'.cell? ⟨w.heap.size, 0, none⟩ = some (.int .i64 eA.op) ∧ w'.cell? ⟨w.heap.size, 1, none⟩ = some (.string eA.a) ∧ w'.cell? ⟨w.heap.size, 2, none⟩ = some (.slice p0eA eA.ks.list.length c0eA) ∧ w'.cell? ⟨w4.heap.size, 0, none⟩ = some (.int .i64 eA.op) ∧ w'.cell? ⟨w4.heap.size, 1, none⟩ = some (.string eA.a) ∧ w'.cell? ⟨w4.heap.size, 2, none⟩ = some (.slice pXeA eA.ks.list.length cXeA))
      (exact ⟨keepc (show Below w6.heap.size w6 _ by ((repeat (first | with_reducible assumption | with_reducible exact Below.refl _ _ | refine Below.setCell ?_ (by (first | omega | (simp; omega) | (simp; done) | fail "sml")) _ | refine Below.drew ?_ | refine Below.alloc ?_ (by (first | omega | (simp; omega) | (simp; done) | fail "sml")) _)); first | done | fail "chs")) hq_eA aeA0, keepc (show Below w6.heap.size w6 _ by ((repeat (first | with_reducible assumption | with_reducible exact Below.refl _ _ | refine Below.setCell ?_ (by (first | omega | (simp; omega) | (simp; done) | fail "sml")) _ | refine Below.drew ?_ | refine Below.alloc ?_ (by (first | omega | (simp; omega) | (simp; done) | fail "sml")) _)); first | done | fail "chs")) hq_eA aeA1, keepc (show Below w6.heap.size w6 _ by ((repeat (first | with_reducible assumption | with_reducible exact Below.refl _ _ | refine Below.setCell ?_ (by (first | omega | (simp; omega) | (simp; done) | fail "sml")) _ | refine Below.drew ?_ | refine Below.alloc ?_ (by (first | omega | (simp; omega) | (simp; done) | fail "sml")) _)); first | done | fail "chs")) hq_eA aeA2, keepc (show Below w6.heap.size w6 _ by ((repeat (first | with_reducible assumption | with_reducible exact Below.refl _ _ | refine Below.setCell ?_ (by (first | omega | (simp; omega) | (simp; done) | fail "sml")) _ | refine Below.drew ?_ | refine Below.alloc ?_ (by (first | omega | (simp; omega) | (simp; done) | fail "sml")) _)); first | done | fail "chs")) xeAk xeA0, keepc (show Below w6.heap.size w6 _ by ((repeat (first | with_reducible assumption | with_reducible exact Below.refl _ _ | refine Below.setCell ?_ (by (first | omega | (simp; omega) | (simp; done) | fail "sml")) _ | refine Below.drew ?_ | refine Below.alloc ?_ (by (first | omega | (simp; omega) | (simp; done) | fail "sml")) _)); first | done | fail "chs")) xeAk xeA1, keepc (show Below w6.heap.size w6 _ by ((repeat (first | with_reducible assumption | with_reducible exact Below.refl _ _ | refine Below.setCell ?_ (by (first | omega | (simp; omega) | (simp; done) | fail "sml")) _ | refine Below.drew ?_ | refine Below.alloc ?_ (by (first | omega | (simp; omega) | (simp; done) | fail "sml")) _)); first | done | fail "chs")) xeAk xeA2⟩)
      (first
        | (go_at_call 9; refine (CT_eA.out _ (hA0.trans (Below.mono (show Below w6.heap.size w6 _ by ((repeat (first | with_reducible assumption | with_reducible exact Below.refl _ _ | refine Below.setCell ?_ (by (first | omega | (simp; omega) | (simp; done) | fail "sml")) _ | refine Below.drew ?_ | refine Below.alloc ?_ (by (first | omega | (simp; omega) | (simp; done) | fail "sml")) _)); first | done | fail "chs")) (by omega)))).mono ?_; rintro en wa ⟨va, Fa, rfl, hh, _, hb⟩; have hka := Below.trans (show Below w6.heap.size w6 _ by ((repeat (first | with_reducible assumption | with_reducible exact Below.refl _ _ | refine Below.setCell ?_ (by (first | omega | (simp; omega) | (simp; done) | fail "sml")) _ | refine Below.drew ?_ | refine Below.alloc ?_ (by (first | omega | (simp; omega) | (simp; done) | fail "sml")) _)); first | done | fail "chs")) (hb.mono (by (first | omega | (simp; omega) | (simp; done) | fail "sml"))); have za := hka.size; have HHa := Lib.hid hh.at; clear hh hb)
        | (go_at_call 11; refine (eqExpr_any eA _ _ wa.heap.size _ (LXeA.out.2.2.at.to (by ((repeat (first | with_reducible assumption | with_reducible exact Below.refl _ _ | refine Below.setCell ?_ (by (first | omega | (simp; omega) | (simp; done) | fail "sml")) _ | refine Below.drew ?_ | refine Below.alloc ?_ (by (first | omega | (simp; omega) | (simp; done) | fail "sml")) _)); first | done | fail "chs")) (by omega)) (HHa.out.to (by ((repeat (first | with_reducible assumption | with_reducible exact Below.refl _ _ | refine Below.setCell ?_ (by (first | omega | (simp; omega) | (simp; done) | fail "sml")) _ | refine Below.drew ?_ | refine Below.alloc ?_ (by (first | omega | (simp; omega) | (simp; done) | fail "sml")) _)); first | done | fail "chs")) (Nat.le_refl _)) (by (first | omega | (simp; omega) | (simp; done) | fail "sml"))).mono ?_; rintro en wb ⟨rfl, hbb⟩; have hkb := Below.trans (show Below w6.heap.size w6 _ by ((repeat (first | with_reducible assumption | with_reducible exact Below.refl _ _ | refine Below.setCell ?_ (by (first | omega | (simp; omega) | (simp; done) | fail "sml")) _ | refine Below.drew ?_ | refine Below.alloc ?_ (by (first | omega | (simp; omega) | (simp; done) | fail "sml")) _)); first | done | fail "chs")) (hbb.mono (by first | omega | (simp; omega))); clear hbb))
    all_goals (go_wp2_with fail; go_meet)
    all_goals exact ⟨rfl, by ((repeat (first | with_reducible assumption | with_reducible exact Below.refl _ _ | refine Below.setCell ?_ (by (first | omega | (simp; omega) | (simp; done) | fail "sml")) _ | refine Below.drew ?_ | refine Below.alloc ?_ (by (first | omega | (simp; omega) | (simp; done) | fail "sml")) _)); first | done | fail "chs")⟩
  case rest =>
  obtain ⟨rfl, hbx⟩ := hcut
  clear hz aeA0 aeA1 aeA2 aeB0 aeB1 aeB2 hq_eA hq_eB xeAk xeA0 xeA1 xeA2 xeBk xeB0 xeB1 xeB2
  clear hA0 rr0
  obtain ⟨w7, ew⟩ : ∃ u, u = wc := ⟨_, rfl⟩
  subst ew
  have hs_w7 : w6.heap.size ≤ w7.heap.size := hbx.size
  have LXeA := Lib.hid (LXeA.out.below (Ex.goes eA) hbx)
  have LXeB := Lib.hid (LXeB.out.below (Ex.goes eB) hbx)
  have HA := Lib.hid (HA.out.trans (hbx.mono (by omega)))
  clear hbx
  obtain ⟨hz, aeA0, aeA1, aeA2, aeB0, aeB1, aeB2⟩ := HK.out _ HA.out
  have hq_eA : w.heap.size < w7.heap.size := by omega
  have hq_eB : w.heap.size + 1 < w7.heap.size := by omega
  obtain ⟨xeAk, xeAc, _⟩ := LXeA.out
  have xeA0 := xeAc 0 _ rfl
  have xeA1 := xeAc 1 _ rfl
  have xeA2 := xeAc 2 _ rfl
  clear xeAc
  obtain ⟨xeBk, xeBc, _⟩ := LXeB.out
  have xeB0 := xeBc 0 _ rfl
  have xeB1 := xeBc 1 _ rfl
  have xeB2 := xeBc 2 _ rfl
  clear xeBc
  have hA0 := HA.out
  have rr0 := Below.refl w7.heap.size w7
  go_upto_region 16 with fail
  go_cut [44] (fun s wx => s = .bool false ∧ Below w7.heap.size w7 wx)
  case first =>
    go_region_held3 (fun w' => w'.cell? ⟨w.heap.size + 1, 0, none⟩ = some (.int .i64 eB.op) ∧ w'.cell? ⟨w.heap.size + 1, 1, none⟩ = some (.string eB.a) ∧ w'.cell? ⟨w.heap.size + 1, 2, none⟩ = some (.slice p0eB eB.ks.list.length c0eB) ∧ w'.cell? ⟨w5.heap.size, 0, none⟩ = some (.int .i64 eB.op) ∧ w'.cell? ⟨w5.heap.size, 1, none⟩ = some (.string eB.a) ∧ w'.cell? ⟨w5.heap.size, 2, none⟩ = some (.slice pXeB eB.ks.list.length cXeB))
      (exact ⟨keepc (show Below w7.heap.size w7 _ by ((repeat (first | with_reducible assumption | with_reducible exact Below.refl _ _ | refine Below.setCell ?_ (by (first | omega | (simp; omega) | (simp; done) | fail "sml")) _ | refine Below.drew ?_ | refine Below.alloc ?_ (by (first | omega | (simp; omega) | (simp; done) | fail "sml")) _)); first | done | fail "chs")) hq_eB aeB0, keepc (show Below w7.heap.size w7 _ by ((repeat (first | with_reducible assumption | with_reducible exact Below.refl _ _ | refine Below.setCell ?_ (by (first | omega | (simp; omega) | (simp; done) | fail "sml")) _ | refine Below.drew ?_ | refine Below.alloc ?_ (by (first | omega | (simp; omega) | (simp; done) | fail "sml")) _)); first | done | fail "chs")) hq_eB aeB1, keepc (show Below w7.heap.size w7 _ by ((repeat (first | with_reducible assumption | with_reducible exact Below.refl _ _ | refine Below.setCell ?_ (by (first | omega | (simp; omega) | (simp; done) | fail "sml")) _ | refine Below.drew ?_ | refine Below.alloc ?_ (by (first | omega | (simp; omega) | (simp; done) | fail "sml")) _)); first | done | fail "chs")) hq_eB aeB2, keepc (show Below w7.heap.size w7 _ by ((repeat (first | with_reducible assumption | with_reducible exact Below.refl _ _ | refine Below.setCell ?_ (by (first | omega | (simp; omega) | (simp; done) | fail "sml")) _ | refine Below.drew ?_ | refine Below.alloc ?_ (by (first | omega | (simp; omega) | (simp; done) | fail "sml")) _)); first | done | fail "chs")) xeBk xeB0, keepc (show Below w7.heap.size w7 _ by ((repeat (first | with_reducible assumption | with_reducible exact Below.refl _ _ | refine Below.setCell ?_ (by (first | omega | (simp; omega) | (simp; done) | fail "sml")) _ | refine Below.drew ?_ | refine Below.alloc ?_ (by (first | omega | (simp; omega) | (simp; done) | fail "sml")) _)); first | done | fail "chs")) xeBk xeB1, keepc (show Below w7.heap.size w7 _ by ((repeat (first | with_reducible assumption | with_reducible exact Below.refl _ _ | refine Below.setCell ?_ (by (first | omega | (simp; omega) | (simp; done) | fail "sml")) _ | refine Below.drew ?_ | refine Below.alloc ?_ (by (first | omega | (simp; omega) | (simp; done) | fail "sml")) _)); first | done | fail "chs")) xeBk xeB2⟩)
      (first
        | (go_at_call 9; refine (CT_eB.out _ (hA0.trans (Below.mono (show Below w7.heap.size w7 _ by ((repeat (first | with_reducible assumption | with_reducible exact Below.refl _ _ | refine Below.setCell ?_ (by (first | omega | (simp; omega) | (simp; done) | fail "sml")) _ | refine Below.drew ?_ | refine Below.alloc ?_ (by (first | omega | (simp; omega) | (simp; done) | fail "sml")) _)); first | done | fail "chs")) (by omega)))).mono ?_; rintro en wa ⟨va, Fa, rfl, hh, _, hb⟩; have hka := Below.trans (show Below w7.heap.size w7 _ by ((repeat (first | with_reducible assumption | with_reducible exact Below.refl _ _ | refine Below.setCell ?_ (by (first | omega | (simp; omega) | (simp; done) | fail "sml")) _ | refine Below.drew ?_ | refine Below.alloc ?_ (by (first | omega | (simp; omega) | (simp; done) | fail "sml")) _)); first | done | fail "chs")) (hb.mono (by (first | omega | (simp; omega) | (simp; done) | fail "sml"))); have za := hka.size; have HHa := Lib.hid hh.at; clear hh hb)
        | (go_at_call 11; refine (eqExpr_any eB _ _ wa.heap.size _ (LXeB.out.2.2.at.to (by ((repeat (first | with_reducible assumption | with_reducible exact Below.refl _ _ | refine Below.setCell ?_ (by (first | omega | (simp; omega) | (simp; done) | fail "sml")) _ | refine Below.drew ?_ | refine Below.alloc ?_ (by (first | omega | (simp; omega) | (simp; done) | fail "sml")) _)); first | done | fail "chs")) (by omega)) (HHa.out.to (by ((repeat (first | with_reducible assumption | with_reducible exact Below.refl _ _ | refine Below.setCell ?_ (by (first | omega | (simp; omega) | (simp; done) | fail "sml")) _ | refine Below.drew ?_ | refine Below.alloc ?_ (by (first | omega | (simp; omega) | (simp; done) | fail "sml")) _)); first | done | fail "chs")) (Nat.le_refl _)) (by (first | omega | (simp; omega) | (simp; done) | fail "sml"))).mono ?_; rintro en wb ⟨rfl, hbb⟩; have hkb := Below.trans (show Below w7.heap.size w7 _ by ((repeat (first | with_reducible assumption | with_reducible exact Below.refl _ _ | refine Below.setCell ?_ (by (first | omega | (simp; omega) | (simp; done) | fail "sml")) _ | refine Below.drew ?_ | refine Below.alloc ?_ (by (first | omega | (simp; omega) | (simp; done) | fail "sml")) _)); first | done | fail "chs")) (hbb.mono (by first | omega | (simp; omega))); clear hbb))
    all_goals (go_wp2_with fail; go_meet)
    all_goals exact ⟨rfl, by ((repeat (first | with_reducible assumption | with_reducible exact Below.refl _ _ | refine Below.setCell ?_ (by (first | omega | (simp; omega) | (simp; done) | fail "sml")) _ | refine Below.drew ?_ | refine Below.alloc ?_ (by (first | omega | (simp; omega) | (simp; done) | fail "sml")) _)); first | done | fail "chs")⟩
  case rest =>
  obtain ⟨rfl, hbx⟩ := hcut
  clear hz aeA0 aeA1 aeA2 aeB0 aeB1 aeB2 hq_eA hq_eB xeAk xeA0 xeA1 xeA2 xeBk xeB0 xeB1 xeB2
  clear hA0 rr0
  obtain ⟨w8, ew⟩ : ∃ u, u = wc := ⟨_, rfl⟩
  subst ew
  have hs_w8 : w7.heap.size ≤ w8.heap.size := hbx.size
  have LXeA := Lib.hid (LXeA.out.below (Ex.goes eA) hbx)
  have LXeB := Lib.hid (LXeB.out.below (Ex.goes eB) hbx)
  have HA := Lib.hid (HA.out.trans (hbx.mono (by omega)))
  clear hbx
  obtain ⟨hz, aeA0, aeA1, aeA2, aeB0, aeB1, aeB2⟩ := HK.out _ HA.out
  have hq_eA : w.heap.size < w8.heap.size := by omega
  have hq_eB : w.heap.size + 1 < w8.heap.size := by omega
  obtain ⟨xeAk, xeAc, _⟩ := LXeA.out
  have xeA0 := xeAc 0 _ rfl
  have xeA1 := xeAc 1 _ rfl
  have xeA2 := xeAc 2 _ rfl
  clear xeAc
  obtain ⟨xeBk, xeBc, _⟩ := LXeB.out
  have xeB0 := xeBc 0 _ rfl
  have xeB1 := xeBc 1 _ rfl
  have xeB2 := xeBc 2 _ rfl
  clear xeBc
  go_wp2_with fail
  go_ret
  exact ⟨rfl, HV.out.trans (HA.out.mono (by omega))⟩
end Go.Proofs.Ytlplbfbbdjaklaa
