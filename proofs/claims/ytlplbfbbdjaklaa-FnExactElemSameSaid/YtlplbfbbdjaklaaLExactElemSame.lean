/- The walk of FnExactElemSame. -/
import Derived.Test.YtlplbfbbdjaklaaSElSame
import Derived.Test.YtlplbfbbdjaklaaElSame
import Derived.Test.YtlplbfbbdjaklaaKindsP
import Derived.Deep.RegionHeld3
import Derived.Deep.DeepCutAuto
namespace Go.Proofs.Ytlplbfbbdjaklaa
open Go.RowKit

set_option maxRecDepth 100000 in
set_option maxHeartbeats 16000000 in
theorem lawExactElemSame (eA : El) (eB : El) (v_eA : Value) (v_eB : Value) (w : World) (h_eA : eA.At w.heap.size w v_eA) (h_eB : eB.At w.heap.size w v_eB) (hok_eA : eA.Ok) (hok_eB : eB.Ok) :
    Calls Try.prog 5 #[v_eA, v_eB] w fun en w' => en = .returned (.bool true) ∧ Below w.heap.size w w' := by
  have HE_eA := Lib.hid h_eA
  have HOK_eA := Lib.hid hok_eA
  have HE_eB := Lib.hid h_eB
  have HOK_eB := Lib.hid hok_eB
  obtain ⟨p0eA, c0eA, q0eA, d0eA, rfl, _, _⟩ := h_eA.form
  obtain ⟨p0eB, c0eB, q0eB, d0eB, rfl, _, _⟩ := h_eB.form
  clear h_eA hok_eA h_eB hok_eB
  obtain ⟨R0, eR0⟩ : ∃ R0 : Bool, R0 = elEq eA eB := ⟨_, rfl⟩
  obtain ⟨W0, eW⟩ : ∃ W0, W0 = ((w.alloc (.cells #[.bool eA.n, .string eA.v, .int .i64 eA.l.op, .string eA.l.a, .slice p0eA eA.l.ks.list.length c0eA, .int .i64 eA.c.op, .string eA.c.a, .slice q0eA eA.c.ks.list.length d0eA, .int .i64 eA.d] 39)).alloc (.cells #[.bool eB.n, .string eB.v, .int .i64 eB.l.op, .string eB.l.a, .slice p0eB eB.l.ks.list.length c0eB, .int .i64 eB.c.op, .string eB.c.a, .slice q0eB eB.c.ks.list.length d0eB, .int .i64 eB.d] 39)) := ⟨_, rfl⟩
  have HV := Lib.hid (show Below w.heap.size w W0 by rw [eW]; exact ((Below.refl w.heap.size w).alloc (by simp) _).alloc (by simp) _)
  have HK := Lib.hid (show ∀ wk, Below (w.heap.size + 2) W0 wk → w.heap.size + 2 ≤ wk.heap.size ∧ wk.cell? ⟨w.heap.size, 0, none⟩ = some (.bool eA.n) ∧ wk.cell? ⟨w.heap.size, 1, none⟩ = some (.string eA.v) ∧ wk.cell? ⟨w.heap.size, 2, none⟩ = some (.int .i64 eA.l.op) ∧ wk.cell? ⟨w.heap.size, 3, none⟩ = some (.string eA.l.a) ∧ wk.cell? ⟨w.heap.size, 4, none⟩ = some (.slice p0eA eA.l.ks.list.length c0eA) ∧ wk.cell? ⟨w.heap.size, 5, none⟩ = some (.int .i64 eA.c.op) ∧ wk.cell? ⟨w.heap.size, 6, none⟩ = some (.string eA.c.a) ∧ wk.cell? ⟨w.heap.size, 7, none⟩ = some (.slice q0eA eA.c.ks.list.length d0eA) ∧ wk.cell? ⟨w.heap.size, 8, none⟩ = some (.int .i64 eA.d) ∧ wk.cell? ⟨w.heap.size + 1, 0, none⟩ = some (.bool eB.n) ∧ wk.cell? ⟨w.heap.size + 1, 1, none⟩ = some (.string eB.v) ∧ wk.cell? ⟨w.heap.size + 1, 2, none⟩ = some (.int .i64 eB.l.op) ∧ wk.cell? ⟨w.heap.size + 1, 3, none⟩ = some (.string eB.l.a) ∧ wk.cell? ⟨w.heap.size + 1, 4, none⟩ = some (.slice p0eB eB.l.ks.list.length c0eB) ∧ wk.cell? ⟨w.heap.size + 1, 5, none⟩ = some (.int .i64 eB.c.op) ∧ wk.cell? ⟨w.heap.size + 1, 6, none⟩ = some (.string eB.c.a) ∧ wk.cell? ⟨w.heap.size + 1, 7, none⟩ = some (.slice q0eB eB.c.ks.list.length d0eB) ∧ wk.cell? ⟨w.heap.size + 1, 8, none⟩ = some (.int .i64 eB.d) from
    fun wk hk => by rw [eW] at hk; exact ⟨by have := hk.size; simp at this; omega, keepc hk (by omega) (by simp [go_sem]), keepc hk (by omega) (by simp [go_sem]), keepc hk (by omega) (by simp [go_sem]), keepc hk (by omega) (by simp [go_sem]), keepc hk (by omega) (by simp [go_sem]), keepc hk (by omega) (by simp [go_sem]), keepc hk (by omega) (by simp [go_sem]), keepc hk (by omega) (by simp [go_sem]), keepc hk (by omega) (by simp [go_sem]), keepc hk (by omega) (by simp [go_sem]), keepc hk (by omega) (by simp [go_sem]), keepc hk (by omega) (by simp [go_sem]), keepc hk (by omega) (by simp [go_sem]), keepc hk (by omega) (by simp [go_sem]), keepc hk (by omega) (by simp [go_sem]), keepc hk (by omega) (by simp [go_sem]), keepc hk (by omega) (by simp [go_sem]), keepc hk (by omega) (by simp [go_sem])⟩)
  have hs0 : w.heap.size + 2 ≤ W0.heap.size := by rw [eW]; simp
  have HA := Lib.hid (Below.refl (w.heap.size + 2) W0)
  have HEA_eA := Lib.hid (show ∀ wk, Below (w.heap.size + 2) W0 wk → eA.At w.heap.size wk (.agg #[.bool eA.n, .string eA.v, .int .i64 eA.l.op, .string eA.l.a, .slice p0eA eA.l.ks.list.length c0eA, .int .i64 eA.c.op, .string eA.c.a, .slice q0eA eA.c.ks.list.length d0eA, .int .i64 eA.d]) from fun wk hk => HE_eA.out.to (HV.out.trans (hk.mono (by omega))) (Nat.le_refl _))
  have HEA_eB := Lib.hid (show ∀ wk, Below (w.heap.size + 2) W0 wk → eB.At w.heap.size wk (.agg #[.bool eB.n, .string eB.v, .int .i64 eB.l.op, .string eB.l.a, .slice p0eB eB.l.ks.list.length c0eB, .int .i64 eB.c.op, .string eB.c.a, .slice q0eB eB.c.ks.list.length d0eB, .int .i64 eB.d]) from fun wk hk => HE_eB.out.to (HV.out.trans (hk.mono (by omega))) (Nat.le_refl _))
  have EW := Lib.hid eW
  clear eW HE_eA HE_eB
  go_enter Try.func5, Try.ntmps5
  go_wp2_with fail
  rw [← EW.out]
  refine (szElem_any eA _ 1048576 w.heap.size _ (HEA_eA.out _ HA.out) (by omega) (by omega) (by omega) HOK_eA.out).mono ?_
  rintro en w1 ⟨r_eA, rfl, hr_eA, hb⟩
  have hs_w1 : W0.heap.size ≤ w1.heap.size := hb.size
  have HA := Lib.hid (HA.out.trans (hb.mono (by omega)))
  clear hb
  obtain ⟨hz, aeA0, aeA1, aeA2, aeA3, aeA4, aeA5, aeA6, aeA7, aeA8, aeB0, aeB1, aeB2, aeB3, aeB4, aeB5, aeB6, aeB7, aeB8⟩ := HK.out _ HA.out
  have hq_eA : w.heap.size < w1.heap.size := by omega
  have hq_eB : w.heap.size + 1 < w1.heap.size := by omega
  rcases hr_eA with hr_eA | ⟨hr0_eA, hr_eA⟩
  · have hneg : r_eA < 0 := by omega
    clear hr_eA
    go_wp2_with fail
    go_ret
    exact ⟨rfl, HV.out.trans (HA.out.mono (by omega))⟩
  have hneed_eA : elNeed eA ≤ 1048576 := by omega
  have hz1_eA := (El.sm_need hneed_eA).2.2.1
  have hz2_eA := (El.sm_need hneed_eA).2.2.2.2.1
  have hrm_eA : r_eA ≤ 1048576 := by omega
  clear hr_eA
  go_wp2_with fail
  refine (szElem_any eB _ r_eA w.heap.size _ (HEA_eB.out _ HA.out) (by omega) hr0_eA hrm_eA HOK_eB.out).mono ?_
  rintro en w2 ⟨r_eB, rfl, hr_eB, hb⟩
  clear hz aeA0 aeA1 aeA2 aeA3 aeA4 aeA5 aeA6 aeA7 aeA8 aeB0 aeB1 aeB2 aeB3 aeB4 aeB5 aeB6 aeB7 aeB8 hq_eA hq_eB
  have hs_w2 : w1.heap.size ≤ w2.heap.size := hb.size
  have HA := Lib.hid (HA.out.trans (hb.mono (by omega)))
  clear hb
  obtain ⟨hz, aeA0, aeA1, aeA2, aeA3, aeA4, aeA5, aeA6, aeA7, aeA8, aeB0, aeB1, aeB2, aeB3, aeB4, aeB5, aeB6, aeB7, aeB8⟩ := HK.out _ HA.out
  have hq_eA : w.heap.size < w2.heap.size := by omega
  have hq_eB : w.heap.size + 1 < w2.heap.size := by omega
  rcases hr_eB with hr_eB | ⟨hr0_eB, hr_eB⟩
  · have hneg : r_eB < 0 := by omega
    clear hr_eB
    go_wp2_with fail
    go_ret
    exact ⟨rfl, HV.out.trans (HA.out.mono (by omega))⟩
  have hneed_eB : elNeed eB ≤ 1048576 := by omega
  have hz1_eB := (El.sm_need hneed_eB).2.2.1
  have hz2_eB := (El.sm_need hneed_eB).2.2.2.2.1
  have hrm_eB : r_eB ≤ 1048576 := by omega
  clear hr_eB
  have CS := Lib.hid (fun (v_eA : Value) (v_eB : Value) (B : Nat) (E : World) (hB : B ≤ E.heap.size) (h_eA : eA.At B E v_eA) (h_eB : eB.At B E v_eB) => eR0 ▸ specElemSame_any eA eB v_eA v_eB B E h_eA h_eB hB)
  have CI := Lib.hid (fun (v_eA : Value) (F_eA : List Nat) (v_eB : Value) (F_eB : List Nat) (E : World) (h_eA : eA.Has v_eA F_eA E) (h_eB : eB.Has v_eB F_eB E) => eR0 ▸ elemSame_any eA eB v_eA v_eB F_eA F_eB E h_eA h_eB hz1_eA hz2_eA)
  have CT_eA := Lib.hid (fun (E : World) (hE : Below (w.heap.size + 2) W0 E) => (show Calls Try.prog 20 #[.agg #[.bool eA.n, .string eA.v, .int .i64 eA.l.op, .string eA.l.a, .slice p0eA eA.l.ks.list.length c0eA, .int .i64 eA.c.op, .string eA.c.a, .slice q0eA eA.c.ks.list.length d0eA, .int .i64 eA.d]] E _ from (fun (hv : eA.At w.heap.size E (.agg #[.bool eA.n, .string eA.v, .int .i64 eA.l.op, .string eA.l.a, .slice p0eA eA.l.ks.list.length c0eA, .int .i64 eA.c.op, .string eA.c.a, .slice q0eA eA.c.ks.list.length d0eA, .int .i64 eA.d])) (hB : w.heap.size ≤ E.heap.size) => toElem_any eA _ w.heap.size E hv hB hz1_eA hz2_eA) (HEA_eA.out E hE) (by have := hE.size; omega)))
  have CT_eB := Lib.hid (fun (E : World) (hE : Below (w.heap.size + 2) W0 E) => (show Calls Try.prog 20 #[.agg #[.bool eB.n, .string eB.v, .int .i64 eB.l.op, .string eB.l.a, .slice p0eB eB.l.ks.list.length c0eB, .int .i64 eB.c.op, .string eB.c.a, .slice q0eB eB.c.ks.list.length d0eB, .int .i64 eB.d]] E _ from (fun (hv : eB.At w.heap.size E (.agg #[.bool eB.n, .string eB.v, .int .i64 eB.l.op, .string eB.l.a, .slice p0eB eB.l.ks.list.length c0eB, .int .i64 eB.c.op, .string eB.c.a, .slice q0eB eB.c.ks.list.length d0eB, .int .i64 eB.d])) (hB : w.heap.size ≤ E.heap.size) => toElem_any eB _ w.heap.size E hv hB hz1_eB hz2_eB) (HEA_eB.out E hE) (by have := hE.size; omega)))
  clear eR0 hneed_eA hneed_eB
  have hA0 := HA.out
  have rr0 := Below.refl w2.heap.size w2
  go_upto_region 8 with fail
  go_cut [6] (fun s wx => s = .bool R0 ∧ Below w2.heap.size w2 wx)
  case first =>
    go_region_held3 (fun w' => w'.cell? ⟨w.heap.size, 0, none⟩ = some (.bool eA.n) ∧ w'.cell? ⟨w.heap.size, 1, none⟩ = some (.string eA.v) ∧ w'.cell? ⟨w.heap.size, 2, none⟩ = some (.int .i64 eA.l.op) ∧ w'.cell? ⟨w.heap.size, 3, none⟩ = some (.string eA.l.a) ∧ w'.cell? ⟨w.heap.size, 4, none⟩ = some (.slice p0eA eA.l.ks.list.length c0eA) ∧ w'.cell? ⟨w.heap.size, 5, none⟩ = some (.int .i64 eA.c.op) ∧ w'.cell? ⟨w.heap.size, 6, none⟩ = some (.string eA.c.a) ∧ w'.cell? ⟨w.heap.size, 7, none⟩ = some (.slice q0eA eA.c.ks.list.length d0eA) ∧ w'.cell? ⟨w.heap.size, 8, none⟩ = some (.int .i64 eA.d) ∧ w'.cell? ⟨w.heap.size + 1, 0, none⟩ = some (.bool eB.n) ∧ w'.cell? ⟨w.heap.size + 1, 1, none⟩ = some (.string eB.v) ∧ w'.cell? ⟨w.heap.size + 1, 2, none⟩ = some (.int .i64 eB.l.op) ∧ w'.cell? ⟨w.heap.size + 1, 3, none⟩ = some (.string eB.l.a) ∧ w'.cell? ⟨w.heap.size + 1, 4, none⟩ = some (.slice p0eB eB.l.ks.list.length c0eB) ∧ w'.cell? ⟨w.heap.size + 1, 5, none⟩ = some (.int .i64 eB.c.op) ∧ w'.cell? ⟨w.heap.size + 1, 6, none⟩ = some (.string eB.c.a) ∧ w'.cell? ⟨w.heap.size + 1, 7, none⟩ = some (.slice q0eB eB.c.ks.list.length d0eB) ∧ w'.cell? ⟨w.heap.size + 1, 8, none⟩ = some (.int .i64 eB.d))
      (exact (HK.out _ (hA0.trans (Below.mono (show Below w2.heap.size w2 _ by ((repeat (first | with_reducible assumption | with_reducible exact Below.refl _ _ | refine Below.setCell ?_ (by (first | omega | (simp; omega) | (simp; done) | fail "sml")) _ | refine Below.drew ?_ | refine Below.alloc ?_ (by (first | omega | (simp; omega) | (simp; done) | fail "sml")) _)); first | done | fail "chs")) (by omega)))).2)
      (first
        | (go_at_call 20; with_reducible refine (CT_eA.out _ (hA0.trans (Below.mono (show Below w2.heap.size w2 _ by ((repeat (first | with_reducible assumption | with_reducible exact Below.refl _ _ | refine Below.setCell ?_ (by (first | omega | (simp; omega) | (simp; done) | fail "sml")) _ | refine Below.drew ?_ | refine Below.alloc ?_ (by (first | omega | (simp; omega) | (simp; done) | fail "sml")) _)); first | done | fail "chs")) (by omega)))).mono ?_; rintro en wa_eA ⟨va_eA, Fa, rfl, hh, _, hb⟩; have hk_eA := Below.trans (show Below w2.heap.size w2 _ by ((repeat (first | with_reducible assumption | with_reducible exact Below.refl _ _ | refine Below.setCell ?_ (by (first | omega | (simp; omega) | (simp; done) | fail "sml")) _ | refine Below.drew ?_ | refine Below.alloc ?_ (by (first | omega | (simp; omega) | (simp; done) | fail "sml")) _)); first | done | fail "chs")) (hb.mono (by (first | omega | (simp; omega) | (simp; done) | fail "sml"))); have z_eA := hk_eA.size; have raa_eA := Below.refl wa_eA.heap.size wa_eA; (first | (have r_eBeA := Below.trans (show Below wa_eB.heap.size wa_eB _ by ((repeat (first | with_reducible assumption | with_reducible exact Below.refl _ _ | refine Below.setCell ?_ (by (first | omega | (simp; omega) | (simp; done) | fail "sml")) _ | refine Below.drew ?_ | refine Below.alloc ?_ (by (first | omega | (simp; omega) | (simp; done) | fail "sml")) _)); first | done | fail "chs")) (hb.mono (by (first | omega | (simp; omega) | (simp; done) | fail "sml")))) | skip); have HH_eA := Lib.hid (fun X (hX : Below wa_eA.heap.size wa_eA X) => hh.at.to hX hX.size); clear hh hb)
        | (go_at_call 20; with_reducible refine (CT_eB.out _ (hA0.trans (Below.mono (show Below w2.heap.size w2 _ by ((repeat (first | with_reducible assumption | with_reducible exact Below.refl _ _ | refine Below.setCell ?_ (by (first | omega | (simp; omega) | (simp; done) | fail "sml")) _ | refine Below.drew ?_ | refine Below.alloc ?_ (by (first | omega | (simp; omega) | (simp; done) | fail "sml")) _)); first | done | fail "chs")) (by omega)))).mono ?_; rintro en wa_eB ⟨va_eB, Fa, rfl, hh, _, hb⟩; have hk_eB := Below.trans (show Below w2.heap.size w2 _ by ((repeat (first | with_reducible assumption | with_reducible exact Below.refl _ _ | refine Below.setCell ?_ (by (first | omega | (simp; omega) | (simp; done) | fail "sml")) _ | refine Below.drew ?_ | refine Below.alloc ?_ (by (first | omega | (simp; omega) | (simp; done) | fail "sml")) _)); first | done | fail "chs")) (hb.mono (by (first | omega | (simp; omega) | (simp; done) | fail "sml"))); have z_eB := hk_eB.size; have raa_eB := Below.refl wa_eB.heap.size wa_eB; (first | (have r_eAeB := Below.trans (show Below wa_eA.heap.size wa_eA _ by ((repeat (first | with_reducible assumption | with_reducible exact Below.refl _ _ | refine Below.setCell ?_ (by (first | omega | (simp; omega) | (simp; done) | fail "sml")) _ | refine Below.drew ?_ | refine Below.alloc ?_ (by (first | omega | (simp; omega) | (simp; done) | fail "sml")) _)); first | done | fail "chs")) (hb.mono (by (first | omega | (simp; omega) | (simp; done) | fail "sml")))) | skip); have HH_eB := Lib.hid (fun X (hX : Below wa_eB.heap.size wa_eB X) => hh.at.to hX hX.size); clear hh hb)
        | (go_at_call 19; refine (CS.out _ _ _ _ (Nat.le_refl _) (HH_eA.out _ (by ((repeat (first | with_reducible assumption | with_reducible exact Below.refl _ _ | refine Below.setCell ?_ (by (first | omega | (simp; omega) | (simp; done) | fail "sml")) _ | refine Below.drew ?_ | refine Below.alloc ?_ (by (first | omega | (simp; omega) | (simp; done) | fail "sml")) _)); first | done | fail "chs"))) (HH_eB.out _ (by ((repeat (first | with_reducible assumption | with_reducible exact Below.refl _ _ | refine Below.setCell ?_ (by (first | omega | (simp; omega) | (simp; done) | fail "sml")) _ | refine Below.drew ?_ | refine Below.alloc ?_ (by (first | omega | (simp; omega) | (simp; done) | fail "sml")) _)); first | done | fail "chs")))).mono ?_; rintro en wq ⟨rfl, hbq⟩; have hkq := Below.trans (show Below w2.heap.size w2 _ by ((repeat (first | with_reducible assumption | with_reducible exact Below.refl _ _ | refine Below.setCell ?_ (by (first | omega | (simp; omega) | (simp; done) | fail "sml")) _ | refine Below.drew ?_ | refine Below.alloc ?_ (by (first | omega | (simp; omega) | (simp; done) | fail "sml")) _)); first | done | fail "chs")) (hbq.mono (by (first | omega | (simp; omega) | (simp; done) | fail "sml"))); clear hbq))
    all_goals (go_wp2_with fail; go_meet)
    all_goals exact ⟨rfl, by ((repeat (first | with_reducible assumption | with_reducible exact Below.refl _ _ | refine Below.setCell ?_ (by (first | omega | (simp; omega) | (simp; done) | fail "sml")) _ | refine Below.drew ?_ | refine Below.alloc ?_ (by (first | omega | (simp; omega) | (simp; done) | fail "sml")) _)); first | done | fail "chs")⟩
  case rest =>
  obtain ⟨rfl, hbx⟩ := hcut
  clear hz aeA0 aeA1 aeA2 aeA3 aeA4 aeA5 aeA6 aeA7 aeA8 aeB0 aeB1 aeB2 aeB3 aeB4 aeB5 aeB6 aeB7 aeB8 hq_eA hq_eB
  clear hA0 rr0
  obtain ⟨w3, ew⟩ : ∃ u, u = wc := ⟨_, rfl⟩
  subst ew
  have hs_w3 : w2.heap.size ≤ w3.heap.size := hbx.size
  have HA := Lib.hid (HA.out.trans (hbx.mono (by omega)))
  clear hbx
  obtain ⟨hz, aeA0, aeA1, aeA2, aeA3, aeA4, aeA5, aeA6, aeA7, aeA8, aeB0, aeB1, aeB2, aeB3, aeB4, aeB5, aeB6, aeB7, aeB8⟩ := HK.out _ HA.out
  have hq_eA : w.heap.size < w3.heap.size := by omega
  have hq_eB : w.heap.size + 1 < w3.heap.size := by omega
  go_wp2_with fail
  refine (CT_eA.out _ HA.out).mono ?_
  rintro en w4 ⟨vw4, FXeA, rfl, ho, hf, hb⟩
  clear hz aeA0 aeA1 aeA2 aeA3 aeA4 aeA5 aeA6 aeA7 aeA8 aeB0 aeB1 aeB2 aeB3 aeB4 aeB5 aeB6 aeB7 aeB8 hq_eA hq_eB
  have hs_w4 : w3.heap.size ≤ w4.heap.size := hb.size
  have HA := Lib.hid (HA.out.trans (hb.mono (by omega)))
  have HO := Lib.hid ho
  obtain ⟨pXeA, cXeA, qXeA, dXeA, rfl, _, _⟩ := ho.at.form
  clear ho hf hb
  obtain ⟨hz, aeA0, aeA1, aeA2, aeA3, aeA4, aeA5, aeA6, aeA7, aeA8, aeB0, aeB1, aeB2, aeB3, aeB4, aeB5, aeB6, aeB7, aeB8⟩ := HK.out _ HA.out
  have hq_eA : w.heap.size < w4.heap.size := by omega
  have hq_eB : w.heap.size + 1 < w4.heap.size := by omega
  go_wp2_with fail
  clear hz aeA0 aeA1 aeA2 aeA3 aeA4 aeA5 aeA6 aeA7 aeA8 aeB0 aeB1 aeB2 aeB3 aeB4 aeB5 aeB6 aeB7 aeB8 hq_eA hq_eB
  obtain ⟨W4, eW⟩ : ∃ u, u = w4.alloc (.cells #[.bool eA.n, .string eA.v, .int .i64 eA.l.op, .string eA.l.a, .slice pXeA eA.l.ks.list.length cXeA, .int .i64 eA.c.op, .string eA.c.a, .slice qXeA eA.c.ks.list.length dXeA, .int .i64 eA.d] 43) := ⟨_, rfl⟩
  rw [← eW]
  have hszW4 : w4.heap.size < W4.heap.size := by rw [eW]; simp
  have hbW : Below w4.heap.size w4 W4 := by rw [eW]; exact (Below.refl _ _).alloc (Nat.le_refl _) _
  have LXeA := Lib.hid (show LocV eA.Has w4.heap.size #[.bool eA.n, .string eA.v, .int .i64 eA.l.op, .string eA.l.a, .slice pXeA eA.l.ks.list.length cXeA, .int .i64 eA.c.op, .string eA.c.a, .slice qXeA eA.c.ks.list.length dXeA, .int .i64 eA.d] FXeA W4 by rw [eW]; exact LocV.fresh (El.goes eA) HO.out)
  have hs_W4 : w4.heap.size ≤ W4.heap.size := hbW.size
  have HA := Lib.hid (HA.out.trans (hbW.mono (by omega)))
  clear hbW eW HO
  refine (CT_eB.out _ HA.out).mono ?_
  rintro en w5 ⟨vw5, FXeB, rfl, ho, hf, hb⟩
  have hs_w5 : W4.heap.size ≤ w5.heap.size := hb.size
  have LXeA := Lib.hid (LXeA.out.below (El.goes eA) hb)
  have HA := Lib.hid (HA.out.trans (hb.mono (by omega)))
  have HO := Lib.hid ho
  obtain ⟨pXeB, cXeB, qXeB, dXeB, rfl, _, _⟩ := ho.at.form
  clear ho hf hb
  obtain ⟨hz, aeA0, aeA1, aeA2, aeA3, aeA4, aeA5, aeA6, aeA7, aeA8, aeB0, aeB1, aeB2, aeB3, aeB4, aeB5, aeB6, aeB7, aeB8⟩ := HK.out _ HA.out
  have hq_eA : w.heap.size < w5.heap.size := by omega
  have hq_eB : w.heap.size + 1 < w5.heap.size := by omega
  obtain ⟨xeAk, xeAc, _⟩ := LXeA.out
  have xeA0 := xeAc 0 _ rfl
  have xeA1 := xeAc 1 _ rfl
  have xeA2 := xeAc 2 _ rfl
  have xeA3 := xeAc 3 _ rfl
  have xeA4 := xeAc 4 _ rfl
  have xeA5 := xeAc 5 _ rfl
  have xeA6 := xeAc 6 _ rfl
  have xeA7 := xeAc 7 _ rfl
  have xeA8 := xeAc 8 _ rfl
  clear xeAc
  go_wp2_with fail
  clear hz aeA0 aeA1 aeA2 aeA3 aeA4 aeA5 aeA6 aeA7 aeA8 aeB0 aeB1 aeB2 aeB3 aeB4 aeB5 aeB6 aeB7 aeB8 hq_eA hq_eB xeAk xeA0 xeA1 xeA2 xeA3 xeA4 xeA5 xeA6 xeA7 xeA8
  obtain ⟨W5, eW⟩ : ∃ u, u = w5.alloc (.cells #[.bool eB.n, .string eB.v, .int .i64 eB.l.op, .string eB.l.a, .slice pXeB eB.l.ks.list.length cXeB, .int .i64 eB.c.op, .string eB.c.a, .slice qXeB eB.c.ks.list.length dXeB, .int .i64 eB.d] 43) := ⟨_, rfl⟩
  rw [← eW]
  have hszW5 : w5.heap.size < W5.heap.size := by rw [eW]; simp
  have hbW : Below w5.heap.size w5 W5 := by rw [eW]; exact (Below.refl _ _).alloc (Nat.le_refl _) _
  have LXeB := Lib.hid (show LocV eB.Has w5.heap.size #[.bool eB.n, .string eB.v, .int .i64 eB.l.op, .string eB.l.a, .slice pXeB eB.l.ks.list.length cXeB, .int .i64 eB.c.op, .string eB.c.a, .slice qXeB eB.c.ks.list.length dXeB, .int .i64 eB.d] FXeB W5 by rw [eW]; exact LocV.fresh (El.goes eB) HO.out)
  have hs_W5 : w5.heap.size ≤ W5.heap.size := hbW.size
  have LXeA := Lib.hid (LXeA.out.below (El.goes eA) hbW)
  have HA := Lib.hid (HA.out.trans (hbW.mono (by omega)))
  clear hbW eW HO
  refine (CI.out _ _ _ _ _ LXeA.out.2.2 LXeB.out.2.2).mono ?_
  rintro en w6 ⟨rfl, hb⟩
  have hs_w6 : W5.heap.size ≤ w6.heap.size := hb.size
  have LXeA := Lib.hid (LXeA.out.below (El.goes eA) hb)
  have LXeB := Lib.hid (LXeB.out.below (El.goes eB) hb)
  have HA := Lib.hid (HA.out.trans (hb.mono (by omega)))
  clear hb
  obtain ⟨hz, aeA0, aeA1, aeA2, aeA3, aeA4, aeA5, aeA6, aeA7, aeA8, aeB0, aeB1, aeB2, aeB3, aeB4, aeB5, aeB6, aeB7, aeB8⟩ := HK.out _ HA.out
  have hq_eA : w.heap.size < w6.heap.size := by omega
  have hq_eB : w.heap.size + 1 < w6.heap.size := by omega
  obtain ⟨xeAk, xeAc, _⟩ := LXeA.out
  have xeA0 := xeAc 0 _ rfl
  have xeA1 := xeAc 1 _ rfl
  have xeA2 := xeAc 2 _ rfl
  have xeA3 := xeAc 3 _ rfl
  have xeA4 := xeAc 4 _ rfl
  have xeA5 := xeAc 5 _ rfl
  have xeA6 := xeAc 6 _ rfl
  have xeA7 := xeAc 7 _ rfl
  have xeA8 := xeAc 8 _ rfl
  clear xeAc
  obtain ⟨xeBk, xeBc, _⟩ := LXeB.out
  have xeB0 := xeBc 0 _ rfl
  have xeB1 := xeBc 1 _ rfl
  have xeB2 := xeBc 2 _ rfl
  have xeB3 := xeBc 3 _ rfl
  have xeB4 := xeBc 4 _ rfl
  have xeB5 := xeBc 5 _ rfl
  have xeB6 := xeBc 6 _ rfl
  have xeB7 := xeBc 7 _ rfl
  have xeB8 := xeBc 8 _ rfl
  clear xeBc
  have hA0 := HA.out
  have rr0 := Below.refl w6.heap.size w6
  go_upto_region 14 with fail
  go_cut [39] (fun s wx => s = .bool false ∧ Below w6.heap.size w6 wx)
  case first =>
    go_region_held3 (fun w' => w'.cell? ⟨w.heap.size, 0, none⟩ = some (.bool eA.n) ∧ w'.cell? ⟨w.heap.size, 1, none⟩ = some (.string eA.v) ∧ w'.cell? ⟨w.heap.size, 2, none⟩ = some (.int .i64 eA.l.op) ∧ w'.cell? ⟨w.heap.size, 3, none⟩ = some (.string eA.l.a) ∧ w'.cell? ⟨w.heap.size, 4, none⟩ = some (.slice p0eA eA.l.ks.list.length c0eA) ∧ w'.cell? ⟨w.heap.size, 5, none⟩ = some (.int .i64 eA.c.op) ∧ w'.cell? ⟨w.heap.size, 6, none⟩ = some (.string eA.c.a) ∧ w'.cell? ⟨w.heap.size, 7, none⟩ = some (.slice q0eA eA.c.ks.list.length d0eA) ∧ w'.cell? ⟨w.heap.size, 8, none⟩ = some (.int .i64 eA.d) ∧ w'.cell? ⟨w4.heap.size, 0, none⟩ = some (.bool eA.n) ∧ w'.cell? ⟨w4.heap.size, 1, none⟩ = some (.string eA.v) ∧ w'.cell? ⟨w4.heap.size, 2, none⟩ = some (.int .i64 eA.l.op) ∧ w'.cell? ⟨w4.heap.size, 3, none⟩ = some (.string eA.l.a) ∧ w'.cell? ⟨w4.heap.size, 4, none⟩ = some (.slice pXeA eA.l.ks.list.length cXeA) ∧ w'.cell? ⟨w4.heap.size, 5, none⟩ = some (.int .i64 eA.c.op) ∧ w'.cell? ⟨w4.heap.size, 6, none⟩ = some (.string eA.c.a) ∧ w'.cell? ⟨w4.heap.size, 7, none⟩ = some (.slice qXeA eA.c.ks.list.length dXeA) ∧ w'.cell? ⟨w4.heap.size, 8, none⟩ = some (.int .i64 eA.d))
      (exact ⟨keepc (show Below w6.heap.size w6 _ by ((repeat (first | with_reducible assumption | with_reducible exact Below.refl _ _ | refine Below.setCell ?_ (by (first | omega | (simp; omega) | (simp; done) | fail "sml")) _ | refine Below.drew ?_ | refine Below.alloc ?_ (by (first | omega | (simp; omega) | (simp; done) | fail "sml")) _)); first | done | fail "chs")) hq_eA aeA0, keepc (show Below w6.heap.size w6 _ by ((repeat (first | with_reducible assumption | with_reducible exact Below.refl _ _ | refine Below.setCell ?_ (by (first | omega | (simp; omega) | (simp; done) | fail "sml")) _ | refine Below.drew ?_ | refine Below.alloc ?_ (by (first | omega | (simp; omega) | (simp; done) | fail "sml")) _)); first | done | fail "chs")) hq_eA aeA1, keepc (show Below w6.heap.size w6 _ by ((repeat (first | with_reducible assumption | with_reducible exact Below.refl _ _ | refine Below.setCell ?_ (by (first | omega | (simp; omega) | (simp; done) | fail "sml")) _ | refine Below.drew ?_ | refine Below.alloc ?_ (by (first | omega | (simp; omega) | (simp; done) | fail "sml")) _)); first | done | fail "chs")) hq_eA aeA2, keepc (show Below w6.heap.size w6 _ by ((repeat (first | with_reducible assumption | with_reducible exact Below.refl _ _ | refine Below.setCell ?_ (by (first | omega | (simp; omega) | (simp; done) | fail "sml")) _ | refine Below.drew ?_ | refine Below.alloc ?_ (by (first | omega | (simp; omega) | (simp; done) | fail "sml")) _)); first | done | fail "chs")) hq_eA aeA3, keepc (show Below w6.heap.size w6 _ by ((repeat (first | with_reducible assumption | with_reducible exact Below.refl _ _ | refine Below.setCell ?_ (by (first | omega | (simp; omega) | (simp; done) | fail "sml")) _ | refine Below.drew ?_ | refine Below.alloc ?_ (by (first | omega | (simp; omega) | (simp; done) | fail "sml")) _)); first | done | fail "chs")) hq_eA aeA4, keepc (show Below w6.heap.size w6 _ by ((repeat (first | with_reducible assumption | with_reducible exact Below.refl _ _ | refine Below.setCell ?_ (by (first | omega | (simp; omega) | (simp; done) | fail "sml")) _ | refine Below.drew ?_ | refine Below.alloc ?_ (by (first | omega | (simp; omega) | (simp; done) | fail "sml")) _)); first | done | fail "chs")) hq_eA aeA5, keepc (show Below w6.heap.size w6 _ by ((repeat (first | with_reducible assumption | with_reducible exact Below.refl _ _ | refine Below.setCell ?_ (by (first | omega | (simp; omega) | (simp; done) | fail "sml")) _ | refine Below.drew ?_ | refine Below.alloc ?_ (by (first | omega | (simp; omega) | (simp; done) | fail "sml")) _)); first | done | fail "chs")) hq_eA aeA6, keepc (show Below w6.heap.size w6 _ by ((repeat (first | with_reducible assumption | with_reducible exact Below.refl _ _ | refine Below.setCell ?_ (by (first | omega | (simp; omega) | (simp; done) | fail "sml")) _ | refine Below.drew ?_ | refine Below.alloc ?_ (by (first | omega | (simp; omega) | (simp; done) | fail "sml")) _)); first | done | fail "chs")) hq_eA aeA7, keepc (show Below w6.heap.size w6 _ by ((repeat (first | with_reducible assumption | with_reducible exact Below.refl _ _ | refine Below.setCell ?_ (by (first | omega | (simp; omega) | (simp; done) | fail "sml")) _ | refine Below.drew ?_ | refine Below.alloc ?_ (by (first | omega | (simp; omega) | (simp; done) | fail "sml")) _)); first | done | fail "chs")) hq_eA aeA8, keepc (show Below w6.heap.size w6 _ by ((repeat (first | with_reducible assumption | with_reducible exact Below.refl _ _ | refine Below.setCell ?_ (by (first | omega | (simp; omega) | (simp; done) | fail "sml")) _ | refine Below.drew ?_ | refine Below.alloc ?_ (by (first | omega | (simp; omega) | (simp; done) | fail "sml")) _)); first | done | fail "chs")) xeAk xeA0, keepc (show Below w6.heap.size w6 _ by ((repeat (first | with_reducible assumption | with_reducible exact Below.refl _ _ | refine Below.setCell ?_ (by (first | omega | (simp; omega) | (simp; done) | fail "sml")) _ | refine Below.drew ?_ | refine Below.alloc ?_ (by (first | omega | (simp; omega) | (simp; done) | fail "sml")) _)); first | done | fail "chs")) xeAk xeA1, keepc (show Below w6.heap.size w6 _ by ((repeat (first | with_reducible assumption | with_reducible exact Below.refl _ _ | refine Below.setCell ?_ (by (first | omega | (simp; omega) | (simp; done) | fail "sml")) _ | refine Below.drew ?_ | refine Below.alloc ?_ (by (first | omega | (simp; omega) | (simp; done) | fail "sml")) _)); first | done | fail "chs")) xeAk xeA2, keepc (show Below w6.heap.size w6 _ by ((repeat (first | with_reducible assumption | with_reducible exact Below.refl _ _ | refine Below.setCell ?_ (by (first | omega | (simp; omega) | (simp; done) | fail "sml")) _ | refine Below.drew ?_ | refine Below.alloc ?_ (by (first | omega | (simp; omega) | (simp; done) | fail "sml")) _)); first | done | fail "chs")) xeAk xeA3, keepc (show Below w6.heap.size w6 _ by ((repeat (first | with_reducible assumption | with_reducible exact Below.refl _ _ | refine Below.setCell ?_ (by (first | omega | (simp; omega) | (simp; done) | fail "sml")) _ | refine Below.drew ?_ | refine Below.alloc ?_ (by (first | omega | (simp; omega) | (simp; done) | fail "sml")) _)); first | done | fail "chs")) xeAk xeA4, keepc (show Below w6.heap.size w6 _ by ((repeat (first | with_reducible assumption | with_reducible exact Below.refl _ _ | refine Below.setCell ?_ (by (first | omega | (simp; omega) | (simp; done) | fail "sml")) _ | refine Below.drew ?_ | refine Below.alloc ?_ (by (first | omega | (simp; omega) | (simp; done) | fail "sml")) _)); first | done | fail "chs")) xeAk xeA5, keepc (show Below w6.heap.size w6 _ by ((repeat (first | with_reducible assumption | with_reducible exact Below.refl _ _ | refine Below.setCell ?_ (by (first | omega | (simp; omega) | (simp; done) | fail "sml")) _ | refine Below.drew ?_ | refine Below.alloc ?_ (by (first | omega | (simp; omega) | (simp; done) | fail "sml")) _)); first | done | fail "chs")) xeAk xeA6, keepc (show Below w6.heap.size w6 _ by ((repeat (first | with_reducible assumption | with_reducible exact Below.refl _ _ | refine Below.setCell ?_ (by (first | omega | (simp; omega) | (simp; done) | fail "sml")) _ | refine Below.drew ?_ | refine Below.alloc ?_ (by (first | omega | (simp; omega) | (simp; done) | fail "sml")) _)); first | done | fail "chs")) xeAk xeA7, keepc (show Below w6.heap.size w6 _ by ((repeat (first | with_reducible assumption | with_reducible exact Below.refl _ _ | refine Below.setCell ?_ (by (first | omega | (simp; omega) | (simp; done) | fail "sml")) _ | refine Below.drew ?_ | refine Below.alloc ?_ (by (first | omega | (simp; omega) | (simp; done) | fail "sml")) _)); first | done | fail "chs")) xeAk xeA8⟩)
      (first
        | (go_at_call 20; refine (CT_eA.out _ (hA0.trans (Below.mono (show Below w6.heap.size w6 _ by ((repeat (first | with_reducible assumption | with_reducible exact Below.refl _ _ | refine Below.setCell ?_ (by (first | omega | (simp; omega) | (simp; done) | fail "sml")) _ | refine Below.drew ?_ | refine Below.alloc ?_ (by (first | omega | (simp; omega) | (simp; done) | fail "sml")) _)); first | done | fail "chs")) (by omega)))).mono ?_; rintro en wa ⟨va, Fa, rfl, hh, _, hb⟩; have hka := Below.trans (show Below w6.heap.size w6 _ by ((repeat (first | with_reducible assumption | with_reducible exact Below.refl _ _ | refine Below.setCell ?_ (by (first | omega | (simp; omega) | (simp; done) | fail "sml")) _ | refine Below.drew ?_ | refine Below.alloc ?_ (by (first | omega | (simp; omega) | (simp; done) | fail "sml")) _)); first | done | fail "chs")) (hb.mono (by (first | omega | (simp; omega) | (simp; done) | fail "sml"))); have za := hka.size; have HHa := Lib.hid hh.at; clear hh hb)
        | (go_at_call 22; refine (eqElem_any eA _ _ wa.heap.size _ (LXeA.out.2.2.at.to (by ((repeat (first | with_reducible assumption | with_reducible exact Below.refl _ _ | refine Below.setCell ?_ (by (first | omega | (simp; omega) | (simp; done) | fail "sml")) _ | refine Below.drew ?_ | refine Below.alloc ?_ (by (first | omega | (simp; omega) | (simp; done) | fail "sml")) _)); first | done | fail "chs")) (by omega)) (HHa.out.to (by ((repeat (first | with_reducible assumption | with_reducible exact Below.refl _ _ | refine Below.setCell ?_ (by (first | omega | (simp; omega) | (simp; done) | fail "sml")) _ | refine Below.drew ?_ | refine Below.alloc ?_ (by (first | omega | (simp; omega) | (simp; done) | fail "sml")) _)); first | done | fail "chs")) (Nat.le_refl _)) (by (first | omega | (simp; omega) | (simp; done) | fail "sml"))).mono ?_; rintro en wb ⟨rfl, hbb⟩; have hkb := Below.trans (show Below w6.heap.size w6 _ by ((repeat (first | with_reducible assumption | with_reducible exact Below.refl _ _ | refine Below.setCell ?_ (by (first | omega | (simp; omega) | (simp; done) | fail "sml")) _ | refine Below.drew ?_ | refine Below.alloc ?_ (by (first | omega | (simp; omega) | (simp; done) | fail "sml")) _)); first | done | fail "chs")) (hbb.mono (by first | omega | (simp; omega))); clear hbb))
    all_goals (go_wp2_with fail; go_meet)
    all_goals exact ⟨rfl, by ((repeat (first | with_reducible assumption | with_reducible exact Below.refl _ _ | refine Below.setCell ?_ (by (first | omega | (simp; omega) | (simp; done) | fail "sml")) _ | refine Below.drew ?_ | refine Below.alloc ?_ (by (first | omega | (simp; omega) | (simp; done) | fail "sml")) _)); first | done | fail "chs")⟩
  case rest =>
  obtain ⟨rfl, hbx⟩ := hcut
  clear hz aeA0 aeA1 aeA2 aeA3 aeA4 aeA5 aeA6 aeA7 aeA8 aeB0 aeB1 aeB2 aeB3 aeB4 aeB5 aeB6 aeB7 aeB8 hq_eA hq_eB xeAk xeA0 xeA1 xeA2 xeA3 xeA4 xeA5 xeA6 xeA7 xeA8 xeBk xeB0 xeB1 xeB2 xeB3 xeB4 xeB5 xeB6 xeB7 xeB8
  clear hA0 rr0
  obtain ⟨w7, ew⟩ : ∃ u, u = wc := ⟨_, rfl⟩
  subst ew
  have hs_w7 : w6.heap.size ≤ w7.heap.size := hbx.size
  have LXeA := Lib.hid (LXeA.out.below (El.goes eA) hbx)
  have LXeB := Lib.hid (LXeB.out.below (El.goes eB) hbx)
  have HA := Lib.hid (HA.out.trans (hbx.mono (by omega)))
  clear hbx
  obtain ⟨hz, aeA0, aeA1, aeA2, aeA3, aeA4, aeA5, aeA6, aeA7, aeA8, aeB0, aeB1, aeB2, aeB3, aeB4, aeB5, aeB6, aeB7, aeB8⟩ := HK.out _ HA.out
  have hq_eA : w.heap.size < w7.heap.size := by omega
  have hq_eB : w.heap.size + 1 < w7.heap.size := by omega
  obtain ⟨xeAk, xeAc, _⟩ := LXeA.out
  have xeA0 := xeAc 0 _ rfl
  have xeA1 := xeAc 1 _ rfl
  have xeA2 := xeAc 2 _ rfl
  have xeA3 := xeAc 3 _ rfl
  have xeA4 := xeAc 4 _ rfl
  have xeA5 := xeAc 5 _ rfl
  have xeA6 := xeAc 6 _ rfl
  have xeA7 := xeAc 7 _ rfl
  have xeA8 := xeAc 8 _ rfl
  clear xeAc
  obtain ⟨xeBk, xeBc, _⟩ := LXeB.out
  have xeB0 := xeBc 0 _ rfl
  have xeB1 := xeBc 1 _ rfl
  have xeB2 := xeBc 2 _ rfl
  have xeB3 := xeBc 3 _ rfl
  have xeB4 := xeBc 4 _ rfl
  have xeB5 := xeBc 5 _ rfl
  have xeB6 := xeBc 6 _ rfl
  have xeB7 := xeBc 7 _ rfl
  have xeB8 := xeBc 8 _ rfl
  clear xeBc
  have hA0 := HA.out
  have rr0 := Below.refl w7.heap.size w7
  go_upto_region 16 with fail
  go_cut [44] (fun s wx => s = .bool false ∧ Below w7.heap.size w7 wx)
  case first =>
    go_region_held3 (fun w' => w'.cell? ⟨w.heap.size + 1, 0, none⟩ = some (.bool eB.n) ∧ w'.cell? ⟨w.heap.size + 1, 1, none⟩ = some (.string eB.v) ∧ w'.cell? ⟨w.heap.size + 1, 2, none⟩ = some (.int .i64 eB.l.op) ∧ w'.cell? ⟨w.heap.size + 1, 3, none⟩ = some (.string eB.l.a) ∧ w'.cell? ⟨w.heap.size + 1, 4, none⟩ = some (.slice p0eB eB.l.ks.list.length c0eB) ∧ w'.cell? ⟨w.heap.size + 1, 5, none⟩ = some (.int .i64 eB.c.op) ∧ w'.cell? ⟨w.heap.size + 1, 6, none⟩ = some (.string eB.c.a) ∧ w'.cell? ⟨w.heap.size + 1, 7, none⟩ = some (.slice q0eB eB.c.ks.list.length d0eB) ∧ w'.cell? ⟨w.heap.size + 1, 8, none⟩ = some (.int .i64 eB.d) ∧ w'.cell? ⟨w5.heap.size, 0, none⟩ = some (.bool eB.n) ∧ w'.cell? ⟨w5.heap.size, 1, none⟩ = some (.string eB.v) ∧ w'.cell? ⟨w5.heap.size, 2, none⟩ = some (.int .i64 eB.l.op) ∧ w'.cell? ⟨w5.heap.size, 3, none⟩ = some (.string eB.l.a) ∧ w'.cell? ⟨w5.heap.size, 4, none⟩ = some (.slice pXeB eB.l.ks.list.length cXeB) ∧ w'.cell? ⟨w5.heap.size, 5, none⟩ = some (.int .i64 eB.c.op) ∧ w'.cell? ⟨w5.heap.size, 6, none⟩ = some (.string eB.c.a) ∧ w'.cell? ⟨w5.heap.size, 7, none⟩ = some (.slice qXeB eB.c.ks.list.length dXeB) ∧ w'.cell? ⟨w5.heap.size, 8, none⟩ = some (.int .i64 eB.d))
      (exact ⟨keepc (show Below w7.heap.size w7 _ by ((repeat (first | with_reducible assumption | with_reducible exact Below.refl _ _ | refine Below.setCell ?_ (by (first | omega | (simp; omega) | (simp; done) | fail "sml")) _ | refine Below.drew ?_ | refine Below.alloc ?_ (by (first | omega | (simp; omega) | (simp; done) | fail "sml")) _)); first | done | fail "chs")) hq_eB aeB0, keepc (show Below w7.heap.size w7 _ by ((repeat (first | with_reducible assumption | with_reducible exact Below.refl _ _ | refine Below.setCell ?_ (by (first | omega | (simp; omega) | (simp; done) | fail "sml")) _ | refine Below.drew ?_ | refine Below.alloc ?_ (by (first | omega | (simp; omega) | (simp; done) | fail "sml")) _)); first | done | fail "chs")) hq_eB aeB1, keepc (show Below w7.heap.size w7 _ by ((repeat (first | with_reducible assumption | with_reducible exact Below.refl _ _ | refine Below.setCell ?_ (by (first | omega | (simp; omega) | (simp; done) | fail "sml")) _ | refine Below.drew ?_ | refine Below.alloc ?_ (by (first | omega | (simp; omega) | (simp; done) | fail "sml")) _)); first | done | fail "chs")) hq_eB aeB2, keepc (show Below w7.heap.size w7 _ by ((repeat (first | with_reducible assumption | with_reducible exact Below.refl _ _ | refine Below.setCell ?_ (by (first | omega | (simp; omega) | (simp; done) | fail "sml")) _ | refine Below.drew ?_ | refine Below.alloc ?_ (by (first | omega | (simp; omega) | (simp; done) | fail "sml")) _)); first | done | fail "chs")) hq_eB aeB3, keepc (show Below w7.heap.size w7 _ by ((repeat (first | with_reducible assumption | with_reducible exact Below.refl _ _ | refine Below.setCell ?_ (by (first | omega | (simp; omega) | (simp; done) | fail "sml")) _ | refine Below.drew ?_ | refine Below.alloc ?_ (by (first | omega | (simp; omega) | (simp; done) | fail "sml")) _)); first | done | fail "chs")) hq_eB aeB4, keepc (show Below w7.heap.size w7 _ by ((repeat (first | with_reducible assumption | with_reducible exact Below.refl _ _ | refine Below.setCell ?_ (by (first | omega | (simp; omega) | (simp; done) | fail "sml")) _ | refine Below.drew ?_ | refine Below.alloc ?_ (by (first | omega | (simp; omega) | (simp; done) | fail "sml")) _)); first | done | fail "chs")) hq_eB aeB5, keepc (show Below w7.heap.size w7 _ by ((repeat (first | with_reducible assumption | with_reducible exact Below.refl _ _ | refine Below.setCell ?_ (by (first | omega | (simp; omega) | (simp; done) | fail "sml")) _ | refine Below.drew ?_ | refine Below.alloc ?_ (by (first | omega | (simp; omega) | (simp; done) | fail "sml")) _)); first | done | fail "chs")) hq_eB aeB6, keepc (show Below w7.heap.size w7 _ by ((repeat (first | with_reducible assumption | with_reducible exact Below.refl _ _ | refine Below.setCell ?_ (by (first | omega | (simp; omega) | (simp; done) | fail "sml")) _ | refine Below.drew ?_ | refine Below.alloc ?_ (by (first | omega | (simp; omega) | (simp; done) | fail "sml")) _)); first | done | fail "chs")) hq_eB aeB7, keepc (show Below w7.heap.size w7 _ by ((repeat (first | with_reducible assumption | with_reducible exact Below.refl _ _ | refine Below.setCell ?_ (by (first | omega | (simp; omega) | (simp; done) | fail "sml")) _ | refine Below.drew ?_ | refine Below.alloc ?_ (by (first | omega | (simp; omega) | (simp; done) | fail "sml")) _)); first | done | fail "chs")) hq_eB aeB8, keepc (show Below w7.heap.size w7 _ by ((repeat (first | with_reducible assumption | with_reducible exact Below.refl _ _ | refine Below.setCell ?_ (by (first | omega | (simp; omega) | (simp; done) | fail "sml")) _ | refine Below.drew ?_ | refine Below.alloc ?_ (by (first | omega | (simp; omega) | (simp; done) | fail "sml")) _)); first | done | fail "chs")) xeBk xeB0, keepc (show Below w7.heap.size w7 _ by ((repeat (first | with_reducible assumption | with_reducible exact Below.refl _ _ | refine Below.setCell ?_ (by (first | omega | (simp; omega) | (simp; done) | fail "sml")) _ | refine Below.drew ?_ | refine Below.alloc ?_ (by (first | omega | (simp; omega) | (simp; done) | fail "sml")) _)); first | done | fail "chs")) xeBk xeB1, keepc (show Below w7.heap.size w7 _ by ((repeat (first | with_reducible assumption | with_reducible exact Below.refl _ _ | refine Below.setCell ?_ (by (first | omega | (simp; omega) | (simp; done) | fail "sml")) _ | refine Below.drew ?_ | refine Below.alloc ?_ (by (first | omega | (simp; omega) | (simp; done) | fail "sml")) _)); first | done | fail "chs")) xeBk xeB2, keepc (show Below w7.heap.size w7 _ by ((repeat (first | with_reducible assumption | with_reducible exact Below.refl _ _ | refine Below.setCell ?_ (by (first | omega | (simp; omega) | (simp; done) | fail "sml")) _ | refine Below.drew ?_ | refine Below.alloc ?_ (by (first | omega | (simp; omega) | (simp; done) | fail "sml")) _)); first | done | fail "chs")) xeBk xeB3, keepc (show Below w7.heap.size w7 _ by ((repeat (first | with_reducible assumption | with_reducible exact Below.refl _ _ | refine Below.setCell ?_ (by (first | omega | (simp; omega) | (simp; done) | fail "sml")) _ | refine Below.drew ?_ | refine Below.alloc ?_ (by (first | omega | (simp; omega) | (simp; done) | fail "sml")) _)); first | done | fail "chs")) xeBk xeB4, keepc (show Below w7.heap.size w7 _ by ((repeat (first | with_reducible assumption | with_reducible exact Below.refl _ _ | refine Below.setCell ?_ (by (first | omega | (simp; omega) | (simp; done) | fail "sml")) _ | refine Below.drew ?_ | refine Below.alloc ?_ (by (first | omega | (simp; omega) | (simp; done) | fail "sml")) _)); first | done | fail "chs")) xeBk xeB5, keepc (show Below w7.heap.size w7 _ by ((repeat (first | with_reducible assumption | with_reducible exact Below.refl _ _ | refine Below.setCell ?_ (by (first | omega | (simp; omega) | (simp; done) | fail "sml")) _ | refine Below.drew ?_ | refine Below.alloc ?_ (by (first | omega | (simp; omega) | (simp; done) | fail "sml")) _)); first | done | fail "chs")) xeBk xeB6, keepc (show Below w7.heap.size w7 _ by ((repeat (first | with_reducible assumption | with_reducible exact Below.refl _ _ | refine Below.setCell ?_ (by (first | omega | (simp; omega) | (simp; done) | fail "sml")) _ | refine Below.drew ?_ | refine Below.alloc ?_ (by (first | omega | (simp; omega) | (simp; done) | fail "sml")) _)); first | done | fail "chs")) xeBk xeB7, keepc (show Below w7.heap.size w7 _ by ((repeat (first | with_reducible assumption | with_reducible exact Below.refl _ _ | refine Below.setCell ?_ (by (first | omega | (simp; omega) | (simp; done) | fail "sml")) _ | refine Below.drew ?_ | refine Below.alloc ?_ (by (first | omega | (simp; omega) | (simp; done) | fail "sml")) _)); first | done | fail "chs")) xeBk xeB8⟩)
      (first
        | (go_at_call 20; refine (CT_eB.out _ (hA0.trans (Below.mono (show Below w7.heap.size w7 _ by ((repeat (first | with_reducible assumption | with_reducible exact Below.refl _ _ | refine Below.setCell ?_ (by (first | omega | (simp; omega) | (simp; done) | fail "sml")) _ | refine Below.drew ?_ | refine Below.alloc ?_ (by (first | omega | (simp; omega) | (simp; done) | fail "sml")) _)); first | done | fail "chs")) (by omega)))).mono ?_; rintro en wa ⟨va, Fa, rfl, hh, _, hb⟩; have hka := Below.trans (show Below w7.heap.size w7 _ by ((repeat (first | with_reducible assumption | with_reducible exact Below.refl _ _ | refine Below.setCell ?_ (by (first | omega | (simp; omega) | (simp; done) | fail "sml")) _ | refine Below.drew ?_ | refine Below.alloc ?_ (by (first | omega | (simp; omega) | (simp; done) | fail "sml")) _)); first | done | fail "chs")) (hb.mono (by (first | omega | (simp; omega) | (simp; done) | fail "sml"))); have za := hka.size; have HHa := Lib.hid hh.at; clear hh hb)
        | (go_at_call 22; refine (eqElem_any eB _ _ wa.heap.size _ (LXeB.out.2.2.at.to (by ((repeat (first | with_reducible assumption | with_reducible exact Below.refl _ _ | refine Below.setCell ?_ (by (first | omega | (simp; omega) | (simp; done) | fail "sml")) _ | refine Below.drew ?_ | refine Below.alloc ?_ (by (first | omega | (simp; omega) | (simp; done) | fail "sml")) _)); first | done | fail "chs")) (by omega)) (HHa.out.to (by ((repeat (first | with_reducible assumption | with_reducible exact Below.refl _ _ | refine Below.setCell ?_ (by (first | omega | (simp; omega) | (simp; done) | fail "sml")) _ | refine Below.drew ?_ | refine Below.alloc ?_ (by (first | omega | (simp; omega) | (simp; done) | fail "sml")) _)); first | done | fail "chs")) (Nat.le_refl _)) (by (first | omega | (simp; omega) | (simp; done) | fail "sml"))).mono ?_; rintro en wb ⟨rfl, hbb⟩; have hkb := Below.trans (show Below w7.heap.size w7 _ by ((repeat (first | with_reducible assumption | with_reducible exact Below.refl _ _ | refine Below.setCell ?_ (by (first | omega | (simp; omega) | (simp; done) | fail "sml")) _ | refine Below.drew ?_ | refine Below.alloc ?_ (by (first | omega | (simp; omega) | (simp; done) | fail "sml")) _)); first | done | fail "chs")) (hbb.mono (by first | omega | (simp; omega))); clear hbb))
    all_goals (go_wp2_with fail; go_meet)
    all_goals exact ⟨rfl, by ((repeat (first | with_reducible assumption | with_reducible exact Below.refl _ _ | refine Below.setCell ?_ (by (first | omega | (simp; omega) | (simp; done) | fail "sml")) _ | refine Below.drew ?_ | refine Below.alloc ?_ (by (first | omega | (simp; omega) | (simp; done) | fail "sml")) _)); first | done | fail "chs")⟩
  case rest =>
  obtain ⟨rfl, hbx⟩ := hcut
  clear hz aeA0 aeA1 aeA2 aeA3 aeA4 aeA5 aeA6 aeA7 aeA8 aeB0 aeB1 aeB2 aeB3 aeB4 aeB5 aeB6 aeB7 aeB8 hq_eA hq_eB xeAk xeA0 xeA1 xeA2 xeA3 xeA4 xeA5 xeA6 xeA7 xeA8 xeBk xeB0 xeB1 xeB2 xeB3 xeB4 xeB5 xeB6 xeB7 xeB8
  clear hA0 rr0
  obtain ⟨w8, ew⟩ : ∃ u, u = wc := ⟨_, rfl⟩
  subst ew
  have hs_w8 : w7.heap.size ≤ w8.heap.size := hbx.size
  have LXeA := Lib.hid (LXeA.out.below (El.goes eA) hbx)
  have LXeB := Lib.hid (LXeB.out.below (El.goes eB) hbx)
  have HA := Lib.hid (HA.out.trans (hbx.mono (by omega)))
  clear hbx
  obtain ⟨hz, aeA0, aeA1, aeA2, aeA3, aeA4, aeA5, aeA6, aeA7, aeA8, aeB0, aeB1, aeB2, aeB3, aeB4, aeB5, aeB6, aeB7, aeB8⟩ := HK.out _ HA.out
  have hq_eA : w.heap.size < w8.heap.size := by omega
  have hq_eB : w.heap.size + 1 < w8.heap.size := by omega
  obtain ⟨xeAk, xeAc, _⟩ := LXeA.out
  have xeA0 := xeAc 0 _ rfl
  have xeA1 := xeAc 1 _ rfl
  have xeA2 := xeAc 2 _ rfl
  have xeA3 := xeAc 3 _ rfl
  have xeA4 := xeAc 4 _ rfl
  have xeA5 := xeAc 5 _ rfl
  have xeA6 := xeAc 6 _ rfl
  have xeA7 := xeAc 7 _ rfl
  have xeA8 := xeAc 8 _ rfl
  clear xeAc
  obtain ⟨xeBk, xeBc, _⟩ := LXeB.out
  have xeB0 := xeBc 0 _ rfl
  have xeB1 := xeBc 1 _ rfl
  have xeB2 := xeBc 2 _ rfl
  have xeB3 := xeBc 3 _ rfl
  have xeB4 := xeBc 4 _ rfl
  have xeB5 := xeBc 5 _ rfl
  have xeB6 := xeBc 6 _ rfl
  have xeB7 := xeBc 7 _ rfl
  have xeB8 := xeBc 8 _ rfl
  clear xeBc
  go_wp2_with fail
  go_ret
  exact ⟨rfl, HV.out.trans (HA.out.mono (by omega))⟩
end Go.Proofs.Ytlplbfbbdjaklaa
