/- The walk of FnExactPatSame. -/
import Derived.Test.YtlplbfbbdjaklaaSPtSame
import Derived.Test.YtlplbfbbdjaklaaPtSame
import Derived.Test.YtlplbfbbdjaklaaKindsPt
import Derived.Test.YtlplbfbbdjaklaaKindsP
import Derived.Deep.RegionHeld3
import Derived.Deep.DeepCutAuto
namespace Go.Proofs.Ytlplbfbbdjaklaa
open Go.RowKit

set_option maxRecDepth 100000 in
set_option maxHeartbeats 16000000 in
theorem lawExactPatSame (pA : Pt) (pB : Pt) (v_pA : Value) (v_pB : Value) (w : World) (h_pA : pA.At w.heap.size w v_pA) (h_pB : pB.At w.heap.size w v_pB) (hok_pA : pA.Ok) (hok_pB : pB.Ok) :
    Calls Try.prog 6 #[v_pA, v_pB] w fun en w' => en = .returned (.bool true) ∧ Below w.heap.size w w' := by
  have HE_pA := Lib.hid h_pA
  have HOK_pA := Lib.hid hok_pA
  have HE_pB := Lib.hid h_pB
  have HOK_pB := Lib.hid hok_pB
  obtain ⟨p0pA, c0pA, q0pA, d0pA, r0pA, e0pA, rfl⟩ := h_pA.form
  obtain ⟨p0pB, c0pB, q0pB, d0pB, r0pB, e0pB, rfl⟩ := h_pB.form
  clear h_pA hok_pA h_pB hok_pB
  obtain ⟨R0, eR0⟩ : ∃ R0 : Bool, R0 = ptEq pA pB := ⟨_, rfl⟩
  obtain ⟨W0, eW⟩ : ∃ W0, W0 = ((w.alloc (.cells #[.int .i64 pA.op, .bool pA.e.n, .string pA.e.v, .int .i64 pA.e.l.op, .string pA.e.l.a, .slice p0pA pA.e.l.ks.list.length c0pA, .int .i64 pA.e.c.op, .string pA.e.c.a, .slice q0pA pA.e.c.ks.list.length d0pA, .int .i64 pA.e.d, .slice r0pA pA.ks.list.length e0pA, .int .i64 pA.lo, .int .i64 pA.hi] 48)).alloc (.cells #[.int .i64 pB.op, .bool pB.e.n, .string pB.e.v, .int .i64 pB.e.l.op, .string pB.e.l.a, .slice p0pB pB.e.l.ks.list.length c0pB, .int .i64 pB.e.c.op, .string pB.e.c.a, .slice q0pB pB.e.c.ks.list.length d0pB, .int .i64 pB.e.d, .slice r0pB pB.ks.list.length e0pB, .int .i64 pB.lo, .int .i64 pB.hi] 48)) := ⟨_, rfl⟩
  have HV := Lib.hid (show Below w.heap.size w W0 by rw [eW]; exact ((Below.refl w.heap.size w).alloc (by simp) _).alloc (by simp) _)
  have HK := Lib.hid (show ∀ wk, Below (w.heap.size + 2) W0 wk → w.heap.size + 2 ≤ wk.heap.size ∧ wk.cell? ⟨w.heap.size, 0, none⟩ = some (.int .i64 pA.op) ∧ wk.cell? ⟨w.heap.size, 1, none⟩ = some (.bool pA.e.n) ∧ wk.cell? ⟨w.heap.size, 2, none⟩ = some (.string pA.e.v) ∧ wk.cell? ⟨w.heap.size, 3, none⟩ = some (.int .i64 pA.e.l.op) ∧ wk.cell? ⟨w.heap.size, 4, none⟩ = some (.string pA.e.l.a) ∧ wk.cell? ⟨w.heap.size, 5, none⟩ = some (.slice p0pA pA.e.l.ks.list.length c0pA) ∧ wk.cell? ⟨w.heap.size, 6, none⟩ = some (.int .i64 pA.e.c.op) ∧ wk.cell? ⟨w.heap.size, 7, none⟩ = some (.string pA.e.c.a) ∧ wk.cell? ⟨w.heap.size, 8, none⟩ = some (.slice q0pA pA.e.c.ks.list.length d0pA) ∧ wk.cell? ⟨w.heap.size, 9, none⟩ = some (.int .i64 pA.e.d) ∧ wk.cell? ⟨w.heap.size, 10, none⟩ = some (.slice r0pA pA.ks.list.length e0pA) ∧ wk.cell? ⟨w.heap.size, 11, none⟩ = some (.int .i64 pA.lo) ∧ wk.cell? ⟨w.heap.size, 12, none⟩ = some (.int .i64 pA.hi) ∧ wk.cell? ⟨w.heap.size + 1, 0, none⟩ = some (.int .i64 pB.op) ∧ wk.cell? ⟨w.heap.size + 1, 1, none⟩ = some (.bool pB.e.n) ∧ wk.cell? ⟨w.heap.size + 1, 2, none⟩ = some (.string pB.e.v) ∧ wk.cell? ⟨w.heap.size + 1, 3, none⟩ = some (.int .i64 pB.e.l.op) ∧ wk.cell? ⟨w.heap.size + 1, 4, none⟩ = some (.string pB.e.l.a) ∧ wk.cell? ⟨w.heap.size + 1, 5, none⟩ = some (.slice p0pB pB.e.l.ks.list.length c0pB) ∧ wk.cell? ⟨w.heap.size + 1, 6, none⟩ = some (.int .i64 pB.e.c.op) ∧ wk.cell? ⟨w.heap.size + 1, 7, none⟩ = some (.string pB.e.c.a) ∧ wk.cell? ⟨w.heap.size + 1, 8, none⟩ = some (.slice q0pB pB.e.c.ks.list.length d0pB) ∧ wk.cell? ⟨w.heap.size + 1, 9, none⟩ = some (.int .i64 pB.e.d) ∧ wk.cell? ⟨w.heap.size + 1, 10, none⟩ = some (.slice r0pB pB.ks.list.length e0pB) ∧ wk.cell? ⟨w.heap.size + 1, 11, none⟩ = some (.int .i64 pB.lo) ∧ wk.cell? ⟨w.heap.size + 1, 12, none⟩ = some (.int .i64 pB.hi) from
    fun wk hk => by rw [eW] at hk; exact ⟨by have := hk.size; simp at this; omega, keepc hk (by omega) (by simp [go_sem]), keepc hk (by omega) (by simp [go_sem]), keepc hk (by omega) (by simp [go_sem]), keepc hk (by omega) (by simp [go_sem]), keepc hk (by omega) (by simp [go_sem]), keepc hk (by omega) (by simp [go_sem]), keepc hk (by omega) (by simp [go_sem]), keepc hk (by omega) (by simp [go_sem]), keepc hk (by omega) (by simp [go_sem]), keepc hk (by omega) (by simp [go_sem]), keepc hk (by omega) (by simp [go_sem]), keepc hk (by omega) (by simp [go_sem]), keepc hk (by omega) (by simp [go_sem]), keepc hk (by omega) (by simp [go_sem]), keepc hk (by omega) (by simp [go_sem]), keepc hk (by omega) (by simp [go_sem]), keepc hk (by omega) (by simp [go_sem]), keepc hk (by omega) (by simp [go_sem]), keepc hk (by omega) (by simp [go_sem]), keepc hk (by omega) (by simp [go_sem]), keepc hk (by omega) (by simp [go_sem]), keepc hk (by omega) (by simp [go_sem]), keepc hk (by omega) (by simp [go_sem]), keepc hk (by omega) (by simp [go_sem]), keepc hk (by omega) (by simp [go_sem]), keepc hk (by omega) (by simp [go_sem])⟩)
  have hs0 : w.heap.size + 2 ≤ W0.heap.size := by rw [eW]; simp
  have HA := Lib.hid (Below.refl (w.heap.size + 2) W0)
  have HEA_pA := Lib.hid (show ∀ wk, Below (w.heap.size + 2) W0 wk → pA.At w.heap.size wk (.agg #[.int .i64 pA.op, .bool pA.e.n, .string pA.e.v, .int .i64 pA.e.l.op, .string pA.e.l.a, .slice p0pA pA.e.l.ks.list.length c0pA, .int .i64 pA.e.c.op, .string pA.e.c.a, .slice q0pA pA.e.c.ks.list.length d0pA, .int .i64 pA.e.d, .slice r0pA pA.ks.list.length e0pA, .int .i64 pA.lo, .int .i64 pA.hi]) from fun wk hk => HE_pA.out.to (HV.out.trans (hk.mono (by omega))) (Nat.le_refl _))
  have HEA_pB := Lib.hid (show ∀ wk, Below (w.heap.size + 2) W0 wk → pB.At w.heap.size wk (.agg #[.int .i64 pB.op, .bool pB.e.n, .string pB.e.v, .int .i64 pB.e.l.op, .string pB.e.l.a, .slice p0pB pB.e.l.ks.list.length c0pB, .int .i64 pB.e.c.op, .string pB.e.c.a, .slice q0pB pB.e.c.ks.list.length d0pB, .int .i64 pB.e.d, .slice r0pB pB.ks.list.length e0pB, .int .i64 pB.lo, .int .i64 pB.hi]) from fun wk hk => HE_pB.out.to (HV.out.trans (hk.mono (by omega))) (Nat.le_refl _))
  have EW := Lib.hid eW
  clear eW HE_pA HE_pB
  go_enter Try.func6, Try.ntmps6
  go_wp2_with fail
  rw [← EW.out]
  refine (szPat_any pA _ 1048576 w.heap.size _ (HEA_pA.out _ HA.out) (by omega) (by omega) (by omega) HOK_pA.out).mono ?_
  rintro en w1 ⟨r_pA, rfl, hr_pA, hb⟩
  have hs_w1 : W0.heap.size ≤ w1.heap.size := hb.size
  have HA := Lib.hid (HA.out.trans (hb.mono (by omega)))
  clear hb
  obtain ⟨hz, apA0, apA1, apA2, apA3, apA4, apA5, apA6, apA7, apA8, apA9, apA10, apA11, apA12, apB0, apB1, apB2, apB3, apB4, apB5, apB6, apB7, apB8, apB9, apB10, apB11, apB12⟩ := HK.out _ HA.out
  have hq_pA : w.heap.size < w1.heap.size := by omega
  have hq_pB : w.heap.size + 1 < w1.heap.size := by omega
  rcases hr_pA with hr_pA | ⟨hr0_pA, hr_pA⟩
  · have hneg : r_pA < 0 := by omega
    clear hr_pA
    go_wp2_with fail
    go_ret
    exact ⟨rfl, HV.out.trans (HA.out.mono (by omega))⟩
  have hneed_pA : ptNeed pA ≤ 1048576 := by omega
  have hrm_pA : r_pA ≤ 1048576 := by omega
  clear hr_pA
  go_wp2_with fail
  refine (szPat_any pB _ r_pA w.heap.size _ (HEA_pB.out _ HA.out) (by omega) hr0_pA hrm_pA HOK_pB.out).mono ?_
  rintro en w2 ⟨r_pB, rfl, hr_pB, hb⟩
  clear hz apA0 apA1 apA2 apA3 apA4 apA5 apA6 apA7 apA8 apA9 apA10 apA11 apA12 apB0 apB1 apB2 apB3 apB4 apB5 apB6 apB7 apB8 apB9 apB10 apB11 apB12 hq_pA hq_pB
  have hs_w2 : w1.heap.size ≤ w2.heap.size := hb.size
  have HA := Lib.hid (HA.out.trans (hb.mono (by omega)))
  clear hb
  obtain ⟨hz, apA0, apA1, apA2, apA3, apA4, apA5, apA6, apA7, apA8, apA9, apA10, apA11, apA12, apB0, apB1, apB2, apB3, apB4, apB5, apB6, apB7, apB8, apB9, apB10, apB11, apB12⟩ := HK.out _ HA.out
  have hq_pA : w.heap.size < w2.heap.size := by omega
  have hq_pB : w.heap.size + 1 < w2.heap.size := by omega
  rcases hr_pB with hr_pB | ⟨hr0_pB, hr_pB⟩
  · have hneg : r_pB < 0 := by omega
    clear hr_pB
    go_wp2_with fail
    go_ret
    exact ⟨rfl, HV.out.trans (HA.out.mono (by omega))⟩
  have hneed_pB : ptNeed pB ≤ 1048576 := by omega
  have hrm_pB : r_pB ≤ 1048576 := by omega
  clear hr_pB
  have CS := Lib.hid (fun (v_pA : Value) (v_pB : Value) (B : Nat) (E : World) (hB : B ≤ E.heap.size) (h_pA : pA.At B E v_pA) (h_pB : pB.At B E v_pB) => eR0 ▸ specPatSame_any pA pB v_pA v_pB B E h_pA h_pB hB)
  have CI := Lib.hid (fun (v_pA : Value) (F_pA : List Nat) (v_pB : Value) (F_pB : List Nat) (E : World) (h_pA : pA.Has v_pA F_pA E) (h_pB : pB.Has v_pB F_pB E) => eR0 ▸ patSame_any pA pB v_pA v_pB F_pA F_pB E h_pA h_pB hneed_pA)
  have CT_pA := Lib.hid (fun (E : World) (hE : Below (w.heap.size + 2) W0 E) => (show Calls Try.prog 25 #[.agg #[.int .i64 pA.op, .bool pA.e.n, .string pA.e.v, .int .i64 pA.e.l.op, .string pA.e.l.a, .slice p0pA pA.e.l.ks.list.length c0pA, .int .i64 pA.e.c.op, .string pA.e.c.a, .slice q0pA pA.e.c.ks.list.length d0pA, .int .i64 pA.e.d, .slice r0pA pA.ks.list.length e0pA, .int .i64 pA.lo, .int .i64 pA.hi]] E _ from (fun (hv : pA.At w.heap.size E (.agg #[.int .i64 pA.op, .bool pA.e.n, .string pA.e.v, .int .i64 pA.e.l.op, .string pA.e.l.a, .slice p0pA pA.e.l.ks.list.length c0pA, .int .i64 pA.e.c.op, .string pA.e.c.a, .slice q0pA pA.e.c.ks.list.length d0pA, .int .i64 pA.e.d, .slice r0pA pA.ks.list.length e0pA, .int .i64 pA.lo, .int .i64 pA.hi])) (hB : w.heap.size ≤ E.heap.size) => toPat_any pA _ w.heap.size E hv hB hneed_pA) (HEA_pA.out E hE) (by have := hE.size; omega)))
  have CT_pB := Lib.hid (fun (E : World) (hE : Below (w.heap.size + 2) W0 E) => (show Calls Try.prog 25 #[.agg #[.int .i64 pB.op, .bool pB.e.n, .string pB.e.v, .int .i64 pB.e.l.op, .string pB.e.l.a, .slice p0pB pB.e.l.ks.list.length c0pB, .int .i64 pB.e.c.op, .string pB.e.c.a, .slice q0pB pB.e.c.ks.list.length d0pB, .int .i64 pB.e.d, .slice r0pB pB.ks.list.length e0pB, .int .i64 pB.lo, .int .i64 pB.hi]] E _ from (fun (hv : pB.At w.heap.size E (.agg #[.int .i64 pB.op, .bool pB.e.n, .string pB.e.v, .int .i64 pB.e.l.op, .string pB.e.l.a, .slice p0pB pB.e.l.ks.list.length c0pB, .int .i64 pB.e.c.op, .string pB.e.c.a, .slice q0pB pB.e.c.ks.list.length d0pB, .int .i64 pB.e.d, .slice r0pB pB.ks.list.length e0pB, .int .i64 pB.lo, .int .i64 pB.hi])) (hB : w.heap.size ≤ E.heap.size) => toPat_any pB _ w.heap.size E hv hB hneed_pB) (HEA_pB.out E hE) (by have := hE.size; omega)))
  clear eR0 hneed_pA hneed_pB
  have hA0 := HA.out
  have rr0 := Below.refl w2.heap.size w2
  go_upto_region 8 with fail
  go_cut [6] (fun s wx => s = .bool R0 ∧ Below w2.heap.size w2 wx)
  case first =>
    go_region_held3 (fun w' => w'.cell? ⟨w.heap.size, 0, none⟩ = some (.int .i64 pA.op) ∧ w'.cell? ⟨w.heap.size, 1, none⟩ = some (.bool pA.e.n) ∧ w'.cell? ⟨w.heap.size, 2, none⟩ = some (.string pA.e.v) ∧ w'.cell? ⟨w.heap.size, 3, none⟩ = some (.int .i64 pA.e.l.op) ∧ w'.cell? ⟨w.heap.size, 4, none⟩ = some (.string pA.e.l.a) ∧ w'.cell? ⟨w.heap.size, 5, none⟩ = some (.slice p0pA pA.e.l.ks.list.length c0pA) ∧ w'.cell? ⟨w.heap.size, 6, none⟩ = some (.int .i64 pA.e.c.op) ∧ w'.cell? ⟨w.heap.size, 7, none⟩ = some (.string pA.e.c.a) ∧ w'.cell? ⟨w.heap.size, 8, none⟩ = some (.slice q0pA pA.e.c.ks.list.length d0pA) ∧ w'.cell? ⟨w.heap.size, 9, none⟩ = some (.int .i64 pA.e.d) ∧ w'.cell? ⟨w.heap.size, 10, none⟩ = some (.slice r0pA pA.ks.list.length e0pA) ∧ w'.cell? ⟨w.heap.size, 11, none⟩ = some (.int .i64 pA.lo) ∧ w'.cell? ⟨w.heap.size, 12, none⟩ = some (.int .i64 pA.hi) ∧ w'.cell? ⟨w.heap.size + 1, 0, none⟩ = some (.int .i64 pB.op) ∧ w'.cell? ⟨w.heap.size + 1, 1, none⟩ = some (.bool pB.e.n) ∧ w'.cell? ⟨w.heap.size + 1, 2, none⟩ = some (.string pB.e.v) ∧ w'.cell? ⟨w.heap.size + 1, 3, none⟩ = some (.int .i64 pB.e.l.op) ∧ w'.cell? ⟨w.heap.size + 1, 4, none⟩ = some (.string pB.e.l.a) ∧ w'.cell? ⟨w.heap.size + 1, 5, none⟩ = some (.slice p0pB pB.e.l.ks.list.length c0pB) ∧ w'.cell? ⟨w.heap.size + 1, 6, none⟩ = some (.int .i64 pB.e.c.op) ∧ w'.cell? ⟨w.heap.size + 1, 7, none⟩ = some (.string pB.e.c.a) ∧ w'.cell? ⟨w.heap.size + 1, 8, none⟩ = some (.slice q0pB pB.e.c.ks.list.length d0pB) ∧ w'.cell? ⟨w.heap.size + 1, 9, none⟩ = some (.int .i64 pB.e.d) ∧ w'.cell? ⟨w.heap.size + 1, 10, none⟩ = some (.slice r0pB pB.ks.list.length e0pB) ∧ w'.cell? ⟨w.heap.size + 1, 11, none⟩ = some (.int .i64 pB.lo) ∧ w'.cell? ⟨w.heap.size + 1, 12, none⟩ = some (.int .i64 pB.hi))
      (exact (HK.out _ (hA0.trans (Below.mono (show Below w2.heap.size w2 _ by ((repeat (first | with_reducible assumption | with_reducible exact Below.refl _ _ | refine Below.setCell ?_ (by (first | omega | (simp; omega) | (simp; done) | fail "sml")) _ | refine Below.drew ?_ | refine Below.alloc ?_ (by (first | omega | (simp; omega) | (simp; done) | fail "sml")) _)); first | done | fail "chs")) (by omega)))).2)
      (first
        | (go_at_call 25; with_reducible refine (CT_pA.out _ (hA0.trans (Below.mono (show Below w2.heap.size w2 _ by ((repeat (first | with_reducible assumption | with_reducible exact Below.refl _ _ | refine Below.setCell ?_ (by (first | omega | (simp; omega) | (simp; done) | fail "sml")) _ | refine Below.drew ?_ | refine Below.alloc ?_ (by (first | omega | (simp; omega) | (simp; done) | fail "sml")) _)); first | done | fail "chs")) (by omega)))).mono ?_; rintro en wa_pA ⟨va_pA, Fa, rfl, hh, _, hb⟩; have hk_pA := Below.trans (show Below w2.heap.size w2 _ by ((repeat (first | with_reducible assumption | with_reducible exact Below.refl _ _ | refine Below.setCell ?_ (by (first | omega | (simp; omega) | (simp; done) | fail "sml")) _ | refine Below.drew ?_ | refine Below.alloc ?_ (by (first | omega | (simp; omega) | (simp; done) | fail "sml")) _)); first | done | fail "chs")) (hb.mono (by (first | omega | (simp; omega) | (simp; done) | fail "sml"))); have z_pA := hk_pA.size; have raa_pA := Below.refl wa_pA.heap.size wa_pA; (first | (have r_pBpA := Below.trans (show Below wa_pB.heap.size wa_pB _ by ((repeat (first | with_reducible assumption | with_reducible exact Below.refl _ _ | refine Below.setCell ?_ (by (first | omega | (simp; omega) | (simp; done) | fail "sml")) _ | refine Below.drew ?_ | refine Below.alloc ?_ (by (first | omega | (simp; omega) | (simp; done) | fail "sml")) _)); first | done | fail "chs")) (hb.mono (by (first | omega | (simp; omega) | (simp; done) | fail "sml")))) | skip); have HH_pA := Lib.hid (fun X (hX : Below wa_pA.heap.size wa_pA X) => hh.at.to hX hX.size); clear hh hb)
        | (go_at_call 25; with_reducible refine (CT_pB.out _ (hA0.trans (Below.mono (show Below w2.heap.size w2 _ by ((repeat (first | with_reducible assumption | with_reducible exact Below.refl _ _ | refine Below.setCell ?_ (by (first | omega | (simp; omega) | (simp; done) | fail "sml")) _ | refine Below.drew ?_ | refine Below.alloc ?_ (by (first | omega | (simp; omega) | (simp; done) | fail "sml")) _)); first | done | fail "chs")) (by omega)))).mono ?_; rintro en wa_pB ⟨va_pB, Fa, rfl, hh, _, hb⟩; have hk_pB := Below.trans (show Below w2.heap.size w2 _ by ((repeat (first | with_reducible assumption | with_reducible exact Below.refl _ _ | refine Below.setCell ?_ (by (first | omega | (simp; omega) | (simp; done) | fail "sml")) _ | refine Below.drew ?_ | refine Below.alloc ?_ (by (first | omega | (simp; omega) | (simp; done) | fail "sml")) _)); first | done | fail "chs")) (hb.mono (by (first | omega | (simp; omega) | (simp; done) | fail "sml"))); have z_pB := hk_pB.size; have raa_pB := Below.refl wa_pB.heap.size wa_pB; (first | (have r_pApB := Below.trans (show Below wa_pA.heap.size wa_pA _ by ((repeat (first | with_reducible assumption | with_reducible exact Below.refl _ _ | refine Below.setCell ?_ (by (first | omega | (simp; omega) | (simp; done) | fail "sml")) _ | refine Below.drew ?_ | refine Below.alloc ?_ (by (first | omega | (simp; omega) | (simp; done) | fail "sml")) _)); first | done | fail "chs")) (hb.mono (by (first | omega | (simp; omega) | (simp; done) | fail "sml")))) | skip); have HH_pB := Lib.hid (fun X (hX : Below wa_pB.heap.size wa_pB X) => hh.at.to hX hX.size); clear hh hb)
        | (go_at_call 24; refine (CS.out _ _ _ _ (Nat.le_refl _) (HH_pA.out _ (by ((repeat (first | with_reducible assumption | with_reducible exact Below.refl _ _ | refine Below.setCell ?_ (by (first | omega | (simp; omega) | (simp; done) | fail "sml")) _ | refine Below.drew ?_ | refine Below.alloc ?_ (by (first | omega | (simp; omega) | (simp; done) | fail "sml")) _)); first | done | fail "chs"))) (HH_pB.out _ (by ((repeat (first | with_reducible assumption | with_reducible exact Below.refl _ _ | refine Below.setCell ?_ (by (first | omega | (simp; omega) | (simp; done) | fail "sml")) _ | refine Below.drew ?_ | refine Below.alloc ?_ (by (first | omega | (simp; omega) | (simp; done) | fail "sml")) _)); first | done | fail "chs")))).mono ?_; rintro en wq ⟨rfl, hbq⟩; have hkq := Below.trans (show Below w2.heap.size w2 _ by ((repeat (first | with_reducible assumption | with_reducible exact Below.refl _ _ | refine Below.setCell ?_ (by (first | omega | (simp; omega) | (simp; done) | fail "sml")) _ | refine Below.drew ?_ | refine Below.alloc ?_ (by (first | omega | (simp; omega) | (simp; done) | fail "sml")) _)); first | done | fail "chs")) (hbq.mono (by (first | omega | (simp; omega) | (simp; done) | fail "sml"))); clear hbq))
    all_goals (go_wp2_with fail; go_meet)
    all_goals exact ⟨rfl, by ((repeat (first | with_reducible assumption | with_reducible exact Below.refl _ _ | refine Below.setCell ?_ (by (first | omega | (simp; omega) | (simp; done) | fail "sml")) _ | refine Below.drew ?_ | refine Below.alloc ?_ (by (first | omega | (simp; omega) | (simp; done) | fail "sml")) _)); first | done | fail "chs")⟩
  case rest =>
  obtain ⟨rfl, hbx⟩ := hcut
  clear hz apA0 apA1 apA2 apA3 apA4 apA5 apA6 apA7 apA8 apA9 apA10 apA11 apA12 apB0 apB1 apB2 apB3 apB4 apB5 apB6 apB7 apB8 apB9 apB10 apB11 apB12 hq_pA hq_pB
  clear hA0 rr0
  obtain ⟨w3, ew⟩ : ∃ u, u = wc := ⟨_, rfl⟩
  subst ew
  have hs_w3 : w2.heap.size ≤ w3.heap.size := hbx.size
  have HA := Lib.hid (HA.out.trans (hbx.mono (by omega)))
  clear hbx
  obtain ⟨hz, apA0, apA1, apA2, apA3, apA4, apA5, apA6, apA7, apA8, apA9, apA10, apA11, apA12, apB0, apB1, apB2, apB3, apB4, apB5, apB6, apB7, apB8, apB9, apB10, apB11, apB12⟩ := HK.out _ HA.out
  have hq_pA : w.heap.size < w3.heap.size := by omega
  have hq_pB : w.heap.size + 1 < w3.heap.size := by omega
  go_wp2_with fail
  refine (CT_pA.out _ HA.out).mono ?_
  rintro en w4 ⟨vw4, FXpA, rfl, ho, hf, hb⟩
  clear hz apA0 apA1 apA2 apA3 apA4 apA5 apA6 apA7 apA8 apA9 apA10 apA11 apA12 apB0 apB1 apB2 apB3 apB4 apB5 apB6 apB7 apB8 apB9 apB10 apB11 apB12 hq_pA hq_pB
  have hs_w4 : w3.heap.size ≤ w4.heap.size := hb.size
  have HA := Lib.hid (HA.out.trans (hb.mono (by omega)))
  have HO := Lib.hid ho
  obtain ⟨pXpA, cXpA, qXpA, dXpA, rXpA, eXpA, rfl⟩ := ho.at.form
  clear ho hf hb
  obtain ⟨hz, apA0, apA1, apA2, apA3, apA4, apA5, apA6, apA7, apA8, apA9, apA10, apA11, apA12, apB0, apB1, apB2, apB3, apB4, apB5, apB6, apB7, apB8, apB9, apB10, apB11, apB12⟩ := HK.out _ HA.out
  have hq_pA : w.heap.size < w4.heap.size := by omega
  have hq_pB : w.heap.size + 1 < w4.heap.size := by omega
  go_wp2_with fail
  clear hz apA0 apA1 apA2 apA3 apA4 apA5 apA6 apA7 apA8 apA9 apA10 apA11 apA12 apB0 apB1 apB2 apB3 apB4 apB5 apB6 apB7 apB8 apB9 apB10 apB11 apB12 hq_pA hq_pB
  obtain ⟨W4, eW⟩ : ∃ u, u = w4.alloc (.cells #[.int .i64 pA.op, .bool pA.e.n, .string pA.e.v, .int .i64 pA.e.l.op, .string pA.e.l.a, .slice pXpA pA.e.l.ks.list.length cXpA, .int .i64 pA.e.c.op, .string pA.e.c.a, .slice qXpA pA.e.c.ks.list.length dXpA, .int .i64 pA.e.d, .slice rXpA pA.ks.list.length eXpA, .int .i64 pA.lo, .int .i64 pA.hi] 53) := ⟨_, rfl⟩
  rw [← eW]
  have hszW4 : w4.heap.size < W4.heap.size := by rw [eW]; simp
  have hbW : Below w4.heap.size w4 W4 := by rw [eW]; exact (Below.refl _ _).alloc (Nat.le_refl _) _
  have LXpA := Lib.hid (show LocV pA.Has w4.heap.size #[.int .i64 pA.op, .bool pA.e.n, .string pA.e.v, .int .i64 pA.e.l.op, .string pA.e.l.a, .slice pXpA pA.e.l.ks.list.length cXpA, .int .i64 pA.e.c.op, .string pA.e.c.a, .slice qXpA pA.e.c.ks.list.length dXpA, .int .i64 pA.e.d, .slice rXpA pA.ks.list.length eXpA, .int .i64 pA.lo, .int .i64 pA.hi] FXpA W4 by rw [eW]; exact LocV.fresh (Pt.goes pA) HO.out)
  have hs_W4 : w4.heap.size ≤ W4.heap.size := hbW.size
  have HA := Lib.hid (HA.out.trans (hbW.mono (by omega)))
  clear hbW eW HO
  refine (CT_pB.out _ HA.out).mono ?_
  rintro en w5 ⟨vw5, FXpB, rfl, ho, hf, hb⟩
  have hs_w5 : W4.heap.size ≤ w5.heap.size := hb.size
  have LXpA := Lib.hid (LXpA.out.below (Pt.goes pA) hb)
  have HA := Lib.hid (HA.out.trans (hb.mono (by omega)))
  have HO := Lib.hid ho
  obtain ⟨pXpB, cXpB, qXpB, dXpB, rXpB, eXpB, rfl⟩ := ho.at.form
  clear ho hf hb
  obtain ⟨hz, apA0, apA1, apA2, apA3, apA4, apA5, apA6, apA7, apA8, apA9, apA10, apA11, apA12, apB0, apB1, apB2, apB3, apB4, apB5, apB6, apB7, apB8, apB9, apB10, apB11, apB12⟩ := HK.out _ HA.out
  have hq_pA : w.heap.size < w5.heap.size := by omega
  have hq_pB : w.heap.size + 1 < w5.heap.size := by omega
  obtain ⟨xpAk, xpAc, _⟩ := LXpA.out
  have xpA0 := xpAc 0 _ rfl
  have xpA1 := xpAc 1 _ rfl
  have xpA2 := xpAc 2 _ rfl
  have xpA3 := xpAc 3 _ rfl
  have xpA4 := xpAc 4 _ rfl
  have xpA5 := xpAc 5 _ rfl
  have xpA6 := xpAc 6 _ rfl
  have xpA7 := xpAc 7 _ rfl
  have xpA8 := xpAc 8 _ rfl
  have xpA9 := xpAc 9 _ rfl
  have xpA10 := xpAc 10 _ rfl
  have xpA11 := xpAc 11 _ rfl
  have xpA12 := xpAc 12 _ rfl
  clear xpAc
  go_wp2_with fail
  clear hz apA0 apA1 apA2 apA3 apA4 apA5 apA6 apA7 apA8 apA9 apA10 apA11 apA12 apB0 apB1 apB2 apB3 apB4 apB5 apB6 apB7 apB8 apB9 apB10 apB11 apB12 hq_pA hq_pB xpAk xpA0 xpA1 xpA2 xpA3 xpA4 xpA5 xpA6 xpA7 xpA8 xpA9 xpA10 xpA11 xpA12
  obtain ⟨W5, eW⟩ : ∃ u, u = w5.alloc (.cells #[.int .i64 pB.op, .bool pB.e.n, .string pB.e.v, .int .i64 pB.e.l.op, .string pB.e.l.a, .slice pXpB pB.e.l.ks.list.length cXpB, .int .i64 pB.e.c.op, .string pB.e.c.a, .slice qXpB pB.e.c.ks.list.length dXpB, .int .i64 pB.e.d, .slice rXpB pB.ks.list.length eXpB, .int .i64 pB.lo, .int .i64 pB.hi] 53) := ⟨_, rfl⟩
  rw [← eW]
  have hszW5 : w5.heap.size < W5.heap.size := by rw [eW]; simp
  have hbW : Below w5.heap.size w5 W5 := by rw [eW]; exact (Below.refl _ _).alloc (Nat.le_refl _) _
  have LXpB := Lib.hid (show LocV pB.Has w5.heap.size #[.int .i64 pB.op, .bool pB.e.n, .string pB.e.v, .int .i64 pB.e.l.op, .string pB.e.l.a, .slice pXpB pB.e.l.ks.list.length cXpB, .int .i64 pB.e.c.op, .string pB.e.c.a, .slice qXpB pB.e.c.ks.list.length dXpB, .int .i64 pB.e.d, .slice rXpB pB.ks.list.length eXpB, .int .i64 pB.lo, .int .i64 pB.hi] FXpB W5 by rw [eW]; exact LocV.fresh (Pt.goes pB) HO.out)
  have hs_W5 : w5.heap.size ≤ W5.heap.size := hbW.size
  have LXpA := Lib.hid (LXpA.out.below (Pt.goes pA) hbW)
  have HA := Lib.hid (HA.out.trans (hbW.mono (by omega)))
  clear hbW eW HO
  refine (CI.out _ _ _ _ _ LXpA.out.2.2 LXpB.out.2.2).mono ?_
  rintro en w6 ⟨rfl, hb⟩
  have hs_w6 : W5.heap.size ≤ w6.heap.size := hb.size
  have LXpA := Lib.hid (LXpA.out.below (Pt.goes pA) hb)
  have LXpB := Lib.hid (LXpB.out.below (Pt.goes pB) hb)
  have HA := Lib.hid (HA.out.trans (hb.mono (by omega)))
  clear hb
  obtain ⟨hz, apA0, apA1, apA2, apA3, apA4, apA5, apA6, apA7, apA8, apA9, apA10, apA11, apA12, apB0, apB1, apB2, apB3, apB4, apB5, apB6, apB7, apB8, apB9, apB10, apB11, apB12⟩ := HK.out _ HA.out
  have hq_pA : w.heap.size < w6.heap.size := by omega
  have hq_pB : w.heap.size + 1 < w6.heap.size := by omega
  obtain ⟨xpAk, xpAc, _⟩ := LXpA.out
  have xpA0 := xpAc 0 _ rfl
  have xpA1 := xpAc 1 _ rfl
  have xpA2 := xpAc 2 _ rfl
  have xpA3 := xpAc 3 _ rfl
  have xpA4 := xpAc 4 _ rfl
  have xpA5 := xpAc 5 _ rfl
  have xpA6 := xpAc 6 _ rfl
  have xpA7 := xpAc 7 _ rfl
  have xpA8 := xpAc 8 _ rfl
  have xpA9 := xpAc 9 _ rfl
  have xpA10 := xpAc 10 _ rfl
  have xpA11 := xpAc 11 _ rfl
  have xpA12 := xpAc 12 _ rfl
  clear xpAc
  obtain ⟨xpBk, xpBc, _⟩ := LXpB.out
  have xpB0 := xpBc 0 _ rfl
  have xpB1 := xpBc 1 _ rfl
  have xpB2 := xpBc 2 _ rfl
  have xpB3 := xpBc 3 _ rfl
  have xpB4 := xpBc 4 _ rfl
  have xpB5 := xpBc 5 _ rfl
  have xpB6 := xpBc 6 _ rfl
  have xpB7 := xpBc 7 _ rfl
  have xpB8 := xpBc 8 _ rfl
  have xpB9 := xpBc 9 _ rfl
  have xpB10 := xpBc 10 _ rfl
  have xpB11 := xpBc 11 _ rfl
  have xpB12 := xpBc 12 _ rfl
  clear xpBc
  have hA0 := HA.out
  have rr0 := Below.refl w6.heap.size w6
  go_upto_region 14 with fail
  go_cut [39] (fun s wx => s = .bool false ∧ Below w6.heap.size w6 wx)
  case first =>
    go_region_held3 (fun w' => w'.cell? ⟨w.heap.size, 0, none⟩ = some (.int .i64 pA.op) ∧ w'.cell? ⟨w.heap.size, 1, none⟩ = some (.bool pA.e.n) ∧ w'.cell? ⟨w.heap.size, 2, none⟩ = some (.string pA.e.v) ∧ w'.cell? ⟨w.heap.size, 3, none⟩ = some (.int .i64 pA.e.l.op) ∧ w'.cell? ⟨w.heap.size, 4, none⟩ = some (.string pA.e.l.a) ∧ w'.cell? ⟨w.heap.size, 5, none⟩ = some (.slice p0pA pA.e.l.ks.list.length c0pA) ∧ w'.cell? ⟨w.heap.size, 6, none⟩ = some (.int .i64 pA.e.c.op) ∧ w'.cell? ⟨w.heap.size, 7, none⟩ = some (.string pA.e.c.a) ∧ w'.cell? ⟨w.heap.size, 8, none⟩ = some (.slice q0pA pA.e.c.ks.list.length d0pA) ∧ w'.cell? ⟨w.heap.size, 9, none⟩ = some (.int .i64 pA.e.d) ∧ w'.cell? ⟨w.heap.size, 10, none⟩ = some (.slice r0pA pA.ks.list.length e0pA) ∧ w'.cell? ⟨w.heap.size, 11, none⟩ = some (.int .i64 pA.lo) ∧ w'.cell? ⟨w.heap.size, 12, none⟩ = some (.int .i64 pA.hi) ∧ w'.cell? ⟨w4.heap.size, 0, none⟩ = some (.int .i64 pA.op) ∧ w'.cell? ⟨w4.heap.size, 1, none⟩ = some (.bool pA.e.n) ∧ w'.cell? ⟨w4.heap.size, 2, none⟩ = some (.string pA.e.v) ∧ w'.cell? ⟨w4.heap.size, 3, none⟩ = some (.int .i64 pA.e.l.op) ∧ w'.cell? ⟨w4.heap.size, 4, none⟩ = some (.string pA.e.l.a) ∧ w'.cell? ⟨w4.heap.size, 5, none⟩ = some (.slice pXpA pA.e.l.ks.list.length cXpA) ∧ w'.cell? ⟨w4.heap.size, 6, none⟩ = some (.int .i64 pA.e.c.op) ∧ w'.cell? ⟨w4.heap.size, 7, none⟩ = some (.string pA.e.c.a) ∧ w'.cell? ⟨w4.heap.size, 8, none⟩ = some (.slice qXpA pA.e.c.ks.list.length dXpA) ∧ w'.cell? ⟨w4.heap.size, 9, none⟩ = some (.int .i64 pA.e.d) ∧ w'.cell? ⟨w4.heap.size, 10, none⟩ = some (.slice rXpA pA.ks.list.length eXpA) ∧ w'.cell? ⟨w4.heap.size, 11, none⟩ = some (.int .i64 pA.lo) ∧ w'.cell? ⟨w4.heap.size, 12, none⟩ = some (.int .i64 pA.hi))
      (exact ⟨keepc (show Below w6.heap.size w6 _ by ((repeat (first | with_reducible assumption | with_reducible exact Below.refl _ _ | refine Below.setCell ?_ (by (first | omega | (simp; omega) | (simp; done) | fail "sml")) _ | refine Below.drew ?_ | refine Below.alloc ?_ (by (first | omega | (simp; omega) | (simp; done) | fail "sml")) _)); first | done | fail "chs")) hq_pA apA0, keepc (show Below w6.heap.size w6 _ by ((repeat (first | with_reducible assumption | with_reducible exact Below.refl _ _ | refine Below.setCell ?_ (by (first | omega | (simp; omega) | (simp; done) | fail "sml")) _ | refine Below.drew ?_ | refine Below.alloc ?_ (by (first | omega | (simp; omega) | (simp; done) | fail "sml")) _)); first | done | fail "chs")) hq_pA apA1, keepc (show Below w6.heap.size w6 _ by ((repeat (first | with_reducible assumption | with_reducible exact Below.refl _ _ | refine Below.setCell ?_ (by (first | omega | (simp; omega) | (simp; done) | fail "sml")) _ | refine Below.drew ?_ | refine Below.alloc ?_ (by (first | omega | (simp; omega) | (simp; done) | fail "sml")) _)); first | done | fail "chs")) hq_pA apA2, keepc (show Below w6.heap.size w6 _ by ((repeat (first | with_reducible assumption | with_reducible exact Below.refl _ _ | refine Below.setCell ?_ (by (first | omega | (simp; omega) | (simp; done) | fail "sml")) _ | refine Below.drew ?_ | refine Below.alloc ?_ (by (first | omega | (simp; omega) | (simp; done) | fail "sml")) _)); first | done | fail "chs")) hq_pA apA3, keepc (show Below w6.heap.size w6 _ by ((repeat (first | with_reducible assumption | with_reducible exact Below.refl _ _ | refine Below.setCell ?_ (by (first | omega | (simp; omega) | (simp; done) | fail "sml")) _ | refine Below.drew ?_ | refine Below.alloc ?_ (by (first | omega | (simp; omega) | (simp; done) | fail "sml")) _)); first | done | fail "chs")) hq_pA apA4, keepc (show Below w6.heap.size w6 _ by ((repeat (first | with_reducible assumption | with_reducible exact Below.refl _ _ | refine Below.setCell ?_ (by (first | omega | (simp; omega) | (simp; done) | fail "sml")) _ | refine Below.drew ?_ | refine Below.alloc ?_ (by (first | omega | (simp; omega) | (simp; done) | fail "sml")) _)); first | done | fail "chs")) hq_pA apA5, keepc (show Below w6.heap.size w6 _ by ((repeat (first | with_reducible assumption | with_reducible exact Below.refl _ _ | refine Below.setCell ?_ (by (first | omega | (simp; omega) | (simp; done) | fail "sml")) _ | refine Below.drew ?_ | refine Below.alloc ?_ (by (first | omega | (simp; omega) | (simp; done) | fail "sml")) _)); first | done | fail "chs")) hq_pA apA6, keepc (show Below w6.heap.size w6 _ by ((repeat (first | with_reducible assumption | with_reducible exact Below.refl _ _ | refine Below.setCell ?_ (by (first | omega | (simp; omega) | (simp; done) | fail "sml")) _ | refine Below.drew ?_ | refine Below.alloc ?_ (by (first | omega | (simp; omega) | (simp; done) | fail "sml")) _)); first | done | fail "chs")) hq_pA apA7, keepc (show Below w6.heap.size w6 _ by ((repeat (first | with_reducible assumption | with_reducible exact Below.refl _ _ | refine Below.setCell ?_ (by (first | omega | (simp; omega) | (simp; done) | fail "sml")) _ | refine Below.drew ?_ | refine Below.alloc ?_ (by (first | omega | (simp; omega) | (simp; done) | fail "sml")) _)); first | done | fail "chs")) hq_pA apA8, keepc (show Below w6.heap.size w6 _ by ((repeat (first | with_reducible assumption | with_reducible exact Below.refl _ _ | refine Below.setCell ?_ (by (first | omega | (simp; omega) | (simp; done) | fail "sml")) _ | refine Below.drew ?_ | refine Below.alloc ?_ (by (first | omega | (simp; omega) | (simp; done) | fail "sml")) _)); first | done | fail "chs")) hq_pA apA9, keepc (show Below w6.heap.size w6 _ by ((repeat (first | with_reducible assumption | with_reducible exact Below.refl _ _ | refine Below.setCell ?_ (by (first | omega | (simp; omega) | (simp; done) | fail "sml")) _ | refine Below.drew ?_ | refine Below.alloc ?_ (by (first | omega | (simp; omega) | (simp; done) | fail "sml")) _)); first | done | fail "chs")) hq_pA apA10, keepc (show Below w6.heap.size w6 _ by ((repeat (first | with_reducible assumption | with_reducible exact Below.refl _ _ | refine Below.setCell ?_ (by (first | omega | (simp; omega) | (simp; done) | fail "sml")) _ | refine Below.drew ?_ | refine Below.alloc ?_ (by (first | omega | (simp; omega) | (simp; done) | fail "sml")) _)); first | done | fail "chs")) hq_pA apA11, keepc (show Below w6.heap.size w6 _ by ((repeat (first | with_reducible assumption | with_reducible exact Below.refl _ _ | refine Below.setCell ?_ (by (first | omega | (simp; omega) | (simp; done) | fail "sml")) _ | refine Below.drew ?_ | refine Below.alloc ?_ (by (first | omega | (simp; omega) | (simp; done) | fail "sml")) _)); first | done | fail "chs")) hq_pA apA12, keepc (show Below w6.heap.size w6 _ by ((repeat (first | with_reducible assumption | with_reducible exact Below.refl _ _ | refine Below.setCell ?_ (by (first | omega | (simp; omega) | (simp; done) | fail "sml")) _ | refine Below.drew ?_ | refine Below.alloc ?_ (by (first | omega | (simp; omega) | (simp; done) | fail "sml")) _)); first | done | fail "chs")) xpAk xpA0, keepc (show Below w6.heap.size w6 _ by ((repeat (first | with_reducible assumption | with_reducible exact Below.refl _ _ | refine Below.setCell ?_ (by (first | omega | (simp; omega) | (simp; done) | fail "sml")) _ | refine Below.drew ?_ | refine Below.alloc ?_ (by (first | omega | (simp; omega) | (simp; done) | fail "sml")) _)); first | done | fail "chs")) xpAk xpA1, keepc (show Below w6.heap.size w6 _ by ((repeat (first | with_reducible assumption | with_reducible exact Below.refl _ _ | refine Below.setCell ?_ (by (first | omega | (simp; omega) | (simp; done) | fail "sml")) _ | refine Below.drew ?_ | refine Below.alloc ?_ (by (first | omega | (simp; omega) | (simp; done) | fail "sml")) _)); first | done | fail "chs")) xpAk xpA2, keepc (show Below w6.heap.size w6 _ by ((repeat (first | with_reducible assumption | with_reducible exact Below.refl _ _ | refine Below.setCell ?_ (by (first | omega | (simp; omega) | (simp; done) | fail "sml")) _ | refine Below.drew ?_ | refine Below.alloc ?_ (by (first | omega | (simp; omega) | (simp; done) | fail "sml")) _)); first | done | fail "chs")) xpAk xpA3, keepc (show Below w6.heap.size w6 _ by ((repeat (first | with_reducible assumption | with_reducible exact Below.refl _ _ | refine Below.setCell ?_ (by (first | omega | (simp; omega) | (simp; done) | fail "sml")) _ | refine Below.drew ?_ | refine Below.alloc ?_ (by (first | omega | (simp; omega) | (simp; done) | fail "sml")) _)); first | done | fail "chs")) xpAk xpA4, keepc (show Below w6.heap.size w6 _ by ((repeat (first | with_reducible assumption | with_reducible exact Below.refl _ _ | refine Below.setCell ?_ (by (first | omega | (simp; omega) | (simp; done) | fail "sml")) _ | refine Below.drew ?_ | refine Below.alloc ?_ (by (first | omega | (simp; omega) | (simp; done) | fail "sml")) _)); first | done | fail "chs")) xpAk xpA5, keepc (show Below w6.heap.size w6 _ by ((repeat (first | with_reducible assumption | with_reducible exact Below.refl _ _ | refine Below.setCell ?_ (by (first | omega | (simp; omega) | (simp; done) | fail "sml")) _ | refine Below.drew ?_ | refine Below.alloc ?_ (by (first | omega | (simp; omega) | (simp; done) | fail "sml")) _)); first | done | fail "chs")) xpAk xpA6, keepc (show Below w6.heap.size w6 _ by ((repeat (first | with_reducible assumption | with_reducible exact Below.refl _ _ | refine Below.setCell ?_ (by (first | omega | (simp; omega) | (simp; done) | fail "sml")) _ | refine Below.drew ?_ | refine Below.alloc ?_ (by (first | omega | (simp; omega) | (simp; done) | fail "sml")) _)); first | done | fail "chs")) xpAk xpA7, keepc (show Below w6.heap.size w6 _ by ((repeat (first | with_reducible assumption | with_reducible exact Below.refl _ _ | refine Below.setCell ?_ (by (first | omega | (simp; omega) | (simp; done) | fail "sml")) _ | refine Below.drew ?_ | refine Below.alloc ?_ (by (first | omega | (simp; omega) | (simp; done) | fail "sml")) _)); first | done | fail "chs")) xpAk xpA8, keepc (show Below w6.heap.size w6 _ by ((repeat (first | with_reducible assumption | with_reducible exact Below.refl _ _ | refine Below.setCell ?_ (by (first | omega | (simp; omega) | (simp; done) | fail "sml")) _ | refine Below.drew ?_ | refine Below.alloc ?_ (by (first | omega | (simp; omega) | (simp; done) | fail "sml")) _)); first | done | fail "chs")) xpAk xpA9, keepc (show Below w6.heap.size w6 _ by ((repeat (first | with_reducible assumption | with_reducible exact Below.refl _ _ | refine Below.setCell ?_ (by (first | omega | (simp; omega) | (simp; done) | fail "sml")) _ | refine Below.drew ?_ | refine Below.alloc ?_ (by (first | omega | (simp; omega) | (simp; done) | fail "sml")) _)); first | done | fail "chs")) xpAk xpA10, keepc (show Below w6.heap.size w6 _ by ((repeat (first | with_reducible assumption | with_reducible exact Below.refl _ _ | refine Below.setCell ?_ (by (first | omega | (simp; omega) | (simp; done) | fail "sml")) _ | refine Below.drew ?_ | refine Below.alloc ?_ (by (first | omega | (simp; omega) | (simp; done) | fail "sml")) _)); first | done | fail "chs")) xpAk xpA11, keepc (show Below w6.heap.size w6 _ by ((repeat (first | with_reducible assumption | with_reducible exact Below.refl _ _ | refine Below.setCell ?_ (by (first | omega | (simp; omega) | (simp; done) | fail "sml")) _ | refine Below.drew ?_ | refine Below.alloc ?_ (by (first | omega | (simp; omega) | (simp; done) | fail "sml")) _)); first | done | fail "chs")) xpAk xpA12⟩)
      (first
        | (go_at_call 25; refine (CT_pA.out _ (hA0.trans (Below.mono (show Below w6.heap.size w6 _ by ((repeat (first | with_reducible assumption | with_reducible exact Below.refl _ _ | refine Below.setCell ?_ (by (first | omega | (simp; omega) | (simp; done) | fail "sml")) _ | refine Below.drew ?_ | refine Below.alloc ?_ (by (first | omega | (simp; omega) | (simp; done) | fail "sml")) _)); first | done | fail "chs")) (by omega)))).mono ?_; rintro en wa ⟨va, Fa, rfl, hh, _, hb⟩; have hka := Below.trans (show Below w6.heap.size w6 _ by ((repeat (first | with_reducible assumption | with_reducible exact Below.refl _ _ | refine Below.setCell ?_ (by (first | omega | (simp; omega) | (simp; done) | fail "sml")) _ | refine Below.drew ?_ | refine Below.alloc ?_ (by (first | omega | (simp; omega) | (simp; done) | fail "sml")) _)); first | done | fail "chs")) (hb.mono (by (first | omega | (simp; omega) | (simp; done) | fail "sml"))); have za := hka.size; have HHa := Lib.hid hh.at; clear hh hb)
        | (go_at_call 27; refine (eqPat_any pA _ _ wa.heap.size _ (LXpA.out.2.2.at.to (by ((repeat (first | with_reducible assumption | with_reducible exact Below.refl _ _ | refine Below.setCell ?_ (by (first | omega | (simp; omega) | (simp; done) | fail "sml")) _ | refine Below.drew ?_ | refine Below.alloc ?_ (by (first | omega | (simp; omega) | (simp; done) | fail "sml")) _)); first | done | fail "chs")) (by omega)) (HHa.out.to (by ((repeat (first | with_reducible assumption | with_reducible exact Below.refl _ _ | refine Below.setCell ?_ (by (first | omega | (simp; omega) | (simp; done) | fail "sml")) _ | refine Below.drew ?_ | refine Below.alloc ?_ (by (first | omega | (simp; omega) | (simp; done) | fail "sml")) _)); first | done | fail "chs")) (Nat.le_refl _)) (by (first | omega | (simp; omega) | (simp; done) | fail "sml"))).mono ?_; rintro en wb ⟨rfl, hbb⟩; have hkb := Below.trans (show Below w6.heap.size w6 _ by ((repeat (first | with_reducible assumption | with_reducible exact Below.refl _ _ | refine Below.setCell ?_ (by (first | omega | (simp; omega) | (simp; done) | fail "sml")) _ | refine Below.drew ?_ | refine Below.alloc ?_ (by (first | omega | (simp; omega) | (simp; done) | fail "sml")) _)); first | done | fail "chs")) (hbb.mono (by first | omega | (simp; omega))); clear hbb))
    all_goals (go_wp2_with fail; go_meet)
    all_goals exact ⟨rfl, by ((repeat (first | with_reducible assumption | with_reducible exact Below.refl _ _ | refine Below.setCell ?_ (by (first | omega | (simp; omega) | (simp; done) | fail "sml")) _ | refine Below.drew ?_ | refine Below.alloc ?_ (by (first | omega | (simp; omega) | (simp; done) | fail "sml")) _)); first | done | fail "chs")⟩
  case rest =>
  obtain ⟨rfl, hbx⟩ := hcut
  clear hz apA0 apA1 apA2 apA3 apA4 apA5 apA6 apA7 apA8 apA9 apA10 apA11 apA12 apB0 apB1 apB2 apB3 apB4 apB5 apB6 apB7 apB8 apB9 apB10 apB11 apB12 hq_pA hq_pB xpAk xpA0 xpA1 xpA2 xpA3 xpA4 xpA5 xpA6 xpA7 xpA8 xpA9 xpA10 xpA11 xpA12 xpBk xpB0 xpB1 xpB2 xpB3 xpB4 xpB5 xpB6 xpB7 xpB8 xpB9 xpB10 xpB11 xpB12
  clear hA0 rr0
  obtain ⟨w7, ew⟩ : ∃ u, u = wc := ⟨_, rfl⟩
  subst ew
  have hs_w7 : w6.heap.size ≤ w7.heap.size := hbx.size
  have LXpA := Lib.hid (LXpA.out.below (Pt.goes pA) hbx)
  have LXpB := Lib.hid (LXpB.out.below (Pt.goes pB) hbx)
  have HA := Lib.hid (HA.out.trans (hbx.mono (by omega)))
  clear hbx
  obtain ⟨hz, apA0, apA1, apA2, apA3, apA4, apA5, apA6, apA7, apA8, apA9, apA10, apA11, apA12, apB0, apB1, apB2, apB3, apB4, apB5, apB6, apB7, apB8, apB9, apB10, apB11, apB12⟩ := HK.out _ HA.out
  have hq_pA : w.heap.size < w7.heap.size := by omega
  have hq_pB : w.heap.size + 1 < w7.heap.size := by omega
  obtain ⟨xpAk, xpAc, _⟩ := LXpA.out
  have xpA0 := xpAc 0 _ rfl
  have xpA1 := xpAc 1 _ rfl
  have xpA2 := xpAc 2 _ rfl
  have xpA3 := xpAc 3 _ rfl
  have xpA4 := xpAc 4 _ rfl
  have xpA5 := xpAc 5 _ rfl
  have xpA6 := xpAc 6 _ rfl
  have xpA7 := xpAc 7 _ rfl
  have xpA8 := xpAc 8 _ rfl
  have xpA9 := xpAc 9 _ rfl
  have xpA10 := xpAc 10 _ rfl
  have xpA11 := xpAc 11 _ rfl
  have xpA12 := xpAc 12 _ rfl
  clear xpAc
  obtain ⟨xpBk, xpBc, _⟩ := LXpB.out
  have xpB0 := xpBc 0 _ rfl
  have xpB1 := xpBc 1 _ rfl
  have xpB2 := xpBc 2 _ rfl
  have xpB3 := xpBc 3 _ rfl
  have xpB4 := xpBc 4 _ rfl
  have xpB5 := xpBc 5 _ rfl
  have xpB6 := xpBc 6 _ rfl
  have xpB7 := xpBc 7 _ rfl
  have xpB8 := xpBc 8 _ rfl
  have xpB9 := xpBc 9 _ rfl
  have xpB10 := xpBc 10 _ rfl
  have xpB11 := xpBc 11 _ rfl
  have xpB12 := xpBc 12 _ rfl
  clear xpBc
  have hA0 := HA.out
  have rr0 := Below.refl w7.heap.size w7
  go_upto_region 16 with fail
  go_cut [44] (fun s wx => s = .bool false ∧ Below w7.heap.size w7 wx)
  case first =>
    go_region_held3 (fun w' => w'.cell? ⟨w.heap.size + 1, 0, none⟩ = some (.int .i64 pB.op) ∧ w'.cell? ⟨w.heap.size + 1, 1, none⟩ = some (.bool pB.e.n) ∧ w'.cell? ⟨w.heap.size + 1, 2, none⟩ = some (.string pB.e.v) ∧ w'.cell? ⟨w.heap.size + 1, 3, none⟩ = some (.int .i64 pB.e.l.op) ∧ w'.cell? ⟨w.heap.size + 1, 4, none⟩ = some (.string pB.e.l.a) ∧ w'.cell? ⟨w.heap.size + 1, 5, none⟩ = some (.slice p0pB pB.e.l.ks.list.length c0pB) ∧ w'.cell? ⟨w.heap.size + 1, 6, none⟩ = some (.int .i64 pB.e.c.op) ∧ w'.cell? ⟨w.heap.size + 1, 7, none⟩ = some (.string pB.e.c.a) ∧ w'.cell? ⟨w.heap.size + 1, 8, none⟩ = some (.slice q0pB pB.e.c.ks.list.length d0pB) ∧ w'.cell? ⟨w.heap.size + 1, 9, none⟩ = some (.int .i64 pB.e.d) ∧ w'.cell? ⟨w.heap.size + 1, 10, none⟩ = some (.slice r0pB pB.ks.list.length e0pB) ∧ w'.cell? ⟨w.heap.size + 1, 11, none⟩ = some (.int .i64 pB.lo) ∧ w'.cell? ⟨w.heap.size + 1, 12, none⟩ = some (.int .i64 pB.hi) ∧ w'.cell? ⟨w5.heap.size, 0, none⟩ = some (.int .i64 pB.op) ∧ w'.cell? ⟨w5.heap.size, 1, none⟩ = some (.bool pB.e.n) ∧ w'.cell? ⟨w5.heap.size, 2, none⟩ = some (.string pB.e.v) ∧ w'.cell? ⟨w5.heap.size, 3, none⟩ = some (.int .i64 pB.e.l.op) ∧ w'.cell? ⟨w5.heap.size, 4, none⟩ = some (.string pB.e.l.a) ∧ w'.cell? ⟨w5.heap.size, 5, none⟩ = some (.slice pXpB pB.e.l.ks.list.length cXpB) ∧ w'.cell? ⟨w5.heap.size, 6, none⟩ = some (.int .i64 pB.e.c.op) ∧ w'.cell? ⟨w5.heap.size, 7, none⟩ = some (.string pB.e.c.a) ∧ w'.cell? ⟨w5.heap.size, 8, none⟩ = some (.slice qXpB pB.e.c.ks.list.length dXpB) ∧ w'.cell? ⟨w5.heap.size, 9, none⟩ = some (.int .i64 pB.e.d) ∧ w'.cell? ⟨w5.heap.size, 10, none⟩ = some (.slice rXpB pB.ks.list.length eXpB) ∧ w'.cell? ⟨w5.heap.size, 11, none⟩ = some (.int .i64 pB.lo) ∧ w'.cell? ⟨w5.heap.size, 12, none⟩ = some (.int .i64 pB.hi))
      (exact ⟨keepc (show Below w7.heap.size w7 _ by ((repeat (first | with_reducible assumption | with_reducible exact Below.refl _ _ | refine Below.setCell ?_ (by (first | omega | (simp; omega) | (simp; done) | fail "sml")) _ | refine Below.drew ?_ | refine Below.alloc ?_ (by (first | omega | (simp; omega) | (simp; done) | fail "sml")) _)); first | done | fail "chs")) hq_pB apB0, keepc (show Below w7.heap.size w7 _ by ((repeat (first | with_reducible assumption | with_reducible exact Below.refl _ _ | refine Below.setCell ?_ (by (first | omega | (simp; omega) | (simp; done) | fail "sml")) _ | refine Below.drew ?_ | refine Below.alloc ?_ (by (first | omega | (simp; omega) | (simp; done) | fail "sml")) _)); first | done | fail "chs")) hq_pB apB1, keepc (show Below w7.heap.size w7 _ by ((repeat (first | with_reducible assumption | with_reducible exact Below.refl _ _ | refine Below.setCell ?_ (by (first | omega | (simp; omega) | (simp; done) | fail "sml")) _ | refine Below.drew ?_ | refine Below.alloc ?_ (by (first | omega | (simp; omega) | (simp; done) | fail "sml")) _)); first | done | fail "chs")) hq_pB apB2, keepc (show Below w7.heap.size w7 _ by ((repeat (first | with_reducible assumption | with_reducible exact Below.refl _ _ | refine Below.setCell ?_ (by (first | omega | (simp; omega) | (simp; done) | fail "sml")) _ | refine Below.drew ?_ | refine Below.alloc ?_ (by (first | omega | (simp; omega) | (simp; done) | fail "sml")) _)); first | done | fail "chs")) hq_pB apB3, keepc (show Below w7.heap.size w7 _ by ((repeat (first | with_reducible assumption | with_reducible exact Below.refl _ _ | refine Below.setCell ?_ (by (first | omega | (simp; omega) | (simp; done) | fail "sml")) _ | refine Below.drew ?_ | refine Below.alloc ?_ (by (first | omega | (simp; omega) | (simp; done) | fail "sml")) _)); first | done | fail "chs")) hq_pB apB4, keepc (show Below w7.heap.size w7 _ by ((repeat (first | with_reducible assumption | with_reducible exact Below.refl _ _ | refine Below.setCell ?_ (by (first | omega | (simp; omega) | (simp; done) | fail "sml")) _ | refine Below.drew ?_ | refine Below.alloc ?_ (by (first | omega | (simp; omega) | (simp; done) | fail "sml")) _)); first | done | fail "chs")) hq_pB apB5, keepc (show Below w7.heap.size w7 _ by ((repeat (first | with_reducible assumption | with_reducible exact Below.refl _ _ | refine Below.setCell ?_ (by (first | omega | (simp; omega) | (simp; done) | fail "sml")) _ | refine Below.drew ?_ | refine Below.alloc ?_ (by (first | omega | (simp; omega) | (simp; done) | fail "sml")) _)); first | done | fail "chs")) hq_pB apB6, keepc (show Below w7.heap.size w7 _ by ((repeat (first | with_reducible assumption | with_reducible exact Below.refl _ _ | refine Below.setCell ?_ (by (first | omega | (simp; omega) | (simp; done) | fail "sml")) _ | refine Below.drew ?_ | refine Below.alloc ?_ (by (first | omega | (simp; omega) | (simp; done) | fail "sml")) _)); first | done | fail "chs")) hq_pB apB7, keepc (show Below w7.heap.size w7 _ by ((repeat (first | with_reducible assumption | with_reducible exact Below.refl _ _ | refine Below.setCell ?_ (by (first | omega | (simp; omega) | (simp; done) | fail "sml")) _ | refine Below.drew ?_ | refine Below.alloc ?_ (by (first | omega | (simp; omega) | (simp; done) | fail "sml")) _)); first | done | fail "chs")) hq_pB apB8, keepc (show Below w7.heap.size w7 _ by ((repeat (first | with_reducible assumption | with_reducible exact Below.refl _ _ | refine Below.setCell ?_ (by (first | omega | (simp; omega) | (simp; done) | fail "sml")) _ | refine Below.drew ?_ | refine Below.alloc ?_ (by (first | omega | (simp; omega) | (simp; done) | fail "sml")) _)); first | done | fail "chs")) hq_pB apB9, keepc (show Below w7.heap.size w7 _ by ((repeat (first | with_reducible assumption | with_reducible exact Below.refl _ _ | refine Below.setCell ?_ (by (first | omega | (simp; omega) | (simp; done) | fail "sml")) _ | refine Below.drew ?_ | refine Below.alloc ?_ (by (first | omega | (simp; omega) | (simp; done) | fail "sml")) _)); first | done | fail "chs")) hq_pB apB10, keepc (show Below w7.heap.size w7 _ by ((repeat (first | with_reducible assumption | with_reducible exact Below.refl _ _ | refine Below.setCell ?_ (by (first | omega | (simp; omega) | (simp; done) | fail "sml")) _ | refine Below.drew ?_ | refine Below.alloc ?_ (by (first | omega | (simp; omega) | (simp; done) | fail "sml")) _)); first | done | fail "chs")) hq_pB apB11, keepc (show Below w7.heap.size w7 _ by ((repeat (first | with_reducible assumption | with_reducible exact Below.refl _ _ | refine Below.setCell ?_ (by (first | omega | (simp; omega) | (simp; done) | fail "sml")) _ | refine Below.drew ?_ | refine Below.alloc ?_ (by (first | omega | (simp; omega) | (simp; done) | fail "sml")) _)); first | done | fail "chs")) hq_pB apB12, keepc (show Below w7.heap.size w7 _ by ((repeat (first | with_reducible assumption | with_reducible exact Below.refl _ _ | refine Below.setCell ?_ (by (first | omega | (simp; omega) | (simp; done) | fail "sml")) _ | refine Below.drew ?_ | refine Below.alloc ?_ (by (first | omega | (simp; omega) | (simp; done) | fail "sml")) _)); first | done | fail "chs")) xpBk xpB0, keepc (show Below w7.heap.size w7 _ by ((repeat (first | with_reducible assumption | with_reducible exact Below.refl _ _ | refine Below.setCell ?_ (by (first | omega | (simp; omega) | (simp; done) | fail "sml")) _ | refine Below.drew ?_ | refine Below.alloc ?_ (by (first | omega | (simp; omega) | (simp; done) | fail "sml")) _)); first | done | fail "chs")) xpBk xpB1, keepc (show Below w7.heap.size w7 _ by ((repeat (first | with_reducible assumption | with_reducible exact Below.refl _ _ | refine Below.setCell ?_ (by (first | omega | (simp; omega) | (simp; done) | fail "sml")) _ | refine Below.drew ?_ | refine Below.alloc ?_ (by (first | omega | (simp; omega) | (simp; done) | fail "sml")) _)); first | done | fail "chs")) xpBk xpB2, keepc (show Below w7.heap.size w7 _ by ((repeat (first | with_reducible assumption | with_reducible exact Below.refl _ _ | refine Below.setCell ?_ (by (first | omega | (simp; omega) | (simp; done) | fail "sml")) _ | refine Below.drew ?_ | refine Below.alloc ?_ (by (first | omega | (simp; omega) | (simp; done) | fail "sml")) _)); first | done | fail "chs")) xpBk xpB3, keepc (show Below w7.heap.size w7 _ by ((repeat (first | with_reducible assumption | with_reducible exact Below.refl _ _ | refine Below.setCell ?_ (by (first | omega | (simp; omega) | (simp; done) | fail "sml")) _ | refine Below.drew ?_ | refine Below.alloc ?_ (by (first | omega | (simp; omega) | (simp; done) | fail "sml")) _)); first | done | fail "chs")) xpBk xpB4, keepc (show Below w7.heap.size w7 _ by ((repeat (first | with_reducible assumption | with_reducible exact Below.refl _ _ | refine Below.setCell ?_ (by (first | omega | (simp; omega) | (simp; done) | fail "sml")) _ | refine Below.drew ?_ | refine Below.alloc ?_ (by (first | omega | (simp; omega) | (simp; done) | fail "sml")) _)); first | done | fail "chs")) xpBk xpB5, keepc (show Below w7.heap.size w7 _ by ((repeat (first | with_reducible assumption | with_reducible exact Below.refl _ _ | refine Below.setCell ?_ (by (first | omega | (simp; omega) | (simp; done) | fail "sml")) _ | refine Below.drew ?_ | refine Below.alloc ?_ (by (first | omega | (simp; omega) | (simp; done) | fail "sml")) _)); first | done | fail "chs")) xpBk xpB6, keepc (show Below w7.heap.size w7 _ by ((repeat (first | with_reducible assumption | with_reducible exact Below.refl _ _ | refine Below.setCell ?_ (by (first | omega | (simp; omega) | (simp; done) | fail "sml")) _ | refine Below.drew ?_ | refine Below.alloc ?_ (by (first | omega | (simp; omega) | (simp; done) | fail "sml")) _)); first | done | fail "chs")) xpBk xpB7, keepc (show Below w7.heap.size w7 _ by ((repeat (first | with_reducible assumption | with_reducible exact Below.refl _ _ | refine Below.setCell ?_ (by (first | omega | (simp; omega) | (simp; done) | fail "sml")) _ | refine Below.drew ?_ | refine Below.alloc ?_ (by (first | omega | (simp; omega) | (simp; done) | fail "sml")) _)); first | done | fail "chs")) xpBk xpB8, keepc (show Below w7.heap.size w7 _ by ((repeat (first | with_reducible assumption | with_reducible exact Below.refl _ _ | refine Below.setCell ?_ (by (first | omega | (simp; omega) | (simp; done) | fail "sml")) _ | refine Below.drew ?_ | refine Below.alloc ?_ (by (first | omega | (simp; omega) | (simp; done) | fail "sml")) _)); first | done | fail "chs")) xpBk xpB9, keepc (show Below w7.heap.size w7 _ by ((repeat (first | with_reducible assumption | with_reducible exact Below.refl _ _ | refine Below.setCell ?_ (by (first | omega | (simp; omega) | (simp; done) | fail "sml")) _ | refine Below.drew ?_ | refine Below.alloc ?_ (by (first | omega | (simp; omega) | (simp; done) | fail "sml")) _)); first | done | fail "chs")) xpBk xpB10, keepc (show Below w7.heap.size w7 _ by ((repeat (first | with_reducible assumption | with_reducible exact Below.refl _ _ | refine Below.setCell ?_ (by (first | omega | (simp; omega) | (simp; done) | fail "sml")) _ | refine Below.drew ?_ | refine Below.alloc ?_ (by (first | omega | (simp; omega) | (simp; done) | fail "sml")) _)); first | done | fail "chs")) xpBk xpB11, keepc (show Below w7.heap.size w7 _ by ((repeat (first | with_reducible assumption | with_reducible exact Below.refl _ _ | refine Below.setCell ?_ (by (first | omega | (simp; omega) | (simp; done) | fail "sml")) _ | refine Below.drew ?_ | refine Below.alloc ?_ (by (first | omega | (simp; omega) | (simp; done) | fail "sml")) _)); first | done | fail "chs")) xpBk xpB12⟩)
      (first
        | (go_at_call 25; refine (CT_pB.out _ (hA0.trans (Below.mono (show Below w7.heap.size w7 _ by ((repeat (first | with_reducible assumption | with_reducible exact Below.refl _ _ | refine Below.setCell ?_ (by (first | omega | (simp; omega) | (simp; done) | fail "sml")) _ | refine Below.drew ?_ | refine Below.alloc ?_ (by (first | omega | (simp; omega) | (simp; done) | fail "sml")) _)); first | done | fail "chs")) (by omega)))).mono ?_; rintro en wa ⟨va, Fa, rfl, hh, _, hb⟩; have hka := Below.trans (show Below w7.heap.size w7 _ by ((repeat (first | with_reducible assumption | with_reducible exact Below.refl _ _ | refine Below.setCell ?_ (by (first | omega | (simp; omega) | (simp; done) | fail "sml")) _ | refine Below.drew ?_ | refine Below.alloc ?_ (by (first | omega | (simp; omega) | (simp; done) | fail "sml")) _)); first | done | fail "chs")) (hb.mono (by (first | omega | (simp; omega) | (simp; done) | fail "sml"))); have za := hka.size; have HHa := Lib.hid hh.at; clear hh hb)
        | (go_at_call 27; refine (eqPat_any pB _ _ wa.heap.size _ (LXpB.out.2.2.at.to (by ((repeat (first | with_reducible assumption | with_reducible exact Below.refl _ _ | refine Below.setCell ?_ (by (first | omega | (simp; omega) | (simp; done) | fail "sml")) _ | refine Below.drew ?_ | refine Below.alloc ?_ (by (first | omega | (simp; omega) | (simp; done) | fail "sml")) _)); first | done | fail "chs")) (by omega)) (HHa.out.to (by ((repeat (first | with_reducible assumption | with_reducible exact Below.refl _ _ | refine Below.setCell ?_ (by (first | omega | (simp; omega) | (simp; done) | fail "sml")) _ | refine Below.drew ?_ | refine Below.alloc ?_ (by (first | omega | (simp; omega) | (simp; done) | fail "sml")) _)); first | done | fail "chs")) (Nat.le_refl _)) (by (first | omega | (simp; omega) | (simp; done) | fail "sml"))).mono ?_; rintro en wb ⟨rfl, hbb⟩; have hkb := Below.trans (show Below w7.heap.size w7 _ by ((repeat (first | with_reducible assumption | with_reducible exact Below.refl _ _ | refine Below.setCell ?_ (by (first | omega | (simp; omega) | (simp; done) | fail "sml")) _ | refine Below.drew ?_ | refine Below.alloc ?_ (by (first | omega | (simp; omega) | (simp; done) | fail "sml")) _)); first | done | fail "chs")) (hbb.mono (by first | omega | (simp; omega))); clear hbb))
    all_goals (go_wp2_with fail; go_meet)
    all_goals exact ⟨rfl, by ((repeat (first | with_reducible assumption | with_reducible exact Below.refl _ _ | refine Below.setCell ?_ (by (first | omega | (simp; omega) | (simp; done) | fail "sml")) _ | refine Below.drew ?_ | refine Below.alloc ?_ (by (first | omega | (simp; omega) | (simp; done) | fail "sml")) _)); first | done | fail "chs")⟩
  case rest =>
  obtain ⟨rfl, hbx⟩ := hcut
  clear hz apA0 apA1 apA2 apA3 apA4 apA5 apA6 apA7 apA8 apA9 apA10 apA11 apA12 apB0 apB1 apB2 apB3 apB4 apB5 apB6 apB7 apB8 apB9 apB10 apB11 apB12 hq_pA hq_pB xpAk xpA0 xpA1 xpA2 xpA3 xpA4 xpA5 xpA6 xpA7 xpA8 xpA9 xpA10 xpA11 xpA12 xpBk xpB0 xpB1 xpB2 xpB3 xpB4 xpB5 xpB6 xpB7 xpB8 xpB9 xpB10 xpB11 xpB12
  clear hA0 rr0
  obtain ⟨w8, ew⟩ : ∃ u, u = wc := ⟨_, rfl⟩
  subst ew
  have hs_w8 : w7.heap.size ≤ w8.heap.size := hbx.size
  have LXpA := Lib.hid (LXpA.out.below (Pt.goes pA) hbx)
  have LXpB := Lib.hid (LXpB.out.below (Pt.goes pB) hbx)
  have HA := Lib.hid (HA.out.trans (hbx.mono (by omega)))
  clear hbx
  obtain ⟨hz, apA0, apA1, apA2, apA3, apA4, apA5, apA6, apA7, apA8, apA9, apA10, apA11, apA12, apB0, apB1, apB2, apB3, apB4, apB5, apB6, apB7, apB8, apB9, apB10, apB11, apB12⟩ := HK.out _ HA.out
  have hq_pA : w.heap.size < w8.heap.size := by omega
  have hq_pB : w.heap.size + 1 < w8.heap.size := by omega
  obtain ⟨xpAk, xpAc, _⟩ := LXpA.out
  have xpA0 := xpAc 0 _ rfl
  have xpA1 := xpAc 1 _ rfl
  have xpA2 := xpAc 2 _ rfl
  have xpA3 := xpAc 3 _ rfl
  have xpA4 := xpAc 4 _ rfl
  have xpA5 := xpAc 5 _ rfl
  have xpA6 := xpAc 6 _ rfl
  have xpA7 := xpAc 7 _ rfl
  have xpA8 := xpAc 8 _ rfl
  have xpA9 := xpAc 9 _ rfl
  have xpA10 := xpAc 10 _ rfl
  have xpA11 := xpAc 11 _ rfl
  have xpA12 := xpAc 12 _ rfl
  clear xpAc
  obtain ⟨xpBk, xpBc, _⟩ := LXpB.out
  have xpB0 := xpBc 0 _ rfl
  have xpB1 := xpBc 1 _ rfl
  have xpB2 := xpBc 2 _ rfl
  have xpB3 := xpBc 3 _ rfl
  have xpB4 := xpBc 4 _ rfl
  have xpB5 := xpBc 5 _ rfl
  have xpB6 := xpBc 6 _ rfl
  have xpB7 := xpBc 7 _ rfl
  have xpB8 := xpBc 8 _ rfl
  have xpB9 := xpBc 9 _ rfl
  have xpB10 := xpBc 10 _ rfl
  have xpB11 := xpBc 11 _ rfl
  have xpB12 := xpBc 12 _ rfl
  clear xpBc
  go_wp2_with fail
  go_ret
  exact ⟨rfl, HV.out.trans (HA.out.mono (by omega))⟩
end Go.Proofs.Ytlplbfbbdjaklaa
