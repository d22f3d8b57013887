/- The walk of FnExactMergeElems. -/
import Derived.Test.YtbbemeaojmfndaaDoorM7q0p1
import Derived.Test.YtbbemeaojmfndaaDoorLocE
import Derived.Deep.RegionHeld3
import Derived.Deep.DeepCutAuto
namespace Go.Proofs.YtbbemeaojmfndaaDoor
open Go.RowKit

set_option maxRecDepth 100000 in
set_option maxHeartbeats 32000000 in
theorem lawExactMergeElems (a : El) (b : El) (v_a : Value) (v_b : Value) (w : World) (h_a : a.At w.heap.size w v_a) (h_b : b.At w.heap.size w v_b) (hok_a : a.Ok) (hok_b : b.Ok) (hvars : Vars w) :
    Calls Tryd.prog 5 #[v_a, v_b] w fun en w' => en = .returned (.bool true) ∧ Below w.heap.size w w' := by
  have HVV := Lib.hid hvars
  clear hvars
  have HE_a := Lib.hid h_a
  have HOK_a := Lib.hid hok_a
  have HE_b := Lib.hid h_b
  have HOK_b := Lib.hid hok_b
  obtain ⟨p0a, c0a, q0a, d0a, rfl, _, _⟩ := h_a.form
  obtain ⟨p0b, c0b, q0b, d0b, rfl, _, _⟩ := h_b.form
  clear h_a hok_a h_b hok_b
  obtain ⟨R, eR⟩ : ∃ R : El, R = mergeR a b := ⟨_, rfl⟩
  obtain ⟨T, eT⟩ : ∃ T : Bool, T = mergeB a b := ⟨_, rfl⟩
  obtain ⟨W0, eW⟩ : ∃ W0, W0 = ((w.alloc (.cells #[.bool a.n, .string a.v, .int .i64 a.l.op, .string a.l.a, .slice p0a a.l.ks.list.length c0a, .int .i64 a.c.op, .string a.c.a, .slice q0a a.c.ks.list.length d0a, .int .i64 a.d] 47)).alloc (.cells #[.bool b.n, .string b.v, .int .i64 b.l.op, .string b.l.a, .slice p0b b.l.ks.list.length c0b, .int .i64 b.c.op, .string b.c.a, .slice q0b b.c.ks.list.length d0b, .int .i64 b.d] 47)) := ⟨_, rfl⟩
  have HV := Lib.hid (show Below w.heap.size w W0 by rw [eW]; exact ((Below.refl w.heap.size w).alloc (by simp) _).alloc (by simp) _)
  have HK := Lib.hid (show ∀ wk, Below (w.heap.size + 2) W0 wk → w.heap.size + 2 ≤ wk.heap.size ∧ wk.cell? ⟨w.heap.size, 0, none⟩ = some (.bool a.n) ∧ wk.cell? ⟨w.heap.size, 1, none⟩ = some (.string a.v) ∧ wk.cell? ⟨w.heap.size, 2, none⟩ = some (.int .i64 a.l.op) ∧ wk.cell? ⟨w.heap.size, 3, none⟩ = some (.string a.l.a) ∧ wk.cell? ⟨w.heap.size, 4, none⟩ = some (.slice p0a a.l.ks.list.length c0a) ∧ wk.cell? ⟨w.heap.size, 5, none⟩ = some (.int .i64 a.c.op) ∧ wk.cell? ⟨w.heap.size, 6, none⟩ = some (.string a.c.a) ∧ wk.cell? ⟨w.heap.size, 7, none⟩ = some (.slice q0a a.c.ks.list.length d0a) ∧ wk.cell? ⟨w.heap.size, 8, none⟩ = some (.int .i64 a.d) ∧ wk.cell? ⟨w.heap.size + 1, 0, none⟩ = some (.bool b.n) ∧ wk.cell? ⟨w.heap.size + 1, 1, none⟩ = some (.string b.v) ∧ wk.cell? ⟨w.heap.size + 1, 2, none⟩ = some (.int .i64 b.l.op) ∧ wk.cell? ⟨w.heap.size + 1, 3, none⟩ = some (.string b.l.a) ∧ wk.cell? ⟨w.heap.size + 1, 4, none⟩ = some (.slice p0b b.l.ks.list.length c0b) ∧ wk.cell? ⟨w.heap.size + 1, 5, none⟩ = some (.int .i64 b.c.op) ∧ wk.cell? ⟨w.heap.size + 1, 6, none⟩ = some (.string b.c.a) ∧ wk.cell? ⟨w.heap.size + 1, 7, none⟩ = some (.slice q0b b.c.ks.list.length d0b) ∧ wk.cell? ⟨w.heap.size + 1, 8, none⟩ = some (.int .i64 b.d) from
    fun wk hk => by rw [eW] at hk; exact ⟨by have := hk.size; simp at this; omega, keepc hk (by omega) (by simp [go_sem]), keepc hk (by omega) (by simp [go_sem]), keepc hk (by omega) (by simp [go_sem]), keepc hk (by omega) (by simp [go_sem]), keepc hk (by omega) (by simp [go_sem]), keepc hk (by omega) (by simp [go_sem]), keepc hk (by omega) (by simp [go_sem]), keepc hk (by omega) (by simp [go_sem]), keepc hk (by omega) (by simp [go_sem]), keepc hk (by omega) (by simp [go_sem]), keepc hk (by omega) (by simp [go_sem]), keepc hk (by omega) (by simp [go_sem]), keepc hk (by omega) (by simp [go_sem]), keepc hk (by omega) (by simp [go_sem]), keepc hk (by omega) (by simp [go_sem]), keepc hk (by omega) (by simp [go_sem]), keepc hk (by omega) (by simp [go_sem]), keepc hk (by omega) (by simp [go_sem])⟩)
  have hs0 : w.heap.size + 2 ≤ W0.heap.size := by rw [eW]; simp
  have HA := Lib.hid (Below.refl (w.heap.size + 2) W0)
  have HEA_a := Lib.hid (show ∀ wk, Below (w.heap.size + 2) W0 wk → a.At w.heap.size wk (.agg #[.bool a.n, .string a.v, .int .i64 a.l.op, .string a.l.a, .slice p0a a.l.ks.list.length c0a, .int .i64 a.c.op, .string a.c.a, .slice q0a a.c.ks.list.length d0a, .int .i64 a.d]) from fun wk hk => HE_a.out.to (HV.out.trans (hk.mono (by omega))) (Nat.le_refl _))
  have HEA_b := Lib.hid (show ∀ wk, Below (w.heap.size + 2) W0 wk → b.At w.heap.size wk (.agg #[.bool b.n, .string b.v, .int .i64 b.l.op, .string b.l.a, .slice p0b b.l.ks.list.length c0b, .int .i64 b.c.op, .string b.c.a, .slice q0b b.c.ks.list.length d0b, .int .i64 b.d]) from fun wk hk => HE_b.out.to (HV.out.trans (hk.mono (by omega))) (Nat.le_refl _))
  have HVA := Lib.hid (show ∀ wk, Below (w.heap.size + 2) W0 wk → Vars wk from fun wk hk => HVV.out.below (HV.out.trans (hk.mono (by omega))))
  have EW := Lib.hid eW
  clear eW HE_a HE_b
  go_enter Tryd.func5, Tryd.ntmps5
  go_wp2_with fail
  rw [← EW.out]
  refine (szElem_any a _ 1048576 w.heap.size _ (HEA_a.out _ HA.out) (by omega) (by omega) (by omega) HOK_a.out).mono ?_
  rintro en w1 ⟨r_a, rfl, hr_a, hb⟩
  have hs_w1 : W0.heap.size ≤ w1.heap.size := hb.size
  have HA := Lib.hid (HA.out.trans (hb.mono (by omega)))
  clear hb
  obtain ⟨hz, aa0, aa1, aa2, aa3, aa4, aa5, aa6, aa7, aa8, ab0, ab1, ab2, ab3, ab4, ab5, ab6, ab7, ab8⟩ := HK.out _ HA.out
  have hq_a : w.heap.size < w1.heap.size := by omega
  have hq_b : w.heap.size + 1 < w1.heap.size := by omega
  rcases hr_a with hr_a | ⟨hr0_a, hr_a⟩
  · have hneg : r_a < 0 := by omega
    clear hr_a
    go_wp2_with fail
    go_ret
    exact ⟨rfl, HV.out.trans (HA.out.mono (by omega))⟩
  have hneed_a : elNeed a ≤ 1048576 := by omega
  have hz1_a := (El.sm_need hneed_a).2.2.1
  have hz2_a := (El.sm_need hneed_a).2.2.2.2.1
  have HSM_a := Lib.hid (El.sm_of hneed_a)
  have hrm_a : r_a ≤ 1048576 := by omega
  clear hr_a
  go_wp2_with fail
  refine (szElem_any b _ r_a w.heap.size _ (HEA_b.out _ HA.out) (by omega) hr0_a hrm_a HOK_b.out).mono ?_
  rintro en w2 ⟨r_b, rfl, hr_b, hb⟩
  clear hz aa0 aa1 aa2 aa3 aa4 aa5 aa6 aa7 aa8 ab0 ab1 ab2 ab3 ab4 ab5 ab6 ab7 ab8 hq_a hq_b
  have hs_w2 : w1.heap.size ≤ w2.heap.size := hb.size
  have HA := Lib.hid (HA.out.trans (hb.mono (by omega)))
  clear hb
  obtain ⟨hz, aa0, aa1, aa2, aa3, aa4, aa5, aa6, aa7, aa8, ab0, ab1, ab2, ab3, ab4, ab5, ab6, ab7, ab8⟩ := HK.out _ HA.out
  have hq_a : w.heap.size < w2.heap.size := by omega
  have hq_b : w.heap.size + 1 < w2.heap.size := by omega
  rcases hr_b with hr_b | ⟨hr0_b, hr_b⟩
  · have hneg : r_b < 0 := by omega
    clear hr_b
    go_wp2_with fail
    go_ret
    exact ⟨rfl, HV.out.trans (HA.out.mono (by omega))⟩
  have hneed_b : elNeed b ≤ 1048576 := by omega
  have hz1_b := (El.sm_need hneed_b).2.2.1
  have hz2_b := (El.sm_need hneed_b).2.2.2.2.1
  have HSM_b := Lib.hid (El.sm_of hneed_b)
  have hrm_b : r_b ≤ 1048576 := by omega
  clear hr_b
  have HRB := Lib.hid (show R.l.ks.size + R.c.ks.size ≤ 2097152 from eR ▸ mergeR_size a b)
  have hRB := HRB.out
  have CS := Lib.hid (fun (v_a : Value) (v_b : Value) (B : Nat) (E : World) (hB : B ≤ E.heap.size) (h_a : a.Liv B E v_a) (h_b : b.Liv B E v_b) => specMergeElems_to eR.symm eT.symm v_a v_b E (h_a.below (Below.refl _ _) hB) (h_b.below (Below.refl _ _) hB) HSM_a.out HSM_b.out)
  have CI := Lib.hid (fun (v_a : Value) (v_b : Value) (B : Nat) (E : World) (hB : B ≤ E.heap.size) (h_a : a.Liv B E v_a) (h_b : b.Liv B E v_b) (hV : Vars E) => mergeElems_to eR.symm eT.symm v_a v_b E (h_a.below (Below.refl _ _) hB) (h_b.below (Below.refl _ _) hB) HSM_a.out HSM_b.out hV)
  have CT_a := Lib.hid (fun (E : World) (hE : Below (w.heap.size + 2) W0 E) => (show Calls Tryd.prog 15 #[.agg #[.bool a.n, .string a.v, .int .i64 a.l.op, .string a.l.a, .slice p0a a.l.ks.list.length c0a, .int .i64 a.c.op, .string a.c.a, .slice q0a a.c.ks.list.length d0a, .int .i64 a.d]] E _ from (fun (hv : a.At w.heap.size E (.agg #[.bool a.n, .string a.v, .int .i64 a.l.op, .string a.l.a, .slice p0a a.l.ks.list.length c0a, .int .i64 a.c.op, .string a.c.a, .slice q0a a.c.ks.list.length d0a, .int .i64 a.d])) (hB : w.heap.size ≤ E.heap.size) => toElem_any a _ w.heap.size E hv hB hz1_a hz2_a) (HEA_a.out E hE) (by have := hE.size; omega)))
  have CT_b := Lib.hid (fun (E : World) (hE : Below (w.heap.size + 2) W0 E) => (show Calls Tryd.prog 15 #[.agg #[.bool b.n, .string b.v, .int .i64 b.l.op, .string b.l.a, .slice p0b b.l.ks.list.length c0b, .int .i64 b.c.op, .string b.c.a, .slice q0b b.c.ks.list.length d0b, .int .i64 b.d]] E _ from (fun (hv : b.At w.heap.size E (.agg #[.bool b.n, .string b.v, .int .i64 b.l.op, .string b.l.a, .slice p0b b.l.ks.list.length c0b, .int .i64 b.c.op, .string b.c.a, .slice q0b b.c.ks.list.length d0b, .int .i64 b.d])) (hB : w.heap.size ≤ E.heap.size) => toElem_any b _ w.heap.size E hv hB hz1_b hz2_b) (HEA_b.out E hE) (by have := hE.size; omega)))
  clear eR eT
  have hA0 := HA.out
  have rr0 := Below.refl w2.heap.size w2
  go_upto_region 8 with fail
  go_cut [6, 7] (fun s t wx => FilledE R T w2.heap.size w2 s t wx)
  case first =>
    go_region_held3 (fun w' => w'.cell? ⟨w.heap.size, 0, none⟩ = some (.bool a.n) ∧ w'.cell? ⟨w.heap.size, 1, none⟩ = some (.string a.v) ∧ w'.cell? ⟨w.heap.size, 2, none⟩ = some (.int .i64 a.l.op) ∧ w'.cell? ⟨w.heap.size, 3, none⟩ = some (.string a.l.a) ∧ w'.cell? ⟨w.heap.size, 4, none⟩ = some (.slice p0a a.l.ks.list.length c0a) ∧ w'.cell? ⟨w.heap.size, 5, none⟩ = some (.int .i64 a.c.op) ∧ w'.cell? ⟨w.heap.size, 6, none⟩ = some (.string a.c.a) ∧ w'.cell? ⟨w.heap.size, 7, none⟩ = some (.slice q0a a.c.ks.list.length d0a) ∧ w'.cell? ⟨w.heap.size, 8, none⟩ = some (.int .i64 a.d) ∧ w'.cell? ⟨w.heap.size + 1, 0, none⟩ = some (.bool b.n) ∧ w'.cell? ⟨w.heap.size + 1, 1, none⟩ = some (.string b.v) ∧ w'.cell? ⟨w.heap.size + 1, 2, none⟩ = some (.int .i64 b.l.op) ∧ w'.cell? ⟨w.heap.size + 1, 3, none⟩ = some (.string b.l.a) ∧ w'.cell? ⟨w.heap.size + 1, 4, none⟩ = some (.slice p0b b.l.ks.list.length c0b) ∧ w'.cell? ⟨w.heap.size + 1, 5, none⟩ = some (.int .i64 b.c.op) ∧ w'.cell? ⟨w.heap.size + 1, 6, none⟩ = some (.string b.c.a) ∧ w'.cell? ⟨w.heap.size + 1, 7, none⟩ = some (.slice q0b b.c.ks.list.length d0b) ∧ w'.cell? ⟨w.heap.size + 1, 8, none⟩ = some (.int .i64 b.d))
      (exact (HK.out _ (hA0.trans (Below.mono (show Below w2.heap.size w2 _ by ((repeat (first | with_reducible assumption | with_reducible exact Below.refl _ _ | refine Below.setCell ?_ (by (first | omega | (simp; omega) | (simp; done) | fail "sml")) _ | refine Below.drew ?_ | refine Below.alloc ?_ (by (first | omega | (simp; omega) | (simp; done) | fail "sml")) _)); first | done | fail "chs")) (by omega)))).2)
      (first
        | (go_at_call 15; with_reducible refine (CT_a.out _ (hA0.trans (Below.mono (show Below w2.heap.size w2 _ by ((repeat (first | with_reducible assumption | with_reducible exact Below.refl _ _ | refine Below.setCell ?_ (by (first | omega | (simp; omega) | (simp; done) | fail "sml")) _ | refine Below.drew ?_ | refine Below.alloc ?_ (by (first | omega | (simp; omega) | (simp; done) | fail "sml")) _)); first | done | fail "chs")) (by omega)))).mono ?_; rintro en wa_a ⟨va_a, Fa, rfl, hh, _, hb⟩; (first | (have yy := eearly hb; obtain ⟨y0, y1, y2, y3, y4, y5, y6, y7, y8, y9, y10, y11, y12, y13, y14, y15, y16, y17, y18⟩ := yy) | (have yy := eearlyD hb; obtain ⟨y0, y1, y2, y3, y4, y5, y6, y7, y8, y9, y10, y11, y12, y13, y14, y15, y16, y17, y18⟩ := yy) | (have yy := elater hb ⟨y0, y1, y2, y3, y4, y5, y6, y7, y8, y9, y10, y11, y12, y13, y14, y15, y16, y17, y18⟩; obtain ⟨y0, y1, y2, y3, y4, y5, y6, y7, y8, y9, y10, y11, y12, y13, y14, y15, y16, y17, y18⟩ := yy) | skip); have hk_a := Below.trans (show Below w2.heap.size w2 _ by ((repeat (first | with_reducible assumption | with_reducible exact Below.refl _ _ | refine Below.setCell ?_ (by (first | omega | (simp; omega) | (simp; done) | fail "sml")) _ | refine Below.drew ?_ | refine Below.alloc ?_ (by (first | omega | (simp; omega) | (simp; done) | fail "sml")) _)); first | done | fail "chs")) (hb.mono (by (first | omega | (simp; omega) | (simp; done) | fail "sml"))); have z_a := hk_a.size; have raa_a := Below.refl wa_a.heap.size wa_a; (first | (have r_ba := Below.trans (show Below wa_b.heap.size wa_b _ by ((repeat (first | with_reducible assumption | with_reducible exact Below.refl _ _ | refine Below.setCell ?_ (by (first | omega | (simp; omega) | (simp; done) | fail "sml")) _ | refine Below.drew ?_ | refine Below.alloc ?_ (by (first | omega | (simp; omega) | (simp; done) | fail "sml")) _)); first | done | fail "chs")) (hb.mono (by (first | omega | (simp; omega) | (simp; done) | fail "sml"))); have zz_ba := r_ba.size) | skip); have HH_a := Lib.hid (fun X (hX : Below wa_a.heap.size wa_a X) => hh.liv.below hX hX.size); clear hh hb)
        | (go_at_call 15; with_reducible refine (CT_b.out _ (hA0.trans (Below.mono (show Below w2.heap.size w2 _ by ((repeat (first | with_reducible assumption | with_reducible exact Below.refl _ _ | refine Below.setCell ?_ (by (first | omega | (simp; omega) | (simp; done) | fail "sml")) _ | refine Below.drew ?_ | refine Below.alloc ?_ (by (first | omega | (simp; omega) | (simp; done) | fail "sml")) _)); first | done | fail "chs")) (by omega)))).mono ?_; rintro en wa_b ⟨va_b, Fa, rfl, hh, _, hb⟩; (first | (have yy := eearly hb; obtain ⟨y0, y1, y2, y3, y4, y5, y6, y7, y8, y9, y10, y11, y12, y13, y14, y15, y16, y17, y18⟩ := yy) | (have yy := eearlyD hb; obtain ⟨y0, y1, y2, y3, y4, y5, y6, y7, y8, y9, y10, y11, y12, y13, y14, y15, y16, y17, y18⟩ := yy) | (have yy := elater hb ⟨y0, y1, y2, y3, y4, y5, y6, y7, y8, y9, y10, y11, y12, y13, y14, y15, y16, y17, y18⟩; obtain ⟨y0, y1, y2, y3, y4, y5, y6, y7, y8, y9, y10, y11, y12, y13, y14, y15, y16, y17, y18⟩ := yy) | skip); have hk_b := Below.trans (show Below w2.heap.size w2 _ by ((repeat (first | with_reducible assumption | with_reducible exact Below.refl _ _ | refine Below.setCell ?_ (by (first | omega | (simp; omega) | (simp; done) | fail "sml")) _ | refine Below.drew ?_ | refine Below.alloc ?_ (by (first | omega | (simp; omega) | (simp; done) | fail "sml")) _)); first | done | fail "chs")) (hb.mono (by (first | omega | (simp; omega) | (simp; done) | fail "sml"))); have z_b := hk_b.size; have raa_b := Below.refl wa_b.heap.size wa_b; (first | (have r_ab := Below.trans (show Below wa_a.heap.size wa_a _ by ((repeat (first | with_reducible assumption | with_reducible exact Below.refl _ _ | refine Below.setCell ?_ (by (first | omega | (simp; omega) | (simp; done) | fail "sml")) _ | refine Below.drew ?_ | refine Below.alloc ?_ (by (first | omega | (simp; omega) | (simp; done) | fail "sml")) _)); first | done | fail "chs")) (hb.mono (by (first | omega | (simp; omega) | (simp; done) | fail "sml"))); have zz_ab := r_ab.size) | skip); have HH_b := Lib.hid (fun X (hX : Below wa_b.heap.size wa_b X) => hh.liv.below hX hX.size); clear hh hb)
        | (go_at_call 9; with_reducible refine (CS.out _ _ _ _ (Nat.le_refl _) (HH_a.out _ (by ((repeat (first | with_reducible assumption | with_reducible exact Below.refl _ _ | refine Below.setCell ?_ (by (first | omega | (simp; omega) | (simp; done) | fail "sml")) _ | refine Below.drew ?_ | refine Below.alloc ?_ (by (first | omega | (simp; omega) | (simp; done) | fail "sml")) _)); first | done | fail "chs"))) (HH_b.out _ (by ((repeat (first | with_reducible assumption | with_reducible exact Below.refl _ _ | refine Below.setCell ?_ (by (first | omega | (simp; omega) | (simp; done) | fail "sml")) _ | refine Below.drew ?_ | refine Below.alloc ?_ (by (first | omega | (simp; omega) | (simp; done) | fail "sml")) _)); first | done | fail "chs")))).mono ?_; rintro en wq ⟨uq, Fq, rfl, ho, hf, hbq⟩; obtain ⟨p8, c8, q8, d8, rfl, _, _⟩ := ho.at.form; (first | (have yy := eearly hbq; obtain ⟨y0, y1, y2, y3, y4, y5, y6, y7, y8, y9, y10, y11, y12, y13, y14, y15, y16, y17, y18⟩ := yy) | (have yy := eearlyD hbq; obtain ⟨y0, y1, y2, y3, y4, y5, y6, y7, y8, y9, y10, y11, y12, y13, y14, y15, y16, y17, y18⟩ := yy) | (have yy := elater hbq ⟨y0, y1, y2, y3, y4, y5, y6, y7, y8, y9, y10, y11, y12, y13, y14, y15, y16, y17, y18⟩; obtain ⟨y0, y1, y2, y3, y4, y5, y6, y7, y8, y9, y10, y11, y12, y13, y14, y15, y16, y17, y18⟩ := yy) | skip); have hkq := Below.trans (show Below w2.heap.size w2 _ by ((repeat (first | with_reducible assumption | with_reducible exact Below.refl _ _ | refine Below.setCell ?_ (by (first | omega | (simp; omega) | (simp; done) | fail "sml")) _ | refine Below.drew ?_ | refine Below.alloc ?_ (by (first | omega | (simp; omega) | (simp; done) | fail "sml")) _)); first | done | fail "chs")) (hbq.mono (by (first | omega | (simp; omega) | (simp; done) | fail "sml"))); have zq := hkq.size; have HHq := Lib.hid ho; have HFq := Lib.hid hf; have HFb := Lib.hid (show ∀ y ∈ Fq, w2.heap.size ≤ y from fun y hy => by have h1 := hf y hy; (try simp at h1); omega); clear ho hf hbq)
        | fail "no arm")
    all_goals (go_wp2_with fail; go_meet)
    all_goals first
      | with_reducible exact efilled_of (by first | omega | (simp; omega)) y0 ⟨_, y1⟩ ⟨_, y2⟩ ⟨_, y3⟩ ⟨_, y4⟩ ⟨_, y5⟩ ⟨_, y6⟩ ⟨_, y7⟩ ⟨_, y8⟩ ⟨_, y9⟩ HHq.out HFb.out (fun hx => by have h1 := HFq.out _ hx; (try simp at h1); omega) hkq
      | with_reducible exact efresh_of (by first | omega | (simp; omega)) HHq.out HFb.out hkq
      | fail "end"
  case rest =>
  obtain ⟨kW, pW, cW, qW, dW, FW, rfl, rfl, hkW, hLW, hFW, hnW, hbx⟩ := hcut
  clear hz aa0 aa1 aa2 aa3 aa4 aa5 aa6 aa7 aa8 ab0 ab1 ab2 ab3 ab4 ab5 ab6 ab7 ab8 hq_a hq_b
  clear hA0 rr0
  obtain ⟨w3, ew⟩ : ∃ u, u = wc := ⟨_, rfl⟩
  subst ew
  have hs_w3 : w2.heap.size ≤ w3.heap.size := hbx.size
  have HA := Lib.hid (HA.out.trans (hbx.mono (by omega)))
  have LW := Lib.hid hLW
  have GW := Lib.hid (show ∀ y ∈ FW, w2.heap.size ≤ y ∧ y < w3.heap.size from fun y hy => ⟨hFW y hy, hLW.2.2.lt y hy⟩)
  have NW := Lib.hid hnW
  have hklW : kW < w3.heap.size := hLW.1
  clear hLW hFW hnW hbx
  obtain ⟨hz, aa0, aa1, aa2, aa3, aa4, aa5, aa6, aa7, aa8, ab0, ab1, ab2, ab3, ab4, ab5, ab6, ab7, ab8⟩ := HK.out _ HA.out
  have hq_a : w.heap.size < w3.heap.size := by omega
  have hq_b : w.heap.size + 1 < w3.heap.size := by omega
  obtain ⟨wwk, wwc, _⟩ := LW.out
  have ww0 := wwc 0 _ rfl
  have ww1 := wwc 1 _ rfl
  have ww2 := wwc 2 _ rfl
  have ww3 := wwc 3 _ rfl
  have ww4 := wwc 4 _ rfl
  have ww5 := wwc 5 _ rfl
  have ww6 := wwc 6 _ rfl
  have ww7 := wwc 7 _ rfl
  have ww8 := wwc 8 _ rfl
  clear wwc
  go_wp2_with fail
  refine (CT_a.out _ HA.out).mono ?_
  rintro en w4 ⟨vw4, FXa, rfl, ho, hf, hb⟩
  clear hz aa0 aa1 aa2 aa3 aa4 aa5 aa6 aa7 aa8 ab0 ab1 ab2 ab3 ab4 ab5 ab6 ab7 ab8 hq_a hq_b wwk ww0 ww1 ww2 ww3 ww4 ww5 ww6 ww7 ww8
  have hs_w4 : w3.heap.size ≤ w4.heap.size := hb.size
  have LW := Lib.hid (LW.out.below (El.goes R) hb)
  have HA := Lib.hid (HA.out.trans (hb.mono (by omega)))
  have HO := Lib.hid ho
  have GXa := Lib.hid (show ∀ y ∈ FXa, w3.heap.size ≤ y ∧ y < w4.heap.size from fun y hy => ⟨hf y hy, ho.lt y hy⟩)
  obtain ⟨pXa, cXa, qXa, dXa, rfl, _, _⟩ := ho.at.form
  clear ho hf hb
  obtain ⟨hz, aa0, aa1, aa2, aa3, aa4, aa5, aa6, aa7, aa8, ab0, ab1, ab2, ab3, ab4, ab5, ab6, ab7, ab8⟩ := HK.out _ HA.out
  have hq_a : w.heap.size < w4.heap.size := by omega
  have hq_b : w.heap.size + 1 < w4.heap.size := by omega
  obtain ⟨wwk, wwc, _⟩ := LW.out
  have ww0 := wwc 0 _ rfl
  have ww1 := wwc 1 _ rfl
  have ww2 := wwc 2 _ rfl
  have ww3 := wwc 3 _ rfl
  have ww4 := wwc 4 _ rfl
  have ww5 := wwc 5 _ rfl
  have ww6 := wwc 6 _ rfl
  have ww7 := wwc 7 _ rfl
  have ww8 := wwc 8 _ rfl
  clear wwc
  go_wp2_with fail
  clear hz aa0 aa1 aa2 aa3 aa4 aa5 aa6 aa7 aa8 ab0 ab1 ab2 ab3 ab4 ab5 ab6 ab7 ab8 hq_a hq_b wwk ww0 ww1 ww2 ww3 ww4 ww5 ww6 ww7 ww8
  obtain ⟨W4, eW⟩ : ∃ u, u = w4.alloc (.cells #[.bool a.n, .string a.v, .int .i64 a.l.op, .string a.l.a, .slice pXa a.l.ks.list.length cXa, .int .i64 a.c.op, .string a.c.a, .slice qXa a.c.ks.list.length dXa, .int .i64 a.d] 27) := ⟨_, rfl⟩
  rw [← eW]
  have hszW4 : w4.heap.size < W4.heap.size := by rw [eW]; simp
  have hbW : Below w4.heap.size w4 W4 := by rw [eW]; exact (Below.refl _ _).alloc (Nat.le_refl _) _
  have LXa := Lib.hid (show LocV a.Has w4.heap.size #[.bool a.n, .string a.v, .int .i64 a.l.op, .string a.l.a, .slice pXa a.l.ks.list.length cXa, .int .i64 a.c.op, .string a.c.a, .slice qXa a.c.ks.list.length dXa, .int .i64 a.d] FXa W4 by rw [eW]; exact LocV.fresh (El.goes a) HO.out)
  have hs_W4 : w4.heap.size ≤ W4.heap.size := hbW.size
  have LW := Lib.hid (LW.out.below (El.goes R) hbW)
  have HA := Lib.hid (HA.out.trans (hbW.mono (by omega)))
  clear hbW eW HO
  obtain ⟨hz, aa0, aa1, aa2, aa3, aa4, aa5, aa6, aa7, aa8, ab0, ab1, ab2, ab3, ab4, ab5, ab6, ab7, ab8⟩ := HK.out _ HA.out
  have hq_a : w.heap.size < W4.heap.size := by omega
  have hq_b : w.heap.size + 1 < W4.heap.size := by omega
  obtain ⟨wwk, wwc, _⟩ := LW.out
  have ww0 := wwc 0 _ rfl
  have ww1 := wwc 1 _ rfl
  have ww2 := wwc 2 _ rfl
  have ww3 := wwc 3 _ rfl
  have ww4 := wwc 4 _ rfl
  have ww5 := wwc 5 _ rfl
  have ww6 := wwc 6 _ rfl
  have ww7 := wwc 7 _ rfl
  have ww8 := wwc 8 _ rfl
  clear wwc
  obtain ⟨xak, xac, _⟩ := LXa.out
  have xa0 := xac 0 _ rfl
  have xa1 := xac 1 _ rfl
  have xa2 := xac 2 _ rfl
  have xa3 := xac 3 _ rfl
  have xa4 := xac 4 _ rfl
  have xa5 := xac 5 _ rfl
  have xa6 := xac 6 _ rfl
  have xa7 := xac 7 _ rfl
  have xa8 := xac 8 _ rfl
  clear xac
  go_wp2_with fail
  refine (CT_b.out _ HA.out).mono ?_
  rintro en w5 ⟨vw5, FXb, rfl, ho, hf, hb⟩
  clear hz aa0 aa1 aa2 aa3 aa4 aa5 aa6 aa7 aa8 ab0 ab1 ab2 ab3 ab4 ab5 ab6 ab7 ab8 hq_a hq_b wwk ww0 ww1 ww2 ww3 ww4 ww5 ww6 ww7 ww8 xak xa0 xa1 xa2 xa3 xa4 xa5 xa6 xa7 xa8
  have hs_w5 : W4.heap.size ≤ w5.heap.size := hb.size
  have LW := Lib.hid (LW.out.below (El.goes R) hb)
  have LXa := Lib.hid (LXa.out.below (El.goes a) hb)
  have HA := Lib.hid (HA.out.trans (hb.mono (by omega)))
  have HO := Lib.hid ho
  have GXb := Lib.hid (show ∀ y ∈ FXb, W4.heap.size ≤ y ∧ y < w5.heap.size from fun y hy => ⟨hf y hy, ho.lt y hy⟩)
  obtain ⟨pXb, cXb, qXb, dXb, rfl, _, _⟩ := ho.at.form
  clear ho hf hb
  obtain ⟨hz, aa0, aa1, aa2, aa3, aa4, aa5, aa6, aa7, aa8, ab0, ab1, ab2, ab3, ab4, ab5, ab6, ab7, ab8⟩ := HK.out _ HA.out
  have hq_a : w.heap.size < w5.heap.size := by omega
  have hq_b : w.heap.size + 1 < w5.heap.size := by omega
  obtain ⟨wwk, wwc, _⟩ := LW.out
  have ww0 := wwc 0 _ rfl
  have ww1 := wwc 1 _ rfl
  have ww2 := wwc 2 _ rfl
  have ww3 := wwc 3 _ rfl
  have ww4 := wwc 4 _ rfl
  have ww5 := wwc 5 _ rfl
  have ww6 := wwc 6 _ rfl
  have ww7 := wwc 7 _ rfl
  have ww8 := wwc 8 _ rfl
  clear wwc
  obtain ⟨xak, xac, _⟩ := LXa.out
  have xa0 := xac 0 _ rfl
  have xa1 := xac 1 _ rfl
  have xa2 := xac 2 _ rfl
  have xa3 := xac 3 _ rfl
  have xa4 := xac 4 _ rfl
  have xa5 := xac 5 _ rfl
  have xa6 := xac 6 _ rfl
  have xa7 := xac 7 _ rfl
  have xa8 := xac 8 _ rfl
  clear xac
  go_wp2_with fail
  clear hz aa0 aa1 aa2 aa3 aa4 aa5 aa6 aa7 aa8 ab0 ab1 ab2 ab3 ab4 ab5 ab6 ab7 ab8 hq_a hq_b wwk ww0 ww1 ww2 ww3 ww4 ww5 ww6 ww7 ww8 xak xa0 xa1 xa2 xa3 xa4 xa5 xa6 xa7 xa8
  obtain ⟨W5, eW⟩ : ∃ u, u = w5.alloc (.cells #[.bool b.n, .string b.v, .int .i64 b.l.op, .string b.l.a, .slice pXb b.l.ks.list.length cXb, .int .i64 b.c.op, .string b.c.a, .slice qXb b.c.ks.list.length dXb, .int .i64 b.d] 27) := ⟨_, rfl⟩
  rw [← eW]
  have hszW5 : w5.heap.size < W5.heap.size := by rw [eW]; simp
  have hbW : Below w5.heap.size w5 W5 := by rw [eW]; exact (Below.refl _ _).alloc (Nat.le_refl _) _
  have LXb := Lib.hid (show LocV b.Has w5.heap.size #[.bool b.n, .string b.v, .int .i64 b.l.op, .string b.l.a, .slice pXb b.l.ks.list.length cXb, .int .i64 b.c.op, .string b.c.a, .slice qXb b.c.ks.list.length dXb, .int .i64 b.d] FXb W5 by rw [eW]; exact LocV.fresh (El.goes b) HO.out)
  have hs_W5 : w5.heap.size ≤ W5.heap.size := hbW.size
  have LW := Lib.hid (LW.out.below (El.goes R) hbW)
  have LXa := Lib.hid (LXa.out.below (El.goes a) hbW)
  have HA := Lib.hid (HA.out.trans (hbW.mono (by omega)))
  clear hbW eW HO
  obtain ⟨hz, aa0, aa1, aa2, aa3, aa4, aa5, aa6, aa7, aa8, ab0, ab1, ab2, ab3, ab4, ab5, ab6, ab7, ab8⟩ := HK.out _ HA.out
  have hq_a : w.heap.size < W5.heap.size := by omega
  have hq_b : w.heap.size + 1 < W5.heap.size := by omega
  obtain ⟨wwk, wwc, _⟩ := LW.out
  have ww0 := wwc 0 _ rfl
  have ww1 := wwc 1 _ rfl
  have ww2 := wwc 2 _ rfl
  have ww3 := wwc 3 _ rfl
  have ww4 := wwc 4 _ rfl
  have ww5 := wwc 5 _ rfl
  have ww6 := wwc 6 _ rfl
  have ww7 := wwc 7 _ rfl
  have ww8 := wwc 8 _ rfl
  clear wwc
  obtain ⟨xak, xac, _⟩ := LXa.out
  have xa0 := xac 0 _ rfl
  have xa1 := xac 1 _ rfl
  have xa2 := xac 2 _ rfl
  have xa3 := xac 3 _ rfl
  have xa4 := xac 4 _ rfl
  have xa5 := xac 5 _ rfl
  have xa6 := xac 6 _ rfl
  have xa7 := xac 7 _ rfl
  have xa8 := xac 8 _ rfl
  clear xac
  obtain ⟨xbk, xbc, _⟩ := LXb.out
  have xb0 := xbc 0 _ rfl
  have xb1 := xbc 1 _ rfl
  have xb2 := xbc 2 _ rfl
  have xb3 := xbc 3 _ rfl
  have xb4 := xbc 4 _ rfl
  have xb5 := xbc 5 _ rfl
  have xb6 := xbc 6 _ rfl
  have xb7 := xbc 7 _ rfl
  have xb8 := xbc 8 _ rfl
  clear xbc
  go_wp2_with fail
  refine (CI.out _ _ W5.heap.size _ (Nat.le_refl _) (LXa.out.2.2.liv) (LXb.out.2.2.liv) (HVA.out _ HA.out)).mono ?_
  rintro en w6 ⟨vw6, FG, rfl, ho, hf, hb⟩
  clear hz aa0 aa1 aa2 aa3 aa4 aa5 aa6 aa7 aa8 ab0 ab1 ab2 ab3 ab4 ab5 ab6 ab7 ab8 hq_a hq_b wwk ww0 ww1 ww2 ww3 ww4 ww5 ww6 ww7 ww8 xak xa0 xa1 xa2 xa3 xa4 xa5 xa6 xa7 xa8 xbk xb0 xb1 xb2 xb3 xb4 xb5 xb6 xb7 xb8
  have hs_w6 : W5.heap.size ≤ w6.heap.size := hb.size
  have LW := Lib.hid (LW.out.below (El.goes R) hb)
  have LXa := Lib.hid (LXa.out.below (El.goes a) hb)
  have LXb := Lib.hid (LXb.out.below (El.goes b) hb)
  have HA := Lib.hid (HA.out.trans (hb.mono (by omega)))
  have HO := Lib.hid ho
  have GG := Lib.hid (show ∀ y ∈ FG, W5.heap.size ≤ y ∧ y < w6.heap.size from fun y hy => ⟨hf y hy, ho.lt y hy⟩)
  obtain ⟨pG, cG, qG, dG, rfl, _, _⟩ := ho.at.form
  clear ho hf hb
  obtain ⟨hz, aa0, aa1, aa2, aa3, aa4, aa5, aa6, aa7, aa8, ab0, ab1, ab2, ab3, ab4, ab5, ab6, ab7, ab8⟩ := HK.out _ HA.out
  have hq_a : w.heap.size < w6.heap.size := by omega
  have hq_b : w.heap.size + 1 < w6.heap.size := by omega
  obtain ⟨wwk, wwc, _⟩ := LW.out
  have ww0 := wwc 0 _ rfl
  have ww1 := wwc 1 _ rfl
  have ww2 := wwc 2 _ rfl
  have ww3 := wwc 3 _ rfl
  have ww4 := wwc 4 _ rfl
  have ww5 := wwc 5 _ rfl
  have ww6 := wwc 6 _ rfl
  have ww7 := wwc 7 _ rfl
  have ww8 := wwc 8 _ rfl
  clear wwc
  obtain ⟨xak, xac, _⟩ := LXa.out
  have xa0 := xac 0 _ rfl
  have xa1 := xac 1 _ rfl
  have xa2 := xac 2 _ rfl
  have xa3 := xac 3 _ rfl
  have xa4 := xac 4 _ rfl
  have xa5 := xac 5 _ rfl
  have xa6 := xac 6 _ rfl
  have xa7 := xac 7 _ rfl
  have xa8 := xac 8 _ rfl
  clear xac
  obtain ⟨xbk, xbc, _⟩ := LXb.out
  have xb0 := xbc 0 _ rfl
  have xb1 := xbc 1 _ rfl
  have xb2 := xbc 2 _ rfl
  have xb3 := xbc 3 _ rfl
  have xb4 := xbc 4 _ rfl
  have xb5 := xbc 5 _ rfl
  have xb6 := xbc 6 _ rfl
  have xb7 := xbc 7 _ rfl
  have xb8 := xbc 8 _ rfl
  clear xbc
  go_wp2_with fail
  clear hz aa0 aa1 aa2 aa3 aa4 aa5 aa6 aa7 aa8 ab0 ab1 ab2 ab3 ab4 ab5 ab6 ab7 ab8 hq_a hq_b wwk ww0 ww1 ww2 ww3 ww4 ww5 ww6 ww7 ww8 xak xa0 xa1 xa2 xa3 xa4 xa5 xa6 xa7 xa8 xbk xb0 xb1 xb2 xb3 xb4 xb5 xb6 xb7 xb8
  obtain ⟨W6_G, eW⟩ : ∃ u, u = w6.alloc (.cells #[.bool R.n, .string R.v, .int .i64 R.l.op, .string R.l.a, .slice pG R.l.ks.list.length cG, .int .i64 R.c.op, .string R.c.a, .slice qG R.c.ks.list.length dG, .int .i64 R.d] 27) := ⟨_, rfl⟩
  rw [← eW]
  have hszW6_G : w6.heap.size < W6_G.heap.size := by rw [eW]; simp
  have hbW : Below w6.heap.size w6 W6_G := by rw [eW]; exact (Below.refl _ _).alloc (Nat.le_refl _) _
  have LG := Lib.hid (show LocV R.Has w6.heap.size #[.bool R.n, .string R.v, .int .i64 R.l.op, .string R.l.a, .slice pG R.l.ks.list.length cG, .int .i64 R.c.op, .string R.c.a, .slice qG R.c.ks.list.length dG, .int .i64 R.d] FG W6_G by rw [eW]; exact LocV.fresh (El.goes R) HO.out)
  have hs_W6_G : w6.heap.size ≤ W6_G.heap.size := hbW.size
  have LW := Lib.hid (LW.out.below (El.goes R) hbW)
  have LXa := Lib.hid (LXa.out.below (El.goes a) hbW)
  have LXb := Lib.hid (LXb.out.below (El.goes b) hbW)
  have HA := Lib.hid (HA.out.trans (hbW.mono (by omega)))
  clear hbW eW HO
  obtain ⟨hz, aa0, aa1, aa2, aa3, aa4, aa5, aa6, aa7, aa8, ab0, ab1, ab2, ab3, ab4, ab5, ab6, ab7, ab8⟩ := HK.out _ HA.out
  have hq_a : w.heap.size < W6_G.heap.size := by omega
  have hq_b : w.heap.size + 1 < W6_G.heap.size := by omega
  obtain ⟨wwk, wwc, _⟩ := LW.out
  have ww0 := wwc 0 _ rfl
  have ww1 := wwc 1 _ rfl
  have ww2 := wwc 2 _ rfl
  have ww3 := wwc 3 _ rfl
  have ww4 := wwc 4 _ rfl
  have ww5 := wwc 5 _ rfl
  have ww6 := wwc 6 _ rfl
  have ww7 := wwc 7 _ rfl
  have ww8 := wwc 8 _ rfl
  clear wwc
  obtain ⟨xak, xac, _⟩ := LXa.out
  have xa0 := xac 0 _ rfl
  have xa1 := xac 1 _ rfl
  have xa2 := xac 2 _ rfl
  have xa3 := xac 3 _ rfl
  have xa4 := xac 4 _ rfl
  have xa5 := xac 5 _ rfl
  have xa6 := xac 6 _ rfl
  have xa7 := xac 7 _ rfl
  have xa8 := xac 8 _ rfl
  clear xac
  obtain ⟨xbk, xbc, _⟩ := LXb.out
  have xb0 := xbc 0 _ rfl
  have xb1 := xbc 1 _ rfl
  have xb2 := xbc 2 _ rfl
  have xb3 := xbc 3 _ rfl
  have xb4 := xbc 4 _ rfl
  have xb5 := xbc 5 _ rfl
  have xb6 := xbc 6 _ rfl
  have xb7 := xbc 7 _ rfl
  have xb8 := xbc 8 _ rfl
  clear xbc
  obtain ⟨ggk, ggc, _⟩ := LG.out
  have gg0 := ggc 0 _ rfl
  have gg1 := ggc 1 _ rfl
  have gg2 := ggc 2 _ rfl
  have gg3 := ggc 3 _ rfl
  have gg4 := ggc 4 _ rfl
  have gg5 := ggc 5 _ rfl
  have gg6 := ggc 6 _ rfl
  have gg7 := ggc 7 _ rfl
  have gg8 := ggc 8 _ rfl
  clear ggc
  go_wp2_with fail
  refine (eqElem_any R _ _ W6_G.heap.size _ LG.out.2.2.at LW.out.2.2.at (Nat.le_refl _)).mono ?_
  rintro en w7 ⟨rfl, hb⟩
  clear hz aa0 aa1 aa2 aa3 aa4 aa5 aa6 aa7 aa8 ab0 ab1 ab2 ab3 ab4 ab5 ab6 ab7 ab8 hq_a hq_b wwk ww0 ww1 ww2 ww3 ww4 ww5 ww6 ww7 ww8 xak xa0 xa1 xa2 xa3 xa4 xa5 xa6 xa7 xa8 xbk xb0 xb1 xb2 xb3 xb4 xb5 xb6 xb7 xb8 ggk gg0 gg1 gg2 gg3 gg4 gg5 gg6 gg7 gg8
  have hs_w7 : W6_G.heap.size ≤ w7.heap.size := hb.size
  have LW := Lib.hid (LW.out.below (El.goes R) hb)
  have LXa := Lib.hid (LXa.out.below (El.goes a) hb)
  have LXb := Lib.hid (LXb.out.below (El.goes b) hb)
  have LG := Lib.hid (LG.out.below (El.goes R) hb)
  have HA := Lib.hid (HA.out.trans (hb.mono (by omega)))
  clear hb
  obtain ⟨hz, aa0, aa1, aa2, aa3, aa4, aa5, aa6, aa7, aa8, ab0, ab1, ab2, ab3, ab4, ab5, ab6, ab7, ab8⟩ := HK.out _ HA.out
  have hq_a : w.heap.size < w7.heap.size := by omega
  have hq_b : w.heap.size + 1 < w7.heap.size := by omega
  obtain ⟨wwk, wwc, _⟩ := LW.out
  have ww0 := wwc 0 _ rfl
  have ww1 := wwc 1 _ rfl
  have ww2 := wwc 2 _ rfl
  have ww3 := wwc 3 _ rfl
  have ww4 := wwc 4 _ rfl
  have ww5 := wwc 5 _ rfl
  have ww6 := wwc 6 _ rfl
  have ww7 := wwc 7 _ rfl
  have ww8 := wwc 8 _ rfl
  clear wwc
  obtain ⟨xak, xac, _⟩ := LXa.out
  have xa0 := xac 0 _ rfl
  have xa1 := xac 1 _ rfl
  have xa2 := xac 2 _ rfl
  have xa3 := xac 3 _ rfl
  have xa4 := xac 4 _ rfl
  have xa5 := xac 5 _ rfl
  have xa6 := xac 6 _ rfl
  have xa7 := xac 7 _ rfl
  have xa8 := xac 8 _ rfl
  clear xac
  obtain ⟨xbk, xbc, _⟩ := LXb.out
  have xb0 := xbc 0 _ rfl
  have xb1 := xbc 1 _ rfl
  have xb2 := xbc 2 _ rfl
  have xb3 := xbc 3 _ rfl
  have xb4 := xbc 4 _ rfl
  have xb5 := xbc 5 _ rfl
  have xb6 := xbc 6 _ rfl
  have xb7 := xbc 7 _ rfl
  have xb8 := xbc 8 _ rfl
  clear xbc
  obtain ⟨ggk, ggc, _⟩ := LG.out
  have gg0 := ggc 0 _ rfl
  have gg1 := ggc 1 _ rfl
  have gg2 := ggc 2 _ rfl
  have gg3 := ggc 3 _ rfl
  have gg4 := ggc 4 _ rfl
  have gg5 := ggc 5 _ rfl
  have gg6 := ggc 6 _ rfl
  have gg7 := ggc 7 _ rfl
  have gg8 := ggc 8 _ rfl
  clear ggc
  have hA0 := HA.out
  have rr0 := Below.refl w7.heap.size w7
  go_upto_region 14 with fail
  go_cut [58] (fun s wx => s = .bool false ∧ Below w7.heap.size w7 wx)
  case first =>
    go_region_held3 (fun w' => w'.cell? ⟨w.heap.size, 0, none⟩ = some (.bool a.n) ∧ w'.cell? ⟨w.heap.size, 1, none⟩ = some (.string a.v) ∧ w'.cell? ⟨w.heap.size, 2, none⟩ = some (.int .i64 a.l.op) ∧ w'.cell? ⟨w.heap.size, 3, none⟩ = some (.string a.l.a) ∧ w'.cell? ⟨w.heap.size, 4, none⟩ = some (.slice p0a a.l.ks.list.length c0a) ∧ w'.cell? ⟨w.heap.size, 5, none⟩ = some (.int .i64 a.c.op) ∧ w'.cell? ⟨w.heap.size, 6, none⟩ = some (.string a.c.a) ∧ w'.cell? ⟨w.heap.size, 7, none⟩ = some (.slice q0a a.c.ks.list.length d0a) ∧ w'.cell? ⟨w.heap.size, 8, none⟩ = some (.int .i64 a.d) ∧ w'.cell? ⟨w4.heap.size, 0, none⟩ = some (.bool a.n) ∧ w'.cell? ⟨w4.heap.size, 1, none⟩ = some (.string a.v) ∧ w'.cell? ⟨w4.heap.size, 2, none⟩ = some (.int .i64 a.l.op) ∧ w'.cell? ⟨w4.heap.size, 3, none⟩ = some (.string a.l.a) ∧ w'.cell? ⟨w4.heap.size, 4, none⟩ = some (.slice pXa a.l.ks.list.length cXa) ∧ w'.cell? ⟨w4.heap.size, 5, none⟩ = some (.int .i64 a.c.op) ∧ w'.cell? ⟨w4.heap.size, 6, none⟩ = some (.string a.c.a) ∧ w'.cell? ⟨w4.heap.size, 7, none⟩ = some (.slice qXa a.c.ks.list.length dXa) ∧ w'.cell? ⟨w4.heap.size, 8, none⟩ = some (.int .i64 a.d))
      (exact ⟨keepc (show Below w7.heap.size w7 _ by ((repeat (first | with_reducible assumption | with_reducible exact Below.refl _ _ | refine Below.setCell ?_ (by (first | omega | (simp; omega) | (simp; done) | fail "sml")) _ | refine Below.drew ?_ | refine Below.alloc ?_ (by (first | omega | (simp; omega) | (simp; done) | fail "sml")) _)); first | done | fail "chs")) hq_a aa0, keepc (show Below w7.heap.size w7 _ by ((repeat (first | with_reducible assumption | with_reducible exact Below.refl _ _ | refine Below.setCell ?_ (by (first | omega | (simp; omega) | (simp; done) | fail "sml")) _ | refine Below.drew ?_ | refine Below.alloc ?_ (by (first | omega | (simp; omega) | (simp; done) | fail "sml")) _)); first | done | fail "chs")) hq_a aa1, keepc (show Below w7.heap.size w7 _ by ((repeat (first | with_reducible assumption | with_reducible exact Below.refl _ _ | refine Below.setCell ?_ (by (first | omega | (simp; omega) | (simp; done) | fail "sml")) _ | refine Below.drew ?_ | refine Below.alloc ?_ (by (first | omega | (simp; omega) | (simp; done) | fail "sml")) _)); first | done | fail "chs")) hq_a aa2, keepc (show Below w7.heap.size w7 _ by ((repeat (first | with_reducible assumption | with_reducible exact Below.refl _ _ | refine Below.setCell ?_ (by (first | omega | (simp; omega) | (simp; done) | fail "sml")) _ | refine Below.drew ?_ | refine Below.alloc ?_ (by (first | omega | (simp; omega) | (simp; done) | fail "sml")) _)); first | done | fail "chs")) hq_a aa3, keepc (show Below w7.heap.size w7 _ by ((repeat (first | with_reducible assumption | with_reducible exact Below.refl _ _ | refine Below.setCell ?_ (by (first | omega | (simp; omega) | (simp; done) | fail "sml")) _ | refine Below.drew ?_ | refine Below.alloc ?_ (by (first | omega | (simp; omega) | (simp; done) | fail "sml")) _)); first | done | fail "chs")) hq_a aa4, keepc (show Below w7.heap.size w7 _ by ((repeat (first | with_reducible assumption | with_reducible exact Below.refl _ _ | refine Below.setCell ?_ (by (first | omega | (simp; omega) | (simp; done) | fail "sml")) _ | refine Below.drew ?_ | refine Below.alloc ?_ (by (first | omega | (simp; omega) | (simp; done) | fail "sml")) _)); first | done | fail "chs")) hq_a aa5, keepc (show Below w7.heap.size w7 _ by ((repeat (first | with_reducible assumption | with_reducible exact Below.refl _ _ | refine Below.setCell ?_ (by (first | omega | (simp; omega) | (simp; done) | fail "sml")) _ | refine Below.drew ?_ | refine Below.alloc ?_ (by (first | omega | (simp; omega) | (simp; done) | fail "sml")) _)); first | done | fail "chs")) hq_a aa6, keepc (show Below w7.heap.size w7 _ by ((repeat (first | with_reducible assumption | with_reducible exact Below.refl _ _ | refine Below.setCell ?_ (by (first | omega | (simp; omega) | (simp; done) | fail "sml")) _ | refine Below.drew ?_ | refine Below.alloc ?_ (by (first | omega | (simp; omega) | (simp; done) | fail "sml")) _)); first | done | fail "chs")) hq_a aa7, keepc (show Below w7.heap.size w7 _ by ((repeat (first | with_reducible assumption | with_reducible exact Below.refl _ _ | refine Below.setCell ?_ (by (first | omega | (simp; omega) | (simp; done) | fail "sml")) _ | refine Below.drew ?_ | refine Below.alloc ?_ (by (first | omega | (simp; omega) | (simp; done) | fail "sml")) _)); first | done | fail "chs")) hq_a aa8, keepc (show Below w7.heap.size w7 _ by ((repeat (first | with_reducible assumption | with_reducible exact Below.refl _ _ | refine Below.setCell ?_ (by (first | omega | (simp; omega) | (simp; done) | fail "sml")) _ | refine Below.drew ?_ | refine Below.alloc ?_ (by (first | omega | (simp; omega) | (simp; done) | fail "sml")) _)); first | done | fail "chs")) xak xa0, keepc (show Below w7.heap.size w7 _ by ((repeat (first | with_reducible assumption | with_reducible exact Below.refl _ _ | refine Below.setCell ?_ (by (first | omega | (simp; omega) | (simp; done) | fail "sml")) _ | refine Below.drew ?_ | refine Below.alloc ?_ (by (first | omega | (simp; omega) | (simp; done) | fail "sml")) _)); first | done | fail "chs")) xak xa1, keepc (show Below w7.heap.size w7 _ by ((repeat (first | with_reducible assumption | with_reducible exact Below.refl _ _ | refine Below.setCell ?_ (by (first | omega | (simp; omega) | (simp; done) | fail "sml")) _ | refine Below.drew ?_ | refine Below.alloc ?_ (by (first | omega | (simp; omega) | (simp; done) | fail "sml")) _)); first | done | fail "chs")) xak xa2, keepc (show Below w7.heap.size w7 _ by ((repeat (first | with_reducible assumption | with_reducible exact Below.refl _ _ | refine Below.setCell ?_ (by (first | omega | (simp; omega) | (simp; done) | fail "sml")) _ | refine Below.drew ?_ | refine Below.alloc ?_ (by (first | omega | (simp; omega) | (simp; done) | fail "sml")) _)); first | done | fail "chs")) xak xa3, keepc (show Below w7.heap.size w7 _ by ((repeat (first | with_reducible assumption | with_reducible exact Below.refl _ _ | refine Below.setCell ?_ (by (first | omega | (simp; omega) | (simp; done) | fail "sml")) _ | refine Below.drew ?_ | refine Below.alloc ?_ (by (first | omega | (simp; omega) | (simp; done) | fail "sml")) _)); first | done | fail "chs")) xak xa4, keepc (show Below w7.heap.size w7 _ by ((repeat (first | with_reducible assumption | with_reducible exact Below.refl _ _ | refine Below.setCell ?_ (by (first | omega | (simp; omega) | (simp; done) | fail "sml")) _ | refine Below.drew ?_ | refine Below.alloc ?_ (by (first | omega | (simp; omega) | (simp; done) | fail "sml")) _)); first | done | fail "chs")) xak xa5, keepc (show Below w7.heap.size w7 _ by ((repeat (first | with_reducible assumption | with_reducible exact Below.refl _ _ | refine Below.setCell ?_ (by (first | omega | (simp; omega) | (simp; done) | fail "sml")) _ | refine Below.drew ?_ | refine Below.alloc ?_ (by (first | omega | (simp; omega) | (simp; done) | fail "sml")) _)); first | done | fail "chs")) xak xa6, keepc (show Below w7.heap.size w7 _ by ((repeat (first | with_reducible assumption | with_reducible exact Below.refl _ _ | refine Below.setCell ?_ (by (first | omega | (simp; omega) | (simp; done) | fail "sml")) _ | refine Below.drew ?_ | refine Below.alloc ?_ (by (first | omega | (simp; omega) | (simp; done) | fail "sml")) _)); first | done | fail "chs")) xak xa7, keepc (show Below w7.heap.size w7 _ by ((repeat (first | with_reducible assumption | with_reducible exact Below.refl _ _ | refine Below.setCell ?_ (by (first | omega | (simp; omega) | (simp; done) | fail "sml")) _ | refine Below.drew ?_ | refine Below.alloc ?_ (by (first | omega | (simp; omega) | (simp; done) | fail "sml")) _)); first | done | fail "chs")) xak xa8⟩)
      (first
        | (go_at_call 15; refine (CT_a.out _ (hA0.trans (Below.mono (show Below w7.heap.size w7 _ by ((repeat (first | with_reducible assumption | with_reducible exact Below.refl _ _ | refine Below.setCell ?_ (by (first | omega | (simp; omega) | (simp; done) | fail "sml")) _ | refine Below.drew ?_ | refine Below.alloc ?_ (by (first | omega | (simp; omega) | (simp; done) | fail "sml")) _)); first | done | fail "chs")) (by omega)))).mono ?_; rintro en wa ⟨va, Fa, rfl, hh, _, hb⟩; have hka := Below.trans (show Below w7.heap.size w7 _ by ((repeat (first | with_reducible assumption | with_reducible exact Below.refl _ _ | refine Below.setCell ?_ (by (first | omega | (simp; omega) | (simp; done) | fail "sml")) _ | refine Below.drew ?_ | refine Below.alloc ?_ (by (first | omega | (simp; omega) | (simp; done) | fail "sml")) _)); first | done | fail "chs")) (hb.mono (by (first | omega | (simp; omega) | (simp; done) | fail "sml"))); have za := hka.size; have HHa := Lib.hid hh.at; clear hh hb)
        | (go_at_call 16; refine (eqElem_any a _ _ wa.heap.size _ (LXa.out.2.2.at.to (by ((repeat (first | with_reducible assumption | with_reducible exact Below.refl _ _ | refine Below.setCell ?_ (by (first | omega | (simp; omega) | (simp; done) | fail "sml")) _ | refine Below.drew ?_ | refine Below.alloc ?_ (by (first | omega | (simp; omega) | (simp; done) | fail "sml")) _)); first | done | fail "chs")) (by omega)) (HHa.out.to (by ((repeat (first | with_reducible assumption | with_reducible exact Below.refl _ _ | refine Below.setCell ?_ (by (first | omega | (simp; omega) | (simp; done) | fail "sml")) _ | refine Below.drew ?_ | refine Below.alloc ?_ (by (first | omega | (simp; omega) | (simp; done) | fail "sml")) _)); first | done | fail "chs")) (Nat.le_refl _)) (by (first | omega | (simp; omega) | (simp; done) | fail "sml"))).mono ?_; rintro en wb ⟨rfl, hbb⟩; have hkb := Below.trans (show Below w7.heap.size w7 _ by ((repeat (first | with_reducible assumption | with_reducible exact Below.refl _ _ | refine Below.setCell ?_ (by (first | omega | (simp; omega) | (simp; done) | fail "sml")) _ | refine Below.drew ?_ | refine Below.alloc ?_ (by (first | omega | (simp; omega) | (simp; done) | fail "sml")) _)); first | done | fail "chs")) (hbb.mono (by first | omega | (simp; omega))); clear hbb))
    all_goals (go_wp2_with fail; go_meet)
    all_goals exact ⟨rfl, by ((repeat (first | with_reducible assumption | with_reducible exact Below.refl _ _ | refine Below.setCell ?_ (by (first | omega | (simp; omega) | (simp; done) | fail "sml")) _ | refine Below.drew ?_ | refine Below.alloc ?_ (by (first | omega | (simp; omega) | (simp; done) | fail "sml")) _)); first | done | fail "chs")⟩
  case rest =>
  obtain ⟨rfl, hbx⟩ := hcut
  clear hz aa0 aa1 aa2 aa3 aa4 aa5 aa6 aa7 aa8 ab0 ab1 ab2 ab3 ab4 ab5 ab6 ab7 ab8 hq_a hq_b wwk ww0 ww1 ww2 ww3 ww4 ww5 ww6 ww7 ww8 xak xa0 xa1 xa2 xa3 xa4 xa5 xa6 xa7 xa8 xbk xb0 xb1 xb2 xb3 xb4 xb5 xb6 xb7 xb8 ggk gg0 gg1 gg2 gg3 gg4 gg5 gg6 gg7 gg8
  clear hA0 rr0
  obtain ⟨w8, ew⟩ : ∃ u, u = wc := ⟨_, rfl⟩
  subst ew
  have hs_w8 : w7.heap.size ≤ w8.heap.size := hbx.size
  have LW := Lib.hid (LW.out.below (El.goes R) hbx)
  have LXa := Lib.hid (LXa.out.below (El.goes a) hbx)
  have LXb := Lib.hid (LXb.out.below (El.goes b) hbx)
  have LG := Lib.hid (LG.out.below (El.goes R) hbx)
  have HA := Lib.hid (HA.out.trans (hbx.mono (by omega)))
  clear hbx
  obtain ⟨hz, aa0, aa1, aa2, aa3, aa4, aa5, aa6, aa7, aa8, ab0, ab1, ab2, ab3, ab4, ab5, ab6, ab7, ab8⟩ := HK.out _ HA.out
  have hq_a : w.heap.size < w8.heap.size := by omega
  have hq_b : w.heap.size + 1 < w8.heap.size := by omega
  obtain ⟨wwk, wwc, _⟩ := LW.out
  have ww0 := wwc 0 _ rfl
  have ww1 := wwc 1 _ rfl
  have ww2 := wwc 2 _ rfl
  have ww3 := wwc 3 _ rfl
  have ww4 := wwc 4 _ rfl
  have ww5 := wwc 5 _ rfl
  have ww6 := wwc 6 _ rfl
  have ww7 := wwc 7 _ rfl
  have ww8 := wwc 8 _ rfl
  clear wwc
  obtain ⟨xak, xac, _⟩ := LXa.out
  have xa0 := xac 0 _ rfl
  have xa1 := xac 1 _ rfl
  have xa2 := xac 2 _ rfl
  have xa3 := xac 3 _ rfl
  have xa4 := xac 4 _ rfl
  have xa5 := xac 5 _ rfl
  have xa6 := xac 6 _ rfl
  have xa7 := xac 7 _ rfl
  have xa8 := xac 8 _ rfl
  clear xac
  obtain ⟨xbk, xbc, _⟩ := LXb.out
  have xb0 := xbc 0 _ rfl
  have xb1 := xbc 1 _ rfl
  have xb2 := xbc 2 _ rfl
  have xb3 := xbc 3 _ rfl
  have xb4 := xbc 4 _ rfl
  have xb5 := xbc 5 _ rfl
  have xb6 := xbc 6 _ rfl
  have xb7 := xbc 7 _ rfl
  have xb8 := xbc 8 _ rfl
  clear xbc
  obtain ⟨ggk, ggc, _⟩ := LG.out
  have gg0 := ggc 0 _ rfl
  have gg1 := ggc 1 _ rfl
  have gg2 := ggc 2 _ rfl
  have gg3 := ggc 3 _ rfl
  have gg4 := ggc 4 _ rfl
  have gg5 := ggc 5 _ rfl
  have gg6 := ggc 6 _ rfl
  have gg7 := ggc 7 _ rfl
  have gg8 := ggc 8 _ rfl
  clear ggc
  have hA0 := HA.out
  have rr0 := Below.refl w8.heap.size w8
  go_upto_region 16 with fail
  go_cut [63] (fun s wx => s = .bool false ∧ Below w8.heap.size w8 wx)
  case first =>
    go_region_held3 (fun w' => w'.cell? ⟨w.heap.size + 1, 0, none⟩ = some (.bool b.n) ∧ w'.cell? ⟨w.heap.size + 1, 1, none⟩ = some (.string b.v) ∧ w'.cell? ⟨w.heap.size + 1, 2, none⟩ = some (.int .i64 b.l.op) ∧ w'.cell? ⟨w.heap.size + 1, 3, none⟩ = some (.string b.l.a) ∧ w'.cell? ⟨w.heap.size + 1, 4, none⟩ = some (.slice p0b b.l.ks.list.length c0b) ∧ w'.cell? ⟨w.heap.size + 1, 5, none⟩ = some (.int .i64 b.c.op) ∧ w'.cell? ⟨w.heap.size + 1, 6, none⟩ = some (.string b.c.a) ∧ w'.cell? ⟨w.heap.size + 1, 7, none⟩ = some (.slice q0b b.c.ks.list.length d0b) ∧ w'.cell? ⟨w.heap.size + 1, 8, none⟩ = some (.int .i64 b.d) ∧ w'.cell? ⟨w5.heap.size, 0, none⟩ = some (.bool b.n) ∧ w'.cell? ⟨w5.heap.size, 1, none⟩ = some (.string b.v) ∧ w'.cell? ⟨w5.heap.size, 2, none⟩ = some (.int .i64 b.l.op) ∧ w'.cell? ⟨w5.heap.size, 3, none⟩ = some (.string b.l.a) ∧ w'.cell? ⟨w5.heap.size, 4, none⟩ = some (.slice pXb b.l.ks.list.length cXb) ∧ w'.cell? ⟨w5.heap.size, 5, none⟩ = some (.int .i64 b.c.op) ∧ w'.cell? ⟨w5.heap.size, 6, none⟩ = some (.string b.c.a) ∧ w'.cell? ⟨w5.heap.size, 7, none⟩ = some (.slice qXb b.c.ks.list.length dXb) ∧ w'.cell? ⟨w5.heap.size, 8, none⟩ = some (.int .i64 b.d))
      (exact ⟨keepc (show Below w8.heap.size w8 _ by ((repeat (first | with_reducible assumption | with_reducible exact Below.refl _ _ | refine Below.setCell ?_ (by (first | omega | (simp; omega) | (simp; done) | fail "sml")) _ | refine Below.drew ?_ | refine Below.alloc ?_ (by (first | omega | (simp; omega) | (simp; done) | fail "sml")) _)); first | done | fail "chs")) hq_b ab0, keepc (show Below w8.heap.size w8 _ by ((repeat (first | with_reducible assumption | with_reducible exact Below.refl _ _ | refine Below.setCell ?_ (by (first | omega | (simp; omega) | (simp; done) | fail "sml")) _ | refine Below.drew ?_ | refine Below.alloc ?_ (by (first | omega | (simp; omega) | (simp; done) | fail "sml")) _)); first | done | fail "chs")) hq_b ab1, keepc (show Below w8.heap.size w8 _ by ((repeat (first | with_reducible assumption | with_reducible exact Below.refl _ _ | refine Below.setCell ?_ (by (first | omega | (simp; omega) | (simp; done) | fail "sml")) _ | refine Below.drew ?_ | refine Below.alloc ?_ (by (first | omega | (simp; omega) | (simp; done) | fail "sml")) _)); first | done | fail "chs")) hq_b ab2, keepc (show Below w8.heap.size w8 _ by ((repeat (first | with_reducible assumption | with_reducible exact Below.refl _ _ | refine Below.setCell ?_ (by (first | omega | (simp; omega) | (simp; done) | fail "sml")) _ | refine Below.drew ?_ | refine Below.alloc ?_ (by (first | omega | (simp; omega) | (simp; done) | fail "sml")) _)); first | done | fail "chs")) hq_b ab3, keepc (show Below w8.heap.size w8 _ by ((repeat (first | with_reducible assumption | with_reducible exact Below.refl _ _ | refine Below.setCell ?_ (by (first | omega | (simp; omega) | (simp; done) | fail "sml")) _ | refine Below.drew ?_ | refine Below.alloc ?_ (by (first | omega | (simp; omega) | (simp; done) | fail "sml")) _)); first | done | fail "chs")) hq_b ab4, keepc (show Below w8.heap.size w8 _ by ((repeat (first | with_reducible assumption | with_reducible exact Below.refl _ _ | refine Below.setCell ?_ (by (first | omega | (simp; omega) | (simp; done) | fail "sml")) _ | refine Below.drew ?_ | refine Below.alloc ?_ (by (first | omega | (simp; omega) | (simp; done) | fail "sml")) _)); first | done | fail "chs")) hq_b ab5, keepc (show Below w8.heap.size w8 _ by ((repeat (first | with_reducible assumption | with_reducible exact Below.refl _ _ | refine Below.setCell ?_ (by (first | omega | (simp; omega) | (simp; done) | fail "sml")) _ | refine Below.drew ?_ | refine Below.alloc ?_ (by (first | omega | (simp; omega) | (simp; done) | fail "sml")) _)); first | done | fail "chs")) hq_b ab6, keepc (show Below w8.heap.size w8 _ by ((repeat (first | with_reducible assumption | with_reducible exact Below.refl _ _ | refine Below.setCell ?_ (by (first | omega | (simp; omega) | (simp; done) | fail "sml")) _ | refine Below.drew ?_ | refine Below.alloc ?_ (by (first | omega | (simp; omega) | (simp; done) | fail "sml")) _)); first | done | fail "chs")) hq_b ab7, keepc (show Below w8.heap.size w8 _ by ((repeat (first | with_reducible assumption | with_reducible exact Below.refl _ _ | refine Below.setCell ?_ (by (first | omega | (simp; omega) | (simp; done) | fail "sml")) _ | refine Below.drew ?_ | refine Below.alloc ?_ (by (first | omega | (simp; omega) | (simp; done) | fail "sml")) _)); first | done | fail "chs")) hq_b ab8, keepc (show Below w8.heap.size w8 _ by ((repeat (first | with_reducible assumption | with_reducible exact Below.refl _ _ | refine Below.setCell ?_ (by (first | omega | (simp; omega) | (simp; done) | fail "sml")) _ | refine Below.drew ?_ | refine Below.alloc ?_ (by (first | omega | (simp; omega) | (simp; done) | fail "sml")) _)); first | done | fail "chs")) xbk xb0, keepc (show Below w8.heap.size w8 _ by ((repeat (first | with_reducible assumption | with_reducible exact Below.refl _ _ | refine Below.setCell ?_ (by (first | omega | (simp; omega) | (simp; done) | fail "sml")) _ | refine Below.drew ?_ | refine Below.alloc ?_ (by (first | omega | (simp; omega) | (simp; done) | fail "sml")) _)); first | done | fail "chs")) xbk xb1, keepc (show Below w8.heap.size w8 _ by ((repeat (first | with_reducible assumption | with_reducible exact Below.refl _ _ | refine Below.setCell ?_ (by (first | omega | (simp; omega) | (simp; done) | fail "sml")) _ | refine Below.drew ?_ | refine Below.alloc ?_ (by (first | omega | (simp; omega) | (simp; done) | fail "sml")) _)); first | done | fail "chs")) xbk xb2, keepc (show Below w8.heap.size w8 _ by ((repeat (first | with_reducible assumption | with_reducible exact Below.refl _ _ | refine Below.setCell ?_ (by (first | omega | (simp; omega) | (simp; done) | fail "sml")) _ | refine Below.drew ?_ | refine Below.alloc ?_ (by (first | omega | (simp; omega) | (simp; done) | fail "sml")) _)); first | done | fail "chs")) xbk xb3, keepc (show Below w8.heap.size w8 _ by ((repeat (first | with_reducible assumption | with_reducible exact Below.refl _ _ | refine Below.setCell ?_ (by (first | omega | (simp; omega) | (simp; done) | fail "sml")) _ | refine Below.drew ?_ | refine Below.alloc ?_ (by (first | omega | (simp; omega) | (simp; done) | fail "sml")) _)); first | done | fail "chs")) xbk xb4, keepc (show Below w8.heap.size w8 _ by ((repeat (first | with_reducible assumption | with_reducible exact Below.refl _ _ | refine Below.setCell ?_ (by (first | omega | (simp; omega) | (simp; done) | fail "sml")) _ | refine Below.drew ?_ | refine Below.alloc ?_ (by (first | omega | (simp; omega) | (simp; done) | fail "sml")) _)); first | done | fail "chs")) xbk xb5, keepc (show Below w8.heap.size w8 _ by ((repeat (first | with_reducible assumption | with_reducible exact Below.refl _ _ | refine Below.setCell ?_ (by (first | omega | (simp; omega) | (simp; done) | fail "sml")) _ | refine Below.drew ?_ | refine Below.alloc ?_ (by (first | omega | (simp; omega) | (simp; done) | fail "sml")) _)); first | done | fail "chs")) xbk xb6, keepc (show Below w8.heap.size w8 _ by ((repeat (first | with_reducible assumption | with_reducible exact Below.refl _ _ | refine Below.setCell ?_ (by (first | omega | (simp; omega) | (simp; done) | fail "sml")) _ | refine Below.drew ?_ | refine Below.alloc ?_ (by (first | omega | (simp; omega) | (simp; done) | fail "sml")) _)); first | done | fail "chs")) xbk xb7, keepc (show Below w8.heap.size w8 _ by ((repeat (first | with_reducible assumption | with_reducible exact Below.refl _ _ | refine Below.setCell ?_ (by (first | omega | (simp; omega) | (simp; done) | fail "sml")) _ | refine Below.drew ?_ | refine Below.alloc ?_ (by (first | omega | (simp; omega) | (simp; done) | fail "sml")) _)); first | done | fail "chs")) xbk xb8⟩)
      (first
        | (go_at_call 15; refine (CT_b.out _ (hA0.trans (Below.mono (show Below w8.heap.size w8 _ by ((repeat (first | with_reducible assumption | with_reducible exact Below.refl _ _ | refine Below.setCell ?_ (by (first | omega | (simp; omega) | (simp; done) | fail "sml")) _ | refine Below.drew ?_ | refine Below.alloc ?_ (by (first | omega | (simp; omega) | (simp; done) | fail "sml")) _)); first | done | fail "chs")) (by omega)))).mono ?_; rintro en wa ⟨va, Fa, rfl, hh, _, hb⟩; have hka := Below.trans (show Below w8.heap.size w8 _ by ((repeat (first | with_reducible assumption | with_reducible exact Below.refl _ _ | refine Below.setCell ?_ (by (first | omega | (simp; omega) | (simp; done) | fail "sml")) _ | refine Below.drew ?_ | refine Below.alloc ?_ (by (first | omega | (simp; omega) | (simp; done) | fail "sml")) _)); first | done | fail "chs")) (hb.mono (by (first | omega | (simp; omega) | (simp; done) | fail "sml"))); have za := hka.size; have HHa := Lib.hid hh.at; clear hh hb)
        | (go_at_call 16; refine (eqElem_any b _ _ wa.heap.size _ (LXb.out.2.2.at.to (by ((repeat (first | with_reducible assumption | with_reducible exact Below.refl _ _ | refine Below.setCell ?_ (by (first | omega | (simp; omega) | (simp; done) | fail "sml")) _ | refine Below.drew ?_ | refine Below.alloc ?_ (by (first | omega | (simp; omega) | (simp; done) | fail "sml")) _)); first | done | fail "chs")) (by omega)) (HHa.out.to (by ((repeat (first | with_reducible assumption | with_reducible exact Below.refl _ _ | refine Below.setCell ?_ (by (first | omega | (simp; omega) | (simp; done) | fail "sml")) _ | refine Below.drew ?_ | refine Below.alloc ?_ (by (first | omega | (simp; omega) | (simp; done) | fail "sml")) _)); first | done | fail "chs")) (Nat.le_refl _)) (by (first | omega | (simp; omega) | (simp; done) | fail "sml"))).mono ?_; rintro en wb ⟨rfl, hbb⟩; have hkb := Below.trans (show Below w8.heap.size w8 _ by ((repeat (first | with_reducible assumption | with_reducible exact Below.refl _ _ | refine Below.setCell ?_ (by (first | omega | (simp; omega) | (simp; done) | fail "sml")) _ | refine Below.drew ?_ | refine Below.alloc ?_ (by (first | omega | (simp; omega) | (simp; done) | fail "sml")) _)); first | done | fail "chs")) (hbb.mono (by first | omega | (simp; omega))); clear hbb))
    all_goals (go_wp2_with fail; go_meet)
    all_goals exact ⟨rfl, by ((repeat (first | with_reducible assumption | with_reducible exact Below.refl _ _ | refine Below.setCell ?_ (by (first | omega | (simp; omega) | (simp; done) | fail "sml")) _ | refine Below.drew ?_ | refine Below.alloc ?_ (by (first | omega | (simp; omega) | (simp; done) | fail "sml")) _)); first | done | fail "chs")⟩
  case rest =>
  obtain ⟨rfl, hbx⟩ := hcut
  clear hz aa0 aa1 aa2 aa3 aa4 aa5 aa6 aa7 aa8 ab0 ab1 ab2 ab3 ab4 ab5 ab6 ab7 ab8 hq_a hq_b wwk ww0 ww1 ww2 ww3 ww4 ww5 ww6 ww7 ww8 xak xa0 xa1 xa2 xa3 xa4 xa5 xa6 xa7 xa8 xbk xb0 xb1 xb2 xb3 xb4 xb5 xb6 xb7 xb8 ggk gg0 gg1 gg2 gg3 gg4 gg5 gg6 gg7 gg8
  clear hA0 rr0
  obtain ⟨w9, ew⟩ : ∃ u, u = wc := ⟨_, rfl⟩
  subst ew
  have hs_w9 : w8.heap.size ≤ w9.heap.size := hbx.size
  have LW := Lib.hid (LW.out.below (El.goes R) hbx)
  have LXa := Lib.hid (LXa.out.below (El.goes a) hbx)
  have LXb := Lib.hid (LXb.out.below (El.goes b) hbx)
  have LG := Lib.hid (LG.out.below (El.goes R) hbx)
  have HA := Lib.hid (HA.out.trans (hbx.mono (by omega)))
  clear hbx
  obtain ⟨hz, aa0, aa1, aa2, aa3, aa4, aa5, aa6, aa7, aa8, ab0, ab1, ab2, ab3, ab4, ab5, ab6, ab7, ab8⟩ := HK.out _ HA.out
  have hq_a : w.heap.size < w9.heap.size := by omega
  have hq_b : w.heap.size + 1 < w9.heap.size := by omega
  obtain ⟨wwk, wwc, _⟩ := LW.out
  have ww0 := wwc 0 _ rfl
  have ww1 := wwc 1 _ rfl
  have ww2 := wwc 2 _ rfl
  have ww3 := wwc 3 _ rfl
  have ww4 := wwc 4 _ rfl
  have ww5 := wwc 5 _ rfl
  have ww6 := wwc 6 _ rfl
  have ww7 := wwc 7 _ rfl
  have ww8 := wwc 8 _ rfl
  clear wwc
  obtain ⟨xak, xac, _⟩ := LXa.out
  have xa0 := xac 0 _ rfl
  have xa1 := xac 1 _ rfl
  have xa2 := xac 2 _ rfl
  have xa3 := xac 3 _ rfl
  have xa4 := xac 4 _ rfl
  have xa5 := xac 5 _ rfl
  have xa6 := xac 6 _ rfl
  have xa7 := xac 7 _ rfl
  have xa8 := xac 8 _ rfl
  clear xac
  obtain ⟨xbk, xbc, _⟩ := LXb.out
  have xb0 := xbc 0 _ rfl
  have xb1 := xbc 1 _ rfl
  have xb2 := xbc 2 _ rfl
  have xb3 := xbc 3 _ rfl
  have xb4 := xbc 4 _ rfl
  have xb5 := xbc 5 _ rfl
  have xb6 := xbc 6 _ rfl
  have xb7 := xbc 7 _ rfl
  have xb8 := xbc 8 _ rfl
  clear xbc
  obtain ⟨ggk, ggc, _⟩ := LG.out
  have gg0 := ggc 0 _ rfl
  have gg1 := ggc 1 _ rfl
  have gg2 := ggc 2 _ rfl
  have gg3 := ggc 3 _ rfl
  have gg4 := ggc 4 _ rfl
  have gg5 := ggc 5 _ rfl
  have gg6 := ggc 6 _ rfl
  have gg7 := ggc 7 _ rfl
  have gg8 := ggc 8 _ rfl
  clear ggc
  go_wp2_with fail
  refine (markElem_any a _ FXa 1 _ LXa.out.2.2 (by omega) (by omega)).mono ?_
  rintro en w10 ⟨rfl, ho, hc⟩
  clear hz aa0 aa1 aa2 aa3 aa4 aa5 aa6 aa7 aa8 ab0 ab1 ab2 ab3 ab4 ab5 ab6 ab7 ab8 hq_a hq_b wwk ww0 ww1 ww2 ww3 ww4 ww5 ww6 ww7 ww8 xak xa0 xa1 xa2 xa3 xa4 xa5 xa6 xa7 xa8 xbk xb0 xb1 xb2 xb3 xb4 xb5 xb6 xb7 xb8 ggk gg0 gg1 gg2 gg3 gg4 gg5 gg6 gg7 gg8
  have hs_w10 : w9.heap.size ≤ w10.heap.size := hc.size
  have HA := Lib.hid (HA.out.trans (hc.below (by omega) (fun y hy => by have := GXa.out y hy; omega)))
  have LW := Lib.hid (LW.out.chg (El.goes R) hc (fun hy => by have := GXa.out _ hy; omega) (fun y hy hy2 => by have h1 := GW.out y hy; have h2 := GXa.out y hy2; omega))
  have LXb := Lib.hid (LXb.out.chg (El.goes b) hc (fun hy => by have := GXa.out _ hy; omega) (fun y hy hy2 => by have h1 := GXb.out y hy; have h2 := GXa.out y hy2; omega))
  have LG := Lib.hid (LG.out.chg (El.goes R) hc (fun hy => by have := GXa.out _ hy; omega) (fun y hy hy2 => by have h1 := GG.out y hy; have h2 := GXa.out y hy2; omega))
  clear hc ho LXa
  obtain ⟨hz, aa0, aa1, aa2, aa3, aa4, aa5, aa6, aa7, aa8, ab0, ab1, ab2, ab3, ab4, ab5, ab6, ab7, ab8⟩ := HK.out _ HA.out
  have hq_a : w.heap.size < w10.heap.size := by omega
  have hq_b : w.heap.size + 1 < w10.heap.size := by omega
  obtain ⟨wwk, wwc, _⟩ := LW.out
  have ww0 := wwc 0 _ rfl
  have ww1 := wwc 1 _ rfl
  have ww2 := wwc 2 _ rfl
  have ww3 := wwc 3 _ rfl
  have ww4 := wwc 4 _ rfl
  have ww5 := wwc 5 _ rfl
  have ww6 := wwc 6 _ rfl
  have ww7 := wwc 7 _ rfl
  have ww8 := wwc 8 _ rfl
  clear wwc
  obtain ⟨xbk, xbc, _⟩ := LXb.out
  have xb0 := xbc 0 _ rfl
  have xb1 := xbc 1 _ rfl
  have xb2 := xbc 2 _ rfl
  have xb3 := xbc 3 _ rfl
  have xb4 := xbc 4 _ rfl
  have xb5 := xbc 5 _ rfl
  have xb6 := xbc 6 _ rfl
  have xb7 := xbc 7 _ rfl
  have xb8 := xbc 8 _ rfl
  clear xbc
  obtain ⟨ggk, ggc, _⟩ := LG.out
  have gg0 := ggc 0 _ rfl
  have gg1 := ggc 1 _ rfl
  have gg2 := ggc 2 _ rfl
  have gg3 := ggc 3 _ rfl
  have gg4 := ggc 4 _ rfl
  have gg5 := ggc 5 _ rfl
  have gg6 := ggc 6 _ rfl
  have gg7 := ggc 7 _ rfl
  have gg8 := ggc 8 _ rfl
  clear ggc
  go_wp2_with fail
  refine (markElem_any b _ FXb _ _ LXb.out.2.2 (by omega) (by omega)).mono ?_
  rintro en w11 ⟨rfl, ho, hc⟩
  clear hz aa0 aa1 aa2 aa3 aa4 aa5 aa6 aa7 aa8 ab0 ab1 ab2 ab3 ab4 ab5 ab6 ab7 ab8 hq_a hq_b wwk ww0 ww1 ww2 ww3 ww4 ww5 ww6 ww7 ww8 xbk xb0 xb1 xb2 xb3 xb4 xb5 xb6 xb7 xb8 ggk gg0 gg1 gg2 gg3 gg4 gg5 gg6 gg7 gg8
  have hs_w11 : w10.heap.size ≤ w11.heap.size := hc.size
  have HA := Lib.hid (HA.out.trans (hc.below (by omega) (fun y hy => by have := GXb.out y hy; omega)))
  have LW := Lib.hid (LW.out.chg (El.goes R) hc (fun hy => by have := GXb.out _ hy; omega) (fun y hy hy2 => by have h1 := GW.out y hy; have h2 := GXb.out y hy2; omega))
  have LG := Lib.hid (LG.out.chg (El.goes R) hc (fun hy => by have := GXb.out _ hy; omega) (fun y hy hy2 => by have h1 := GG.out y hy; have h2 := GXb.out y hy2; omega))
  clear hc ho LXb
  obtain ⟨hz, aa0, aa1, aa2, aa3, aa4, aa5, aa6, aa7, aa8, ab0, ab1, ab2, ab3, ab4, ab5, ab6, ab7, ab8⟩ := HK.out _ HA.out
  have hq_a : w.heap.size < w11.heap.size := by omega
  have hq_b : w.heap.size + 1 < w11.heap.size := by omega
  obtain ⟨wwk, wwc, _⟩ := LW.out
  have ww0 := wwc 0 _ rfl
  have ww1 := wwc 1 _ rfl
  have ww2 := wwc 2 _ rfl
  have ww3 := wwc 3 _ rfl
  have ww4 := wwc 4 _ rfl
  have ww5 := wwc 5 _ rfl
  have ww6 := wwc 6 _ rfl
  have ww7 := wwc 7 _ rfl
  have ww8 := wwc 8 _ rfl
  clear wwc
  obtain ⟨ggk, ggc, _⟩ := LG.out
  have gg0 := ggc 0 _ rfl
  have gg1 := ggc 1 _ rfl
  have gg2 := ggc 2 _ rfl
  have gg3 := ggc 3 _ rfl
  have gg4 := ggc 4 _ rfl
  have gg5 := ggc 5 _ rfl
  have gg6 := ggc 6 _ rfl
  have gg7 := ggc 7 _ rfl
  have gg8 := ggc 8 _ rfl
  clear ggc
  have hn1 : ¬ ((1 : Int) + 2 * (a.l.ks.size + a.c.ks.size) + 2 * (b.l.ks.size + b.c.ks.size) < 0) := by omega
  go_wp2_with fail
  refine (eqElem_any R _ _ w11.heap.size _ LG.out.2.2.at LW.out.2.2.at (Nat.le_refl _)).mono ?_
  rintro en w12 ⟨rfl, hb⟩
  clear hz aa0 aa1 aa2 aa3 aa4 aa5 aa6 aa7 aa8 ab0 ab1 ab2 ab3 ab4 ab5 ab6 ab7 ab8 hq_a hq_b wwk ww0 ww1 ww2 ww3 ww4 ww5 ww6 ww7 ww8 ggk gg0 gg1 gg2 gg3 gg4 gg5 gg6 gg7 gg8
  have hs_w12 : w11.heap.size ≤ w12.heap.size := hb.size
  have LW := Lib.hid (LW.out.below (El.goes R) hb)
  have LG := Lib.hid (LG.out.below (El.goes R) hb)
  have HA := Lib.hid (HA.out.trans (hb.mono (by omega)))
  clear hb
  obtain ⟨hz, aa0, aa1, aa2, aa3, aa4, aa5, aa6, aa7, aa8, ab0, ab1, ab2, ab3, ab4, ab5, ab6, ab7, ab8⟩ := HK.out _ HA.out
  have hq_a : w.heap.size < w12.heap.size := by omega
  have hq_b : w.heap.size + 1 < w12.heap.size := by omega
  obtain ⟨wwk, wwc, _⟩ := LW.out
  have ww0 := wwc 0 _ rfl
  have ww1 := wwc 1 _ rfl
  have ww2 := wwc 2 _ rfl
  have ww3 := wwc 3 _ rfl
  have ww4 := wwc 4 _ rfl
  have ww5 := wwc 5 _ rfl
  have ww6 := wwc 6 _ rfl
  have ww7 := wwc 7 _ rfl
  have ww8 := wwc 8 _ rfl
  clear wwc
  obtain ⟨ggk, ggc, _⟩ := LG.out
  have gg0 := ggc 0 _ rfl
  have gg1 := ggc 1 _ rfl
  have gg2 := ggc 2 _ rfl
  have gg3 := ggc 3 _ rfl
  have gg4 := ggc 4 _ rfl
  have gg5 := ggc 5 _ rfl
  have gg6 := ggc 6 _ rfl
  have gg7 := ggc 7 _ rfl
  have gg8 := ggc 8 _ rfl
  clear ggc
  clear hn1
  go_wp2_with fail
  refine (markElem_any R _ FG 1 _ LG.out.2.2 (by omega) (by omega)).mono ?_
  rintro en w13 ⟨rfl, ho, hc⟩
  clear hz aa0 aa1 aa2 aa3 aa4 aa5 aa6 aa7 aa8 ab0 ab1 ab2 ab3 ab4 ab5 ab6 ab7 ab8 hq_a hq_b wwk ww0 ww1 ww2 ww3 ww4 ww5 ww6 ww7 ww8 ggk gg0 gg1 gg2 gg3 gg4 gg5 gg6 gg7 gg8
  have hs_w13 : w12.heap.size ≤ w13.heap.size := hc.size
  have HA := Lib.hid (HA.out.trans (hc.below (by omega) (fun y hy => by have := GG.out y hy; omega)))
  have LW := Lib.hid (LW.out.chg (El.goes R) hc (fun hy => by have := GG.out _ hy; omega) (fun y hy hy2 => by have h1 := GW.out y hy; have h2 := GG.out y hy2; omega))
  have LM := Lib.hid (LG.out.turn (Q := (R.mk2 1).Has) hc (fun hy => by have := GG.out _ hy; omega) ho)
  clear hc ho LG
  obtain ⟨hz, aa0, aa1, aa2, aa3, aa4, aa5, aa6, aa7, aa8, ab0, ab1, ab2, ab3, ab4, ab5, ab6, ab7, ab8⟩ := HK.out _ HA.out
  have hq_a : w.heap.size < w13.heap.size := by omega
  have hq_b : w.heap.size + 1 < w13.heap.size := by omega
  obtain ⟨wwk, wwc, _⟩ := LW.out
  have ww0 := wwc 0 _ rfl
  have ww1 := wwc 1 _ rfl
  have ww2 := wwc 2 _ rfl
  have ww3 := wwc 3 _ rfl
  have ww4 := wwc 4 _ rfl
  have ww5 := wwc 5 _ rfl
  have ww6 := wwc 6 _ rfl
  have ww7 := wwc 7 _ rfl
  have ww8 := wwc 8 _ rfl
  clear wwc
  obtain ⟨mmk, mmc, _⟩ := LM.out
  have mm0 := mmc 0 _ rfl
  have mm1 := mmc 1 _ rfl
  have mm2 := mmc 2 _ rfl
  have mm3 := mmc 3 _ rfl
  have mm4 := mmc 4 _ rfl
  have mm5 := mmc 5 _ rfl
  have mm6 := mmc 6 _ rfl
  have mm7 := mmc 7 _ rfl
  have mm8 := mmc 8 _ rfl
  clear mmc
  go_wp2_with fail
  refine (heldElem_any R _ 1 w13.heap.size _ LM.out.2.2.at (Nat.le_refl _) (by omega) (by omega)).mono ?_
  rintro en w14 ⟨rfl, hb⟩
  clear hz aa0 aa1 aa2 aa3 aa4 aa5 aa6 aa7 aa8 ab0 ab1 ab2 ab3 ab4 ab5 ab6 ab7 ab8 hq_a hq_b wwk ww0 ww1 ww2 ww3 ww4 ww5 ww6 ww7 ww8 mmk mm0 mm1 mm2 mm3 mm4 mm5 mm6 mm7 mm8
  have hs_w14 : w13.heap.size ≤ w14.heap.size := hb.size
  have LW := Lib.hid (LW.out.below (El.goes R) hb)
  have LM := Lib.hid (LM.out.below (El.goes (R.mk2 1)) hb)
  have HA := Lib.hid (HA.out.trans (hb.mono (by omega)))
  clear hb
  obtain ⟨hz, aa0, aa1, aa2, aa3, aa4, aa5, aa6, aa7, aa8, ab0, ab1, ab2, ab3, ab4, ab5, ab6, ab7, ab8⟩ := HK.out _ HA.out
  have hq_a : w.heap.size < w14.heap.size := by omega
  have hq_b : w.heap.size + 1 < w14.heap.size := by omega
  obtain ⟨wwk, wwc, _⟩ := LW.out
  have ww0 := wwc 0 _ rfl
  have ww1 := wwc 1 _ rfl
  have ww2 := wwc 2 _ rfl
  have ww3 := wwc 3 _ rfl
  have ww4 := wwc 4 _ rfl
  have ww5 := wwc 5 _ rfl
  have ww6 := wwc 6 _ rfl
  have ww7 := wwc 7 _ rfl
  have ww8 := wwc 8 _ rfl
  clear wwc
  obtain ⟨mmk, mmc, _⟩ := LM.out
  have mm0 := mmc 0 _ rfl
  have mm1 := mmc 1 _ rfl
  have mm2 := mmc 2 _ rfl
  have mm3 := mmc 3 _ rfl
  have mm4 := mmc 4 _ rfl
  have mm5 := mmc 5 _ rfl
  have mm6 := mmc 6 _ rfl
  have mm7 := mmc 7 _ rfl
  have mm8 := mmc 8 _ rfl
  clear mmc
  have hn2 : ¬ ((1 : Int) + 2 * (R.l.ks.size + R.c.ks.size) < 0) := by omega
  have hdum := hn2
  clear hdum
  have hA0 := HA.out
  have rr0 := Below.refl w14.heap.size w14
  go_upto_region 31 with fail
  go_cut [15, 16] (fun s t wx => FilledE R T w14.heap.size w14 s t wx)
  case first =>
    go_region_held3 (fun w' => w'.cell? ⟨w.heap.size, 0, none⟩ = some (.bool a.n) ∧ w'.cell? ⟨w.heap.size, 1, none⟩ = some (.string a.v) ∧ w'.cell? ⟨w.heap.size, 2, none⟩ = some (.int .i64 a.l.op) ∧ w'.cell? ⟨w.heap.size, 3, none⟩ = some (.string a.l.a) ∧ w'.cell? ⟨w.heap.size, 4, none⟩ = some (.slice p0a a.l.ks.list.length c0a) ∧ w'.cell? ⟨w.heap.size, 5, none⟩ = some (.int .i64 a.c.op) ∧ w'.cell? ⟨w.heap.size, 6, none⟩ = some (.string a.c.a) ∧ w'.cell? ⟨w.heap.size, 7, none⟩ = some (.slice q0a a.c.ks.list.length d0a) ∧ w'.cell? ⟨w.heap.size, 8, none⟩ = some (.int .i64 a.d) ∧ w'.cell? ⟨w.heap.size + 1, 0, none⟩ = some (.bool b.n) ∧ w'.cell? ⟨w.heap.size + 1, 1, none⟩ = some (.string b.v) ∧ w'.cell? ⟨w.heap.size + 1, 2, none⟩ = some (.int .i64 b.l.op) ∧ w'.cell? ⟨w.heap.size + 1, 3, none⟩ = some (.string b.l.a) ∧ w'.cell? ⟨w.heap.size + 1, 4, none⟩ = some (.slice p0b b.l.ks.list.length c0b) ∧ w'.cell? ⟨w.heap.size + 1, 5, none⟩ = some (.int .i64 b.c.op) ∧ w'.cell? ⟨w.heap.size + 1, 6, none⟩ = some (.string b.c.a) ∧ w'.cell? ⟨w.heap.size + 1, 7, none⟩ = some (.slice q0b b.c.ks.list.length d0b) ∧ w'.cell? ⟨w.heap.size + 1, 8, none⟩ = some (.int .i64 b.d))
      (exact (HK.out _ (hA0.trans (Below.mono (show Below w14.heap.size w14 _ by ((repeat (first | with_reducible assumption | with_reducible exact Below.refl _ _ | refine Below.setCell ?_ (by (first | omega | (simp; omega) | (simp; done) | fail "sml")) _ | refine Below.drew ?_ | refine Below.alloc ?_ (by (first | omega | (simp; omega) | (simp; done) | fail "sml")) _)); first | done | fail "chs")) (by omega)))).2)
      (first
        | (go_at_call 15; with_reducible refine (CT_a.out _ (hA0.trans (Below.mono (show Below w14.heap.size w14 _ by ((repeat (first | with_reducible assumption | with_reducible exact Below.refl _ _ | refine Below.setCell ?_ (by (first | omega | (simp; omega) | (simp; done) | fail "sml")) _ | refine Below.drew ?_ | refine Below.alloc ?_ (by (first | omega | (simp; omega) | (simp; done) | fail "sml")) _)); first | done | fail "chs")) (by omega)))).mono ?_; rintro en wa_a ⟨va_a, Fa, rfl, hh, _, hb⟩; (first | (have yy := eearly hb; obtain ⟨y0, y1, y2, y3, y4, y5, y6, y7, y8, y9, y10, y11, y12, y13, y14, y15, y16, y17, y18⟩ := yy) | (have yy := eearlyD hb; obtain ⟨y0, y1, y2, y3, y4, y5, y6, y7, y8, y9, y10, y11, y12, y13, y14, y15, y16, y17, y18⟩ := yy) | (have yy := elater hb ⟨y0, y1, y2, y3, y4, y5, y6, y7, y8, y9, y10, y11, y12, y13, y14, y15, y16, y17, y18⟩; obtain ⟨y0, y1, y2, y3, y4, y5, y6, y7, y8, y9, y10, y11, y12, y13, y14, y15, y16, y17, y18⟩ := yy) | skip); have hk_a := Below.trans (show Below w14.heap.size w14 _ by ((repeat (first | with_reducible assumption | with_reducible exact Below.refl _ _ | refine Below.setCell ?_ (by (first | omega | (simp; omega) | (simp; done) | fail "sml")) _ | refine Below.drew ?_ | refine Below.alloc ?_ (by (first | omega | (simp; omega) | (simp; done) | fail "sml")) _)); first | done | fail "chs")) (hb.mono (by (first | omega | (simp; omega) | (simp; done) | fail "sml"))); have z_a := hk_a.size; have raa_a := Below.refl wa_a.heap.size wa_a; (first | (have r_ba := Below.trans (show Below wa_b.heap.size wa_b _ by ((repeat (first | with_reducible assumption | with_reducible exact Below.refl _ _ | refine Below.setCell ?_ (by (first | omega | (simp; omega) | (simp; done) | fail "sml")) _ | refine Below.drew ?_ | refine Below.alloc ?_ (by (first | omega | (simp; omega) | (simp; done) | fail "sml")) _)); first | done | fail "chs")) (hb.mono (by (first | omega | (simp; omega) | (simp; done) | fail "sml"))); have zz_ba := r_ba.size) | skip); have HH_a := Lib.hid (fun X (hX : Below wa_a.heap.size wa_a X) => hh.liv.below hX hX.size); clear hh hb)
        | (go_at_call 15; with_reducible refine (CT_b.out _ (hA0.trans (Below.mono (show Below w14.heap.size w14 _ by ((repeat (first | with_reducible assumption | with_reducible exact Below.refl _ _ | refine Below.setCell ?_ (by (first | omega | (simp; omega) | (simp; done) | fail "sml")) _ | refine Below.drew ?_ | refine Below.alloc ?_ (by (first | omega | (simp; omega) | (simp; done) | fail "sml")) _)); first | done | fail "chs")) (by omega)))).mono ?_; rintro en wa_b ⟨va_b, Fa, rfl, hh, _, hb⟩; (first | (have yy := eearly hb; obtain ⟨y0, y1, y2, y3, y4, y5, y6, y7, y8, y9, y10, y11, y12, y13, y14, y15, y16, y17, y18⟩ := yy) | (have yy := eearlyD hb; obtain ⟨y0, y1, y2, y3, y4, y5, y6, y7, y8, y9, y10, y11, y12, y13, y14, y15, y16, y17, y18⟩ := yy) | (have yy := elater hb ⟨y0, y1, y2, y3, y4, y5, y6, y7, y8, y9, y10, y11, y12, y13, y14, y15, y16, y17, y18⟩; obtain ⟨y0, y1, y2, y3, y4, y5, y6, y7, y8, y9, y10, y11, y12, y13, y14, y15, y16, y17, y18⟩ := yy) | skip); have hk_b := Below.trans (show Below w14.heap.size w14 _ by ((repeat (first | with_reducible assumption | with_reducible exact Below.refl _ _ | refine Below.setCell ?_ (by (first | omega | (simp; omega) | (simp; done) | fail "sml")) _ | refine Below.drew ?_ | refine Below.alloc ?_ (by (first | omega | (simp; omega) | (simp; done) | fail "sml")) _)); first | done | fail "chs")) (hb.mono (by (first | omega | (simp; omega) | (simp; done) | fail "sml"))); have z_b := hk_b.size; have raa_b := Below.refl wa_b.heap.size wa_b; (first | (have r_ab := Below.trans (show Below wa_a.heap.size wa_a _ by ((repeat (first | with_reducible assumption | with_reducible exact Below.refl _ _ | refine Below.setCell ?_ (by (first | omega | (simp; omega) | (simp; done) | fail "sml")) _ | refine Below.drew ?_ | refine Below.alloc ?_ (by (first | omega | (simp; omega) | (simp; done) | fail "sml")) _)); first | done | fail "chs")) (hb.mono (by (first | omega | (simp; omega) | (simp; done) | fail "sml"))); have zz_ab := r_ab.size) | skip); have HH_b := Lib.hid (fun X (hX : Below wa_b.heap.size wa_b X) => hh.liv.below hX hX.size); clear hh hb)
        | (go_at_call 8; with_reducible refine (CI.out _ _ _ _ (Nat.le_refl _) (HH_a.out _ (by ((repeat (first | with_reducible assumption | with_reducible exact Below.refl _ _ | refine Below.setCell ?_ (by (first | omega | (simp; omega) | (simp; done) | fail "sml")) _ | refine Below.drew ?_ | refine Below.alloc ?_ (by (first | omega | (simp; omega) | (simp; done) | fail "sml")) _)); first | done | fail "chs"))) (HH_b.out _ (by ((repeat (first | with_reducible assumption | with_reducible exact Below.refl _ _ | refine Below.setCell ?_ (by (first | omega | (simp; omega) | (simp; done) | fail "sml")) _ | refine Below.drew ?_ | refine Below.alloc ?_ (by (first | omega | (simp; omega) | (simp; done) | fail "sml")) _)); first | done | fail "chs"))) (HVA.out _ (hA0.trans (Below.mono (show Below w14.heap.size w14 _ by ((repeat (first | with_reducible assumption | with_reducible exact Below.refl _ _ | refine Below.setCell ?_ (by (first | omega | (simp; omega) | (simp; done) | fail "sml")) _ | refine Below.drew ?_ | refine Below.alloc ?_ (by (first | omega | (simp; omega) | (simp; done) | fail "sml")) _)); first | done | fail "chs")) (by omega))))).mono ?_; rintro en wq ⟨uq, Fq, rfl, ho, hf, hbq⟩; obtain ⟨p8, c8, q8, d8, rfl, _, _⟩ := ho.at.form; (first | (have yy := eearly hbq; obtain ⟨y0, y1, y2, y3, y4, y5, y6, y7, y8, y9, y10, y11, y12, y13, y14, y15, y16, y17, y18⟩ := yy) | (have yy := eearlyD hbq; obtain ⟨y0, y1, y2, y3, y4, y5, y6, y7, y8, y9, y10, y11, y12, y13, y14, y15, y16, y17, y18⟩ := yy) | (have yy := elater hbq ⟨y0, y1, y2, y3, y4, y5, y6, y7, y8, y9, y10, y11, y12, y13, y14, y15, y16, y17, y18⟩; obtain ⟨y0, y1, y2, y3, y4, y5, y6, y7, y8, y9, y10, y11, y12, y13, y14, y15, y16, y17, y18⟩ := yy) | skip); have hkq := Below.trans (show Below w14.heap.size w14 _ by ((repeat (first | with_reducible assumption | with_reducible exact Below.refl _ _ | refine Below.setCell ?_ (by (first | omega | (simp; omega) | (simp; done) | fail "sml")) _ | refine Below.drew ?_ | refine Below.alloc ?_ (by (first | omega | (simp; omega) | (simp; done) | fail "sml")) _)); first | done | fail "chs")) (hbq.mono (by (first | omega | (simp; omega) | (simp; done) | fail "sml"))); have zq := hkq.size; have HHq := Lib.hid ho; have HFq := Lib.hid hf; have HFb := Lib.hid (show ∀ y ∈ Fq, w14.heap.size ≤ y from fun y hy => by have h1 := hf y hy; (try simp at h1); omega); clear ho hf hbq)
        | fail "no arm")
    all_goals (go_wp2_with fail; go_meet)
    all_goals first
      | with_reducible exact efilled_of (by first | omega | (simp; omega)) y0 ⟨_, y1⟩ ⟨_, y2⟩ ⟨_, y3⟩ ⟨_, y4⟩ ⟨_, y5⟩ ⟨_, y6⟩ ⟨_, y7⟩ ⟨_, y8⟩ ⟨_, y9⟩ HHq.out HFb.out (fun hx => by have h1 := HFq.out _ hx; (try simp at h1); omega) hkq
      | with_reducible exact efresh_of (by first | omega | (simp; omega)) HHq.out HFb.out hkq
      | fail "end"
  case rest =>
  obtain ⟨kH, pH, cH, qH, dH, FH, rfl, rfl, hkH, hLH, hFH, hnH, hbx⟩ := hcut
  clear hz aa0 aa1 aa2 aa3 aa4 aa5 aa6 aa7 aa8 ab0 ab1 ab2 ab3 ab4 ab5 ab6 ab7 ab8 hq_a hq_b wwk ww0 ww1 ww2 ww3 ww4 ww5 ww6 ww7 ww8 mmk mm0 mm1 mm2 mm3 mm4 mm5 mm6 mm7 mm8
  clear hA0 rr0
  obtain ⟨w15, ew⟩ : ∃ u, u = wc := ⟨_, rfl⟩
  subst ew
  have hs_w15 : w14.heap.size ≤ w15.heap.size := hbx.size
  have LW := Lib.hid (LW.out.below (El.goes R) hbx)
  have LM := Lib.hid (LM.out.below (El.goes (R.mk2 1)) hbx)
  have HA := Lib.hid (HA.out.trans (hbx.mono (by omega)))
  have LH := Lib.hid hLH
  have GH := Lib.hid (show ∀ y ∈ FH, w14.heap.size ≤ y ∧ y < w15.heap.size from fun y hy => ⟨hFH y hy, hLH.2.2.lt y hy⟩)
  have NH := Lib.hid hnH
  have hklH : kH < w15.heap.size := hLH.1
  clear hLH hFH hnH hbx
  obtain ⟨hz, aa0, aa1, aa2, aa3, aa4, aa5, aa6, aa7, aa8, ab0, ab1, ab2, ab3, ab4, ab5, ab6, ab7, ab8⟩ := HK.out _ HA.out
  have hq_a : w.heap.size < w15.heap.size := by omega
  have hq_b : w.heap.size + 1 < w15.heap.size := by omega
  obtain ⟨wwk, wwc, _⟩ := LW.out
  have ww0 := wwc 0 _ rfl
  have ww1 := wwc 1 _ rfl
  have ww2 := wwc 2 _ rfl
  have ww3 := wwc 3 _ rfl
  have ww4 := wwc 4 _ rfl
  have ww5 := wwc 5 _ rfl
  have ww6 := wwc 6 _ rfl
  have ww7 := wwc 7 _ rfl
  have ww8 := wwc 8 _ rfl
  clear wwc
  obtain ⟨mmk, mmc, _⟩ := LM.out
  have mm0 := mmc 0 _ rfl
  have mm1 := mmc 1 _ rfl
  have mm2 := mmc 2 _ rfl
  have mm3 := mmc 3 _ rfl
  have mm4 := mmc 4 _ rfl
  have mm5 := mmc 5 _ rfl
  have mm6 := mmc 6 _ rfl
  have mm7 := mmc 7 _ rfl
  have mm8 := mmc 8 _ rfl
  clear mmc
  obtain ⟨hhk, hhc, _⟩ := LH.out
  have hh0 := hhc 0 _ rfl
  have hh1 := hhc 1 _ rfl
  have hh2 := hhc 2 _ rfl
  have hh3 := hhc 3 _ rfl
  have hh4 := hhc 4 _ rfl
  have hh5 := hhc 5 _ rfl
  have hh6 := hhc 6 _ rfl
  have hh7 := hhc 7 _ rfl
  have hh8 := hhc 8 _ rfl
  clear hhc
  go_wp2_with fail
  refine (eqElem_any R _ _ w15.heap.size _ LH.out.2.2.at LW.out.2.2.at (Nat.le_refl _)).mono ?_
  rintro en w16 ⟨rfl, hb⟩
  clear hz aa0 aa1 aa2 aa3 aa4 aa5 aa6 aa7 aa8 ab0 ab1 ab2 ab3 ab4 ab5 ab6 ab7 ab8 hq_a hq_b wwk ww0 ww1 ww2 ww3 ww4 ww5 ww6 ww7 ww8 mmk mm0 mm1 mm2 mm3 mm4 mm5 mm6 mm7 mm8 hhk hh0 hh1 hh2 hh3 hh4 hh5 hh6 hh7 hh8
  have hs_w16 : w15.heap.size ≤ w16.heap.size := hb.size
  have LW := Lib.hid (LW.out.below (El.goes R) hb)
  have LM := Lib.hid (LM.out.below (El.goes (R.mk2 1)) hb)
  have LH := Lib.hid (LH.out.below (El.goes R) hb)
  have HA := Lib.hid (HA.out.trans (hb.mono (by omega)))
  clear hb
  obtain ⟨hz, aa0, aa1, aa2, aa3, aa4, aa5, aa6, aa7, aa8, ab0, ab1, ab2, ab3, ab4, ab5, ab6, ab7, ab8⟩ := HK.out _ HA.out
  have hq_a : w.heap.size < w16.heap.size := by omega
  have hq_b : w.heap.size + 1 < w16.heap.size := by omega
  obtain ⟨wwk, wwc, _⟩ := LW.out
  have ww0 := wwc 0 _ rfl
  have ww1 := wwc 1 _ rfl
  have ww2 := wwc 2 _ rfl
  have ww3 := wwc 3 _ rfl
  have ww4 := wwc 4 _ rfl
  have ww5 := wwc 5 _ rfl
  have ww6 := wwc 6 _ rfl
  have ww7 := wwc 7 _ rfl
  have ww8 := wwc 8 _ rfl
  clear wwc
  obtain ⟨mmk, mmc, _⟩ := LM.out
  have mm0 := mmc 0 _ rfl
  have mm1 := mmc 1 _ rfl
  have mm2 := mmc 2 _ rfl
  have mm3 := mmc 3 _ rfl
  have mm4 := mmc 4 _ rfl
  have mm5 := mmc 5 _ rfl
  have mm6 := mmc 6 _ rfl
  have mm7 := mmc 7 _ rfl
  have mm8 := mmc 8 _ rfl
  clear mmc
  obtain ⟨hhk, hhc, _⟩ := LH.out
  have hh0 := hhc 0 _ rfl
  have hh1 := hhc 1 _ rfl
  have hh2 := hhc 2 _ rfl
  have hh3 := hhc 3 _ rfl
  have hh4 := hhc 4 _ rfl
  have hh5 := hhc 5 _ rfl
  have hh6 := hhc 6 _ rfl
  have hh7 := hhc 7 _ rfl
  have hh8 := hhc 8 _ rfl
  clear hhc
  go_wp2_with fail
  refine (heldElem_any R _ 1 w16.heap.size _ LM.out.2.2.at (Nat.le_refl _) (by omega) (by omega)).mono ?_
  rintro en w17 ⟨rfl, hb⟩
  clear hz aa0 aa1 aa2 aa3 aa4 aa5 aa6 aa7 aa8 ab0 ab1 ab2 ab3 ab4 ab5 ab6 ab7 ab8 hq_a hq_b wwk ww0 ww1 ww2 ww3 ww4 ww5 ww6 ww7 ww8 mmk mm0 mm1 mm2 mm3 mm4 mm5 mm6 mm7 mm8 hhk hh0 hh1 hh2 hh3 hh4 hh5 hh6 hh7 hh8
  have hs_w17 : w16.heap.size ≤ w17.heap.size := hb.size
  have LW := Lib.hid (LW.out.below (El.goes R) hb)
  have LM := Lib.hid (LM.out.below (El.goes (R.mk2 1)) hb)
  have LH := Lib.hid (LH.out.below (El.goes R) hb)
  have HA := Lib.hid (HA.out.trans (hb.mono (by omega)))
  clear hb
  obtain ⟨hz, aa0, aa1, aa2, aa3, aa4, aa5, aa6, aa7, aa8, ab0, ab1, ab2, ab3, ab4, ab5, ab6, ab7, ab8⟩ := HK.out _ HA.out
  have hq_a : w.heap.size < w17.heap.size := by omega
  have hq_b : w.heap.size + 1 < w17.heap.size := by omega
  obtain ⟨wwk, wwc, _⟩ := LW.out
  have ww0 := wwc 0 _ rfl
  have ww1 := wwc 1 _ rfl
  have ww2 := wwc 2 _ rfl
  have ww3 := wwc 3 _ rfl
  have ww4 := wwc 4 _ rfl
  have ww5 := wwc 5 _ rfl
  have ww6 := wwc 6 _ rfl
  have ww7 := wwc 7 _ rfl
  have ww8 := wwc 8 _ rfl
  clear wwc
  obtain ⟨mmk, mmc, _⟩ := LM.out
  have mm0 := mmc 0 _ rfl
  have mm1 := mmc 1 _ rfl
  have mm2 := mmc 2 _ rfl
  have mm3 := mmc 3 _ rfl
  have mm4 := mmc 4 _ rfl
  have mm5 := mmc 5 _ rfl
  have mm6 := mmc 6 _ rfl
  have mm7 := mmc 7 _ rfl
  have mm8 := mmc 8 _ rfl
  clear mmc
  obtain ⟨hhk, hhc, _⟩ := LH.out
  have hh0 := hhc 0 _ rfl
  have hh1 := hhc 1 _ rfl
  have hh2 := hhc 2 _ rfl
  have hh3 := hhc 3 _ rfl
  have hh4 := hhc 4 _ rfl
  have hh5 := hhc 5 _ rfl
  have hh6 := hhc 6 _ rfl
  have hh7 := hhc 7 _ rfl
  have hh8 := hhc 8 _ rfl
  clear hhc
  go_wp2_with fail
  go_ret
  exact ⟨rfl, HV.out.trans (HA.out.mono (by omega))⟩
end Go.Proofs.YtbbemeaojmfndaaDoor
