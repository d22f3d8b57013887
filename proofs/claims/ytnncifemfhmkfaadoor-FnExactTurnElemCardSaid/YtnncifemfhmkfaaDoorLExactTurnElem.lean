/- The walk of FnExactTurnElem. -/
import Derived.Test.YtnncifemfhmkfaaDoorTurnE
import Derived.Test.YtnncifemfhmkfaaDoorMarkEl
import Derived.Test.YtnncifemfhmkfaaDoorLocV
import Derived.Deep.RegionHeld3
import Derived.Deep.DeepCutAuto
namespace Go.Proofs.YtnncifemfhmkfaaDoor
open Go.RowKit

set_option maxRecDepth 100000 in
set_option maxHeartbeats 8000000 in
theorem lawExactTurnElem (e : El) (v : Value)  (w : World) (hv : e.At w.heap.size w v) (hok : e.Ok) (hvars : Vars w) :
    Calls Tryd.prog 4 #[v] w fun en w' => en = .returned (.bool true) ∧ Below w.heap.size w w' := by
  have HE := Lib.hid hv
  have HVV := Lib.hid hvars
  have HKO := Lib.hid hok
  obtain ⟨p0, c0, q0, d0, rfl, _, _⟩ := hv.form
  clear hv hvars hok
  obtain ⟨R, eR⟩ : ∃ R, R = turnR e := ⟨_, rfl⟩
  obtain ⟨T, eT⟩ : ∃ T, T = elemV e := ⟨_, rfl⟩
  have hRs : (R.l.ks.size + R.c.ks.size) ≤ 2097152 := by rw [eR]; exact turnR_size e
  obtain ⟨W0, eW⟩ : ∃ W0, W0 = w.alloc (.cells #[.bool e.n, .string e.v, .int .i64 e.l.op, .string e.l.a, .slice p0 e.l.ks.list.length c0, .int .i64 e.c.op, .string e.c.a, .slice q0 e.c.ks.list.length d0, .int .i64 e.d] 26) := ⟨_, rfl⟩
  have HV := Lib.hid (show Below w.heap.size w W0 by rw [eW]; exact (Below.refl w.heap.size w).alloc (by simp) _)
  have HK := Lib.hid (show ∀ wk, Below (w.heap.size + 1) W0 wk → w.heap.size + 1 ≤ wk.heap.size ∧ wk.cell? ⟨w.heap.size, 0, none⟩ = some (.bool e.n) ∧ wk.cell? ⟨w.heap.size, 1, none⟩ = some (.string e.v) ∧ wk.cell? ⟨w.heap.size, 2, none⟩ = some (.int .i64 e.l.op) ∧ wk.cell? ⟨w.heap.size, 3, none⟩ = some (.string e.l.a) ∧ wk.cell? ⟨w.heap.size, 4, none⟩ = some (.slice p0 e.l.ks.list.length c0) ∧ wk.cell? ⟨w.heap.size, 5, none⟩ = some (.int .i64 e.c.op) ∧ wk.cell? ⟨w.heap.size, 6, none⟩ = some (.string e.c.a) ∧ wk.cell? ⟨w.heap.size, 7, none⟩ = some (.slice q0 e.c.ks.list.length d0) ∧ wk.cell? ⟨w.heap.size, 8, none⟩ = some (.int .i64 e.d) from
    fun wk hk => by rw [eW] at hk; exact ⟨by have := hk.size; simp at this; omega, keepc hk (by omega) (by simp [go_sem]), keepc hk (by omega) (by simp [go_sem]), keepc hk (by omega) (by simp [go_sem]), keepc hk (by omega) (by simp [go_sem]), keepc hk (by omega) (by simp [go_sem]), keepc hk (by omega) (by simp [go_sem]), keepc hk (by omega) (by simp [go_sem]), keepc hk (by omega) (by simp [go_sem]), keepc hk (by omega) (by simp [go_sem])⟩)
  have hs0 : w.heap.size + 1 ≤ W0.heap.size := by rw [eW]; simp
  have HA := Lib.hid (Below.refl (w.heap.size + 1) W0)
  have HVA := Lib.hid (show ∀ wk, Below (w.heap.size + 1) W0 wk → Vars wk from fun wk hk => HVV.out.below (HV.out.trans (hk.mono (by omega))))
  have HEA := Lib.hid (show ∀ wk, Below (w.heap.size + 1) W0 wk → e.At w.heap.size wk (.agg #[.bool e.n, .string e.v, .int .i64 e.l.op, .string e.l.a, .slice p0 e.l.ks.list.length c0, .int .i64 e.c.op, .string e.c.a, .slice q0 e.c.ks.list.length d0, .int .i64 e.d]) from fun wk hk => HE.out.below (HV.out.trans (hk.mono (by omega))) (Nat.le_refl _))
  have EW := Lib.hid eW
  clear eW HE HVV
  go_enter Tryd.func4, Tryd.ntmps4
  go_wp2_with fail
  rw [← EW.out]
  refine (szElem_any e _ 1048576 w.heap.size _ (HEA.out _ HA.out) (by omega) (by omega) (by omega) HKO.out).mono ?_
  rintro en w1 ⟨r, rfl, hr, hb1⟩
  have HA := Lib.hid (HA.out.trans (hb1.mono (by omega)))
  clear hb1
  obtain ⟨hz, a0, a1, a2, a3, a4, a5, a6, a7, a8⟩ := HK.out w1 HA.out
  rcases hr with hr | ⟨hr0, hr⟩
  · have hneg : r < 0 := by omega
    clear hr
    go_wp2_with fail
    go_ret
    exact ⟨rfl, HV.out.trans (HA.out.mono (by omega))⟩
  have hneed : elNeed e ≤ 1048576 := by omega
  have hz1 := (El.sm_need hneed).2.2.1
  have hz2 := (El.sm_need hneed).2.2.2.2.1
  have hsize : e.l.ks.size + e.c.ks.size ≤ 2097152 := by omega
  have HSM := Lib.hid (El.sm_of hneed)
  clear hr hneed
  have CS := Lib.hid (fun (v : Value) (B : Nat) (E : World) (hv : e.At B E v) (hB : B ≤ E.heap.size) => eR ▸ eT ▸ specTurnElem_any e v B E hv hB HSM.out)
  have CI := Lib.hid (fun (v : Value) (B : Nat) (E : World) (hv : e.At B E v) (hB : B ≤ E.heap.size) (hV : Vars E) => eR ▸ eT ▸ turnElem_any e v B E hv hB HSM.out hV)
  have CT := Lib.hid (fun (E : World) (hE : Below (w.heap.size + 1) W0 E) => (show Calls Tryd.prog 7 #[.agg #[.bool e.n, .string e.v, .int .i64 e.l.op, .string e.l.a, .slice p0 e.l.ks.list.length c0, .int .i64 e.c.op, .string e.c.a, .slice q0 e.c.ks.list.length d0, .int .i64 e.d]] E _ from (fun (hv : e.At w.heap.size E (.agg #[.bool e.n, .string e.v, .int .i64 e.l.op, .string e.l.a, .slice p0 e.l.ks.list.length c0, .int .i64 e.c.op, .string e.c.a, .slice q0 e.c.ks.list.length d0, .int .i64 e.d])) (hB : w.heap.size ≤ E.heap.size) => toElem_any e _ w.heap.size E hv hB hz1 hz2) (HEA.out E hE) (by have := hE.size; omega)))
  clear eR eT
  go_wp2_with fail
  refine (CT.out _ HA.out).mono ?_
  rintro en w2 ⟨v2, F2, rfl, ho2, _, hb2⟩
  have HA := Lib.hid (HA.out.trans (hb2.mono (by omega)))
  have HO2 := Lib.hid ho2.at
  have hs2 := hb2.size
  clear ho2 hb2 hz a0 a1 a2 a3 a4 a5 a6 a7 a8
  obtain ⟨hz, a0, a1, a2, a3, a4, a5, a6, a7, a8⟩ := HK.out w2 HA.out
  go_wp2_with fail
  refine (CS.out _ w2.heap.size _ HO2.out (Nat.le_refl _)).mono ?_
  rintro en w3 ⟨v3, FW, rfl, ho3, hf3, hb3⟩
  have hs3 := hb3.size
  have HA := Lib.hid (HA.out.trans (hb3.mono (by omega)))
  have HO3 := Lib.hid ho3
  have GW := Lib.hid (show ∀ x ∈ FW, w.heap.size + 1 ≤ x ∧ x < w3.heap.size from fun x hx => ⟨by have := hf3 x hx; omega, ho3.lt x hx⟩)
  obtain ⟨pW, cW, qW, dW, rfl, _, _⟩ := ho3.at.form
  clear ho3 hf3 hb3 HO2 hz a0 a1 a2 a3 a4 a5 a6 a7 a8
  obtain ⟨hz, a0, a1, a2, a3, a4, a5, a6, a7, a8⟩ := HK.out w3 HA.out
  have hq3 : w.heap.size < w3.heap.size := by omega
  go_wp2_with fail
  obtain ⟨W3, eW⟩ : ∃ W, W = w3.alloc (.cells #[.bool R.n, .string R.v, .int .i64 R.l.op, .string R.l.a, .slice pW R.l.ks.list.length cW, .int .i64 R.c.op, .string R.c.a, .slice qW R.c.ks.list.length dW, .int .i64 R.d] 32) := ⟨_, rfl⟩
  rw [← eW]
  have hW3 : w3.heap.size < W3.heap.size := by rw [eW]; simp
  have LW := Lib.hid (show LocV R.Has w3.heap.size #[.bool R.n, .string R.v, .int .i64 R.l.op, .string R.l.a, .slice pW R.l.ks.list.length cW, .int .i64 R.c.op, .string R.c.a, .slice qW R.c.ks.list.length dW, .int .i64 R.d] FW W3 by rw [eW]; exact LocV.fresh (El.goes R) HO3.out)
  have HA := Lib.hid (show Below (w.heap.size + 1) W0 W3 by rw [eW]; exact HA.out.alloc (by omega) _)
  clear eW HO3 a0 a1 a2 a3 a4 a5 a6 a7 a8
  refine (CT.out _ HA.out).mono ?_
  rintro en w4 ⟨v4, FX, rfl, ho4, hf4, hb4⟩
  have hs4 := hb4.size
  have HA := Lib.hid (HA.out.trans (hb4.mono (by omega)))
  have LW := Lib.hid (LW.out.below (El.goes R) hb4)
  have HO4 := Lib.hid ho4
  have GX := Lib.hid (show ∀ x ∈ FX, W3.heap.size ≤ x ∧ x < w4.heap.size from fun x hx => ⟨hf4 x hx, ho4.lt x hx⟩)
  obtain ⟨pX, cX, qX, dX, rfl, _, _⟩ := ho4.at.form
  clear ho4 hf4 hb4
  go_wp2_with fail
  obtain ⟨W4, eW⟩ : ∃ W, W = w4.alloc (.cells #[.bool e.n, .string e.v, .int .i64 e.l.op, .string e.l.a, .slice pX e.l.ks.list.length cX, .int .i64 e.c.op, .string e.c.a, .slice qX e.c.ks.list.length dX, .int .i64 e.d] 32) := ⟨_, rfl⟩
  rw [← eW]
  have hW4 : w4.heap.size < W4.heap.size := by rw [eW]; simp
  have hbW : Below w4.heap.size w4 W4 := by rw [eW]; exact (Below.refl _ _).alloc (Nat.le_refl _) _
  have LX := Lib.hid (show LocV e.Has w4.heap.size #[.bool e.n, .string e.v, .int .i64 e.l.op, .string e.l.a, .slice pX e.l.ks.list.length cX, .int .i64 e.c.op, .string e.c.a, .slice qX e.c.ks.list.length dX, .int .i64 e.d] FX W4 by rw [eW]; exact LocV.fresh (El.goes e) HO4.out)
  have LW := Lib.hid (LW.out.below (El.goes R) hbW)
  have HA := Lib.hid (HA.out.trans (hbW.mono (by omega)))
  clear hbW eW HO4
  refine (CI.out _ W4.heap.size _ LX.out.2.2.at (Nat.le_refl _) (HVA.out _ HA.out)).mono ?_
  rintro en w5 ⟨v5, FG, rfl, ho5, hf5, hb5⟩
  have hs5 := hb5.size
  have HA := Lib.hid (HA.out.trans (hb5.mono (by omega)))
  have LW := Lib.hid (LW.out.below (El.goes R) hb5)
  have LX := Lib.hid (LX.out.below (El.goes e) hb5)
  have HO5 := Lib.hid ho5
  have GG := Lib.hid (show ∀ x ∈ FG, W4.heap.size ≤ x ∧ x < w5.heap.size from fun x hx => ⟨hf5 x hx, ho5.lt x hx⟩)
  obtain ⟨pG, cG, qG, dG, rfl, _, _⟩ := ho5.at.form
  clear ho5 hf5 hb5
  obtain ⟨yk, yc, _⟩ := LW.out
  have y0 := yc 0 _ rfl
  have y1 := yc 1 _ rfl
  have y2 := yc 2 _ rfl
  have y3 := yc 3 _ rfl
  have y4 := yc 4 _ rfl
  have y5 := yc 5 _ rfl
  have y6 := yc 6 _ rfl
  have y7 := yc 7 _ rfl
  have y8 := yc 8 _ rfl
  clear yc
  go_wp2_with fail
  obtain ⟨W5, eW⟩ : ∃ W, W = w5.alloc (.cells #[.bool R.n, .string R.v, .int .i64 R.l.op, .string R.l.a, .slice pG R.l.ks.list.length cG, .int .i64 R.c.op, .string R.c.a, .slice qG R.c.ks.list.length dG, .int .i64 R.d] 32) := ⟨_, rfl⟩
  rw [← eW]
  have hW5 : w5.heap.size < W5.heap.size := by rw [eW]; simp
  have hbW : Below w5.heap.size w5 W5 := by rw [eW]; exact (Below.refl _ _).alloc (Nat.le_refl _) _
  have LG := Lib.hid (show LocV R.Has w5.heap.size #[.bool R.n, .string R.v, .int .i64 R.l.op, .string R.l.a, .slice pG R.l.ks.list.length cG, .int .i64 R.c.op, .string R.c.a, .slice qG R.c.ks.list.length dG, .int .i64 R.d] FG W5 by rw [eW]; exact LocV.fresh (El.goes R) HO5.out)
  have LW := Lib.hid (LW.out.below (El.goes R) hbW)
  have LX := Lib.hid (LX.out.below (El.goes e) hbW)
  have HA := Lib.hid (HA.out.trans (hbW.mono (by omega)))
  clear hbW eW HO5 yk y0 y1 y2 y3 y4 y5 y6 y7 y8
  refine (eqElem_any R _ _ W5.heap.size _ LG.out.2.2.at LW.out.2.2.at (Nat.le_refl _)).mono ?_
  rintro en w6 ⟨rfl, hb6⟩
  have hs6 := hb6.size
  have HA := Lib.hid (HA.out.trans (hb6.mono (by omega)))
  have LW := Lib.hid (LW.out.below (El.goes R) hb6)
  have LX := Lib.hid (LX.out.below (El.goes e) hb6)
  have LG := Lib.hid (LG.out.below (El.goes R) hb6)
  clear hb6
  obtain ⟨_, a0, a1, a2, a3, a4, a5, a6, a7, a8⟩ := HK.out w6 HA.out
  obtain ⟨xk, xc, _⟩ := LX.out
  have x0 := xc 0 _ rfl
  have x1 := xc 1 _ rfl
  have x2 := xc 2 _ rfl
  have x3 := xc 3 _ rfl
  have x4 := xc 4 _ rfl
  have x5 := xc 5 _ rfl
  have x6 := xc 6 _ rfl
  have x7 := xc 7 _ rfl
  have x8 := xc 8 _ rfl
  clear xc
  have h6 := HA.out
  go_upto_region 10 with fail
  go_cut [45] (fun s wx => s = .bool false ∧ Below w6.heap.size w6 wx)
  case first =>
    go_region_held3 (fun w' => w'.cell? ⟨w.heap.size, 0, none⟩ = some (.bool e.n) ∧ w'.cell? ⟨w.heap.size, 1, none⟩ = some (.string e.v) ∧ w'.cell? ⟨w.heap.size, 2, none⟩ = some (.int .i64 e.l.op) ∧ w'.cell? ⟨w.heap.size, 3, none⟩ = some (.string e.l.a) ∧ w'.cell? ⟨w.heap.size, 4, none⟩ = some (.slice p0 e.l.ks.list.length c0) ∧ w'.cell? ⟨w.heap.size, 5, none⟩ = some (.int .i64 e.c.op) ∧ w'.cell? ⟨w.heap.size, 6, none⟩ = some (.string e.c.a) ∧ w'.cell? ⟨w.heap.size, 7, none⟩ = some (.slice q0 e.c.ks.list.length d0) ∧ w'.cell? ⟨w.heap.size, 8, none⟩ = some (.int .i64 e.d) ∧ w'.cell? ⟨w4.heap.size, 0, none⟩ = some (.bool e.n) ∧ w'.cell? ⟨w4.heap.size, 1, none⟩ = some (.string e.v) ∧ w'.cell? ⟨w4.heap.size, 2, none⟩ = some (.int .i64 e.l.op) ∧ w'.cell? ⟨w4.heap.size, 3, none⟩ = some (.string e.l.a) ∧ w'.cell? ⟨w4.heap.size, 4, none⟩ = some (.slice pX e.l.ks.list.length cX) ∧ w'.cell? ⟨w4.heap.size, 5, none⟩ = some (.int .i64 e.c.op) ∧ w'.cell? ⟨w4.heap.size, 6, none⟩ = some (.string e.c.a) ∧ w'.cell? ⟨w4.heap.size, 7, none⟩ = some (.slice qX e.c.ks.list.length dX) ∧ w'.cell? ⟨w4.heap.size, 8, none⟩ = some (.int .i64 e.d))
      (exact ⟨keepc (show Below w6.heap.size w6 _ by ((repeat (first | with_reducible assumption | with_reducible exact Below.refl _ _ | refine Below.setCell ?_ (by (first | omega | (simp; omega) | (simp; done) | fail "sml")) _ | refine Below.drew ?_ | refine Below.alloc ?_ (by (first | omega | (simp; omega) | (simp; done) | fail "sml")) _)); first | done | fail "chs")) (by omega) a0, keepc (show Below w6.heap.size w6 _ by ((repeat (first | with_reducible assumption | with_reducible exact Below.refl _ _ | refine Below.setCell ?_ (by (first | omega | (simp; omega) | (simp; done) | fail "sml")) _ | refine Below.drew ?_ | refine Below.alloc ?_ (by (first | omega | (simp; omega) | (simp; done) | fail "sml")) _)); first | done | fail "chs")) (by omega) a1, keepc (show Below w6.heap.size w6 _ by ((repeat (first | with_reducible assumption | with_reducible exact Below.refl _ _ | refine Below.setCell ?_ (by (first | omega | (simp; omega) | (simp; done) | fail "sml")) _ | refine Below.drew ?_ | refine Below.alloc ?_ (by (first | omega | (simp; omega) | (simp; done) | fail "sml")) _)); first | done | fail "chs")) (by omega) a2, keepc (show Below w6.heap.size w6 _ by ((repeat (first | with_reducible assumption | with_reducible exact Below.refl _ _ | refine Below.setCell ?_ (by (first | omega | (simp; omega) | (simp; done) | fail "sml")) _ | refine Below.drew ?_ | refine Below.alloc ?_ (by (first | omega | (simp; omega) | (simp; done) | fail "sml")) _)); first | done | fail "chs")) (by omega) a3, keepc (show Below w6.heap.size w6 _ by ((repeat (first | with_reducible assumption | with_reducible exact Below.refl _ _ | refine Below.setCell ?_ (by (first | omega | (simp; omega) | (simp; done) | fail "sml")) _ | refine Below.drew ?_ | refine Below.alloc ?_ (by (first | omega | (simp; omega) | (simp; done) | fail "sml")) _)); first | done | fail "chs")) (by omega) a4, keepc (show Below w6.heap.size w6 _ by ((repeat (first | with_reducible assumption | with_reducible exact Below.refl _ _ | refine Below.setCell ?_ (by (first | omega | (simp; omega) | (simp; done) | fail "sml")) _ | refine Below.drew ?_ | refine Below.alloc ?_ (by (first | omega | (simp; omega) | (simp; done) | fail "sml")) _)); first | done | fail "chs")) (by omega) a5, keepc (show Below w6.heap.size w6 _ by ((repeat (first | with_reducible assumption | with_reducible exact Below.refl _ _ | refine Below.setCell ?_ (by (first | omega | (simp; omega) | (simp; done) | fail "sml")) _ | refine Below.drew ?_ | refine Below.alloc ?_ (by (first | omega | (simp; omega) | (simp; done) | fail "sml")) _)); first | done | fail "chs")) (by omega) a6, keepc (show Below w6.heap.size w6 _ by ((repeat (first | with_reducible assumption | with_reducible exact Below.refl _ _ | refine Below.setCell ?_ (by (first | omega | (simp; omega) | (simp; done) | fail "sml")) _ | refine Below.drew ?_ | refine Below.alloc ?_ (by (first | omega | (simp; omega) | (simp; done) | fail "sml")) _)); first | done | fail "chs")) (by omega) a7, keepc (show Below w6.heap.size w6 _ by ((repeat (first | with_reducible assumption | with_reducible exact Below.refl _ _ | refine Below.setCell ?_ (by (first | omega | (simp; omega) | (simp; done) | fail "sml")) _ | refine Below.drew ?_ | refine Below.alloc ?_ (by (first | omega | (simp; omega) | (simp; done) | fail "sml")) _)); first | done | fail "chs")) (by omega) a8, keepc (show Below w6.heap.size w6 _ by ((repeat (first | with_reducible assumption | with_reducible exact Below.refl _ _ | refine Below.setCell ?_ (by (first | omega | (simp; omega) | (simp; done) | fail "sml")) _ | refine Below.drew ?_ | refine Below.alloc ?_ (by (first | omega | (simp; omega) | (simp; done) | fail "sml")) _)); first | done | fail "chs")) xk x0, keepc (show Below w6.heap.size w6 _ by ((repeat (first | with_reducible assumption | with_reducible exact Below.refl _ _ | refine Below.setCell ?_ (by (first | omega | (simp; omega) | (simp; done) | fail "sml")) _ | refine Below.drew ?_ | refine Below.alloc ?_ (by (first | omega | (simp; omega) | (simp; done) | fail "sml")) _)); first | done | fail "chs")) xk x1, keepc (show Below w6.heap.size w6 _ by ((repeat (first | with_reducible assumption | with_reducible exact Below.refl _ _ | refine Below.setCell ?_ (by (first | omega | (simp; omega) | (simp; done) | fail "sml")) _ | refine Below.drew ?_ | refine Below.alloc ?_ (by (first | omega | (simp; omega) | (simp; done) | fail "sml")) _)); first | done | fail "chs")) xk x2, keepc (show Below w6.heap.size w6 _ by ((repeat (first | with_reducible assumption | with_reducible exact Below.refl _ _ | refine Below.setCell ?_ (by (first | omega | (simp; omega) | (simp; done) | fail "sml")) _ | refine Below.drew ?_ | refine Below.alloc ?_ (by (first | omega | (simp; omega) | (simp; done) | fail "sml")) _)); first | done | fail "chs")) xk x3, keepc (show Below w6.heap.size w6 _ by ((repeat (first | with_reducible assumption | with_reducible exact Below.refl _ _ | refine Below.setCell ?_ (by (first | omega | (simp; omega) | (simp; done) | fail "sml")) _ | refine Below.drew ?_ | refine Below.alloc ?_ (by (first | omega | (simp; omega) | (simp; done) | fail "sml")) _)); first | done | fail "chs")) xk x4, keepc (show Below w6.heap.size w6 _ by ((repeat (first | with_reducible assumption | with_reducible exact Below.refl _ _ | refine Below.setCell ?_ (by (first | omega | (simp; omega) | (simp; done) | fail "sml")) _ | refine Below.drew ?_ | refine Below.alloc ?_ (by (first | omega | (simp; omega) | (simp; done) | fail "sml")) _)); first | done | fail "chs")) xk x5, keepc (show Below w6.heap.size w6 _ by ((repeat (first | with_reducible assumption | with_reducible exact Below.refl _ _ | refine Below.setCell ?_ (by (first | omega | (simp; omega) | (simp; done) | fail "sml")) _ | refine Below.drew ?_ | refine Below.alloc ?_ (by (first | omega | (simp; omega) | (simp; done) | fail "sml")) _)); first | done | fail "chs")) xk x6, keepc (show Below w6.heap.size w6 _ by ((repeat (first | with_reducible assumption | with_reducible exact Below.refl _ _ | refine Below.setCell ?_ (by (first | omega | (simp; omega) | (simp; done) | fail "sml")) _ | refine Below.drew ?_ | refine Below.alloc ?_ (by (first | omega | (simp; omega) | (simp; done) | fail "sml")) _)); first | done | fail "chs")) xk x7, keepc (show Below w6.heap.size w6 _ by ((repeat (first | with_reducible assumption | with_reducible exact Below.refl _ _ | refine Below.setCell ?_ (by (first | omega | (simp; omega) | (simp; done) | fail "sml")) _ | refine Below.drew ?_ | refine Below.alloc ?_ (by (first | omega | (simp; omega) | (simp; done) | fail "sml")) _)); first | done | fail "chs")) xk x8⟩)
      (first
        | (go_at_call 7; refine (CT.out _ (h6.trans (Below.mono (show Below w6.heap.size w6 _ by ((repeat (first | with_reducible assumption | with_reducible exact Below.refl _ _ | refine Below.setCell ?_ (by (first | omega | (simp; omega) | (simp; done) | fail "sml")) _ | refine Below.drew ?_ | refine Below.alloc ?_ (by (first | omega | (simp; omega) | (simp; done) | fail "sml")) _)); first | done | fail "chs")) (by omega)))).mono ?_; rintro en wa ⟨va, FA, rfl, hha, _, hka⟩; have hkb0 := Below.trans (show Below w6.heap.size w6 _ by ((repeat (first | with_reducible assumption | with_reducible exact Below.refl _ _ | refine Below.setCell ?_ (by (first | omega | (simp; omega) | (simp; done) | fail "sml")) _ | refine Below.drew ?_ | refine Below.alloc ?_ (by (first | omega | (simp; omega) | (simp; done) | fail "sml")) _)); first | done | fail "chs")) (hka.mono (by (first | omega | (simp; omega) | (simp; done) | fail "sml"))); have za := hkb0.size; have HHa := Lib.hid hha.at; clear hha hka)
        | (go_at_call 9; refine (eqElem_any e _ _ wa.heap.size _ (LX.out.2.2.at.below (by ((repeat (first | with_reducible assumption | with_reducible exact Below.refl _ _ | refine Below.setCell ?_ (by (first | omega | (simp; omega) | (simp; done) | fail "sml")) _ | refine Below.drew ?_ | refine Below.alloc ?_ (by (first | omega | (simp; omega) | (simp; done) | fail "sml")) _)); first | done | fail "chs")) (by omega)) (HHa.out.below (by ((repeat (first | with_reducible assumption | with_reducible exact Below.refl _ _ | refine Below.setCell ?_ (by (first | omega | (simp; omega) | (simp; done) | fail "sml")) _ | refine Below.drew ?_ | refine Below.alloc ?_ (by (first | omega | (simp; omega) | (simp; done) | fail "sml")) _)); first | done | fail "chs")) (Nat.le_refl _)) (by (first | omega | (simp; omega) | (simp; done) | fail "sml"))).mono ?_; rintro en wb ⟨rfl, hbb⟩; have hkb := Below.trans (show Below w6.heap.size w6 _ by ((repeat (first | with_reducible assumption | with_reducible exact Below.refl _ _ | refine Below.setCell ?_ (by (first | omega | (simp; omega) | (simp; done) | fail "sml")) _ | refine Below.drew ?_ | refine Below.alloc ?_ (by (first | omega | (simp; omega) | (simp; done) | fail "sml")) _)); first | done | fail "chs")) (hbb.mono (by first | omega | (simp; omega))); clear hbb))
    all_goals (go_wp2_with fail; go_meet)
    all_goals exact ⟨rfl, by ((repeat (first | with_reducible assumption | with_reducible exact Below.refl _ _ | refine Below.setCell ?_ (by (first | omega | (simp; omega) | (simp; done) | fail "sml")) _ | refine Below.drew ?_ | refine Below.alloc ?_ (by (first | omega | (simp; omega) | (simp; done) | fail "sml")) _)); first | done | fail "chs")⟩
  case rest =>
  obtain ⟨rfl, hbx⟩ := hcut
  have hs7 := hbx.size
  have HA := Lib.hid (HA.out.trans (hbx.mono (by omega)))
  have LW := Lib.hid (LW.out.below (El.goes R) hbx)
  have LX := Lib.hid (LX.out.below (El.goes e) hbx)
  have LG := Lib.hid (LG.out.below (El.goes R) hbx)
  clear hbx h6 a0 a1 a2 a3 a4 a5 a6 a7 a8 xk x0 x1 x2 x3 x4 x5 x6 x7 x8
  obtain ⟨xk, xc, _⟩ := LX.out
  have x0 := xc 0 _ rfl
  have x1 := xc 1 _ rfl
  have x2 := xc 2 _ rfl
  have x3 := xc 3 _ rfl
  have x4 := xc 4 _ rfl
  have x5 := xc 5 _ rfl
  have x6 := xc 6 _ rfl
  have x7 := xc 7 _ rfl
  have x8 := xc 8 _ rfl
  clear xc
  go_wp2_with fail
  refine (markElem_any e _ FX 1 _ LX.out.2.2 (by omega) (by omega)).mono ?_
  rintro en w8 ⟨rfl, _, hc8⟩
  have hs8 := hc8.size
  have HA := Lib.hid (HA.out.trans (hc8.below (by omega) (fun y hy => by have := GX.out y hy; omega)))
  have LW := Lib.hid (LW.out.chg (El.goes R) hc8 (fun hy => by have := GX.out _ hy; omega) (fun y hy hy2 => by have h1 := GW.out y hy; have h2 := GX.out y hy2; omega))
  have LG := Lib.hid (LG.out.chg (El.goes R) hc8 (fun hy => by have := GX.out _ hy; omega) (fun y hy hy2 => by have h1 := GG.out y hy; have h2 := GX.out y hy2; omega))
  clear hc8 xk x0 x1 x2 x3 x4 x5 x6 x7 x8
  obtain ⟨yk, yc, _⟩ := LW.out
  have y0 := yc 0 _ rfl
  have y1 := yc 1 _ rfl
  have y2 := yc 2 _ rfl
  have y3 := yc 3 _ rfl
  have y4 := yc 4 _ rfl
  have y5 := yc 5 _ rfl
  have y6 := yc 6 _ rfl
  have y7 := yc 7 _ rfl
  have y8 := yc 8 _ rfl
  clear yc
  obtain ⟨gk, gc, _⟩ := LG.out
  have g0 := gc 0 _ rfl
  have g1 := gc 1 _ rfl
  have g2 := gc 2 _ rfl
  have g3 := gc 3 _ rfl
  have g4 := gc 4 _ rfl
  have g5 := gc 5 _ rfl
  have g6 := gc 6 _ rfl
  have g7 := gc 7 _ rfl
  have g8 := gc 8 _ rfl
  clear gc
  go_wp2_with fail
  refine (eqElem_any R _ _ w8.heap.size _ LG.out.2.2.at LW.out.2.2.at (Nat.le_refl _)).mono ?_
  rintro en w9 ⟨rfl, hb9⟩
  have hs9 := hb9.size
  have HA := Lib.hid (HA.out.trans (hb9.mono (by omega)))
  have LW := Lib.hid (LW.out.below (El.goes R) hb9)
  have LG := Lib.hid (LG.out.below (El.goes R) hb9)
  clear hb9 yk y0 y1 y2 y3 y4 y5 y6 y7 y8 gk g0 g1 g2 g3 g4 g5 g6 g7 g8
  obtain ⟨gk, gc, _⟩ := LG.out
  have g0 := gc 0 _ rfl
  have g1 := gc 1 _ rfl
  have g2 := gc 2 _ rfl
  have g3 := gc 3 _ rfl
  have g4 := gc 4 _ rfl
  have g5 := gc 5 _ rfl
  have g6 := gc 6 _ rfl
  have g7 := gc 7 _ rfl
  have g8 := gc 8 _ rfl
  clear gc
  go_wp2_with fail
  refine (markElem_any R _ FG 1 _ LG.out.2.2 (by omega) (by omega)).mono ?_
  rintro en w10 ⟨rfl, ho10, hc10⟩
  have hs10 := hc10.size
  have HA := Lib.hid (HA.out.trans (hc10.below (by omega) (fun y hy => by have := GG.out y hy; omega)))
  have LW := Lib.hid (LW.out.chg (El.goes R) hc10 (fun hy => by have := GG.out _ hy; omega) (fun y hy hy2 => by have h1 := GW.out y hy; have h2 := GG.out y hy2; omega))
  have LM := Lib.hid (LG.out.turn (Q := (R.mk2 1).Has) hc10 (fun hy => by have := GG.out _ hy; omega) ho10)
  clear hc10 ho10 LG gk g0 g1 g2 g3 g4 g5 g6 g7 g8
  obtain ⟨gk, gc, _⟩ := LM.out
  have g0 := gc 0 _ rfl
  have g1 := gc 1 _ rfl
  have g2 := gc 2 _ rfl
  have g3 := gc 3 _ rfl
  have g4 := gc 4 _ rfl
  have g5 := gc 5 _ rfl
  have g6 := gc 6 _ rfl
  have g7 := gc 7 _ rfl
  have g8 := gc 8 _ rfl
  clear gc
  go_wp2_with fail
  refine (heldElem_any R _ 1 w10.heap.size _ LM.out.2.2.at (Nat.le_refl _) (by omega) (by omega)).mono ?_
  rintro en w11 ⟨rfl, hb11⟩
  have hs11 := hb11.size
  have HA := Lib.hid (HA.out.trans (hb11.mono (by omega)))
  have LW := Lib.hid (LW.out.below (El.goes R) hb11)
  have LM := Lib.hid (LM.out.below (El.goes _) hb11)
  clear hb11 gk g0 g1 g2 g3 g4 g5 g6 g7 g8
  obtain ⟨_, a0, a1, a2, a3, a4, a5, a6, a7, a8⟩ := HK.out w11 HA.out
  have hn11 : ¬ ((1 : Int) + 2 * (R.l.ks.size + R.c.ks.size) < 0) := by omega
  go_wp2_with fail
  refine (CT.out _ HA.out).mono ?_
  rintro en w12 ⟨v12, F12, rfl, ho12, _, hb12⟩
  have hs12 := hb12.size
  have HA := Lib.hid (HA.out.trans (hb12.mono (by omega)))
  have LW := Lib.hid (LW.out.below (El.goes R) hb12)
  have LM := Lib.hid (LM.out.below (El.goes _) hb12)
  have HO12 := Lib.hid ho12.at
  clear ho12 hb12 a0 a1 a2 a3 a4 a5 a6 a7 a8
  go_wp2_with fail
  refine (CI.out _ w12.heap.size _ HO12.out (Nat.le_refl _) (HVA.out _ HA.out)).mono ?_
  rintro en w13 ⟨v13, FH, rfl, ho13, _, hb13⟩
  have hs13 := hb13.size
  have HA := Lib.hid (HA.out.trans (hb13.mono (by omega)))
  have LW := Lib.hid (LW.out.below (El.goes R) hb13)
  have LM := Lib.hid (LM.out.below (El.goes _) hb13)
  have HO13 := Lib.hid ho13
  obtain ⟨pH, cH, qH, dH, rfl, _, _⟩ := ho13.at.form
  clear ho13 hb13 HO12
  obtain ⟨yk, yc, _⟩ := LW.out
  have y0 := yc 0 _ rfl
  have y1 := yc 1 _ rfl
  have y2 := yc 2 _ rfl
  have y3 := yc 3 _ rfl
  have y4 := yc 4 _ rfl
  have y5 := yc 5 _ rfl
  have y6 := yc 6 _ rfl
  have y7 := yc 7 _ rfl
  have y8 := yc 8 _ rfl
  clear yc
  go_wp2_with fail
  obtain ⟨W13, eW⟩ : ∃ W, W = w13.alloc (.cells #[.bool R.n, .string R.v, .int .i64 R.l.op, .string R.l.a, .slice pH R.l.ks.list.length cH, .int .i64 R.c.op, .string R.c.a, .slice qH R.c.ks.list.length dH, .int .i64 R.d] 32) := ⟨_, rfl⟩
  rw [← eW]
  have hW13 : w13.heap.size < W13.heap.size := by rw [eW]; simp
  have hbW : Below w13.heap.size w13 W13 := by rw [eW]; exact (Below.refl _ _).alloc (Nat.le_refl _) _
  have LH := Lib.hid (show LocV R.Has w13.heap.size #[.bool R.n, .string R.v, .int .i64 R.l.op, .string R.l.a, .slice pH R.l.ks.list.length cH, .int .i64 R.c.op, .string R.c.a, .slice qH R.c.ks.list.length dH, .int .i64 R.d] FH W13 by rw [eW]; exact LocV.fresh (El.goes R) HO13.out)
  have LW := Lib.hid (LW.out.below (El.goes R) hbW)
  have LM := Lib.hid (LM.out.below (El.goes _) hbW)
  have HA := Lib.hid (HA.out.trans (hbW.mono (by omega)))
  clear hbW eW HO13 yk y0 y1 y2 y3 y4 y5 y6 y7 y8
  refine (eqElem_any R _ _ W13.heap.size _ LH.out.2.2.at LW.out.2.2.at (Nat.le_refl _)).mono ?_
  rintro en w14 ⟨rfl, hb14⟩
  have hs14 := hb14.size
  have HA := Lib.hid (HA.out.trans (hb14.mono (by omega)))
  have LM := Lib.hid (LM.out.below (El.goes _) hb14)
  clear hb14
  obtain ⟨gk, gc, _⟩ := LM.out
  have g0 := gc 0 _ rfl
  have g1 := gc 1 _ rfl
  have g2 := gc 2 _ rfl
  have g3 := gc 3 _ rfl
  have g4 := gc 4 _ rfl
  have g5 := gc 5 _ rfl
  have g6 := gc 6 _ rfl
  have g7 := gc 7 _ rfl
  have g8 := gc 8 _ rfl
  clear gc
  go_wp2_with fail
  refine (heldElem_any R _ 1 w14.heap.size _ LM.out.2.2.at (Nat.le_refl _) (by omega) (by omega)).mono ?_
  rintro en w15 ⟨rfl, hb15⟩
  have HA := Lib.hid (HA.out.trans (hb15.mono (by omega)))
  clear hb15 gk g0 g1 g2 g3 g4 g5 g6 g7 g8
  go_wp2_with fail
  go_ret
  exact ⟨rfl, HV.out.trans (HA.out.mono (by omega))⟩
end Go.Proofs.YtnncifemfhmkfaaDoor
