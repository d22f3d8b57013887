/- l5Two and the draws of two walks. -/
import Derived.Test.YtckmganhabgbfaaL5K
namespace Go.Proofs.Ytckmganhabgbfaa
open Go.RowKit

/-- Two drawn walks. -/
def CaseWW (w : World) (e : Ending) (w' : World) : Prop :=
  ∃ (x : Wk) (vx : Value) (Fx : List Nat) (y : Wk) (vy : Value) (Fy : List Nat), e = .returned (.tuple #[vx, vy]) ∧ WD x vx Fx w.heap.size w' ∧ WD y vy Fy w.heap.size w' ∧ Below w.heap.size w w'

set_option maxRecDepth 100000 in
set_option maxHeartbeats 16000000 in
theorem l5Two_any (zs : List Int) (v : Value) (B : Nat) (w : World) (hv : Sl 1 byCells B w v zs) (hB : B ≤ w.heap.size) (hz : ∀ z ∈ zs, 0 ≤ z ∧ z ≤ 255) :
    Calls Try.prog 65 #[v] w (CaseWW w) := by
  obtain ⟨p, cap, rfl⟩ := hv.form
  have HV := Lib.hid hv
  clear hv
  go_enter Try.func65, Try.ntmps65
  go_wp2_with fail
  obtain ⟨W1, eW1⟩ : ∃ E, E = (w.alloc (.cells #[.slice none 0 0, .slice none 0 0] 25)).alloc (.cells #[.slice none 0 0, .slice none 0 0] 25) := ⟨_, rfl⟩
  obtain ⟨sW1, sW1'⟩ : w.heap.size + 2 ≤ W1.heap.size ∧ W1.heap.size ≤ w.heap.size + 2 := by rw [eW1]; constructor <;> simp
  have HW1 := Lib.hid (show Chg [] w W1 by rw [eW1]; exact ((Chg.refl _ _).alloc _).alloc _)
  have HRES := Lib.hid (show (W1.cell? ⟨w.heap.size, 0, none⟩ = some (.slice none 0 0) ∧ W1.cell? ⟨w.heap.size, 1, none⟩ = some (.slice none 0 0) ∧ W1.cell? ⟨w.heap.size + 1, 0, none⟩ = some (.slice none 0 0) ∧ W1.cell? ⟨w.heap.size + 1, 1, none⟩ = some (.slice none 0 0)) ∧ W1.frozen? ⟨w.heap.size, 0, none⟩ = false ∧ W1.frozen? ⟨w.heap.size, 1, none⟩ = false ∧ W1.frozen? ⟨w.heap.size + 1, 0, none⟩ = false ∧ W1.frozen? ⟨w.heap.size + 1, 1, none⟩ = false by rw [eW1]; exact ⟨⟨by simp [go_sem], by simp [go_sem], by simp [go_sem], by simp [go_sem]⟩, by simp [go_sem], by simp [go_sem], by simp [go_sem], by simp [go_sem]⟩)
  rw [← eW1]
  clear eW1
  refine (open_any zs _ B W1 (HV.out.below (HW1.out.of0.mono hB)) (by omega) hz).mono ?_
  rintro en u1 ⟨rfl, hr1, hs1, hb1⟩
  have d1 : Dr u1 W1.heap.size 0 := ⟨0, Nat.le_refl _, hr1⟩
  have HB1 := Lib.hid (Chg.of_below hb1 [])
  have s1 := d1.lt
  clear hr1 hb1 hs1
  go_wp2_with fail
  refine (l5Draw_any W1.heap.size 0 u1 d1 (by omega)).mono ?_
  rintro en u2 ⟨g, vg, Fg, x, vx, Fx, rfl, hg, hx, hl1, hl2, d2, k2⟩
  obtain ⟨pg, cg, qg, dg, rfl⟩ := hg.1.form
  obtain ⟨px, cx, qx, dx, rfl⟩ := hx.1.form
  have HL := Lib.hid (And.intro hl1 hl2)
  have HX := Lib.hid hx
  have s2 := k2.size
  have HK2 := Lib.hid (((HW1.out.trans HB1.out).past k2 (by simp; omega)) : Chg [] w u2)
  have HKW := Lib.hid (((HB1.out.mono (by simp)).trans k2) : Chg [W1.heap.size] W1 u2)
  clear hl1 hl2 hg hx k2 d1
  go_upto_region 3 with fail
  obtain ⟨W3, eW3⟩ : ∃ E, E = (u2.alloc (.cells #[.slice pg g.ns.length cg, .slice qg g.es.length dg] 38)).alloc (.cells #[.slice px x.ns.length cx, .slice qx x.es.length dx] 25) := ⟨_, rfl⟩
  have kW3 : Chg [] u2 W3 := by rw [eW3]; exact ((Chg.refl _ _).alloc _).alloc _
  obtain ⟨sW3, sW3'⟩ : u2.heap.size + 2 ≤ W3.heap.size ∧ W3.heap.size ≤ u2.heap.size + 2 := by rw [eW3]; constructor <;> simp
  have HC3 := Lib.hid (show W3.cell? ⟨u2.heap.size + 1, 0, none⟩ = some (.slice px x.ns.length cx) ∧ W3.cell? ⟨u2.heap.size + 1, 1, none⟩ = some (.slice qx x.es.length dx) by rw [eW3]; exact ⟨by simp [go_sem], by simp [go_sem]⟩)
  rw [← eW3]
  clear eW3
  have HX3 := Lib.hid (HX.out.chg kW3 (by simp))
  have d3 := d2.chg kW3 (by simp)
  have HK3 := Lib.hid (HK2.out.trans kW3)
  have HKW3 := Lib.hid (HKW.out.trans (kW3.mono (by simp)))
  clear kW3 d2
  go_wp2_with fail
  refine (pick_nat 3 W1.heap.size 7010 W3 (d3.mono (by omega)) (by omega) (by decide)).mono ?_
  rintro en W ⟨t, rfl, ht, d4, k4⟩
  have hne : W1.heap.size ≠ w.heap.size ∧ W1.heap.size ≠ w.heap.size + 1 ∧ W1.heap.size < u2.heap.size := by omega
  have HXW := Lib.hid (HX3.out.chg k4 (by simp; omega))
  have HKWW := Lib.hid (HKW3.out.trans k4)
  have HKX := Lib.hid (HK3.out.past k4 (by simp; omega))
  have HCW := Lib.hid (And.intro (k4.cellOf (b := u2.heap.size + 1) (o := 0) (by simp; omega) HC3.out.1) (k4.cellOf (b := u2.heap.size + 1) (o := 1) (by simp; omega) HC3.out.2))
  have sW := k4.size
  have HD := Lib.hid d4
  clear k4 d3 d4
  have HR := Lib.hid (fun (E : World) (hE : Chg [W1.heap.size] W E) => 
    let h := HKWW.out.trans hE
    And.intro (And.intro (h.cellOf (b := w.heap.size) (o := 0) (by simp; omega) HRES.out.1.1) (And.intro (h.cellOf (b := w.heap.size) (o := 1) (by simp; omega) HRES.out.1.2.1) (And.intro (h.cellOf (b := w.heap.size + 1) (o := 0) (by simp; omega) HRES.out.1.2.2.1) (h.cellOf (b := w.heap.size + 1) (o := 1) (by simp; omega) HRES.out.1.2.2.2))))
      (And.intro (h.frozenOf (b := w.heap.size) (o := 0) (by simp; omega) (by omega) HRES.out.2.1) (And.intro (h.frozenOf (b := w.heap.size) (o := 1) (by simp; omega) (by omega) HRES.out.2.2.1) (And.intro (h.frozenOf (b := w.heap.size + 1) (o := 0) (by simp; omega) (by omega) HRES.out.2.2.2.1) (h.frozenOf (b := w.heap.size + 1) (o := 1) (by simp; omega) (by omega) HRES.out.2.2.2.2)))))
  by_cases h0 : t = 0
  · subst h0
    have HK := Lib.hid (fun (E : World) (hE : Chg [W1.heap.size, w.heap.size, w.heap.size + 1] W E) => And.intro (hE.cellOf (b := u2.heap.size + 1) (o := 0) (by simp; omega) HCW.out.1) (hE.cellOf (b := u2.heap.size + 1) (o := 1) (by simp; omega) HCW.out.2))
    have CW := Lib.hid (fun (E : World) (hE : Chg [] W E) => l5Wrong_any x _ E.heap.size W1.heap.size 7011 11 E (HXW.out.chg hE (by simp)).1.at (Nat.le_refl _) (by have := HL.out; unfold Wk.need; omega) (by omega) (HD.out.chg hE (by simp)) (by omega))
    have kr := Chg.refl [W1.heap.size, w.heap.size, w.heap.size + 1] W
    go_upto_region 4 with fail
    go_region_held3 (fun w' => w'.cell? ⟨u2.heap.size + 1, 0, none⟩ = some (.slice px x.ns.length cx) ∧ w'.cell? ⟨u2.heap.size + 1, 1, none⟩ = some (.slice qx x.es.length dx))
      (exact HK.out _ (show Chg [W1.heap.size, w.heap.size, w.heap.size + 1] W _ by ((repeat (first | with_reducible assumption | with_reducible exact Chg.refl _ _ | refine Chg.setCell ?_ (by simp) _ | refine Chg.alloc ?_ _ | refine Chg.drew ?_)); first | done | fail "chn4")))
      (first
        | (go_at_call 49; refine CW2.out.mono ?_; rintro en u5 ⟨y2, vy2, Fy2, rfl, ⟨hy, hyl, hyn⟩, _, k4⟩; obtain ⟨py2, cy2, qy2, dy2, rfl⟩ := hy.form; have k5 : Chg [W1.heap.size] W u5 := HK4.out.trans k4; have s5 := k5.size; have s45 := HK4.out.size; have kk := k5.mono (show ∀ z ∈ [W1.heap.size], z ∈ [W1.heap.size, w.heap.size, w.heap.size + 1] by simp); obtain ⟨⟨r0, r1, r2, r3⟩, r4, r5, r6, r7⟩ := HR.out _ k5; have HY2 := Lib.hid hy; have HYL2 := Lib.hid hyl; have HYN2 := Lib.hid hyn; have HK5 := Lib.hid k5; clear hy hyl hyn k4 k5)
        | (go_at_call 49; refine (CW.out _ (Chg.drew (Chg.refl _ _))).mono ?_; rintro en u4 ⟨y, vy, Fy, rfl, ⟨hy, hyl, hyn⟩, dy4, k4⟩; obtain ⟨py, cy, qy, dy, rfl⟩ := hy.form; have k4' : Chg [W1.heap.size] W u4 := (Chg.drew (Chg.refl _ _)).trans k4; have kk := k4'.mono (show ∀ z ∈ [W1.heap.size], z ∈ [W1.heap.size, w.heap.size, w.heap.size + 1] by simp); have HY := Lib.hid hy; have HYL := Lib.hid hyl; have HYN := Lib.hid hyn; have HK4 := Lib.hid k4'; have CW2 := Lib.hid (l5Wrong_any y _ u4.heap.size W1.heap.size _ 12 u4 HY.out.at (Nat.le_refl _) HYN.out (by omega) dy4 (by omega)); clear hy hyl hyn k4 k4' dy4)
        | fail "no arm")
    all_goals
      go_wp2_with fail
      refine bodyPost_ret (v := .tuple #[.agg #[.slice px x.ns.length cx, .slice qx x.es.length dx], .agg #[.slice py2 y2.ns.length cy2, .slice qy2 y2.es.length dy2]]) (by simp [results, Try.results65, go_sem, r0, r1, r2, r3]) rfl ?_
      have hs : ∀ E, Chg [w.heap.size, w.heap.size + 1] u5 E → CaseWW w (.returned (.tuple #[.agg #[.slice px x.ns.length cx, .slice qx x.es.length dx], .agg #[.slice py2 y2.ns.length cy2, .slice qy2 y2.es.length dy2]])) E := by
        intro E hE
        have hE5 := (HK5.out.mono (show ∀ z ∈ [W1.heap.size], z ∈ [W1.heap.size, w.heap.size, w.heap.size + 1] by simp)).trans (hE.mono (by simp))
        exact ⟨x, _, Fx, y2, _, Fy2, rfl, (HXW.out.chg hE5 (by simp; omega)).lo (by omega), ⟨HY2.out.chg hE (fun z hz => by have := HYL2.out z hz; (try simp at this); simp; omega), fun z hz => by have := HYL2.out z hz; (try simp at this); omega, by have := HYN2.out; omega⟩, (HKX.out.past hE5 (by simp; omega)).of0⟩
      refine hs _ ?_
      repeat (first | exact Chg.refl _ _ | refine Chg.setCell ?_ (by simp) _ | refine Chg.drew ?_)
  · have q0 : ((t : Int) == 0) = false := beq_eq_false_iff_ne.2 (by omega)
    clear h0
    go_wp2_with fail
    refine (l5Draw_any W1.heap.size 7011 W HD.out (by omega)).mono ?_
    rintro en u5 ⟨g2, vg2, Fg2, y, vy, Fy, rfl, hg, hy, hl3, hl4, d5, k5⟩
    clear hl3 hl4
    obtain ⟨pg2, cg2, qg2, dg2, rfl⟩ := hg.1.form
    obtain ⟨py, cy, qy, dy, rfl⟩ := hy.1.form
    have s5 := k5.size
    have HY := Lib.hid hy
    have HX5 := Lib.hid (HXW.out.chg k5 (by simp; omega))
    have HKW5 := Lib.hid (HKWW.out.trans k5)
    have HKX5 := Lib.hid (HKX.out.past k5 (by simp; omega))
    have HC5 := Lib.hid (And.intro (k5.cellOf (b := u2.heap.size + 1) (o := 0) (by simp; omega) HCW.out.1) (k5.cellOf (b := u2.heap.size + 1) (o := 1) (by simp; omega) HCW.out.2))
    have HD5 := Lib.hid d5
    clear hg hy k5 d5
    go_upto_region 6 with fail
    obtain ⟨W6, eW6⟩ : ∃ E, E = (u5.alloc (.cells #[.slice pg2 g2.ns.length cg2, .slice qg2 g2.es.length dg2] 38)).alloc (.cells #[.slice py y.ns.length cy, .slice qy y.es.length dy] 25) := ⟨_, rfl⟩
    have k6 : Chg [] u5 W6 := by rw [eW6]; exact ((Chg.refl _ _).alloc _).alloc _
    obtain ⟨s6, s6'⟩ : u5.heap.size + 2 ≤ W6.heap.size ∧ W6.heap.size ≤ u5.heap.size + 2 := by rw [eW6]; constructor <;> simp
    have HC6 := Lib.hid (show W6.cell? ⟨u5.heap.size + 1, 0, none⟩ = some (.slice py y.ns.length cy) ∧ W6.cell? ⟨u5.heap.size + 1, 1, none⟩ = some (.slice qy y.es.length dy) by rw [eW6]; exact ⟨by simp [go_sem], by simp [go_sem]⟩)
    rw [← eW6]
    clear eW6
    have HY6 := Lib.hid (HY.out.chg k6 (by simp))
    have HX6 := Lib.hid (HX5.out.chg k6 (by simp))
    have HD6 := Lib.hid (HD5.out.chg k6 (by simp))
    have HKW6 := Lib.hid (HKW5.out.trans (k6.mono (by simp)))
    have HKX6 := Lib.hid (HKX5.out.trans k6)
    have HCX := Lib.hid (And.intro (k6.cellOf (b := u2.heap.size + 1) (o := 0) (by simp) HC5.out.1) (k6.cellOf (b := u2.heap.size + 1) (o := 1) (by simp) HC5.out.2))
    clear k6
    have HR6 := Lib.hid (fun (E : World) (hE : Chg [W1.heap.size] W6 E) => 
    let h := HKW6.out.trans hE
    And.intro (And.intro (h.cellOf (b := w.heap.size) (o := 0) (by simp; omega) HRES.out.1.1) (And.intro (h.cellOf (b := w.heap.size) (o := 1) (by simp; omega) HRES.out.1.2.1) (And.intro (h.cellOf (b := w.heap.size + 1) (o := 0) (by simp; omega) HRES.out.1.2.2.1) (h.cellOf (b := w.heap.size + 1) (o := 1) (by simp; omega) HRES.out.1.2.2.2))))
      (And.intro (h.frozenOf (b := w.heap.size) (o := 0) (by simp; omega) (by omega) HRES.out.2.1) (And.intro (h.frozenOf (b := w.heap.size) (o := 1) (by simp; omega) (by omega) HRES.out.2.2.1) (And.intro (h.frozenOf (b := w.heap.size + 1) (o := 0) (by simp; omega) (by omega) HRES.out.2.2.2.1) (h.frozenOf (b := w.heap.size + 1) (o := 1) (by simp; omega) (by omega) HRES.out.2.2.2.2)))))
    have HK := Lib.hid (fun (E : World) (hE : Chg [W1.heap.size, w.heap.size, w.heap.size + 1] W6 E) => And.intro (And.intro (hE.cellOf (b := u2.heap.size + 1) (o := 0) (by simp; omega) HCX.out.1) (hE.cellOf (b := u2.heap.size + 1) (o := 1) (by simp; omega) HCX.out.2)) (And.intro (hE.cellOf (b := u5.heap.size + 1) (o := 0) (by simp; omega) HC6.out.1) (hE.cellOf (b := u5.heap.size + 1) (o := 1) (by simp; omega) HC6.out.2)))
    have CW := Lib.hid (fun (E : World) (hE : Chg [] W6 E) => l5Wrong_any x _ E.heap.size W1.heap.size (7011 + 7010) 11 E (HX6.out.chg hE (by simp)).1.at (Nat.le_refl _) (by have := HL.out; unfold Wk.need; omega) (by omega) (HD6.out.chg hE (by simp)) (by omega))
    have kr := Chg.refl [W1.heap.size, w.heap.size, w.heap.size + 1] W6
    go_region_held3 (fun w' => (w'.cell? ⟨u2.heap.size + 1, 0, none⟩ = some (.slice px x.ns.length cx) ∧ w'.cell? ⟨u2.heap.size + 1, 1, none⟩ = some (.slice qx x.es.length dx)) ∧ w'.cell? ⟨u5.heap.size + 1, 0, none⟩ = some (.slice py y.ns.length cy) ∧ w'.cell? ⟨u5.heap.size + 1, 1, none⟩ = some (.slice qy y.es.length dy))
      (exact HK.out _ (show Chg [W1.heap.size, w.heap.size, w.heap.size + 1] W6 _ by ((repeat (first | with_reducible assumption | with_reducible exact Chg.refl _ _ | refine Chg.setCell ?_ (by simp) _ | refine Chg.alloc ?_ _ | refine Chg.drew ?_)); first | done | fail "chn4")))
      (first
        | (go_at_call 49; refine (CW.out _ (Chg.drew (Chg.refl _ _))).mono ?_; rintro en u7 ⟨q, vq, Fq, rfl, ⟨hy, hyl, hyn⟩, _, k4⟩; obtain ⟨pq, cq, qq, dq, rfl⟩ := hy.form; have k7 : Chg [W1.heap.size] W6 u7 := (Chg.drew (Chg.refl _ _)).trans k4; have s7 := k7.size; have kk := k7.mono (show ∀ z ∈ [W1.heap.size], z ∈ [W1.heap.size, w.heap.size, w.heap.size + 1] by simp); obtain ⟨⟨r0, r1, r2, r3⟩, r4, r5, r6, r7⟩ := HR6.out _ k7; have HQ := Lib.hid hy; have HQL := Lib.hid hyl; have HQN := Lib.hid hyn; have HK7 := Lib.hid k7; clear hy hyl hyn k4 k7)
        | fail "no arm")
    all_goals
      go_wp2_with fail
      refine bodyPost_ret (v := .tuple #[.agg #[.slice pq q.ns.length cq, .slice qq q.es.length dq], .agg #[.slice py y.ns.length cy, .slice qy y.es.length dy]]) (by simp [results, Try.results65, go_sem, r0, r1, r2, r3]) rfl ?_
      have hs : ∀ E, Chg [w.heap.size, w.heap.size + 1] u7 E → CaseWW w (.returned (.tuple #[.agg #[.slice pq q.ns.length cq, .slice qq q.es.length dq], .agg #[.slice py y.ns.length cy, .slice qy y.es.length dy]])) E := by
        intro E hE
        have hE7 := (HK7.out.mono (show ∀ z ∈ [W1.heap.size], z ∈ [W1.heap.size, w.heap.size, w.heap.size + 1] by simp)).trans (hE.mono (by simp))
        exact ⟨q, _, Fq, y, _, Fy, rfl, ⟨HQ.out.chg hE (fun z hz => by have := HQL.out z hz; (try simp at this); simp; omega), fun z hz => by have := HQL.out z hz; (try simp at this); omega, by have := HQN.out; omega⟩, (HY6.out.chg hE7 (by simp; omega)).lo (by omega), (HKX6.out.past hE7 (by simp; omega)).of0⟩
      refine hs _ ?_
      repeat (first | exact Chg.refl _ _ | refine Chg.setCell ?_ (by simp) _ | refine Chg.drew ?_)

set_option maxRecDepth 100000 in
set_option maxHeartbeats 8000000 in
theorem drawWalkBefore_any (zs : List Int) (v : Value) (B : Nat) (w : World) (hv : Sl 1 byCells B w v zs) (hB : B ≤ w.heap.size) (hz : ∀ z ∈ zs, 0 ≤ z ∧ z ≤ 255) :
    Calls Try.prog 28 #[v] w (CaseWW w) := by
  obtain ⟨p, cap, rfl⟩ := hv.form
  have HV := Lib.hid hv
  clear hv
  go_enter Try.func28, Try.ntmps28
  go_wp2_with fail
  obtain ⟨W1, eW1⟩ : ∃ E, E = (w.alloc (.cells #[.slice none 0 0, .slice none 0 0] 25)).alloc (.cells #[.slice none 0 0, .slice none 0 0] 25) := ⟨_, rfl⟩
  obtain ⟨sW1, sW1'⟩ : w.heap.size + 2 ≤ W1.heap.size ∧ W1.heap.size ≤ w.heap.size + 2 := by rw [eW1]; constructor <;> simp
  have HW1 := Lib.hid (show Chg [] w W1 by rw [eW1]; exact ((Chg.refl _ _).alloc _).alloc _)
  have HRES := Lib.hid (show (W1.cell? ⟨w.heap.size, 0, none⟩ = some (.slice none 0 0) ∧ W1.cell? ⟨w.heap.size, 1, none⟩ = some (.slice none 0 0) ∧ W1.cell? ⟨w.heap.size + 1, 0, none⟩ = some (.slice none 0 0) ∧ W1.cell? ⟨w.heap.size + 1, 1, none⟩ = some (.slice none 0 0)) ∧ W1.frozen? ⟨w.heap.size, 0, none⟩ = false ∧ W1.frozen? ⟨w.heap.size, 1, none⟩ = false ∧ W1.frozen? ⟨w.heap.size + 1, 0, none⟩ = false ∧ W1.frozen? ⟨w.heap.size + 1, 1, none⟩ = false by rw [eW1]; exact ⟨⟨by simp [go_sem], by simp [go_sem], by simp [go_sem], by simp [go_sem]⟩, by simp [go_sem], by simp [go_sem], by simp [go_sem], by simp [go_sem]⟩)
  rw [← eW1]
  clear eW1
  refine (l5Two_any zs _ B W1 (HV.out.below (HW1.out.of0.mono hB)) (by omega) hz).mono ?_
  rintro en u1 ⟨x, vx, Fx, y, vy, Fy, rfl, hx, hy, hb⟩
  obtain ⟨px, cx, qx, dx, rfl⟩ := hx.1.form
  obtain ⟨py, cy, qy, dy, rfl⟩ := hy.1.form
  have HX := Lib.hid hx
  have HY := Lib.hid hy
  have kb := Chg.of_below hb []
  have r0 := kb.cellOf (by simp) HRES.out.1.1
  have r1 := kb.cellOf (by simp) HRES.out.1.2.1
  have r2 := kb.cellOf (by simp) HRES.out.1.2.2.1
  have r3 := kb.cellOf (by simp) HRES.out.1.2.2.2
  have r4 := kb.frozenOf (by simp) (by omega) HRES.out.2.1
  have r5 := kb.frozenOf (by simp) (by omega) HRES.out.2.2.1
  have r6 := kb.frozenOf (by simp) (by omega) HRES.out.2.2.2.1
  have r7 := kb.frozenOf (by simp) (by omega) HRES.out.2.2.2.2
  have HK := Lib.hid (HW1.out.trans kb)
  clear hx hy hb kb
  go_wp2_with fail
  refine bodyPost_ret (v := .tuple #[.agg #[.slice px x.ns.length cx, .slice qx x.es.length dx], .agg #[.slice py y.ns.length cy, .slice qy y.es.length dy]]) (by simp [results, Try.results28, go_sem, r0, r1, r2, r3]) rfl ?_
  have hs : ∀ E, Chg [w.heap.size, w.heap.size + 1] u1 E → CaseWW w (.returned (.tuple #[.agg #[.slice px x.ns.length cx, .slice qx x.es.length dx], .agg #[.slice py y.ns.length cy, .slice qy y.es.length dy]])) E := by
    intro E hE
    exact ⟨x, _, Fx, y, _, Fy, rfl, (HX.out.chg hE (by simp; omega)).lo (by omega), (HY.out.chg hE (by simp; omega)).lo (by omega), (HK.out.past hE (by simp)).of0⟩
  refine hs _ ?_
  repeat (first | exact Chg.refl _ _ | refine Chg.setCell ?_ (by simp) _ | refine Chg.drew ?_)
end Go.Proofs.Ytckmganhabgbfaa
