/- DrawGraphSame: two graphs. -/
import Derived.Test.YtafddoljphmgkaaDoorL1G
import Derived.Test.YtafddoljphmgkaaDoorReg
namespace Go.Proofs.YtafddoljphmgkaaDoor
open Go.RowKit

def CaseGG (w : World) (e : Ending) (w' : World) : Prop :=
  ∃ (g : Gr) (vg : Value) (Fg : List Nat) (h : Gr) (vh : Value) (Fh : List Nat), e = .returned (.tuple #[vg, vh]) ∧ GX g vg Fg w.heap.size w' ∧ GX h vh Fh w.heap.size w' ∧ Below w.heap.size w w'

set_option maxRecDepth 100000 in
set_option maxHeartbeats 16000000 in
theorem drawGraphSame_any (zs : List Int) (v : Value) (B : Nat) (w : World) (hv : Sl 1 byCells B w v zs) (hB : B ≤ w.heap.size) (hz : ∀ z ∈ zs, 0 ≤ z ∧ z ≤ 255) :
    Calls Tryd.prog 4 #[v] w (CaseGG w) := by
  obtain ⟨p, cap, rfl⟩ := hv.form
  have HV := Lib.hid hv
  clear hv
  go_enter Tryd.func4, Tryd.ntmps4
  go_wp2_with fail
  obtain ⟨W1, eW1⟩ : ∃ E, E = (w.alloc (.cells #[.slice none 0 0, .slice none 0 0] 26)).alloc (.cells #[.slice none 0 0, .slice none 0 0] 26) := ⟨_, rfl⟩
  obtain ⟨sW1, sW1'⟩ : w.heap.size + 2 ≤ W1.heap.size ∧ W1.heap.size ≤ w.heap.size + 2 := by rw [eW1]; constructor <;> simp
  have HW1 := Lib.hid (show Chg [] w W1 by rw [eW1]; exact ((Chg.refl _ _).alloc _).alloc _)
  have HRES := Lib.hid (show (W1.cell? ⟨w.heap.size, 0, none⟩ = some (.slice none 0 0) ∧ W1.cell? ⟨w.heap.size, 1, none⟩ = some (.slice none 0 0) ∧ W1.cell? ⟨w.heap.size + 1, 0, none⟩ = some (.slice none 0 0) ∧ W1.cell? ⟨w.heap.size + 1, 1, none⟩ = some (.slice none 0 0)) ∧ W1.frozen? ⟨w.heap.size, 0, none⟩ = false ∧ W1.frozen? ⟨w.heap.size, 1, none⟩ = false ∧ W1.frozen? ⟨w.heap.size + 1, 0, none⟩ = false ∧ W1.frozen? ⟨w.heap.size + 1, 1, none⟩ = false by rw [eW1]; exact ⟨⟨by simp [go_sem], by simp [go_sem], by simp [go_sem], by simp [go_sem]⟩, by simp [go_sem], by simp [go_sem], by simp [go_sem], by simp [go_sem]⟩)
  rw [← eW1]
  clear eW1
  refine (open_any zs _ B W1 (HV.out.below (HW1.out.of0.mono hB)) (by omega) hz).mono ?_
  rintro en u1 ⟨rfl, hr1, hs1, hb1⟩
  have d1 : Dr u1 W1.heap.size 0 := ⟨0, Nat.le_refl _, hr1⟩
  have HB1 := Lib.hid (Chg.of_below hb1 [])
  have s1 := d1.lt
  clear hr1 hb1 hs1
  go_wp2_with fail
  refine (l1Draw_any W1.heap.size 0 u1 d1 (by omega)).mono ?_
  rintro en u2 ⟨x, vx, Fx, rfl, hx, hxl, hxo, hxn, d2, k2⟩
  obtain ⟨px, cx, qx, dx, rfl⟩ := hx.form
  have s2 := k2.size
  have HX := Lib.hid (show GX x _ Fx u1.heap.size u2 from ⟨hx, hxl, hxo, by omega, by omega⟩)
  have HXN := Lib.hid hxn
  have HK2 := Lib.hid (((HW1.out.trans HB1.out).past k2 (by simp; omega)) : Chg [] w u2)
  have HKW := Lib.hid (((HB1.out.mono (by simp)).trans k2) : Chg [W1.heap.size] W1 u2)
  clear hx hxl hxo hxn k2 d1
  go_upto_region 3 with fail
  obtain ⟨W3, eW3⟩ : ∃ E, E = u2.alloc (.cells #[.slice px x.ns.length cx, .slice qx x.es.length dx] 26) := ⟨_, rfl⟩
  have kW3 : Chg [] u2 W3 := by rw [eW3]; exact (Chg.refl _ _).alloc _
  obtain ⟨sW3, sW3'⟩ : u2.heap.size + 1 ≤ W3.heap.size ∧ W3.heap.size ≤ u2.heap.size + 1 := by rw [eW3]; constructor <;> simp
  have HC3 := Lib.hid (show W3.cell? ⟨u2.heap.size, 0, none⟩ = some (.slice px x.ns.length cx) ∧ W3.cell? ⟨u2.heap.size, 1, none⟩ = some (.slice qx x.es.length dx) by rw [eW3]; exact ⟨by simp [go_sem], by simp [go_sem]⟩)
  rw [← eW3]
  clear eW3
  have HX3 := Lib.hid (HX.out.chg kW3 (by simp))
  have d3 := d2.chg kW3 (by simp)
  have HK3 := Lib.hid (HK2.out.trans kW3)
  have HKW3 := Lib.hid (HKW.out.trans (kW3.mono (by simp)))
  clear kW3 d2
  go_wp2_with fail
  refine (pick_nat 3 W1.heap.size 7000 W3 (d3.mono (by omega)) (by omega) (by decide)).mono ?_
  rintro en W ⟨t, rfl, ht, d4, k4⟩
  have hne : W1.heap.size ≠ w.heap.size ∧ W1.heap.size ≠ w.heap.size + 1 ∧ W1.heap.size < u2.heap.size := by omega
  have HXW := Lib.hid (HX3.out.chg k4 (by simp; omega))
  have HKWW := Lib.hid (HKW3.out.trans k4)
  have HKX := Lib.hid (HK3.out.past k4 (by simp; omega))
  have HCW := Lib.hid (And.intro (k4.cellOf (b := u2.heap.size) (o := 0) (by simp; omega) HC3.out.1) (k4.cellOf (b := u2.heap.size) (o := 1) (by simp; omega) HC3.out.2))
  have sW := k4.size
  have HD := Lib.hid d4
  clear k4 d3 d4
  have HR := Lib.hid (fun (E : World) (hE : Chg [W1.heap.size] W E) => 
    let h := HKWW.out.trans hE
    And.intro (And.intro (h.cellOf (b := w.heap.size) (o := 0) (by simp; omega) HRES.out.1.1) (And.intro (h.cellOf (b := w.heap.size) (o := 1) (by simp; omega) HRES.out.1.2.1) (And.intro (h.cellOf (b := w.heap.size + 1) (o := 0) (by simp; omega) HRES.out.1.2.2.1) (h.cellOf (b := w.heap.size + 1) (o := 1) (by simp; omega) HRES.out.1.2.2.2))))
      (And.intro (h.frozenOf (b := w.heap.size) (o := 0) (by simp; omega) (by omega) HRES.out.2.1) (And.intro (h.frozenOf (b := w.heap.size) (o := 1) (by simp; omega) (by omega) HRES.out.2.2.1) (And.intro (h.frozenOf (b := w.heap.size + 1) (o := 0) (by simp; omega) (by omega) HRES.out.2.2.2.1) (h.frozenOf (b := w.heap.size + 1) (o := 1) (by simp; omega) (by omega) HRES.out.2.2.2.2)))))
  have HK := Lib.hid (fun (E : World) (hE : Chg [W1.heap.size, w.heap.size, w.heap.size + 1] W E) => And.intro (hE.cellOf (b := u2.heap.size) (o := 0) (by simp; omega) HCW.out.1) (hE.cellOf (b := u2.heap.size) (o := 1) (by simp; omega) HCW.out.2))
  by_cases h0 : t = 0
  · subst h0
    have CD := Lib.hid (fun (E : World) (hE : Chg [] W E) => l1Draw_any W1.heap.size 7001 E (HD.out.chg hE (by simp)) (by omega))
    have kr := Chg.refl [W1.heap.size, w.heap.size, w.heap.size + 1] W
    go_upto_region 4 with fail
    go_region_held3 (fun w' => w'.cell? ⟨u2.heap.size, 0, none⟩ = some (.slice px x.ns.length cx) ∧ w'.cell? ⟨u2.heap.size, 1, none⟩ = some (.slice qx x.es.length dx))
      (exact HK.out _ (show Chg [W1.heap.size, w.heap.size, w.heap.size + 1] W _ by ((repeat (first | with_reducible assumption | with_reducible exact Chg.refl _ _ | refine Chg.setCell ?_ (by simp) _ | refine Chg.alloc ?_ _ | refine Chg.drew ?_)); first | done | fail "chn4")))
      (first
        | (go_at_call 10; refine (CD.out _ (Chg.drew (Chg.refl _ _))).mono ?_; rintro en u5 ⟨y2, vy2, Fy2, rfl, hy, hyl, hyo, hyn, _, k4⟩; obtain ⟨py2, cy2, qy2, dy2, rfl⟩ := hy.form; have k5 : Chg [W1.heap.size] W u5 := (Chg.drew (Chg.refl _ _)).trans k4; have s5 := k5.size; have kk := k5.mono (show ∀ z ∈ [W1.heap.size], z ∈ [W1.heap.size, w.heap.size, w.heap.size + 1] by simp); obtain ⟨⟨r0, r1, r2, r3⟩, r4, r5, r6, r7⟩ := HR.out _ k5; have HY2 := Lib.hid hy; have HYL2 := Lib.hid hyl; have HYK2 := Lib.hid hyo; have HYN2 := Lib.hid hyn; have HK5 := Lib.hid k5; clear hy hyl hyo hyn k4 k5)
        | fail "no arm")
    all_goals
      go_wp2_with fail
      refine bodyPost_ret (v := .tuple #[.agg #[.slice px x.ns.length cx, .slice qx x.es.length dx], .agg #[.slice py2 y2.ns.length cy2, .slice qy2 y2.es.length dy2]]) (by simp [results, Tryd.results4, go_sem, r0, r1, r2, r3]) rfl ?_
      have hs : ∀ E, Chg [w.heap.size, w.heap.size + 1] u5 E → CaseGG w (.returned (.tuple #[.agg #[.slice px x.ns.length cx, .slice qx x.es.length dx], .agg #[.slice py2 y2.ns.length cy2, .slice qy2 y2.es.length dy2]])) E := by
        intro E hE
        have hE5 := (HK5.out.mono (show ∀ z ∈ [W1.heap.size], z ∈ [W1.heap.size, w.heap.size, w.heap.size + 1] by simp)).trans (hE.mono (by simp))
        exact ⟨x, _, Fx, y2, _, Fy2, rfl, (HXW.out.chg hE5 (by simp; omega)).lo (by omega), ⟨HY2.out.chg hE (fun z hz => by have := HYL2.out z hz; (try simp at this); simp; omega), fun z hz => by have := HYL2.out z hz; (try simp at this); omega, HYK2.out, by have := HYN2.out; omega, by have := HYN2.out; omega⟩, (HKX.out.past hE5 (by simp; omega)).of0⟩
      refine hs _ ?_
      repeat (first | exact Chg.refl _ _ | refine Chg.setCell ?_ (by simp) _ | refine Chg.drew ?_)
  · have q0 : ((t : Int) == 0) = false := beq_eq_false_iff_ne.2 (by omega)
    clear h0
    have CW := Lib.hid (fun (E : World) (hE : Chg [] W E) => l1Wrong_any x _ E.heap.size W1.heap.size 7001 1000 E (HXW.out.chg hE (by simp)).1.at (Nat.le_refl _) HXW.out.2.2.1 HXN.out (by omega) (HD.out.chg hE (by simp)) (by omega))
    have kr := Chg.refl [W1.heap.size, w.heap.size, w.heap.size + 1] W
    go_upto_region 5 with fail
    go_region_held3 (fun w' => w'.cell? ⟨u2.heap.size, 0, none⟩ = some (.slice px x.ns.length cx) ∧ w'.cell? ⟨u2.heap.size, 1, none⟩ = some (.slice qx x.es.length dx))
      (exact HK.out _ (show Chg [W1.heap.size, w.heap.size, w.heap.size + 1] W _ by ((repeat (first | with_reducible assumption | with_reducible exact Chg.refl _ _ | refine Chg.setCell ?_ (by simp) _ | refine Chg.alloc ?_ _ | refine Chg.drew ?_)); first | done | fail "chn4")))
      (first
        | (go_at_call 12; refine CW3.out.mono ?_; rintro en u6 ⟨y3, vy3, Fy3, rfl, ⟨hy, hyl, hyo, hyn⟩, _, k4⟩; obtain ⟨py3, cy3, qy3, dy3, rfl⟩ := hy.form; have k5 : Chg [W1.heap.size] W u6 := HK5.out.trans k4; have s6 := k5.size; have kk := k5.mono (show ∀ z ∈ [W1.heap.size], z ∈ [W1.heap.size, w.heap.size, w.heap.size + 1] by simp); obtain ⟨⟨r0, r1, r2, r3⟩, r4, r5, r6, r7⟩ := HR.out _ k5; have HY2 := Lib.hid hy; have HYL2 := Lib.hid hyl; have HYK2 := Lib.hid hyo; have HYN2 := Lib.hid hyn; have HK5 := Lib.hid k5; clear hy hyl hyo hyn k4 k5)
        | (go_at_call 12; refine CW2.out.mono ?_; rintro en u5 ⟨y2, vy2, Fy2, rfl, ⟨hy, hyl, hyo, hyn⟩, dy4, k4⟩; obtain ⟨py2, cy2, qy2, dy2, rfl⟩ := hy.form; have k4' : Chg [W1.heap.size] W u5 := HK4.out.trans k4; have kk := k4'.mono (show ∀ z ∈ [W1.heap.size], z ∈ [W1.heap.size, w.heap.size, w.heap.size + 1] by simp); have HY2 := Lib.hid hy; have HYO2 := Lib.hid hyo; have HYN2 := Lib.hid hyn; have HK5 := Lib.hid k4'; have su5 := k4'.size; have CW3 := Lib.hid (l1Wrong_any y2 _ u5.heap.size W1.heap.size _ 1002 u5 HY2.out.at (Nat.le_refl _) HYO2.out HYN2.out (by omega) dy4 (by omega)); clear hy hyl hyo hyn k4 k4' dy4)
        | (go_at_call 12; refine (CW.out _ (Chg.drew (Chg.refl _ _))).mono ?_; rintro en u4 ⟨y1, vy1, Fy1, rfl, ⟨hy, hyl, hyo, hyn⟩, dy4, k4⟩; obtain ⟨py1, cy1, qy1, dy1, rfl⟩ := hy.form; have k4' : Chg [W1.heap.size] W u4 := (Chg.drew (Chg.refl _ _)).trans k4; have kk := k4'.mono (show ∀ z ∈ [W1.heap.size], z ∈ [W1.heap.size, w.heap.size, w.heap.size + 1] by simp); have HY1 := Lib.hid hy; have HYO1 := Lib.hid hyo; have HYN1 := Lib.hid hyn; have HK4 := Lib.hid k4'; have su4 := k4'.size; have CW2 := Lib.hid (l1Wrong_any y1 _ u4.heap.size W1.heap.size _ 1001 u4 HY1.out.at (Nat.le_refl _) HYO1.out HYN1.out (by omega) dy4 (by omega)); clear hy hyl hyo hyn k4 k4' dy4)
        | fail "no arm")
    all_goals
      go_wp2_with fail
      refine bodyPost_ret (v := .tuple #[.agg #[.slice px x.ns.length cx, .slice qx x.es.length dx], .agg #[.slice py3 y3.ns.length cy3, .slice qy3 y3.es.length dy3]]) (by simp [results, Tryd.results4, go_sem, r0, r1, r2, r3]) rfl ?_
      have hs : ∀ E, Chg [w.heap.size, w.heap.size + 1] u6 E → CaseGG w (.returned (.tuple #[.agg #[.slice px x.ns.length cx, .slice qx x.es.length dx], .agg #[.slice py3 y3.ns.length cy3, .slice qy3 y3.es.length dy3]])) E := by
        intro E hE
        have hE5 := (HK5.out.mono (show ∀ z ∈ [W1.heap.size], z ∈ [W1.heap.size, w.heap.size, w.heap.size + 1] by simp)).trans (hE.mono (by simp))
        exact ⟨x, _, Fx, y3, _, Fy3, rfl, (HXW.out.chg hE5 (by simp; omega)).lo (by omega), ⟨HY2.out.chg hE (fun z hz => by have := HYL2.out z hz; (try simp at this); simp; omega), fun z hz => by have := HYL2.out z hz; (try simp at this); omega, HYK2.out, by have := HYN2.out; omega, by have := HYN2.out; omega⟩, (HKX.out.past hE5 (by simp; omega)).of0⟩
      refine hs _ ?_
      repeat (first | exact Chg.refl _ _ | refine Chg.setCell ?_ (by simp) _ | refine Chg.drew ?_)
end Go.Proofs.YtafddoljphmgkaaDoor
