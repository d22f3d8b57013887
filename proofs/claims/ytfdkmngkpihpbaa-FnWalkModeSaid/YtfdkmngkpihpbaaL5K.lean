/- l5Case and the draws of one walk. -/
import Derived.Test.YtfdkmngkpihpbaaL5W
namespace Go.Proofs.Ytfdkmngkpihpbaa
open Go.RowKit

/-- A drawn graph and a drawn walk. -/
def CaseGW (w : World) (e : Ending) (w' : World) : Prop :=
  ∃ (g : Gr) (vg : Value) (Fg : List Nat) (x : Wk) (vx : Value) (Fx : List Nat), e = .returned (.tuple #[vg, vx]) ∧ GD g vg Fg w.heap.size w' ∧ WD x vx Fx w.heap.size w' ∧ Below w.heap.size w w'
def CaseW (w : World) (e : Ending) (w' : World) : Prop :=
  ∃ (x : Wk) (vx : Value) (Fx : List Nat), e = .returned vx ∧ WD x vx Fx w.heap.size w' ∧ Below w.heap.size w w'
theorem Chg.of0 {a b : World} (h : Chg [] a b) : Below a.heap.size a b := h.below (Nat.le_refl _) (by simp)

set_option maxRecDepth 100000 in
set_option maxHeartbeats 8000000 in
theorem l5Case_any (zs : List Int) (v : Value) (B : Nat) (w : World) (hv : Sl 1 byCells B w v zs) (hB : B ≤ w.heap.size) (hz : ∀ z ∈ zs, 0 ≤ z ∧ z ≤ 255) :
    Calls Try.prog 49 #[v] w (CaseGW w) := by
  obtain ⟨p, cap, rfl⟩ := hv.form
  have HV := Lib.hid hv
  clear hv
  go_enter Try.func49, Try.ntmps49
  go_wp2_with fail
  obtain ⟨W1, eW1⟩ : ∃ E, E = (w.alloc (.cells #[.slice none 0 0, .slice none 0 0] 71)).alloc (.cells #[.slice none 0 0, .slice none 0 0] 25) := ⟨_, rfl⟩
  obtain ⟨sW1, sW1'⟩ : w.heap.size + 2 ≤ W1.heap.size ∧ W1.heap.size ≤ w.heap.size + 2 := by rw [eW1]; constructor <;> simp
  have HW1 := Lib.hid (show Chg [] w W1 by rw [eW1]; exact ((Chg.refl _ _).alloc _).alloc _)
  have HRES := Lib.hid (show (W1.cell? ⟨w.heap.size, 0, none⟩ = some (.slice none 0 0) ∧ W1.cell? ⟨w.heap.size, 1, none⟩ = some (.slice none 0 0) ∧ W1.cell? ⟨w.heap.size + 1, 0, none⟩ = some (.slice none 0 0) ∧ W1.cell? ⟨w.heap.size + 1, 1, none⟩ = some (.slice none 0 0)) ∧ W1.frozen? ⟨w.heap.size, 0, none⟩ = false ∧ W1.frozen? ⟨w.heap.size, 1, none⟩ = false ∧ W1.frozen? ⟨w.heap.size + 1, 0, none⟩ = false ∧ W1.frozen? ⟨w.heap.size + 1, 1, none⟩ = false by rw [eW1]; exact ⟨⟨by simp [go_sem], by simp [go_sem], by simp [go_sem], by simp [go_sem]⟩, by simp [go_sem], by simp [go_sem], by simp [go_sem], by simp [go_sem]⟩)
  rw [← eW1]
  clear eW1
  refine (open_any zs _ B W1 (HV.out.below (HW1.out.of0.mono hB)) (by omega) hz).mono ?_
  rintro en u1 ⟨rfl, hr1, hs1, hb1⟩
  have d1 : Dr u1 W1.heap.size 0 := ⟨0, Nat.le_refl _, hr1⟩
  have HB1 := Lib.hid (Chg.of_below hb1 [])
  clear hr1 hb1
  go_wp2_with fail
  refine (l5Draw_any W1.heap.size 0 u1 d1 (by omega)).mono ?_
  rintro en u2 ⟨g, vg, Fg, x, vx, Fx, rfl, hg, hx, hl1, hl2, d2, k2⟩
  obtain ⟨pg, cg, qg, dg, rfl⟩ := hg.1.form
  obtain ⟨px, cx, qx, dx, rfl⟩ := hx.1.form
  have HL := Lib.hid (And.intro hl1 hl2)
  have HG := Lib.hid hg
  have HX := Lib.hid hx
  have s2 := k2.size
  have HK2 := Lib.hid (((HW1.out.trans HB1.out).past k2 (by simp; omega)) : Chg [] w u2)
  have HKW := Lib.hid (((HB1.out.mono (by simp)).trans k2) : Chg [W1.heap.size] W1 u2)
  clear hl1 hl2 hg hx k2 d1
  go_upto_region 3 with fail
  obtain ⟨W3, eW3⟩ : ∃ E, E = (u2.alloc (.cells #[.slice pg g.ns.length cg, .slice qg g.es.length dg] 71)).alloc (.cells #[.slice px x.ns.length cx, .slice qx x.es.length dx] 25) := ⟨_, rfl⟩
  have kW3 : Chg [] u2 W3 := by rw [eW3]; exact ((Chg.refl _ _).alloc _).alloc _
  obtain ⟨sW3, sW3'⟩ : u2.heap.size + 2 ≤ W3.heap.size ∧ W3.heap.size ≤ u2.heap.size + 2 := by rw [eW3]; constructor <;> simp
  have HC3 := Lib.hid (show (W3.cell? ⟨u2.heap.size, 0, none⟩ = some (.slice pg g.ns.length cg) ∧ W3.cell? ⟨u2.heap.size, 1, none⟩ = some (.slice qg g.es.length dg)) ∧ W3.cell? ⟨u2.heap.size + 1, 0, none⟩ = some (.slice px x.ns.length cx) ∧ W3.cell? ⟨u2.heap.size + 1, 1, none⟩ = some (.slice qx x.es.length dx) by rw [eW3]; exact ⟨⟨by simp [go_sem], by simp [go_sem]⟩, by simp [go_sem], by simp [go_sem]⟩)
  rw [← eW3]
  clear eW3
  have HG3 := Lib.hid (HG.out.chg kW3 (by simp))
  have HX3 := Lib.hid (HX.out.chg kW3 (by simp))
  have HD3 := Lib.hid (d2.chg kW3 (by simp))
  have HK3 := Lib.hid (HK2.out.trans kW3)
  have HKW3 := Lib.hid (HKW.out.trans (kW3.mono (by simp)))
  clear kW3 d2
  have HK := Lib.hid (fun (E : World) (hE : Chg [W1.heap.size, w.heap.size, w.heap.size + 1] W3 E) => And.intro (And.intro (hE.cellOf (b := u2.heap.size) (o := 0) (by simp; omega) HC3.out.1.1) (hE.cellOf (b := u2.heap.size) (o := 1) (by simp; omega) HC3.out.1.2)) (And.intro (hE.cellOf (b := u2.heap.size + 1) (o := 0) (by simp; omega) HC3.out.2.1) (hE.cellOf (b := u2.heap.size + 1) (o := 1) (by simp; omega) HC3.out.2.2)))
  have CW := Lib.hid (fun (E : World) (hE : Chg [] W3 E) => l5Wrong_any x _ E.heap.size W1.heap.size 7010 11 E (HX3.out.chg hE (by simp)).1.at (Nat.le_refl _) (by have := HL.out; unfold Wk.need; omega) (by omega) (HD3.out.chg hE (by simp)) (by omega))
  have HR := Lib.hid (fun (E : World) (hE : Chg [W1.heap.size] W3 E) => 
    let h := HKW3.out.trans hE
    And.intro (And.intro (h.cellOf (b := w.heap.size) (o := 0) (by simp; omega) HRES.out.1.1) (And.intro (h.cellOf (b := w.heap.size) (o := 1) (by simp; omega) HRES.out.1.2.1) (And.intro (h.cellOf (b := w.heap.size + 1) (o := 0) (by simp; omega) HRES.out.1.2.2.1) (h.cellOf (b := w.heap.size + 1) (o := 1) (by simp; omega) HRES.out.1.2.2.2))))
      (And.intro (h.frozenOf (b := w.heap.size) (o := 0) (by simp; omega) (by omega) HRES.out.2.1) (And.intro (h.frozenOf (b := w.heap.size) (o := 1) (by simp; omega) (by omega) HRES.out.2.2.1) (And.intro (h.frozenOf (b := w.heap.size + 1) (o := 0) (by simp; omega) (by omega) HRES.out.2.2.2.1) (h.frozenOf (b := w.heap.size + 1) (o := 1) (by simp; omega) (by omega) HRES.out.2.2.2.2)))))
  have kr := Chg.refl [W1.heap.size, w.heap.size, w.heap.size + 1] W3
  go_region_held3 (fun w' => (w'.cell? ⟨u2.heap.size, 0, none⟩ = some (.slice pg g.ns.length cg) ∧ w'.cell? ⟨u2.heap.size, 1, none⟩ = some (.slice qg g.es.length dg)) ∧ w'.cell? ⟨u2.heap.size + 1, 0, none⟩ = some (.slice px x.ns.length cx) ∧ w'.cell? ⟨u2.heap.size + 1, 1, none⟩ = some (.slice qx x.es.length dx))
    (exact HK.out _ (show Chg [W1.heap.size, w.heap.size, w.heap.size + 1] W3 _ by ((repeat (first | with_reducible assumption | with_reducible exact Chg.refl _ _ | refine Chg.setCell ?_ (by simp) _ | refine Chg.alloc ?_ _ | refine Chg.drew ?_)); first | done | fail "chn4")))
    (first
      | (go_at_call 86; refine (CW.out _ (Chg.drew (Chg.refl _ _))).mono ?_; rintro en u4 ⟨y, vy, Fy, rfl, ⟨hy, hyl, hyn⟩, _, k4⟩; obtain ⟨py, cy, qy, dy, rfl⟩ := hy.form; have k4' : Chg [W1.heap.size] W3 u4 := (Chg.drew (Chg.refl _ _)).trans k4; have kk := k4'.mono (show ∀ z ∈ [W1.heap.size], z ∈ [W1.heap.size, w.heap.size, w.heap.size + 1] by simp); obtain ⟨⟨r0, r1, r2, r3⟩, r4, r5, r6, r7⟩ := HR.out _ k4'; have HY := Lib.hid hy; have HYL := Lib.hid hyl; have HYN := Lib.hid hyn; have HK4 := Lib.hid k4'; clear hy hyl hyn k4 k4')
      | fail "no arm")
  all_goals
    go_wp2_with fail
    refine bodyPost_ret (v := .tuple #[.agg #[.slice pg g.ns.length cg, .slice qg g.es.length dg], .agg #[.slice py y.ns.length cy, .slice qy y.es.length dy]]) (by simp [results, Try.results49, go_sem, r0, r1, r2, r3]) rfl ?_
    have hs : ∀ E, Chg [w.heap.size, w.heap.size + 1] u4 E → CaseGW w (.returned (.tuple #[.agg #[.slice pg g.ns.length cg, .slice qg g.es.length dg], .agg #[.slice py y.ns.length cy, .slice qy y.es.length dy]])) E := by
      intro E hE
      have s4 := HK4.out.size
      have hE4 := (HK4.out.mono (show ∀ z ∈ [W1.heap.size], z ∈ [W1.heap.size, w.heap.size, w.heap.size + 1] by simp)).trans (hE.mono (by simp))
      exact ⟨g, _, Fg, y, _, Fy, rfl, (HG3.out.chg hE4 (by simp; omega)).lo (by omega), ⟨HY.out.chg hE (fun z hz => by have := HYL.out z hz; (try simp at this); simp; omega), fun z hz => by have := HYL.out z hz; (try simp at this); omega, by have := HYN.out; omega⟩, (HK3.out.past hE4 (by simp; omega)).of0⟩
    refine hs _ ?_
    repeat (first | exact Chg.refl _ _ | refine Chg.setCell ?_ (by simp) _ | refine Chg.drew ?_)

end Go.Proofs.Ytfdkmngkpihpbaa
