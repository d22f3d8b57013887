/- DrawWalkValid. -/
import Derived.Test.YtckmganhabgbfaaL5K
namespace Go.Proofs.Ytckmganhabgbfaa
open Go.RowKit

set_option maxRecDepth 100000 in
set_option maxHeartbeats 8000000 in
theorem drawWalkValid_any (zs : List Int) (v : Value) (B : Nat) (w : World) (hv : Sl 1 byCells B w v zs) (hB : B ≤ w.heap.size) (hz : ∀ z ∈ zs, 0 ≤ z ∧ z ≤ 255) :
    Calls Try.prog 23 #[v] w (CaseGW w) := by
  obtain ⟨p, cap, rfl⟩ := hv.form
  have HV := Lib.hid hv
  clear hv
  go_enter Try.func23, Try.ntmps23
  go_wp2_with fail
  obtain ⟨W1, eW1⟩ : ∃ E, E = (w.alloc (.cells #[.slice none 0 0, .slice none 0 0] 38)).alloc (.cells #[.slice none 0 0, .slice none 0 0] 25) := ⟨_, rfl⟩
  obtain ⟨sW1, sW1'⟩ : w.heap.size + 2 ≤ W1.heap.size ∧ W1.heap.size ≤ w.heap.size + 2 := by rw [eW1]; constructor <;> simp
  have HW1 := Lib.hid (show Chg [] w W1 by rw [eW1]; exact ((Chg.refl _ _).alloc _).alloc _)
  have HRES := Lib.hid (show (W1.cell? ⟨w.heap.size, 0, none⟩ = some (.slice none 0 0) ∧ W1.cell? ⟨w.heap.size, 1, none⟩ = some (.slice none 0 0) ∧ W1.cell? ⟨w.heap.size + 1, 0, none⟩ = some (.slice none 0 0) ∧ W1.cell? ⟨w.heap.size + 1, 1, none⟩ = some (.slice none 0 0)) ∧ W1.frozen? ⟨w.heap.size, 0, none⟩ = false ∧ W1.frozen? ⟨w.heap.size, 1, none⟩ = false ∧ W1.frozen? ⟨w.heap.size + 1, 0, none⟩ = false ∧ W1.frozen? ⟨w.heap.size + 1, 1, none⟩ = false by rw [eW1]; exact ⟨⟨by simp [go_sem], by simp [go_sem], by simp [go_sem], by simp [go_sem]⟩, by simp [go_sem], by simp [go_sem], by simp [go_sem], by simp [go_sem]⟩)
  rw [← eW1]
  clear eW1
  refine (l5Case_any zs _ B W1 (HV.out.below (HW1.out.of0.mono hB)) (by omega) hz).mono ?_
  rintro en u1 ⟨g, vg, Fg, y, vy, Fy, rfl, hx, hy, hb⟩
  obtain ⟨px, cx, qx, dx, rfl⟩ := hx.1.form
  obtain ⟨py, cy, qy, dy, rfl⟩ := hy.1.form
  have HX := Lib.hid hx
  have HY := Lib.hid hy
  have kb := Chg.of_below hb []
  have r0 := kb.cellOf (by simp) HRES.out.1.1
  have r1 := kb.cellOf (by simp) HRES.out.1.2.1
  have r2 := kb.cellOf (by simp) HRES.out.1.2.2.1
  have r3 := kb.cellOf (by simp) HRES.out.1.2.2.2
  have r4 := kb.frozenOf (by simp) (by omega) HRES.out.2.1
  have r5 := kb.frozenOf (by simp) (by omega) HRES.out.2.2.1
  have r6 := kb.frozenOf (by simp) (by omega) HRES.out.2.2.2.1
  have r7 := kb.frozenOf (by simp) (by omega) HRES.out.2.2.2.2
  have HK := Lib.hid (HW1.out.trans kb)
  clear hx hy hb kb
  go_wp2_with fail
  refine bodyPost_ret (v := .tuple #[.agg #[.slice px g.ns.length cx, .slice qx g.es.length dx], .agg #[.slice py y.ns.length cy, .slice qy y.es.length dy]]) (by simp [results, Try.results23, go_sem, r0, r1, r2, r3]) rfl ?_
  have hs : ∀ E, Chg [w.heap.size, w.heap.size + 1] u1 E → CaseGW w (.returned (.tuple #[.agg #[.slice px g.ns.length cx, .slice qx g.es.length dx], .agg #[.slice py y.ns.length cy, .slice qy y.es.length dy]])) E := by
    intro E hE
    exact ⟨g, _, Fg, y, _, Fy, rfl, (HX.out.chg hE (by simp; omega)).lo (by omega), (HY.out.chg hE (by simp; omega)).lo (by omega), (HK.out.past hE (by simp)).of0⟩
  refine hs _ ?_
  repeat (first | exact Chg.refl _ _ | refine Chg.setCell ?_ (by simp) _ | refine Chg.drew ?_)
end Go.Proofs.Ytckmganhabgbfaa
