/- DrawFormatGraph: what DrawGraphValid draws. -/
import Derived.Test.YthephdglianipaaDoorL1G
namespace Go.Proofs.YthephdglianipaaDoor
open Go.RowKit

set_option maxRecDepth 100000 in
set_option maxHeartbeats 8000000 in
theorem drawFormatGraph_any (zs : List Int) (v : Value) (B : Nat) (w : World) (hv : Sl 1 byCells B w v zs) (hB : B ≤ w.heap.size) (hz : ∀ z ∈ zs, 0 ≤ z ∧ z ≤ 255) :
    Calls Tryd.prog 4 #[v] w (CaseG w) := by
  obtain ⟨p, cap, rfl⟩ := hv.form
  have HV := Lib.hid hv
  clear hv
  go_enter Tryd.func4, Tryd.ntmps4
  go_wp2_with fail
  obtain ⟨W1, eW1⟩ : ∃ E, E = w.alloc (.cells #[.slice none 0 0, .slice none 0 0] 26) := ⟨_, rfl⟩
  obtain ⟨sW1, sW1'⟩ : w.heap.size + 1 ≤ W1.heap.size ∧ W1.heap.size ≤ w.heap.size + 1 := by rw [eW1]; constructor <;> simp
  have HW1 := Lib.hid (show Chg [] w W1 by rw [eW1]; exact (Chg.refl _ _).alloc _)
  have HRES := Lib.hid (show (W1.cell? ⟨w.heap.size, 0, none⟩ = some (.slice none 0 0) ∧ W1.cell? ⟨w.heap.size, 1, none⟩ = some (.slice none 0 0)) ∧ W1.frozen? ⟨w.heap.size, 0, none⟩ = false ∧ W1.frozen? ⟨w.heap.size, 1, none⟩ = false by rw [eW1]; exact ⟨⟨by simp [go_sem], by simp [go_sem]⟩, by simp [go_sem], by simp [go_sem]⟩)
  rw [← eW1]
  clear eW1
  refine (drawGraphValid_any zs _ B W1 (HV.out.below (HW1.out.of0.mono hB)) (by omega) hz).mono ?_
  rintro en u1 ⟨y, vy, Fy, rfl, hy, hb⟩
  obtain ⟨py, cy, qy, dy, rfl⟩ := hy.1.form
  have HY := Lib.hid hy
  have kb := Chg.of_below hb []
  have r0 := kb.cellOf (by simp) HRES.out.1.1
  have r1 := kb.cellOf (by simp) HRES.out.1.2
  have r2 := kb.frozenOf (by simp) (by omega) HRES.out.2.1
  have r3 := kb.frozenOf (by simp) (by omega) HRES.out.2.2
  have hq1 : w.heap.size < u1.heap.size := by have := kb.size; omega
  have HK := Lib.hid (HW1.out.trans kb)
  clear hy hb kb
  go_wp2_with fail
  refine bodyPost_ret (v := .agg #[.slice py y.ns.length cy, .slice qy y.es.length dy]) (by simp [results, Tryd.results4, go_sem, r0, r1]) rfl ?_
  have hs : ∀ E, Chg [w.heap.size] u1 E → CaseG w (.returned (.agg #[.slice py y.ns.length cy, .slice qy y.es.length dy])) E := by
    intro E hE
    exact ⟨y, _, Fy, rfl, (HY.out.chg hE (by simp; omega)).lo (by omega), (HK.out.past hE (by simp)).of0⟩
  refine hs _ ?_
  repeat (first | exact Chg.refl _ _ | refine Chg.setCell ?_ (by simp) _ | refine Chg.alloc ?_ _ | refine Chg.drew ?_)
end Go.Proofs.YthephdglianipaaDoor
