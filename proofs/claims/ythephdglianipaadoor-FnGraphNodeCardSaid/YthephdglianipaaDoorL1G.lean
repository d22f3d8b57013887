/- Graphs that are drawn, and nearly valid ones: DrawGraphValid, DrawTurnGraph. -/
import Derived.Test.YthephdglianipaaDoorL1W
import Derived.Test.YthephdglianipaaDoorL5K
namespace Go.Proofs.YthephdglianipaaDoor
open Go.RowKit

/-- A drawn graph, in memory of the call's own. -/
def GX (g : Gr) (v : Value) (F : List Nat) (lo : Nat) (w : World) : Prop := g.Has v F w ∧ (∀ y ∈ F, lo ≤ y) ∧ g.Ok ∧ g.ns.length ≤ 1010 ∧ g.es.length ≤ 1010
theorem GX.chg {g : Gr} {v : Value} {F G : List Nat} {lo : Nat} {w w' : World} (h : GX g v F lo w) (hc : Chg G w w') (hG : ∀ x ∈ G, x < lo) : GX g v F lo w' :=
  ⟨h.1.chg hc (fun y hy hm => by have := hG y hm; have := h.2.1 y hy; omega), h.2⟩
theorem GX.lo {g : Gr} {v : Value} {F : List Nat} {lo lo' : Nat} {w : World} (h : GX g v F lo w) (hl : lo' ≤ lo) : GX g v F lo' w := ⟨h.1, fun y hy => Nat.le_trans hl (h.2.1 y hy), h.2.2⟩
def CaseG (w : World) (e : Ending) (w' : World) : Prop :=
  ∃ (g : Gr) (vg : Value) (Fg : List Nat), e = .returned vg ∧ GX g vg Fg w.heap.size w' ∧ Below w.heap.size w w'

set_option maxRecDepth 100000 in
set_option maxHeartbeats 8000000 in
theorem drawGraphValid_any (zs : List Int) (v : Value) (B : Nat) (w : World) (hv : Sl 1 byCells B w v zs) (hB : B ≤ w.heap.size) (hz : ∀ z ∈ zs, 0 ≤ z ∧ z ≤ 255) :
    Calls Tryd.prog 7 #[v] w (CaseG w) := by
  obtain ⟨p, cap, rfl⟩ := hv.form
  have HV := Lib.hid hv
  clear hv
  go_enter Tryd.func7, Tryd.ntmps7
  go_wp2_with fail
  obtain ⟨W1, eW1⟩ : ∃ E, E = w.alloc (.cells #[.slice none 0 0, .slice none 0 0] 26) := ⟨_, rfl⟩
  obtain ⟨sW1, sW1'⟩ : w.heap.size + 1 ≤ W1.heap.size ∧ W1.heap.size ≤ w.heap.size + 1 := by rw [eW1]; constructor <;> simp
  have HW1 := Lib.hid (show Chg [] w W1 by rw [eW1]; exact (Chg.refl _ _).alloc _)
  have HRES := Lib.hid (show (W1.cell? ⟨w.heap.size, 0, none⟩ = some (.slice none 0 0) ∧ W1.cell? ⟨w.heap.size, 1, none⟩ = some (.slice none 0 0)) ∧ W1.frozen? ⟨w.heap.size, 0, none⟩ = false ∧ W1.frozen? ⟨w.heap.size, 1, none⟩ = false by rw [eW1]; exact ⟨⟨by simp [go_sem], by simp [go_sem]⟩, by simp [go_sem], by simp [go_sem]⟩)
  rw [← eW1]
  clear eW1
  refine (open_any zs _ B W1 (HV.out.below (HW1.out.of0.mono hB)) (by omega) hz).mono ?_
  rintro en u1 ⟨rfl, hr1, hs1, hb1⟩
  have d1 : Dr u1 W1.heap.size 0 := ⟨0, Nat.le_refl _, hr1⟩
  have HB1 := Lib.hid (Chg.of_below hb1 [])
  have s1 := d1.lt
  clear hr1 hb1 hs1
  go_wp2_with fail
  refine (l1Draw_any W1.heap.size 0 u1 d1 (by omega)).mono ?_
  rintro en u2 ⟨g, vg, Fg, rfl, hg, _, hok, hln, d2, k2⟩
  have s2 := k2.size
  have HKW := Lib.hid (((HB1.out.mono (by simp)).trans k2) : Chg [W1.heap.size] W1 u2)
  clear k2 d1
  go_wp2_with fail
  refine (l1Wrong_any g _ u2.heap.size W1.heap.size 7000 1000 u2 hg.at (Nat.le_refl _) hok hln (by omega) d2 (by omega)).mono ?_
  rintro en u3 ⟨h, vh, Fh, rfl, ⟨hg', hl', hok', hln'⟩, d3, k3⟩
  have su3 := k3.size
  replace HKW := Lib.hid (HKW.out.trans k3)
  clear hg hok hln d2 k3
  have hg := hg'
  have hok := hok'
  have hln := hln'
  have d2 := d3
  clear hg' hok' hln' d3
  go_wp2_with fail
  refine (l1Wrong_any h _ u3.heap.size W1.heap.size 7005 1001 u3 hg.at (Nat.le_refl _) hok hln (by omega) d2 (by omega)).mono ?_
  rintro en u4 ⟨y, vy, Fy, rfl, ⟨hg', hl4, hok', hln'⟩, d3, k3⟩
  have su4 := k3.size
  replace HKW := Lib.hid (HKW.out.trans k3)
  clear hg hok hln d2 k3
  have hg := hg'
  have hok := hok'
  have hln := hln'
  have d2 := d3
  clear hg' hok' hln' d3
  obtain ⟨py, cy, qy, dy, rfl⟩ := hg.form
  have r0 := HKW.out.cellOf (by simp; omega) HRES.out.1.1
  have r1 := HKW.out.cellOf (by simp; omega) HRES.out.1.2
  have r2 := HKW.out.frozenOf (by simp; omega) (by omega) HRES.out.2.1
  have r3 := HKW.out.frozenOf (by simp; omega) (by omega) HRES.out.2.2
  have hq1 : w.heap.size < u4.heap.size := by omega
  have HG := Lib.hid hg
  have HOK := Lib.hid hok
  clear hg hok d2
  go_wp2_with fail
  refine bodyPost_ret (v := .agg #[.slice py y.ns.length cy, .slice qy y.es.length dy]) (by simp [results, Tryd.results7, go_sem, r0, r1]) rfl ?_
  have hs : ∀ E, Chg [w.heap.size] u4 E → CaseG w (.returned (.agg #[.slice py y.ns.length cy, .slice qy y.es.length dy])) E := by
    intro E hE
    have hl := hl4
    exact ⟨y, _, _, rfl, ⟨HG.out.chg hE (fun z hz hm => by have := hl z hz; simp at hm; omega), fun z hz => by have := hl z hz; omega, HOK.out, by omega, by omega⟩, ((HW1.out.past HKW.out (by simp; omega)).past hE (by simp)).of0⟩
  refine hs _ ?_
  repeat (first | exact Chg.refl _ _ | refine Chg.setCell ?_ (by simp) _ | refine Chg.alloc ?_ _ | refine Chg.drew ?_)

end Go.Proofs.YthephdglianipaaDoor
