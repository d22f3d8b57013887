/- DrawAddNode: a graph that is drawn, or nearly valid, and a node. -/
import Derived.Test.YtchhobphockhhaaL1G
namespace Go.Proofs.Ytchhobphockhhaa
open Go.RowKit

/-- A drawn graph and a drawn node. -/
def CaseGN (w : World) (e : Ending) (w' : World) : Prop :=
  ∃ (g : Gr) (vg : Value) (Fg : List Nat) (x : Nd), e = .returned (.tuple #[vg, .agg #[.string x.l, .int .i64 x.n]]) ∧ GX g vg Fg w.heap.size w' ∧ x.l.size ≤ 100 ∧ -1000 ≤ x.n ∧ x.n ≤ 1000 ∧ Below w.heap.size w w'

set_option maxRecDepth 100000 in
set_option maxHeartbeats 8000000 in
theorem drawAddNode_any (zs : List Int) (v : Value) (B : Nat) (w : World) (hv : Sl 1 byCells B w v zs) (hB : B ≤ w.heap.size) (hz : ∀ z ∈ zs, 0 ≤ z ∧ z ≤ 255) :
    Calls Try.prog 45 #[v] w (CaseGN w) := by
  obtain ⟨p, cap, rfl⟩ := hv.form
  have HV := Lib.hid hv
  clear hv
  go_enter Try.func45, Try.ntmps45
  go_wp2_with fail
  obtain ⟨W1, eW1⟩ : ∃ E, E = (w.alloc (.cells #[.slice none 0 0, .slice none 0 0] 55)).alloc (.cells #[.string ⟨#[]⟩, .int .i64 0] 64) := ⟨_, rfl⟩
  obtain ⟨sW1, sW1'⟩ : w.heap.size + 2 ≤ W1.heap.size ∧ W1.heap.size ≤ w.heap.size + 2 := by rw [eW1]; constructor <;> simp
  have HW1 := Lib.hid (show Chg [] w W1 by rw [eW1]; exact ((Chg.refl _ _).alloc _).alloc _)
  have HRES := Lib.hid (show (W1.cell? ⟨w.heap.size, 0, none⟩ = some (.slice none 0 0) ∧ W1.cell? ⟨w.heap.size, 1, none⟩ = some (.slice none 0 0) ∧ W1.cell? ⟨w.heap.size + 1, 0, none⟩ = some (.string ⟨#[]⟩) ∧ W1.cell? ⟨w.heap.size + 1, 1, none⟩ = some (.int .i64 0)) ∧ W1.frozen? ⟨w.heap.size, 0, none⟩ = false ∧ W1.frozen? ⟨w.heap.size, 1, none⟩ = false ∧ W1.frozen? ⟨w.heap.size + 1, 0, none⟩ = false ∧ W1.frozen? ⟨w.heap.size + 1, 1, none⟩ = false by rw [eW1]; exact ⟨⟨by simp [go_sem], by simp [go_sem], by simp [go_sem], by simp [go_sem]⟩, by simp [go_sem], by simp [go_sem], by simp [go_sem], by simp [go_sem]⟩)
  rw [← eW1]
  clear eW1
  refine (open_any zs _ B W1 (HV.out.below (HW1.out.of0.mono hB)) (by omega) hz).mono ?_
  rintro en u1 ⟨rfl, hr1, hs1, hb1⟩
  have d1 : Dr u1 W1.heap.size 0 := ⟨0, Nat.le_refl _, hr1⟩
  have HB1 := Lib.hid (Chg.of_below hb1 [])
  have s1 := d1.lt
  clear hr1 hb1 hs1
  go_wp2_with fail
  refine (l1Draw_any W1.heap.size 0 u1 d1 (by omega)).mono ?_
  rintro en u2 ⟨g, vg, Fg, rfl, hg, _, hok, hln, d2, k2⟩
  have s2 := k2.size
  have HKW := Lib.hid (((HB1.out.mono (by simp)).trans k2) : Chg [W1.heap.size] W1 u2)
  clear k2 d1
  go_wp2_with fail
  refine (l1Wrong_any g _ u2.heap.size W1.heap.size 7000 1000 u2 hg.at (Nat.le_refl _) hok hln (by omega) d2 (by omega)).mono ?_
  rintro en u3 ⟨h, vh, Fh, rfl, ⟨hg', hl', hok', hln'⟩, d3, k3⟩
  have su3 := k3.size
  replace HKW := Lib.hid (HKW.out.trans k3)
  clear hg hok hln d2 k3
  have hg := hg'
  have hok := hok'
  have hln := hln'
  have d2 := d3
  clear hg' hok' hln' d3
  go_wp2_with fail
  obtain ⟨py, cy, qy, dy, rfl⟩ := hg.form
  refine (of_dr W1.heap.size 7005 u3.heap.size 5 _ _ (d2.alloc _) (by omega) (Cs.fresh strB strB_spec _ _ _ rfl rfl (by kernel_rfl)) (by decide) (by omega)).mono ?_
  rintro en u4 ⟨sx, rfl, hsx, d4, k4⟩
  have k4' : Chg [W1.heap.size] u3 u4 := ((Chg.refl _ _).alloc _).trans k4
  have s4 := k4'.size
  replace HKW := Lib.hid (HKW.out.trans k4')
  have HG4 := Lib.hid (hg.chg k4' (fun z hz hm => by have := hl' z hz; simp at hm; omega))
  clear k4 d2 hg
  go_wp2_with fail
  refine (num_dr W1.heap.size 7006 u4.heap.size 5 _ _ (d4.alloc _) (by omega) (Cs.fresh intB intB_spec _ _ _ rfl rfl (by kernel_rfl)) (by decide) (by omega)).mono ?_
  rintro en u5 ⟨z, rfl, hz0, hz1, d5, k5⟩
  have k5' : Chg [W1.heap.size] u4 u5 := ((Chg.refl _ _).alloc _).trans k5
  have s5 := k5'.size
  replace HKW := Lib.hid (HKW.out.trans k5')
  have HG := Lib.hid (HG4.out.chg k5' (fun z hz hm => by have := hl' z hz; simp at hm; omega))
  have HOK := Lib.hid hok
  have r0 := HKW.out.cellOf (by simp; omega) HRES.out.1.1
  have r1 := HKW.out.cellOf (by simp; omega) HRES.out.1.2.1
  have r2 := HKW.out.cellOf (by simp; omega) HRES.out.1.2.2.1
  have r3 := HKW.out.cellOf (by simp; omega) HRES.out.1.2.2.2
  have r4 := HKW.out.frozenOf (by simp; omega) (by omega) HRES.out.2.1
  have r5 := HKW.out.frozenOf (by simp; omega) (by omega) HRES.out.2.2.1
  have r6 := HKW.out.frozenOf (by simp; omega) (by omega) HRES.out.2.2.2.1
  have r7 := HKW.out.frozenOf (by simp; omega) (by omega) HRES.out.2.2.2.2
  have hl4 := hl'
  clear k5 d4 d5 hok hl'
  go_wp2_with fail
  refine bodyPost_ret (v := .tuple #[.agg #[.slice py h.ns.length cy, .slice qy h.es.length dy], .agg #[.string sx, .int .i64 z]]) (by simp [results, Try.results45, go_sem, r0, r1, r2, r3]) rfl ?_
  have hs : ∀ E, Chg [w.heap.size, w.heap.size + 1] u5 E → CaseGN w (.returned (.tuple #[.agg #[.slice py h.ns.length cy, .slice qy h.es.length dy], .agg #[.string sx, .int .i64 z]])) E := by
    intro E hE
    exact ⟨h, _, _, ⟨sx, z⟩, rfl, ⟨HG.out.chg hE (fun z hz hm => by have := hl4 z hz; simp at hm; omega), fun z hz => by have := hl4 z hz; omega, HOK.out, by omega, by omega⟩, hsx, hz0, hz1, ((HW1.out.past HKW.out (by simp; omega)).past hE (by simp)).of0⟩
  refine hs _ ?_
  repeat (first | exact Chg.refl _ _ | refine Chg.setCell ?_ (by simp) _ | refine Chg.alloc ?_ _ | refine Chg.drew ?_)
end Go.Proofs.Ytchhobphockhhaa
