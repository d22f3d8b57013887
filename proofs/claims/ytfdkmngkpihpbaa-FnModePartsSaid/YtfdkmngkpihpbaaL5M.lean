/- DrawWalkMode, DrawWalkValid. -/
import Derived.Test.YtfdkmngkpihpbaaL5K
import Derived.Test.YtfdkmngkpihpbaaReg
namespace Go.Proofs.Ytfdkmngkpihpbaa
open Go.RowKit

def CaseWM (w : World) (e : Ending) (w' : World) : Prop :=
  ∃ (x : Wk) (vx : Value) (Fx : List Nat) (z : Int), e = .returned (.tuple #[vx, .int .i64 z]) ∧ WD x vx Fx w.heap.size w' ∧ Below w.heap.size w w'

set_option maxRecDepth 100000 in
set_option maxHeartbeats 8000000 in
theorem drawWalkMode_any (zs : List Int) (v : Value) (B : Nat) (w : World) (hv : Sl 1 byCells B w v zs) (hB : B ≤ w.heap.size) (hz : ∀ z ∈ zs, 0 ≤ z ∧ z ≤ 255) :
    Calls Try.prog 15 #[v] w (CaseWM w) := by
  obtain ⟨p, cap, rfl⟩ := hv.form
  have HV := Lib.hid hv
  clear hv
  go_enter Try.func15, Try.ntmps15
  go_wp2_with fail
  obtain ⟨W1, eW1⟩ : ∃ E, E = w.alloc (.cells #[.slice none 0 0, .slice none 0 0] 25) := ⟨_, rfl⟩
  obtain ⟨sW1, sW1'⟩ : w.heap.size + 1 ≤ W1.heap.size ∧ W1.heap.size ≤ w.heap.size + 1 := by rw [eW1]; constructor <;> simp
  have HW1 := Lib.hid (show Chg [] w W1 by rw [eW1]; exact (Chg.refl _ _).alloc _)
  have HRES := Lib.hid (show (W1.cell? ⟨w.heap.size, 0, none⟩ = some (.slice none 0 0) ∧ W1.cell? ⟨w.heap.size, 1, none⟩ = some (.slice none 0 0)) ∧ W1.frozen? ⟨w.heap.size, 0, none⟩ = false ∧ W1.frozen? ⟨w.heap.size, 1, none⟩ = false by rw [eW1]; exact ⟨⟨by simp [go_sem], by simp [go_sem]⟩, by simp [go_sem], by simp [go_sem]⟩)
  rw [← eW1]
  clear eW1
  refine (l5Case_any zs _ B W1 (HV.out.below (HW1.out.of0.mono hB)) (by omega) hz).mono ?_
  rintro en w1 ⟨g, vg, Fg, x, vx, Fx, rfl, hg, hx, hb⟩
  obtain ⟨pg, cg, qg, dg, rfl⟩ := hg.1.form
  obtain ⟨px, cx, qx, dx, rfl⟩ := hx.1.form
  have HX := Lib.hid hx
  have s1 := hb.size
  have kb := Chg.of_below hb []
  go_upto_region 2 with fail
  obtain ⟨W, eW⟩ : ∃ E, E = (w1.alloc (.cells #[.slice pg g.ns.length cg, .slice qg g.es.length dg] 71)).alloc (.cells #[.slice px x.ns.length cx, .slice qx x.es.length dx] 25) := ⟨_, rfl⟩
  obtain ⟨sW, sW'⟩ : w1.heap.size + 2 ≤ W.heap.size ∧ W.heap.size ≤ w1.heap.size + 2 := by rw [eW]; constructor <;> simp
  have kW : Chg [] w1 W := by rw [eW]; exact ((Chg.refl _ _).alloc _).alloc _
  have HC := Lib.hid (show W.cell? ⟨w1.heap.size + 1, 0, none⟩ = some (.slice px x.ns.length cx) ∧ W.cell? ⟨w1.heap.size + 1, 1, none⟩ = some (.slice qx x.es.length dx) by rw [eW]; exact ⟨by simp [go_sem], by simp [go_sem]⟩)
  rw [← eW]
  clear eW
  have HK1 := Lib.hid (kb.trans kW)
  have HKW := Lib.hid ((HW1.out.trans kb).trans kW : Chg [] w W)
  have HXW := Lib.hid (HX.out.chg kW (by simp))
  clear kb kW hg hx hb
  have HK := Lib.hid (fun (E : World) (hE : Chg [w.heap.size] W E) => And.intro (hE.cellOf (b := w1.heap.size + 1) (o := 0) (by simp; omega) HC.out.1) (hE.cellOf (b := w1.heap.size + 1) (o := 1) (by simp; omega) HC.out.2))
  have HVK := Lib.hid (fun (E : World) (hE : Chg [w.heap.size] W E) => HV.out.below ((HKW.out.past hE (by simp)).of0.mono hB))
  have HR := Lib.hid (fun (E : World) (hE : Chg [] W E) =>
    let h := HK1.out.trans hE
    And.intro (h.cellOf (b := w.heap.size) (o := 0) (by simp) HRES.out.1.1) (And.intro (h.cellOf (b := w.heap.size) (o := 1) (by simp) HRES.out.1.2) (And.intro (h.frozenOf (b := w.heap.size) (o := 0) (by simp) (by omega) HRES.out.2.1) (h.frozenOf (b := w.heap.size) (o := 1) (by simp) (by omega) HRES.out.2.2))))
  refine wp_region_held_drew (S := fun w' => w'.cell? ⟨w1.heap.size + 1, 0, none⟩ = some (.slice px x.ns.length cx) ∧ w'.cell? ⟨w1.heap.size + 1, 1, none⟩ = some (.slice qx x.es.length dx)) (by kernel_rfl) ?_ (fun hHeld => ?_)
  · exact HK.out _ (show Chg [w.heap.size] W _ by ((repeat (first | with_reducible assumption | with_reducible exact Chg.refl _ _ | refine Chg.setCell ?_ (by simp) _ | refine Chg.alloc ?_ _ | refine Chg.drew ?_)); first | done | fail "chn4"))
  have cW : Chg [] W W.drew := Chg.drew (Chg.refl _ _)
  generalize W.drew = W0 at cW hHeld ⊢
  have zW := cW.size
  have fin : ∀ (E : World) (z : Int), Chg [] W E → CaseWM w (.returned (.tuple #[.agg #[.slice px x.ns.length cx, .slice qx x.es.length dx], .int .i64 z])) ((E.setCell ⟨w.heap.size, 0, none⟩ (.slice px x.ns.length cx)).setCell ⟨w.heap.size, 1, none⟩ (.slice qx x.es.length dx)) := by
    intro E z hE
    have hs : Chg [w.heap.size] W ((E.setCell ⟨w.heap.size, 0, none⟩ (.slice px x.ns.length cx)).setCell ⟨w.heap.size, 1, none⟩ (.slice qx x.es.length dx)) := ((hE.mono (by simp)).setCell (by simp) _).setCell (by simp) _
    exact ⟨x, _, Fx, z, rfl, (HXW.out.chg hs (by simp; omega)).lo (by omega), (HKW.out.past hs (by simp)).of0⟩
  have HF := Lib.hid fin
  clear fin
  (refine takeL (i := 0) (v := ?_) rfl (by kernel_rfl) (by kernel_rfl) (by kernel_rfl) (fun _ _ _ h => h) (Or.inl ⟨by kernel_rfl, ?_⟩) (by assumption) ?_; rotate_left; (focus (intro w hSw; (try dsimp only at hSw); go_simp; first | done | with_reducible rfl | fail "take")); (try simp only [Act.put, List.setIfInBounds_toArray, List.set_cons_zero, List.set_cons_succ]))
  (refine takeL (i := 1) (v := ?_) rfl (by kernel_rfl) (by kernel_rfl) (by kernel_rfl) (fun _ _ _ h => h) (Or.inl ⟨by kernel_rfl, ?_⟩) (by assumption) ?_; rotate_left; (focus (intro w hSw; (try dsimp only at hSw); go_simp; first | done | with_reducible rfl | fail "take")); (try simp only [Act.put, List.setIfInBounds_toArray, List.set_cons_zero, List.set_cons_succ]))
  refine twoL (i := 2) (j := 3) rfl rfl (by kernel_rfl) (by kernel_rfl) (by kernel_rfl) (fun K hK => ?_) (fun K hK => ?_)
  · go_simp
    go_at_call 50
    refine Calls.mono (open_any zs _ B W0 (HVK.out _ (cW.mono (by simp))) (by omega) hz) ?_
    rintro en w2 ⟨rfl, hr, hs0, hb⟩
    have d2 : Dr w2 W0.heap.size 0 := ⟨0, Nat.le_refl _, hr⟩
    have c2 : Chg [] W w2 := cW.trans (Chg.of_below hb [])
    have z2 : W0.heap.size < w2.heap.size := d2.lt
    clear hr hb hs0
    go_wp2_with fail
    refine hK.out _ _ (HK.out _ (c2.mono (by simp))) (fun hHeld => ?_)
    clear hK K
    (try simp only [Act.put, List.setIfInBounds_toArray, List.set_cons_zero, List.set_cons_succ])
    (refine callL (i := 3) rfl (by kernel_rfl) (by kernel_rfl) (fun K hK => ?_); go_simp)
    refine made (K := K) intB_spec 6 (by rfl) (by kernel_rfl) ?_
    intro w3 k3 z3 sB
    have c3 := c2.trans k3
    have d3 := d2.chg k3 (by simp)
    refine hK.out _ _ (HK.out _ (c3.mono (by simp))) (fun hHeld => ?_)
    clear hK K
    (try simp only [Act.put, List.setIfInBounds_toArray, List.set_cons_zero, List.set_cons_succ])
    (refine callL (i := 4) rfl (by kernel_rfl) (by kernel_rfl) (fun K hK => ?_); go_simp)
    go_at_call 51
    refine Calls.mono (num_dr _ 0 _ 6 _ w3 d3 (by omega) sB (by decide) (by omega)) ?_
    rintro en w4 ⟨z, rfl, _, _, _, k4⟩
    have c4 : Chg [] W w4 := c3.past k4 (by simp; omega)
    obtain ⟨r0, r1, r2, r3⟩ := HR.out _ c4
    go_wp2_with fail
    refine hK.out _ _ (HK.out _ (c4.mono (by simp))) (fun hHeld => ?_)
    clear hK K
    (try simp only [Act.put, List.setIfInBounds_toArray, List.set_cons_zero, List.set_cons_succ])
    (refine callL (i := 5) rfl (by kernel_rfl) (by kernel_rfl) (fun K hK => ?_); go_simp)
    refine hK.out _ _ (HK.out _ (((c4.mono (by simp)).setCell (by simp) _).setCell (by simp) _)) (fun hHeld => ?_)
    clear hK K
    (try simp only [Act.put, List.setIfInBounds_toArray, List.set_cons_zero, List.set_cons_succ])
    (refine takeL (i := 6) (v := ?_) rfl (by kernel_rfl) (by kernel_rfl) (by kernel_rfl) (fun _ _ _ h => h) (Or.inl ⟨by kernel_rfl, ?_⟩) (by assumption) ?_; rotate_left; (focus (intro w hSw; (try dsimp only at hSw); go_simp; first | done | with_reducible rfl | fail "take")); (try simp only [Act.put, List.setIfInBounds_toArray, List.set_cons_zero, List.set_cons_succ]))
    refine wpAnyH_done (by kernel_rfl) ?_ _
    go_wp2_with fail
    exact bodyPost_ret (v := .tuple #[.agg #[.slice px x.ns.length cx, .slice qx x.es.length dx], .int .i64 z]) (by simp [results, Try.results15, go_sem, r0, r1]) rfl (HF.out _ z c4)
  · go_simp
    refine made (K := K) intB_spec 6 (by rfl) (by kernel_rfl) ?_
    intro w2 k2 z2 sB
    have c2 := cW.trans k2
    have zz := k2.size
    refine hK.out _ _ (HK.out _ (c2.mono (by simp))) (fun hHeld => ?_)
    clear hK K
    (try simp only [Act.put, List.setIfInBounds_toArray, List.set_cons_zero, List.set_cons_succ])
    (refine callL (i := 2) rfl (by kernel_rfl) (by kernel_rfl) (fun K hK => ?_); go_simp)
    go_at_call 50
    refine Calls.mono (open_any zs _ B w2 (HVK.out _ (c2.mono (by simp))) (by omega) hz) ?_
    rintro en w3 ⟨rfl, hr, hs0, hb⟩
    have d3 : Dr w3 w2.heap.size 0 := ⟨0, Nat.le_refl _, hr⟩
    have k3 := Chg.of_below hb []
    have c3 : Chg [] W w3 := c2.trans k3
    have sC := sB.chg k3 (by simp)
    clear hr hb sB hs0
    go_wp2_with fail
    refine hK.out _ _ (HK.out _ (c3.mono (by simp))) (fun hHeld => ?_)
    clear hK K
    (try simp only [Act.put, List.setIfInBounds_toArray, List.set_cons_zero, List.set_cons_succ])
    (refine callL (i := 4) rfl (by kernel_rfl) (by kernel_rfl) (fun K hK => ?_); go_simp)
    go_at_call 51
    refine Calls.mono (num_dr _ 0 _ 6 _ w3 d3 (by omega) sC (by decide) (by omega)) ?_
    rintro en w4 ⟨z, rfl, _, _, _, k4⟩
    have c4 : Chg [] W w4 := c3.past k4 (by simp; omega)
    obtain ⟨r0, r1, r2, r3⟩ := HR.out _ c4
    go_wp2_with fail
    refine hK.out _ _ (HK.out _ (c4.mono (by simp))) (fun hHeld => ?_)
    clear hK K
    (try simp only [Act.put, List.setIfInBounds_toArray, List.set_cons_zero, List.set_cons_succ])
    (refine callL (i := 5) rfl (by kernel_rfl) (by kernel_rfl) (fun K hK => ?_); go_simp)
    refine hK.out _ _ (HK.out _ (((c4.mono (by simp)).setCell (by simp) _).setCell (by simp) _)) (fun hHeld => ?_)
    clear hK K
    (try simp only [Act.put, List.setIfInBounds_toArray, List.set_cons_zero, List.set_cons_succ])
    (refine takeL (i := 6) (v := ?_) rfl (by kernel_rfl) (by kernel_rfl) (by kernel_rfl) (fun _ _ _ h => h) (Or.inl ⟨by kernel_rfl, ?_⟩) (by assumption) ?_; rotate_left; (focus (intro w hSw; (try dsimp only at hSw); go_simp; first | done | with_reducible rfl | fail "take")); (try simp only [Act.put, List.setIfInBounds_toArray, List.set_cons_zero, List.set_cons_succ]))
    refine wpAnyH_done (by kernel_rfl) ?_ _
    go_wp2_with fail
    exact bodyPost_ret (v := .tuple #[.agg #[.slice px x.ns.length cx, .slice qx x.es.length dx], .int .i64 z]) (by simp [results, Try.results15, go_sem, r0, r1]) rfl (HF.out _ z c4)
end Go.Proofs.Ytfdkmngkpihpbaa
