/- l1At: a graph that is drawn, or nearly valid, and a node's number. -/
import Derived.Test.YtbbemeaojmfndaaDoorM2q1p1
namespace Go.Proofs.YtbbemeaojmfndaaDoor
open Go.RowKit

/-- A drawn graph and a drawn number. -/
def CaseGI (w : World) (e : Ending) (w' : World) : Prop :=
  ∃ (g : Gr) (vg : Value) (Fg : List Nat) (n : Int), e = .returned (.tuple #[vg, .int .i64 n]) ∧ GX g vg Fg w.heap.size w' ∧ -1000 ≤ n ∧ n ≤ 1000 ∧ Below w.heap.size w w'

set_option maxRecDepth 100000 in
set_option maxHeartbeats 8000000 in
theorem l1At_any (zs : List Int) (v : Value) (B : Nat) (w : World) (hv : Sl 1 byCells B w v zs) (hB : B ≤ w.heap.size) (hz : ∀ z ∈ zs, 0 ≤ z ∧ z ≤ 255) :
    Calls Tryd.prog 33 #[v] w (CaseGI w) := by
  obtain ⟨p, cap, rfl⟩ := hv.form
  have HV := Lib.hid hv
  clear hv
  go_enter Tryd.func33, Tryd.ntmps33
  go_wp2_with fail
  obtain ⟨W1, eW1⟩ : ∃ E, E = w.alloc (.cells #[.slice none 0 0, .slice none 0 0] 36) := ⟨_, rfl⟩
  obtain ⟨sW1, sW1'⟩ : w.heap.size + 1 ≤ W1.heap.size ∧ W1.heap.size ≤ w.heap.size + 1 := by rw [eW1]; constructor <;> simp
  have HW1 := Lib.hid (show Chg [] w W1 by rw [eW1]; exact (Chg.refl _ _).alloc _)
  have HRES := Lib.hid (show (W1.cell? ⟨w.heap.size, 0, none⟩ = some (.slice none 0 0) ∧ W1.cell? ⟨w.heap.size, 1, none⟩ = some (.slice none 0 0)) ∧ W1.frozen? ⟨w.heap.size, 0, none⟩ = false ∧ W1.frozen? ⟨w.heap.size, 1, none⟩ = false by rw [eW1]; exact ⟨⟨by simp [go_sem], by simp [go_sem]⟩, by simp [go_sem], by simp [go_sem]⟩)
  rw [← eW1]
  clear eW1
  refine (open_any zs _ B W1 (HV.out.below (HW1.out.of0.mono hB)) (by omega) hz).mono ?_
  rintro en u1 ⟨rfl, hr1, hs1, hb1⟩
  have d1 : Dr u1 W1.heap.size 0 := ⟨0, Nat.le_refl _, hr1⟩
  have HB1 := Lib.hid (Chg.of_below hb1 [])
  have s1 := d1.lt
  clear hr1 hb1 hs1
  go_wp2_with fail
  refine (l1Draw_any W1.heap.size 0 u1 d1 (by omega)).mono ?_
  rintro en u2 ⟨g, vg, Fg, rfl, hg, hgl, hok, hln, d2, k2⟩
  have s2 := k2.size
  obtain ⟨pg, cg, qg, dg, rfl⟩ := Gr.At.form' hg.at
  go_upto_region 3 with fail
  obtain ⟨W3, eW3⟩ : ∃ E, E = u2.alloc (.cells #[.slice pg g.ns.length cg, .slice qg g.es.length dg] 36) := ⟨_, rfl⟩
  have zW3 : u2.heap.size < W3.heap.size := by rw [eW3]; simp
  have k3 : Chg [] u2 W3 := by rw [eW3]; exact (Chg.refl _ _).alloc _
  have HC3 := Lib.hid (show W3.cell? ⟨u2.heap.size, 0, none⟩ = some (.slice pg g.ns.length cg) ∧ W3.cell? ⟨u2.heap.size, 1, none⟩ = some (.slice qg g.es.length dg) by rw [eW3]; exact ⟨by simp [go_sem], by simp [go_sem]⟩)
  rw [← eW3]
  clear eW3
  have HKW := Lib.hid ((((HB1.out.mono (by simp)).trans k2).trans (k3.mono (by simp))) : Chg [W1.heap.size] W1 W3)
  have d3 : Dr W3 W1.heap.size 7000 := (d2.mono (by omega)).chg k3 (by simp)
  have HOK := Lib.hid hok
  have HLN := Lib.hid hln
  have HG3 := Lib.hid (hg.chg k3 (by simp))
  clear k2 k3 d1 d2 hok hln hg
  go_wp2_with fail
  refine (pick_nat 16 W1.heap.size 7000 W3 d3 (by omega) (by decide)).mono ?_
  rintro en wr ⟨t, rfl, ht, hd, k4⟩
  have s4 := k4.size
  have HKR := Lib.hid (HKW.out.trans k4)
  have HG := Lib.hid (show GX g _ _ u1.heap.size wr from ⟨HG3.out.chg k4 (fun z hz hm => by have := hgl z hz; simp at hm; omega), hgl, HOK.out, by have := HLN.out.1; omega, by have := HLN.out.2; omega⟩)
  have HKX := Lib.hid ((HW1.out.past HKR.out (by simp; omega)) : Chg [] w wr)
  have HK := Lib.hid (fun (E : World) (hE : Chg [W1.heap.size, w.heap.size] wr E) => And.intro ((hE.cellOf (b := u2.heap.size) (o := 0) (by simp; omega)) (k4.cellOf (by simp; omega) HC3.out.1)) ((hE.cellOf (b := u2.heap.size) (o := 1) (by simp; omega)) (k4.cellOf (by simp; omega) HC3.out.2)))
  have HR := Lib.hid (fun (E : World) (hE : Chg [W1.heap.size] wr E) =>
    let h := HKR.out.trans hE
    And.intro (h.cellOf (b := w.heap.size) (o := 0) (by simp; omega) HRES.out.1.1) (And.intro (h.cellOf (b := w.heap.size) (o := 1) (by simp; omega) HRES.out.1.2) (And.intro (h.frozenOf (b := w.heap.size) (o := 0) (by simp; omega) (by omega) HRES.out.2.1) (h.frozenOf (b := w.heap.size) (o := 1) (by simp; omega) (by omega) HRES.out.2.2))))
  have kr := Chg.refl [W1.heap.size, w.heap.size] wr
  clear k4 d3
  by_cases h0 : t = 0
  · have q0 : ((t : Int) == 0) = true := beq_iff_eq.2 (by omega)
    clear h0
    go_upto_region 4 with fail
    refine wp_region_E (last := 5) (S := fun w' => w'.cell? ⟨u2.heap.size, 0, none⟩ = some (.slice pg g.ns.length cg) ∧ w'.cell? ⟨u2.heap.size, 1, none⟩ = some (.slice qg g.es.length dg)) (by kernel_rfl) ?_ (fun hHeld => ?_)
    · exact HK.out _ (Chg.drew (Chg.refl _ _))
    have cW : Chg [W1.heap.size, w.heap.size] wr wr.drew := Chg.drew (Chg.refl _ _)
    have cW' : Chg [W1.heap.size] wr wr.drew := Chg.drew (Chg.refl _ _)
    have dW : Dr wr.drew W1.heap.size 7001 := hd.drew
    have yW : wr.heap.size ≤ wr.drew.heap.size := cW.size
    generalize wr.drew = W0 at cW cW' dW yW hHeld ⊢
    (refine takeE (i := 0) (v := ?_) [] rfl (by kernel_rfl) (by kernel_rfl) (fun _ _ _ h => h) (Or.inl ⟨by kernel_rfl, ?_⟩) (by assumption) ?_; rotate_left; (focus (intro w hSw; (try dsimp only at hSw); go_simp; first | done | with_reducible rfl | fail "takeE")); (try simp only [Act.put, List.setIfInBounds_toArray, List.set_cons_zero, List.set_cons_succ]))
    (refine takeE (i := 1) (v := ?_) [] rfl (by kernel_rfl) (by kernel_rfl) (fun _ _ _ h => h) (Or.inl ⟨by kernel_rfl, ?_⟩) (by assumption) ?_; rotate_left; (focus (intro w hSw; (try dsimp only at hSw); go_simp; first | done | with_reducible rfl | fail "takeE")); (try simp only [Act.put, List.setIfInBounds_toArray, List.set_cons_zero, List.set_cons_succ]))
    refine oneE (i := 2) rfl (by kernel_rfl) (by kernel_rfl) (fun K hK => ?_)
    go_simp
    refine made (K := K) intB_spec 2 (by rfl) (by kernel_rfl) ?_
    intro U1 kU1 zU1 sB
    have cU1 : Chg [W1.heap.size, w.heap.size] wr U1 := cW.trans (kU1.mono (by simp))
    have cU1' : Chg [W1.heap.size] wr U1 := cW'.trans (kU1.mono (by simp))
    have dU1 : Dr U1 W1.heap.size 7001 := dW.chg kU1 (by simp)
    have nB : W0.heap.size ≠ W1.heap.size := by omega
    refine hK.out _ _ (HK.out _ (show Chg [W1.heap.size, w.heap.size] wr _ by ((repeat (first | with_reducible assumption | with_reducible exact Chg.refl _ _ | refine Chg.setCell ?_ (by simp) _ | refine Chg.alloc ?_ _ | refine Chg.drew ?_)); first | done | fail "chn5"))) (fun hHeld => ?_)
    clear hK K
    (try simp only [Act.put, List.setIfInBounds_toArray, List.set_cons_zero, List.set_cons_succ])
    refine oneE (i := 3) rfl (by kernel_rfl) (by kernel_rfl) (fun K hK => ?_)
    go_simp
    go_at_call 53
    refine Calls.mono (num_dr W1.heap.size 7001 _ 2 _ _ (by ((repeat (first | with_reducible assumption | refine Dr.alloc ?_ _ | refine Dr.drew ?_)); first | done | fail "drk")) (by omega) sB (by decide) nB) ?_
    rintro en U2 ⟨n, rfl, hn0, hn1, dU2, kU2⟩
    have cU2 : Chg [W1.heap.size, w.heap.size] wr U2 := cU1.trans (kU2.mono (by simp))
    have yU2 := kU2.size
    have cU2' : Chg [W1.heap.size] wr U2 := cU1'.trans kU2
    go_wp2_with fail
    refine hK.out _ _ (HK.out _ (show Chg [W1.heap.size, w.heap.size] wr _ by ((repeat (first | with_reducible assumption | with_reducible exact Chg.refl _ _ | refine Chg.setCell ?_ (by simp) _ | refine Chg.alloc ?_ _ | refine Chg.drew ?_)); first | done | fail "chn5"))) (fun hHeld => ?_)
    clear hK K
    (try simp only [Act.put, List.setIfInBounds_toArray, List.set_cons_zero, List.set_cons_succ])
    refine oneE (i := 4) rfl (by kernel_rfl) (by kernel_rfl) (fun K hK => ?_)
    obtain ⟨r0, r1, r2, r3⟩ := HR.out _ (show Chg [W1.heap.size] wr U2 from cU2')
    go_simp
    refine hK.out _ _ (HK.out _ (show Chg [W1.heap.size, w.heap.size] wr _ by ((repeat (first | with_reducible assumption | with_reducible exact Chg.refl _ _ | refine Chg.setCell ?_ (by simp) _ | refine Chg.alloc ?_ _ | refine Chg.drew ?_)); first | done | fail "chn5"))) (fun hHeld => ?_)
    clear hK K
    (try simp only [Act.put, List.setIfInBounds_toArray, List.set_cons_zero, List.set_cons_succ])
    refine lastE rfl (by kernel_rfl) (by kernel_rfl) (fun K hK => ?_)
    go_simp
    refine hK.out _ _ ?_
    clear hK K
    refine doneE (by kernel_rfl) ?_ _
    have HC := Lib.hid cU2
    go_wp2_with fail
    refine bodyPost_ret (v := .tuple #[.agg #[.slice pg g.ns.length cg, .slice qg g.es.length dg], .int .i64 n]) (by simp [results, Tryd.results33, go_sem, r0, r1]) rfl ?_
    have hs : ∀ E, Chg [w.heap.size] U2 E → CaseGI w (.returned (.tuple #[.agg #[.slice pg g.ns.length cg, .slice qg g.es.length dg], .int .i64 n])) E := by
      intro E hE
      have sU2 := HC.out.size
      exact ⟨g, _, _, n, rfl, ((HG.out.chg cU2 (by simp; omega)).chg hE (by simp; omega)).lo (by omega), by omega, by omega, (HKX.out.past (HC.out.trans (hE.mono (by simp))) (by simp; omega)).of0⟩
    refine hs _ ?_
    repeat (first | exact Chg.refl _ _ | refine Chg.setCell ?_ (by simp) _ | refine Chg.alloc ?_ _ | refine Chg.drew ?_)
  · have q0 : ((t : Int) == 0) = false := beq_eq_false_iff_ne.2 (by omega)
    clear h0
    go_upto_region 5 with fail
    refine wp_region_E (last := 9) (S := fun w' => w'.cell? ⟨u2.heap.size, 0, none⟩ = some (.slice pg g.ns.length cg) ∧ w'.cell? ⟨u2.heap.size, 1, none⟩ = some (.slice qg g.es.length dg)) (by kernel_rfl) ?_ (fun hHeld => ?_)
    · exact HK.out _ (Chg.drew (Chg.refl _ _))
    have cW : Chg [W1.heap.size, w.heap.size] wr wr.drew := Chg.drew (Chg.refl _ _)
    have cW' : Chg [W1.heap.size] wr wr.drew := Chg.drew (Chg.refl _ _)
    have dW : Dr wr.drew W1.heap.size 7001 := hd.drew
    have yW : wr.heap.size ≤ wr.drew.heap.size := cW.size
    generalize wr.drew = W0 at cW cW' dW yW hHeld ⊢
    (refine takeE (i := 0) (v := ?_) [] rfl (by kernel_rfl) (by kernel_rfl) (fun _ _ _ h => h) (Or.inl ⟨by kernel_rfl, ?_⟩) (by assumption) ?_; rotate_left; (focus (intro w hSw; (try dsimp only at hSw); go_simp; first | done | with_reducible rfl | fail "takeE")); (try simp only [Act.put, List.setIfInBounds_toArray, List.set_cons_zero, List.set_cons_succ]))
    (refine takeE (i := 1) (v := ?_) [] rfl (by kernel_rfl) (by kernel_rfl) (fun _ _ _ h => h) (Or.inl ⟨by kernel_rfl, ?_⟩) (by assumption) ?_; rotate_left; (focus (intro w hSw; (try dsimp only at hSw); go_simp; first | done | with_reducible rfl | fail "takeE")); (try simp only [Act.put, List.setIfInBounds_toArray, List.set_cons_zero, List.set_cons_succ]))
    (refine takeE (i := 3) (v := ?_) [] rfl (by kernel_rfl) (by kernel_rfl) (fun _ _ _ h => h) (Or.inl ⟨by kernel_rfl, ?_⟩) (by assumption) ?_; rotate_left; (focus (intro w hSw; (try dsimp only at hSw); go_simp; first | done | with_reducible rfl | fail "takeE")); (try simp only [Act.put, List.setIfInBounds_toArray, List.set_cons_zero, List.set_cons_succ]))
    (refine takeE (i := 4) (v := ?_) [] rfl (by kernel_rfl) (by kernel_rfl) (fun _ _ _ h => h) (Or.inl ⟨by kernel_rfl, ?_⟩) (by assumption) ?_; rotate_left; (focus (intro w hSw; (try dsimp only at hSw); go_simp; first | done | with_reducible rfl | fail "takeE")); (try simp only [Act.put, List.setIfInBounds_toArray, List.set_cons_zero, List.set_cons_succ]))
    (refine takeE (i := 5) (v := ?_) [] rfl (by kernel_rfl) (by kernel_rfl) (fun _ _ _ h => h) (Or.inl ⟨by kernel_rfl, ?_⟩) (by assumption) ?_; rotate_left; (focus (intro w hSw; (try dsimp only at hSw); go_simp; first | done | with_reducible rfl | fail "takeE")); (try simp only [Act.put, List.setIfInBounds_toArray, List.set_cons_zero, List.set_cons_succ]))
    (refine takeE (i := 6) (v := ?_) [] rfl (by kernel_rfl) (by kernel_rfl) (fun _ _ _ h => h) (Or.inl ⟨by kernel_rfl, ?_⟩) (by assumption) ?_; rotate_left; (focus (intro w hSw; (try dsimp only at hSw); go_simp; first | done | with_reducible rfl | fail "takeE")); (try simp only [Act.put, List.setIfInBounds_toArray, List.set_cons_zero, List.set_cons_succ]))
    refine oneE (i := 2) rfl (by kernel_rfl) (by kernel_rfl) (fun K hK => ?_)
    go_simp
    go_at_call 67
    refine Calls.mono (l1Wrong_any g _ W0.heap.size W1.heap.size 7001 1000 W0 (HG.out.chg cW (by simp; omega)).1.at (Nat.le_refl _) HOK.out HLN.out (by omega) dW (by omega)) ?_
    rintro en U1 ⟨y, vy, Fy, rfl, ⟨hy, hyl, hyok, hyln⟩, dU1, kU1⟩
    obtain ⟨py, cy, qy, dy, rfl⟩ := Gr.At.form' hy.at
    have cU1 : Chg [W1.heap.size, w.heap.size] wr U1 := cW.trans (kU1.mono (by simp))
    have HY := Lib.hid hy
    have HYL := Lib.hid hyl
    have HYK := Lib.hid hyok
    have HYN := Lib.hid hyln
    have yU1 := kU1.size
    clear hy hyl hyok hyln
    go_wp2_with fail
    refine hK.out _ _ (HK.out _ (show Chg [W1.heap.size, w.heap.size] wr _ by ((repeat (first | with_reducible assumption | with_reducible exact Chg.refl _ _ | refine Chg.setCell ?_ (by simp) _ | refine Chg.alloc ?_ _ | refine Chg.drew ?_)); first | done | fail "chn5"))) (fun hHeld => ?_)
    clear hK K
    (try simp only [Act.put, List.setIfInBounds_toArray, List.set_cons_zero, List.set_cons_succ])
    refine oneE (i := 7) rfl (by kernel_rfl) (by kernel_rfl) (fun K hK => ?_)
    go_simp
    go_at_call 52
    refine Calls.mono (pick_sm _ W1.heap.size (7001 + 5) _ (by ((repeat (first | with_reducible assumption | refine Dr.alloc ?_ _ | refine Dr.drew ?_)); first | done | fail "drk")) (by omega) (by have := HLN.out.1; omega)) ?_
    rintro en U2 ⟨n, rfl, hn0, hn1, dU2, kU2⟩
    have cU2 : Chg [W1.heap.size, w.heap.size] wr U2 := cU1.trans (kU2.mono (by simp))
    have yU2 := kU2.size
    go_wp2_with fail
    refine hK.out _ _ (HK.out _ (show Chg [W1.heap.size, w.heap.size] wr _ by ((repeat (first | with_reducible assumption | with_reducible exact Chg.refl _ _ | refine Chg.setCell ?_ (by simp) _ | refine Chg.alloc ?_ _ | refine Chg.drew ?_)); first | done | fail "chn5"))) (fun hHeld => ?_)
    clear hK K
    (try simp only [Act.put, List.setIfInBounds_toArray, List.set_cons_zero, List.set_cons_succ])
    refine oneE (i := 8) rfl (by kernel_rfl) (by kernel_rfl) (fun K hK => ?_)
    obtain ⟨r0, r1, r2, r3⟩ := HR.out _ (show Chg [W1.heap.size] wr U2 from ((cW'.trans kU1).trans kU2))
    go_simp
    refine hK.out _ _ (HK.out _ (show Chg [W1.heap.size, w.heap.size] wr _ by ((repeat (first | with_reducible assumption | with_reducible exact Chg.refl _ _ | refine Chg.setCell ?_ (by simp) _ | refine Chg.alloc ?_ _ | refine Chg.drew ?_)); first | done | fail "chn5"))) (fun hHeld => ?_)
    clear hK K
    (try simp only [Act.put, List.setIfInBounds_toArray, List.set_cons_zero, List.set_cons_succ])
    refine lastE rfl (by kernel_rfl) (by kernel_rfl) (fun K hK => ?_)
    go_simp
    refine hK.out _ _ ?_
    clear hK K
    refine doneE (by kernel_rfl) ?_ _
    have HC := Lib.hid cU2
    go_wp2_with fail
    refine bodyPost_ret (v := .tuple #[.agg #[.slice py y.ns.length cy, .slice qy y.es.length dy], .int .i64 n]) (by simp [results, Tryd.results33, go_sem, r0, r1]) rfl ?_
    have hs : ∀ E, Chg [w.heap.size] U2 E → CaseGI w (.returned (.tuple #[.agg #[.slice py y.ns.length cy, .slice qy y.es.length dy], .int .i64 n])) E := by
      intro E hE
      have sU2 := HC.out.size
      exact ⟨y, _, _, n, rfl, ⟨(HY.out.chg kU2 (fun z hz hm => by have := HYL.out z hz; simp at hm; omega)).chg hE (fun z hz hm => by have := HYL.out z hz; simp at hm; omega), fun z hz => by have := HYL.out z hz; omega, HYK.out, by have := HYN.out.1; omega, by have := HYN.out.2; omega⟩, by omega, by omega, (HKX.out.past (HC.out.trans (hE.mono (by simp))) (by simp; omega)).of0⟩
    refine hs _ ?_
    repeat (first | exact Chg.refl _ _ | refine Chg.setCell ?_ (by simp) _ | refine Chg.alloc ?_ _ | refine Chg.drew ?_)

end Go.Proofs.YtbbemeaojmfndaaDoor
