/- The walk of FnElemEmpty. -/
import Derived.Test.YtghhabailgfelaaDoorL3E
import Derived.Test.YtghhabailgfelaaDoorM6p1
import Derived.Test.YtghhabailgfelaaDoorM0p1
import Derived.Test.YtghhabailgfelaaDoorM7p1
import Derived.Test.YtghhabailgfelaaDoorM0p2
namespace Go.Proofs.YtghhabailgfelaaDoor
open Go.RowKit

set_option maxRecDepth 100000 in
set_option maxHeartbeats 16000000 in
theorem lawElemEmpty (zs : List Int) (v : Value) (w : World) (hv : Sl 1 byCells w.heap.size w v zs) (hz : ∀ z ∈ zs, 0 ≤ z ∧ z ≤ 255) (hvars : Vars w) :
    Calls Tryd.prog 6 #[v] w fun e w' => e = .returned (.bool true) ∧ Below w.heap.size w w' := by
  have HVV := Lib.hid hvars
  clear hvars
  obtain ⟨p, cap, rfl⟩ := hv.form
  have hm := hv.max
  unfold maxLen at hm
  by_cases hbig : (1048576 : Int) < zs.length
  · go_enter Tryd.func6, Tryd.ntmps6
    go_wp2_with fail
    go_ret
    exact ⟨rfl, Below.refl _ _⟩
  go_enter Tryd.func6, Tryd.ntmps6
  go_wp2_with fail
  have rw0 := Below.refl w.heap.size w
  refine Calls.mono (drawHopsFrom_any zs _ w.heap.size _ hv (Nat.le_refl _) hz) ?_
  rintro en o1 ⟨g, vg, Fg, n, ⟨yn, yv, yl, yc, yd⟩, p, c, p', c', rfl, hg, hn, hy, hb⟩
  have rwo1 := Below.trans (show Below w.heap.size w _ by assumption) (hb.mono (by omega))
  have zwo1 := rwo1.size
  obtain ⟨pg, cg, qg, dg, rfl⟩ := hg.1.form
  have hok := hg.2.2.1
  have hgl := And.intro hg.2.2.2.1 hg.2.2.2.2
  have hysm := hy.sm
  have HAU := Lib.hid (And.intro hg.1.at hy.at)
  clear hg hy
  clear hb 
  have ro10 := Below.refl o1.heap.size o1
  go_upto_region 4 with fail
  obtain ⟨W, eW⟩ : ∃ E, E = (o1.alloc (.cells #[.slice pg g.ns.length cg, .slice qg g.es.length dg] 26)).alloc (.cells #[.bool yn, .string yv, .int .i64 yl.op, .string yl.a, .slice p yl.ks.list.length c, .int .i64 yc.op, .string yc.a, .slice p' yc.ks.list.length c', .int .i64 yd] 31) := ⟨_, rfl⟩
  have kW : Below o1.heap.size o1 W := by rw [eW]; ((repeat (first | with_reducible assumption | with_reducible exact Below.refl _ _ | refine Below.setCell ?_ (by (first | omega | (simp; omega) | (simp; done) | fail "sml")) _ | refine Below.drew ?_ | refine Below.alloc ?_ (by (first | omega | (simp; omega) | (simp; done) | fail "sml")) _)); first | done | fail "chs")
  have sW : o1.heap.size + 1 < W.heap.size := by rw [eW]; simp
  have HCW := Lib.hid (show (W.cell? ⟨o1.heap.size, 0, none⟩ = some (.slice pg g.ns.length cg) ∧ W.cell? ⟨o1.heap.size, 1, none⟩ = some (.slice qg g.es.length dg) ∧ W.cell? ⟨o1.heap.size + 1, 0, none⟩ = some (.bool yn) ∧ W.cell? ⟨o1.heap.size + 1, 1, none⟩ = some (.string yv) ∧ W.cell? ⟨o1.heap.size + 1, 2, none⟩ = some (.int .i64 yl.op) ∧ W.cell? ⟨o1.heap.size + 1, 3, none⟩ = some (.string yl.a) ∧ W.cell? ⟨o1.heap.size + 1, 4, none⟩ = some (.slice p yl.ks.list.length c) ∧ W.cell? ⟨o1.heap.size + 1, 5, none⟩ = some (.int .i64 yc.op) ∧ W.cell? ⟨o1.heap.size + 1, 6, none⟩ = some (.string yc.a) ∧ W.cell? ⟨o1.heap.size + 1, 7, none⟩ = some (.slice p' yc.ks.list.length c') ∧ W.cell? ⟨o1.heap.size + 1, 8, none⟩ = some (.int .i64 yd)) ∧ ∀ i, W.frozen? ⟨o1.heap.size + 1, i, none⟩ = false from by rw [eW]; exact ⟨⟨by simp [go_sem], by simp [go_sem], by simp [go_sem], by simp [go_sem], by simp [go_sem], by simp [go_sem], by simp [go_sem], by simp [go_sem], by simp [go_sem], by simp [go_sem], by simp [go_sem]⟩, fun i => by simp [go_sem]⟩)
  have rwW := Below.trans (show Below w.heap.size w _ by ((repeat (first | with_reducible assumption | with_reducible exact Below.refl _ _ | refine Below.setCell ?_ (by (first | omega | (simp; omega) | (simp; done) | fail "sml")) _ | refine Below.drew ?_ | refine Below.alloc ?_ (by (first | omega | (simp; omega) | (simp; done) | fail "sml")) _)); first | done | fail "chs")) (kW.mono (by (first | omega | (simp; omega) | (simp; done) | fail "sml")))
  have ro1W := Below.trans (show Below o1.heap.size o1 _ by ((repeat (first | with_reducible assumption | with_reducible exact Below.refl _ _ | refine Below.setCell ?_ (by (first | omega | (simp; omega) | (simp; done) | fail "sml")) _ | refine Below.drew ?_ | refine Below.alloc ?_ (by (first | omega | (simp; omega) | (simp; done) | fail "sml")) _)); first | done | fail "chs")) (kW.mono (by (first | omega | (simp; omega) | (simp; done) | fail "sml")))
  rw [← eW]
  have HKW := Lib.hid (fun (E : World) (hE : Below W.heap.size W E) => (⟨keepc hE (by omega) HCW.out.1.1, keepc hE (by omega) HCW.out.1.2.1, keepc hE (by omega) HCW.out.1.2.2.1, keepc hE (by omega) HCW.out.1.2.2.2.1, keepc hE (by omega) HCW.out.1.2.2.2.2.1, keepc hE (by omega) HCW.out.1.2.2.2.2.2.1, keepc hE (by omega) HCW.out.1.2.2.2.2.2.2.1, keepc hE (by omega) HCW.out.1.2.2.2.2.2.2.2.1, keepc hE (by omega) HCW.out.1.2.2.2.2.2.2.2.2.1, keepc hE (by omega) HCW.out.1.2.2.2.2.2.2.2.2.2.1, keepc hE (by omega) HCW.out.1.2.2.2.2.2.2.2.2.2.2⟩ : E.cell? ⟨o1.heap.size, 0, none⟩ = some (.slice pg g.ns.length cg) ∧ E.cell? ⟨o1.heap.size, 1, none⟩ = some (.slice qg g.es.length dg) ∧ E.cell? ⟨o1.heap.size + 1, 0, none⟩ = some (.bool yn) ∧ E.cell? ⟨o1.heap.size + 1, 1, none⟩ = some (.string yv) ∧ E.cell? ⟨o1.heap.size + 1, 2, none⟩ = some (.int .i64 yl.op) ∧ E.cell? ⟨o1.heap.size + 1, 3, none⟩ = some (.string yl.a) ∧ E.cell? ⟨o1.heap.size + 1, 4, none⟩ = some (.slice p yl.ks.list.length c) ∧ E.cell? ⟨o1.heap.size + 1, 5, none⟩ = some (.int .i64 yc.op) ∧ E.cell? ⟨o1.heap.size + 1, 6, none⟩ = some (.string yc.a) ∧ E.cell? ⟨o1.heap.size + 1, 7, none⟩ = some (.slice p' yc.ks.list.length c') ∧ E.cell? ⟨o1.heap.size + 1, 8, none⟩ = some (.int .i64 yd)))
  have rW0 := Below.refl W.heap.size W
  obtain ⟨yW0, yW1, yW2, yW3, yW4, yW5, yW6, yW7, yW8, yW9, yW10⟩ := HKW.out _ rW0
  clear eW kW
  obtain ⟨R, ER⟩ : ∃ R, hopsR g n (⟨yn, yv, yl, yc, yd⟩ : El) = R := ⟨_, rfl⟩
  go_wp2_with fail
  cases EG : gv g with
  | false =>
    have q0 : ((R.length : Int) == 0) = true := by rw [← ER, hopsR_no (by rw [EG]; rfl)]; rfl
    refine Calls.mono (ER ▸ hopsFrom_any g (⟨yn, yv, yl, yc, yd⟩ : El) _ _ n o1.heap.size _ (HAU.out.1.below (show Below o1.heap.size o1 _ by assumption)) (HAU.out.2.below (show Below o1.heap.size o1 _ by assumption) (Nat.le_refl _)) (show Below o1.heap.size o1 _ by assumption).size hok hysm (HVV.out.below (show Below w.heap.size w _ by assumption))) ?_
    rintro en o2 ⟨vL, FL, rfl, hoL, hlL, hb⟩
    have rwo2 := Below.trans (show Below w.heap.size w _ by assumption) (hb.mono (by omega))
    have zwo2 := rwo2.size
    have ro1o2 := Below.trans (show Below o1.heap.size o1 _ by assumption) (hb.mono (by omega))
    have zo1o2 := ro1o2.size
    have rWo2 := Below.trans (show Below W.heap.size W _ by assumption) (hb.mono (by omega))
    have zWo2 := rWo2.size
    obtain ⟨pL, cL, rfl⟩ := hoL.sl.form
    have hmL := hoL.sl.max
    unfold maxLen at hmL
    have HSL := Lib.hid hoL.sl
    clear hoL hlL
    clear hb yW0 yW1 yW2 yW3 yW4 yW5 yW6 yW7 yW8 yW9 yW10
    obtain ⟨yW0, yW1, yW2, yW3, yW4, yW5, yW6, yW7, yW8, yW9, yW10⟩ := HKW.out _ rWo2
    have ro20 := Below.refl o2.heap.size o2
    go_wp2_with fail
    refine Calls.mono (ER ▸ specHopsFrom_any g (⟨yn, yv, yl, yc, yd⟩ : El) _ _ n o1.heap.size _ (HAU.out.1.below (show Below o1.heap.size o1 _ by assumption)) (HAU.out.2.below (show Below o1.heap.size o1 _ by assumption) (Nat.le_refl _)) (show Below o1.heap.size o1 _ by assumption).size hok hysm) ?_
    rintro en o3 ⟨vS, FS, rfl, hoS, hlS, hb⟩
    have rwo3 := Below.trans (show Below w.heap.size w _ by assumption) (hb.mono (by omega))
    have zwo3 := rwo3.size
    have ro1o3 := Below.trans (show Below o1.heap.size o1 _ by assumption) (hb.mono (by omega))
    have zo1o3 := ro1o3.size
    have rWo3 := Below.trans (show Below W.heap.size W _ by assumption) (hb.mono (by omega))
    have zWo3 := rWo3.size
    have ro2o3 := Below.trans (show Below o2.heap.size o2 _ by assumption) (hb.mono (by omega))
    have zo2o3 := ro2o3.size
    obtain ⟨pS, cS, rfl⟩ := hoS.sl.form
    have hmS := hoS.sl.max
    unfold maxLen at hmS
    have HSS := Lib.hid hoS.sl
    clear hoS hlS
    clear hb yW0 yW1 yW2 yW3 yW4 yW5 yW6 yW7 yW8 yW9 yW10
    obtain ⟨yW0, yW1, yW2, yW3, yW4, yW5, yW6, yW7, yW8, yW9, yW10⟩ := HKW.out _ rWo3
    have ro30 := Below.refl o3.heap.size o3
    go_wp2_with fail
    refine Calls.mono (gpHops_any R _ _ o3.heap.size _ ((HSL.out.below (show Below o2.heap.size o2 _ by assumption)).mono zo2o3) (HSS.out.below (show Below o3.heap.size o3 _ by assumption)) (show Below o3.heap.size o3 _ by assumption).size) ?_
    rintro en o4 ⟨rfl, hb⟩
    have rwo4 := Below.trans (show Below w.heap.size w _ by assumption) (hb.mono (by omega))
    have zwo4 := rwo4.size
    have ro1o4 := Below.trans (show Below o1.heap.size o1 _ by assumption) (hb.mono (by omega))
    have zo1o4 := ro1o4.size
    have rWo4 := Below.trans (show Below W.heap.size W _ by assumption) (hb.mono (by omega))
    have zWo4 := rWo4.size
    have ro2o4 := Below.trans (show Below o2.heap.size o2 _ by assumption) (hb.mono (by omega))
    have zo2o4 := ro2o4.size
    have ro3o4 := Below.trans (show Below o3.heap.size o3 _ by assumption) (hb.mono (by omega))
    have zo3o4 := ro3o4.size
    clear hb yW0 yW1 yW2 yW3 yW4 yW5 yW6 yW7 yW8 yW9 yW10
    obtain ⟨yW0, yW1, yW2, yW3, yW4, yW5, yW6, yW7, yW8, yW9, yW10⟩ := HKW.out _ rWo4
    go_wp2_with fail
    refine Calls.mono (EG ▸ graphValid_any g _ o1.heap.size _ (HAU.out.1.below (show Below o1.heap.size o1 _ by assumption)) (show Below o1.heap.size o1 _ by assumption).size hok) ?_
    rintro en o5 ⟨rfl, hb⟩
    have rwo5 := Below.trans (show Below w.heap.size w _ by assumption) (hb.mono (by omega))
    have zwo5 := rwo5.size
    have ro1o5 := Below.trans (show Below o1.heap.size o1 _ by assumption) (hb.mono (by omega))
    have zo1o5 := ro1o5.size
    have rWo5 := Below.trans (show Below W.heap.size W _ by assumption) (hb.mono (by omega))
    have zWo5 := rWo5.size
    have ro2o5 := Below.trans (show Below o2.heap.size o2 _ by assumption) (hb.mono (by omega))
    have zo2o5 := ro2o5.size
    have ro3o5 := Below.trans (show Below o3.heap.size o3 _ by assumption) (hb.mono (by omega))
    have zo3o5 := ro3o5.size
    clear hb yW0 yW1 yW2 yW3 yW4 yW5 yW6 yW7 yW8 yW9 yW10
    obtain ⟨yW0, yW1, yW2, yW3, yW4, yW5, yW6, yW7, yW8, yW9, yW10⟩ := HKW.out _ rWo5
    go_wp2_with fail
    refine Calls.mono (ER ▸ specHopsFrom_any g (⟨yn, yv, yl, yc, yd⟩ : El) _ _ n o1.heap.size _ (HAU.out.1.below (show Below o1.heap.size o1 _ by assumption)) (HAU.out.2.below (show Below o1.heap.size o1 _ by assumption) (Nat.le_refl _)) (show Below o1.heap.size o1 _ by assumption).size hok hysm) ?_
    rintro en o6 ⟨vZ, FZ, rfl, hoZ, hlZ, hb⟩
    have rwo6 := Below.trans (show Below w.heap.size w _ by assumption) (hb.mono (by omega))
    have zwo6 := rwo6.size
    have ro1o6 := Below.trans (show Below o1.heap.size o1 _ by assumption) (hb.mono (by omega))
    have zo1o6 := ro1o6.size
    have rWo6 := Below.trans (show Below W.heap.size W _ by assumption) (hb.mono (by omega))
    have zWo6 := rWo6.size
    have ro2o6 := Below.trans (show Below o2.heap.size o2 _ by assumption) (hb.mono (by omega))
    have zo2o6 := ro2o6.size
    have ro3o6 := Below.trans (show Below o3.heap.size o3 _ by assumption) (hb.mono (by omega))
    have zo3o6 := ro3o6.size
    obtain ⟨pZ, cZ, rfl⟩ := hoZ.sl.form
    have hmZ := hoZ.sl.max
    unfold maxLen at hmZ
    have HSZ := Lib.hid hoZ.sl
    clear hoZ hlZ
    clear hb yW0 yW1 yW2 yW3 yW4 yW5 yW6 yW7 yW8 yW9 yW10
    obtain ⟨yW0, yW1, yW2, yW3, yW4, yW5, yW6, yW7, yW8, yW9, yW10⟩ := HKW.out _ rWo6
    have ro60 := Below.refl o6.heap.size o6
    go_wp2_with fail
    refine Calls.mono (gpHops_any R _ _ o6.heap.size _ ((HSL.out.below (show Below o2.heap.size o2 _ by assumption)).mono zo2o6) (HSZ.out.below (show Below o6.heap.size o6 _ by assumption)) (show Below o6.heap.size o6 _ by assumption).size) ?_
    rintro en o7 ⟨rfl, hb⟩
    have rwo7 := Below.trans (show Below w.heap.size w _ by assumption) (hb.mono (by omega))
    have zwo7 := rwo7.size
    have ro1o7 := Below.trans (show Below o1.heap.size o1 _ by assumption) (hb.mono (by omega))
    have zo1o7 := ro1o7.size
    have rWo7 := Below.trans (show Below W.heap.size W _ by assumption) (hb.mono (by omega))
    have zWo7 := rWo7.size
    have ro2o7 := Below.trans (show Below o2.heap.size o2 _ by assumption) (hb.mono (by omega))
    have zo2o7 := ro2o7.size
    have ro3o7 := Below.trans (show Below o3.heap.size o3 _ by assumption) (hb.mono (by omega))
    have zo3o7 := ro3o7.size
    have ro6o7 := Below.trans (show Below o6.heap.size o6 _ by assumption) (hb.mono (by omega))
    have zo6o7 := ro6o7.size
    clear hb yW0 yW1 yW2 yW3 yW4 yW5 yW6 yW7 yW8 yW9 yW10
    obtain ⟨yW0, yW1, yW2, yW3, yW4, yW5, yW6, yW7, yW8, yW9, yW10⟩ := HKW.out _ rWo7
    go_wp2_with fail
    go_ret
    exact ⟨rfl, by ((repeat (first | with_reducible assumption | with_reducible exact Below.refl _ _ | refine Below.setCell ?_ (by (first | omega | (simp; omega) | (simp; done) | fail "sml")) _ | refine Below.drew ?_ | refine Below.alloc ?_ (by (first | omega | (simp; omega) | (simp; done) | fail "sml")) _)); first | done | fail "chs")⟩
  | true =>
    obtain ⟨R1, ER1⟩ : ∃ R, hopsR g n (emD 1) = R := ⟨_, rfl⟩
    obtain ⟨R2, ER2⟩ : ∃ R, hopsR g n (emD 2) = R := ⟨_, rfl⟩
    obtain ⟨O1, EO1⟩ : ∃ R, edgesOut g n = R := ⟨_, rfl⟩
    obtain ⟨O2, EO2⟩ : ∃ R, edgesIn g n = R := ⟨_, rfl⟩
    have q1 : ((R1.length : Int) == (O1.length : Int)) = true := beq_iff_eq.2 (by rw [← ER1, ← EO1, emR_len n EG])
    have q2 : ((R2.length : Int) == (O2.length : Int)) = true := beq_iff_eq.2 (by rw [← ER2, ← EO2, emL_len n EG])
    refine Calls.mono (ER ▸ hopsFrom_any g (⟨yn, yv, yl, yc, yd⟩ : El) _ _ n o1.heap.size _ (HAU.out.1.below (show Below o1.heap.size o1 _ by assumption)) (HAU.out.2.below (show Below o1.heap.size o1 _ by assumption) (Nat.le_refl _)) (show Below o1.heap.size o1 _ by assumption).size hok hysm (HVV.out.below (show Below w.heap.size w _ by assumption))) ?_
    rintro en o2 ⟨vL, FL, rfl, hoL, hlL, hb⟩
    have rwo2 := Below.trans (show Below w.heap.size w _ by assumption) (hb.mono (by omega))
    have zwo2 := rwo2.size
    have ro1o2 := Below.trans (show Below o1.heap.size o1 _ by assumption) (hb.mono (by omega))
    have zo1o2 := ro1o2.size
    have rWo2 := Below.trans (show Below W.heap.size W _ by assumption) (hb.mono (by omega))
    have zWo2 := rWo2.size
    obtain ⟨pL, cL, rfl⟩ := hoL.sl.form
    have hmL := hoL.sl.max
    unfold maxLen at hmL
    have HSL := Lib.hid hoL.sl
    clear hoL hlL
    clear hb yW0 yW1 yW2 yW3 yW4 yW5 yW6 yW7 yW8 yW9 yW10
    obtain ⟨yW0, yW1, yW2, yW3, yW4, yW5, yW6, yW7, yW8, yW9, yW10⟩ := HKW.out _ rWo2
    have ro20 := Below.refl o2.heap.size o2
    go_wp2_with fail
    refine Calls.mono (ER ▸ specHopsFrom_any g (⟨yn, yv, yl, yc, yd⟩ : El) _ _ n o1.heap.size _ (HAU.out.1.below (show Below o1.heap.size o1 _ by assumption)) (HAU.out.2.below (show Below o1.heap.size o1 _ by assumption) (Nat.le_refl _)) (show Below o1.heap.size o1 _ by assumption).size hok hysm) ?_
    rintro en o3 ⟨vS, FS, rfl, hoS, hlS, hb⟩
    have rwo3 := Below.trans (show Below w.heap.size w _ by assumption) (hb.mono (by omega))
    have zwo3 := rwo3.size
    have ro1o3 := Below.trans (show Below o1.heap.size o1 _ by assumption) (hb.mono (by omega))
    have zo1o3 := ro1o3.size
    have rWo3 := Below.trans (show Below W.heap.size W _ by assumption) (hb.mono (by omega))
    have zWo3 := rWo3.size
    have ro2o3 := Below.trans (show Below o2.heap.size o2 _ by assumption) (hb.mono (by omega))
    have zo2o3 := ro2o3.size
    obtain ⟨pS, cS, rfl⟩ := hoS.sl.form
    have hmS := hoS.sl.max
    unfold maxLen at hmS
    have HSS := Lib.hid hoS.sl
    clear hoS hlS
    clear hb yW0 yW1 yW2 yW3 yW4 yW5 yW6 yW7 yW8 yW9 yW10
    obtain ⟨yW0, yW1, yW2, yW3, yW4, yW5, yW6, yW7, yW8, yW9, yW10⟩ := HKW.out _ rWo3
    have ro30 := Below.refl o3.heap.size o3
    go_wp2_with fail
    refine Calls.mono (gpHops_any R _ _ o3.heap.size _ ((HSL.out.below (show Below o2.heap.size o2 _ by assumption)).mono zo2o3) (HSS.out.below (show Below o3.heap.size o3 _ by assumption)) (show Below o3.heap.size o3 _ by assumption).size) ?_
    rintro en o4 ⟨rfl, hb⟩
    have rwo4 := Below.trans (show Below w.heap.size w _ by assumption) (hb.mono (by omega))
    have zwo4 := rwo4.size
    have ro1o4 := Below.trans (show Below o1.heap.size o1 _ by assumption) (hb.mono (by omega))
    have zo1o4 := ro1o4.size
    have rWo4 := Below.trans (show Below W.heap.size W _ by assumption) (hb.mono (by omega))
    have zWo4 := rWo4.size
    have ro2o4 := Below.trans (show Below o2.heap.size o2 _ by assumption) (hb.mono (by omega))
    have zo2o4 := ro2o4.size
    have ro3o4 := Below.trans (show Below o3.heap.size o3 _ by assumption) (hb.mono (by omega))
    have zo3o4 := ro3o4.size
    clear hb yW0 yW1 yW2 yW3 yW4 yW5 yW6 yW7 yW8 yW9 yW10
    obtain ⟨yW0, yW1, yW2, yW3, yW4, yW5, yW6, yW7, yW8, yW9, yW10⟩ := HKW.out _ rWo4
    go_wp2_with fail
    refine Calls.mono (EG ▸ graphValid_any g _ o1.heap.size _ (HAU.out.1.below (show Below o1.heap.size o1 _ by assumption)) (show Below o1.heap.size o1 _ by assumption).size hok) ?_
    rintro en o5 ⟨rfl, hb⟩
    have rwo5 := Below.trans (show Below w.heap.size w _ by assumption) (hb.mono (by omega))
    have zwo5 := rwo5.size
    have ro1o5 := Below.trans (show Below o1.heap.size o1 _ by assumption) (hb.mono (by omega))
    have zo1o5 := ro1o5.size
    have rWo5 := Below.trans (show Below W.heap.size W _ by assumption) (hb.mono (by omega))
    have zWo5 := rWo5.size
    have ro2o5 := Below.trans (show Below o2.heap.size o2 _ by assumption) (hb.mono (by omega))
    have zo2o5 := ro2o5.size
    have ro3o5 := Below.trans (show Below o3.heap.size o3 _ by assumption) (hb.mono (by omega))
    have zo3o5 := ro3o5.size
    clear hb yW0 yW1 yW2 yW3 yW4 yW5 yW6 yW7 yW8 yW9 yW10
    obtain ⟨yW0, yW1, yW2, yW3, yW4, yW5, yW6, yW7, yW8, yW9, yW10⟩ := HKW.out _ rWo5
    go_wp2_with fail
    refine Calls.mono (ER1 ▸ hopsFrom_any g (emD 1) _ _ n o1.heap.size _ (HAU.out.1.below (show Below o1.heap.size o1 _ by assumption)) (emD_at 1 _ _) (show Below o1.heap.size o1 _ by assumption).size hok (emD_sm 1) (HVV.out.below (show Below w.heap.size w _ by assumption))) ?_
    rintro en o6 ⟨vA, FA, rfl, hoA, hlA, hb⟩
    have rwo6 := Below.trans (show Below w.heap.size w _ by assumption) (hb.mono (by omega))
    have zwo6 := rwo6.size
    have ro1o6 := Below.trans (show Below o1.heap.size o1 _ by assumption) (hb.mono (by omega))
    have zo1o6 := ro1o6.size
    have rWo6 := Below.trans (show Below W.heap.size W _ by assumption) (hb.mono (by omega))
    have zWo6 := rWo6.size
    have ro2o6 := Below.trans (show Below o2.heap.size o2 _ by assumption) (hb.mono (by omega))
    have zo2o6 := ro2o6.size
    have ro3o6 := Below.trans (show Below o3.heap.size o3 _ by assumption) (hb.mono (by omega))
    have zo3o6 := ro3o6.size
    obtain ⟨pA, cA, rfl⟩ := hoA.sl.form
    have hmA := hoA.sl.max
    unfold maxLen at hmA
    have HSA := Lib.hid hoA.sl
    clear hoA hlA
    clear hb yW0 yW1 yW2 yW3 yW4 yW5 yW6 yW7 yW8 yW9 yW10
    obtain ⟨yW0, yW1, yW2, yW3, yW4, yW5, yW6, yW7, yW8, yW9, yW10⟩ := HKW.out _ rWo6
    have ro60 := Below.refl o6.heap.size o6
    go_wp2_with fail
    refine Calls.mono (ER2 ▸ hopsFrom_any g (emD 2) _ _ n o1.heap.size _ (HAU.out.1.below (show Below o1.heap.size o1 _ by assumption)) (emD_at 2 _ _) (show Below o1.heap.size o1 _ by assumption).size hok (emD_sm 2) (HVV.out.below (show Below w.heap.size w _ by assumption))) ?_
    rintro en o7 ⟨vB, FB, rfl, hoB, hlB, hb⟩
    have rwo7 := Below.trans (show Below w.heap.size w _ by assumption) (hb.mono (by omega))
    have zwo7 := rwo7.size
    have ro1o7 := Below.trans (show Below o1.heap.size o1 _ by assumption) (hb.mono (by omega))
    have zo1o7 := ro1o7.size
    have rWo7 := Below.trans (show Below W.heap.size W _ by assumption) (hb.mono (by omega))
    have zWo7 := rWo7.size
    have ro2o7 := Below.trans (show Below o2.heap.size o2 _ by assumption) (hb.mono (by omega))
    have zo2o7 := ro2o7.size
    have ro3o7 := Below.trans (show Below o3.heap.size o3 _ by assumption) (hb.mono (by omega))
    have zo3o7 := ro3o7.size
    have ro6o7 := Below.trans (show Below o6.heap.size o6 _ by assumption) (hb.mono (by omega))
    have zo6o7 := ro6o7.size
    obtain ⟨pB, cB, rfl⟩ := hoB.sl.form
    have hmB := hoB.sl.max
    unfold maxLen at hmB
    have HSB := Lib.hid hoB.sl
    clear hoB hlB
    clear hb yW0 yW1 yW2 yW3 yW4 yW5 yW6 yW7 yW8 yW9 yW10
    obtain ⟨yW0, yW1, yW2, yW3, yW4, yW5, yW6, yW7, yW8, yW9, yW10⟩ := HKW.out _ rWo7
    have ro70 := Below.refl o7.heap.size o7
    go_wp2_with fail
    refine Calls.mono (EO1 ▸ outEdges_any g _ n o1.heap.size _ (HAU.out.1.below (show Below o1.heap.size o1 _ by assumption)) (show Below o1.heap.size o1 _ by assumption).size hok) ?_
    rintro en o8 ⟨vout, Fout, rfl, hoout, hlout, hb⟩
    have rwo8 := Below.trans (show Below w.heap.size w _ by assumption) (hb.mono (by omega))
    have zwo8 := rwo8.size
    have ro1o8 := Below.trans (show Below o1.heap.size o1 _ by assumption) (hb.mono (by omega))
    have zo1o8 := ro1o8.size
    have rWo8 := Below.trans (show Below W.heap.size W _ by assumption) (hb.mono (by omega))
    have zWo8 := rWo8.size
    have ro2o8 := Below.trans (show Below o2.heap.size o2 _ by assumption) (hb.mono (by omega))
    have zo2o8 := ro2o8.size
    have ro3o8 := Below.trans (show Below o3.heap.size o3 _ by assumption) (hb.mono (by omega))
    have zo3o8 := ro3o8.size
    have ro6o8 := Below.trans (show Below o6.heap.size o6 _ by assumption) (hb.mono (by omega))
    have zo6o8 := ro6o8.size
    have ro7o8 := Below.trans (show Below o7.heap.size o7 _ by assumption) (hb.mono (by omega))
    have zo7o8 := ro7o8.size
    obtain ⟨pout, cout, rfl⟩ := hoout.sl.form
    have hmout := hoout.sl.max
    unfold maxLen at hmout
    clear hoout hlout
    clear hb yW0 yW1 yW2 yW3 yW4 yW5 yW6 yW7 yW8 yW9 yW10
    obtain ⟨yW0, yW1, yW2, yW3, yW4, yW5, yW6, yW7, yW8, yW9, yW10⟩ := HKW.out _ rWo8
    go_wp2_with fail
    refine Calls.mono (EO2 ▸ inEdges_any g _ n o1.heap.size _ (HAU.out.1.below (show Below o1.heap.size o1 _ by assumption)) (show Below o1.heap.size o1 _ by assumption).size hok) ?_
    rintro en o9 ⟨vin, Fin, rfl, hoin, hlin, hb⟩
    have rwo9 := Below.trans (show Below w.heap.size w _ by assumption) (hb.mono (by omega))
    have zwo9 := rwo9.size
    have ro1o9 := Below.trans (show Below o1.heap.size o1 _ by assumption) (hb.mono (by omega))
    have zo1o9 := ro1o9.size
    have rWo9 := Below.trans (show Below W.heap.size W _ by assumption) (hb.mono (by omega))
    have zWo9 := rWo9.size
    have ro2o9 := Below.trans (show Below o2.heap.size o2 _ by assumption) (hb.mono (by omega))
    have zo2o9 := ro2o9.size
    have ro3o9 := Below.trans (show Below o3.heap.size o3 _ by assumption) (hb.mono (by omega))
    have zo3o9 := ro3o9.size
    have ro6o9 := Below.trans (show Below o6.heap.size o6 _ by assumption) (hb.mono (by omega))
    have zo6o9 := ro6o9.size
    have ro7o9 := Below.trans (show Below o7.heap.size o7 _ by assumption) (hb.mono (by omega))
    have zo7o9 := ro7o9.size
    obtain ⟨pin, cin, rfl⟩ := hoin.sl.form
    have hmin := hoin.sl.max
    unfold maxLen at hmin
    clear hoin hlin
    clear hb yW0 yW1 yW2 yW3 yW4 yW5 yW6 yW7 yW8 yW9 yW10
    obtain ⟨yW0, yW1, yW2, yW3, yW4, yW5, yW6, yW7, yW8, yW9, yW10⟩ := HKW.out _ rWo9
    go_wp2_with fail
    go_ret
    exact ⟨rfl, by ((repeat (first | with_reducible assumption | with_reducible exact Below.refl _ _ | refine Below.setCell ?_ (by (first | omega | (simp; omega) | (simp; done) | fail "sml")) _ | refine Below.drew ?_ | refine Below.alloc ?_ (by (first | omega | (simp; omega) | (simp; done) | fail "sml")) _)); first | done | fail "chs")⟩
end Go.Proofs.YtghhabailgfelaaDoor
