/- The walk of FnHopsAny. -/
import Derived.Test.YtghhabailgfelaaDoorL3E
import Derived.Test.YtghhabailgfelaaDoorM6p1
import Derived.Test.YtghhabailgfelaaDoorM0p1
import Derived.Test.YtghhabailgfelaaDoorM7p1
import Derived.Test.YtghhabailgfelaaDoorM0p2
namespace Go.Proofs.YtghhabailgfelaaDoor
open Go.RowKit

set_option maxRecDepth 100000 in
set_option maxHeartbeats 16000000 in
theorem lawHopsAny (zs : List Int) (v : Value) (w : World) (hv : Sl 1 byCells w.heap.size w v zs) (hz : ∀ z ∈ zs, 0 ≤ z ∧ z ≤ 255) (hvars : Vars w) :
    Calls Tryd.prog 7 #[v] w fun e w' => e = .returned (.bool true) ∧ Below w.heap.size w w' := by
  have HVV := Lib.hid hvars
  clear hvars
  obtain ⟨p, cap, rfl⟩ := hv.form
  have hm := hv.max
  unfold maxLen at hm
  by_cases hbig : (1048576 : Int) < zs.length
  · go_enter Tryd.func7, Tryd.ntmps7
    go_wp2_with fail
    go_ret
    exact ⟨rfl, Below.refl _ _⟩
  go_enter Tryd.func7, Tryd.ntmps7
  go_wp2_with fail
  have rw0 := Below.refl w.heap.size w
  refine Calls.mono (drawHopsFrom_any zs _ w.heap.size _ hv (Nat.le_refl _) hz) ?_
  rintro en o1 ⟨g, vg, Fg, n, ⟨yn, yv, yl, yc, yd⟩, p, c, p', c', rfl, hg, hn, hy, hb⟩
  have rwo1 := Below.trans (show Below w.heap.size w _ by assumption) (hb.mono (by omega))
  have zwo1 := rwo1.size
  obtain ⟨pg, cg, qg, dg, rfl⟩ := hg.1.form
  have hok := hg.2.2.1
  have hgl := And.intro hg.2.2.2.1 hg.2.2.2.2
  have hysm := hy.sm
  have HAU := Lib.hid (And.intro hg.1.at hy.at)
  clear hg hy
  clear hb 
  have ro10 := Below.refl o1.heap.size o1
  cases EE : elemV (⟨yn, yv, yl, yc, yd⟩ : El) with
  | false =>
    go_upto_region 4 with fail
    obtain ⟨W, eW⟩ : ∃ E, E = (o1.alloc (.cells #[.slice pg g.ns.length cg, .slice qg g.es.length dg] 26)).alloc (.cells #[.bool yn, .string yv, .int .i64 yl.op, .string yl.a, .slice p yl.ks.list.length c, .int .i64 yc.op, .string yc.a, .slice p' yc.ks.list.length c', .int .i64 yd] 31) := ⟨_, rfl⟩
    have kW : Below o1.heap.size o1 W := by rw [eW]; ((repeat (first | with_reducible assumption | with_reducible exact Below.refl _ _ | refine Below.setCell ?_ (by (first | omega | (simp; omega) | (simp; done) | fail "sml")) _ | refine Below.drew ?_ | refine Below.alloc ?_ (by (first | omega | (simp; omega) | (simp; done) | fail "sml")) _)); first | done | fail "chs")
    have sW : o1.heap.size + 1 < W.heap.size := by rw [eW]; simp
    have HCW := Lib.hid (show (W.cell? ⟨o1.heap.size, 0, none⟩ = some (.slice pg g.ns.length cg) ∧ W.cell? ⟨o1.heap.size, 1, none⟩ = some (.slice qg g.es.length dg) ∧ W.cell? ⟨o1.heap.size + 1, 0, none⟩ = some (.bool yn) ∧ W.cell? ⟨o1.heap.size + 1, 1, none⟩ = some (.string yv) ∧ W.cell? ⟨o1.heap.size + 1, 2, none⟩ = some (.int .i64 yl.op) ∧ W.cell? ⟨o1.heap.size + 1, 3, none⟩ = some (.string yl.a) ∧ W.cell? ⟨o1.heap.size + 1, 4, none⟩ = some (.slice p yl.ks.list.length c) ∧ W.cell? ⟨o1.heap.size + 1, 5, none⟩ = some (.int .i64 yc.op) ∧ W.cell? ⟨o1.heap.size + 1, 6, none⟩ = some (.string yc.a) ∧ W.cell? ⟨o1.heap.size + 1, 7, none⟩ = some (.slice p' yc.ks.list.length c') ∧ W.cell? ⟨o1.heap.size + 1, 8, none⟩ = some (.int .i64 yd)) ∧ ∀ i, W.frozen? ⟨o1.heap.size + 1, i, none⟩ = false from by rw [eW]; exact ⟨⟨by simp [go_sem], by simp [go_sem], by simp [go_sem], by simp [go_sem], by simp [go_sem], by simp [go_sem], by simp [go_sem], by simp [go_sem], by simp [go_sem], by simp [go_sem], by simp [go_sem]⟩, fun i => by simp [go_sem]⟩)
    have rwW := Below.trans (show Below w.heap.size w _ by ((repeat (first | with_reducible assumption | with_reducible exact Below.refl _ _ | refine Below.setCell ?_ (by (first | omega | (simp; omega) | (simp; done) | fail "sml")) _ | refine Below.drew ?_ | refine Below.alloc ?_ (by (first | omega | (simp; omega) | (simp; done) | fail "sml")) _)); first | done | fail "chs")) (kW.mono (by (first | omega | (simp; omega) | (simp; done) | fail "sml")))
    have ro1W := Below.trans (show Below o1.heap.size o1 _ by ((repeat (first | with_reducible assumption | with_reducible exact Below.refl _ _ | refine Below.setCell ?_ (by (first | omega | (simp; omega) | (simp; done) | fail "sml")) _ | refine Below.drew ?_ | refine Below.alloc ?_ (by (first | omega | (simp; omega) | (simp; done) | fail "sml")) _)); first | done | fail "chs")) (kW.mono (by (first | omega | (simp; omega) | (simp; done) | fail "sml")))
    rw [← eW]
    have HKW := Lib.hid (fun (E : World) (hE : Below W.heap.size W E) => (⟨keepc hE (by omega) HCW.out.1.1, keepc hE (by omega) HCW.out.1.2.1, keepc hE (by omega) HCW.out.1.2.2.1, keepc hE (by omega) HCW.out.1.2.2.2.1, keepc hE (by omega) HCW.out.1.2.2.2.2.1, keepc hE (by omega) HCW.out.1.2.2.2.2.2.1, keepc hE (by omega) HCW.out.1.2.2.2.2.2.2.1, keepc hE (by omega) HCW.out.1.2.2.2.2.2.2.2.1, keepc hE (by omega) HCW.out.1.2.2.2.2.2.2.2.2.1, keepc hE (by omega) HCW.out.1.2.2.2.2.2.2.2.2.2.1, keepc hE (by omega) HCW.out.1.2.2.2.2.2.2.2.2.2.2⟩ : E.cell? ⟨o1.heap.size, 0, none⟩ = some (.slice pg g.ns.length cg) ∧ E.cell? ⟨o1.heap.size, 1, none⟩ = some (.slice qg g.es.length dg) ∧ E.cell? ⟨o1.heap.size + 1, 0, none⟩ = some (.bool yn) ∧ E.cell? ⟨o1.heap.size + 1, 1, none⟩ = some (.string yv) ∧ E.cell? ⟨o1.heap.size + 1, 2, none⟩ = some (.int .i64 yl.op) ∧ E.cell? ⟨o1.heap.size + 1, 3, none⟩ = some (.string yl.a) ∧ E.cell? ⟨o1.heap.size + 1, 4, none⟩ = some (.slice p yl.ks.list.length c) ∧ E.cell? ⟨o1.heap.size + 1, 5, none⟩ = some (.int .i64 yc.op) ∧ E.cell? ⟨o1.heap.size + 1, 6, none⟩ = some (.string yc.a) ∧ E.cell? ⟨o1.heap.size + 1, 7, none⟩ = some (.slice p' yc.ks.list.length c') ∧ E.cell? ⟨o1.heap.size + 1, 8, none⟩ = some (.int .i64 yd)))
    have rW0 := Below.refl W.heap.size W
    obtain ⟨yW0, yW1, yW2, yW3, yW4, yW5, yW6, yW7, yW8, yW9, yW10⟩ := HKW.out _ rW0
    clear eW kW
    obtain ⟨R, ER⟩ : ∃ R, hopsR g n (⟨yn, yv, yl, yc, yd⟩ : El) = R := ⟨_, rfl⟩
    go_wp2_with fail
    refine Calls.mono (ER ▸ hopsFrom_any g (⟨yn, yv, yl, yc, yd⟩ : El) _ _ n o1.heap.size _ (HAU.out.1.below (show Below o1.heap.size o1 _ by assumption)) (HAU.out.2.below (show Below o1.heap.size o1 _ by assumption) (Nat.le_refl _)) (show Below o1.heap.size o1 _ by assumption).size hok hysm (HVV.out.below (show Below w.heap.size w _ by assumption))) ?_
    rintro en o2 ⟨vL, FL, rfl, hoL, hlL, hb⟩
    have rwo2 := Below.trans (show Below w.heap.size w _ by assumption) (hb.mono (by omega))
    have zwo2 := rwo2.size
    have ro1o2 := Below.trans (show Below o1.heap.size o1 _ by assumption) (hb.mono (by omega))
    have zo1o2 := ro1o2.size
    have rWo2 := Below.trans (show Below W.heap.size W _ by assumption) (hb.mono (by omega))
    have zWo2 := rWo2.size
    obtain ⟨pL, cL, rfl⟩ := hoL.sl.form
    have hmL := hoL.sl.max
    unfold maxLen at hmL
    have HSL := Lib.hid hoL.sl
    clear hoL hlL
    clear hb yW0 yW1 yW2 yW3 yW4 yW5 yW6 yW7 yW8 yW9 yW10
    obtain ⟨yW0, yW1, yW2, yW3, yW4, yW5, yW6, yW7, yW8, yW9, yW10⟩ := HKW.out _ rWo2
    have ro20 := Below.refl o2.heap.size o2
    go_wp2_with fail
    refine Calls.mono (ER ▸ specHopsFrom_any g (⟨yn, yv, yl, yc, yd⟩ : El) _ _ n o1.heap.size _ (HAU.out.1.below (show Below o1.heap.size o1 _ by assumption)) (HAU.out.2.below (show Below o1.heap.size o1 _ by assumption) (Nat.le_refl _)) (show Below o1.heap.size o1 _ by assumption).size hok hysm) ?_
    rintro en o3 ⟨vS, FS, rfl, hoS, hlS, hb⟩
    have rwo3 := Below.trans (show Below w.heap.size w _ by assumption) (hb.mono (by omega))
    have zwo3 := rwo3.size
    have ro1o3 := Below.trans (show Below o1.heap.size o1 _ by assumption) (hb.mono (by omega))
    have zo1o3 := ro1o3.size
    have rWo3 := Below.trans (show Below W.heap.size W _ by assumption) (hb.mono (by omega))
    have zWo3 := rWo3.size
    have ro2o3 := Below.trans (show Below o2.heap.size o2 _ by assumption) (hb.mono (by omega))
    have zo2o3 := ro2o3.size
    obtain ⟨pS, cS, rfl⟩ := hoS.sl.form
    have hmS := hoS.sl.max
    unfold maxLen at hmS
    have HSS := Lib.hid hoS.sl
    clear hoS hlS
    clear hb yW0 yW1 yW2 yW3 yW4 yW5 yW6 yW7 yW8 yW9 yW10
    obtain ⟨yW0, yW1, yW2, yW3, yW4, yW5, yW6, yW7, yW8, yW9, yW10⟩ := HKW.out _ rWo3
    have ro30 := Below.refl o3.heap.size o3
    go_wp2_with fail
    refine Calls.mono (gpHops_any R _ _ o3.heap.size _ ((HSL.out.below (show Below o2.heap.size o2 _ by assumption)).mono zo2o3) (HSS.out.below (show Below o3.heap.size o3 _ by assumption)) (show Below o3.heap.size o3 _ by assumption).size) ?_
    rintro en o4 ⟨rfl, hb⟩
    have rwo4 := Below.trans (show Below w.heap.size w _ by assumption) (hb.mono (by omega))
    have zwo4 := rwo4.size
    have ro1o4 := Below.trans (show Below o1.heap.size o1 _ by assumption) (hb.mono (by omega))
    have zo1o4 := ro1o4.size
    have rWo4 := Below.trans (show Below W.heap.size W _ by assumption) (hb.mono (by omega))
    have zWo4 := rWo4.size
    have ro2o4 := Below.trans (show Below o2.heap.size o2 _ by assumption) (hb.mono (by omega))
    have zo2o4 := ro2o4.size
    have ro3o4 := Below.trans (show Below o3.heap.size o3 _ by assumption) (hb.mono (by omega))
    have zo3o4 := ro3o4.size
    clear hb yW0 yW1 yW2 yW3 yW4 yW5 yW6 yW7 yW8 yW9 yW10
    obtain ⟨yW0, yW1, yW2, yW3, yW4, yW5, yW6, yW7, yW8, yW9, yW10⟩ := HKW.out _ rWo4
    go_wp2_with fail
    refine Calls.mono (EE ▸ elemValid_any (⟨yn, yv, yl, yc, yd⟩ : El) _ o1.heap.size _ (HAU.out.2.below (show Below o1.heap.size o1 _ by assumption) (Nat.le_refl _)) (show Below o1.heap.size o1 _ by assumption).size hysm (HVV.out.below (show Below w.heap.size w _ by assumption))) ?_
    rintro en o5 ⟨rfl, hb⟩
    have rwo5 := Below.trans (show Below w.heap.size w _ by assumption) (hb.mono (by omega))
    have zwo5 := rwo5.size
    have ro1o5 := Below.trans (show Below o1.heap.size o1 _ by assumption) (hb.mono (by omega))
    have zo1o5 := ro1o5.size
    have rWo5 := Below.trans (show Below W.heap.size W _ by assumption) (hb.mono (by omega))
    have zWo5 := rWo5.size
    have ro2o5 := Below.trans (show Below o2.heap.size o2 _ by assumption) (hb.mono (by omega))
    have zo2o5 := ro2o5.size
    have ro3o5 := Below.trans (show Below o3.heap.size o3 _ by assumption) (hb.mono (by omega))
    have zo3o5 := ro3o5.size
    clear hb yW0 yW1 yW2 yW3 yW4 yW5 yW6 yW7 yW8 yW9 yW10
    obtain ⟨yW0, yW1, yW2, yW3, yW4, yW5, yW6, yW7, yW8, yW9, yW10⟩ := HKW.out _ rWo5
    go_wp2_with fail
    refine Calls.mono (ER ▸ specHopsFrom_any g (⟨yn, yv, yl, yc, yd⟩ : El) _ _ n o1.heap.size _ (HAU.out.1.below (show Below o1.heap.size o1 _ by assumption)) (HAU.out.2.below (show Below o1.heap.size o1 _ by assumption) (Nat.le_refl _)) (show Below o1.heap.size o1 _ by assumption).size hok hysm) ?_
    rintro en o6 ⟨vZ, FZ, rfl, hoZ, hlZ, hb⟩
    have rwo6 := Below.trans (show Below w.heap.size w _ by assumption) (hb.mono (by omega))
    have zwo6 := rwo6.size
    have ro1o6 := Below.trans (show Below o1.heap.size o1 _ by assumption) (hb.mono (by omega))
    have zo1o6 := ro1o6.size
    have rWo6 := Below.trans (show Below W.heap.size W _ by assumption) (hb.mono (by omega))
    have zWo6 := rWo6.size
    have ro2o6 := Below.trans (show Below o2.heap.size o2 _ by assumption) (hb.mono (by omega))
    have zo2o6 := ro2o6.size
    have ro3o6 := Below.trans (show Below o3.heap.size o3 _ by assumption) (hb.mono (by omega))
    have zo3o6 := ro3o6.size
    obtain ⟨pZ, cZ, rfl⟩ := hoZ.sl.form
    have hmZ := hoZ.sl.max
    unfold maxLen at hmZ
    have HSZ := Lib.hid hoZ.sl
    clear hoZ hlZ
    clear hb yW0 yW1 yW2 yW3 yW4 yW5 yW6 yW7 yW8 yW9 yW10
    obtain ⟨yW0, yW1, yW2, yW3, yW4, yW5, yW6, yW7, yW8, yW9, yW10⟩ := HKW.out _ rWo6
    have ro60 := Below.refl o6.heap.size o6
    go_wp2_with fail
    refine Calls.mono (gpHops_any R _ _ o6.heap.size _ ((HSL.out.below (show Below o2.heap.size o2 _ by assumption)).mono zo2o6) (HSZ.out.below (show Below o6.heap.size o6 _ by assumption)) (show Below o6.heap.size o6 _ by assumption).size) ?_
    rintro en o7 ⟨rfl, hb⟩
    have rwo7 := Below.trans (show Below w.heap.size w _ by assumption) (hb.mono (by omega))
    have zwo7 := rwo7.size
    have ro1o7 := Below.trans (show Below o1.heap.size o1 _ by assumption) (hb.mono (by omega))
    have zo1o7 := ro1o7.size
    have rWo7 := Below.trans (show Below W.heap.size W _ by assumption) (hb.mono (by omega))
    have zWo7 := rWo7.size
    have ro2o7 := Below.trans (show Below o2.heap.size o2 _ by assumption) (hb.mono (by omega))
    have zo2o7 := ro2o7.size
    have ro3o7 := Below.trans (show Below o3.heap.size o3 _ by assumption) (hb.mono (by omega))
    have zo3o7 := ro3o7.size
    have ro6o7 := Below.trans (show Below o6.heap.size o6 _ by assumption) (hb.mono (by omega))
    have zo6o7 := ro6o7.size
    clear hb yW0 yW1 yW2 yW3 yW4 yW5 yW6 yW7 yW8 yW9 yW10
    obtain ⟨yW0, yW1, yW2, yW3, yW4, yW5, yW6, yW7, yW8, yW9, yW10⟩ := HKW.out _ rWo7
    go_wp2_with fail
    go_ret
    exact ⟨rfl, by ((repeat (first | with_reducible assumption | with_reducible exact Below.refl _ _ | refine Below.setCell ?_ (by (first | omega | (simp; omega) | (simp; done) | fail "sml")) _ | refine Below.drew ?_ | refine Below.alloc ?_ (by (first | omega | (simp; omega) | (simp; done) | fail "sml")) _)); first | done | fail "chs")⟩
  | true =>
    cases yn with
    | true =>
      go_upto_region 4 with fail
      obtain ⟨W, eW⟩ : ∃ E, E = (o1.alloc (.cells #[.slice pg g.ns.length cg, .slice qg g.es.length dg] 26)).alloc (.cells #[.bool true, .string yv, .int .i64 yl.op, .string yl.a, .slice p yl.ks.list.length c, .int .i64 yc.op, .string yc.a, .slice p' yc.ks.list.length c', .int .i64 yd] 31) := ⟨_, rfl⟩
      have kW : Below o1.heap.size o1 W := by rw [eW]; ((repeat (first | with_reducible assumption | with_reducible exact Below.refl _ _ | refine Below.setCell ?_ (by (first | omega | (simp; omega) | (simp; done) | fail "sml")) _ | refine Below.drew ?_ | refine Below.alloc ?_ (by (first | omega | (simp; omega) | (simp; done) | fail "sml")) _)); first | done | fail "chs")
      have sW : o1.heap.size + 1 < W.heap.size := by rw [eW]; simp
      have HCW := Lib.hid (show (W.cell? ⟨o1.heap.size, 0, none⟩ = some (.slice pg g.ns.length cg) ∧ W.cell? ⟨o1.heap.size, 1, none⟩ = some (.slice qg g.es.length dg) ∧ W.cell? ⟨o1.heap.size + 1, 0, none⟩ = some (.bool true) ∧ W.cell? ⟨o1.heap.size + 1, 1, none⟩ = some (.string yv) ∧ W.cell? ⟨o1.heap.size + 1, 2, none⟩ = some (.int .i64 yl.op) ∧ W.cell? ⟨o1.heap.size + 1, 3, none⟩ = some (.string yl.a) ∧ W.cell? ⟨o1.heap.size + 1, 4, none⟩ = some (.slice p yl.ks.list.length c) ∧ W.cell? ⟨o1.heap.size + 1, 5, none⟩ = some (.int .i64 yc.op) ∧ W.cell? ⟨o1.heap.size + 1, 6, none⟩ = some (.string yc.a) ∧ W.cell? ⟨o1.heap.size + 1, 7, none⟩ = some (.slice p' yc.ks.list.length c') ∧ W.cell? ⟨o1.heap.size + 1, 8, none⟩ = some (.int .i64 yd)) ∧ ∀ i, W.frozen? ⟨o1.heap.size + 1, i, none⟩ = false from by rw [eW]; exact ⟨⟨by simp [go_sem], by simp [go_sem], by simp [go_sem], by simp [go_sem], by simp [go_sem], by simp [go_sem], by simp [go_sem], by simp [go_sem], by simp [go_sem], by simp [go_sem], by simp [go_sem]⟩, fun i => by simp [go_sem]⟩)
      have rwW := Below.trans (show Below w.heap.size w _ by ((repeat (first | with_reducible assumption | with_reducible exact Below.refl _ _ | refine Below.setCell ?_ (by (first | omega | (simp; omega) | (simp; done) | fail "sml")) _ | refine Below.drew ?_ | refine Below.alloc ?_ (by (first | omega | (simp; omega) | (simp; done) | fail "sml")) _)); first | done | fail "chs")) (kW.mono (by (first | omega | (simp; omega) | (simp; done) | fail "sml")))
      have ro1W := Below.trans (show Below o1.heap.size o1 _ by ((repeat (first | with_reducible assumption | with_reducible exact Below.refl _ _ | refine Below.setCell ?_ (by (first | omega | (simp; omega) | (simp; done) | fail "sml")) _ | refine Below.drew ?_ | refine Below.alloc ?_ (by (first | omega | (simp; omega) | (simp; done) | fail "sml")) _)); first | done | fail "chs")) (kW.mono (by (first | omega | (simp; omega) | (simp; done) | fail "sml")))
      rw [← eW]
      have HKW := Lib.hid (fun (E : World) (hE : Below W.heap.size W E) => (⟨keepc hE (by omega) HCW.out.1.1, keepc hE (by omega) HCW.out.1.2.1, keepc hE (by omega) HCW.out.1.2.2.1, keepc hE (by omega) HCW.out.1.2.2.2.1, keepc hE (by omega) HCW.out.1.2.2.2.2.1, keepc hE (by omega) HCW.out.1.2.2.2.2.2.1, keepc hE (by omega) HCW.out.1.2.2.2.2.2.2.1, keepc hE (by omega) HCW.out.1.2.2.2.2.2.2.2.1, keepc hE (by omega) HCW.out.1.2.2.2.2.2.2.2.2.1, keepc hE (by omega) HCW.out.1.2.2.2.2.2.2.2.2.2.1, keepc hE (by omega) HCW.out.1.2.2.2.2.2.2.2.2.2.2⟩ : E.cell? ⟨o1.heap.size, 0, none⟩ = some (.slice pg g.ns.length cg) ∧ E.cell? ⟨o1.heap.size, 1, none⟩ = some (.slice qg g.es.length dg) ∧ E.cell? ⟨o1.heap.size + 1, 0, none⟩ = some (.bool true) ∧ E.cell? ⟨o1.heap.size + 1, 1, none⟩ = some (.string yv) ∧ E.cell? ⟨o1.heap.size + 1, 2, none⟩ = some (.int .i64 yl.op) ∧ E.cell? ⟨o1.heap.size + 1, 3, none⟩ = some (.string yl.a) ∧ E.cell? ⟨o1.heap.size + 1, 4, none⟩ = some (.slice p yl.ks.list.length c) ∧ E.cell? ⟨o1.heap.size + 1, 5, none⟩ = some (.int .i64 yc.op) ∧ E.cell? ⟨o1.heap.size + 1, 6, none⟩ = some (.string yc.a) ∧ E.cell? ⟨o1.heap.size + 1, 7, none⟩ = some (.slice p' yc.ks.list.length c') ∧ E.cell? ⟨o1.heap.size + 1, 8, none⟩ = some (.int .i64 yd)))
      have rW0 := Below.refl W.heap.size W
      obtain ⟨yW0, yW1, yW2, yW3, yW4, yW5, yW6, yW7, yW8, yW9, yW10⟩ := HKW.out _ rW0
      clear eW kW
      obtain ⟨R, ER⟩ : ∃ R, hopsR g n (⟨true, yv, yl, yc, yd⟩ : El) = R := ⟨_, rfl⟩
      go_wp2_with fail
      refine Calls.mono (ER ▸ hopsFrom_any g (⟨true, yv, yl, yc, yd⟩ : El) _ _ n o1.heap.size _ (HAU.out.1.below (show Below o1.heap.size o1 _ by assumption)) (HAU.out.2.below (show Below o1.heap.size o1 _ by assumption) (Nat.le_refl _)) (show Below o1.heap.size o1 _ by assumption).size hok hysm (HVV.out.below (show Below w.heap.size w _ by assumption))) ?_
      rintro en o2 ⟨vL, FL, rfl, hoL, hlL, hb⟩
      have rwo2 := Below.trans (show Below w.heap.size w _ by assumption) (hb.mono (by omega))
      have zwo2 := rwo2.size
      have ro1o2 := Below.trans (show Below o1.heap.size o1 _ by assumption) (hb.mono (by omega))
      have zo1o2 := ro1o2.size
      have rWo2 := Below.trans (show Below W.heap.size W _ by assumption) (hb.mono (by omega))
      have zWo2 := rWo2.size
      obtain ⟨pL, cL, rfl⟩ := hoL.sl.form
      have hmL := hoL.sl.max
      unfold maxLen at hmL
      have HSL := Lib.hid hoL.sl
      clear hoL hlL
      clear hb yW0 yW1 yW2 yW3 yW4 yW5 yW6 yW7 yW8 yW9 yW10
      obtain ⟨yW0, yW1, yW2, yW3, yW4, yW5, yW6, yW7, yW8, yW9, yW10⟩ := HKW.out _ rWo2
      have ro20 := Below.refl o2.heap.size o2
      go_wp2_with fail
      refine Calls.mono (ER ▸ specHopsFrom_any g (⟨true, yv, yl, yc, yd⟩ : El) _ _ n o1.heap.size _ (HAU.out.1.below (show Below o1.heap.size o1 _ by assumption)) (HAU.out.2.below (show Below o1.heap.size o1 _ by assumption) (Nat.le_refl _)) (show Below o1.heap.size o1 _ by assumption).size hok hysm) ?_
      rintro en o3 ⟨vS, FS, rfl, hoS, hlS, hb⟩
      have rwo3 := Below.trans (show Below w.heap.size w _ by assumption) (hb.mono (by omega))
      have zwo3 := rwo3.size
      have ro1o3 := Below.trans (show Below o1.heap.size o1 _ by assumption) (hb.mono (by omega))
      have zo1o3 := ro1o3.size
      have rWo3 := Below.trans (show Below W.heap.size W _ by assumption) (hb.mono (by omega))
      have zWo3 := rWo3.size
      have ro2o3 := Below.trans (show Below o2.heap.size o2 _ by assumption) (hb.mono (by omega))
      have zo2o3 := ro2o3.size
      obtain ⟨pS, cS, rfl⟩ := hoS.sl.form
      have hmS := hoS.sl.max
      unfold maxLen at hmS
      have HSS := Lib.hid hoS.sl
      clear hoS hlS
      clear hb yW0 yW1 yW2 yW3 yW4 yW5 yW6 yW7 yW8 yW9 yW10
      obtain ⟨yW0, yW1, yW2, yW3, yW4, yW5, yW6, yW7, yW8, yW9, yW10⟩ := HKW.out _ rWo3
      have ro30 := Below.refl o3.heap.size o3
      go_wp2_with fail
      refine Calls.mono (gpHops_any R _ _ o3.heap.size _ ((HSL.out.below (show Below o2.heap.size o2 _ by assumption)).mono zo2o3) (HSS.out.below (show Below o3.heap.size o3 _ by assumption)) (show Below o3.heap.size o3 _ by assumption).size) ?_
      rintro en o4 ⟨rfl, hb⟩
      have rwo4 := Below.trans (show Below w.heap.size w _ by assumption) (hb.mono (by omega))
      have zwo4 := rwo4.size
      have ro1o4 := Below.trans (show Below o1.heap.size o1 _ by assumption) (hb.mono (by omega))
      have zo1o4 := ro1o4.size
      have rWo4 := Below.trans (show Below W.heap.size W _ by assumption) (hb.mono (by omega))
      have zWo4 := rWo4.size
      have ro2o4 := Below.trans (show Below o2.heap.size o2 _ by assumption) (hb.mono (by omega))
      have zo2o4 := ro2o4.size
      have ro3o4 := Below.trans (show Below o3.heap.size o3 _ by assumption) (hb.mono (by omega))
      have zo3o4 := ro3o4.size
      clear hb yW0 yW1 yW2 yW3 yW4 yW5 yW6 yW7 yW8 yW9 yW10
      obtain ⟨yW0, yW1, yW2, yW3, yW4, yW5, yW6, yW7, yW8, yW9, yW10⟩ := HKW.out _ rWo4
      go_wp2_with fail
      refine Calls.mono (EE ▸ elemValid_any (⟨true, yv, yl, yc, yd⟩ : El) _ o1.heap.size _ (HAU.out.2.below (show Below o1.heap.size o1 _ by assumption) (Nat.le_refl _)) (show Below o1.heap.size o1 _ by assumption).size hysm (HVV.out.below (show Below w.heap.size w _ by assumption))) ?_
      rintro en o5 ⟨rfl, hb⟩
      have rwo5 := Below.trans (show Below w.heap.size w _ by assumption) (hb.mono (by omega))
      have zwo5 := rwo5.size
      have ro1o5 := Below.trans (show Below o1.heap.size o1 _ by assumption) (hb.mono (by omega))
      have zo1o5 := ro1o5.size
      have rWo5 := Below.trans (show Below W.heap.size W _ by assumption) (hb.mono (by omega))
      have zWo5 := rWo5.size
      have ro2o5 := Below.trans (show Below o2.heap.size o2 _ by assumption) (hb.mono (by omega))
      have zo2o5 := ro2o5.size
      have ro3o5 := Below.trans (show Below o3.heap.size o3 _ by assumption) (hb.mono (by omega))
      have zo3o5 := ro3o5.size
      clear hb yW0 yW1 yW2 yW3 yW4 yW5 yW6 yW7 yW8 yW9 yW10
      obtain ⟨yW0, yW1, yW2, yW3, yW4, yW5, yW6, yW7, yW8, yW9, yW10⟩ := HKW.out _ rWo5
      go_wp2_with fail
      refine Calls.mono (ER ▸ specHopsFrom_any g (⟨true, yv, yl, yc, yd⟩ : El) _ _ n o1.heap.size _ (HAU.out.1.below (show Below o1.heap.size o1 _ by assumption)) (HAU.out.2.below (show Below o1.heap.size o1 _ by assumption) (Nat.le_refl _)) (show Below o1.heap.size o1 _ by assumption).size hok hysm) ?_
      rintro en o6 ⟨vZ, FZ, rfl, hoZ, hlZ, hb⟩
      have rwo6 := Below.trans (show Below w.heap.size w _ by assumption) (hb.mono (by omega))
      have zwo6 := rwo6.size
      have ro1o6 := Below.trans (show Below o1.heap.size o1 _ by assumption) (hb.mono (by omega))
      have zo1o6 := ro1o6.size
      have rWo6 := Below.trans (show Below W.heap.size W _ by assumption) (hb.mono (by omega))
      have zWo6 := rWo6.size
      have ro2o6 := Below.trans (show Below o2.heap.size o2 _ by assumption) (hb.mono (by omega))
      have zo2o6 := ro2o6.size
      have ro3o6 := Below.trans (show Below o3.heap.size o3 _ by assumption) (hb.mono (by omega))
      have zo3o6 := ro3o6.size
      obtain ⟨pZ, cZ, rfl⟩ := hoZ.sl.form
      have hmZ := hoZ.sl.max
      unfold maxLen at hmZ
      have HSZ := Lib.hid hoZ.sl
      clear hoZ hlZ
      clear hb yW0 yW1 yW2 yW3 yW4 yW5 yW6 yW7 yW8 yW9 yW10
      obtain ⟨yW0, yW1, yW2, yW3, yW4, yW5, yW6, yW7, yW8, yW9, yW10⟩ := HKW.out _ rWo6
      have ro60 := Below.refl o6.heap.size o6
      go_wp2_with fail
      refine Calls.mono (gpHops_any R _ _ o6.heap.size _ ((HSL.out.below (show Below o2.heap.size o2 _ by assumption)).mono zo2o6) (HSZ.out.below (show Below o6.heap.size o6 _ by assumption)) (show Below o6.heap.size o6 _ by assumption).size) ?_
      rintro en o7 ⟨rfl, hb⟩
      have rwo7 := Below.trans (show Below w.heap.size w _ by assumption) (hb.mono (by omega))
      have zwo7 := rwo7.size
      have ro1o7 := Below.trans (show Below o1.heap.size o1 _ by assumption) (hb.mono (by omega))
      have zo1o7 := ro1o7.size
      have rWo7 := Below.trans (show Below W.heap.size W _ by assumption) (hb.mono (by omega))
      have zWo7 := rWo7.size
      have ro2o7 := Below.trans (show Below o2.heap.size o2 _ by assumption) (hb.mono (by omega))
      have zo2o7 := ro2o7.size
      have ro3o7 := Below.trans (show Below o3.heap.size o3 _ by assumption) (hb.mono (by omega))
      have zo3o7 := ro3o7.size
      have ro6o7 := Below.trans (show Below o6.heap.size o6 _ by assumption) (hb.mono (by omega))
      have zo6o7 := ro6o7.size
      clear hb yW0 yW1 yW2 yW3 yW4 yW5 yW6 yW7 yW8 yW9 yW10
      obtain ⟨yW0, yW1, yW2, yW3, yW4, yW5, yW6, yW7, yW8, yW9, yW10⟩ := HKW.out _ rWo7
      go_wp2_with fail
      go_ret
      exact ⟨rfl, by ((repeat (first | with_reducible assumption | with_reducible exact Below.refl _ _ | refine Below.setCell ?_ (by (first | omega | (simp; omega) | (simp; done) | fail "sml")) _ | refine Below.drew ?_ | refine Below.alloc ?_ (by (first | omega | (simp; omega) | (simp; done) | fail "sml")) _)); first | done | fail "chs")⟩
    | false =>
      go_upto_region 4 with fail
      obtain ⟨W, eW⟩ : ∃ E, E = (o1.alloc (.cells #[.slice pg g.ns.length cg, .slice qg g.es.length dg] 26)).alloc (.cells #[.bool false, .string yv, .int .i64 yl.op, .string yl.a, .slice p yl.ks.list.length c, .int .i64 yc.op, .string yc.a, .slice p' yc.ks.list.length c', .int .i64 yd] 31) := ⟨_, rfl⟩
      have kW : Below o1.heap.size o1 W := by rw [eW]; ((repeat (first | with_reducible assumption | with_reducible exact Below.refl _ _ | refine Below.setCell ?_ (by (first | omega | (simp; omega) | (simp; done) | fail "sml")) _ | refine Below.drew ?_ | refine Below.alloc ?_ (by (first | omega | (simp; omega) | (simp; done) | fail "sml")) _)); first | done | fail "chs")
      have sW : o1.heap.size + 1 < W.heap.size := by rw [eW]; simp
      have HCW := Lib.hid (show (W.cell? ⟨o1.heap.size, 0, none⟩ = some (.slice pg g.ns.length cg) ∧ W.cell? ⟨o1.heap.size, 1, none⟩ = some (.slice qg g.es.length dg) ∧ W.cell? ⟨o1.heap.size + 1, 0, none⟩ = some (.bool false) ∧ W.cell? ⟨o1.heap.size + 1, 1, none⟩ = some (.string yv) ∧ W.cell? ⟨o1.heap.size + 1, 2, none⟩ = some (.int .i64 yl.op) ∧ W.cell? ⟨o1.heap.size + 1, 3, none⟩ = some (.string yl.a) ∧ W.cell? ⟨o1.heap.size + 1, 4, none⟩ = some (.slice p yl.ks.list.length c) ∧ W.cell? ⟨o1.heap.size + 1, 5, none⟩ = some (.int .i64 yc.op) ∧ W.cell? ⟨o1.heap.size + 1, 6, none⟩ = some (.string yc.a) ∧ W.cell? ⟨o1.heap.size + 1, 7, none⟩ = some (.slice p' yc.ks.list.length c') ∧ W.cell? ⟨o1.heap.size + 1, 8, none⟩ = some (.int .i64 yd)) ∧ ∀ i, W.frozen? ⟨o1.heap.size + 1, i, none⟩ = false from by rw [eW]; exact ⟨⟨by simp [go_sem], by simp [go_sem], by simp [go_sem], by simp [go_sem], by simp [go_sem], by simp [go_sem], by simp [go_sem], by simp [go_sem], by simp [go_sem], by simp [go_sem], by simp [go_sem]⟩, fun i => by simp [go_sem]⟩)
      have rwW := Below.trans (show Below w.heap.size w _ by ((repeat (first | with_reducible assumption | with_reducible exact Below.refl _ _ | refine Below.setCell ?_ (by (first | omega | (simp; omega) | (simp; done) | fail "sml")) _ | refine Below.drew ?_ | refine Below.alloc ?_ (by (first | omega | (simp; omega) | (simp; done) | fail "sml")) _)); first | done | fail "chs")) (kW.mono (by (first | omega | (simp; omega) | (simp; done) | fail "sml")))
      have ro1W := Below.trans (show Below o1.heap.size o1 _ by ((repeat (first | with_reducible assumption | with_reducible exact Below.refl _ _ | refine Below.setCell ?_ (by (first | omega | (simp; omega) | (simp; done) | fail "sml")) _ | refine Below.drew ?_ | refine Below.alloc ?_ (by (first | omega | (simp; omega) | (simp; done) | fail "sml")) _)); first | done | fail "chs")) (kW.mono (by (first | omega | (simp; omega) | (simp; done) | fail "sml")))
      rw [← eW]
      have HKW := Lib.hid (fun (E : World) (hE : Below W.heap.size W E) => (⟨keepc hE (by omega) HCW.out.1.1, keepc hE (by omega) HCW.out.1.2.1, keepc hE (by omega) HCW.out.1.2.2.1, keepc hE (by omega) HCW.out.1.2.2.2.1, keepc hE (by omega) HCW.out.1.2.2.2.2.1, keepc hE (by omega) HCW.out.1.2.2.2.2.2.1, keepc hE (by omega) HCW.out.1.2.2.2.2.2.2.1, keepc hE (by omega) HCW.out.1.2.2.2.2.2.2.2.1, keepc hE (by omega) HCW.out.1.2.2.2.2.2.2.2.2.1, keepc hE (by omega) HCW.out.1.2.2.2.2.2.2.2.2.2.1, keepc hE (by omega) HCW.out.1.2.2.2.2.2.2.2.2.2.2⟩ : E.cell? ⟨o1.heap.size, 0, none⟩ = some (.slice pg g.ns.length cg) ∧ E.cell? ⟨o1.heap.size, 1, none⟩ = some (.slice qg g.es.length dg) ∧ E.cell? ⟨o1.heap.size + 1, 0, none⟩ = some (.bool false) ∧ E.cell? ⟨o1.heap.size + 1, 1, none⟩ = some (.string yv) ∧ E.cell? ⟨o1.heap.size + 1, 2, none⟩ = some (.int .i64 yl.op) ∧ E.cell? ⟨o1.heap.size + 1, 3, none⟩ = some (.string yl.a) ∧ E.cell? ⟨o1.heap.size + 1, 4, none⟩ = some (.slice p yl.ks.list.length c) ∧ E.cell? ⟨o1.heap.size + 1, 5, none⟩ = some (.int .i64 yc.op) ∧ E.cell? ⟨o1.heap.size + 1, 6, none⟩ = some (.string yc.a) ∧ E.cell? ⟨o1.heap.size + 1, 7, none⟩ = some (.slice p' yc.ks.list.length c') ∧ E.cell? ⟨o1.heap.size + 1, 8, none⟩ = some (.int .i64 yd)))
      have rW0 := Below.refl W.heap.size W
      obtain ⟨yW0, yW1, yW2, yW3, yW4, yW5, yW6, yW7, yW8, yW9, yW10⟩ := HKW.out _ rW0
      clear eW kW
      obtain ⟨R, ER⟩ : ∃ R, hopsR g n (⟨false, yv, yl, yc, yd⟩ : El) = R := ⟨_, rfl⟩
      go_wp2_with fail
      refine Calls.mono (ER ▸ hopsFrom_any g (⟨false, yv, yl, yc, yd⟩ : El) _ _ n o1.heap.size _ (HAU.out.1.below (show Below o1.heap.size o1 _ by assumption)) (HAU.out.2.below (show Below o1.heap.size o1 _ by assumption) (Nat.le_refl _)) (show Below o1.heap.size o1 _ by assumption).size hok hysm (HVV.out.below (show Below w.heap.size w _ by assumption))) ?_
      rintro en o2 ⟨vL, FL, rfl, hoL, hlL, hb⟩
      have rwo2 := Below.trans (show Below w.heap.size w _ by assumption) (hb.mono (by omega))
      have zwo2 := rwo2.size
      have ro1o2 := Below.trans (show Below o1.heap.size o1 _ by assumption) (hb.mono (by omega))
      have zo1o2 := ro1o2.size
      have rWo2 := Below.trans (show Below W.heap.size W _ by assumption) (hb.mono (by omega))
      have zWo2 := rWo2.size
      obtain ⟨pL, cL, rfl⟩ := hoL.sl.form
      have hmL := hoL.sl.max
      unfold maxLen at hmL
      have HSL := Lib.hid hoL.sl
      clear hoL hlL
      clear hb yW0 yW1 yW2 yW3 yW4 yW5 yW6 yW7 yW8 yW9 yW10
      obtain ⟨yW0, yW1, yW2, yW3, yW4, yW5, yW6, yW7, yW8, yW9, yW10⟩ := HKW.out _ rWo2
      have ro20 := Below.refl o2.heap.size o2
      go_wp2_with fail
      refine Calls.mono (ER ▸ specHopsFrom_any g (⟨false, yv, yl, yc, yd⟩ : El) _ _ n o1.heap.size _ (HAU.out.1.below (show Below o1.heap.size o1 _ by assumption)) (HAU.out.2.below (show Below o1.heap.size o1 _ by assumption) (Nat.le_refl _)) (show Below o1.heap.size o1 _ by assumption).size hok hysm) ?_
      rintro en o3 ⟨vS, FS, rfl, hoS, hlS, hb⟩
      have rwo3 := Below.trans (show Below w.heap.size w _ by assumption) (hb.mono (by omega))
      have zwo3 := rwo3.size
      have ro1o3 := Below.trans (show Below o1.heap.size o1 _ by assumption) (hb.mono (by omega))
      have zo1o3 := ro1o3.size
      have rWo3 := Below.trans (show Below W.heap.size W _ by assumption) (hb.mono (by omega))
      have zWo3 := rWo3.size
      have ro2o3 := Below.trans (show Below o2.heap.size o2 _ by assumption) (hb.mono (by omega))
      have zo2o3 := ro2o3.size
      obtain ⟨pS, cS, rfl⟩ := hoS.sl.form
      have hmS := hoS.sl.max
      unfold maxLen at hmS
      have HSS := Lib.hid hoS.sl
      clear hoS hlS
      clear hb yW0 yW1 yW2 yW3 yW4 yW5 yW6 yW7 yW8 yW9 yW10
      obtain ⟨yW0, yW1, yW2, yW3, yW4, yW5, yW6, yW7, yW8, yW9, yW10⟩ := HKW.out _ rWo3
      have ro30 := Below.refl o3.heap.size o3
      go_wp2_with fail
      refine Calls.mono (gpHops_any R _ _ o3.heap.size _ ((HSL.out.below (show Below o2.heap.size o2 _ by assumption)).mono zo2o3) (HSS.out.below (show Below o3.heap.size o3 _ by assumption)) (show Below o3.heap.size o3 _ by assumption).size) ?_
      rintro en o4 ⟨rfl, hb⟩
      have rwo4 := Below.trans (show Below w.heap.size w _ by assumption) (hb.mono (by omega))
      have zwo4 := rwo4.size
      have ro1o4 := Below.trans (show Below o1.heap.size o1 _ by assumption) (hb.mono (by omega))
      have zo1o4 := ro1o4.size
      have rWo4 := Below.trans (show Below W.heap.size W _ by assumption) (hb.mono (by omega))
      have zWo4 := rWo4.size
      have ro2o4 := Below.trans (show Below o2.heap.size o2 _ by assumption) (hb.mono (by omega))
      have zo2o4 := ro2o4.size
      have ro3o4 := Below.trans (show Below o3.heap.size o3 _ by assumption) (hb.mono (by omega))
      have zo3o4 := ro3o4.size
      clear hb yW0 yW1 yW2 yW3 yW4 yW5 yW6 yW7 yW8 yW9 yW10
      obtain ⟨yW0, yW1, yW2, yW3, yW4, yW5, yW6, yW7, yW8, yW9, yW10⟩ := HKW.out _ rWo4
      go_wp2_with fail
      refine Calls.mono (EE ▸ elemValid_any (⟨false, yv, yl, yc, yd⟩ : El) _ o1.heap.size _ (HAU.out.2.below (show Below o1.heap.size o1 _ by assumption) (Nat.le_refl _)) (show Below o1.heap.size o1 _ by assumption).size hysm (HVV.out.below (show Below w.heap.size w _ by assumption))) ?_
      rintro en o5 ⟨rfl, hb⟩
      have rwo5 := Below.trans (show Below w.heap.size w _ by assumption) (hb.mono (by omega))
      have zwo5 := rwo5.size
      have ro1o5 := Below.trans (show Below o1.heap.size o1 _ by assumption) (hb.mono (by omega))
      have zo1o5 := ro1o5.size
      have rWo5 := Below.trans (show Below W.heap.size W _ by assumption) (hb.mono (by omega))
      have zWo5 := rWo5.size
      have ro2o5 := Below.trans (show Below o2.heap.size o2 _ by assumption) (hb.mono (by omega))
      have zo2o5 := ro2o5.size
      have ro3o5 := Below.trans (show Below o3.heap.size o3 _ by assumption) (hb.mono (by omega))
      have zo3o5 := ro3o5.size
      clear hb yW0 yW1 yW2 yW3 yW4 yW5 yW6 yW7 yW8 yW9 yW10
      obtain ⟨yW0, yW1, yW2, yW3, yW4, yW5, yW6, yW7, yW8, yW9, yW10⟩ := HKW.out _ rWo5
      obtain ⟨R1, ER1⟩ : ∃ R, hopsR g n ((⟨false, yv, yl, yc, yd⟩ : El).dir 1) = R := ⟨_, rfl⟩
      obtain ⟨R2, ER2⟩ : ∃ R, hopsR g n ((⟨false, yv, yl, yc, yd⟩ : El).dir 2) = R := ⟨_, rfl⟩
      obtain ⟨R3, ER3⟩ : ∃ R, hopsR g n ((⟨false, yv, yl, yc, yd⟩ : El).dir 3) = R := ⟨_, rfl⟩
      have HEQ := hopsR_any (g := g) (node := n) EE rfl
      rw [ER1, ER2, ER3] at HEQ
      have fzV1 := keepz rWo5 (by omega) (HCW.out.2 8)
      clear yW0 yW1 yW2 yW3 yW4 yW5 yW6 yW7 yW8 yW9 yW10
      obtain ⟨yW0, yW1, yW2, yW3, yW4, yW5, yW6, yW7, yW8, yW9, yW10⟩ := HKW.out _ rWo5
      go_upto_region 8 with fail
      obtain ⟨V1, eV1⟩ : ∃ E, E = o5.setCell ⟨o1.heap.size + 1, 8, none⟩ (.int .i64 1) := ⟨_, rfl⟩
      have sV1 : o1.heap.size + 1 < V1.heap.size := by rw [eV1]; simp; omega
      have HCV1 := Lib.hid (show (V1.cell? ⟨o1.heap.size, 0, none⟩ = some (.slice pg g.ns.length cg) ∧ V1.cell? ⟨o1.heap.size, 1, none⟩ = some (.slice qg g.es.length dg) ∧ V1.cell? ⟨o1.heap.size + 1, 0, none⟩ = some (.bool false) ∧ V1.cell? ⟨o1.heap.size + 1, 1, none⟩ = some (.string yv) ∧ V1.cell? ⟨o1.heap.size + 1, 2, none⟩ = some (.int .i64 yl.op) ∧ V1.cell? ⟨o1.heap.size + 1, 3, none⟩ = some (.string yl.a) ∧ V1.cell? ⟨o1.heap.size + 1, 4, none⟩ = some (.slice p yl.ks.list.length c) ∧ V1.cell? ⟨o1.heap.size + 1, 5, none⟩ = some (.int .i64 yc.op) ∧ V1.cell? ⟨o1.heap.size + 1, 6, none⟩ = some (.string yc.a) ∧ V1.cell? ⟨o1.heap.size + 1, 7, none⟩ = some (.slice p' yc.ks.list.length c') ∧ V1.cell? ⟨o1.heap.size + 1, 8, none⟩ = some (.int .i64 1)) ∧ ∀ i, V1.frozen? ⟨o1.heap.size + 1, i, none⟩ = false from by rw [eV1]; exact ⟨⟨(set_far _ _ _ _ _ _ (by omega)).trans (HKW.out _ rWo5).1, (set_far _ _ _ _ _ _ (by omega)).trans (HKW.out _ rWo5).2.1, (set_near _ _ _ _ _ (by decide)).trans (HKW.out _ rWo5).2.2.1, (set_near _ _ _ _ _ (by decide)).trans (HKW.out _ rWo5).2.2.2.1, (set_near _ _ _ _ _ (by decide)).trans (HKW.out _ rWo5).2.2.2.2.1, (set_near _ _ _ _ _ (by decide)).trans (HKW.out _ rWo5).2.2.2.2.2.1, (set_near _ _ _ _ _ (by decide)).trans (HKW.out _ rWo5).2.2.2.2.2.2.1, (set_near _ _ _ _ _ (by decide)).trans (HKW.out _ rWo5).2.2.2.2.2.2.2.1, (set_near _ _ _ _ _ (by decide)).trans (HKW.out _ rWo5).2.2.2.2.2.2.2.2.1, (set_near _ _ _ _ _ (by decide)).trans (HKW.out _ rWo5).2.2.2.2.2.2.2.2.2.1, (set_same _ _ _ _ _ (HKW.out _ rWo5).2.2.2.2.2.2.2.2.2.2)⟩, fun i => by simpa [go_sem] using keepz rWo5 (by omega) (HCW.out.2 i)⟩)
      have rwV1 : Below w.heap.size w V1 := by rw [eV1]; exact (show Below w.heap.size w o5 by ((repeat (first | with_reducible assumption | with_reducible exact Below.refl _ _ | refine Below.setCell ?_ (by (first | omega | (simp; omega) | (simp; done) | fail "sml")) _ | refine Below.drew ?_ | refine Below.alloc ?_ (by (first | omega | (simp; omega) | (simp; done) | fail "sml")) _)); first | done | fail "chs")).setCell (by (first | omega | (simp; omega) | (simp; done) | fail "sml")) _
      have ro1V1 : Below o1.heap.size o1 V1 := by rw [eV1]; exact (show Below o1.heap.size o1 o5 by ((repeat (first | with_reducible assumption | with_reducible exact Below.refl _ _ | refine Below.setCell ?_ (by (first | omega | (simp; omega) | (simp; done) | fail "sml")) _ | refine Below.drew ?_ | refine Below.alloc ?_ (by (first | omega | (simp; omega) | (simp; done) | fail "sml")) _)); first | done | fail "chs")).setCell (by (first | omega | (simp; omega) | (simp; done) | fail "sml")) _
      rw [← eV1]
      clear yW0 yW1 yW2 yW3 yW4 yW5 yW6 yW7 yW8 yW9 yW10 fzV1
      have HKV1 := Lib.hid (fun (E : World) (hE : Below V1.heap.size V1 E) => (⟨keepc hE (by omega) HCV1.out.1.1, keepc hE (by omega) HCV1.out.1.2.1, keepc hE (by omega) HCV1.out.1.2.2.1, keepc hE (by omega) HCV1.out.1.2.2.2.1, keepc hE (by omega) HCV1.out.1.2.2.2.2.1, keepc hE (by omega) HCV1.out.1.2.2.2.2.2.1, keepc hE (by omega) HCV1.out.1.2.2.2.2.2.2.1, keepc hE (by omega) HCV1.out.1.2.2.2.2.2.2.2.1, keepc hE (by omega) HCV1.out.1.2.2.2.2.2.2.2.2.1, keepc hE (by omega) HCV1.out.1.2.2.2.2.2.2.2.2.2.1, keepc hE (by omega) HCV1.out.1.2.2.2.2.2.2.2.2.2.2⟩ : E.cell? ⟨o1.heap.size, 0, none⟩ = some (.slice pg g.ns.length cg) ∧ E.cell? ⟨o1.heap.size, 1, none⟩ = some (.slice qg g.es.length dg) ∧ E.cell? ⟨o1.heap.size + 1, 0, none⟩ = some (.bool false) ∧ E.cell? ⟨o1.heap.size + 1, 1, none⟩ = some (.string yv) ∧ E.cell? ⟨o1.heap.size + 1, 2, none⟩ = some (.int .i64 yl.op) ∧ E.cell? ⟨o1.heap.size + 1, 3, none⟩ = some (.string yl.a) ∧ E.cell? ⟨o1.heap.size + 1, 4, none⟩ = some (.slice p yl.ks.list.length c) ∧ E.cell? ⟨o1.heap.size + 1, 5, none⟩ = some (.int .i64 yc.op) ∧ E.cell? ⟨o1.heap.size + 1, 6, none⟩ = some (.string yc.a) ∧ E.cell? ⟨o1.heap.size + 1, 7, none⟩ = some (.slice p' yc.ks.list.length c') ∧ E.cell? ⟨o1.heap.size + 1, 8, none⟩ = some (.int .i64 1)))
      have rV10 := Below.refl V1.heap.size V1
      obtain ⟨yV10, yV11, yV12, yV13, yV14, yV15, yV16, yV17, yV18, yV19, yV110⟩ := HKV1.out _ rV10
      clear eV1
      go_wp2_with fail
      refine Calls.mono (ER1 ▸ hopsFrom_any g ((⟨false, yv, yl, yc, yd⟩ : El).dir 1) _ _ n o1.heap.size _ (HAU.out.1.below (show Below o1.heap.size o1 _ by assumption)) ((El.At.dirv HAU.out.2 1).below (show Below o1.heap.size o1 _ by assumption) (Nat.le_refl _)) (show Below o1.heap.size o1 _ by assumption).size hok (El.Sm.dirv hysm 1) (HVV.out.below (show Below w.heap.size w _ by assumption))) ?_
      rintro en o6 ⟨vD1, FD1, rfl, hoD1, hlD1, hb⟩
      have rwo6 := Below.trans (show Below w.heap.size w _ by assumption) (hb.mono (by omega))
      have zwo6 := rwo6.size
      have ro1o6 := Below.trans (show Below o1.heap.size o1 _ by assumption) (hb.mono (by omega))
      have zo1o6 := ro1o6.size
      have rV1o6 := Below.trans (show Below V1.heap.size V1 _ by assumption) (hb.mono (by omega))
      have zV1o6 := rV1o6.size
      obtain ⟨pD1, cD1, rfl⟩ := hoD1.sl.form
      have hmD1 := hoD1.sl.max
      unfold maxLen at hmD1
      have HSD1 := Lib.hid hoD1.sl
      clear hoD1 hlD1
      clear hb yV10 yV11 yV12 yV13 yV14 yV15 yV16 yV17 yV18 yV19 yV110
      obtain ⟨yV10, yV11, yV12, yV13, yV14, yV15, yV16, yV17, yV18, yV19, yV110⟩ := HKV1.out _ rV1o6
      have ro60 := Below.refl o6.heap.size o6
      have fzV2 := keepz rV1o6 (by omega) (HCV1.out.2 8)
      clear yV10 yV11 yV12 yV13 yV14 yV15 yV16 yV17 yV18 yV19 yV110
      obtain ⟨yV10, yV11, yV12, yV13, yV14, yV15, yV16, yV17, yV18, yV19, yV110⟩ := HKV1.out _ rV1o6
      go_upto_region 10 with fail
      obtain ⟨V2, eV2⟩ : ∃ E, E = o6.setCell ⟨o1.heap.size + 1, 8, none⟩ (.int .i64 2) := ⟨_, rfl⟩
      have sV2 : o1.heap.size + 1 < V2.heap.size := by rw [eV2]; simp; omega
      have HCV2 := Lib.hid (show (V2.cell? ⟨o1.heap.size, 0, none⟩ = some (.slice pg g.ns.length cg) ∧ V2.cell? ⟨o1.heap.size, 1, none⟩ = some (.slice qg g.es.length dg) ∧ V2.cell? ⟨o1.heap.size + 1, 0, none⟩ = some (.bool false) ∧ V2.cell? ⟨o1.heap.size + 1, 1, none⟩ = some (.string yv) ∧ V2.cell? ⟨o1.heap.size + 1, 2, none⟩ = some (.int .i64 yl.op) ∧ V2.cell? ⟨o1.heap.size + 1, 3, none⟩ = some (.string yl.a) ∧ V2.cell? ⟨o1.heap.size + 1, 4, none⟩ = some (.slice p yl.ks.list.length c) ∧ V2.cell? ⟨o1.heap.size + 1, 5, none⟩ = some (.int .i64 yc.op) ∧ V2.cell? ⟨o1.heap.size + 1, 6, none⟩ = some (.string yc.a) ∧ V2.cell? ⟨o1.heap.size + 1, 7, none⟩ = some (.slice p' yc.ks.list.length c') ∧ V2.cell? ⟨o1.heap.size + 1, 8, none⟩ = some (.int .i64 2)) ∧ ∀ i, V2.frozen? ⟨o1.heap.size + 1, i, none⟩ = false from by rw [eV2]; exact ⟨⟨(set_far _ _ _ _ _ _ (by omega)).trans (HKV1.out _ rV1o6).1, (set_far _ _ _ _ _ _ (by omega)).trans (HKV1.out _ rV1o6).2.1, (set_near _ _ _ _ _ (by decide)).trans (HKV1.out _ rV1o6).2.2.1, (set_near _ _ _ _ _ (by decide)).trans (HKV1.out _ rV1o6).2.2.2.1, (set_near _ _ _ _ _ (by decide)).trans (HKV1.out _ rV1o6).2.2.2.2.1, (set_near _ _ _ _ _ (by decide)).trans (HKV1.out _ rV1o6).2.2.2.2.2.1, (set_near _ _ _ _ _ (by decide)).trans (HKV1.out _ rV1o6).2.2.2.2.2.2.1, (set_near _ _ _ _ _ (by decide)).trans (HKV1.out _ rV1o6).2.2.2.2.2.2.2.1, (set_near _ _ _ _ _ (by decide)).trans (HKV1.out _ rV1o6).2.2.2.2.2.2.2.2.1, (set_near _ _ _ _ _ (by decide)).trans (HKV1.out _ rV1o6).2.2.2.2.2.2.2.2.2.1, (set_same _ _ _ _ _ (HKV1.out _ rV1o6).2.2.2.2.2.2.2.2.2.2)⟩, fun i => by simpa [go_sem] using keepz rV1o6 (by omega) (HCV1.out.2 i)⟩)
      have rwV2 : Below w.heap.size w V2 := by rw [eV2]; exact (show Below w.heap.size w o6 by ((repeat (first | with_reducible assumption | with_reducible exact Below.refl _ _ | refine Below.setCell ?_ (by (first | omega | (simp; omega) | (simp; done) | fail "sml")) _ | refine Below.drew ?_ | refine Below.alloc ?_ (by (first | omega | (simp; omega) | (simp; done) | fail "sml")) _)); first | done | fail "chs")).setCell (by (first | omega | (simp; omega) | (simp; done) | fail "sml")) _
      have ro1V2 : Below o1.heap.size o1 V2 := by rw [eV2]; exact (show Below o1.heap.size o1 o6 by ((repeat (first | with_reducible assumption | with_reducible exact Below.refl _ _ | refine Below.setCell ?_ (by (first | omega | (simp; omega) | (simp; done) | fail "sml")) _ | refine Below.drew ?_ | refine Below.alloc ?_ (by (first | omega | (simp; omega) | (simp; done) | fail "sml")) _)); first | done | fail "chs")).setCell (by (first | omega | (simp; omega) | (simp; done) | fail "sml")) _
      rw [← eV2]
      clear yV10 yV11 yV12 yV13 yV14 yV15 yV16 yV17 yV18 yV19 yV110 fzV2
      have HKV2 := Lib.hid (fun (E : World) (hE : Below V2.heap.size V2 E) => (⟨keepc hE (by omega) HCV2.out.1.1, keepc hE (by omega) HCV2.out.1.2.1, keepc hE (by omega) HCV2.out.1.2.2.1, keepc hE (by omega) HCV2.out.1.2.2.2.1, keepc hE (by omega) HCV2.out.1.2.2.2.2.1, keepc hE (by omega) HCV2.out.1.2.2.2.2.2.1, keepc hE (by omega) HCV2.out.1.2.2.2.2.2.2.1, keepc hE (by omega) HCV2.out.1.2.2.2.2.2.2.2.1, keepc hE (by omega) HCV2.out.1.2.2.2.2.2.2.2.2.1, keepc hE (by omega) HCV2.out.1.2.2.2.2.2.2.2.2.2.1, keepc hE (by omega) HCV2.out.1.2.2.2.2.2.2.2.2.2.2⟩ : E.cell? ⟨o1.heap.size, 0, none⟩ = some (.slice pg g.ns.length cg) ∧ E.cell? ⟨o1.heap.size, 1, none⟩ = some (.slice qg g.es.length dg) ∧ E.cell? ⟨o1.heap.size + 1, 0, none⟩ = some (.bool false) ∧ E.cell? ⟨o1.heap.size + 1, 1, none⟩ = some (.string yv) ∧ E.cell? ⟨o1.heap.size + 1, 2, none⟩ = some (.int .i64 yl.op) ∧ E.cell? ⟨o1.heap.size + 1, 3, none⟩ = some (.string yl.a) ∧ E.cell? ⟨o1.heap.size + 1, 4, none⟩ = some (.slice p yl.ks.list.length c) ∧ E.cell? ⟨o1.heap.size + 1, 5, none⟩ = some (.int .i64 yc.op) ∧ E.cell? ⟨o1.heap.size + 1, 6, none⟩ = some (.string yc.a) ∧ E.cell? ⟨o1.heap.size + 1, 7, none⟩ = some (.slice p' yc.ks.list.length c') ∧ E.cell? ⟨o1.heap.size + 1, 8, none⟩ = some (.int .i64 2)))
      have rV20 := Below.refl V2.heap.size V2
      obtain ⟨yV20, yV21, yV22, yV23, yV24, yV25, yV26, yV27, yV28, yV29, yV210⟩ := HKV2.out _ rV20
      clear eV2
      go_wp2_with fail
      refine Calls.mono (ER2 ▸ hopsFrom_any g ((⟨false, yv, yl, yc, yd⟩ : El).dir 2) _ _ n o1.heap.size _ (HAU.out.1.below (show Below o1.heap.size o1 _ by assumption)) ((El.At.dirv HAU.out.2 2).below (show Below o1.heap.size o1 _ by assumption) (Nat.le_refl _)) (show Below o1.heap.size o1 _ by assumption).size hok (El.Sm.dirv hysm 2) (HVV.out.below (show Below w.heap.size w _ by assumption))) ?_
      rintro en o7 ⟨vD2, FD2, rfl, hoD2, hlD2, hb⟩
      have rwo7 := Below.trans (show Below w.heap.size w _ by assumption) (hb.mono (by omega))
      have zwo7 := rwo7.size
      have ro1o7 := Below.trans (show Below o1.heap.size o1 _ by assumption) (hb.mono (by omega))
      have zo1o7 := ro1o7.size
      have rV2o7 := Below.trans (show Below V2.heap.size V2 _ by assumption) (hb.mono (by omega))
      have zV2o7 := rV2o7.size
      obtain ⟨pD2, cD2, rfl⟩ := hoD2.sl.form
      have hmD2 := hoD2.sl.max
      unfold maxLen at hmD2
      have HSD2 := Lib.hid hoD2.sl
      clear hoD2 hlD2
      clear hb yV20 yV21 yV22 yV23 yV24 yV25 yV26 yV27 yV28 yV29 yV210
      obtain ⟨yV20, yV21, yV22, yV23, yV24, yV25, yV26, yV27, yV28, yV29, yV210⟩ := HKV2.out _ rV2o7
      have ro70 := Below.refl o7.heap.size o7
      have fzV3 := keepz rV2o7 (by omega) (HCV2.out.2 8)
      clear yV20 yV21 yV22 yV23 yV24 yV25 yV26 yV27 yV28 yV29 yV210
      obtain ⟨yV20, yV21, yV22, yV23, yV24, yV25, yV26, yV27, yV28, yV29, yV210⟩ := HKV2.out _ rV2o7
      go_upto_region 12 with fail
      obtain ⟨V3, eV3⟩ : ∃ E, E = o7.setCell ⟨o1.heap.size + 1, 8, none⟩ (.int .i64 3) := ⟨_, rfl⟩
      have sV3 : o1.heap.size + 1 < V3.heap.size := by rw [eV3]; simp; omega
      have HCV3 := Lib.hid (show (V3.cell? ⟨o1.heap.size, 0, none⟩ = some (.slice pg g.ns.length cg) ∧ V3.cell? ⟨o1.heap.size, 1, none⟩ = some (.slice qg g.es.length dg) ∧ V3.cell? ⟨o1.heap.size + 1, 0, none⟩ = some (.bool false) ∧ V3.cell? ⟨o1.heap.size + 1, 1, none⟩ = some (.string yv) ∧ V3.cell? ⟨o1.heap.size + 1, 2, none⟩ = some (.int .i64 yl.op) ∧ V3.cell? ⟨o1.heap.size + 1, 3, none⟩ = some (.string yl.a) ∧ V3.cell? ⟨o1.heap.size + 1, 4, none⟩ = some (.slice p yl.ks.list.length c) ∧ V3.cell? ⟨o1.heap.size + 1, 5, none⟩ = some (.int .i64 yc.op) ∧ V3.cell? ⟨o1.heap.size + 1, 6, none⟩ = some (.string yc.a) ∧ V3.cell? ⟨o1.heap.size + 1, 7, none⟩ = some (.slice p' yc.ks.list.length c') ∧ V3.cell? ⟨o1.heap.size + 1, 8, none⟩ = some (.int .i64 3)) ∧ ∀ i, V3.frozen? ⟨o1.heap.size + 1, i, none⟩ = false from by rw [eV3]; exact ⟨⟨(set_far _ _ _ _ _ _ (by omega)).trans (HKV2.out _ rV2o7).1, (set_far _ _ _ _ _ _ (by omega)).trans (HKV2.out _ rV2o7).2.1, (set_near _ _ _ _ _ (by decide)).trans (HKV2.out _ rV2o7).2.2.1, (set_near _ _ _ _ _ (by decide)).trans (HKV2.out _ rV2o7).2.2.2.1, (set_near _ _ _ _ _ (by decide)).trans (HKV2.out _ rV2o7).2.2.2.2.1, (set_near _ _ _ _ _ (by decide)).trans (HKV2.out _ rV2o7).2.2.2.2.2.1, (set_near _ _ _ _ _ (by decide)).trans (HKV2.out _ rV2o7).2.2.2.2.2.2.1, (set_near _ _ _ _ _ (by decide)).trans (HKV2.out _ rV2o7).2.2.2.2.2.2.2.1, (set_near _ _ _ _ _ (by decide)).trans (HKV2.out _ rV2o7).2.2.2.2.2.2.2.2.1, (set_near _ _ _ _ _ (by decide)).trans (HKV2.out _ rV2o7).2.2.2.2.2.2.2.2.2.1, (set_same _ _ _ _ _ (HKV2.out _ rV2o7).2.2.2.2.2.2.2.2.2.2)⟩, fun i => by simpa [go_sem] using keepz rV2o7 (by omega) (HCV2.out.2 i)⟩)
      have rwV3 : Below w.heap.size w V3 := by rw [eV3]; exact (show Below w.heap.size w o7 by ((repeat (first | with_reducible assumption | with_reducible exact Below.refl _ _ | refine Below.setCell ?_ (by (first | omega | (simp; omega) | (simp; done) | fail "sml")) _ | refine Below.drew ?_ | refine Below.alloc ?_ (by (first | omega | (simp; omega) | (simp; done) | fail "sml")) _)); first | done | fail "chs")).setCell (by (first | omega | (simp; omega) | (simp; done) | fail "sml")) _
      have ro1V3 : Below o1.heap.size o1 V3 := by rw [eV3]; exact (show Below o1.heap.size o1 o7 by ((repeat (first | with_reducible assumption | with_reducible exact Below.refl _ _ | refine Below.setCell ?_ (by (first | omega | (simp; omega) | (simp; done) | fail "sml")) _ | refine Below.drew ?_ | refine Below.alloc ?_ (by (first | omega | (simp; omega) | (simp; done) | fail "sml")) _)); first | done | fail "chs")).setCell (by (first | omega | (simp; omega) | (simp; done) | fail "sml")) _
      rw [← eV3]
      clear yV20 yV21 yV22 yV23 yV24 yV25 yV26 yV27 yV28 yV29 yV210 fzV3
      have HKV3 := Lib.hid (fun (E : World) (hE : Below V3.heap.size V3 E) => (⟨keepc hE (by omega) HCV3.out.1.1, keepc hE (by omega) HCV3.out.1.2.1, keepc hE (by omega) HCV3.out.1.2.2.1, keepc hE (by omega) HCV3.out.1.2.2.2.1, keepc hE (by omega) HCV3.out.1.2.2.2.2.1, keepc hE (by omega) HCV3.out.1.2.2.2.2.2.1, keepc hE (by omega) HCV3.out.1.2.2.2.2.2.2.1, keepc hE (by omega) HCV3.out.1.2.2.2.2.2.2.2.1, keepc hE (by omega) HCV3.out.1.2.2.2.2.2.2.2.2.1, keepc hE (by omega) HCV3.out.1.2.2.2.2.2.2.2.2.2.1, keepc hE (by omega) HCV3.out.1.2.2.2.2.2.2.2.2.2.2⟩ : E.cell? ⟨o1.heap.size, 0, none⟩ = some (.slice pg g.ns.length cg) ∧ E.cell? ⟨o1.heap.size, 1, none⟩ = some (.slice qg g.es.length dg) ∧ E.cell? ⟨o1.heap.size + 1, 0, none⟩ = some (.bool false) ∧ E.cell? ⟨o1.heap.size + 1, 1, none⟩ = some (.string yv) ∧ E.cell? ⟨o1.heap.size + 1, 2, none⟩ = some (.int .i64 yl.op) ∧ E.cell? ⟨o1.heap.size + 1, 3, none⟩ = some (.string yl.a) ∧ E.cell? ⟨o1.heap.size + 1, 4, none⟩ = some (.slice p yl.ks.list.length c) ∧ E.cell? ⟨o1.heap.size + 1, 5, none⟩ = some (.int .i64 yc.op) ∧ E.cell? ⟨o1.heap.size + 1, 6, none⟩ = some (.string yc.a) ∧ E.cell? ⟨o1.heap.size + 1, 7, none⟩ = some (.slice p' yc.ks.list.length c') ∧ E.cell? ⟨o1.heap.size + 1, 8, none⟩ = some (.int .i64 3)))
      have rV30 := Below.refl V3.heap.size V3
      obtain ⟨yV30, yV31, yV32, yV33, yV34, yV35, yV36, yV37, yV38, yV39, yV310⟩ := HKV3.out _ rV30
      clear eV3
      go_wp2_with fail
      refine Calls.mono (ER3 ▸ hopsFrom_any g ((⟨false, yv, yl, yc, yd⟩ : El).dir 3) _ _ n o1.heap.size _ (HAU.out.1.below (show Below o1.heap.size o1 _ by assumption)) ((El.At.dirv HAU.out.2 3).below (show Below o1.heap.size o1 _ by assumption) (Nat.le_refl _)) (show Below o1.heap.size o1 _ by assumption).size hok (El.Sm.dirv hysm 3) (HVV.out.below (show Below w.heap.size w _ by assumption))) ?_
      rintro en o8 ⟨vD3, FD3, rfl, hoD3, hlD3, hb⟩
      have rwo8 := Below.trans (show Below w.heap.size w _ by assumption) (hb.mono (by omega))
      have zwo8 := rwo8.size
      have ro1o8 := Below.trans (show Below o1.heap.size o1 _ by assumption) (hb.mono (by omega))
      have zo1o8 := ro1o8.size
      have rV3o8 := Below.trans (show Below V3.heap.size V3 _ by assumption) (hb.mono (by omega))
      have zV3o8 := rV3o8.size
      obtain ⟨pD3, cD3, rfl⟩ := hoD3.sl.form
      have hmD3 := hoD3.sl.max
      unfold maxLen at hmD3
      have HSD3 := Lib.hid hoD3.sl
      clear hoD3 hlD3
      clear hb yV30 yV31 yV32 yV33 yV34 yV35 yV36 yV37 yV38 yV39 yV310
      obtain ⟨yV30, yV31, yV32, yV33, yV34, yV35, yV36, yV37, yV38, yV39, yV310⟩ := HKV3.out _ rV3o8
      have ro80 := Below.refl o8.heap.size o8
      go_wp2_with fail
      have hEsl := HAU.out.1
      obtain ⟨na, nb2, ena, _, hna⟩ := hEsl
      cases ena
      have HNA := Lib.hid hna
      clear hna
      go_loopw [10, 11] (fun s i wr => ∃ j : Nat, j ≤ R3.length ∧ i = .int .i64 (j : Int) ∧ s = .int .i64 (loopC g.es n (R3.take j) : Int) ∧ loopC g.es n (R3.take j) ≤ j ∧ Below o8.heap.size o8 wr) (fun _ i _ => R3.length - (intOf i).toNat)
      case atStart => exact ⟨0, Nat.zero_le _, rfl, by rw [loopC_zero]; rfl, by rw [loopC_zero]; exact Nat.le_refl _, by ((repeat (first | with_reducible assumption | with_reducible exact Below.refl _ _ | refine Below.setCell ?_ (by (first | omega | (simp; omega) | (simp; done) | fail "sml")) _ | refine Below.drew ?_ | refine Below.alloc ?_ (by (first | omega | (simp; omega) | (simp; done) | fail "sml")) _)); first | done | fail "chs")⟩
      case round =>
        obtain ⟨j, hj, rfl, hs, hlc, hbr⟩ := hrel
        have rV3r := rV3o8.trans (hbr.mono zV3o8)
        have ro1r := ro1o8.trans (hbr.mono zo1o8)
        have hz0 := rV3r.size
        have hzr := hbr.size
        clear yV30 yV31 yV32 yV33 yV34 yV35 yV36 yV37 yV38 yV39 yV310
        by_cases hlt2 : j < R3.length
        · obtain ⟨i, hi, e1', _, _, _⟩ := hopsR_at' ER3 hlt2
          obtain ⟨bl, ol, epl, hbl, c0, c1⟩ := (HSD3.out.below hbr).atHop hlt2
          cases epl
          obtain ⟨be, oe, epe, hbe, d0, d1, d2, d3⟩ := (HNA.out.below ro1r).ed hi
          subst epe
          have hyes := fun h => loopC_yes (es := g.es) (node := n) hlt2 h
          have hno := fun h => loopC_no (es := g.es) (node := n) hlt2 h
          have hL : loopH g.es n R3[j] = (g.es[i].f == n && R3[j].t == n) := by unfold loopH; rw [e1']; simp [List.getD_eq_getElem?_getD, hi]
          obtain ⟨x, ex⟩ : ∃ x, x = g.es[i] := ⟨_, rfl⟩
          obtain ⟨h, eh⟩ : ∃ h, h = R3[j] := ⟨_, rfl⟩
          rw [e1'] at c0
          rw [← eh] at c1 hyes hno hL
          rw [← ex] at d0 hL
          clear ex eh d1 d2 d3 e1'
          have hin : (i : Int) < (g.es.length : Int) := by omega
          have hjn : (j : Int) < (R3.length : Int) := by omega
          have KS := Lib.hid (fun (E : World) (hE : Below wr.heap.size wr E) => (show (E.cell? ⟨o1.heap.size, 0, none⟩ = some (.slice pg g.ns.length cg) ∧ E.cell? ⟨o1.heap.size, 1, none⟩ = some (.slice (some ⟨be, oe, none⟩) g.es.length dg)) ∧ (E.cell? ⟨be, oe + i * 4, none⟩ = some (.int .i64 x.f)) ∧ E.cell? ⟨bl, ol + j * 2, none⟩ = some (.int .i64 (i : Int)) ∧ E.cell? ⟨bl, ol + j * 2 + 1, none⟩ = some (.int .i64 h.t) from
            ⟨⟨keepc hE (by omega) (HKV3.out _ rV3r).1, keepc hE (by omega) (HKV3.out _ rV3r).2.1⟩, keepc hE (by omega) d0, keepc hE (by omega) c0, keepc hE (by omega) c1⟩))
          have r1 := Below.refl wr.heap.size wr
          clear c0 c1 d0
          subst hs
          cases g1 : (x.f == n) with
          | false =>
            go_upto_region 17 with fail
            refine wp_region_held_drew (S := fun w' => (w'.cell? ⟨o1.heap.size, 0, none⟩ = some (.slice pg g.ns.length cg) ∧ w'.cell? ⟨o1.heap.size, 1, none⟩ = some (.slice (some ⟨be, oe, none⟩) g.es.length dg)) ∧ (w'.cell? ⟨be, oe + i * 4, none⟩ = some (.int .i64 x.f)) ∧ w'.cell? ⟨bl, ol + j * 2, none⟩ = some (.int .i64 (i : Int)) ∧ w'.cell? ⟨bl, ol + j * 2 + 1, none⟩ = some (.int .i64 h.t)) (by kernel_rfl) ?_ (fun hHeld => ?_)
            · exact KS.out _ (show Below wr.heap.size wr _ by ((repeat (first | with_reducible assumption | with_reducible exact Below.refl _ _ | refine Below.setCell ?_ (by (first | omega | (simp; omega) | (simp; done) | fail "sml")) _ | refine Below.drew ?_ | refine Below.alloc ?_ (by (first | omega | (simp; omega) | (simp; done) | fail "sml")) _)); first | done | fail "chs"))
            (refine takeL (i := 0) (v := ?_) rfl (by kernel_rfl) (by kernel_rfl) (by kernel_rfl) (fun _ _ _ h => h) (Or.inl ⟨by kernel_rfl, ?_⟩) (by assumption) ?_; rotate_left; (focus (intro w hSw; (try dsimp only at hSw); go_simp; first | done | with_reducible rfl | fail "take")); (try simp only [Act.put, List.setIfInBounds_toArray, List.set_cons_zero, List.set_cons_succ]))
            (refine takeL (i := 1) (v := ?_) rfl (by kernel_rfl) (by kernel_rfl) (by kernel_rfl) (fun _ _ _ h => h) (Or.inl ⟨by kernel_rfl, ?_⟩) (by assumption) ?_; rotate_left; (focus (intro w hSw; (try dsimp only at hSw); go_simp; first | done | with_reducible rfl | fail "take")); (try simp only [Act.put, List.setIfInBounds_toArray, List.set_cons_zero, List.set_cons_succ]))
            (refine takeL (i := 2) (v := ?_) rfl (by kernel_rfl) (by kernel_rfl) (by kernel_rfl) (fun _ _ _ h => h) (Or.inl ⟨by kernel_rfl, ?_⟩) (by assumption) ?_; rotate_left; (focus (intro w hSw; (try dsimp only at hSw); go_simp; first | done | with_reducible rfl | fail "take")); (try simp only [Act.put, List.setIfInBounds_toArray, List.set_cons_zero, List.set_cons_succ]))
            (refine takeL (i := 3) (v := ?_) rfl (by kernel_rfl) (by kernel_rfl) (by kernel_rfl) (fun _ _ _ h => h) (Or.inl ⟨by kernel_rfl, ?_⟩) (by assumption) ?_; rotate_left; (focus (intro w hSw; (try dsimp only at hSw); go_simp; first | done | with_reducible rfl | fail "take")); (try simp only [Act.put, List.setIfInBounds_toArray, List.set_cons_zero, List.set_cons_succ]))
            (refine takeL (i := 4) (v := ?_) rfl (by kernel_rfl) (by kernel_rfl) (by kernel_rfl) (fun _ _ _ h => h) (Or.inl ⟨by kernel_rfl, ?_⟩) (by assumption) ?_; rotate_left; (focus (intro w hSw; (try dsimp only at hSw); go_simp; first | done | with_reducible rfl | fail "take")); (try simp only [Act.put, List.setIfInBounds_toArray, List.set_cons_zero, List.set_cons_succ]))
            (refine takeL (i := 5) (v := ?_) rfl (by kernel_rfl) (by kernel_rfl) (by kernel_rfl) (fun _ _ _ h => h) (Or.inl ⟨by kernel_rfl, ?_⟩) (by assumption) ?_; rotate_left; (focus (intro w hSw; (try dsimp only at hSw); go_simp; first | done | with_reducible rfl | fail "take")); (try simp only [Act.put, List.setIfInBounds_toArray, List.set_cons_zero, List.set_cons_succ]))
            (refine takeL (i := 6) (v := ?_) rfl (by kernel_rfl) (by kernel_rfl) (by kernel_rfl) (fun _ _ _ h => h) (Or.inl ⟨by kernel_rfl, ?_⟩) (by assumption) ?_; rotate_left; (focus (intro w hSw; (try dsimp only at hSw); go_simp; first | done | with_reducible rfl | fail "take")); (try simp only [Act.put, List.setIfInBounds_toArray, List.set_cons_zero, List.set_cons_succ]))
            (refine takeL (i := 7) (v := ?_) rfl (by kernel_rfl) (by kernel_rfl) (by kernel_rfl) (fun _ _ _ h => h) (Or.inl ⟨by kernel_rfl, ?_⟩) (by assumption) ?_; rotate_left; (focus (intro w hSw; (try dsimp only at hSw); go_simp; first | done | with_reducible rfl | fail "take")); (try simp only [Act.put, List.setIfInBounds_toArray, List.set_cons_zero, List.set_cons_succ]))
            (refine takeL (i := 8) (v := ?_) rfl (by kernel_rfl) (by kernel_rfl) (by kernel_rfl) (fun _ _ _ h => h) (Or.inl ⟨by kernel_rfl, ?_⟩) (by assumption) ?_; rotate_left; (focus (intro w hSw; (try dsimp only at hSw); go_simp; first | done | with_reducible rfl | fail "take")); (try simp only [Act.put, List.setIfInBounds_toArray, List.set_cons_zero, List.set_cons_succ]))
            (refine takeL (i := 9) (v := ?_) rfl (by kernel_rfl) (by kernel_rfl) (by kernel_rfl) (fun _ _ _ h => h) (Or.inl ⟨by kernel_rfl, ?_⟩) (by assumption) ?_; rotate_left; (focus (intro w hSw; (try dsimp only at hSw); go_simp; first | done | with_reducible rfl | fail "take")); (try simp only [Act.put, List.setIfInBounds_toArray, List.set_cons_zero, List.set_cons_succ]))
            (refine takeL (i := 10) (v := ?_) rfl (by kernel_rfl) (by kernel_rfl) (by kernel_rfl) (fun _ _ _ h => h) (Or.inl ⟨by kernel_rfl, ?_⟩) (by assumption) ?_; rotate_left; (focus (intro w hSw; (try dsimp only at hSw); go_simp; first | done | with_reducible rfl | fail "take")); (try simp only [Act.put, List.setIfInBounds_toArray, List.set_cons_zero, List.set_cons_succ]))
            (refine takeL (i := 11) (v := ?_) rfl (by kernel_rfl) (by kernel_rfl) (by kernel_rfl) (fun _ _ _ h => h) (Or.inl ⟨by kernel_rfl, ?_⟩) (by assumption) ?_; rotate_left; (focus (intro w hSw; (try dsimp only at hSw); go_simp; first | done | with_reducible rfl | fail "take")); (try simp only [Act.put, List.setIfInBounds_toArray, List.set_cons_zero, List.set_cons_succ]))
            (refine takeL (i := 12) (v := ?_) rfl (by kernel_rfl) (by kernel_rfl) (by kernel_rfl) (fun _ _ _ h => h) (Or.inl ⟨by kernel_rfl, ?_⟩) (by assumption) ?_; rotate_left; (focus (intro w hSw; (try dsimp only at hSw); go_simp; first | done | with_reducible rfl | fail "take")); (try simp only [Act.put, List.setIfInBounds_toArray, List.set_cons_zero, List.set_cons_succ]))
            (refine takeL (i := 13) (v := undef) rfl (by kernel_rfl) (by kernel_rfl) (by kernel_rfl) (fun _ _ _ h => h) (Or.inr ⟨by kernel_rfl, rfl⟩) (by assumption) ?_; (try simp only [Act.put, List.setIfInBounds_toArray, List.set_cons_zero, List.set_cons_succ]))
            (refine takeL (i := 14) (v := undef) rfl (by kernel_rfl) (by kernel_rfl) (by kernel_rfl) (fun _ _ _ h => h) (Or.inr ⟨by kernel_rfl, rfl⟩) (by assumption) ?_; (try simp only [Act.put, List.setIfInBounds_toArray, List.set_cons_zero, List.set_cons_succ]))
            (refine takeL (i := 15) (v := undef) rfl (by kernel_rfl) (by kernel_rfl) (by kernel_rfl) (fun _ _ _ h => h) (Or.inr ⟨by kernel_rfl, rfl⟩) (by assumption) ?_; (try simp only [Act.put, List.setIfInBounds_toArray, List.set_cons_zero, List.set_cons_succ]))
            (refine takeL (i := 16) (v := undef) rfl (by kernel_rfl) (by kernel_rfl) (by kernel_rfl) (fun _ _ _ h => h) (Or.inr ⟨by kernel_rfl, rfl⟩) (by assumption) ?_; (try simp only [Act.put, List.setIfInBounds_toArray, List.set_cons_zero, List.set_cons_succ]))
            (refine takeL (i := 17) (v := undef) rfl (by kernel_rfl) (by kernel_rfl) (by kernel_rfl) (fun _ _ _ h => h) (Or.inr ⟨by kernel_rfl, rfl⟩) (by assumption) ?_; (try simp only [Act.put, List.setIfInBounds_toArray, List.set_cons_zero, List.set_cons_succ]))
            (refine takeL (i := 18) (v := undef) rfl (by kernel_rfl) (by kernel_rfl) (by kernel_rfl) (fun _ _ _ h => h) (Or.inr ⟨by kernel_rfl, rfl⟩) (by assumption) ?_; (try simp only [Act.put, List.setIfInBounds_toArray, List.set_cons_zero, List.set_cons_succ]))
            (refine takeL (i := 19) (v := undef) rfl (by kernel_rfl) (by kernel_rfl) (by kernel_rfl) (fun _ _ _ h => h) (Or.inr ⟨by kernel_rfl, rfl⟩) (by assumption) ?_; (try simp only [Act.put, List.setIfInBounds_toArray, List.set_cons_zero, List.set_cons_succ]))
            (refine takeL (i := 20) (v := ?_) rfl (by kernel_rfl) (by kernel_rfl) (by kernel_rfl) (fun _ _ _ h => h) (Or.inl ⟨by kernel_rfl, ?_⟩) (by assumption) ?_; rotate_left; (focus (intro w hSw; (try dsimp only at hSw); go_simp; first | done | with_reducible rfl | fail "take")); (try simp only [Act.put, List.setIfInBounds_toArray, List.set_cons_zero, List.set_cons_succ]))
            refine wpAnyH_done (by kernel_rfl) ?_ _
            have hq := hno (by rw [hL, g1]; rfl)
            go_wp2_with fail
            go_roundw
            case rel => exact ⟨j + 1, by omega, by go_num, by rw [hq], by rw [hq]; omega, hbr.trans ((show Below wr.heap.size wr _ by ((repeat (first | with_reducible assumption | with_reducible exact Below.refl _ _ | refine Below.setCell ?_ (by (first | omega | (simp; omega) | (simp; done) | fail "sml")) _ | refine Below.drew ?_ | refine Below.alloc ?_ (by (first | omega | (simp; omega) | (simp; done) | fail "sml")) _)); first | done | fail "chs")).mono hzr)⟩
            case measure => simp [intOf]; omega
          | true =>
            cases g2 : (h.t == n) with
            | false =>
              go_upto_region 17 with fail
              refine wp_region_held_drew (S := fun w' => (w'.cell? ⟨o1.heap.size, 0, none⟩ = some (.slice pg g.ns.length cg) ∧ w'.cell? ⟨o1.heap.size, 1, none⟩ = some (.slice (some ⟨be, oe, none⟩) g.es.length dg)) ∧ (w'.cell? ⟨be, oe + i * 4, none⟩ = some (.int .i64 x.f)) ∧ w'.cell? ⟨bl, ol + j * 2, none⟩ = some (.int .i64 (i : Int)) ∧ w'.cell? ⟨bl, ol + j * 2 + 1, none⟩ = some (.int .i64 h.t)) (by kernel_rfl) ?_ (fun hHeld => ?_)
              · exact KS.out _ (show Below wr.heap.size wr _ by ((repeat (first | with_reducible assumption | with_reducible exact Below.refl _ _ | refine Below.setCell ?_ (by (first | omega | (simp; omega) | (simp; done) | fail "sml")) _ | refine Below.drew ?_ | refine Below.alloc ?_ (by (first | omega | (simp; omega) | (simp; done) | fail "sml")) _)); first | done | fail "chs"))
              (refine takeL (i := 0) (v := ?_) rfl (by kernel_rfl) (by kernel_rfl) (by kernel_rfl) (fun _ _ _ h => h) (Or.inl ⟨by kernel_rfl, ?_⟩) (by assumption) ?_; rotate_left; (focus (intro w hSw; (try dsimp only at hSw); go_simp; first | done | with_reducible rfl | fail "take")); (try simp only [Act.put, List.setIfInBounds_toArray, List.set_cons_zero, List.set_cons_succ]))
              (refine takeL (i := 1) (v := ?_) rfl (by kernel_rfl) (by kernel_rfl) (by kernel_rfl) (fun _ _ _ h => h) (Or.inl ⟨by kernel_rfl, ?_⟩) (by assumption) ?_; rotate_left; (focus (intro w hSw; (try dsimp only at hSw); go_simp; first | done | with_reducible rfl | fail "take")); (try simp only [Act.put, List.setIfInBounds_toArray, List.set_cons_zero, List.set_cons_succ]))
              (refine takeL (i := 2) (v := ?_) rfl (by kernel_rfl) (by kernel_rfl) (by kernel_rfl) (fun _ _ _ h => h) (Or.inl ⟨by kernel_rfl, ?_⟩) (by assumption) ?_; rotate_left; (focus (intro w hSw; (try dsimp only at hSw); go_simp; first | done | with_reducible rfl | fail "take")); (try simp only [Act.put, List.setIfInBounds_toArray, List.set_cons_zero, List.set_cons_succ]))
              (refine takeL (i := 3) (v := ?_) rfl (by kernel_rfl) (by kernel_rfl) (by kernel_rfl) (fun _ _ _ h => h) (Or.inl ⟨by kernel_rfl, ?_⟩) (by assumption) ?_; rotate_left; (focus (intro w hSw; (try dsimp only at hSw); go_simp; first | done | with_reducible rfl | fail "take")); (try simp only [Act.put, List.setIfInBounds_toArray, List.set_cons_zero, List.set_cons_succ]))
              (refine takeL (i := 4) (v := ?_) rfl (by kernel_rfl) (by kernel_rfl) (by kernel_rfl) (fun _ _ _ h => h) (Or.inl ⟨by kernel_rfl, ?_⟩) (by assumption) ?_; rotate_left; (focus (intro w hSw; (try dsimp only at hSw); go_simp; first | done | with_reducible rfl | fail "take")); (try simp only [Act.put, List.setIfInBounds_toArray, List.set_cons_zero, List.set_cons_succ]))
              (refine takeL (i := 5) (v := ?_) rfl (by kernel_rfl) (by kernel_rfl) (by kernel_rfl) (fun _ _ _ h => h) (Or.inl ⟨by kernel_rfl, ?_⟩) (by assumption) ?_; rotate_left; (focus (intro w hSw; (try dsimp only at hSw); go_simp; first | done | with_reducible rfl | fail "take")); (try simp only [Act.put, List.setIfInBounds_toArray, List.set_cons_zero, List.set_cons_succ]))
              (refine takeL (i := 6) (v := ?_) rfl (by kernel_rfl) (by kernel_rfl) (by kernel_rfl) (fun _ _ _ h => h) (Or.inl ⟨by kernel_rfl, ?_⟩) (by assumption) ?_; rotate_left; (focus (intro w hSw; (try dsimp only at hSw); go_simp; first | done | with_reducible rfl | fail "take")); (try simp only [Act.put, List.setIfInBounds_toArray, List.set_cons_zero, List.set_cons_succ]))
              (refine takeL (i := 7) (v := ?_) rfl (by kernel_rfl) (by kernel_rfl) (by kernel_rfl) (fun _ _ _ h => h) (Or.inl ⟨by kernel_rfl, ?_⟩) (by assumption) ?_; rotate_left; (focus (intro w hSw; (try dsimp only at hSw); go_simp; first | done | with_reducible rfl | fail "take")); (try simp only [Act.put, List.setIfInBounds_toArray, List.set_cons_zero, List.set_cons_succ]))
              (refine takeL (i := 8) (v := ?_) rfl (by kernel_rfl) (by kernel_rfl) (by kernel_rfl) (fun _ _ _ h => h) (Or.inl ⟨by kernel_rfl, ?_⟩) (by assumption) ?_; rotate_left; (focus (intro w hSw; (try dsimp only at hSw); go_simp; first | done | with_reducible rfl | fail "take")); (try simp only [Act.put, List.setIfInBounds_toArray, List.set_cons_zero, List.set_cons_succ]))
              (refine takeL (i := 9) (v := ?_) rfl (by kernel_rfl) (by kernel_rfl) (by kernel_rfl) (fun _ _ _ h => h) (Or.inl ⟨by kernel_rfl, ?_⟩) (by assumption) ?_; rotate_left; (focus (intro w hSw; (try dsimp only at hSw); go_simp; first | done | with_reducible rfl | fail "take")); (try simp only [Act.put, List.setIfInBounds_toArray, List.set_cons_zero, List.set_cons_succ]))
              (refine takeL (i := 10) (v := ?_) rfl (by kernel_rfl) (by kernel_rfl) (by kernel_rfl) (fun _ _ _ h => h) (Or.inl ⟨by kernel_rfl, ?_⟩) (by assumption) ?_; rotate_left; (focus (intro w hSw; (try dsimp only at hSw); go_simp; first | done | with_reducible rfl | fail "take")); (try simp only [Act.put, List.setIfInBounds_toArray, List.set_cons_zero, List.set_cons_succ]))
              (refine takeL (i := 11) (v := ?_) rfl (by kernel_rfl) (by kernel_rfl) (by kernel_rfl) (fun _ _ _ h => h) (Or.inl ⟨by kernel_rfl, ?_⟩) (by assumption) ?_; rotate_left; (focus (intro w hSw; (try dsimp only at hSw); go_simp; first | done | with_reducible rfl | fail "take")); (try simp only [Act.put, List.setIfInBounds_toArray, List.set_cons_zero, List.set_cons_succ]))
              (refine takeL (i := 12) (v := ?_) rfl (by kernel_rfl) (by kernel_rfl) (by kernel_rfl) (fun _ _ _ h => h) (Or.inl ⟨by kernel_rfl, ?_⟩) (by assumption) ?_; rotate_left; (focus (intro w hSw; (try dsimp only at hSw); go_simp; first | done | with_reducible rfl | fail "take")); (try simp only [Act.put, List.setIfInBounds_toArray, List.set_cons_zero, List.set_cons_succ]))
              (refine takeL (i := 13) (v := ?_) rfl (by kernel_rfl) (by kernel_rfl) (by kernel_rfl) (fun _ _ _ h => h) (Or.inl ⟨by kernel_rfl, ?_⟩) (by assumption) ?_; rotate_left; (focus (intro w hSw; (try dsimp only at hSw); go_simp; first | done | with_reducible rfl | fail "take")); (try simp only [Act.put, List.setIfInBounds_toArray, List.set_cons_zero, List.set_cons_succ]))
              (refine takeL (i := 14) (v := ?_) rfl (by kernel_rfl) (by kernel_rfl) (by kernel_rfl) (fun _ _ _ h => h) (Or.inl ⟨by kernel_rfl, ?_⟩) (by assumption) ?_; rotate_left; (focus (intro w hSw; (try dsimp only at hSw); go_simp; first | done | with_reducible rfl | fail "take")); (try simp only [Act.put, List.setIfInBounds_toArray, List.set_cons_zero, List.set_cons_succ]))
              (refine takeL (i := 15) (v := ?_) rfl (by kernel_rfl) (by kernel_rfl) (by kernel_rfl) (fun _ _ _ h => h) (Or.inl ⟨by kernel_rfl, ?_⟩) (by assumption) ?_; rotate_left; (focus (intro w hSw; (try dsimp only at hSw); go_simp; first | done | with_reducible rfl | fail "take")); (try simp only [Act.put, List.setIfInBounds_toArray, List.set_cons_zero, List.set_cons_succ]))
              (refine takeL (i := 16) (v := ?_) rfl (by kernel_rfl) (by kernel_rfl) (by kernel_rfl) (fun _ _ _ h => h) (Or.inl ⟨by kernel_rfl, ?_⟩) (by assumption) ?_; rotate_left; (focus (intro w hSw; (try dsimp only at hSw); go_simp; first | done | with_reducible rfl | fail "take")); (try simp only [Act.put, List.setIfInBounds_toArray, List.set_cons_zero, List.set_cons_succ]))
              (refine takeL (i := 17) (v := ?_) rfl (by kernel_rfl) (by kernel_rfl) (by kernel_rfl) (fun _ _ _ h => h) (Or.inl ⟨by kernel_rfl, ?_⟩) (by assumption) ?_; rotate_left; (focus (intro w hSw; (try dsimp only at hSw); go_simp; first | done | with_reducible rfl | fail "take")); (try simp only [Act.put, List.setIfInBounds_toArray, List.set_cons_zero, List.set_cons_succ]))
              (refine takeL (i := 18) (v := ?_) rfl (by kernel_rfl) (by kernel_rfl) (by kernel_rfl) (fun _ _ _ h => h) (Or.inl ⟨by kernel_rfl, ?_⟩) (by assumption) ?_; rotate_left; (focus (intro w hSw; (try dsimp only at hSw); go_simp; first | done | with_reducible rfl | fail "take")); (try simp only [Act.put, List.setIfInBounds_toArray, List.set_cons_zero, List.set_cons_succ]))
              (refine takeL (i := 19) (v := ?_) rfl (by kernel_rfl) (by kernel_rfl) (by kernel_rfl) (fun _ _ _ h => h) (Or.inl ⟨by kernel_rfl, ?_⟩) (by assumption) ?_; rotate_left; (focus (intro w hSw; (try dsimp only at hSw); go_simp; first | done | with_reducible rfl | fail "take")); (try simp only [Act.put, List.setIfInBounds_toArray, List.set_cons_zero, List.set_cons_succ]))
              (refine takeL (i := 20) (v := ?_) rfl (by kernel_rfl) (by kernel_rfl) (by kernel_rfl) (fun _ _ _ h => h) (Or.inl ⟨by kernel_rfl, ?_⟩) (by assumption) ?_; rotate_left; (focus (intro w hSw; (try dsimp only at hSw); go_simp; first | done | with_reducible rfl | fail "take")); (try simp only [Act.put, List.setIfInBounds_toArray, List.set_cons_zero, List.set_cons_succ]))
              refine wpAnyH_done (by kernel_rfl) ?_ _
              have hq := hno (by rw [hL, g1, g2]; rfl)
              go_wp2_with fail
              go_roundw
              case rel => exact ⟨j + 1, by omega, by go_num, by rw [hq], by rw [hq]; omega, hbr.trans ((show Below wr.heap.size wr _ by ((repeat (first | with_reducible assumption | with_reducible exact Below.refl _ _ | refine Below.setCell ?_ (by (first | omega | (simp; omega) | (simp; done) | fail "sml")) _ | refine Below.drew ?_ | refine Below.alloc ?_ (by (first | omega | (simp; omega) | (simp; done) | fail "sml")) _)); first | done | fail "chs")).mono hzr)⟩
              case measure => simp [intOf]; omega
            | true =>
              go_upto_region 17 with fail
              refine wp_region_held_drew (S := fun w' => (w'.cell? ⟨o1.heap.size, 0, none⟩ = some (.slice pg g.ns.length cg) ∧ w'.cell? ⟨o1.heap.size, 1, none⟩ = some (.slice (some ⟨be, oe, none⟩) g.es.length dg)) ∧ (w'.cell? ⟨be, oe + i * 4, none⟩ = some (.int .i64 x.f)) ∧ w'.cell? ⟨bl, ol + j * 2, none⟩ = some (.int .i64 (i : Int)) ∧ w'.cell? ⟨bl, ol + j * 2 + 1, none⟩ = some (.int .i64 h.t)) (by kernel_rfl) ?_ (fun hHeld => ?_)
              · exact KS.out _ (show Below wr.heap.size wr _ by ((repeat (first | with_reducible assumption | with_reducible exact Below.refl _ _ | refine Below.setCell ?_ (by (first | omega | (simp; omega) | (simp; done) | fail "sml")) _ | refine Below.drew ?_ | refine Below.alloc ?_ (by (first | omega | (simp; omega) | (simp; done) | fail "sml")) _)); first | done | fail "chs"))
              (refine takeL (i := 0) (v := ?_) rfl (by kernel_rfl) (by kernel_rfl) (by kernel_rfl) (fun _ _ _ h => h) (Or.inl ⟨by kernel_rfl, ?_⟩) (by assumption) ?_; rotate_left; (focus (intro w hSw; (try dsimp only at hSw); go_simp; first | done | with_reducible rfl | fail "take")); (try simp only [Act.put, List.setIfInBounds_toArray, List.set_cons_zero, List.set_cons_succ]))
              (refine takeL (i := 1) (v := ?_) rfl (by kernel_rfl) (by kernel_rfl) (by kernel_rfl) (fun _ _ _ h => h) (Or.inl ⟨by kernel_rfl, ?_⟩) (by assumption) ?_; rotate_left; (focus (intro w hSw; (try dsimp only at hSw); go_simp; first | done | with_reducible rfl | fail "take")); (try simp only [Act.put, List.setIfInBounds_toArray, List.set_cons_zero, List.set_cons_succ]))
              (refine takeL (i := 2) (v := ?_) rfl (by kernel_rfl) (by kernel_rfl) (by kernel_rfl) (fun _ _ _ h => h) (Or.inl ⟨by kernel_rfl, ?_⟩) (by assumption) ?_; rotate_left; (focus (intro w hSw; (try dsimp only at hSw); go_simp; first | done | with_reducible rfl | fail "take")); (try simp only [Act.put, List.setIfInBounds_toArray, List.set_cons_zero, List.set_cons_succ]))
              (refine takeL (i := 3) (v := ?_) rfl (by kernel_rfl) (by kernel_rfl) (by kernel_rfl) (fun _ _ _ h => h) (Or.inl ⟨by kernel_rfl, ?_⟩) (by assumption) ?_; rotate_left; (focus (intro w hSw; (try dsimp only at hSw); go_simp; first | done | with_reducible rfl | fail "take")); (try simp only [Act.put, List.setIfInBounds_toArray, List.set_cons_zero, List.set_cons_succ]))
              (refine takeL (i := 4) (v := ?_) rfl (by kernel_rfl) (by kernel_rfl) (by kernel_rfl) (fun _ _ _ h => h) (Or.inl ⟨by kernel_rfl, ?_⟩) (by assumption) ?_; rotate_left; (focus (intro w hSw; (try dsimp only at hSw); go_simp; first | done | with_reducible rfl | fail "take")); (try simp only [Act.put, List.setIfInBounds_toArray, List.set_cons_zero, List.set_cons_succ]))
              (refine takeL (i := 5) (v := ?_) rfl (by kernel_rfl) (by kernel_rfl) (by kernel_rfl) (fun _ _ _ h => h) (Or.inl ⟨by kernel_rfl, ?_⟩) (by assumption) ?_; rotate_left; (focus (intro w hSw; (try dsimp only at hSw); go_simp; first | done | with_reducible rfl | fail "take")); (try simp only [Act.put, List.setIfInBounds_toArray, List.set_cons_zero, List.set_cons_succ]))
              (refine takeL (i := 6) (v := ?_) rfl (by kernel_rfl) (by kernel_rfl) (by kernel_rfl) (fun _ _ _ h => h) (Or.inl ⟨by kernel_rfl, ?_⟩) (by assumption) ?_; rotate_left; (focus (intro w hSw; (try dsimp only at hSw); go_simp; first | done | with_reducible rfl | fail "take")); (try simp only [Act.put, List.setIfInBounds_toArray, List.set_cons_zero, List.set_cons_succ]))
              (refine takeL (i := 7) (v := ?_) rfl (by kernel_rfl) (by kernel_rfl) (by kernel_rfl) (fun _ _ _ h => h) (Or.inl ⟨by kernel_rfl, ?_⟩) (by assumption) ?_; rotate_left; (focus (intro w hSw; (try dsimp only at hSw); go_simp; first | done | with_reducible rfl | fail "take")); (try simp only [Act.put, List.setIfInBounds_toArray, List.set_cons_zero, List.set_cons_succ]))
              (refine takeL (i := 8) (v := ?_) rfl (by kernel_rfl) (by kernel_rfl) (by kernel_rfl) (fun _ _ _ h => h) (Or.inl ⟨by kernel_rfl, ?_⟩) (by assumption) ?_; rotate_left; (focus (intro w hSw; (try dsimp only at hSw); go_simp; first | done | with_reducible rfl | fail "take")); (try simp only [Act.put, List.setIfInBounds_toArray, List.set_cons_zero, List.set_cons_succ]))
              (refine takeL (i := 9) (v := ?_) rfl (by kernel_rfl) (by kernel_rfl) (by kernel_rfl) (fun _ _ _ h => h) (Or.inl ⟨by kernel_rfl, ?_⟩) (by assumption) ?_; rotate_left; (focus (intro w hSw; (try dsimp only at hSw); go_simp; first | done | with_reducible rfl | fail "take")); (try simp only [Act.put, List.setIfInBounds_toArray, List.set_cons_zero, List.set_cons_succ]))
              (refine takeL (i := 10) (v := ?_) rfl (by kernel_rfl) (by kernel_rfl) (by kernel_rfl) (fun _ _ _ h => h) (Or.inl ⟨by kernel_rfl, ?_⟩) (by assumption) ?_; rotate_left; (focus (intro w hSw; (try dsimp only at hSw); go_simp; first | done | with_reducible rfl | fail "take")); (try simp only [Act.put, List.setIfInBounds_toArray, List.set_cons_zero, List.set_cons_succ]))
              (refine takeL (i := 11) (v := ?_) rfl (by kernel_rfl) (by kernel_rfl) (by kernel_rfl) (fun _ _ _ h => h) (Or.inl ⟨by kernel_rfl, ?_⟩) (by assumption) ?_; rotate_left; (focus (intro w hSw; (try dsimp only at hSw); go_simp; first | done | with_reducible rfl | fail "take")); (try simp only [Act.put, List.setIfInBounds_toArray, List.set_cons_zero, List.set_cons_succ]))
              (refine takeL (i := 12) (v := ?_) rfl (by kernel_rfl) (by kernel_rfl) (by kernel_rfl) (fun _ _ _ h => h) (Or.inl ⟨by kernel_rfl, ?_⟩) (by assumption) ?_; rotate_left; (focus (intro w hSw; (try dsimp only at hSw); go_simp; first | done | with_reducible rfl | fail "take")); (try simp only [Act.put, List.setIfInBounds_toArray, List.set_cons_zero, List.set_cons_succ]))
              (refine takeL (i := 13) (v := ?_) rfl (by kernel_rfl) (by kernel_rfl) (by kernel_rfl) (fun _ _ _ h => h) (Or.inl ⟨by kernel_rfl, ?_⟩) (by assumption) ?_; rotate_left; (focus (intro w hSw; (try dsimp only at hSw); go_simp; first | done | with_reducible rfl | fail "take")); (try simp only [Act.put, List.setIfInBounds_toArray, List.set_cons_zero, List.set_cons_succ]))
              (refine takeL (i := 14) (v := ?_) rfl (by kernel_rfl) (by kernel_rfl) (by kernel_rfl) (fun _ _ _ h => h) (Or.inl ⟨by kernel_rfl, ?_⟩) (by assumption) ?_; rotate_left; (focus (intro w hSw; (try dsimp only at hSw); go_simp; first | done | with_reducible rfl | fail "take")); (try simp only [Act.put, List.setIfInBounds_toArray, List.set_cons_zero, List.set_cons_succ]))
              (refine takeL (i := 15) (v := ?_) rfl (by kernel_rfl) (by kernel_rfl) (by kernel_rfl) (fun _ _ _ h => h) (Or.inl ⟨by kernel_rfl, ?_⟩) (by assumption) ?_; rotate_left; (focus (intro w hSw; (try dsimp only at hSw); go_simp; first | done | with_reducible rfl | fail "take")); (try simp only [Act.put, List.setIfInBounds_toArray, List.set_cons_zero, List.set_cons_succ]))
              (refine takeL (i := 16) (v := ?_) rfl (by kernel_rfl) (by kernel_rfl) (by kernel_rfl) (fun _ _ _ h => h) (Or.inl ⟨by kernel_rfl, ?_⟩) (by assumption) ?_; rotate_left; (focus (intro w hSw; (try dsimp only at hSw); go_simp; first | done | with_reducible rfl | fail "take")); (try simp only [Act.put, List.setIfInBounds_toArray, List.set_cons_zero, List.set_cons_succ]))
              (refine takeL (i := 17) (v := ?_) rfl (by kernel_rfl) (by kernel_rfl) (by kernel_rfl) (fun _ _ _ h => h) (Or.inl ⟨by kernel_rfl, ?_⟩) (by assumption) ?_; rotate_left; (focus (intro w hSw; (try dsimp only at hSw); go_simp; first | done | with_reducible rfl | fail "take")); (try simp only [Act.put, List.setIfInBounds_toArray, List.set_cons_zero, List.set_cons_succ]))
              (refine takeL (i := 18) (v := ?_) rfl (by kernel_rfl) (by kernel_rfl) (by kernel_rfl) (fun _ _ _ h => h) (Or.inl ⟨by kernel_rfl, ?_⟩) (by assumption) ?_; rotate_left; (focus (intro w hSw; (try dsimp only at hSw); go_simp; first | done | with_reducible rfl | fail "take")); (try simp only [Act.put, List.setIfInBounds_toArray, List.set_cons_zero, List.set_cons_succ]))
              (refine takeL (i := 19) (v := ?_) rfl (by kernel_rfl) (by kernel_rfl) (by kernel_rfl) (fun _ _ _ h => h) (Or.inl ⟨by kernel_rfl, ?_⟩) (by assumption) ?_; rotate_left; (focus (intro w hSw; (try dsimp only at hSw); go_simp; first | done | with_reducible rfl | fail "take")); (try simp only [Act.put, List.setIfInBounds_toArray, List.set_cons_zero, List.set_cons_succ]))
              (refine takeL (i := 20) (v := ?_) rfl (by kernel_rfl) (by kernel_rfl) (by kernel_rfl) (fun _ _ _ h => h) (Or.inl ⟨by kernel_rfl, ?_⟩) (by assumption) ?_; rotate_left; (focus (intro w hSw; (try dsimp only at hSw); go_simp; first | done | with_reducible rfl | fail "take")); (try simp only [Act.put, List.setIfInBounds_toArray, List.set_cons_zero, List.set_cons_succ]))
              refine wpAnyH_done (by kernel_rfl) ?_ _
              have hq := hyes (by rw [hL, g1, g2]; rfl)
              go_wp2_with fail
              go_roundw
              case rel => exact ⟨j + 1, by omega, by go_num, by rw [hq]; go_num, by rw [hq]; omega, hbr.trans ((show Below wr.heap.size wr _ by ((repeat (first | with_reducible assumption | with_reducible exact Below.refl _ _ | refine Below.setCell ?_ (by (first | omega | (simp; omega) | (simp; done) | fail "sml")) _ | refine Below.drew ?_ | refine Below.alloc ?_ (by (first | omega | (simp; omega) | (simp; done) | fail "sml")) _)); first | done | fail "chs")).mono hzr)⟩
              case measure => simp [intOf]; omega
        · obtain rfl : j = R3.length := by omega
          rw [loopC_all] at hs
          subst hs
          have hl1 : R1.length ≤ 14 := by rw [← ER1]; exact hopsR_len g n _
          have hl2 : R2.length ≤ 14 := by rw [← ER2]; exact hopsR_len g n _
          obtain ⟨C, EC⟩ : ∃ C, loopC g.es n R3 = C := ⟨_, rfl⟩
          rw [EC] at HEQ ⊢
          have q9 : ((R3.length : Int) == (R1.length : Int) + (R2.length : Int) - (C : Int)) = true := beq_iff_eq.2 (by omega)
          go_wp2_with fail
          go_ret
          exact ⟨rfl, rwo8.trans (hbr.mono zwo8)⟩

end Go.Proofs.YtghhabailgfelaaDoor
