/- The walk of FnNodeFits. -/
import Derived.Test.YtkehmecnoeghoaaDoorL3E
import Derived.Test.YtkehmecnoeghoaaDoorM6p1
import Derived.Test.YtkehmecnoeghoaaDoorM0p1
import Derived.Test.YtkehmecnoeghoaaDoorM7p1
import Derived.Test.YtkehmecnoeghoaaDoorFitsS
namespace Go.Proofs.YtkehmecnoeghoaaDoor
open Go.RowKit

set_option maxRecDepth 100000 in
set_option maxHeartbeats 16000000 in
theorem lawNodeFits (zs : List Int) (v : Value) (w : World) (hv : Sl 1 byCells w.heap.size w v zs) (hz : ∀ z ∈ zs, 0 ≤ z ∧ z ≤ 255) (hvars : Vars w) :
    Calls Tryd.prog 4 #[v] w fun e w' => e = .returned (.bool true) ∧ Below w.heap.size w w' := by
  have HVV := Lib.hid hvars
  clear hvars
  obtain ⟨p, cap, rfl⟩ := hv.form
  have hm := hv.max
  unfold maxLen at hm
  by_cases hbig : (1048576 : Int) < zs.length
  · go_enter Tryd.func4, Tryd.ntmps4
    go_wp2_with fail
    go_ret
    exact ⟨rfl, Below.refl _ _⟩
  go_enter Tryd.func4, Tryd.ntmps4
  go_wp2_with fail
  have rw0 := Below.refl w.heap.size w
  refine Calls.mono (drawNodeFits_any zs _ w.heap.size _ hv (Nat.le_refl _) hz) ?_
  rintro en u1 ⟨g, vg, Fg, n, ⟨yn, yv, yl, yc, yd⟩, p, c, p', c', rfl, hg, hn, hy, hb⟩
  have rwu1 := Below.trans (show Below w.heap.size w _ by assumption) (hb.mono (by omega))
  have zwu1 := rwu1.size
  obtain ⟨pg, cg, qg, dg, rfl⟩ := hg.1.form
  have hok := hg.2.2.1
  have hgl := And.intro hg.2.2.2.1 hg.2.2.2.2
  have hysm := hy.sm
  have HAU := Lib.hid (And.intro hg.1.at hy.at)
  clear hg hy
  clear hb 
  have ru10 := Below.refl u1.heap.size u1
  cases yn with
  | false =>
    go_upto_region 4 with fail
    obtain ⟨W, eW⟩ : ∃ E, E = (u1.alloc (.cells #[.slice pg g.ns.length cg, .slice qg g.es.length dg] 35)).alloc (.cells #[.bool false, .string yv, .int .i64 yl.op, .string yl.a, .slice p yl.ks.list.length c, .int .i64 yc.op, .string yc.a, .slice p' yc.ks.list.length c', .int .i64 yd] 27) := ⟨_, rfl⟩
    have kW : Below u1.heap.size u1 W := by rw [eW]; ((repeat (first | with_reducible assumption | with_reducible exact Below.refl _ _ | refine Below.setCell ?_ (by (first | omega | (simp; omega) | (simp; done) | fail "sml")) _ | refine Below.drew ?_ | refine Below.alloc ?_ (by (first | omega | (simp; omega) | (simp; done) | fail "sml")) _)); first | done | fail "chs")
    have sW : u1.heap.size + 1 < W.heap.size := by rw [eW]; simp
    have HCW := Lib.hid (show (W.cell? ⟨u1.heap.size, 0, none⟩ = some (.slice pg g.ns.length cg) ∧ W.cell? ⟨u1.heap.size, 1, none⟩ = some (.slice qg g.es.length dg) ∧ W.cell? ⟨u1.heap.size + 1, 0, none⟩ = some (.bool false) ∧ W.cell? ⟨u1.heap.size + 1, 1, none⟩ = some (.string yv) ∧ W.cell? ⟨u1.heap.size + 1, 2, none⟩ = some (.int .i64 yl.op) ∧ W.cell? ⟨u1.heap.size + 1, 3, none⟩ = some (.string yl.a) ∧ W.cell? ⟨u1.heap.size + 1, 4, none⟩ = some (.slice p yl.ks.list.length c) ∧ W.cell? ⟨u1.heap.size + 1, 5, none⟩ = some (.int .i64 yc.op) ∧ W.cell? ⟨u1.heap.size + 1, 6, none⟩ = some (.string yc.a) ∧ W.cell? ⟨u1.heap.size + 1, 7, none⟩ = some (.slice p' yc.ks.list.length c') ∧ W.cell? ⟨u1.heap.size + 1, 8, none⟩ = some (.int .i64 yd)) ∧ ∀ i, W.frozen? ⟨u1.heap.size + 1, i, none⟩ = false from by rw [eW]; exact ⟨⟨by simp [go_sem], by simp [go_sem], by simp [go_sem], by simp [go_sem], by simp [go_sem], by simp [go_sem], by simp [go_sem], by simp [go_sem], by simp [go_sem], by simp [go_sem], by simp [go_sem]⟩, fun i => by simp [go_sem]⟩)
    have rwW := Below.trans (show Below w.heap.size w _ by ((repeat (first | with_reducible assumption | with_reducible exact Below.refl _ _ | refine Below.setCell ?_ (by (first | omega | (simp; omega) | (simp; done) | fail "sml")) _ | refine Below.drew ?_ | refine Below.alloc ?_ (by (first | omega | (simp; omega) | (simp; done) | fail "sml")) _)); first | done | fail "chs")) (kW.mono (by (first | omega | (simp; omega) | (simp; done) | fail "sml")))
    have ru1W := Below.trans (show Below u1.heap.size u1 _ by ((repeat (first | with_reducible assumption | with_reducible exact Below.refl _ _ | refine Below.setCell ?_ (by (first | omega | (simp; omega) | (simp; done) | fail "sml")) _ | refine Below.drew ?_ | refine Below.alloc ?_ (by (first | omega | (simp; omega) | (simp; done) | fail "sml")) _)); first | done | fail "chs")) (kW.mono (by (first | omega | (simp; omega) | (simp; done) | fail "sml")))
    rw [← eW]
    have HKW := Lib.hid (fun (E : World) (hE : Below W.heap.size W E) => (⟨keepc hE (by omega) HCW.out.1.1, keepc hE (by omega) HCW.out.1.2.1, keepc hE (by omega) HCW.out.1.2.2.1, keepc hE (by omega) HCW.out.1.2.2.2.1, keepc hE (by omega) HCW.out.1.2.2.2.2.1, keepc hE (by omega) HCW.out.1.2.2.2.2.2.1, keepc hE (by omega) HCW.out.1.2.2.2.2.2.2.1, keepc hE (by omega) HCW.out.1.2.2.2.2.2.2.2.1, keepc hE (by omega) HCW.out.1.2.2.2.2.2.2.2.2.1, keepc hE (by omega) HCW.out.1.2.2.2.2.2.2.2.2.2.1, keepc hE (by omega) HCW.out.1.2.2.2.2.2.2.2.2.2.2⟩ : E.cell? ⟨u1.heap.size, 0, none⟩ = some (.slice pg g.ns.length cg) ∧ E.cell? ⟨u1.heap.size, 1, none⟩ = some (.slice qg g.es.length dg) ∧ E.cell? ⟨u1.heap.size + 1, 0, none⟩ = some (.bool false) ∧ E.cell? ⟨u1.heap.size + 1, 1, none⟩ = some (.string yv) ∧ E.cell? ⟨u1.heap.size + 1, 2, none⟩ = some (.int .i64 yl.op) ∧ E.cell? ⟨u1.heap.size + 1, 3, none⟩ = some (.string yl.a) ∧ E.cell? ⟨u1.heap.size + 1, 4, none⟩ = some (.slice p yl.ks.list.length c) ∧ E.cell? ⟨u1.heap.size + 1, 5, none⟩ = some (.int .i64 yc.op) ∧ E.cell? ⟨u1.heap.size + 1, 6, none⟩ = some (.string yc.a) ∧ E.cell? ⟨u1.heap.size + 1, 7, none⟩ = some (.slice p' yc.ks.list.length c') ∧ E.cell? ⟨u1.heap.size + 1, 8, none⟩ = some (.int .i64 yd)))
    have rW0 := Below.refl W.heap.size W
    obtain ⟨yW0, yW1, yW2, yW3, yW4, yW5, yW6, yW7, yW8, yW9, yW10⟩ := HKW.out _ rW0
    clear eW kW
    cases EG : gv g with
    | false =>
      have EB : nodeF g n (⟨false, yv, yl, yc, yd⟩ : El) = false := by unfold nodeF; rw [EG]; rfl
      go_wp2_with fail
      refine Calls.mono (EB ▸ nodeFits_any g (⟨false, yv, yl, yc, yd⟩ : El) _ _ n u1.heap.size _ (HAU.out.1.below (show Below u1.heap.size u1 _ by assumption)) (HAU.out.2.below (show Below u1.heap.size u1 _ by assumption) (Nat.le_refl _)) (show Below u1.heap.size u1 _ by assumption).size hok hysm (HVV.out.below (show Below w.heap.size w _ by assumption))) ?_
      rintro en u2 ⟨rfl, hb⟩
      have rwu2 := Below.trans (show Below w.heap.size w _ by assumption) (hb.mono (by omega))
      have zwu2 := rwu2.size
      have ru1u2 := Below.trans (show Below u1.heap.size u1 _ by assumption) (hb.mono (by omega))
      have zu1u2 := ru1u2.size
      have rWu2 := Below.trans (show Below W.heap.size W _ by assumption) (hb.mono (by omega))
      have zWu2 := rWu2.size
      clear hb yW0 yW1 yW2 yW3 yW4 yW5 yW6 yW7 yW8 yW9 yW10
      obtain ⟨yW0, yW1, yW2, yW3, yW4, yW5, yW6, yW7, yW8, yW9, yW10⟩ := HKW.out _ rWu2
      go_wp2_with fail
      refine Calls.mono (EB ▸ specNodeFits_any g (⟨false, yv, yl, yc, yd⟩ : El) _ _ n u1.heap.size _ (HAU.out.1.below (show Below u1.heap.size u1 _ by assumption)) (HAU.out.2.below (show Below u1.heap.size u1 _ by assumption) (Nat.le_refl _)) (show Below u1.heap.size u1 _ by assumption).size hok hysm) ?_
      rintro en u3 ⟨rfl, hb⟩
      have rwu3 := Below.trans (show Below w.heap.size w _ by assumption) (hb.mono (by omega))
      have zwu3 := rwu3.size
      have ru1u3 := Below.trans (show Below u1.heap.size u1 _ by assumption) (hb.mono (by omega))
      have zu1u3 := ru1u3.size
      have rWu3 := Below.trans (show Below W.heap.size W _ by assumption) (hb.mono (by omega))
      have zWu3 := rWu3.size
      clear hb yW0 yW1 yW2 yW3 yW4 yW5 yW6 yW7 yW8 yW9 yW10
      obtain ⟨yW0, yW1, yW2, yW3, yW4, yW5, yW6, yW7, yW8, yW9, yW10⟩ := HKW.out _ rWu3
      go_wp2_with fail
      refine Calls.mono (EG ▸ graphValid_any g _ u1.heap.size _ (HAU.out.1.below (show Below u1.heap.size u1 _ by assumption)) (show Below u1.heap.size u1 _ by assumption).size hok) ?_
      rintro en u4 ⟨rfl, hb⟩
      have rwu4 := Below.trans (show Below w.heap.size w _ by assumption) (hb.mono (by omega))
      have zwu4 := rwu4.size
      have ru1u4 := Below.trans (show Below u1.heap.size u1 _ by assumption) (hb.mono (by omega))
      have zu1u4 := ru1u4.size
      have rWu4 := Below.trans (show Below W.heap.size W _ by assumption) (hb.mono (by omega))
      have zWu4 := rWu4.size
      clear hb yW0 yW1 yW2 yW3 yW4 yW5 yW6 yW7 yW8 yW9 yW10
      obtain ⟨yW0, yW1, yW2, yW3, yW4, yW5, yW6, yW7, yW8, yW9, yW10⟩ := HKW.out _ rWu4
      go_wp2_with fail
      refine Calls.mono (EB ▸ specNodeFits_any g (⟨false, yv, yl, yc, yd⟩ : El) _ _ n u1.heap.size _ (HAU.out.1.below (show Below u1.heap.size u1 _ by assumption)) (HAU.out.2.below (show Below u1.heap.size u1 _ by assumption) (Nat.le_refl _)) (show Below u1.heap.size u1 _ by assumption).size hok hysm) ?_
      rintro en u5 ⟨rfl, hb⟩
      have rwu5 := Below.trans (show Below w.heap.size w _ by assumption) (hb.mono (by omega))
      have zwu5 := rwu5.size
      have ru1u5 := Below.trans (show Below u1.heap.size u1 _ by assumption) (hb.mono (by omega))
      have zu1u5 := ru1u5.size
      have rWu5 := Below.trans (show Below W.heap.size W _ by assumption) (hb.mono (by omega))
      have zWu5 := rWu5.size
      clear hb yW0 yW1 yW2 yW3 yW4 yW5 yW6 yW7 yW8 yW9 yW10
      obtain ⟨yW0, yW1, yW2, yW3, yW4, yW5, yW6, yW7, yW8, yW9, yW10⟩ := HKW.out _ rWu5
      go_wp2_with fail
      go_ret
      exact ⟨rfl, by ((repeat (first | with_reducible assumption | with_reducible exact Below.refl _ _ | refine Below.setCell ?_ (by (first | omega | (simp; omega) | (simp; done) | fail "sml")) _ | refine Below.drew ?_ | refine Below.alloc ?_ (by (first | omega | (simp; omega) | (simp; done) | fail "sml")) _)); first | done | fail "chs")⟩
    | true =>
      cases EE : elemV (⟨false, yv, yl, yc, yd⟩ : El) with
      | false =>
        have EB : nodeF g n (⟨false, yv, yl, yc, yd⟩ : El) = false := by unfold nodeF; rw [EE]; simp
        go_wp2_with fail
        refine Calls.mono (EB ▸ nodeFits_any g (⟨false, yv, yl, yc, yd⟩ : El) _ _ n u1.heap.size _ (HAU.out.1.below (show Below u1.heap.size u1 _ by assumption)) (HAU.out.2.below (show Below u1.heap.size u1 _ by assumption) (Nat.le_refl _)) (show Below u1.heap.size u1 _ by assumption).size hok hysm (HVV.out.below (show Below w.heap.size w _ by assumption))) ?_
        rintro en u2 ⟨rfl, hb⟩
        have rwu2 := Below.trans (show Below w.heap.size w _ by assumption) (hb.mono (by omega))
        have zwu2 := rwu2.size
        have ru1u2 := Below.trans (show Below u1.heap.size u1 _ by assumption) (hb.mono (by omega))
        have zu1u2 := ru1u2.size
        have rWu2 := Below.trans (show Below W.heap.size W _ by assumption) (hb.mono (by omega))
        have zWu2 := rWu2.size
        clear hb yW0 yW1 yW2 yW3 yW4 yW5 yW6 yW7 yW8 yW9 yW10
        obtain ⟨yW0, yW1, yW2, yW3, yW4, yW5, yW6, yW7, yW8, yW9, yW10⟩ := HKW.out _ rWu2
        go_wp2_with fail
        refine Calls.mono (EB ▸ specNodeFits_any g (⟨false, yv, yl, yc, yd⟩ : El) _ _ n u1.heap.size _ (HAU.out.1.below (show Below u1.heap.size u1 _ by assumption)) (HAU.out.2.below (show Below u1.heap.size u1 _ by assumption) (Nat.le_refl _)) (show Below u1.heap.size u1 _ by assumption).size hok hysm) ?_
        rintro en u3 ⟨rfl, hb⟩
        have rwu3 := Below.trans (show Below w.heap.size w _ by assumption) (hb.mono (by omega))
        have zwu3 := rwu3.size
        have ru1u3 := Below.trans (show Below u1.heap.size u1 _ by assumption) (hb.mono (by omega))
        have zu1u3 := ru1u3.size
        have rWu3 := Below.trans (show Below W.heap.size W _ by assumption) (hb.mono (by omega))
        have zWu3 := rWu3.size
        clear hb yW0 yW1 yW2 yW3 yW4 yW5 yW6 yW7 yW8 yW9 yW10
        obtain ⟨yW0, yW1, yW2, yW3, yW4, yW5, yW6, yW7, yW8, yW9, yW10⟩ := HKW.out _ rWu3
        go_wp2_with fail
        refine Calls.mono (EG ▸ graphValid_any g _ u1.heap.size _ (HAU.out.1.below (show Below u1.heap.size u1 _ by assumption)) (show Below u1.heap.size u1 _ by assumption).size hok) ?_
        rintro en u4 ⟨rfl, hb⟩
        have rwu4 := Below.trans (show Below w.heap.size w _ by assumption) (hb.mono (by omega))
        have zwu4 := rwu4.size
        have ru1u4 := Below.trans (show Below u1.heap.size u1 _ by assumption) (hb.mono (by omega))
        have zu1u4 := ru1u4.size
        have rWu4 := Below.trans (show Below W.heap.size W _ by assumption) (hb.mono (by omega))
        have zWu4 := rWu4.size
        clear hb yW0 yW1 yW2 yW3 yW4 yW5 yW6 yW7 yW8 yW9 yW10
        obtain ⟨yW0, yW1, yW2, yW3, yW4, yW5, yW6, yW7, yW8, yW9, yW10⟩ := HKW.out _ rWu4
        go_wp2_with fail
        refine Calls.mono (EE ▸ elemValid_any (⟨false, yv, yl, yc, yd⟩ : El) _ u1.heap.size _ (HAU.out.2.below (show Below u1.heap.size u1 _ by assumption) (Nat.le_refl _)) (show Below u1.heap.size u1 _ by assumption).size hysm (HVV.out.below (show Below w.heap.size w _ by assumption))) ?_
        rintro en u5 ⟨rfl, hb⟩
        have rwu5 := Below.trans (show Below w.heap.size w _ by assumption) (hb.mono (by omega))
        have zwu5 := rwu5.size
        have ru1u5 := Below.trans (show Below u1.heap.size u1 _ by assumption) (hb.mono (by omega))
        have zu1u5 := ru1u5.size
        have rWu5 := Below.trans (show Below W.heap.size W _ by assumption) (hb.mono (by omega))
        have zWu5 := rWu5.size
        clear hb yW0 yW1 yW2 yW3 yW4 yW5 yW6 yW7 yW8 yW9 yW10
        obtain ⟨yW0, yW1, yW2, yW3, yW4, yW5, yW6, yW7, yW8, yW9, yW10⟩ := HKW.out _ rWu5
        go_wp2_with fail
        refine Calls.mono (EB ▸ specNodeFits_any g (⟨false, yv, yl, yc, yd⟩ : El) _ _ n u1.heap.size _ (HAU.out.1.below (show Below u1.heap.size u1 _ by assumption)) (HAU.out.2.below (show Below u1.heap.size u1 _ by assumption) (Nat.le_refl _)) (show Below u1.heap.size u1 _ by assumption).size hok hysm) ?_
        rintro en u6 ⟨rfl, hb⟩
        have rwu6 := Below.trans (show Below w.heap.size w _ by assumption) (hb.mono (by omega))
        have zwu6 := rwu6.size
        have ru1u6 := Below.trans (show Below u1.heap.size u1 _ by assumption) (hb.mono (by omega))
        have zu1u6 := ru1u6.size
        have rWu6 := Below.trans (show Below W.heap.size W _ by assumption) (hb.mono (by omega))
        have zWu6 := rWu6.size
        clear hb yW0 yW1 yW2 yW3 yW4 yW5 yW6 yW7 yW8 yW9 yW10
        obtain ⟨yW0, yW1, yW2, yW3, yW4, yW5, yW6, yW7, yW8, yW9, yW10⟩ := HKW.out _ rWu6
        go_wp2_with fail
        go_ret
        exact ⟨rfl, by ((repeat (first | with_reducible assumption | with_reducible exact Below.refl _ _ | refine Below.setCell ?_ (by (first | omega | (simp; omega) | (simp; done) | fail "sml")) _ | refine Below.drew ?_ | refine Below.alloc ?_ (by (first | omega | (simp; omega) | (simp; done) | fail "sml")) _)); first | done | fail "chs")⟩
      | true =>
        have EB : nodeF g n (⟨false, yv, yl, yc, yd⟩ : El) = false := by unfold nodeF; simp
        go_wp2_with fail
        refine Calls.mono (EB ▸ nodeFits_any g (⟨false, yv, yl, yc, yd⟩ : El) _ _ n u1.heap.size _ (HAU.out.1.below (show Below u1.heap.size u1 _ by assumption)) (HAU.out.2.below (show Below u1.heap.size u1 _ by assumption) (Nat.le_refl _)) (show Below u1.heap.size u1 _ by assumption).size hok hysm (HVV.out.below (show Below w.heap.size w _ by assumption))) ?_
        rintro en u2 ⟨rfl, hb⟩
        have rwu2 := Below.trans (show Below w.heap.size w _ by assumption) (hb.mono (by omega))
        have zwu2 := rwu2.size
        have ru1u2 := Below.trans (show Below u1.heap.size u1 _ by assumption) (hb.mono (by omega))
        have zu1u2 := ru1u2.size
        have rWu2 := Below.trans (show Below W.heap.size W _ by assumption) (hb.mono (by omega))
        have zWu2 := rWu2.size
        clear hb yW0 yW1 yW2 yW3 yW4 yW5 yW6 yW7 yW8 yW9 yW10
        obtain ⟨yW0, yW1, yW2, yW3, yW4, yW5, yW6, yW7, yW8, yW9, yW10⟩ := HKW.out _ rWu2
        go_wp2_with fail
        refine Calls.mono (EB ▸ specNodeFits_any g (⟨false, yv, yl, yc, yd⟩ : El) _ _ n u1.heap.size _ (HAU.out.1.below (show Below u1.heap.size u1 _ by assumption)) (HAU.out.2.below (show Below u1.heap.size u1 _ by assumption) (Nat.le_refl _)) (show Below u1.heap.size u1 _ by assumption).size hok hysm) ?_
        rintro en u3 ⟨rfl, hb⟩
        have rwu3 := Below.trans (show Below w.heap.size w _ by assumption) (hb.mono (by omega))
        have zwu3 := rwu3.size
        have ru1u3 := Below.trans (show Below u1.heap.size u1 _ by assumption) (hb.mono (by omega))
        have zu1u3 := ru1u3.size
        have rWu3 := Below.trans (show Below W.heap.size W _ by assumption) (hb.mono (by omega))
        have zWu3 := rWu3.size
        clear hb yW0 yW1 yW2 yW3 yW4 yW5 yW6 yW7 yW8 yW9 yW10
        obtain ⟨yW0, yW1, yW2, yW3, yW4, yW5, yW6, yW7, yW8, yW9, yW10⟩ := HKW.out _ rWu3
        go_wp2_with fail
        refine Calls.mono (EG ▸ graphValid_any g _ u1.heap.size _ (HAU.out.1.below (show Below u1.heap.size u1 _ by assumption)) (show Below u1.heap.size u1 _ by assumption).size hok) ?_
        rintro en u4 ⟨rfl, hb⟩
        have rwu4 := Below.trans (show Below w.heap.size w _ by assumption) (hb.mono (by omega))
        have zwu4 := rwu4.size
        have ru1u4 := Below.trans (show Below u1.heap.size u1 _ by assumption) (hb.mono (by omega))
        have zu1u4 := ru1u4.size
        have rWu4 := Below.trans (show Below W.heap.size W _ by assumption) (hb.mono (by omega))
        have zWu4 := rWu4.size
        clear hb yW0 yW1 yW2 yW3 yW4 yW5 yW6 yW7 yW8 yW9 yW10
        obtain ⟨yW0, yW1, yW2, yW3, yW4, yW5, yW6, yW7, yW8, yW9, yW10⟩ := HKW.out _ rWu4
        go_wp2_with fail
        refine Calls.mono (EE ▸ elemValid_any (⟨false, yv, yl, yc, yd⟩ : El) _ u1.heap.size _ (HAU.out.2.below (show Below u1.heap.size u1 _ by assumption) (Nat.le_refl _)) (show Below u1.heap.size u1 _ by assumption).size hysm (HVV.out.below (show Below w.heap.size w _ by assumption))) ?_
        rintro en u5 ⟨rfl, hb⟩
        have rwu5 := Below.trans (show Below w.heap.size w _ by assumption) (hb.mono (by omega))
        have zwu5 := rwu5.size
        have ru1u5 := Below.trans (show Below u1.heap.size u1 _ by assumption) (hb.mono (by omega))
        have zu1u5 := ru1u5.size
        have rWu5 := Below.trans (show Below W.heap.size W _ by assumption) (hb.mono (by omega))
        have zWu5 := rWu5.size
        clear hb yW0 yW1 yW2 yW3 yW4 yW5 yW6 yW7 yW8 yW9 yW10
        obtain ⟨yW0, yW1, yW2, yW3, yW4, yW5, yW6, yW7, yW8, yW9, yW10⟩ := HKW.out _ rWu5
        go_wp2_with fail
        refine Calls.mono (EB ▸ specNodeFits_any g (⟨false, yv, yl, yc, yd⟩ : El) _ _ n u1.heap.size _ (HAU.out.1.below (show Below u1.heap.size u1 _ by assumption)) (HAU.out.2.below (show Below u1.heap.size u1 _ by assumption) (Nat.le_refl _)) (show Below u1.heap.size u1 _ by assumption).size hok hysm) ?_
        rintro en u6 ⟨rfl, hb⟩
        have rwu6 := Below.trans (show Below w.heap.size w _ by assumption) (hb.mono (by omega))
        have zwu6 := rwu6.size
        have ru1u6 := Below.trans (show Below u1.heap.size u1 _ by assumption) (hb.mono (by omega))
        have zu1u6 := ru1u6.size
        have rWu6 := Below.trans (show Below W.heap.size W _ by assumption) (hb.mono (by omega))
        have zWu6 := rWu6.size
        clear hb yW0 yW1 yW2 yW3 yW4 yW5 yW6 yW7 yW8 yW9 yW10
        obtain ⟨yW0, yW1, yW2, yW3, yW4, yW5, yW6, yW7, yW8, yW9, yW10⟩ := HKW.out _ rWu6
        go_wp2_with fail
        go_ret
        exact ⟨rfl, by ((repeat (first | with_reducible assumption | with_reducible exact Below.refl _ _ | refine Below.setCell ?_ (by (first | omega | (simp; omega) | (simp; done) | fail "sml")) _ | refine Below.drew ?_ | refine Below.alloc ?_ (by (first | omega | (simp; omega) | (simp; done) | fail "sml")) _)); first | done | fail "chs")⟩
  | true =>
    go_upto_region 4 with fail
    obtain ⟨W, eW⟩ : ∃ E, E = (u1.alloc (.cells #[.slice pg g.ns.length cg, .slice qg g.es.length dg] 35)).alloc (.cells #[.bool true, .string yv, .int .i64 yl.op, .string yl.a, .slice p yl.ks.list.length c, .int .i64 yc.op, .string yc.a, .slice p' yc.ks.list.length c', .int .i64 yd] 27) := ⟨_, rfl⟩
    have kW : Below u1.heap.size u1 W := by rw [eW]; ((repeat (first | with_reducible assumption | with_reducible exact Below.refl _ _ | refine Below.setCell ?_ (by (first | omega | (simp; omega) | (simp; done) | fail "sml")) _ | refine Below.drew ?_ | refine Below.alloc ?_ (by (first | omega | (simp; omega) | (simp; done) | fail "sml")) _)); first | done | fail "chs")
    have sW : u1.heap.size + 1 < W.heap.size := by rw [eW]; simp
    have HCW := Lib.hid (show (W.cell? ⟨u1.heap.size, 0, none⟩ = some (.slice pg g.ns.length cg) ∧ W.cell? ⟨u1.heap.size, 1, none⟩ = some (.slice qg g.es.length dg) ∧ W.cell? ⟨u1.heap.size + 1, 0, none⟩ = some (.bool true) ∧ W.cell? ⟨u1.heap.size + 1, 1, none⟩ = some (.string yv) ∧ W.cell? ⟨u1.heap.size + 1, 2, none⟩ = some (.int .i64 yl.op) ∧ W.cell? ⟨u1.heap.size + 1, 3, none⟩ = some (.string yl.a) ∧ W.cell? ⟨u1.heap.size + 1, 4, none⟩ = some (.slice p yl.ks.list.length c) ∧ W.cell? ⟨u1.heap.size + 1, 5, none⟩ = some (.int .i64 yc.op) ∧ W.cell? ⟨u1.heap.size + 1, 6, none⟩ = some (.string yc.a) ∧ W.cell? ⟨u1.heap.size + 1, 7, none⟩ = some (.slice p' yc.ks.list.length c') ∧ W.cell? ⟨u1.heap.size + 1, 8, none⟩ = some (.int .i64 yd)) ∧ ∀ i, W.frozen? ⟨u1.heap.size + 1, i, none⟩ = false from by rw [eW]; exact ⟨⟨by simp [go_sem], by simp [go_sem], by simp [go_sem], by simp [go_sem], by simp [go_sem], by simp [go_sem], by simp [go_sem], by simp [go_sem], by simp [go_sem], by simp [go_sem], by simp [go_sem]⟩, fun i => by simp [go_sem]⟩)
    have rwW := Below.trans (show Below w.heap.size w _ by ((repeat (first | with_reducible assumption | with_reducible exact Below.refl _ _ | refine Below.setCell ?_ (by (first | omega | (simp; omega) | (simp; done) | fail "sml")) _ | refine Below.drew ?_ | refine Below.alloc ?_ (by (first | omega | (simp; omega) | (simp; done) | fail "sml")) _)); first | done | fail "chs")) (kW.mono (by (first | omega | (simp; omega) | (simp; done) | fail "sml")))
    have ru1W := Below.trans (show Below u1.heap.size u1 _ by ((repeat (first | with_reducible assumption | with_reducible exact Below.refl _ _ | refine Below.setCell ?_ (by (first | omega | (simp; omega) | (simp; done) | fail "sml")) _ | refine Below.drew ?_ | refine Below.alloc ?_ (by (first | omega | (simp; omega) | (simp; done) | fail "sml")) _)); first | done | fail "chs")) (kW.mono (by (first | omega | (simp; omega) | (simp; done) | fail "sml")))
    rw [← eW]
    have HKW := Lib.hid (fun (E : World) (hE : Below W.heap.size W E) => (⟨keepc hE (by omega) HCW.out.1.1, keepc hE (by omega) HCW.out.1.2.1, keepc hE (by omega) HCW.out.1.2.2.1, keepc hE (by omega) HCW.out.1.2.2.2.1, keepc hE (by omega) HCW.out.1.2.2.2.2.1, keepc hE (by omega) HCW.out.1.2.2.2.2.2.1, keepc hE (by omega) HCW.out.1.2.2.2.2.2.2.1, keepc hE (by omega) HCW.out.1.2.2.2.2.2.2.2.1, keepc hE (by omega) HCW.out.1.2.2.2.2.2.2.2.2.1, keepc hE (by omega) HCW.out.1.2.2.2.2.2.2.2.2.2.1, keepc hE (by omega) HCW.out.1.2.2.2.2.2.2.2.2.2.2⟩ : E.cell? ⟨u1.heap.size, 0, none⟩ = some (.slice pg g.ns.length cg) ∧ E.cell? ⟨u1.heap.size, 1, none⟩ = some (.slice qg g.es.length dg) ∧ E.cell? ⟨u1.heap.size + 1, 0, none⟩ = some (.bool true) ∧ E.cell? ⟨u1.heap.size + 1, 1, none⟩ = some (.string yv) ∧ E.cell? ⟨u1.heap.size + 1, 2, none⟩ = some (.int .i64 yl.op) ∧ E.cell? ⟨u1.heap.size + 1, 3, none⟩ = some (.string yl.a) ∧ E.cell? ⟨u1.heap.size + 1, 4, none⟩ = some (.slice p yl.ks.list.length c) ∧ E.cell? ⟨u1.heap.size + 1, 5, none⟩ = some (.int .i64 yc.op) ∧ E.cell? ⟨u1.heap.size + 1, 6, none⟩ = some (.string yc.a) ∧ E.cell? ⟨u1.heap.size + 1, 7, none⟩ = some (.slice p' yc.ks.list.length c') ∧ E.cell? ⟨u1.heap.size + 1, 8, none⟩ = some (.int .i64 yd)))
    have rW0 := Below.refl W.heap.size W
    obtain ⟨yW0, yW1, yW2, yW3, yW4, yW5, yW6, yW7, yW8, yW9, yW10⟩ := HKW.out _ rW0
    clear eW kW
    cases EG : gv g with
    | false =>
      have EB : nodeF g n (⟨true, yv, yl, yc, yd⟩ : El) = false := by unfold nodeF; rw [EG]; rfl
      go_wp2_with fail
      refine Calls.mono (EB ▸ nodeFits_any g (⟨true, yv, yl, yc, yd⟩ : El) _ _ n u1.heap.size _ (HAU.out.1.below (show Below u1.heap.size u1 _ by assumption)) (HAU.out.2.below (show Below u1.heap.size u1 _ by assumption) (Nat.le_refl _)) (show Below u1.heap.size u1 _ by assumption).size hok hysm (HVV.out.below (show Below w.heap.size w _ by assumption))) ?_
      rintro en u2 ⟨rfl, hb⟩
      have rwu2 := Below.trans (show Below w.heap.size w _ by assumption) (hb.mono (by omega))
      have zwu2 := rwu2.size
      have ru1u2 := Below.trans (show Below u1.heap.size u1 _ by assumption) (hb.mono (by omega))
      have zu1u2 := ru1u2.size
      have rWu2 := Below.trans (show Below W.heap.size W _ by assumption) (hb.mono (by omega))
      have zWu2 := rWu2.size
      clear hb yW0 yW1 yW2 yW3 yW4 yW5 yW6 yW7 yW8 yW9 yW10
      obtain ⟨yW0, yW1, yW2, yW3, yW4, yW5, yW6, yW7, yW8, yW9, yW10⟩ := HKW.out _ rWu2
      go_wp2_with fail
      refine Calls.mono (EB ▸ specNodeFits_any g (⟨true, yv, yl, yc, yd⟩ : El) _ _ n u1.heap.size _ (HAU.out.1.below (show Below u1.heap.size u1 _ by assumption)) (HAU.out.2.below (show Below u1.heap.size u1 _ by assumption) (Nat.le_refl _)) (show Below u1.heap.size u1 _ by assumption).size hok hysm) ?_
      rintro en u3 ⟨rfl, hb⟩
      have rwu3 := Below.trans (show Below w.heap.size w _ by assumption) (hb.mono (by omega))
      have zwu3 := rwu3.size
      have ru1u3 := Below.trans (show Below u1.heap.size u1 _ by assumption) (hb.mono (by omega))
      have zu1u3 := ru1u3.size
      have rWu3 := Below.trans (show Below W.heap.size W _ by assumption) (hb.mono (by omega))
      have zWu3 := rWu3.size
      clear hb yW0 yW1 yW2 yW3 yW4 yW5 yW6 yW7 yW8 yW9 yW10
      obtain ⟨yW0, yW1, yW2, yW3, yW4, yW5, yW6, yW7, yW8, yW9, yW10⟩ := HKW.out _ rWu3
      go_wp2_with fail
      refine Calls.mono (EG ▸ graphValid_any g _ u1.heap.size _ (HAU.out.1.below (show Below u1.heap.size u1 _ by assumption)) (show Below u1.heap.size u1 _ by assumption).size hok) ?_
      rintro en u4 ⟨rfl, hb⟩
      have rwu4 := Below.trans (show Below w.heap.size w _ by assumption) (hb.mono (by omega))
      have zwu4 := rwu4.size
      have ru1u4 := Below.trans (show Below u1.heap.size u1 _ by assumption) (hb.mono (by omega))
      have zu1u4 := ru1u4.size
      have rWu4 := Below.trans (show Below W.heap.size W _ by assumption) (hb.mono (by omega))
      have zWu4 := rWu4.size
      clear hb yW0 yW1 yW2 yW3 yW4 yW5 yW6 yW7 yW8 yW9 yW10
      obtain ⟨yW0, yW1, yW2, yW3, yW4, yW5, yW6, yW7, yW8, yW9, yW10⟩ := HKW.out _ rWu4
      go_wp2_with fail
      refine Calls.mono (EB ▸ specNodeFits_any g (⟨true, yv, yl, yc, yd⟩ : El) _ _ n u1.heap.size _ (HAU.out.1.below (show Below u1.heap.size u1 _ by assumption)) (HAU.out.2.below (show Below u1.heap.size u1 _ by assumption) (Nat.le_refl _)) (show Below u1.heap.size u1 _ by assumption).size hok hysm) ?_
      rintro en u5 ⟨rfl, hb⟩
      have rwu5 := Below.trans (show Below w.heap.size w _ by assumption) (hb.mono (by omega))
      have zwu5 := rwu5.size
      have ru1u5 := Below.trans (show Below u1.heap.size u1 _ by assumption) (hb.mono (by omega))
      have zu1u5 := ru1u5.size
      have rWu5 := Below.trans (show Below W.heap.size W _ by assumption) (hb.mono (by omega))
      have zWu5 := rWu5.size
      clear hb yW0 yW1 yW2 yW3 yW4 yW5 yW6 yW7 yW8 yW9 yW10
      obtain ⟨yW0, yW1, yW2, yW3, yW4, yW5, yW6, yW7, yW8, yW9, yW10⟩ := HKW.out _ rWu5
      go_wp2_with fail
      go_ret
      exact ⟨rfl, by ((repeat (first | with_reducible assumption | with_reducible exact Below.refl _ _ | refine Below.setCell ?_ (by (first | omega | (simp; omega) | (simp; done) | fail "sml")) _ | refine Below.drew ?_ | refine Below.alloc ?_ (by (first | omega | (simp; omega) | (simp; done) | fail "sml")) _)); first | done | fail "chs")⟩
    | true =>
      cases EE : elemV (⟨true, yv, yl, yc, yd⟩ : El) with
      | false =>
        have EB : nodeF g n (⟨true, yv, yl, yc, yd⟩ : El) = false := by unfold nodeF; rw [EE]; simp
        go_wp2_with fail
        refine Calls.mono (EB ▸ nodeFits_any g (⟨true, yv, yl, yc, yd⟩ : El) _ _ n u1.heap.size _ (HAU.out.1.below (show Below u1.heap.size u1 _ by assumption)) (HAU.out.2.below (show Below u1.heap.size u1 _ by assumption) (Nat.le_refl _)) (show Below u1.heap.size u1 _ by assumption).size hok hysm (HVV.out.below (show Below w.heap.size w _ by assumption))) ?_
        rintro en u2 ⟨rfl, hb⟩
        have rwu2 := Below.trans (show Below w.heap.size w _ by assumption) (hb.mono (by omega))
        have zwu2 := rwu2.size
        have ru1u2 := Below.trans (show Below u1.heap.size u1 _ by assumption) (hb.mono (by omega))
        have zu1u2 := ru1u2.size
        have rWu2 := Below.trans (show Below W.heap.size W _ by assumption) (hb.mono (by omega))
        have zWu2 := rWu2.size
        clear hb yW0 yW1 yW2 yW3 yW4 yW5 yW6 yW7 yW8 yW9 yW10
        obtain ⟨yW0, yW1, yW2, yW3, yW4, yW5, yW6, yW7, yW8, yW9, yW10⟩ := HKW.out _ rWu2
        go_wp2_with fail
        refine Calls.mono (EB ▸ specNodeFits_any g (⟨true, yv, yl, yc, yd⟩ : El) _ _ n u1.heap.size _ (HAU.out.1.below (show Below u1.heap.size u1 _ by assumption)) (HAU.out.2.below (show Below u1.heap.size u1 _ by assumption) (Nat.le_refl _)) (show Below u1.heap.size u1 _ by assumption).size hok hysm) ?_
        rintro en u3 ⟨rfl, hb⟩
        have rwu3 := Below.trans (show Below w.heap.size w _ by assumption) (hb.mono (by omega))
        have zwu3 := rwu3.size
        have ru1u3 := Below.trans (show Below u1.heap.size u1 _ by assumption) (hb.mono (by omega))
        have zu1u3 := ru1u3.size
        have rWu3 := Below.trans (show Below W.heap.size W _ by assumption) (hb.mono (by omega))
        have zWu3 := rWu3.size
        clear hb yW0 yW1 yW2 yW3 yW4 yW5 yW6 yW7 yW8 yW9 yW10
        obtain ⟨yW0, yW1, yW2, yW3, yW4, yW5, yW6, yW7, yW8, yW9, yW10⟩ := HKW.out _ rWu3
        go_wp2_with fail
        refine Calls.mono (EG ▸ graphValid_any g _ u1.heap.size _ (HAU.out.1.below (show Below u1.heap.size u1 _ by assumption)) (show Below u1.heap.size u1 _ by assumption).size hok) ?_
        rintro en u4 ⟨rfl, hb⟩
        have rwu4 := Below.trans (show Below w.heap.size w _ by assumption) (hb.mono (by omega))
        have zwu4 := rwu4.size
        have ru1u4 := Below.trans (show Below u1.heap.size u1 _ by assumption) (hb.mono (by omega))
        have zu1u4 := ru1u4.size
        have rWu4 := Below.trans (show Below W.heap.size W _ by assumption) (hb.mono (by omega))
        have zWu4 := rWu4.size
        clear hb yW0 yW1 yW2 yW3 yW4 yW5 yW6 yW7 yW8 yW9 yW10
        obtain ⟨yW0, yW1, yW2, yW3, yW4, yW5, yW6, yW7, yW8, yW9, yW10⟩ := HKW.out _ rWu4
        go_wp2_with fail
        refine Calls.mono (EE ▸ elemValid_any (⟨true, yv, yl, yc, yd⟩ : El) _ u1.heap.size _ (HAU.out.2.below (show Below u1.heap.size u1 _ by assumption) (Nat.le_refl _)) (show Below u1.heap.size u1 _ by assumption).size hysm (HVV.out.below (show Below w.heap.size w _ by assumption))) ?_
        rintro en u5 ⟨rfl, hb⟩
        have rwu5 := Below.trans (show Below w.heap.size w _ by assumption) (hb.mono (by omega))
        have zwu5 := rwu5.size
        have ru1u5 := Below.trans (show Below u1.heap.size u1 _ by assumption) (hb.mono (by omega))
        have zu1u5 := ru1u5.size
        have rWu5 := Below.trans (show Below W.heap.size W _ by assumption) (hb.mono (by omega))
        have zWu5 := rWu5.size
        clear hb yW0 yW1 yW2 yW3 yW4 yW5 yW6 yW7 yW8 yW9 yW10
        obtain ⟨yW0, yW1, yW2, yW3, yW4, yW5, yW6, yW7, yW8, yW9, yW10⟩ := HKW.out _ rWu5
        go_wp2_with fail
        refine Calls.mono (EB ▸ specNodeFits_any g (⟨true, yv, yl, yc, yd⟩ : El) _ _ n u1.heap.size _ (HAU.out.1.below (show Below u1.heap.size u1 _ by assumption)) (HAU.out.2.below (show Below u1.heap.size u1 _ by assumption) (Nat.le_refl _)) (show Below u1.heap.size u1 _ by assumption).size hok hysm) ?_
        rintro en u6 ⟨rfl, hb⟩
        have rwu6 := Below.trans (show Below w.heap.size w _ by assumption) (hb.mono (by omega))
        have zwu6 := rwu6.size
        have ru1u6 := Below.trans (show Below u1.heap.size u1 _ by assumption) (hb.mono (by omega))
        have zu1u6 := ru1u6.size
        have rWu6 := Below.trans (show Below W.heap.size W _ by assumption) (hb.mono (by omega))
        have zWu6 := rWu6.size
        clear hb yW0 yW1 yW2 yW3 yW4 yW5 yW6 yW7 yW8 yW9 yW10
        obtain ⟨yW0, yW1, yW2, yW3, yW4, yW5, yW6, yW7, yW8, yW9, yW10⟩ := HKW.out _ rWu6
        go_wp2_with fail
        go_ret
        exact ⟨rfl, by ((repeat (first | with_reducible assumption | with_reducible exact Below.refl _ _ | refine Below.setCell ?_ (by (first | omega | (simp; omega) | (simp; done) | fail "sml")) _ | refine Below.drew ?_ | refine Below.alloc ?_ (by (first | omega | (simp; omega) | (simp; done) | fail "sml")) _)); first | done | fail "chs")⟩
      | true =>
        by_cases hk : n < 0
        · have q : (n < 0) = True := eq_true hk
          have EB : nodeF g n (⟨true, yv, yl, yc, yd⟩ : El) = false := by unfold nodeF; rw [hn_neg hk]; simp
          go_wp2_with fail
          refine Calls.mono (EB ▸ nodeFits_any g (⟨true, yv, yl, yc, yd⟩ : El) _ _ n u1.heap.size _ (HAU.out.1.below (show Below u1.heap.size u1 _ by assumption)) (HAU.out.2.below (show Below u1.heap.size u1 _ by assumption) (Nat.le_refl _)) (show Below u1.heap.size u1 _ by assumption).size hok hysm (HVV.out.below (show Below w.heap.size w _ by assumption))) ?_
          rintro en u2 ⟨rfl, hb⟩
          have rwu2 := Below.trans (show Below w.heap.size w _ by assumption) (hb.mono (by omega))
          have zwu2 := rwu2.size
          have ru1u2 := Below.trans (show Below u1.heap.size u1 _ by assumption) (hb.mono (by omega))
          have zu1u2 := ru1u2.size
          have rWu2 := Below.trans (show Below W.heap.size W _ by assumption) (hb.mono (by omega))
          have zWu2 := rWu2.size
          clear hb yW0 yW1 yW2 yW3 yW4 yW5 yW6 yW7 yW8 yW9 yW10
          obtain ⟨yW0, yW1, yW2, yW3, yW4, yW5, yW6, yW7, yW8, yW9, yW10⟩ := HKW.out _ rWu2
          go_wp2_with fail
          refine Calls.mono (EB ▸ specNodeFits_any g (⟨true, yv, yl, yc, yd⟩ : El) _ _ n u1.heap.size _ (HAU.out.1.below (show Below u1.heap.size u1 _ by assumption)) (HAU.out.2.below (show Below u1.heap.size u1 _ by assumption) (Nat.le_refl _)) (show Below u1.heap.size u1 _ by assumption).size hok hysm) ?_
          rintro en u3 ⟨rfl, hb⟩
          have rwu3 := Below.trans (show Below w.heap.size w _ by assumption) (hb.mono (by omega))
          have zwu3 := rwu3.size
          have ru1u3 := Below.trans (show Below u1.heap.size u1 _ by assumption) (hb.mono (by omega))
          have zu1u3 := ru1u3.size
          have rWu3 := Below.trans (show Below W.heap.size W _ by assumption) (hb.mono (by omega))
          have zWu3 := rWu3.size
          clear hb yW0 yW1 yW2 yW3 yW4 yW5 yW6 yW7 yW8 yW9 yW10
          obtain ⟨yW0, yW1, yW2, yW3, yW4, yW5, yW6, yW7, yW8, yW9, yW10⟩ := HKW.out _ rWu3
          go_wp2_with fail
          refine Calls.mono (EG ▸ graphValid_any g _ u1.heap.size _ (HAU.out.1.below (show Below u1.heap.size u1 _ by assumption)) (show Below u1.heap.size u1 _ by assumption).size hok) ?_
          rintro en u4 ⟨rfl, hb⟩
          have rwu4 := Below.trans (show Below w.heap.size w _ by assumption) (hb.mono (by omega))
          have zwu4 := rwu4.size
          have ru1u4 := Below.trans (show Below u1.heap.size u1 _ by assumption) (hb.mono (by omega))
          have zu1u4 := ru1u4.size
          have rWu4 := Below.trans (show Below W.heap.size W _ by assumption) (hb.mono (by omega))
          have zWu4 := rWu4.size
          clear hb yW0 yW1 yW2 yW3 yW4 yW5 yW6 yW7 yW8 yW9 yW10
          obtain ⟨yW0, yW1, yW2, yW3, yW4, yW5, yW6, yW7, yW8, yW9, yW10⟩ := HKW.out _ rWu4
          go_wp2_with fail
          refine Calls.mono (EE ▸ elemValid_any (⟨true, yv, yl, yc, yd⟩ : El) _ u1.heap.size _ (HAU.out.2.below (show Below u1.heap.size u1 _ by assumption) (Nat.le_refl _)) (show Below u1.heap.size u1 _ by assumption).size hysm (HVV.out.below (show Below w.heap.size w _ by assumption))) ?_
          rintro en u5 ⟨rfl, hb⟩
          have rwu5 := Below.trans (show Below w.heap.size w _ by assumption) (hb.mono (by omega))
          have zwu5 := rwu5.size
          have ru1u5 := Below.trans (show Below u1.heap.size u1 _ by assumption) (hb.mono (by omega))
          have zu1u5 := ru1u5.size
          have rWu5 := Below.trans (show Below W.heap.size W _ by assumption) (hb.mono (by omega))
          have zWu5 := rWu5.size
          clear hb yW0 yW1 yW2 yW3 yW4 yW5 yW6 yW7 yW8 yW9 yW10
          obtain ⟨yW0, yW1, yW2, yW3, yW4, yW5, yW6, yW7, yW8, yW9, yW10⟩ := HKW.out _ rWu5
          go_wp2_with fail
          refine Calls.mono (EB ▸ specNodeFits_any g (⟨true, yv, yl, yc, yd⟩ : El) _ _ n u1.heap.size _ (HAU.out.1.below (show Below u1.heap.size u1 _ by assumption)) (HAU.out.2.below (show Below u1.heap.size u1 _ by assumption) (Nat.le_refl _)) (show Below u1.heap.size u1 _ by assumption).size hok hysm) ?_
          rintro en u6 ⟨rfl, hb⟩
          have rwu6 := Below.trans (show Below w.heap.size w _ by assumption) (hb.mono (by omega))
          have zwu6 := rwu6.size
          have ru1u6 := Below.trans (show Below u1.heap.size u1 _ by assumption) (hb.mono (by omega))
          have zu1u6 := ru1u6.size
          have rWu6 := Below.trans (show Below W.heap.size W _ by assumption) (hb.mono (by omega))
          have zWu6 := rWu6.size
          clear hb yW0 yW1 yW2 yW3 yW4 yW5 yW6 yW7 yW8 yW9 yW10
          obtain ⟨yW0, yW1, yW2, yW3, yW4, yW5, yW6, yW7, yW8, yW9, yW10⟩ := HKW.out _ rWu6
          go_wp2_with fail
          go_ret
          exact ⟨rfl, by ((repeat (first | with_reducible assumption | with_reducible exact Below.refl _ _ | refine Below.setCell ?_ (by (first | omega | (simp; omega) | (simp; done) | fail "sml")) _ | refine Below.drew ?_ | refine Below.alloc ?_ (by (first | omega | (simp; omega) | (simp; done) | fail "sml")) _)); first | done | fail "chs")⟩
        have q : (n < 0) = False := eq_false hk
        by_cases hk2 : (g.ns.length : Int) ≤ n
        · have q2 : ((g.ns.length : Int) ≤ n) = True := eq_true hk2
          obtain ⟨m, rfl⟩ : ∃ m : Nat, n = m := ⟨n.toNat, by omega⟩
          have EB : nodeF g (m : Int) (⟨true, yv, yl, yc, yd⟩ : El) = false := by unfold nodeF; rw [hn_big' (by omega)]; simp
          go_wp2_with fail
          refine Calls.mono (EB ▸ nodeFits_any g (⟨true, yv, yl, yc, yd⟩ : El) _ _ (m : Int) u1.heap.size _ (HAU.out.1.below (show Below u1.heap.size u1 _ by assumption)) (HAU.out.2.below (show Below u1.heap.size u1 _ by assumption) (Nat.le_refl _)) (show Below u1.heap.size u1 _ by assumption).size hok hysm (HVV.out.below (show Below w.heap.size w _ by assumption))) ?_
          rintro en u2 ⟨rfl, hb⟩
          have rwu2 := Below.trans (show Below w.heap.size w _ by assumption) (hb.mono (by omega))
          have zwu2 := rwu2.size
          have ru1u2 := Below.trans (show Below u1.heap.size u1 _ by assumption) (hb.mono (by omega))
          have zu1u2 := ru1u2.size
          have rWu2 := Below.trans (show Below W.heap.size W _ by assumption) (hb.mono (by omega))
          have zWu2 := rWu2.size
          clear hb yW0 yW1 yW2 yW3 yW4 yW5 yW6 yW7 yW8 yW9 yW10
          obtain ⟨yW0, yW1, yW2, yW3, yW4, yW5, yW6, yW7, yW8, yW9, yW10⟩ := HKW.out _ rWu2
          go_wp2_with fail
          refine Calls.mono (EB ▸ specNodeFits_any g (⟨true, yv, yl, yc, yd⟩ : El) _ _ (m : Int) u1.heap.size _ (HAU.out.1.below (show Below u1.heap.size u1 _ by assumption)) (HAU.out.2.below (show Below u1.heap.size u1 _ by assumption) (Nat.le_refl _)) (show Below u1.heap.size u1 _ by assumption).size hok hysm) ?_
          rintro en u3 ⟨rfl, hb⟩
          have rwu3 := Below.trans (show Below w.heap.size w _ by assumption) (hb.mono (by omega))
          have zwu3 := rwu3.size
          have ru1u3 := Below.trans (show Below u1.heap.size u1 _ by assumption) (hb.mono (by omega))
          have zu1u3 := ru1u3.size
          have rWu3 := Below.trans (show Below W.heap.size W _ by assumption) (hb.mono (by omega))
          have zWu3 := rWu3.size
          clear hb yW0 yW1 yW2 yW3 yW4 yW5 yW6 yW7 yW8 yW9 yW10
          obtain ⟨yW0, yW1, yW2, yW3, yW4, yW5, yW6, yW7, yW8, yW9, yW10⟩ := HKW.out _ rWu3
          go_wp2_with fail
          refine Calls.mono (EG ▸ graphValid_any g _ u1.heap.size _ (HAU.out.1.below (show Below u1.heap.size u1 _ by assumption)) (show Below u1.heap.size u1 _ by assumption).size hok) ?_
          rintro en u4 ⟨rfl, hb⟩
          have rwu4 := Below.trans (show Below w.heap.size w _ by assumption) (hb.mono (by omega))
          have zwu4 := rwu4.size
          have ru1u4 := Below.trans (show Below u1.heap.size u1 _ by assumption) (hb.mono (by omega))
          have zu1u4 := ru1u4.size
          have rWu4 := Below.trans (show Below W.heap.size W _ by assumption) (hb.mono (by omega))
          have zWu4 := rWu4.size
          clear hb yW0 yW1 yW2 yW3 yW4 yW5 yW6 yW7 yW8 yW9 yW10
          obtain ⟨yW0, yW1, yW2, yW3, yW4, yW5, yW6, yW7, yW8, yW9, yW10⟩ := HKW.out _ rWu4
          go_wp2_with fail
          refine Calls.mono (EE ▸ elemValid_any (⟨true, yv, yl, yc, yd⟩ : El) _ u1.heap.size _ (HAU.out.2.below (show Below u1.heap.size u1 _ by assumption) (Nat.le_refl _)) (show Below u1.heap.size u1 _ by assumption).size hysm (HVV.out.below (show Below w.heap.size w _ by assumption))) ?_
          rintro en u5 ⟨rfl, hb⟩
          have rwu5 := Below.trans (show Below w.heap.size w _ by assumption) (hb.mono (by omega))
          have zwu5 := rwu5.size
          have ru1u5 := Below.trans (show Below u1.heap.size u1 _ by assumption) (hb.mono (by omega))
          have zu1u5 := ru1u5.size
          have rWu5 := Below.trans (show Below W.heap.size W _ by assumption) (hb.mono (by omega))
          have zWu5 := rWu5.size
          clear hb yW0 yW1 yW2 yW3 yW4 yW5 yW6 yW7 yW8 yW9 yW10
          obtain ⟨yW0, yW1, yW2, yW3, yW4, yW5, yW6, yW7, yW8, yW9, yW10⟩ := HKW.out _ rWu5
          go_wp2_with fail
          refine Calls.mono (EB ▸ specNodeFits_any g (⟨true, yv, yl, yc, yd⟩ : El) _ _ (m : Int) u1.heap.size _ (HAU.out.1.below (show Below u1.heap.size u1 _ by assumption)) (HAU.out.2.below (show Below u1.heap.size u1 _ by assumption) (Nat.le_refl _)) (show Below u1.heap.size u1 _ by assumption).size hok hysm) ?_
          rintro en u6 ⟨rfl, hb⟩
          have rwu6 := Below.trans (show Below w.heap.size w _ by assumption) (hb.mono (by omega))
          have zwu6 := rwu6.size
          have ru1u6 := Below.trans (show Below u1.heap.size u1 _ by assumption) (hb.mono (by omega))
          have zu1u6 := ru1u6.size
          have rWu6 := Below.trans (show Below W.heap.size W _ by assumption) (hb.mono (by omega))
          have zWu6 := rWu6.size
          clear hb yW0 yW1 yW2 yW3 yW4 yW5 yW6 yW7 yW8 yW9 yW10
          obtain ⟨yW0, yW1, yW2, yW3, yW4, yW5, yW6, yW7, yW8, yW9, yW10⟩ := HKW.out _ rWu6
          go_wp2_with fail
          go_ret
          exact ⟨rfl, by ((repeat (first | with_reducible assumption | with_reducible exact Below.refl _ _ | refine Below.setCell ?_ (by (first | omega | (simp; omega) | (simp; done) | fail "sml")) _ | refine Below.drew ?_ | refine Below.alloc ?_ (by (first | omega | (simp; omega) | (simp; done) | fail "sml")) _)); first | done | fail "chs")⟩
        obtain ⟨k, rfl⟩ : ∃ k : Nat, n = k := ⟨n.toNat, by omega⟩
        have hlt : k < g.ns.length := by omega
        have q2 : ((g.ns.length : Int) ≤ (k : Int)) = False := eq_false (by omega)
        have EF : nodeF g (k : Int) (⟨true, yv, yl, yc, yd⟩ : El) = (labF yl g.ns[k].l && numF yc g.ns[k].n) := by unfold nodeF elemF; rw [EG, hn_at hlt, EE, ndAt_eq hlt]; rfl
        obtain ⟨L, EL⟩ : ∃ L, labF yl g.ns[k].l = L := ⟨_, rfl⟩
        obtain ⟨M, EM⟩ : ∃ M, numF yc g.ns[k].n = M := ⟨_, rfl⟩
        rw [EL, EM] at EF
        obtain ⟨b, Eb⟩ : ∃ b, (L && M) = b := ⟨_, rfl⟩
        rw [Eb] at EF
        have hpv := pv_parts (gv_nd EG hlt)
        have hpt := elemV_parts' EE
        obtain ⟨na, nb2, ena, hna, _⟩ := HAU.out.1
        cases ena
        obtain ⟨bb, off, epg, hbb, nc0, nc1⟩ := hna.nd hlt
        subst epg
        obtain ⟨nd, end'⟩ : ∃ nd, nd = g.ns[k] := ⟨_, rfl⟩
        rw [← end'] at EL EM nc0 nc1 hpv
        clear end'
        cases L with
        | false =>
          cases M with
          | false =>
            rw [show b = false from Eb.symm] at EF
            go_wp2_with fail
            refine Calls.mono (EF ▸ nodeFits_any g (⟨true, yv, yl, yc, yd⟩ : El) _ _ (k : Int) u1.heap.size _ (HAU.out.1.below (show Below u1.heap.size u1 _ by assumption)) (HAU.out.2.below (show Below u1.heap.size u1 _ by assumption) (Nat.le_refl _)) (show Below u1.heap.size u1 _ by assumption).size hok hysm (HVV.out.below (show Below w.heap.size w _ by assumption))) ?_
            rintro en u2 ⟨rfl, hb⟩
            have rwu2 := Below.trans (show Below w.heap.size w _ by assumption) (hb.mono (by omega))
            have zwu2 := rwu2.size
            have ru1u2 := Below.trans (show Below u1.heap.size u1 _ by assumption) (hb.mono (by omega))
            have zu1u2 := ru1u2.size
            have rWu2 := Below.trans (show Below W.heap.size W _ by assumption) (hb.mono (by omega))
            have zWu2 := rWu2.size
            clear hb yW0 yW1 yW2 yW3 yW4 yW5 yW6 yW7 yW8 yW9 yW10
            obtain ⟨yW0, yW1, yW2, yW3, yW4, yW5, yW6, yW7, yW8, yW9, yW10⟩ := HKW.out _ rWu2
            go_wp2_with fail
            refine Calls.mono (EF ▸ specNodeFits_any g (⟨true, yv, yl, yc, yd⟩ : El) _ _ (k : Int) u1.heap.size _ (HAU.out.1.below (show Below u1.heap.size u1 _ by assumption)) (HAU.out.2.below (show Below u1.heap.size u1 _ by assumption) (Nat.le_refl _)) (show Below u1.heap.size u1 _ by assumption).size hok hysm) ?_
            rintro en u3 ⟨rfl, hb⟩
            have rwu3 := Below.trans (show Below w.heap.size w _ by assumption) (hb.mono (by omega))
            have zwu3 := rwu3.size
            have ru1u3 := Below.trans (show Below u1.heap.size u1 _ by assumption) (hb.mono (by omega))
            have zu1u3 := ru1u3.size
            have rWu3 := Below.trans (show Below W.heap.size W _ by assumption) (hb.mono (by omega))
            have zWu3 := rWu3.size
            clear hb yW0 yW1 yW2 yW3 yW4 yW5 yW6 yW7 yW8 yW9 yW10
            obtain ⟨yW0, yW1, yW2, yW3, yW4, yW5, yW6, yW7, yW8, yW9, yW10⟩ := HKW.out _ rWu3
            go_wp2_with fail
            refine Calls.mono (EG ▸ graphValid_any g _ u1.heap.size _ (HAU.out.1.below (show Below u1.heap.size u1 _ by assumption)) (show Below u1.heap.size u1 _ by assumption).size hok) ?_
            rintro en u4 ⟨rfl, hb⟩
            have rwu4 := Below.trans (show Below w.heap.size w _ by assumption) (hb.mono (by omega))
            have zwu4 := rwu4.size
            have ru1u4 := Below.trans (show Below u1.heap.size u1 _ by assumption) (hb.mono (by omega))
            have zu1u4 := ru1u4.size
            have rWu4 := Below.trans (show Below W.heap.size W _ by assumption) (hb.mono (by omega))
            have zWu4 := rWu4.size
            clear hb yW0 yW1 yW2 yW3 yW4 yW5 yW6 yW7 yW8 yW9 yW10
            obtain ⟨yW0, yW1, yW2, yW3, yW4, yW5, yW6, yW7, yW8, yW9, yW10⟩ := HKW.out _ rWu4
            go_wp2_with fail
            refine Calls.mono (EE ▸ elemValid_any (⟨true, yv, yl, yc, yd⟩ : El) _ u1.heap.size _ (HAU.out.2.below (show Below u1.heap.size u1 _ by assumption) (Nat.le_refl _)) (show Below u1.heap.size u1 _ by assumption).size hysm (HVV.out.below (show Below w.heap.size w _ by assumption))) ?_
            rintro en u5 ⟨rfl, hb⟩
            have rwu5 := Below.trans (show Below w.heap.size w _ by assumption) (hb.mono (by omega))
            have zwu5 := rwu5.size
            have ru1u5 := Below.trans (show Below u1.heap.size u1 _ by assumption) (hb.mono (by omega))
            have zu1u5 := ru1u5.size
            have rWu5 := Below.trans (show Below W.heap.size W _ by assumption) (hb.mono (by omega))
            have zWu5 := rWu5.size
            have w0 := keepc ru1u5 hbb nc0
            have w1 := keepc ru1u5 hbb nc1
            clear hb yW0 yW1 yW2 yW3 yW4 yW5 yW6 yW7 yW8 yW9 yW10
            obtain ⟨yW0, yW1, yW2, yW3, yW4, yW5, yW6, yW7, yW8, yW9, yW10⟩ := HKW.out _ rWu5
            go_upto_region 8 with fail
            obtain ⟨N, eN⟩ : ∃ E, E = u5.alloc (.cells #[.string nd.l, .int .i64 nd.n] 41) := ⟨_, rfl⟩
            have sN : u5.heap.size < N.heap.size := by rw [eN]; simp
            have kN : Below u5.heap.size u5 N := by rw [eN]; ((repeat (first | with_reducible assumption | with_reducible exact Below.refl _ _ | refine Below.setCell ?_ (by (first | omega | (simp; omega) | (simp; done) | fail "sml")) _ | refine Below.drew ?_ | refine Below.alloc ?_ (by (first | omega | (simp; omega) | (simp; done) | fail "sml")) _)); first | done | fail "chs")
            have HCN := Lib.hid (show N.cell? ⟨u5.heap.size, 0, none⟩ = some (.string nd.l) ∧ N.cell? ⟨u5.heap.size, 1, none⟩ = some (.int .i64 nd.n) from by rw [eN]; exact ⟨by simp [go_sem], by simp [go_sem]⟩)
            skip
            rw [← eN]
            have rwN := Below.trans (show Below w.heap.size w _ by ((repeat (first | with_reducible assumption | with_reducible exact Below.refl _ _ | refine Below.setCell ?_ (by (first | omega | (simp; omega) | (simp; done) | fail "sml")) _ | refine Below.drew ?_ | refine Below.alloc ?_ (by (first | omega | (simp; omega) | (simp; done) | fail "sml")) _)); first | done | fail "chs")) (kN.mono (by (first | omega | (simp; omega) | (simp; done) | fail "sml")))
            have ru1N := Below.trans (show Below u1.heap.size u1 _ by ((repeat (first | with_reducible assumption | with_reducible exact Below.refl _ _ | refine Below.setCell ?_ (by (first | omega | (simp; omega) | (simp; done) | fail "sml")) _ | refine Below.drew ?_ | refine Below.alloc ?_ (by (first | omega | (simp; omega) | (simp; done) | fail "sml")) _)); first | done | fail "chs")) (kN.mono (by (first | omega | (simp; omega) | (simp; done) | fail "sml")))
            have rWN := Below.trans (show Below W.heap.size W _ by ((repeat (first | with_reducible assumption | with_reducible exact Below.refl _ _ | refine Below.setCell ?_ (by (first | omega | (simp; omega) | (simp; done) | fail "sml")) _ | refine Below.drew ?_ | refine Below.alloc ?_ (by (first | omega | (simp; omega) | (simp; done) | fail "sml")) _)); first | done | fail "chs")) (kN.mono (by (first | omega | (simp; omega) | (simp; done) | fail "sml")))
            have HKN := Lib.hid (fun (E : World) (hE : Below N.heap.size N E) => (⟨keepc hE sN HCN.out.1, keepc hE sN HCN.out.2⟩ : E.cell? ⟨u5.heap.size, 0, none⟩ = some (.string nd.l) ∧ E.cell? ⟨u5.heap.size, 1, none⟩ = some (.int .i64 nd.n)))
            have rN0 := Below.refl N.heap.size N
            obtain ⟨yN0, yN1⟩ := HKN.out _ rN0
            clear eN kN
            clear yW0 yW1 yW2 yW3 yW4 yW5 yW6 yW7 yW8 yW9 yW10
            obtain ⟨yW0, yW1, yW2, yW3, yW4, yW5, yW6, yW7, yW8, yW9, yW10⟩ := HKW.out _ rWN
            by_cases hl0 : yl.op = 0
            · have ql : (yl.op == 0) = true := beq_iff_eq.2 hl0
              rw [labF_none hpt.1 hl0] at EL
              cases EL
            · have ql : (yl.op == 0) = false := beq_eq_false_iff_ne.2 hl0
              rw [labF_some hl0] at EL
              have HKL := Lib.hid (show yl.At u1.heap.size u1 (.agg #[.int .i64 yl.op, .string yl.a, .slice p yl.ks.list.length c]) from by obtain ⟨k1, k2, e1, e2, e3⟩ := HAU.out.2; cases e1; exact ⟨_, rfl, e2⟩)
              go_wp2_with fail
              refine Calls.mono (EL ▸ labelHolds_any yl _ nd.l u1.heap.size _ (HKL.out.below (show Below u1.heap.size u1 _ by assumption) (Nat.le_refl _)) (show Below u1.heap.size u1 _ by assumption).size hysm.2.1 hysm.2.2.1 hpv.2.2 (HVV.out.below (show Below w.heap.size w _ by assumption))) ?_
              rintro en u6 ⟨rfl, hb⟩
              have rwu6 := Below.trans (show Below w.heap.size w _ by assumption) (hb.mono (by omega))
              have zwu6 := rwu6.size
              have ru1u6 := Below.trans (show Below u1.heap.size u1 _ by assumption) (hb.mono (by omega))
              have zu1u6 := ru1u6.size
              have rWu6 := Below.trans (show Below W.heap.size W _ by assumption) (hb.mono (by omega))
              have zWu6 := rWu6.size
              have rNu6 := Below.trans (show Below N.heap.size N _ by assumption) (hb.mono (by omega))
              have zNu6 := rNu6.size
              clear hb yW0 yW1 yW2 yW3 yW4 yW5 yW6 yW7 yW8 yW9 yW10 yN0 yN1
              obtain ⟨yW0, yW1, yW2, yW3, yW4, yW5, yW6, yW7, yW8, yW9, yW10⟩ := HKW.out _ rWu6
              obtain ⟨yN0, yN1⟩ := HKN.out _ rNu6
              by_cases hc0 : yc.op = 0
              · have qc : (yc.op == 0) = true := beq_iff_eq.2 hc0
                rw [numF_none hpt.2 hc0] at EM
                cases EM
              · have qc : (yc.op == 0) = false := beq_eq_false_iff_ne.2 hc0
                rw [numF_some hc0] at EM
                obtain ⟨kc, hkc⟩ := HAU.out.2.cnd
                have HKC := Lib.hid (show yc.At u1.heap.size u1 (.agg #[.int .i64 yc.op, .string yc.a, .slice p' yc.ks.list.length c']) from by obtain ⟨k1, k2, e1, e2, e3⟩ := HAU.out.2; cases e1; exact ⟨_, rfl, e3⟩)
                go_wp2_with fail
                refine Calls.mono (EM ▸ numHolds_any yc _ nd.n u1.heap.size _ (HKC.out.below (show Below u1.heap.size u1 _ by assumption) (Nat.le_refl _)) (show Below u1.heap.size u1 _ by assumption).size hysm.2.2.2.1 hysm.2.2.2.2 (HVV.out.below (show Below w.heap.size w _ by assumption))) ?_
                rintro en u7 ⟨rfl, hb⟩
                have rwu7 := Below.trans (show Below w.heap.size w _ by assumption) (hb.mono (by omega))
                have zwu7 := rwu7.size
                have ru1u7 := Below.trans (show Below u1.heap.size u1 _ by assumption) (hb.mono (by omega))
                have zu1u7 := ru1u7.size
                have rWu7 := Below.trans (show Below W.heap.size W _ by assumption) (hb.mono (by omega))
                have zWu7 := rWu7.size
                have rNu7 := Below.trans (show Below N.heap.size N _ by assumption) (hb.mono (by omega))
                have zNu7 := rNu7.size
                clear hb yW0 yW1 yW2 yW3 yW4 yW5 yW6 yW7 yW8 yW9 yW10 yN0 yN1
                obtain ⟨yW0, yW1, yW2, yW3, yW4, yW5, yW6, yW7, yW8, yW9, yW10⟩ := HKW.out _ rWu7
                obtain ⟨yN0, yN1⟩ := HKN.out _ rNu7
                go_wp2_with fail
                refine Calls.mono ((nodeF_emN EG hlt) ▸ nodeFits_any g emN _ _ (k : Int) u1.heap.size _ (HAU.out.1.below (show Below u1.heap.size u1 _ by assumption)) (emN_at _ _) (show Below u1.heap.size u1 _ by assumption).size hok emN_sm (HVV.out.below (show Below w.heap.size w _ by assumption))) ?_
                rintro en u8 ⟨rfl, hb⟩
                have rwu8 := Below.trans (show Below w.heap.size w _ by assumption) (hb.mono (by omega))
                have zwu8 := rwu8.size
                have ru1u8 := Below.trans (show Below u1.heap.size u1 _ by assumption) (hb.mono (by omega))
                have zu1u8 := ru1u8.size
                have rWu8 := Below.trans (show Below W.heap.size W _ by assumption) (hb.mono (by omega))
                have zWu8 := rWu8.size
                have rNu8 := Below.trans (show Below N.heap.size N _ by assumption) (hb.mono (by omega))
                have zNu8 := rNu8.size
                clear hb yW0 yW1 yW2 yW3 yW4 yW5 yW6 yW7 yW8 yW9 yW10 yN0 yN1
                obtain ⟨yW0, yW1, yW2, yW3, yW4, yW5, yW6, yW7, yW8, yW9, yW10⟩ := HKW.out _ rWu8
                obtain ⟨yN0, yN1⟩ := HKN.out _ rNu8
                go_wp2_with fail
                go_ret
                exact ⟨rfl, by ((repeat (first | with_reducible assumption | with_reducible exact Below.refl _ _ | refine Below.setCell ?_ (by (first | omega | (simp; omega) | (simp; done) | fail "sml")) _ | refine Below.drew ?_ | refine Below.alloc ?_ (by (first | omega | (simp; omega) | (simp; done) | fail "sml")) _)); first | done | fail "chs")⟩
          | true =>
            rw [show b = false from Eb.symm] at EF
            go_wp2_with fail
            refine Calls.mono (EF ▸ nodeFits_any g (⟨true, yv, yl, yc, yd⟩ : El) _ _ (k : Int) u1.heap.size _ (HAU.out.1.below (show Below u1.heap.size u1 _ by assumption)) (HAU.out.2.below (show Below u1.heap.size u1 _ by assumption) (Nat.le_refl _)) (show Below u1.heap.size u1 _ by assumption).size hok hysm (HVV.out.below (show Below w.heap.size w _ by assumption))) ?_
            rintro en u2 ⟨rfl, hb⟩
            have rwu2 := Below.trans (show Below w.heap.size w _ by assumption) (hb.mono (by omega))
            have zwu2 := rwu2.size
            have ru1u2 := Below.trans (show Below u1.heap.size u1 _ by assumption) (hb.mono (by omega))
            have zu1u2 := ru1u2.size
            have rWu2 := Below.trans (show Below W.heap.size W _ by assumption) (hb.mono (by omega))
            have zWu2 := rWu2.size
            clear hb yW0 yW1 yW2 yW3 yW4 yW5 yW6 yW7 yW8 yW9 yW10
            obtain ⟨yW0, yW1, yW2, yW3, yW4, yW5, yW6, yW7, yW8, yW9, yW10⟩ := HKW.out _ rWu2
            go_wp2_with fail
            refine Calls.mono (EF ▸ specNodeFits_any g (⟨true, yv, yl, yc, yd⟩ : El) _ _ (k : Int) u1.heap.size _ (HAU.out.1.below (show Below u1.heap.size u1 _ by assumption)) (HAU.out.2.below (show Below u1.heap.size u1 _ by assumption) (Nat.le_refl _)) (show Below u1.heap.size u1 _ by assumption).size hok hysm) ?_
            rintro en u3 ⟨rfl, hb⟩
            have rwu3 := Below.trans (show Below w.heap.size w _ by assumption) (hb.mono (by omega))
            have zwu3 := rwu3.size
            have ru1u3 := Below.trans (show Below u1.heap.size u1 _ by assumption) (hb.mono (by omega))
            have zu1u3 := ru1u3.size
            have rWu3 := Below.trans (show Below W.heap.size W _ by assumption) (hb.mono (by omega))
            have zWu3 := rWu3.size
            clear hb yW0 yW1 yW2 yW3 yW4 yW5 yW6 yW7 yW8 yW9 yW10
            obtain ⟨yW0, yW1, yW2, yW3, yW4, yW5, yW6, yW7, yW8, yW9, yW10⟩ := HKW.out _ rWu3
            go_wp2_with fail
            refine Calls.mono (EG ▸ graphValid_any g _ u1.heap.size _ (HAU.out.1.below (show Below u1.heap.size u1 _ by assumption)) (show Below u1.heap.size u1 _ by assumption).size hok) ?_
            rintro en u4 ⟨rfl, hb⟩
            have rwu4 := Below.trans (show Below w.heap.size w _ by assumption) (hb.mono (by omega))
            have zwu4 := rwu4.size
            have ru1u4 := Below.trans (show Below u1.heap.size u1 _ by assumption) (hb.mono (by omega))
            have zu1u4 := ru1u4.size
            have rWu4 := Below.trans (show Below W.heap.size W _ by assumption) (hb.mono (by omega))
            have zWu4 := rWu4.size
            clear hb yW0 yW1 yW2 yW3 yW4 yW5 yW6 yW7 yW8 yW9 yW10
            obtain ⟨yW0, yW1, yW2, yW3, yW4, yW5, yW6, yW7, yW8, yW9, yW10⟩ := HKW.out _ rWu4
            go_wp2_with fail
            refine Calls.mono (EE ▸ elemValid_any (⟨true, yv, yl, yc, yd⟩ : El) _ u1.heap.size _ (HAU.out.2.below (show Below u1.heap.size u1 _ by assumption) (Nat.le_refl _)) (show Below u1.heap.size u1 _ by assumption).size hysm (HVV.out.below (show Below w.heap.size w _ by assumption))) ?_
            rintro en u5 ⟨rfl, hb⟩
            have rwu5 := Below.trans (show Below w.heap.size w _ by assumption) (hb.mono (by omega))
            have zwu5 := rwu5.size
            have ru1u5 := Below.trans (show Below u1.heap.size u1 _ by assumption) (hb.mono (by omega))
            have zu1u5 := ru1u5.size
            have rWu5 := Below.trans (show Below W.heap.size W _ by assumption) (hb.mono (by omega))
            have zWu5 := rWu5.size
            have w0 := keepc ru1u5 hbb nc0
            have w1 := keepc ru1u5 hbb nc1
            clear hb yW0 yW1 yW2 yW3 yW4 yW5 yW6 yW7 yW8 yW9 yW10
            obtain ⟨yW0, yW1, yW2, yW3, yW4, yW5, yW6, yW7, yW8, yW9, yW10⟩ := HKW.out _ rWu5
            go_upto_region 8 with fail
            obtain ⟨N, eN⟩ : ∃ E, E = u5.alloc (.cells #[.string nd.l, .int .i64 nd.n] 41) := ⟨_, rfl⟩
            have sN : u5.heap.size < N.heap.size := by rw [eN]; simp
            have kN : Below u5.heap.size u5 N := by rw [eN]; ((repeat (first | with_reducible assumption | with_reducible exact Below.refl _ _ | refine Below.setCell ?_ (by (first | omega | (simp; omega) | (simp; done) | fail "sml")) _ | refine Below.drew ?_ | refine Below.alloc ?_ (by (first | omega | (simp; omega) | (simp; done) | fail "sml")) _)); first | done | fail "chs")
            have HCN := Lib.hid (show N.cell? ⟨u5.heap.size, 0, none⟩ = some (.string nd.l) ∧ N.cell? ⟨u5.heap.size, 1, none⟩ = some (.int .i64 nd.n) from by rw [eN]; exact ⟨by simp [go_sem], by simp [go_sem]⟩)
            skip
            rw [← eN]
            have rwN := Below.trans (show Below w.heap.size w _ by ((repeat (first | with_reducible assumption | with_reducible exact Below.refl _ _ | refine Below.setCell ?_ (by (first | omega | (simp; omega) | (simp; done) | fail "sml")) _ | refine Below.drew ?_ | refine Below.alloc ?_ (by (first | omega | (simp; omega) | (simp; done) | fail "sml")) _)); first | done | fail "chs")) (kN.mono (by (first | omega | (simp; omega) | (simp; done) | fail "sml")))
            have ru1N := Below.trans (show Below u1.heap.size u1 _ by ((repeat (first | with_reducible assumption | with_reducible exact Below.refl _ _ | refine Below.setCell ?_ (by (first | omega | (simp; omega) | (simp; done) | fail "sml")) _ | refine Below.drew ?_ | refine Below.alloc ?_ (by (first | omega | (simp; omega) | (simp; done) | fail "sml")) _)); first | done | fail "chs")) (kN.mono (by (first | omega | (simp; omega) | (simp; done) | fail "sml")))
            have rWN := Below.trans (show Below W.heap.size W _ by ((repeat (first | with_reducible assumption | with_reducible exact Below.refl _ _ | refine Below.setCell ?_ (by (first | omega | (simp; omega) | (simp; done) | fail "sml")) _ | refine Below.drew ?_ | refine Below.alloc ?_ (by (first | omega | (simp; omega) | (simp; done) | fail "sml")) _)); first | done | fail "chs")) (kN.mono (by (first | omega | (simp; omega) | (simp; done) | fail "sml")))
            have HKN := Lib.hid (fun (E : World) (hE : Below N.heap.size N E) => (⟨keepc hE sN HCN.out.1, keepc hE sN HCN.out.2⟩ : E.cell? ⟨u5.heap.size, 0, none⟩ = some (.string nd.l) ∧ E.cell? ⟨u5.heap.size, 1, none⟩ = some (.int .i64 nd.n)))
            have rN0 := Below.refl N.heap.size N
            obtain ⟨yN0, yN1⟩ := HKN.out _ rN0
            clear eN kN
            clear yW0 yW1 yW2 yW3 yW4 yW5 yW6 yW7 yW8 yW9 yW10
            obtain ⟨yW0, yW1, yW2, yW3, yW4, yW5, yW6, yW7, yW8, yW9, yW10⟩ := HKW.out _ rWN
            by_cases hl0 : yl.op = 0
            · have ql : (yl.op == 0) = true := beq_iff_eq.2 hl0
              rw [labF_none hpt.1 hl0] at EL
              cases EL
            · have ql : (yl.op == 0) = false := beq_eq_false_iff_ne.2 hl0
              rw [labF_some hl0] at EL
              have HKL := Lib.hid (show yl.At u1.heap.size u1 (.agg #[.int .i64 yl.op, .string yl.a, .slice p yl.ks.list.length c]) from by obtain ⟨k1, k2, e1, e2, e3⟩ := HAU.out.2; cases e1; exact ⟨_, rfl, e2⟩)
              go_wp2_with fail
              refine Calls.mono (EL ▸ labelHolds_any yl _ nd.l u1.heap.size _ (HKL.out.below (show Below u1.heap.size u1 _ by assumption) (Nat.le_refl _)) (show Below u1.heap.size u1 _ by assumption).size hysm.2.1 hysm.2.2.1 hpv.2.2 (HVV.out.below (show Below w.heap.size w _ by assumption))) ?_
              rintro en u6 ⟨rfl, hb⟩
              have rwu6 := Below.trans (show Below w.heap.size w _ by assumption) (hb.mono (by omega))
              have zwu6 := rwu6.size
              have ru1u6 := Below.trans (show Below u1.heap.size u1 _ by assumption) (hb.mono (by omega))
              have zu1u6 := ru1u6.size
              have rWu6 := Below.trans (show Below W.heap.size W _ by assumption) (hb.mono (by omega))
              have zWu6 := rWu6.size
              have rNu6 := Below.trans (show Below N.heap.size N _ by assumption) (hb.mono (by omega))
              have zNu6 := rNu6.size
              clear hb yW0 yW1 yW2 yW3 yW4 yW5 yW6 yW7 yW8 yW9 yW10 yN0 yN1
              obtain ⟨yW0, yW1, yW2, yW3, yW4, yW5, yW6, yW7, yW8, yW9, yW10⟩ := HKW.out _ rWu6
              obtain ⟨yN0, yN1⟩ := HKN.out _ rNu6
              by_cases hc0 : yc.op = 0
              · have qc : (yc.op == 0) = true := beq_iff_eq.2 hc0
                clear hc0
                go_wp2_with fail
                refine Calls.mono ((nodeF_emN EG hlt) ▸ nodeFits_any g emN _ _ (k : Int) u1.heap.size _ (HAU.out.1.below (show Below u1.heap.size u1 _ by assumption)) (emN_at _ _) (show Below u1.heap.size u1 _ by assumption).size hok emN_sm (HVV.out.below (show Below w.heap.size w _ by assumption))) ?_
                rintro en u7 ⟨rfl, hb⟩
                have rwu7 := Below.trans (show Below w.heap.size w _ by assumption) (hb.mono (by omega))
                have zwu7 := rwu7.size
                have ru1u7 := Below.trans (show Below u1.heap.size u1 _ by assumption) (hb.mono (by omega))
                have zu1u7 := ru1u7.size
                have rWu7 := Below.trans (show Below W.heap.size W _ by assumption) (hb.mono (by omega))
                have zWu7 := rWu7.size
                have rNu7 := Below.trans (show Below N.heap.size N _ by assumption) (hb.mono (by omega))
                have zNu7 := rNu7.size
                clear hb yW0 yW1 yW2 yW3 yW4 yW5 yW6 yW7 yW8 yW9 yW10 yN0 yN1
                obtain ⟨yW0, yW1, yW2, yW3, yW4, yW5, yW6, yW7, yW8, yW9, yW10⟩ := HKW.out _ rWu7
                obtain ⟨yN0, yN1⟩ := HKN.out _ rNu7
                go_wp2_with fail
                go_ret
                exact ⟨rfl, by ((repeat (first | with_reducible assumption | with_reducible exact Below.refl _ _ | refine Below.setCell ?_ (by (first | omega | (simp; omega) | (simp; done) | fail "sml")) _ | refine Below.drew ?_ | refine Below.alloc ?_ (by (first | omega | (simp; omega) | (simp; done) | fail "sml")) _)); first | done | fail "chs")⟩
              · have qc : (yc.op == 0) = false := beq_eq_false_iff_ne.2 hc0
                rw [numF_some hc0] at EM
                obtain ⟨kc, hkc⟩ := HAU.out.2.cnd
                have HKC := Lib.hid (show yc.At u1.heap.size u1 (.agg #[.int .i64 yc.op, .string yc.a, .slice p' yc.ks.list.length c']) from by obtain ⟨k1, k2, e1, e2, e3⟩ := HAU.out.2; cases e1; exact ⟨_, rfl, e3⟩)
                go_wp2_with fail
                refine Calls.mono (EM ▸ numHolds_any yc _ nd.n u1.heap.size _ (HKC.out.below (show Below u1.heap.size u1 _ by assumption) (Nat.le_refl _)) (show Below u1.heap.size u1 _ by assumption).size hysm.2.2.2.1 hysm.2.2.2.2 (HVV.out.below (show Below w.heap.size w _ by assumption))) ?_
                rintro en u7 ⟨rfl, hb⟩
                have rwu7 := Below.trans (show Below w.heap.size w _ by assumption) (hb.mono (by omega))
                have zwu7 := rwu7.size
                have ru1u7 := Below.trans (show Below u1.heap.size u1 _ by assumption) (hb.mono (by omega))
                have zu1u7 := ru1u7.size
                have rWu7 := Below.trans (show Below W.heap.size W _ by assumption) (hb.mono (by omega))
                have zWu7 := rWu7.size
                have rNu7 := Below.trans (show Below N.heap.size N _ by assumption) (hb.mono (by omega))
                have zNu7 := rNu7.size
                clear hb yW0 yW1 yW2 yW3 yW4 yW5 yW6 yW7 yW8 yW9 yW10 yN0 yN1
                obtain ⟨yW0, yW1, yW2, yW3, yW4, yW5, yW6, yW7, yW8, yW9, yW10⟩ := HKW.out _ rWu7
                obtain ⟨yN0, yN1⟩ := HKN.out _ rNu7
                go_wp2_with fail
                refine Calls.mono ((nodeF_emN EG hlt) ▸ nodeFits_any g emN _ _ (k : Int) u1.heap.size _ (HAU.out.1.below (show Below u1.heap.size u1 _ by assumption)) (emN_at _ _) (show Below u1.heap.size u1 _ by assumption).size hok emN_sm (HVV.out.below (show Below w.heap.size w _ by assumption))) ?_
                rintro en u8 ⟨rfl, hb⟩
                have rwu8 := Below.trans (show Below w.heap.size w _ by assumption) (hb.mono (by omega))
                have zwu8 := rwu8.size
                have ru1u8 := Below.trans (show Below u1.heap.size u1 _ by assumption) (hb.mono (by omega))
                have zu1u8 := ru1u8.size
                have rWu8 := Below.trans (show Below W.heap.size W _ by assumption) (hb.mono (by omega))
                have zWu8 := rWu8.size
                have rNu8 := Below.trans (show Below N.heap.size N _ by assumption) (hb.mono (by omega))
                have zNu8 := rNu8.size
                clear hb yW0 yW1 yW2 yW3 yW4 yW5 yW6 yW7 yW8 yW9 yW10 yN0 yN1
                obtain ⟨yW0, yW1, yW2, yW3, yW4, yW5, yW6, yW7, yW8, yW9, yW10⟩ := HKW.out _ rWu8
                obtain ⟨yN0, yN1⟩ := HKN.out _ rNu8
                go_wp2_with fail
                go_ret
                exact ⟨rfl, by ((repeat (first | with_reducible assumption | with_reducible exact Below.refl _ _ | refine Below.setCell ?_ (by (first | omega | (simp; omega) | (simp; done) | fail "sml")) _ | refine Below.drew ?_ | refine Below.alloc ?_ (by (first | omega | (simp; omega) | (simp; done) | fail "sml")) _)); first | done | fail "chs")⟩
        | true =>
          cases M with
          | false =>
            rw [show b = false from Eb.symm] at EF
            go_wp2_with fail
            refine Calls.mono (EF ▸ nodeFits_any g (⟨true, yv, yl, yc, yd⟩ : El) _ _ (k : Int) u1.heap.size _ (HAU.out.1.below (show Below u1.heap.size u1 _ by assumption)) (HAU.out.2.below (show Below u1.heap.size u1 _ by assumption) (Nat.le_refl _)) (show Below u1.heap.size u1 _ by assumption).size hok hysm (HVV.out.below (show Below w.heap.size w _ by assumption))) ?_
            rintro en u2 ⟨rfl, hb⟩
            have rwu2 := Below.trans (show Below w.heap.size w _ by assumption) (hb.mono (by omega))
            have zwu2 := rwu2.size
            have ru1u2 := Below.trans (show Below u1.heap.size u1 _ by assumption) (hb.mono (by omega))
            have zu1u2 := ru1u2.size
            have rWu2 := Below.trans (show Below W.heap.size W _ by assumption) (hb.mono (by omega))
            have zWu2 := rWu2.size
            clear hb yW0 yW1 yW2 yW3 yW4 yW5 yW6 yW7 yW8 yW9 yW10
            obtain ⟨yW0, yW1, yW2, yW3, yW4, yW5, yW6, yW7, yW8, yW9, yW10⟩ := HKW.out _ rWu2
            go_wp2_with fail
            refine Calls.mono (EF ▸ specNodeFits_any g (⟨true, yv, yl, yc, yd⟩ : El) _ _ (k : Int) u1.heap.size _ (HAU.out.1.below (show Below u1.heap.size u1 _ by assumption)) (HAU.out.2.below (show Below u1.heap.size u1 _ by assumption) (Nat.le_refl _)) (show Below u1.heap.size u1 _ by assumption).size hok hysm) ?_
            rintro en u3 ⟨rfl, hb⟩
            have rwu3 := Below.trans (show Below w.heap.size w _ by assumption) (hb.mono (by omega))
            have zwu3 := rwu3.size
            have ru1u3 := Below.trans (show Below u1.heap.size u1 _ by assumption) (hb.mono (by omega))
            have zu1u3 := ru1u3.size
            have rWu3 := Below.trans (show Below W.heap.size W _ by assumption) (hb.mono (by omega))
            have zWu3 := rWu3.size
            clear hb yW0 yW1 yW2 yW3 yW4 yW5 yW6 yW7 yW8 yW9 yW10
            obtain ⟨yW0, yW1, yW2, yW3, yW4, yW5, yW6, yW7, yW8, yW9, yW10⟩ := HKW.out _ rWu3
            go_wp2_with fail
            refine Calls.mono (EG ▸ graphValid_any g _ u1.heap.size _ (HAU.out.1.below (show Below u1.heap.size u1 _ by assumption)) (show Below u1.heap.size u1 _ by assumption).size hok) ?_
            rintro en u4 ⟨rfl, hb⟩
            have rwu4 := Below.trans (show Below w.heap.size w _ by assumption) (hb.mono (by omega))
            have zwu4 := rwu4.size
            have ru1u4 := Below.trans (show Below u1.heap.size u1 _ by assumption) (hb.mono (by omega))
            have zu1u4 := ru1u4.size
            have rWu4 := Below.trans (show Below W.heap.size W _ by assumption) (hb.mono (by omega))
            have zWu4 := rWu4.size
            clear hb yW0 yW1 yW2 yW3 yW4 yW5 yW6 yW7 yW8 yW9 yW10
            obtain ⟨yW0, yW1, yW2, yW3, yW4, yW5, yW6, yW7, yW8, yW9, yW10⟩ := HKW.out _ rWu4
            go_wp2_with fail
            refine Calls.mono (EE ▸ elemValid_any (⟨true, yv, yl, yc, yd⟩ : El) _ u1.heap.size _ (HAU.out.2.below (show Below u1.heap.size u1 _ by assumption) (Nat.le_refl _)) (show Below u1.heap.size u1 _ by assumption).size hysm (HVV.out.below (show Below w.heap.size w _ by assumption))) ?_
            rintro en u5 ⟨rfl, hb⟩
            have rwu5 := Below.trans (show Below w.heap.size w _ by assumption) (hb.mono (by omega))
            have zwu5 := rwu5.size
            have ru1u5 := Below.trans (show Below u1.heap.size u1 _ by assumption) (hb.mono (by omega))
            have zu1u5 := ru1u5.size
            have rWu5 := Below.trans (show Below W.heap.size W _ by assumption) (hb.mono (by omega))
            have zWu5 := rWu5.size
            have w0 := keepc ru1u5 hbb nc0
            have w1 := keepc ru1u5 hbb nc1
            clear hb yW0 yW1 yW2 yW3 yW4 yW5 yW6 yW7 yW8 yW9 yW10
            obtain ⟨yW0, yW1, yW2, yW3, yW4, yW5, yW6, yW7, yW8, yW9, yW10⟩ := HKW.out _ rWu5
            go_upto_region 8 with fail
            obtain ⟨N, eN⟩ : ∃ E, E = u5.alloc (.cells #[.string nd.l, .int .i64 nd.n] 41) := ⟨_, rfl⟩
            have sN : u5.heap.size < N.heap.size := by rw [eN]; simp
            have kN : Below u5.heap.size u5 N := by rw [eN]; ((repeat (first | with_reducible assumption | with_reducible exact Below.refl _ _ | refine Below.setCell ?_ (by (first | omega | (simp; omega) | (simp; done) | fail "sml")) _ | refine Below.drew ?_ | refine Below.alloc ?_ (by (first | omega | (simp; omega) | (simp; done) | fail "sml")) _)); first | done | fail "chs")
            have HCN := Lib.hid (show N.cell? ⟨u5.heap.size, 0, none⟩ = some (.string nd.l) ∧ N.cell? ⟨u5.heap.size, 1, none⟩ = some (.int .i64 nd.n) from by rw [eN]; exact ⟨by simp [go_sem], by simp [go_sem]⟩)
            skip
            rw [← eN]
            have rwN := Below.trans (show Below w.heap.size w _ by ((repeat (first | with_reducible assumption | with_reducible exact Below.refl _ _ | refine Below.setCell ?_ (by (first | omega | (simp; omega) | (simp; done) | fail "sml")) _ | refine Below.drew ?_ | refine Below.alloc ?_ (by (first | omega | (simp; omega) | (simp; done) | fail "sml")) _)); first | done | fail "chs")) (kN.mono (by (first | omega | (simp; omega) | (simp; done) | fail "sml")))
            have ru1N := Below.trans (show Below u1.heap.size u1 _ by ((repeat (first | with_reducible assumption | with_reducible exact Below.refl _ _ | refine Below.setCell ?_ (by (first | omega | (simp; omega) | (simp; done) | fail "sml")) _ | refine Below.drew ?_ | refine Below.alloc ?_ (by (first | omega | (simp; omega) | (simp; done) | fail "sml")) _)); first | done | fail "chs")) (kN.mono (by (first | omega | (simp; omega) | (simp; done) | fail "sml")))
            have rWN := Below.trans (show Below W.heap.size W _ by ((repeat (first | with_reducible assumption | with_reducible exact Below.refl _ _ | refine Below.setCell ?_ (by (first | omega | (simp; omega) | (simp; done) | fail "sml")) _ | refine Below.drew ?_ | refine Below.alloc ?_ (by (first | omega | (simp; omega) | (simp; done) | fail "sml")) _)); first | done | fail "chs")) (kN.mono (by (first | omega | (simp; omega) | (simp; done) | fail "sml")))
            have HKN := Lib.hid (fun (E : World) (hE : Below N.heap.size N E) => (⟨keepc hE sN HCN.out.1, keepc hE sN HCN.out.2⟩ : E.cell? ⟨u5.heap.size, 0, none⟩ = some (.string nd.l) ∧ E.cell? ⟨u5.heap.size, 1, none⟩ = some (.int .i64 nd.n)))
            have rN0 := Below.refl N.heap.size N
            obtain ⟨yN0, yN1⟩ := HKN.out _ rN0
            clear eN kN
            clear yW0 yW1 yW2 yW3 yW4 yW5 yW6 yW7 yW8 yW9 yW10
            obtain ⟨yW0, yW1, yW2, yW3, yW4, yW5, yW6, yW7, yW8, yW9, yW10⟩ := HKW.out _ rWN
            by_cases hl0 : yl.op = 0
            · have ql : (yl.op == 0) = true := beq_iff_eq.2 hl0
              clear hl0
              by_cases hc0 : yc.op = 0
              · have qc : (yc.op == 0) = true := beq_iff_eq.2 hc0
                rw [numF_none hpt.2 hc0] at EM
                cases EM
              · have qc : (yc.op == 0) = false := beq_eq_false_iff_ne.2 hc0
                rw [numF_some hc0] at EM
                obtain ⟨kc, hkc⟩ := HAU.out.2.cnd
                have HKC := Lib.hid (show yc.At u1.heap.size u1 (.agg #[.int .i64 yc.op, .string yc.a, .slice p' yc.ks.list.length c']) from by obtain ⟨k1, k2, e1, e2, e3⟩ := HAU.out.2; cases e1; exact ⟨_, rfl, e3⟩)
                go_wp2_with fail
                refine Calls.mono (EM ▸ numHolds_any yc _ nd.n u1.heap.size _ (HKC.out.below (show Below u1.heap.size u1 _ by assumption) (Nat.le_refl _)) (show Below u1.heap.size u1 _ by assumption).size hysm.2.2.2.1 hysm.2.2.2.2 (HVV.out.below (show Below w.heap.size w _ by assumption))) ?_
                rintro en u6 ⟨rfl, hb⟩
                have rwu6 := Below.trans (show Below w.heap.size w _ by assumption) (hb.mono (by omega))
                have zwu6 := rwu6.size
                have ru1u6 := Below.trans (show Below u1.heap.size u1 _ by assumption) (hb.mono (by omega))
                have zu1u6 := ru1u6.size
                have rWu6 := Below.trans (show Below W.heap.size W _ by assumption) (hb.mono (by omega))
                have zWu6 := rWu6.size
                have rNu6 := Below.trans (show Below N.heap.size N _ by assumption) (hb.mono (by omega))
                have zNu6 := rNu6.size
                clear hb yW0 yW1 yW2 yW3 yW4 yW5 yW6 yW7 yW8 yW9 yW10 yN0 yN1
                obtain ⟨yW0, yW1, yW2, yW3, yW4, yW5, yW6, yW7, yW8, yW9, yW10⟩ := HKW.out _ rWu6
                obtain ⟨yN0, yN1⟩ := HKN.out _ rNu6
                go_wp2_with fail
                refine Calls.mono ((nodeF_emN EG hlt) ▸ nodeFits_any g emN _ _ (k : Int) u1.heap.size _ (HAU.out.1.below (show Below u1.heap.size u1 _ by assumption)) (emN_at _ _) (show Below u1.heap.size u1 _ by assumption).size hok emN_sm (HVV.out.below (show Below w.heap.size w _ by assumption))) ?_
                rintro en u7 ⟨rfl, hb⟩
                have rwu7 := Below.trans (show Below w.heap.size w _ by assumption) (hb.mono (by omega))
                have zwu7 := rwu7.size
                have ru1u7 := Below.trans (show Below u1.heap.size u1 _ by assumption) (hb.mono (by omega))
                have zu1u7 := ru1u7.size
                have rWu7 := Below.trans (show Below W.heap.size W _ by assumption) (hb.mono (by omega))
                have zWu7 := rWu7.size
                have rNu7 := Below.trans (show Below N.heap.size N _ by assumption) (hb.mono (by omega))
                have zNu7 := rNu7.size
                clear hb yW0 yW1 yW2 yW3 yW4 yW5 yW6 yW7 yW8 yW9 yW10 yN0 yN1
                obtain ⟨yW0, yW1, yW2, yW3, yW4, yW5, yW6, yW7, yW8, yW9, yW10⟩ := HKW.out _ rWu7
                obtain ⟨yN0, yN1⟩ := HKN.out _ rNu7
                go_wp2_with fail
                go_ret
                exact ⟨rfl, by ((repeat (first | with_reducible assumption | with_reducible exact Below.refl _ _ | refine Below.setCell ?_ (by (first | omega | (simp; omega) | (simp; done) | fail "sml")) _ | refine Below.drew ?_ | refine Below.alloc ?_ (by (first | omega | (simp; omega) | (simp; done) | fail "sml")) _)); first | done | fail "chs")⟩
            · have ql : (yl.op == 0) = false := beq_eq_false_iff_ne.2 hl0
              rw [labF_some hl0] at EL
              have HKL := Lib.hid (show yl.At u1.heap.size u1 (.agg #[.int .i64 yl.op, .string yl.a, .slice p yl.ks.list.length c]) from by obtain ⟨k1, k2, e1, e2, e3⟩ := HAU.out.2; cases e1; exact ⟨_, rfl, e2⟩)
              go_wp2_with fail
              refine Calls.mono (EL ▸ labelHolds_any yl _ nd.l u1.heap.size _ (HKL.out.below (show Below u1.heap.size u1 _ by assumption) (Nat.le_refl _)) (show Below u1.heap.size u1 _ by assumption).size hysm.2.1 hysm.2.2.1 hpv.2.2 (HVV.out.below (show Below w.heap.size w _ by assumption))) ?_
              rintro en u6 ⟨rfl, hb⟩
              have rwu6 := Below.trans (show Below w.heap.size w _ by assumption) (hb.mono (by omega))
              have zwu6 := rwu6.size
              have ru1u6 := Below.trans (show Below u1.heap.size u1 _ by assumption) (hb.mono (by omega))
              have zu1u6 := ru1u6.size
              have rWu6 := Below.trans (show Below W.heap.size W _ by assumption) (hb.mono (by omega))
              have zWu6 := rWu6.size
              have rNu6 := Below.trans (show Below N.heap.size N _ by assumption) (hb.mono (by omega))
              have zNu6 := rNu6.size
              clear hb yW0 yW1 yW2 yW3 yW4 yW5 yW6 yW7 yW8 yW9 yW10 yN0 yN1
              obtain ⟨yW0, yW1, yW2, yW3, yW4, yW5, yW6, yW7, yW8, yW9, yW10⟩ := HKW.out _ rWu6
              obtain ⟨yN0, yN1⟩ := HKN.out _ rNu6
              by_cases hc0 : yc.op = 0
              · have qc : (yc.op == 0) = true := beq_iff_eq.2 hc0
                rw [numF_none hpt.2 hc0] at EM
                cases EM
              · have qc : (yc.op == 0) = false := beq_eq_false_iff_ne.2 hc0
                rw [numF_some hc0] at EM
                obtain ⟨kc, hkc⟩ := HAU.out.2.cnd
                have HKC := Lib.hid (show yc.At u1.heap.size u1 (.agg #[.int .i64 yc.op, .string yc.a, .slice p' yc.ks.list.length c']) from by obtain ⟨k1, k2, e1, e2, e3⟩ := HAU.out.2; cases e1; exact ⟨_, rfl, e3⟩)
                go_wp2_with fail
                refine Calls.mono (EM ▸ numHolds_any yc _ nd.n u1.heap.size _ (HKC.out.below (show Below u1.heap.size u1 _ by assumption) (Nat.le_refl _)) (show Below u1.heap.size u1 _ by assumption).size hysm.2.2.2.1 hysm.2.2.2.2 (HVV.out.below (show Below w.heap.size w _ by assumption))) ?_
                rintro en u7 ⟨rfl, hb⟩
                have rwu7 := Below.trans (show Below w.heap.size w _ by assumption) (hb.mono (by omega))
                have zwu7 := rwu7.size
                have ru1u7 := Below.trans (show Below u1.heap.size u1 _ by assumption) (hb.mono (by omega))
                have zu1u7 := ru1u7.size
                have rWu7 := Below.trans (show Below W.heap.size W _ by assumption) (hb.mono (by omega))
                have zWu7 := rWu7.size
                have rNu7 := Below.trans (show Below N.heap.size N _ by assumption) (hb.mono (by omega))
                have zNu7 := rNu7.size
                clear hb yW0 yW1 yW2 yW3 yW4 yW5 yW6 yW7 yW8 yW9 yW10 yN0 yN1
                obtain ⟨yW0, yW1, yW2, yW3, yW4, yW5, yW6, yW7, yW8, yW9, yW10⟩ := HKW.out _ rWu7
                obtain ⟨yN0, yN1⟩ := HKN.out _ rNu7
                go_wp2_with fail
                refine Calls.mono ((nodeF_emN EG hlt) ▸ nodeFits_any g emN _ _ (k : Int) u1.heap.size _ (HAU.out.1.below (show Below u1.heap.size u1 _ by assumption)) (emN_at _ _) (show Below u1.heap.size u1 _ by assumption).size hok emN_sm (HVV.out.below (show Below w.heap.size w _ by assumption))) ?_
                rintro en u8 ⟨rfl, hb⟩
                have rwu8 := Below.trans (show Below w.heap.size w _ by assumption) (hb.mono (by omega))
                have zwu8 := rwu8.size
                have ru1u8 := Below.trans (show Below u1.heap.size u1 _ by assumption) (hb.mono (by omega))
                have zu1u8 := ru1u8.size
                have rWu8 := Below.trans (show Below W.heap.size W _ by assumption) (hb.mono (by omega))
                have zWu8 := rWu8.size
                have rNu8 := Below.trans (show Below N.heap.size N _ by assumption) (hb.mono (by omega))
                have zNu8 := rNu8.size
                clear hb yW0 yW1 yW2 yW3 yW4 yW5 yW6 yW7 yW8 yW9 yW10 yN0 yN1
                obtain ⟨yW0, yW1, yW2, yW3, yW4, yW5, yW6, yW7, yW8, yW9, yW10⟩ := HKW.out _ rWu8
                obtain ⟨yN0, yN1⟩ := HKN.out _ rNu8
                go_wp2_with fail
                go_ret
                exact ⟨rfl, by ((repeat (first | with_reducible assumption | with_reducible exact Below.refl _ _ | refine Below.setCell ?_ (by (first | omega | (simp; omega) | (simp; done) | fail "sml")) _ | refine Below.drew ?_ | refine Below.alloc ?_ (by (first | omega | (simp; omega) | (simp; done) | fail "sml")) _)); first | done | fail "chs")⟩
          | true =>
            rw [show b = true from Eb.symm] at EF
            go_wp2_with fail
            refine Calls.mono (EF ▸ nodeFits_any g (⟨true, yv, yl, yc, yd⟩ : El) _ _ (k : Int) u1.heap.size _ (HAU.out.1.below (show Below u1.heap.size u1 _ by assumption)) (HAU.out.2.below (show Below u1.heap.size u1 _ by assumption) (Nat.le_refl _)) (show Below u1.heap.size u1 _ by assumption).size hok hysm (HVV.out.below (show Below w.heap.size w _ by assumption))) ?_
            rintro en u2 ⟨rfl, hb⟩
            have rwu2 := Below.trans (show Below w.heap.size w _ by assumption) (hb.mono (by omega))
            have zwu2 := rwu2.size
            have ru1u2 := Below.trans (show Below u1.heap.size u1 _ by assumption) (hb.mono (by omega))
            have zu1u2 := ru1u2.size
            have rWu2 := Below.trans (show Below W.heap.size W _ by assumption) (hb.mono (by omega))
            have zWu2 := rWu2.size
            clear hb yW0 yW1 yW2 yW3 yW4 yW5 yW6 yW7 yW8 yW9 yW10
            obtain ⟨yW0, yW1, yW2, yW3, yW4, yW5, yW6, yW7, yW8, yW9, yW10⟩ := HKW.out _ rWu2
            go_wp2_with fail
            refine Calls.mono (EF ▸ specNodeFits_any g (⟨true, yv, yl, yc, yd⟩ : El) _ _ (k : Int) u1.heap.size _ (HAU.out.1.below (show Below u1.heap.size u1 _ by assumption)) (HAU.out.2.below (show Below u1.heap.size u1 _ by assumption) (Nat.le_refl _)) (show Below u1.heap.size u1 _ by assumption).size hok hysm) ?_
            rintro en u3 ⟨rfl, hb⟩
            have rwu3 := Below.trans (show Below w.heap.size w _ by assumption) (hb.mono (by omega))
            have zwu3 := rwu3.size
            have ru1u3 := Below.trans (show Below u1.heap.size u1 _ by assumption) (hb.mono (by omega))
            have zu1u3 := ru1u3.size
            have rWu3 := Below.trans (show Below W.heap.size W _ by assumption) (hb.mono (by omega))
            have zWu3 := rWu3.size
            clear hb yW0 yW1 yW2 yW3 yW4 yW5 yW6 yW7 yW8 yW9 yW10
            obtain ⟨yW0, yW1, yW2, yW3, yW4, yW5, yW6, yW7, yW8, yW9, yW10⟩ := HKW.out _ rWu3
            go_wp2_with fail
            refine Calls.mono (EG ▸ graphValid_any g _ u1.heap.size _ (HAU.out.1.below (show Below u1.heap.size u1 _ by assumption)) (show Below u1.heap.size u1 _ by assumption).size hok) ?_
            rintro en u4 ⟨rfl, hb⟩
            have rwu4 := Below.trans (show Below w.heap.size w _ by assumption) (hb.mono (by omega))
            have zwu4 := rwu4.size
            have ru1u4 := Below.trans (show Below u1.heap.size u1 _ by assumption) (hb.mono (by omega))
            have zu1u4 := ru1u4.size
            have rWu4 := Below.trans (show Below W.heap.size W _ by assumption) (hb.mono (by omega))
            have zWu4 := rWu4.size
            clear hb yW0 yW1 yW2 yW3 yW4 yW5 yW6 yW7 yW8 yW9 yW10
            obtain ⟨yW0, yW1, yW2, yW3, yW4, yW5, yW6, yW7, yW8, yW9, yW10⟩ := HKW.out _ rWu4
            go_wp2_with fail
            refine Calls.mono (EE ▸ elemValid_any (⟨true, yv, yl, yc, yd⟩ : El) _ u1.heap.size _ (HAU.out.2.below (show Below u1.heap.size u1 _ by assumption) (Nat.le_refl _)) (show Below u1.heap.size u1 _ by assumption).size hysm (HVV.out.below (show Below w.heap.size w _ by assumption))) ?_
            rintro en u5 ⟨rfl, hb⟩
            have rwu5 := Below.trans (show Below w.heap.size w _ by assumption) (hb.mono (by omega))
            have zwu5 := rwu5.size
            have ru1u5 := Below.trans (show Below u1.heap.size u1 _ by assumption) (hb.mono (by omega))
            have zu1u5 := ru1u5.size
            have rWu5 := Below.trans (show Below W.heap.size W _ by assumption) (hb.mono (by omega))
            have zWu5 := rWu5.size
            have w0 := keepc ru1u5 hbb nc0
            have w1 := keepc ru1u5 hbb nc1
            clear hb yW0 yW1 yW2 yW3 yW4 yW5 yW6 yW7 yW8 yW9 yW10
            obtain ⟨yW0, yW1, yW2, yW3, yW4, yW5, yW6, yW7, yW8, yW9, yW10⟩ := HKW.out _ rWu5
            go_upto_region 8 with fail
            obtain ⟨N, eN⟩ : ∃ E, E = u5.alloc (.cells #[.string nd.l, .int .i64 nd.n] 41) := ⟨_, rfl⟩
            have sN : u5.heap.size < N.heap.size := by rw [eN]; simp
            have kN : Below u5.heap.size u5 N := by rw [eN]; ((repeat (first | with_reducible assumption | with_reducible exact Below.refl _ _ | refine Below.setCell ?_ (by (first | omega | (simp; omega) | (simp; done) | fail "sml")) _ | refine Below.drew ?_ | refine Below.alloc ?_ (by (first | omega | (simp; omega) | (simp; done) | fail "sml")) _)); first | done | fail "chs")
            have HCN := Lib.hid (show N.cell? ⟨u5.heap.size, 0, none⟩ = some (.string nd.l) ∧ N.cell? ⟨u5.heap.size, 1, none⟩ = some (.int .i64 nd.n) from by rw [eN]; exact ⟨by simp [go_sem], by simp [go_sem]⟩)
            skip
            rw [← eN]
            have rwN := Below.trans (show Below w.heap.size w _ by ((repeat (first | with_reducible assumption | with_reducible exact Below.refl _ _ | refine Below.setCell ?_ (by (first | omega | (simp; omega) | (simp; done) | fail "sml")) _ | refine Below.drew ?_ | refine Below.alloc ?_ (by (first | omega | (simp; omega) | (simp; done) | fail "sml")) _)); first | done | fail "chs")) (kN.mono (by (first | omega | (simp; omega) | (simp; done) | fail "sml")))
            have ru1N := Below.trans (show Below u1.heap.size u1 _ by ((repeat (first | with_reducible assumption | with_reducible exact Below.refl _ _ | refine Below.setCell ?_ (by (first | omega | (simp; omega) | (simp; done) | fail "sml")) _ | refine Below.drew ?_ | refine Below.alloc ?_ (by (first | omega | (simp; omega) | (simp; done) | fail "sml")) _)); first | done | fail "chs")) (kN.mono (by (first | omega | (simp; omega) | (simp; done) | fail "sml")))
            have rWN := Below.trans (show Below W.heap.size W _ by ((repeat (first | with_reducible assumption | with_reducible exact Below.refl _ _ | refine Below.setCell ?_ (by (first | omega | (simp; omega) | (simp; done) | fail "sml")) _ | refine Below.drew ?_ | refine Below.alloc ?_ (by (first | omega | (simp; omega) | (simp; done) | fail "sml")) _)); first | done | fail "chs")) (kN.mono (by (first | omega | (simp; omega) | (simp; done) | fail "sml")))
            have HKN := Lib.hid (fun (E : World) (hE : Below N.heap.size N E) => (⟨keepc hE sN HCN.out.1, keepc hE sN HCN.out.2⟩ : E.cell? ⟨u5.heap.size, 0, none⟩ = some (.string nd.l) ∧ E.cell? ⟨u5.heap.size, 1, none⟩ = some (.int .i64 nd.n)))
            have rN0 := Below.refl N.heap.size N
            obtain ⟨yN0, yN1⟩ := HKN.out _ rN0
            clear eN kN
            clear yW0 yW1 yW2 yW3 yW4 yW5 yW6 yW7 yW8 yW9 yW10
            obtain ⟨yW0, yW1, yW2, yW3, yW4, yW5, yW6, yW7, yW8, yW9, yW10⟩ := HKW.out _ rWN
            by_cases hl0 : yl.op = 0
            · have ql : (yl.op == 0) = true := beq_iff_eq.2 hl0
              clear hl0
              by_cases hc0 : yc.op = 0
              · have qc : (yc.op == 0) = true := beq_iff_eq.2 hc0
                clear hc0
                go_wp2_with fail
                refine Calls.mono ((nodeF_emN EG hlt) ▸ nodeFits_any g emN _ _ (k : Int) u1.heap.size _ (HAU.out.1.below (show Below u1.heap.size u1 _ by assumption)) (emN_at _ _) (show Below u1.heap.size u1 _ by assumption).size hok emN_sm (HVV.out.below (show Below w.heap.size w _ by assumption))) ?_
                rintro en u6 ⟨rfl, hb⟩
                have rwu6 := Below.trans (show Below w.heap.size w _ by assumption) (hb.mono (by omega))
                have zwu6 := rwu6.size
                have ru1u6 := Below.trans (show Below u1.heap.size u1 _ by assumption) (hb.mono (by omega))
                have zu1u6 := ru1u6.size
                have rWu6 := Below.trans (show Below W.heap.size W _ by assumption) (hb.mono (by omega))
                have zWu6 := rWu6.size
                have rNu6 := Below.trans (show Below N.heap.size N _ by assumption) (hb.mono (by omega))
                have zNu6 := rNu6.size
                clear hb yW0 yW1 yW2 yW3 yW4 yW5 yW6 yW7 yW8 yW9 yW10 yN0 yN1
                obtain ⟨yW0, yW1, yW2, yW3, yW4, yW5, yW6, yW7, yW8, yW9, yW10⟩ := HKW.out _ rWu6
                obtain ⟨yN0, yN1⟩ := HKN.out _ rNu6
                go_wp2_with fail
                go_ret
                exact ⟨rfl, by ((repeat (first | with_reducible assumption | with_reducible exact Below.refl _ _ | refine Below.setCell ?_ (by (first | omega | (simp; omega) | (simp; done) | fail "sml")) _ | refine Below.drew ?_ | refine Below.alloc ?_ (by (first | omega | (simp; omega) | (simp; done) | fail "sml")) _)); first | done | fail "chs")⟩
              · have qc : (yc.op == 0) = false := beq_eq_false_iff_ne.2 hc0
                rw [numF_some hc0] at EM
                obtain ⟨kc, hkc⟩ := HAU.out.2.cnd
                have HKC := Lib.hid (show yc.At u1.heap.size u1 (.agg #[.int .i64 yc.op, .string yc.a, .slice p' yc.ks.list.length c']) from by obtain ⟨k1, k2, e1, e2, e3⟩ := HAU.out.2; cases e1; exact ⟨_, rfl, e3⟩)
                go_wp2_with fail
                refine Calls.mono (EM ▸ numHolds_any yc _ nd.n u1.heap.size _ (HKC.out.below (show Below u1.heap.size u1 _ by assumption) (Nat.le_refl _)) (show Below u1.heap.size u1 _ by assumption).size hysm.2.2.2.1 hysm.2.2.2.2 (HVV.out.below (show Below w.heap.size w _ by assumption))) ?_
                rintro en u6 ⟨rfl, hb⟩
                have rwu6 := Below.trans (show Below w.heap.size w _ by assumption) (hb.mono (by omega))
                have zwu6 := rwu6.size
                have ru1u6 := Below.trans (show Below u1.heap.size u1 _ by assumption) (hb.mono (by omega))
                have zu1u6 := ru1u6.size
                have rWu6 := Below.trans (show Below W.heap.size W _ by assumption) (hb.mono (by omega))
                have zWu6 := rWu6.size
                have rNu6 := Below.trans (show Below N.heap.size N _ by assumption) (hb.mono (by omega))
                have zNu6 := rNu6.size
                clear hb yW0 yW1 yW2 yW3 yW4 yW5 yW6 yW7 yW8 yW9 yW10 yN0 yN1
                obtain ⟨yW0, yW1, yW2, yW3, yW4, yW5, yW6, yW7, yW8, yW9, yW10⟩ := HKW.out _ rWu6
                obtain ⟨yN0, yN1⟩ := HKN.out _ rNu6
                go_wp2_with fail
                refine Calls.mono ((nodeF_emN EG hlt) ▸ nodeFits_any g emN _ _ (k : Int) u1.heap.size _ (HAU.out.1.below (show Below u1.heap.size u1 _ by assumption)) (emN_at _ _) (show Below u1.heap.size u1 _ by assumption).size hok emN_sm (HVV.out.below (show Below w.heap.size w _ by assumption))) ?_
                rintro en u7 ⟨rfl, hb⟩
                have rwu7 := Below.trans (show Below w.heap.size w _ by assumption) (hb.mono (by omega))
                have zwu7 := rwu7.size
                have ru1u7 := Below.trans (show Below u1.heap.size u1 _ by assumption) (hb.mono (by omega))
                have zu1u7 := ru1u7.size
                have rWu7 := Below.trans (show Below W.heap.size W _ by assumption) (hb.mono (by omega))
                have zWu7 := rWu7.size
                have rNu7 := Below.trans (show Below N.heap.size N _ by assumption) (hb.mono (by omega))
                have zNu7 := rNu7.size
                clear hb yW0 yW1 yW2 yW3 yW4 yW5 yW6 yW7 yW8 yW9 yW10 yN0 yN1
                obtain ⟨yW0, yW1, yW2, yW3, yW4, yW5, yW6, yW7, yW8, yW9, yW10⟩ := HKW.out _ rWu7
                obtain ⟨yN0, yN1⟩ := HKN.out _ rNu7
                go_wp2_with fail
                go_ret
                exact ⟨rfl, by ((repeat (first | with_reducible assumption | with_reducible exact Below.refl _ _ | refine Below.setCell ?_ (by (first | omega | (simp; omega) | (simp; done) | fail "sml")) _ | refine Below.drew ?_ | refine Below.alloc ?_ (by (first | omega | (simp; omega) | (simp; done) | fail "sml")) _)); first | done | fail "chs")⟩
            · have ql : (yl.op == 0) = false := beq_eq_false_iff_ne.2 hl0
              rw [labF_some hl0] at EL
              have HKL := Lib.hid (show yl.At u1.heap.size u1 (.agg #[.int .i64 yl.op, .string yl.a, .slice p yl.ks.list.length c]) from by obtain ⟨k1, k2, e1, e2, e3⟩ := HAU.out.2; cases e1; exact ⟨_, rfl, e2⟩)
              go_wp2_with fail
              refine Calls.mono (EL ▸ labelHolds_any yl _ nd.l u1.heap.size _ (HKL.out.below (show Below u1.heap.size u1 _ by assumption) (Nat.le_refl _)) (show Below u1.heap.size u1 _ by assumption).size hysm.2.1 hysm.2.2.1 hpv.2.2 (HVV.out.below (show Below w.heap.size w _ by assumption))) ?_
              rintro en u6 ⟨rfl, hb⟩
              have rwu6 := Below.trans (show Below w.heap.size w _ by assumption) (hb.mono (by omega))
              have zwu6 := rwu6.size
              have ru1u6 := Below.trans (show Below u1.heap.size u1 _ by assumption) (hb.mono (by omega))
              have zu1u6 := ru1u6.size
              have rWu6 := Below.trans (show Below W.heap.size W _ by assumption) (hb.mono (by omega))
              have zWu6 := rWu6.size
              have rNu6 := Below.trans (show Below N.heap.size N _ by assumption) (hb.mono (by omega))
              have zNu6 := rNu6.size
              clear hb yW0 yW1 yW2 yW3 yW4 yW5 yW6 yW7 yW8 yW9 yW10 yN0 yN1
              obtain ⟨yW0, yW1, yW2, yW3, yW4, yW5, yW6, yW7, yW8, yW9, yW10⟩ := HKW.out _ rWu6
              obtain ⟨yN0, yN1⟩ := HKN.out _ rNu6
              by_cases hc0 : yc.op = 0
              · have qc : (yc.op == 0) = true := beq_iff_eq.2 hc0
                clear hc0
                go_wp2_with fail
                refine Calls.mono ((nodeF_emN EG hlt) ▸ nodeFits_any g emN _ _ (k : Int) u1.heap.size _ (HAU.out.1.below (show Below u1.heap.size u1 _ by assumption)) (emN_at _ _) (show Below u1.heap.size u1 _ by assumption).size hok emN_sm (HVV.out.below (show Below w.heap.size w _ by assumption))) ?_
                rintro en u7 ⟨rfl, hb⟩
                have rwu7 := Below.trans (show Below w.heap.size w _ by assumption) (hb.mono (by omega))
                have zwu7 := rwu7.size
                have ru1u7 := Below.trans (show Below u1.heap.size u1 _ by assumption) (hb.mono (by omega))
                have zu1u7 := ru1u7.size
                have rWu7 := Below.trans (show Below W.heap.size W _ by assumption) (hb.mono (by omega))
                have zWu7 := rWu7.size
                have rNu7 := Below.trans (show Below N.heap.size N _ by assumption) (hb.mono (by omega))
                have zNu7 := rNu7.size
                clear hb yW0 yW1 yW2 yW3 yW4 yW5 yW6 yW7 yW8 yW9 yW10 yN0 yN1
                obtain ⟨yW0, yW1, yW2, yW3, yW4, yW5, yW6, yW7, yW8, yW9, yW10⟩ := HKW.out _ rWu7
                obtain ⟨yN0, yN1⟩ := HKN.out _ rNu7
                go_wp2_with fail
                go_ret
                exact ⟨rfl, by ((repeat (first | with_reducible assumption | with_reducible exact Below.refl _ _ | refine Below.setCell ?_ (by (first | omega | (simp; omega) | (simp; done) | fail "sml")) _ | refine Below.drew ?_ | refine Below.alloc ?_ (by (first | omega | (simp; omega) | (simp; done) | fail "sml")) _)); first | done | fail "chs")⟩
              · have qc : (yc.op == 0) = false := beq_eq_false_iff_ne.2 hc0
                rw [numF_some hc0] at EM
                obtain ⟨kc, hkc⟩ := HAU.out.2.cnd
                have HKC := Lib.hid (show yc.At u1.heap.size u1 (.agg #[.int .i64 yc.op, .string yc.a, .slice p' yc.ks.list.length c']) from by obtain ⟨k1, k2, e1, e2, e3⟩ := HAU.out.2; cases e1; exact ⟨_, rfl, e3⟩)
                go_wp2_with fail
                refine Calls.mono (EM ▸ numHolds_any yc _ nd.n u1.heap.size _ (HKC.out.below (show Below u1.heap.size u1 _ by assumption) (Nat.le_refl _)) (show Below u1.heap.size u1 _ by assumption).size hysm.2.2.2.1 hysm.2.2.2.2 (HVV.out.below (show Below w.heap.size w _ by assumption))) ?_
                rintro en u7 ⟨rfl, hb⟩
                have rwu7 := Below.trans (show Below w.heap.size w _ by assumption) (hb.mono (by omega))
                have zwu7 := rwu7.size
                have ru1u7 := Below.trans (show Below u1.heap.size u1 _ by assumption) (hb.mono (by omega))
                have zu1u7 := ru1u7.size
                have rWu7 := Below.trans (show Below W.heap.size W _ by assumption) (hb.mono (by omega))
                have zWu7 := rWu7.size
                have rNu7 := Below.trans (show Below N.heap.size N _ by assumption) (hb.mono (by omega))
                have zNu7 := rNu7.size
                clear hb yW0 yW1 yW2 yW3 yW4 yW5 yW6 yW7 yW8 yW9 yW10 yN0 yN1
                obtain ⟨yW0, yW1, yW2, yW3, yW4, yW5, yW6, yW7, yW8, yW9, yW10⟩ := HKW.out _ rWu7
                obtain ⟨yN0, yN1⟩ := HKN.out _ rNu7
                go_wp2_with fail
                refine Calls.mono ((nodeF_emN EG hlt) ▸ nodeFits_any g emN _ _ (k : Int) u1.heap.size _ (HAU.out.1.below (show Below u1.heap.size u1 _ by assumption)) (emN_at _ _) (show Below u1.heap.size u1 _ by assumption).size hok emN_sm (HVV.out.below (show Below w.heap.size w _ by assumption))) ?_
                rintro en u8 ⟨rfl, hb⟩
                have rwu8 := Below.trans (show Below w.heap.size w _ by assumption) (hb.mono (by omega))
                have zwu8 := rwu8.size
                have ru1u8 := Below.trans (show Below u1.heap.size u1 _ by assumption) (hb.mono (by omega))
                have zu1u8 := ru1u8.size
                have rWu8 := Below.trans (show Below W.heap.size W _ by assumption) (hb.mono (by omega))
                have zWu8 := rWu8.size
                have rNu8 := Below.trans (show Below N.heap.size N _ by assumption) (hb.mono (by omega))
                have zNu8 := rNu8.size
                clear hb yW0 yW1 yW2 yW3 yW4 yW5 yW6 yW7 yW8 yW9 yW10 yN0 yN1
                obtain ⟨yW0, yW1, yW2, yW3, yW4, yW5, yW6, yW7, yW8, yW9, yW10⟩ := HKW.out _ rWu8
                obtain ⟨yN0, yN1⟩ := HKN.out _ rNu8
                go_wp2_with fail
                go_ret
                exact ⟨rfl, by ((repeat (first | with_reducible assumption | with_reducible exact Below.refl _ _ | refine Below.setCell ?_ (by (first | omega | (simp; omega) | (simp; done) | fail "sml")) _ | refine Below.drew ?_ | refine Below.alloc ?_ (by (first | omega | (simp; omega) | (simp; done) | fail "sml")) _)); first | done | fail "chs")⟩

end Go.Proofs.YtkehmecnoeghoaaDoor
