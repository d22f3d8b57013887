/- The walk of FnEdgeFits. -/
import Derived.Test.YtghhabailgfelaaDoorL3E
import Derived.Test.YtghhabailgfelaaDoorM6p1
import Derived.Test.YtghhabailgfelaaDoorM0p1
import Derived.Test.YtghhabailgfelaaDoorM7p1
import Derived.Test.YtghhabailgfelaaDoorFitsR
namespace Go.Proofs.YtghhabailgfelaaDoor
open Go.RowKit

set_option maxRecDepth 100000 in
set_option maxHeartbeats 16000000 in
theorem lawEdgeFits (zs : List Int) (v : Value) (w : World) (hv : Sl 1 byCells w.heap.size w v zs) (hz : ∀ z ∈ zs, 0 ≤ z ∧ z ≤ 255) (hvars : Vars w) :
    Calls Tryd.prog 5 #[v] w fun e w' => e = .returned (.bool true) ∧ Below w.heap.size w w' := by
  have HVV := Lib.hid hvars
  clear hvars
  obtain ⟨p, cap, rfl⟩ := hv.form
  have hm := hv.max
  unfold maxLen at hm
  by_cases hbig : (1048576 : Int) < zs.length
  · go_enter Tryd.func5, Tryd.ntmps5
    go_wp2_with fail
    go_ret
    exact ⟨rfl, Below.refl _ _⟩
  go_enter Tryd.func5, Tryd.ntmps5
  go_wp2_with fail
  have rw0 := Below.refl w.heap.size w
  refine Calls.mono (drawEdgeFits_any zs _ w.heap.size _ hv (Nat.le_refl _) hz) ?_
  rintro en o1 ⟨g, vg, Fg, n, ⟨yn, yv, yl, yc, yd⟩, p, c, p', c', rfl, hg, hn, hy, hb⟩
  have rwo1 := Below.trans (show Below w.heap.size w _ by assumption) (hb.mono (by omega))
  have zwo1 := rwo1.size
  obtain ⟨pg, cg, qg, dg, rfl⟩ := hg.1.form
  have hok := hg.2.2.1
  have hgl := And.intro hg.2.2.2.1 hg.2.2.2.2
  have hysm := hy.sm
  have HAU := Lib.hid (And.intro hg.1.at hy.at)
  clear hg hy
  clear hb 
  have ro10 := Below.refl o1.heap.size o1
  cases yn with
  | true =>
    go_upto_region 4 with fail
    obtain ⟨W, eW⟩ : ∃ E, E = (o1.alloc (.cells #[.slice pg g.ns.length cg, .slice qg g.es.length dg] 26)).alloc (.cells #[.bool true, .string yv, .int .i64 yl.op, .string yl.a, .slice p yl.ks.list.length c, .int .i64 yc.op, .string yc.a, .slice p' yc.ks.list.length c', .int .i64 yd] 31) := ⟨_, rfl⟩
    have kW : Below o1.heap.size o1 W := by rw [eW]; ((repeat (first | with_reducible assumption | with_reducible exact Below.refl _ _ | refine Below.setCell ?_ (by (first | omega | (simp; omega) | (simp; done) | fail "sml")) _ | refine Below.drew ?_ | refine Below.alloc ?_ (by (first | omega | (simp; omega) | (simp; done) | fail "sml")) _)); first | done | fail "chs")
    have sW : o1.heap.size + 1 < W.heap.size := by rw [eW]; simp
    have HCW := Lib.hid (show (W.cell? ⟨o1.heap.size, 0, none⟩ = some (.slice pg g.ns.length cg) ∧ W.cell? ⟨o1.heap.size, 1, none⟩ = some (.slice qg g.es.length dg) ∧ W.cell? ⟨o1.heap.size + 1, 0, none⟩ = some (.bool true) ∧ W.cell? ⟨o1.heap.size + 1, 1, none⟩ = some (.string yv) ∧ W.cell? ⟨o1.heap.size + 1, 2, none⟩ = some (.int .i64 yl.op) ∧ W.cell? ⟨o1.heap.size + 1, 3, none⟩ = some (.string yl.a) ∧ W.cell? ⟨o1.heap.size + 1, 4, none⟩ = some (.slice p yl.ks.list.length c) ∧ W.cell? ⟨o1.heap.size + 1, 5, none⟩ = some (.int .i64 yc.op) ∧ W.cell? ⟨o1.heap.size + 1, 6, none⟩ = some (.string yc.a) ∧ W.cell? ⟨o1.heap.size + 1, 7, none⟩ = some (.slice p' yc.ks.list.length c') ∧ W.cell? ⟨o1.heap.size + 1, 8, none⟩ = some (.int .i64 yd)) ∧ ∀ i, W.frozen? ⟨o1.heap.size + 1, i, none⟩ = false from by rw [eW]; exact ⟨⟨by simp [go_sem], by simp [go_sem], by simp [go_sem], by simp [go_sem], by simp [go_sem], by simp [go_sem], by simp [go_sem], by simp [go_sem], by simp [go_sem], by simp [go_sem], by simp [go_sem]⟩, fun i => by simp [go_sem]⟩)
    have rwW := Below.trans (show Below w.heap.size w _ by ((repeat (first | with_reducible assumption | with_reducible exact Below.refl _ _ | refine Below.setCell ?_ (by (first | omega | (simp; omega) | (simp; done) | fail "sml")) _ | refine Below.drew ?_ | refine Below.alloc ?_ (by (first | omega | (simp; omega) | (simp; done) | fail "sml")) _)); first | done | fail "chs")) (kW.mono (by (first | omega | (simp; omega) | (simp; done) | fail "sml")))
    have ro1W := Below.trans (show Below o1.heap.size o1 _ by ((repeat (first | with_reducible assumption | with_reducible exact Below.refl _ _ | refine Below.setCell ?_ (by (first | omega | (simp; omega) | (simp; done) | fail "sml")) _ | refine Below.drew ?_ | refine Below.alloc ?_ (by (first | omega | (simp; omega) | (simp; done) | fail "sml")) _)); first | done | fail "chs")) (kW.mono (by (first | omega | (simp; omega) | (simp; done) | fail "sml")))
    rw [← eW]
    have HKW := Lib.hid (fun (E : World) (hE : Below W.heap.size W E) => (⟨keepc hE (by omega) HCW.out.1.1, keepc hE (by omega) HCW.out.1.2.1, keepc hE (by omega) HCW.out.1.2.2.1, keepc hE (by omega) HCW.out.1.2.2.2.1, keepc hE (by omega) HCW.out.1.2.2.2.2.1, keepc hE (by omega) HCW.out.1.2.2.2.2.2.1, keepc hE (by omega) HCW.out.1.2.2.2.2.2.2.1, keepc hE (by omega) HCW.out.1.2.2.2.2.2.2.2.1, keepc hE (by omega) HCW.out.1.2.2.2.2.2.2.2.2.1, keepc hE (by omega) HCW.out.1.2.2.2.2.2.2.2.2.2.1, keepc hE (by omega) HCW.out.1.2.2.2.2.2.2.2.2.2.2⟩ : E.cell? ⟨o1.heap.size, 0, none⟩ = some (.slice pg g.ns.length cg) ∧ E.cell? ⟨o1.heap.size, 1, none⟩ = some (.slice qg g.es.length dg) ∧ E.cell? ⟨o1.heap.size + 1, 0, none⟩ = some (.bool true) ∧ E.cell? ⟨o1.heap.size + 1, 1, none⟩ = some (.string yv) ∧ E.cell? ⟨o1.heap.size + 1, 2, none⟩ = some (.int .i64 yl.op) ∧ E.cell? ⟨o1.heap.size + 1, 3, none⟩ = some (.string yl.a) ∧ E.cell? ⟨o1.heap.size + 1, 4, none⟩ = some (.slice p yl.ks.list.length c) ∧ E.cell? ⟨o1.heap.size + 1, 5, none⟩ = some (.int .i64 yc.op) ∧ E.cell? ⟨o1.heap.size + 1, 6, none⟩ = some (.string yc.a) ∧ E.cell? ⟨o1.heap.size + 1, 7, none⟩ = some (.slice p' yc.ks.list.length c') ∧ E.cell? ⟨o1.heap.size + 1, 8, none⟩ = some (.int .i64 yd)))
    have rW0 := Below.refl W.heap.size W
    obtain ⟨yW0, yW1, yW2, yW3, yW4, yW5, yW6, yW7, yW8, yW9, yW10⟩ := HKW.out _ rW0
    clear eW kW
    cases EG : gv g with
    | false =>
      have EB : edgeF g n (⟨true, yv, yl, yc, yd⟩ : El) = false := by unfold edgeF; rw [EG]; rfl
      go_wp2_with fail
      refine Calls.mono (EB ▸ edgeFits_any g (⟨true, yv, yl, yc, yd⟩ : El) _ _ n o1.heap.size _ (HAU.out.1.below (show Below o1.heap.size o1 _ by assumption)) (HAU.out.2.below (show Below o1.heap.size o1 _ by assumption) (Nat.le_refl _)) (show Below o1.heap.size o1 _ by assumption).size hok hysm (HVV.out.below (show Below w.heap.size w _ by assumption))) ?_
      rintro en o2 ⟨rfl, hb⟩
      have rwo2 := Below.trans (show Below w.heap.size w _ by assumption) (hb.mono (by omega))
      have zwo2 := rwo2.size
      have ro1o2 := Below.trans (show Below o1.heap.size o1 _ by assumption) (hb.mono (by omega))
      have zo1o2 := ro1o2.size
      have rWo2 := Below.trans (show Below W.heap.size W _ by assumption) (hb.mono (by omega))
      have zWo2 := rWo2.size
      clear hb yW0 yW1 yW2 yW3 yW4 yW5 yW6 yW7 yW8 yW9 yW10
      obtain ⟨yW0, yW1, yW2, yW3, yW4, yW5, yW6, yW7, yW8, yW9, yW10⟩ := HKW.out _ rWo2
      go_wp2_with fail
      refine Calls.mono (EB ▸ specEdgeFits_any g (⟨true, yv, yl, yc, yd⟩ : El) _ _ n o1.heap.size _ (HAU.out.1.below (show Below o1.heap.size o1 _ by assumption)) (HAU.out.2.below (show Below o1.heap.size o1 _ by assumption) (Nat.le_refl _)) (show Below o1.heap.size o1 _ by assumption).size hok hysm) ?_
      rintro en o3 ⟨rfl, hb⟩
      have rwo3 := Below.trans (show Below w.heap.size w _ by assumption) (hb.mono (by omega))
      have zwo3 := rwo3.size
      have ro1o3 := Below.trans (show Below o1.heap.size o1 _ by assumption) (hb.mono (by omega))
      have zo1o3 := ro1o3.size
      have rWo3 := Below.trans (show Below W.heap.size W _ by assumption) (hb.mono (by omega))
      have zWo3 := rWo3.size
      clear hb yW0 yW1 yW2 yW3 yW4 yW5 yW6 yW7 yW8 yW9 yW10
      obtain ⟨yW0, yW1, yW2, yW3, yW4, yW5, yW6, yW7, yW8, yW9, yW10⟩ := HKW.out _ rWo3
      go_wp2_with fail
      refine Calls.mono (EG ▸ graphValid_any g _ o1.heap.size _ (HAU.out.1.below (show Below o1.heap.size o1 _ by assumption)) (show Below o1.heap.size o1 _ by assumption).size hok) ?_
      rintro en o4 ⟨rfl, hb⟩
      have rwo4 := Below.trans (show Below w.heap.size w _ by assumption) (hb.mono (by omega))
      have zwo4 := rwo4.size
      have ro1o4 := Below.trans (show Below o1.heap.size o1 _ by assumption) (hb.mono (by omega))
      have zo1o4 := ro1o4.size
      have rWo4 := Below.trans (show Below W.heap.size W _ by assumption) (hb.mono (by omega))
      have zWo4 := rWo4.size
      clear hb yW0 yW1 yW2 yW3 yW4 yW5 yW6 yW7 yW8 yW9 yW10
      obtain ⟨yW0, yW1, yW2, yW3, yW4, yW5, yW6, yW7, yW8, yW9, yW10⟩ := HKW.out _ rWo4
      go_wp2_with fail
      refine Calls.mono (EB ▸ specEdgeFits_any g (⟨true, yv, yl, yc, yd⟩ : El) _ _ n o1.heap.size _ (HAU.out.1.below (show Below o1.heap.size o1 _ by assumption)) (HAU.out.2.below (show Below o1.heap.size o1 _ by assumption) (Nat.le_refl _)) (show Below o1.heap.size o1 _ by assumption).size hok hysm) ?_
      rintro en o5 ⟨rfl, hb⟩
      have rwo5 := Below.trans (show Below w.heap.size w _ by assumption) (hb.mono (by omega))
      have zwo5 := rwo5.size
      have ro1o5 := Below.trans (show Below o1.heap.size o1 _ by assumption) (hb.mono (by omega))
      have zo1o5 := ro1o5.size
      have rWo5 := Below.trans (show Below W.heap.size W _ by assumption) (hb.mono (by omega))
      have zWo5 := rWo5.size
      clear hb yW0 yW1 yW2 yW3 yW4 yW5 yW6 yW7 yW8 yW9 yW10
      obtain ⟨yW0, yW1, yW2, yW3, yW4, yW5, yW6, yW7, yW8, yW9, yW10⟩ := HKW.out _ rWo5
      go_wp2_with fail
      go_ret
      exact ⟨rfl, by ((repeat (first | with_reducible assumption | with_reducible exact Below.refl _ _ | refine Below.setCell ?_ (by (first | omega | (simp; omega) | (simp; done) | fail "sml")) _ | refine Below.drew ?_ | refine Below.alloc ?_ (by (first | omega | (simp; omega) | (simp; done) | fail "sml")) _)); first | done | fail "chs")⟩
    | true =>
      cases EE : elemV (⟨true, yv, yl, yc, yd⟩ : El) with
      | false =>
        have EB : edgeF g n (⟨true, yv, yl, yc, yd⟩ : El) = false := by unfold edgeF; rw [EE]; simp
        go_wp2_with fail
        refine Calls.mono (EB ▸ edgeFits_any g (⟨true, yv, yl, yc, yd⟩ : El) _ _ n o1.heap.size _ (HAU.out.1.below (show Below o1.heap.size o1 _ by assumption)) (HAU.out.2.below (show Below o1.heap.size o1 _ by assumption) (Nat.le_refl _)) (show Below o1.heap.size o1 _ by assumption).size hok hysm (HVV.out.below (show Below w.heap.size w _ by assumption))) ?_
        rintro en o2 ⟨rfl, hb⟩
        have rwo2 := Below.trans (show Below w.heap.size w _ by assumption) (hb.mono (by omega))
        have zwo2 := rwo2.size
        have ro1o2 := Below.trans (show Below o1.heap.size o1 _ by assumption) (hb.mono (by omega))
        have zo1o2 := ro1o2.size
        have rWo2 := Below.trans (show Below W.heap.size W _ by assumption) (hb.mono (by omega))
        have zWo2 := rWo2.size
        clear hb yW0 yW1 yW2 yW3 yW4 yW5 yW6 yW7 yW8 yW9 yW10
        obtain ⟨yW0, yW1, yW2, yW3, yW4, yW5, yW6, yW7, yW8, yW9, yW10⟩ := HKW.out _ rWo2
        go_wp2_with fail
        refine Calls.mono (EB ▸ specEdgeFits_any g (⟨true, yv, yl, yc, yd⟩ : El) _ _ n o1.heap.size _ (HAU.out.1.below (show Below o1.heap.size o1 _ by assumption)) (HAU.out.2.below (show Below o1.heap.size o1 _ by assumption) (Nat.le_refl _)) (show Below o1.heap.size o1 _ by assumption).size hok hysm) ?_
        rintro en o3 ⟨rfl, hb⟩
        have rwo3 := Below.trans (show Below w.heap.size w _ by assumption) (hb.mono (by omega))
        have zwo3 := rwo3.size
        have ro1o3 := Below.trans (show Below o1.heap.size o1 _ by assumption) (hb.mono (by omega))
        have zo1o3 := ro1o3.size
        have rWo3 := Below.trans (show Below W.heap.size W _ by assumption) (hb.mono (by omega))
        have zWo3 := rWo3.size
        clear hb yW0 yW1 yW2 yW3 yW4 yW5 yW6 yW7 yW8 yW9 yW10
        obtain ⟨yW0, yW1, yW2, yW3, yW4, yW5, yW6, yW7, yW8, yW9, yW10⟩ := HKW.out _ rWo3
        go_wp2_with fail
        refine Calls.mono (EG ▸ graphValid_any g _ o1.heap.size _ (HAU.out.1.below (show Below o1.heap.size o1 _ by assumption)) (show Below o1.heap.size o1 _ by assumption).size hok) ?_
        rintro en o4 ⟨rfl, hb⟩
        have rwo4 := Below.trans (show Below w.heap.size w _ by assumption) (hb.mono (by omega))
        have zwo4 := rwo4.size
        have ro1o4 := Below.trans (show Below o1.heap.size o1 _ by assumption) (hb.mono (by omega))
        have zo1o4 := ro1o4.size
        have rWo4 := Below.trans (show Below W.heap.size W _ by assumption) (hb.mono (by omega))
        have zWo4 := rWo4.size
        clear hb yW0 yW1 yW2 yW3 yW4 yW5 yW6 yW7 yW8 yW9 yW10
        obtain ⟨yW0, yW1, yW2, yW3, yW4, yW5, yW6, yW7, yW8, yW9, yW10⟩ := HKW.out _ rWo4
        go_wp2_with fail
        refine Calls.mono (EE ▸ elemValid_any (⟨true, yv, yl, yc, yd⟩ : El) _ o1.heap.size _ (HAU.out.2.below (show Below o1.heap.size o1 _ by assumption) (Nat.le_refl _)) (show Below o1.heap.size o1 _ by assumption).size hysm (HVV.out.below (show Below w.heap.size w _ by assumption))) ?_
        rintro en o5 ⟨rfl, hb⟩
        have rwo5 := Below.trans (show Below w.heap.size w _ by assumption) (hb.mono (by omega))
        have zwo5 := rwo5.size
        have ro1o5 := Below.trans (show Below o1.heap.size o1 _ by assumption) (hb.mono (by omega))
        have zo1o5 := ro1o5.size
        have rWo5 := Below.trans (show Below W.heap.size W _ by assumption) (hb.mono (by omega))
        have zWo5 := rWo5.size
        clear hb yW0 yW1 yW2 yW3 yW4 yW5 yW6 yW7 yW8 yW9 yW10
        obtain ⟨yW0, yW1, yW2, yW3, yW4, yW5, yW6, yW7, yW8, yW9, yW10⟩ := HKW.out _ rWo5
        go_wp2_with fail
        refine Calls.mono (EB ▸ specEdgeFits_any g (⟨true, yv, yl, yc, yd⟩ : El) _ _ n o1.heap.size _ (HAU.out.1.below (show Below o1.heap.size o1 _ by assumption)) (HAU.out.2.below (show Below o1.heap.size o1 _ by assumption) (Nat.le_refl _)) (show Below o1.heap.size o1 _ by assumption).size hok hysm) ?_
        rintro en o6 ⟨rfl, hb⟩
        have rwo6 := Below.trans (show Below w.heap.size w _ by assumption) (hb.mono (by omega))
        have zwo6 := rwo6.size
        have ro1o6 := Below.trans (show Below o1.heap.size o1 _ by assumption) (hb.mono (by omega))
        have zo1o6 := ro1o6.size
        have rWo6 := Below.trans (show Below W.heap.size W _ by assumption) (hb.mono (by omega))
        have zWo6 := rWo6.size
        clear hb yW0 yW1 yW2 yW3 yW4 yW5 yW6 yW7 yW8 yW9 yW10
        obtain ⟨yW0, yW1, yW2, yW3, yW4, yW5, yW6, yW7, yW8, yW9, yW10⟩ := HKW.out _ rWo6
        go_wp2_with fail
        go_ret
        exact ⟨rfl, by ((repeat (first | with_reducible assumption | with_reducible exact Below.refl _ _ | refine Below.setCell ?_ (by (first | omega | (simp; omega) | (simp; done) | fail "sml")) _ | refine Below.drew ?_ | refine Below.alloc ?_ (by (first | omega | (simp; omega) | (simp; done) | fail "sml")) _)); first | done | fail "chs")⟩
      | true =>
        have EB : edgeF g n (⟨true, yv, yl, yc, yd⟩ : El) = false := by unfold edgeF; simp
        go_wp2_with fail
        refine Calls.mono (EB ▸ edgeFits_any g (⟨true, yv, yl, yc, yd⟩ : El) _ _ n o1.heap.size _ (HAU.out.1.below (show Below o1.heap.size o1 _ by assumption)) (HAU.out.2.below (show Below o1.heap.size o1 _ by assumption) (Nat.le_refl _)) (show Below o1.heap.size o1 _ by assumption).size hok hysm (HVV.out.below (show Below w.heap.size w _ by assumption))) ?_
        rintro en o2 ⟨rfl, hb⟩
        have rwo2 := Below.trans (show Below w.heap.size w _ by assumption) (hb.mono (by omega))
        have zwo2 := rwo2.size
        have ro1o2 := Below.trans (show Below o1.heap.size o1 _ by assumption) (hb.mono (by omega))
        have zo1o2 := ro1o2.size
        have rWo2 := Below.trans (show Below W.heap.size W _ by assumption) (hb.mono (by omega))
        have zWo2 := rWo2.size
        clear hb yW0 yW1 yW2 yW3 yW4 yW5 yW6 yW7 yW8 yW9 yW10
        obtain ⟨yW0, yW1, yW2, yW3, yW4, yW5, yW6, yW7, yW8, yW9, yW10⟩ := HKW.out _ rWo2
        go_wp2_with fail
        refine Calls.mono (EB ▸ specEdgeFits_any g (⟨true, yv, yl, yc, yd⟩ : El) _ _ n o1.heap.size _ (HAU.out.1.below (show Below o1.heap.size o1 _ by assumption)) (HAU.out.2.below (show Below o1.heap.size o1 _ by assumption) (Nat.le_refl _)) (show Below o1.heap.size o1 _ by assumption).size hok hysm) ?_
        rintro en o3 ⟨rfl, hb⟩
        have rwo3 := Below.trans (show Below w.heap.size w _ by assumption) (hb.mono (by omega))
        have zwo3 := rwo3.size
        have ro1o3 := Below.trans (show Below o1.heap.size o1 _ by assumption) (hb.mono (by omega))
        have zo1o3 := ro1o3.size
        have rWo3 := Below.trans (show Below W.heap.size W _ by assumption) (hb.mono (by omega))
        have zWo3 := rWo3.size
        clear hb yW0 yW1 yW2 yW3 yW4 yW5 yW6 yW7 yW8 yW9 yW10
        obtain ⟨yW0, yW1, yW2, yW3, yW4, yW5, yW6, yW7, yW8, yW9, yW10⟩ := HKW.out _ rWo3
        go_wp2_with fail
        refine Calls.mono (EG ▸ graphValid_any g _ o1.heap.size _ (HAU.out.1.below (show Below o1.heap.size o1 _ by assumption)) (show Below o1.heap.size o1 _ by assumption).size hok) ?_
        rintro en o4 ⟨rfl, hb⟩
        have rwo4 := Below.trans (show Below w.heap.size w _ by assumption) (hb.mono (by omega))
        have zwo4 := rwo4.size
        have ro1o4 := Below.trans (show Below o1.heap.size o1 _ by assumption) (hb.mono (by omega))
        have zo1o4 := ro1o4.size
        have rWo4 := Below.trans (show Below W.heap.size W _ by assumption) (hb.mono (by omega))
        have zWo4 := rWo4.size
        clear hb yW0 yW1 yW2 yW3 yW4 yW5 yW6 yW7 yW8 yW9 yW10
        obtain ⟨yW0, yW1, yW2, yW3, yW4, yW5, yW6, yW7, yW8, yW9, yW10⟩ := HKW.out _ rWo4
        go_wp2_with fail
        refine Calls.mono (EE ▸ elemValid_any (⟨true, yv, yl, yc, yd⟩ : El) _ o1.heap.size _ (HAU.out.2.below (show Below o1.heap.size o1 _ by assumption) (Nat.le_refl _)) (show Below o1.heap.size o1 _ by assumption).size hysm (HVV.out.below (show Below w.heap.size w _ by assumption))) ?_
        rintro en o5 ⟨rfl, hb⟩
        have rwo5 := Below.trans (show Below w.heap.size w _ by assumption) (hb.mono (by omega))
        have zwo5 := rwo5.size
        have ro1o5 := Below.trans (show Below o1.heap.size o1 _ by assumption) (hb.mono (by omega))
        have zo1o5 := ro1o5.size
        have rWo5 := Below.trans (show Below W.heap.size W _ by assumption) (hb.mono (by omega))
        have zWo5 := rWo5.size
        clear hb yW0 yW1 yW2 yW3 yW4 yW5 yW6 yW7 yW8 yW9 yW10
        obtain ⟨yW0, yW1, yW2, yW3, yW4, yW5, yW6, yW7, yW8, yW9, yW10⟩ := HKW.out _ rWo5
        go_wp2_with fail
        refine Calls.mono (EB ▸ specEdgeFits_any g (⟨true, yv, yl, yc, yd⟩ : El) _ _ n o1.heap.size _ (HAU.out.1.below (show Below o1.heap.size o1 _ by assumption)) (HAU.out.2.below (show Below o1.heap.size o1 _ by assumption) (Nat.le_refl _)) (show Below o1.heap.size o1 _ by assumption).size hok hysm) ?_
        rintro en o6 ⟨rfl, hb⟩
        have rwo6 := Below.trans (show Below w.heap.size w _ by assumption) (hb.mono (by omega))
        have zwo6 := rwo6.size
        have ro1o6 := Below.trans (show Below o1.heap.size o1 _ by assumption) (hb.mono (by omega))
        have zo1o6 := ro1o6.size
        have rWo6 := Below.trans (show Below W.heap.size W _ by assumption) (hb.mono (by omega))
        have zWo6 := rWo6.size
        clear hb yW0 yW1 yW2 yW3 yW4 yW5 yW6 yW7 yW8 yW9 yW10
        obtain ⟨yW0, yW1, yW2, yW3, yW4, yW5, yW6, yW7, yW8, yW9, yW10⟩ := HKW.out _ rWo6
        go_wp2_with fail
        go_ret
        exact ⟨rfl, by ((repeat (first | with_reducible assumption | with_reducible exact Below.refl _ _ | refine Below.setCell ?_ (by (first | omega | (simp; omega) | (simp; done) | fail "sml")) _ | refine Below.drew ?_ | refine Below.alloc ?_ (by (first | omega | (simp; omega) | (simp; done) | fail "sml")) _)); first | done | fail "chs")⟩
  | false =>
    go_upto_region 4 with fail
    obtain ⟨W, eW⟩ : ∃ E, E = (o1.alloc (.cells #[.slice pg g.ns.length cg, .slice qg g.es.length dg] 26)).alloc (.cells #[.bool false, .string yv, .int .i64 yl.op, .string yl.a, .slice p yl.ks.list.length c, .int .i64 yc.op, .string yc.a, .slice p' yc.ks.list.length c', .int .i64 yd] 31) := ⟨_, rfl⟩
    have kW : Below o1.heap.size o1 W := by rw [eW]; ((repeat (first | with_reducible assumption | with_reducible exact Below.refl _ _ | refine Below.setCell ?_ (by (first | omega | (simp; omega) | (simp; done) | fail "sml")) _ | refine Below.drew ?_ | refine Below.alloc ?_ (by (first | omega | (simp; omega) | (simp; done) | fail "sml")) _)); first | done | fail "chs")
    have sW : o1.heap.size + 1 < W.heap.size := by rw [eW]; simp
    have HCW := Lib.hid (show (W.cell? ⟨o1.heap.size, 0, none⟩ = some (.slice pg g.ns.length cg) ∧ W.cell? ⟨o1.heap.size, 1, none⟩ = some (.slice qg g.es.length dg) ∧ W.cell? ⟨o1.heap.size + 1, 0, none⟩ = some (.bool false) ∧ W.cell? ⟨o1.heap.size + 1, 1, none⟩ = some (.string yv) ∧ W.cell? ⟨o1.heap.size + 1, 2, none⟩ = some (.int .i64 yl.op) ∧ W.cell? ⟨o1.heap.size + 1, 3, none⟩ = some (.string yl.a) ∧ W.cell? ⟨o1.heap.size + 1, 4, none⟩ = some (.slice p yl.ks.list.length c) ∧ W.cell? ⟨o1.heap.size + 1, 5, none⟩ = some (.int .i64 yc.op) ∧ W.cell? ⟨o1.heap.size + 1, 6, none⟩ = some (.string yc.a) ∧ W.cell? ⟨o1.heap.size + 1, 7, none⟩ = some (.slice p' yc.ks.list.length c') ∧ W.cell? ⟨o1.heap.size + 1, 8, none⟩ = some (.int .i64 yd)) ∧ ∀ i, W.frozen? ⟨o1.heap.size + 1, i, none⟩ = false from by rw [eW]; exact ⟨⟨by simp [go_sem], by simp [go_sem], by simp [go_sem], by simp [go_sem], by simp [go_sem], by simp [go_sem], by simp [go_sem], by simp [go_sem], by simp [go_sem], by simp [go_sem], by simp [go_sem]⟩, fun i => by simp [go_sem]⟩)
    have rwW := Below.trans (show Below w.heap.size w _ by ((repeat (first | with_reducible assumption | with_reducible exact Below.refl _ _ | refine Below.setCell ?_ (by (first | omega | (simp; omega) | (simp; done) | fail "sml")) _ | refine Below.drew ?_ | refine Below.alloc ?_ (by (first | omega | (simp; omega) | (simp; done) | fail "sml")) _)); first | done | fail "chs")) (kW.mono (by (first | omega | (simp; omega) | (simp; done) | fail "sml")))
    have ro1W := Below.trans (show Below o1.heap.size o1 _ by ((repeat (first | with_reducible assumption | with_reducible exact Below.refl _ _ | refine Below.setCell ?_ (by (first | omega | (simp; omega) | (simp; done) | fail "sml")) _ | refine Below.drew ?_ | refine Below.alloc ?_ (by (first | omega | (simp; omega) | (simp; done) | fail "sml")) _)); first | done | fail "chs")) (kW.mono (by (first | omega | (simp; omega) | (simp; done) | fail "sml")))
    rw [← eW]
    have HKW := Lib.hid (fun (E : World) (hE : Below W.heap.size W E) => (⟨keepc hE (by omega) HCW.out.1.1, keepc hE (by omega) HCW.out.1.2.1, keepc hE (by omega) HCW.out.1.2.2.1, keepc hE (by omega) HCW.out.1.2.2.2.1, keepc hE (by omega) HCW.out.1.2.2.2.2.1, keepc hE (by omega) HCW.out.1.2.2.2.2.2.1, keepc hE (by omega) HCW.out.1.2.2.2.2.2.2.1, keepc hE (by omega) HCW.out.1.2.2.2.2.2.2.2.1, keepc hE (by omega) HCW.out.1.2.2.2.2.2.2.2.2.1, keepc hE (by omega) HCW.out.1.2.2.2.2.2.2.2.2.2.1, keepc hE (by omega) HCW.out.1.2.2.2.2.2.2.2.2.2.2⟩ : E.cell? ⟨o1.heap.size, 0, none⟩ = some (.slice pg g.ns.length cg) ∧ E.cell? ⟨o1.heap.size, 1, none⟩ = some (.slice qg g.es.length dg) ∧ E.cell? ⟨o1.heap.size + 1, 0, none⟩ = some (.bool false) ∧ E.cell? ⟨o1.heap.size + 1, 1, none⟩ = some (.string yv) ∧ E.cell? ⟨o1.heap.size + 1, 2, none⟩ = some (.int .i64 yl.op) ∧ E.cell? ⟨o1.heap.size + 1, 3, none⟩ = some (.string yl.a) ∧ E.cell? ⟨o1.heap.size + 1, 4, none⟩ = some (.slice p yl.ks.list.length c) ∧ E.cell? ⟨o1.heap.size + 1, 5, none⟩ = some (.int .i64 yc.op) ∧ E.cell? ⟨o1.heap.size + 1, 6, none⟩ = some (.string yc.a) ∧ E.cell? ⟨o1.heap.size + 1, 7, none⟩ = some (.slice p' yc.ks.list.length c') ∧ E.cell? ⟨o1.heap.size + 1, 8, none⟩ = some (.int .i64 yd)))
    have rW0 := Below.refl W.heap.size W
    obtain ⟨yW0, yW1, yW2, yW3, yW4, yW5, yW6, yW7, yW8, yW9, yW10⟩ := HKW.out _ rW0
    clear eW kW
    cases EG : gv g with
    | false =>
      have EB : edgeF g n (⟨false, yv, yl, yc, yd⟩ : El) = false := by unfold edgeF; rw [EG]; rfl
      go_wp2_with fail
      refine Calls.mono (EB ▸ edgeFits_any g (⟨false, yv, yl, yc, yd⟩ : El) _ _ n o1.heap.size _ (HAU.out.1.below (show Below o1.heap.size o1 _ by assumption)) (HAU.out.2.below (show Below o1.heap.size o1 _ by assumption) (Nat.le_refl _)) (show Below o1.heap.size o1 _ by assumption).size hok hysm (HVV.out.below (show Below w.heap.size w _ by assumption))) ?_
      rintro en o2 ⟨rfl, hb⟩
      have rwo2 := Below.trans (show Below w.heap.size w _ by assumption) (hb.mono (by omega))
      have zwo2 := rwo2.size
      have ro1o2 := Below.trans (show Below o1.heap.size o1 _ by assumption) (hb.mono (by omega))
      have zo1o2 := ro1o2.size
      have rWo2 := Below.trans (show Below W.heap.size W _ by assumption) (hb.mono (by omega))
      have zWo2 := rWo2.size
      clear hb yW0 yW1 yW2 yW3 yW4 yW5 yW6 yW7 yW8 yW9 yW10
      obtain ⟨yW0, yW1, yW2, yW3, yW4, yW5, yW6, yW7, yW8, yW9, yW10⟩ := HKW.out _ rWo2
      go_wp2_with fail
      refine Calls.mono (EB ▸ specEdgeFits_any g (⟨false, yv, yl, yc, yd⟩ : El) _ _ n o1.heap.size _ (HAU.out.1.below (show Below o1.heap.size o1 _ by assumption)) (HAU.out.2.below (show Below o1.heap.size o1 _ by assumption) (Nat.le_refl _)) (show Below o1.heap.size o1 _ by assumption).size hok hysm) ?_
      rintro en o3 ⟨rfl, hb⟩
      have rwo3 := Below.trans (show Below w.heap.size w _ by assumption) (hb.mono (by omega))
      have zwo3 := rwo3.size
      have ro1o3 := Below.trans (show Below o1.heap.size o1 _ by assumption) (hb.mono (by omega))
      have zo1o3 := ro1o3.size
      have rWo3 := Below.trans (show Below W.heap.size W _ by assumption) (hb.mono (by omega))
      have zWo3 := rWo3.size
      clear hb yW0 yW1 yW2 yW3 yW4 yW5 yW6 yW7 yW8 yW9 yW10
      obtain ⟨yW0, yW1, yW2, yW3, yW4, yW5, yW6, yW7, yW8, yW9, yW10⟩ := HKW.out _ rWo3
      go_wp2_with fail
      refine Calls.mono (EG ▸ graphValid_any g _ o1.heap.size _ (HAU.out.1.below (show Below o1.heap.size o1 _ by assumption)) (show Below o1.heap.size o1 _ by assumption).size hok) ?_
      rintro en o4 ⟨rfl, hb⟩
      have rwo4 := Below.trans (show Below w.heap.size w _ by assumption) (hb.mono (by omega))
      have zwo4 := rwo4.size
      have ro1o4 := Below.trans (show Below o1.heap.size o1 _ by assumption) (hb.mono (by omega))
      have zo1o4 := ro1o4.size
      have rWo4 := Below.trans (show Below W.heap.size W _ by assumption) (hb.mono (by omega))
      have zWo4 := rWo4.size
      clear hb yW0 yW1 yW2 yW3 yW4 yW5 yW6 yW7 yW8 yW9 yW10
      obtain ⟨yW0, yW1, yW2, yW3, yW4, yW5, yW6, yW7, yW8, yW9, yW10⟩ := HKW.out _ rWo4
      go_wp2_with fail
      refine Calls.mono (EB ▸ specEdgeFits_any g (⟨false, yv, yl, yc, yd⟩ : El) _ _ n o1.heap.size _ (HAU.out.1.below (show Below o1.heap.size o1 _ by assumption)) (HAU.out.2.below (show Below o1.heap.size o1 _ by assumption) (Nat.le_refl _)) (show Below o1.heap.size o1 _ by assumption).size hok hysm) ?_
      rintro en o5 ⟨rfl, hb⟩
      have rwo5 := Below.trans (show Below w.heap.size w _ by assumption) (hb.mono (by omega))
      have zwo5 := rwo5.size
      have ro1o5 := Below.trans (show Below o1.heap.size o1 _ by assumption) (hb.mono (by omega))
      have zo1o5 := ro1o5.size
      have rWo5 := Below.trans (show Below W.heap.size W _ by assumption) (hb.mono (by omega))
      have zWo5 := rWo5.size
      clear hb yW0 yW1 yW2 yW3 yW4 yW5 yW6 yW7 yW8 yW9 yW10
      obtain ⟨yW0, yW1, yW2, yW3, yW4, yW5, yW6, yW7, yW8, yW9, yW10⟩ := HKW.out _ rWo5
      go_wp2_with fail
      go_ret
      exact ⟨rfl, by ((repeat (first | with_reducible assumption | with_reducible exact Below.refl _ _ | refine Below.setCell ?_ (by (first | omega | (simp; omega) | (simp; done) | fail "sml")) _ | refine Below.drew ?_ | refine Below.alloc ?_ (by (first | omega | (simp; omega) | (simp; done) | fail "sml")) _)); first | done | fail "chs")⟩
    | true =>
      cases EE : elemV (⟨false, yv, yl, yc, yd⟩ : El) with
      | false =>
        have EB : edgeF g n (⟨false, yv, yl, yc, yd⟩ : El) = false := by unfold edgeF; rw [EE]; simp
        go_wp2_with fail
        refine Calls.mono (EB ▸ edgeFits_any g (⟨false, yv, yl, yc, yd⟩ : El) _ _ n o1.heap.size _ (HAU.out.1.below (show Below o1.heap.size o1 _ by assumption)) (HAU.out.2.below (show Below o1.heap.size o1 _ by assumption) (Nat.le_refl _)) (show Below o1.heap.size o1 _ by assumption).size hok hysm (HVV.out.below (show Below w.heap.size w _ by assumption))) ?_
        rintro en o2 ⟨rfl, hb⟩
        have rwo2 := Below.trans (show Below w.heap.size w _ by assumption) (hb.mono (by omega))
        have zwo2 := rwo2.size
        have ro1o2 := Below.trans (show Below o1.heap.size o1 _ by assumption) (hb.mono (by omega))
        have zo1o2 := ro1o2.size
        have rWo2 := Below.trans (show Below W.heap.size W _ by assumption) (hb.mono (by omega))
        have zWo2 := rWo2.size
        clear hb yW0 yW1 yW2 yW3 yW4 yW5 yW6 yW7 yW8 yW9 yW10
        obtain ⟨yW0, yW1, yW2, yW3, yW4, yW5, yW6, yW7, yW8, yW9, yW10⟩ := HKW.out _ rWo2
        go_wp2_with fail
        refine Calls.mono (EB ▸ specEdgeFits_any g (⟨false, yv, yl, yc, yd⟩ : El) _ _ n o1.heap.size _ (HAU.out.1.below (show Below o1.heap.size o1 _ by assumption)) (HAU.out.2.below (show Below o1.heap.size o1 _ by assumption) (Nat.le_refl _)) (show Below o1.heap.size o1 _ by assumption).size hok hysm) ?_
        rintro en o3 ⟨rfl, hb⟩
        have rwo3 := Below.trans (show Below w.heap.size w _ by assumption) (hb.mono (by omega))
        have zwo3 := rwo3.size
        have ro1o3 := Below.trans (show Below o1.heap.size o1 _ by assumption) (hb.mono (by omega))
        have zo1o3 := ro1o3.size
        have rWo3 := Below.trans (show Below W.heap.size W _ by assumption) (hb.mono (by omega))
        have zWo3 := rWo3.size
        clear hb yW0 yW1 yW2 yW3 yW4 yW5 yW6 yW7 yW8 yW9 yW10
        obtain ⟨yW0, yW1, yW2, yW3, yW4, yW5, yW6, yW7, yW8, yW9, yW10⟩ := HKW.out _ rWo3
        go_wp2_with fail
        refine Calls.mono (EG ▸ graphValid_any g _ o1.heap.size _ (HAU.out.1.below (show Below o1.heap.size o1 _ by assumption)) (show Below o1.heap.size o1 _ by assumption).size hok) ?_
        rintro en o4 ⟨rfl, hb⟩
        have rwo4 := Below.trans (show Below w.heap.size w _ by assumption) (hb.mono (by omega))
        have zwo4 := rwo4.size
        have ro1o4 := Below.trans (show Below o1.heap.size o1 _ by assumption) (hb.mono (by omega))
        have zo1o4 := ro1o4.size
        have rWo4 := Below.trans (show Below W.heap.size W _ by assumption) (hb.mono (by omega))
        have zWo4 := rWo4.size
        clear hb yW0 yW1 yW2 yW3 yW4 yW5 yW6 yW7 yW8 yW9 yW10
        obtain ⟨yW0, yW1, yW2, yW3, yW4, yW5, yW6, yW7, yW8, yW9, yW10⟩ := HKW.out _ rWo4
        go_wp2_with fail
        refine Calls.mono (EE ▸ elemValid_any (⟨false, yv, yl, yc, yd⟩ : El) _ o1.heap.size _ (HAU.out.2.below (show Below o1.heap.size o1 _ by assumption) (Nat.le_refl _)) (show Below o1.heap.size o1 _ by assumption).size hysm (HVV.out.below (show Below w.heap.size w _ by assumption))) ?_
        rintro en o5 ⟨rfl, hb⟩
        have rwo5 := Below.trans (show Below w.heap.size w _ by assumption) (hb.mono (by omega))
        have zwo5 := rwo5.size
        have ro1o5 := Below.trans (show Below o1.heap.size o1 _ by assumption) (hb.mono (by omega))
        have zo1o5 := ro1o5.size
        have rWo5 := Below.trans (show Below W.heap.size W _ by assumption) (hb.mono (by omega))
        have zWo5 := rWo5.size
        clear hb yW0 yW1 yW2 yW3 yW4 yW5 yW6 yW7 yW8 yW9 yW10
        obtain ⟨yW0, yW1, yW2, yW3, yW4, yW5, yW6, yW7, yW8, yW9, yW10⟩ := HKW.out _ rWo5
        go_wp2_with fail
        refine Calls.mono (EB ▸ specEdgeFits_any g (⟨false, yv, yl, yc, yd⟩ : El) _ _ n o1.heap.size _ (HAU.out.1.below (show Below o1.heap.size o1 _ by assumption)) (HAU.out.2.below (show Below o1.heap.size o1 _ by assumption) (Nat.le_refl _)) (show Below o1.heap.size o1 _ by assumption).size hok hysm) ?_
        rintro en o6 ⟨rfl, hb⟩
        have rwo6 := Below.trans (show Below w.heap.size w _ by assumption) (hb.mono (by omega))
        have zwo6 := rwo6.size
        have ro1o6 := Below.trans (show Below o1.heap.size o1 _ by assumption) (hb.mono (by omega))
        have zo1o6 := ro1o6.size
        have rWo6 := Below.trans (show Below W.heap.size W _ by assumption) (hb.mono (by omega))
        have zWo6 := rWo6.size
        clear hb yW0 yW1 yW2 yW3 yW4 yW5 yW6 yW7 yW8 yW9 yW10
        obtain ⟨yW0, yW1, yW2, yW3, yW4, yW5, yW6, yW7, yW8, yW9, yW10⟩ := HKW.out _ rWo6
        go_wp2_with fail
        go_ret
        exact ⟨rfl, by ((repeat (first | with_reducible assumption | with_reducible exact Below.refl _ _ | refine Below.setCell ?_ (by (first | omega | (simp; omega) | (simp; done) | fail "sml")) _ | refine Below.drew ?_ | refine Below.alloc ?_ (by (first | omega | (simp; omega) | (simp; done) | fail "sml")) _)); first | done | fail "chs")⟩
      | true =>
        by_cases hk : n < 0
        · have q : (n < 0) = True := eq_true hk
          have EB : edgeF g n (⟨false, yv, yl, yc, yd⟩ : El) = false := by unfold edgeF; rw [hn_neg hk]; simp
          go_wp2_with fail
          refine Calls.mono (EB ▸ edgeFits_any g (⟨false, yv, yl, yc, yd⟩ : El) _ _ n o1.heap.size _ (HAU.out.1.below (show Below o1.heap.size o1 _ by assumption)) (HAU.out.2.below (show Below o1.heap.size o1 _ by assumption) (Nat.le_refl _)) (show Below o1.heap.size o1 _ by assumption).size hok hysm (HVV.out.below (show Below w.heap.size w _ by assumption))) ?_
          rintro en o2 ⟨rfl, hb⟩
          have rwo2 := Below.trans (show Below w.heap.size w _ by assumption) (hb.mono (by omega))
          have zwo2 := rwo2.size
          have ro1o2 := Below.trans (show Below o1.heap.size o1 _ by assumption) (hb.mono (by omega))
          have zo1o2 := ro1o2.size
          have rWo2 := Below.trans (show Below W.heap.size W _ by assumption) (hb.mono (by omega))
          have zWo2 := rWo2.size
          clear hb yW0 yW1 yW2 yW3 yW4 yW5 yW6 yW7 yW8 yW9 yW10
          obtain ⟨yW0, yW1, yW2, yW3, yW4, yW5, yW6, yW7, yW8, yW9, yW10⟩ := HKW.out _ rWo2
          go_wp2_with fail
          refine Calls.mono (EB ▸ specEdgeFits_any g (⟨false, yv, yl, yc, yd⟩ : El) _ _ n o1.heap.size _ (HAU.out.1.below (show Below o1.heap.size o1 _ by assumption)) (HAU.out.2.below (show Below o1.heap.size o1 _ by assumption) (Nat.le_refl _)) (show Below o1.heap.size o1 _ by assumption).size hok hysm) ?_
          rintro en o3 ⟨rfl, hb⟩
          have rwo3 := Below.trans (show Below w.heap.size w _ by assumption) (hb.mono (by omega))
          have zwo3 := rwo3.size
          have ro1o3 := Below.trans (show Below o1.heap.size o1 _ by assumption) (hb.mono (by omega))
          have zo1o3 := ro1o3.size
          have rWo3 := Below.trans (show Below W.heap.size W _ by assumption) (hb.mono (by omega))
          have zWo3 := rWo3.size
          clear hb yW0 yW1 yW2 yW3 yW4 yW5 yW6 yW7 yW8 yW9 yW10
          obtain ⟨yW0, yW1, yW2, yW3, yW4, yW5, yW6, yW7, yW8, yW9, yW10⟩ := HKW.out _ rWo3
          go_wp2_with fail
          refine Calls.mono (EG ▸ graphValid_any g _ o1.heap.size _ (HAU.out.1.below (show Below o1.heap.size o1 _ by assumption)) (show Below o1.heap.size o1 _ by assumption).size hok) ?_
          rintro en o4 ⟨rfl, hb⟩
          have rwo4 := Below.trans (show Below w.heap.size w _ by assumption) (hb.mono (by omega))
          have zwo4 := rwo4.size
          have ro1o4 := Below.trans (show Below o1.heap.size o1 _ by assumption) (hb.mono (by omega))
          have zo1o4 := ro1o4.size
          have rWo4 := Below.trans (show Below W.heap.size W _ by assumption) (hb.mono (by omega))
          have zWo4 := rWo4.size
          clear hb yW0 yW1 yW2 yW3 yW4 yW5 yW6 yW7 yW8 yW9 yW10
          obtain ⟨yW0, yW1, yW2, yW3, yW4, yW5, yW6, yW7, yW8, yW9, yW10⟩ := HKW.out _ rWo4
          go_wp2_with fail
          refine Calls.mono (EE ▸ elemValid_any (⟨false, yv, yl, yc, yd⟩ : El) _ o1.heap.size _ (HAU.out.2.below (show Below o1.heap.size o1 _ by assumption) (Nat.le_refl _)) (show Below o1.heap.size o1 _ by assumption).size hysm (HVV.out.below (show Below w.heap.size w _ by assumption))) ?_
          rintro en o5 ⟨rfl, hb⟩
          have rwo5 := Below.trans (show Below w.heap.size w _ by assumption) (hb.mono (by omega))
          have zwo5 := rwo5.size
          have ro1o5 := Below.trans (show Below o1.heap.size o1 _ by assumption) (hb.mono (by omega))
          have zo1o5 := ro1o5.size
          have rWo5 := Below.trans (show Below W.heap.size W _ by assumption) (hb.mono (by omega))
          have zWo5 := rWo5.size
          clear hb yW0 yW1 yW2 yW3 yW4 yW5 yW6 yW7 yW8 yW9 yW10
          obtain ⟨yW0, yW1, yW2, yW3, yW4, yW5, yW6, yW7, yW8, yW9, yW10⟩ := HKW.out _ rWo5
          go_wp2_with fail
          refine Calls.mono (EB ▸ specEdgeFits_any g (⟨false, yv, yl, yc, yd⟩ : El) _ _ n o1.heap.size _ (HAU.out.1.below (show Below o1.heap.size o1 _ by assumption)) (HAU.out.2.below (show Below o1.heap.size o1 _ by assumption) (Nat.le_refl _)) (show Below o1.heap.size o1 _ by assumption).size hok hysm) ?_
          rintro en o6 ⟨rfl, hb⟩
          have rwo6 := Below.trans (show Below w.heap.size w _ by assumption) (hb.mono (by omega))
          have zwo6 := rwo6.size
          have ro1o6 := Below.trans (show Below o1.heap.size o1 _ by assumption) (hb.mono (by omega))
          have zo1o6 := ro1o6.size
          have rWo6 := Below.trans (show Below W.heap.size W _ by assumption) (hb.mono (by omega))
          have zWo6 := rWo6.size
          clear hb yW0 yW1 yW2 yW3 yW4 yW5 yW6 yW7 yW8 yW9 yW10
          obtain ⟨yW0, yW1, yW2, yW3, yW4, yW5, yW6, yW7, yW8, yW9, yW10⟩ := HKW.out _ rWo6
          go_wp2_with fail
          go_ret
          exact ⟨rfl, by ((repeat (first | with_reducible assumption | with_reducible exact Below.refl _ _ | refine Below.setCell ?_ (by (first | omega | (simp; omega) | (simp; done) | fail "sml")) _ | refine Below.drew ?_ | refine Below.alloc ?_ (by (first | omega | (simp; omega) | (simp; done) | fail "sml")) _)); first | done | fail "chs")⟩
        have q : (n < 0) = False := eq_false hk
        by_cases hk2 : (g.es.length : Int) ≤ n
        · have q2 : ((g.es.length : Int) ≤ n) = True := eq_true hk2
          obtain ⟨m, rfl⟩ : ∃ m : Nat, n = m := ⟨n.toNat, by omega⟩
          have EB : edgeF g (m : Int) (⟨false, yv, yl, yc, yd⟩ : El) = false := by unfold edgeF; rw [hn_big' (by omega)]; simp
          go_wp2_with fail
          refine Calls.mono (EB ▸ edgeFits_any g (⟨false, yv, yl, yc, yd⟩ : El) _ _ (m : Int) o1.heap.size _ (HAU.out.1.below (show Below o1.heap.size o1 _ by assumption)) (HAU.out.2.below (show Below o1.heap.size o1 _ by assumption) (Nat.le_refl _)) (show Below o1.heap.size o1 _ by assumption).size hok hysm (HVV.out.below (show Below w.heap.size w _ by assumption))) ?_
          rintro en o2 ⟨rfl, hb⟩
          have rwo2 := Below.trans (show Below w.heap.size w _ by assumption) (hb.mono (by omega))
          have zwo2 := rwo2.size
          have ro1o2 := Below.trans (show Below o1.heap.size o1 _ by assumption) (hb.mono (by omega))
          have zo1o2 := ro1o2.size
          have rWo2 := Below.trans (show Below W.heap.size W _ by assumption) (hb.mono (by omega))
          have zWo2 := rWo2.size
          clear hb yW0 yW1 yW2 yW3 yW4 yW5 yW6 yW7 yW8 yW9 yW10
          obtain ⟨yW0, yW1, yW2, yW3, yW4, yW5, yW6, yW7, yW8, yW9, yW10⟩ := HKW.out _ rWo2
          go_wp2_with fail
          refine Calls.mono (EB ▸ specEdgeFits_any g (⟨false, yv, yl, yc, yd⟩ : El) _ _ (m : Int) o1.heap.size _ (HAU.out.1.below (show Below o1.heap.size o1 _ by assumption)) (HAU.out.2.below (show Below o1.heap.size o1 _ by assumption) (Nat.le_refl _)) (show Below o1.heap.size o1 _ by assumption).size hok hysm) ?_
          rintro en o3 ⟨rfl, hb⟩
          have rwo3 := Below.trans (show Below w.heap.size w _ by assumption) (hb.mono (by omega))
          have zwo3 := rwo3.size
          have ro1o3 := Below.trans (show Below o1.heap.size o1 _ by assumption) (hb.mono (by omega))
          have zo1o3 := ro1o3.size
          have rWo3 := Below.trans (show Below W.heap.size W _ by assumption) (hb.mono (by omega))
          have zWo3 := rWo3.size
          clear hb yW0 yW1 yW2 yW3 yW4 yW5 yW6 yW7 yW8 yW9 yW10
          obtain ⟨yW0, yW1, yW2, yW3, yW4, yW5, yW6, yW7, yW8, yW9, yW10⟩ := HKW.out _ rWo3
          go_wp2_with fail
          refine Calls.mono (EG ▸ graphValid_any g _ o1.heap.size _ (HAU.out.1.below (show Below o1.heap.size o1 _ by assumption)) (show Below o1.heap.size o1 _ by assumption).size hok) ?_
          rintro en o4 ⟨rfl, hb⟩
          have rwo4 := Below.trans (show Below w.heap.size w _ by assumption) (hb.mono (by omega))
          have zwo4 := rwo4.size
          have ro1o4 := Below.trans (show Below o1.heap.size o1 _ by assumption) (hb.mono (by omega))
          have zo1o4 := ro1o4.size
          have rWo4 := Below.trans (show Below W.heap.size W _ by assumption) (hb.mono (by omega))
          have zWo4 := rWo4.size
          clear hb yW0 yW1 yW2 yW3 yW4 yW5 yW6 yW7 yW8 yW9 yW10
          obtain ⟨yW0, yW1, yW2, yW3, yW4, yW5, yW6, yW7, yW8, yW9, yW10⟩ := HKW.out _ rWo4
          go_wp2_with fail
          refine Calls.mono (EE ▸ elemValid_any (⟨false, yv, yl, yc, yd⟩ : El) _ o1.heap.size _ (HAU.out.2.below (show Below o1.heap.size o1 _ by assumption) (Nat.le_refl _)) (show Below o1.heap.size o1 _ by assumption).size hysm (HVV.out.below (show Below w.heap.size w _ by assumption))) ?_
          rintro en o5 ⟨rfl, hb⟩
          have rwo5 := Below.trans (show Below w.heap.size w _ by assumption) (hb.mono (by omega))
          have zwo5 := rwo5.size
          have ro1o5 := Below.trans (show Below o1.heap.size o1 _ by assumption) (hb.mono (by omega))
          have zo1o5 := ro1o5.size
          have rWo5 := Below.trans (show Below W.heap.size W _ by assumption) (hb.mono (by omega))
          have zWo5 := rWo5.size
          clear hb yW0 yW1 yW2 yW3 yW4 yW5 yW6 yW7 yW8 yW9 yW10
          obtain ⟨yW0, yW1, yW2, yW3, yW4, yW5, yW6, yW7, yW8, yW9, yW10⟩ := HKW.out _ rWo5
          go_wp2_with fail
          refine Calls.mono (EB ▸ specEdgeFits_any g (⟨false, yv, yl, yc, yd⟩ : El) _ _ (m : Int) o1.heap.size _ (HAU.out.1.below (show Below o1.heap.size o1 _ by assumption)) (HAU.out.2.below (show Below o1.heap.size o1 _ by assumption) (Nat.le_refl _)) (show Below o1.heap.size o1 _ by assumption).size hok hysm) ?_
          rintro en o6 ⟨rfl, hb⟩
          have rwo6 := Below.trans (show Below w.heap.size w _ by assumption) (hb.mono (by omega))
          have zwo6 := rwo6.size
          have ro1o6 := Below.trans (show Below o1.heap.size o1 _ by assumption) (hb.mono (by omega))
          have zo1o6 := ro1o6.size
          have rWo6 := Below.trans (show Below W.heap.size W _ by assumption) (hb.mono (by omega))
          have zWo6 := rWo6.size
          clear hb yW0 yW1 yW2 yW3 yW4 yW5 yW6 yW7 yW8 yW9 yW10
          obtain ⟨yW0, yW1, yW2, yW3, yW4, yW5, yW6, yW7, yW8, yW9, yW10⟩ := HKW.out _ rWo6
          go_wp2_with fail
          go_ret
          exact ⟨rfl, by ((repeat (first | with_reducible assumption | with_reducible exact Below.refl _ _ | refine Below.setCell ?_ (by (first | omega | (simp; omega) | (simp; done) | fail "sml")) _ | refine Below.drew ?_ | refine Below.alloc ?_ (by (first | omega | (simp; omega) | (simp; done) | fail "sml")) _)); first | done | fail "chs")⟩
        obtain ⟨k, rfl⟩ : ∃ k : Nat, n = k := ⟨n.toNat, by omega⟩
        have hlt : k < g.es.length := by omega
        have q2 : ((g.es.length : Int) ≤ (k : Int)) = False := eq_false (by omega)
        obtain ⟨b, EB⟩ : ∃ b, edgeF g (k : Int) (⟨false, yv, yl, yc, yd⟩ : El) = b := ⟨_, rfl⟩
        have HG := goneR EG EE rfl hlt
        rw [EB] at HG
        have qbb : (b != b) = false := by simp
        have qbe : (b == b) = true := by simp
        obtain ⟨na, nb2, ena, _, hna⟩ := HAU.out.1
        cases ena
        obtain ⟨bb, off, epg, hbb, ncf, nct, nc0, nc1⟩ := hna.ed hlt
        subst epg
        obtain ⟨nd, end'⟩ : ∃ nd, nd = g.es[k] := ⟨_, rfl⟩
        rw [← end'] at ncf nct nc0 nc1 HG
        clear end'
        by_cases hd : yd = 2
        · have qd : (yd == 2) = true := beq_iff_eq.2 hd
          obtain ⟨R, ER⟩ : ∃ R, hopsR g nd.t (⟨false, yv, yl, yc, yd⟩ : El) = R := ⟨_, rfl⟩
          rw [show endOf yd nd = nd.t from if_pos hd, ER] at HG
          clear hd
          go_wp2_with fail
          refine Calls.mono (edgeFits_to EB _ _ o1.heap.size _ (HAU.out.1.below (show Below o1.heap.size o1 _ by assumption)) (HAU.out.2.below (show Below o1.heap.size o1 _ by assumption) (Nat.le_refl _)) (show Below o1.heap.size o1 _ by assumption).size hok hysm (HVV.out.below (show Below w.heap.size w _ by assumption))) ?_
          rintro en o2 ⟨rfl, hb⟩
          have rwo2 := Below.trans (show Below w.heap.size w _ by assumption) (hb.mono (by omega))
          have zwo2 := rwo2.size
          have ro1o2 := Below.trans (show Below o1.heap.size o1 _ by assumption) (hb.mono (by omega))
          have zo1o2 := ro1o2.size
          have rWo2 := Below.trans (show Below W.heap.size W _ by assumption) (hb.mono (by omega))
          have zWo2 := rWo2.size
          clear hb yW0 yW1 yW2 yW3 yW4 yW5 yW6 yW7 yW8 yW9 yW10
          obtain ⟨yW0, yW1, yW2, yW3, yW4, yW5, yW6, yW7, yW8, yW9, yW10⟩ := HKW.out _ rWo2
          go_wp2_with fail
          refine Calls.mono (specEdgeFits_to EB _ _ o1.heap.size _ (HAU.out.1.below (show Below o1.heap.size o1 _ by assumption)) (HAU.out.2.below (show Below o1.heap.size o1 _ by assumption) (Nat.le_refl _)) (show Below o1.heap.size o1 _ by assumption).size hok hysm) ?_
          rintro en o3 ⟨rfl, hb⟩
          have rwo3 := Below.trans (show Below w.heap.size w _ by assumption) (hb.mono (by omega))
          have zwo3 := rwo3.size
          have ro1o3 := Below.trans (show Below o1.heap.size o1 _ by assumption) (hb.mono (by omega))
          have zo1o3 := ro1o3.size
          have rWo3 := Below.trans (show Below W.heap.size W _ by assumption) (hb.mono (by omega))
          have zWo3 := rWo3.size
          clear hb yW0 yW1 yW2 yW3 yW4 yW5 yW6 yW7 yW8 yW9 yW10
          obtain ⟨yW0, yW1, yW2, yW3, yW4, yW5, yW6, yW7, yW8, yW9, yW10⟩ := HKW.out _ rWo3
          go_wp2_with fail
          refine Calls.mono (EG ▸ graphValid_any g _ o1.heap.size _ (HAU.out.1.below (show Below o1.heap.size o1 _ by assumption)) (show Below o1.heap.size o1 _ by assumption).size hok) ?_
          rintro en o4 ⟨rfl, hb⟩
          have rwo4 := Below.trans (show Below w.heap.size w _ by assumption) (hb.mono (by omega))
          have zwo4 := rwo4.size
          have ro1o4 := Below.trans (show Below o1.heap.size o1 _ by assumption) (hb.mono (by omega))
          have zo1o4 := ro1o4.size
          have rWo4 := Below.trans (show Below W.heap.size W _ by assumption) (hb.mono (by omega))
          have zWo4 := rWo4.size
          clear hb yW0 yW1 yW2 yW3 yW4 yW5 yW6 yW7 yW8 yW9 yW10
          obtain ⟨yW0, yW1, yW2, yW3, yW4, yW5, yW6, yW7, yW8, yW9, yW10⟩ := HKW.out _ rWo4
          go_wp2_with fail
          refine Calls.mono (EE ▸ elemValid_any (⟨false, yv, yl, yc, yd⟩ : El) _ o1.heap.size _ (HAU.out.2.below (show Below o1.heap.size o1 _ by assumption) (Nat.le_refl _)) (show Below o1.heap.size o1 _ by assumption).size hysm (HVV.out.below (show Below w.heap.size w _ by assumption))) ?_
          rintro en o5 ⟨rfl, hb⟩
          have rwo5 := Below.trans (show Below w.heap.size w _ by assumption) (hb.mono (by omega))
          have zwo5 := rwo5.size
          have ro1o5 := Below.trans (show Below o1.heap.size o1 _ by assumption) (hb.mono (by omega))
          have zo1o5 := ro1o5.size
          have rWo5 := Below.trans (show Below W.heap.size W _ by assumption) (hb.mono (by omega))
          have zWo5 := rWo5.size
          have wf := keepc ro1o5 hbb ncf
          have wt := keepc ro1o5 hbb nct
          clear hb yW0 yW1 yW2 yW3 yW4 yW5 yW6 yW7 yW8 yW9 yW10
          obtain ⟨yW0, yW1, yW2, yW3, yW4, yW5, yW6, yW7, yW8, yW9, yW10⟩ := HKW.out _ rWo5
          go_wp2_with fail
          refine Calls.mono (ER ▸ hopsFrom_any g (⟨false, yv, yl, yc, yd⟩ : El) _ _ nd.t o1.heap.size _ (HAU.out.1.below (show Below o1.heap.size o1 _ by assumption)) (HAU.out.2.below (show Below o1.heap.size o1 _ by assumption) (Nat.le_refl _)) (show Below o1.heap.size o1 _ by assumption).size hok hysm (HVV.out.below (show Below w.heap.size w _ by assumption))) ?_
          rintro en o6 ⟨vL, FL, rfl, hoL, hlL, hb⟩
          have rwo6 := Below.trans (show Below w.heap.size w _ by assumption) (hb.mono (by omega))
          have zwo6 := rwo6.size
          have ro1o6 := Below.trans (show Below o1.heap.size o1 _ by assumption) (hb.mono (by omega))
          have zo1o6 := ro1o6.size
          have rWo6 := Below.trans (show Below W.heap.size W _ by assumption) (hb.mono (by omega))
          have zWo6 := rWo6.size
          obtain ⟨pL, cL, rfl⟩ := hoL.sl.form
          have hmL := hoL.sl.max
          unfold maxLen at hmL
          have HSL := Lib.hid hoL.sl
          clear hoL hlL
          clear hb yW0 yW1 yW2 yW3 yW4 yW5 yW6 yW7 yW8 yW9 yW10
          obtain ⟨yW0, yW1, yW2, yW3, yW4, yW5, yW6, yW7, yW8, yW9, yW10⟩ := HKW.out _ rWo6
          have ro60 := Below.refl o6.heap.size o6
          clear wf wt
          go_wp2_with fail
          go_loopw [9, 10] (fun s i wr => ∃ j : Nat, j ≤ R.length ∧ i = .int .i64 (j : Int) ∧ s = .bool (goneE (k : Int) (R.take j)) ∧ Below o6.heap.size o6 wr) (fun _ i _ => R.length - (intOf i).toNat)
          case atStart => exact ⟨0, Nat.zero_le _, rfl, by rw [goneE_zero], by ((repeat (first | with_reducible assumption | with_reducible exact Below.refl _ _ | refine Below.setCell ?_ (by (first | omega | (simp; omega) | (simp; done) | fail "sml")) _ | refine Below.drew ?_ | refine Below.alloc ?_ (by (first | omega | (simp; omega) | (simp; done) | fail "sml")) _)); first | done | fail "chs")⟩
          case round =>
            obtain ⟨j, hj, rfl, hs, hbr⟩ := hrel
            by_cases hlt2 : j < R.length
            · obtain ⟨bl, ol, epl, hbl, c0, c1⟩ := (HSL.out.below hbr).atHop hlt2
              cases epl
              have hsucc := goneE_succ (k : Int) R hlt2
              obtain ⟨h, eh⟩ : ∃ h, h = R[j] := ⟨_, rfl⟩
              rw [← eh] at c0 c1 hsucc
              clear eh
              cases hg : goneE (k : Int) (R.take j) with
              | true =>
                rw [hg] at hs hsucc
                subst hs
                go_wp2_with fail
                go_roundw
                case rel => exact ⟨j + 1, by omega, by go_num, by rw [hsucc]; rfl, hbr⟩
                case measure => simp [intOf]; omega
              | false =>
                rw [hg] at hs hsucc
                subst hs
                obtain ⟨q9, eq9⟩ : ∃ q9, (h.e == (k : Int)) = q9 := ⟨_, rfl⟩
                rw [eq9] at hsucc
                go_wp2_with fail
                go_roundw
                case rel => exact ⟨j + 1, by omega, by go_num, by rw [hsucc]; simp, hbr⟩
                case measure => simp [intOf]; omega
            · obtain rfl : j = R.length := by omega
              rw [goneE_all, HG] at hs
              subst hs
              go_wp2_with fail
              go_ret
              exact ⟨rfl, rwo6.trans (hbr.mono zwo6)⟩
        · have qd : (yd == 2) = false := beq_eq_false_iff_ne.2 hd
          obtain ⟨R, ER⟩ : ∃ R, hopsR g nd.f (⟨false, yv, yl, yc, yd⟩ : El) = R := ⟨_, rfl⟩
          rw [show endOf yd nd = nd.f from if_neg hd, ER] at HG
          clear hd
          go_wp2_with fail
          refine Calls.mono (edgeFits_to EB _ _ o1.heap.size _ (HAU.out.1.below (show Below o1.heap.size o1 _ by assumption)) (HAU.out.2.below (show Below o1.heap.size o1 _ by assumption) (Nat.le_refl _)) (show Below o1.heap.size o1 _ by assumption).size hok hysm (HVV.out.below (show Below w.heap.size w _ by assumption))) ?_
          rintro en o2 ⟨rfl, hb⟩
          have rwo2 := Below.trans (show Below w.heap.size w _ by assumption) (hb.mono (by omega))
          have zwo2 := rwo2.size
          have ro1o2 := Below.trans (show Below o1.heap.size o1 _ by assumption) (hb.mono (by omega))
          have zo1o2 := ro1o2.size
          have rWo2 := Below.trans (show Below W.heap.size W _ by assumption) (hb.mono (by omega))
          have zWo2 := rWo2.size
          clear hb yW0 yW1 yW2 yW3 yW4 yW5 yW6 yW7 yW8 yW9 yW10
          obtain ⟨yW0, yW1, yW2, yW3, yW4, yW5, yW6, yW7, yW8, yW9, yW10⟩ := HKW.out _ rWo2
          go_wp2_with fail
          refine Calls.mono (specEdgeFits_to EB _ _ o1.heap.size _ (HAU.out.1.below (show Below o1.heap.size o1 _ by assumption)) (HAU.out.2.below (show Below o1.heap.size o1 _ by assumption) (Nat.le_refl _)) (show Below o1.heap.size o1 _ by assumption).size hok hysm) ?_
          rintro en o3 ⟨rfl, hb⟩
          have rwo3 := Below.trans (show Below w.heap.size w _ by assumption) (hb.mono (by omega))
          have zwo3 := rwo3.size
          have ro1o3 := Below.trans (show Below o1.heap.size o1 _ by assumption) (hb.mono (by omega))
          have zo1o3 := ro1o3.size
          have rWo3 := Below.trans (show Below W.heap.size W _ by assumption) (hb.mono (by omega))
          have zWo3 := rWo3.size
          clear hb yW0 yW1 yW2 yW3 yW4 yW5 yW6 yW7 yW8 yW9 yW10
          obtain ⟨yW0, yW1, yW2, yW3, yW4, yW5, yW6, yW7, yW8, yW9, yW10⟩ := HKW.out _ rWo3
          go_wp2_with fail
          refine Calls.mono (EG ▸ graphValid_any g _ o1.heap.size _ (HAU.out.1.below (show Below o1.heap.size o1 _ by assumption)) (show Below o1.heap.size o1 _ by assumption).size hok) ?_
          rintro en o4 ⟨rfl, hb⟩
          have rwo4 := Below.trans (show Below w.heap.size w _ by assumption) (hb.mono (by omega))
          have zwo4 := rwo4.size
          have ro1o4 := Below.trans (show Below o1.heap.size o1 _ by assumption) (hb.mono (by omega))
          have zo1o4 := ro1o4.size
          have rWo4 := Below.trans (show Below W.heap.size W _ by assumption) (hb.mono (by omega))
          have zWo4 := rWo4.size
          clear hb yW0 yW1 yW2 yW3 yW4 yW5 yW6 yW7 yW8 yW9 yW10
          obtain ⟨yW0, yW1, yW2, yW3, yW4, yW5, yW6, yW7, yW8, yW9, yW10⟩ := HKW.out _ rWo4
          go_wp2_with fail
          refine Calls.mono (EE ▸ elemValid_any (⟨false, yv, yl, yc, yd⟩ : El) _ o1.heap.size _ (HAU.out.2.below (show Below o1.heap.size o1 _ by assumption) (Nat.le_refl _)) (show Below o1.heap.size o1 _ by assumption).size hysm (HVV.out.below (show Below w.heap.size w _ by assumption))) ?_
          rintro en o5 ⟨rfl, hb⟩
          have rwo5 := Below.trans (show Below w.heap.size w _ by assumption) (hb.mono (by omega))
          have zwo5 := rwo5.size
          have ro1o5 := Below.trans (show Below o1.heap.size o1 _ by assumption) (hb.mono (by omega))
          have zo1o5 := ro1o5.size
          have rWo5 := Below.trans (show Below W.heap.size W _ by assumption) (hb.mono (by omega))
          have zWo5 := rWo5.size
          have wf := keepc ro1o5 hbb ncf
          have wt := keepc ro1o5 hbb nct
          clear hb yW0 yW1 yW2 yW3 yW4 yW5 yW6 yW7 yW8 yW9 yW10
          obtain ⟨yW0, yW1, yW2, yW3, yW4, yW5, yW6, yW7, yW8, yW9, yW10⟩ := HKW.out _ rWo5
          go_wp2_with fail
          refine Calls.mono (ER ▸ hopsFrom_any g (⟨false, yv, yl, yc, yd⟩ : El) _ _ nd.f o1.heap.size _ (HAU.out.1.below (show Below o1.heap.size o1 _ by assumption)) (HAU.out.2.below (show Below o1.heap.size o1 _ by assumption) (Nat.le_refl _)) (show Below o1.heap.size o1 _ by assumption).size hok hysm (HVV.out.below (show Below w.heap.size w _ by assumption))) ?_
          rintro en o6 ⟨vL, FL, rfl, hoL, hlL, hb⟩
          have rwo6 := Below.trans (show Below w.heap.size w _ by assumption) (hb.mono (by omega))
          have zwo6 := rwo6.size
          have ro1o6 := Below.trans (show Below o1.heap.size o1 _ by assumption) (hb.mono (by omega))
          have zo1o6 := ro1o6.size
          have rWo6 := Below.trans (show Below W.heap.size W _ by assumption) (hb.mono (by omega))
          have zWo6 := rWo6.size
          obtain ⟨pL, cL, rfl⟩ := hoL.sl.form
          have hmL := hoL.sl.max
          unfold maxLen at hmL
          have HSL := Lib.hid hoL.sl
          clear hoL hlL
          clear hb yW0 yW1 yW2 yW3 yW4 yW5 yW6 yW7 yW8 yW9 yW10
          obtain ⟨yW0, yW1, yW2, yW3, yW4, yW5, yW6, yW7, yW8, yW9, yW10⟩ := HKW.out _ rWo6
          have ro60 := Below.refl o6.heap.size o6
          clear wf wt
          go_wp2_with fail
          go_loopw [9, 10] (fun s i wr => ∃ j : Nat, j ≤ R.length ∧ i = .int .i64 (j : Int) ∧ s = .bool (goneE (k : Int) (R.take j)) ∧ Below o6.heap.size o6 wr) (fun _ i _ => R.length - (intOf i).toNat)
          case atStart => exact ⟨0, Nat.zero_le _, rfl, by rw [goneE_zero], by ((repeat (first | with_reducible assumption | with_reducible exact Below.refl _ _ | refine Below.setCell ?_ (by (first | omega | (simp; omega) | (simp; done) | fail "sml")) _ | refine Below.drew ?_ | refine Below.alloc ?_ (by (first | omega | (simp; omega) | (simp; done) | fail "sml")) _)); first | done | fail "chs")⟩
          case round =>
            obtain ⟨j, hj, rfl, hs, hbr⟩ := hrel
            by_cases hlt2 : j < R.length
            · obtain ⟨bl, ol, epl, hbl, c0, c1⟩ := (HSL.out.below hbr).atHop hlt2
              cases epl
              have hsucc := goneE_succ (k : Int) R hlt2
              obtain ⟨h, eh⟩ : ∃ h, h = R[j] := ⟨_, rfl⟩
              rw [← eh] at c0 c1 hsucc
              clear eh
              cases hg : goneE (k : Int) (R.take j) with
              | true =>
                rw [hg] at hs hsucc
                subst hs
                go_wp2_with fail
                go_roundw
                case rel => exact ⟨j + 1, by omega, by go_num, by rw [hsucc]; rfl, hbr⟩
                case measure => simp [intOf]; omega
              | false =>
                rw [hg] at hs hsucc
                subst hs
                obtain ⟨q9, eq9⟩ : ∃ q9, (h.e == (k : Int)) = q9 := ⟨_, rfl⟩
                rw [eq9] at hsucc
                go_wp2_with fail
                go_roundw
                case rel => exact ⟨j + 1, by omega, by go_num, by rw [hsucc]; simp, hbr⟩
                case measure => simp [intOf]; omega
            · obtain rfl : j = R.length := by omega
              rw [goneE_all, HG] at hs
              subst hs
              go_wp2_with fail
              go_ret
              exact ⟨rfl, rwo6.trans (hbr.mono zwo6)⟩

end Go.Proofs.YtghhabailgfelaaDoor
