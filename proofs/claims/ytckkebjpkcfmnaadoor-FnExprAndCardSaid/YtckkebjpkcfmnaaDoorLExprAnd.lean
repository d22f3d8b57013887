/- The walk of FnExprAnd. -/
import Derived.Test.YtckkebjpkcfmnaaDoorL2K
import Derived.Test.YtckkebjpkcfmnaaDoorXLaw
import Derived.Test.YtckkebjpkcfmnaaDoorReg
namespace Go.Proofs.YtckkebjpkcfmnaaDoor
open Go.RowKit

set_option maxRecDepth 100000 in
set_option maxHeartbeats 16000000 in
theorem lawExprAnd (zs : List Int) (zs2 : List Int) (v v2 : Value) (w : World) (hv : Sl 1 byCells w.heap.size w v zs) (hv2 : Sl 1 byCells w.heap.size w v2 zs2) (hz : ∀ z ∈ zs, 0 ≤ z ∧ z ≤ 255) (hz2 : ∀ z ∈ zs2, 0 ≤ z ∧ z ≤ 255) (hvars : Vars w) :
    Calls Tryd.prog 8 #[v, v2] w fun e w' => e = .returned (.bool true) ∧ Below w.heap.size w w' := by
  have HVV := Lib.hid hvars
  clear hvars
  obtain ⟨p, cap, rfl⟩ := hv.form
  have hm := hv.max
  unfold maxLen at hm
  obtain ⟨p2, cap2, rfl⟩ := hv2.form
  have hm2 := hv2.max
  unfold maxLen at hm2
  have HV2 := Lib.hid hv2
  clear hv2
  by_cases hbig : (1048576 : Int) < zs.length
  · go_enter Tryd.func8, Tryd.ntmps8
    go_wp2_with fail
    go_ret
    exact ⟨rfl, Below.refl _ _⟩
  by_cases hbig2 : (1048576 : Int) < zs2.length
  · go_enter Tryd.func8, Tryd.ntmps8
    go_wp2_with fail
    go_ret
    exact ⟨rfl, Below.refl _ _⟩
  go_enter Tryd.func8, Tryd.ntmps8
  go_wp2_with fail
  have rw0 := Below.refl w.heap.size w
  refine Calls.mono (drawLabelHolds_any zs _ w.heap.size _ hv (show Below w.heap.size w _ by ((repeat (first | with_reducible assumption | with_reducible exact Below.refl _ _ | refine Below.setCell ?_ (by (first | omega | (simp; omega) | (simp; done) | fail "sml")) _ | refine Below.drew ?_ | refine Below.alloc ?_ (by (first | omega | (simp; omega) | (simp; done) | fail "sml")) _)); first | done | fail "chs")).size hz) ?_
  rintro en u1 ⟨x0, p0', c0', F0, _, rfl, ⟨s, rfl, hs⟩, hx, hb⟩
  have rwu1 := Below.trans (show Below w.heap.size w _ by ((repeat (first | with_reducible assumption | with_reducible exact Below.refl _ _ | refine Below.setCell ?_ (by (first | omega | (simp; omega) | (simp; done) | fail "sml")) _ | refine Below.drew ?_ | refine Below.alloc ?_ (by (first | omega | (simp; omega) | (simp; done) | fail "sml")) _)); first | done | fail "chs")) (hb.mono (by (first | omega | (simp; omega) | (simp; done) | fail "sml")))
  have zwu1 := rwu1.size
  have hsm0 : x0.Sml := hx.sm
  have hat0 := hx.at
  have hdn0 := hx.2.2
  clear hx
  clear hb 
  go_upto_region 4 with fail
  obtain ⟨W, eW⟩ : ∃ E, E = u1.alloc (.cells #[.int .i64 x0.op, .string x0.a, .slice p0' x0.ks.list.length c0'] 25) := ⟨_, rfl⟩
  have sW : u1.heap.size < W.heap.size := by rw [eW]; simp
  have kW : Below u1.heap.size u1 W := by rw [eW]; ((repeat (first | with_reducible assumption | with_reducible exact Below.refl _ _ | refine Below.setCell ?_ (by (first | omega | (simp; omega) | (simp; done) | fail "sml")) _ | refine Below.drew ?_ | refine Below.alloc ?_ (by (first | omega | (simp; omega) | (simp; done) | fail "sml")) _)); first | done | fail "chs")
  have HCW := Lib.hid (show W.cell? ⟨u1.heap.size, 0, none⟩ = some (.int .i64 x0.op) ∧ W.cell? ⟨u1.heap.size, 1, none⟩ = some (.string x0.a) ∧ W.cell? ⟨u1.heap.size, 2, none⟩ = some (.slice p0' x0.ks.list.length c0') from by rw [eW]; exact ⟨by simp [go_sem], by simp [go_sem], by simp [go_sem]⟩)
  have HAW := Lib.hid (show x0.At W.heap.size W (.agg #[.int .i64 x0.op, .string x0.a, .slice p0' x0.ks.list.length c0']) from by rw [eW]; exact hat0.below ((Below.refl _ _).alloc (Nat.le_refl _) _) (by simp))
  rw [← eW]
  have rwW := Below.trans (show Below w.heap.size w _ by ((repeat (first | with_reducible assumption | with_reducible exact Below.refl _ _ | refine Below.setCell ?_ (by (first | omega | (simp; omega) | (simp; done) | fail "sml")) _ | refine Below.drew ?_ | refine Below.alloc ?_ (by (first | omega | (simp; omega) | (simp; done) | fail "sml")) _)); first | done | fail "chs")) (kW.mono (by (first | omega | (simp; omega) | (simp; done) | fail "sml")))
  have HKW := Lib.hid (fun (E : World) (hE : Below W.heap.size W E) => (⟨keepc hE sW HCW.out.1, keepc hE sW HCW.out.2.1, keepc hE sW HCW.out.2.2⟩ : E.cell? ⟨u1.heap.size, 0, none⟩ = some (.int .i64 x0.op) ∧ E.cell? ⟨u1.heap.size, 1, none⟩ = some (.string x0.a) ∧ E.cell? ⟨u1.heap.size, 2, none⟩ = some (.slice p0' x0.ks.list.length c0')))
  have rW0 := Below.refl W.heap.size W
  obtain ⟨yW0, yW1, yW2⟩ := HKW.out _ rW0
  clear eW kW
  go_wp2_with fail
  refine Calls.mono (drawLabelHolds_any zs2 _ w.heap.size _ (HV2.out.below (show Below w.heap.size w _ by ((repeat (first | with_reducible assumption | with_reducible exact Below.refl _ _ | refine Below.setCell ?_ (by (first | omega | (simp; omega) | (simp; done) | fail "sml")) _ | refine Below.drew ?_ | refine Below.alloc ?_ (by (first | omega | (simp; omega) | (simp; done) | fail "sml")) _)); first | done | fail "chs"))) (show Below w.heap.size w _ by ((repeat (first | with_reducible assumption | with_reducible exact Below.refl _ _ | refine Below.setCell ?_ (by (first | omega | (simp; omega) | (simp; done) | fail "sml")) _ | refine Below.drew ?_ | refine Below.alloc ?_ (by (first | omega | (simp; omega) | (simp; done) | fail "sml")) _)); first | done | fail "chs")).size hz2) ?_
  rintro en u2 ⟨x1, p1', c1', F1, _, rfl, ⟨s', rfl, hs'⟩, hx, hb⟩
  have rwu2 := Below.trans (show Below w.heap.size w _ by ((repeat (first | with_reducible assumption | with_reducible exact Below.refl _ _ | refine Below.setCell ?_ (by (first | omega | (simp; omega) | (simp; done) | fail "sml")) _ | refine Below.drew ?_ | refine Below.alloc ?_ (by (first | omega | (simp; omega) | (simp; done) | fail "sml")) _)); first | done | fail "chs")) (hb.mono (by (first | omega | (simp; omega) | (simp; done) | fail "sml")))
  have zwu2 := rwu2.size
  have rWu2 := Below.trans (show Below W.heap.size W _ by ((repeat (first | with_reducible assumption | with_reducible exact Below.refl _ _ | refine Below.setCell ?_ (by (first | omega | (simp; omega) | (simp; done) | fail "sml")) _ | refine Below.drew ?_ | refine Below.alloc ?_ (by (first | omega | (simp; omega) | (simp; done) | fail "sml")) _)); first | done | fail "chs")) (hb.mono (by (first | omega | (simp; omega) | (simp; done) | fail "sml")))
  have zWu2 := rWu2.size
  have hsm1 : x1.Sml := hx.sm
  have hat1 := hx.at
  have hdn1 := hx.2.2
  clear hx
  clear hb yW0 yW1 yW2
  obtain ⟨yW0, yW1, yW2⟩ := HKW.out _ rWu2
  go_upto_region 5 with fail
  obtain ⟨D, eD⟩ : ∃ E, E = u2.alloc (.cells #[.int .i64 x1.op, .string x1.a, .slice p1' x1.ks.list.length c1'] 25) := ⟨_, rfl⟩
  have sD : u2.heap.size < D.heap.size := by rw [eD]; simp
  have kD : Below u2.heap.size u2 D := by rw [eD]; ((repeat (first | with_reducible assumption | with_reducible exact Below.refl _ _ | refine Below.setCell ?_ (by (first | omega | (simp; omega) | (simp; done) | fail "sml")) _ | refine Below.drew ?_ | refine Below.alloc ?_ (by (first | omega | (simp; omega) | (simp; done) | fail "sml")) _)); first | done | fail "chs")
  have HCD := Lib.hid (show D.cell? ⟨u2.heap.size, 0, none⟩ = some (.int .i64 x1.op) ∧ D.cell? ⟨u2.heap.size, 1, none⟩ = some (.string x1.a) ∧ D.cell? ⟨u2.heap.size, 2, none⟩ = some (.slice p1' x1.ks.list.length c1') from by rw [eD]; exact ⟨by simp [go_sem], by simp [go_sem], by simp [go_sem]⟩)
  have HAD := Lib.hid (show x1.At D.heap.size D (.agg #[.int .i64 x1.op, .string x1.a, .slice p1' x1.ks.list.length c1']) from by rw [eD]; exact hat1.below ((Below.refl _ _).alloc (Nat.le_refl _) _) (by simp))
  rw [← eD]
  have rwD := Below.trans (show Below w.heap.size w _ by ((repeat (first | with_reducible assumption | with_reducible exact Below.refl _ _ | refine Below.setCell ?_ (by (first | omega | (simp; omega) | (simp; done) | fail "sml")) _ | refine Below.drew ?_ | refine Below.alloc ?_ (by (first | omega | (simp; omega) | (simp; done) | fail "sml")) _)); first | done | fail "chs")) (kD.mono (by (first | omega | (simp; omega) | (simp; done) | fail "sml")))
  have rWD := Below.trans (show Below W.heap.size W _ by ((repeat (first | with_reducible assumption | with_reducible exact Below.refl _ _ | refine Below.setCell ?_ (by (first | omega | (simp; omega) | (simp; done) | fail "sml")) _ | refine Below.drew ?_ | refine Below.alloc ?_ (by (first | omega | (simp; omega) | (simp; done) | fail "sml")) _)); first | done | fail "chs")) (kD.mono (by (first | omega | (simp; omega) | (simp; done) | fail "sml")))
  have HKD := Lib.hid (fun (E : World) (hE : Below D.heap.size D E) => (⟨keepc hE sD HCD.out.1, keepc hE sD HCD.out.2.1, keepc hE sD HCD.out.2.2⟩ : E.cell? ⟨u2.heap.size, 0, none⟩ = some (.int .i64 x1.op) ∧ E.cell? ⟨u2.heap.size, 1, none⟩ = some (.string x1.a) ∧ E.cell? ⟨u2.heap.size, 2, none⟩ = some (.slice p1' x1.ks.list.length c1')))
  have rD0 := Below.refl D.heap.size D
  obtain ⟨yD0, yD1, yD2⟩ := HKD.out _ rD0
  clear eD kD
  clear yW0 yW1 yW2
  obtain ⟨yW0, yW1, yW2⟩ := HKW.out _ rWD
  go_wp2_with fail
  obtain ⟨b, EB⟩ : ∃ b, lholds x0 s = b := ⟨_, rfl⟩
  obtain ⟨c, EC0⟩ : ∃ c, lholds x1 s = c := ⟨_, rfl⟩
  refine Calls.mono (EB ▸ labelHolds_any x0 _ s W.heap.size _ (HAW.out.below (show Below W.heap.size W _ by ((repeat (first | with_reducible assumption | with_reducible exact Below.refl _ _ | refine Below.setCell ?_ (by (first | omega | (simp; omega) | (simp; done) | fail "sml")) _ | refine Below.drew ?_ | refine Below.alloc ?_ (by (first | omega | (simp; omega) | (simp; done) | fail "sml")) _)); first | done | fail "chs")) (Nat.le_refl _)) (show Below W.heap.size W _ by ((repeat (first | with_reducible assumption | with_reducible exact Below.refl _ _ | refine Below.setCell ?_ (by (first | omega | (simp; omega) | (simp; done) | fail "sml")) _ | refine Below.drew ?_ | refine Below.alloc ?_ (by (first | omega | (simp; omega) | (simp; done) | fail "sml")) _)); first | done | fail "chs")).size hsm0.1 hsm0.2 (by omega) (HVV.out.below (show Below w.heap.size w _ by ((repeat (first | with_reducible assumption | with_reducible exact Below.refl _ _ | refine Below.setCell ?_ (by (first | omega | (simp; omega) | (simp; done) | fail "sml")) _ | refine Below.drew ?_ | refine Below.alloc ?_ (by (first | omega | (simp; omega) | (simp; done) | fail "sml")) _)); first | done | fail "chs")))) ?_
  rintro en u3 ⟨rfl, hb⟩
  have rwu3 := Below.trans (show Below w.heap.size w _ by ((repeat (first | with_reducible assumption | with_reducible exact Below.refl _ _ | refine Below.setCell ?_ (by (first | omega | (simp; omega) | (simp; done) | fail "sml")) _ | refine Below.drew ?_ | refine Below.alloc ?_ (by (first | omega | (simp; omega) | (simp; done) | fail "sml")) _)); first | done | fail "chs")) (hb.mono (by (first | omega | (simp; omega) | (simp; done) | fail "sml")))
  have zwu3 := rwu3.size
  have rWu3 := Below.trans (show Below W.heap.size W _ by ((repeat (first | with_reducible assumption | with_reducible exact Below.refl _ _ | refine Below.setCell ?_ (by (first | omega | (simp; omega) | (simp; done) | fail "sml")) _ | refine Below.drew ?_ | refine Below.alloc ?_ (by (first | omega | (simp; omega) | (simp; done) | fail "sml")) _)); first | done | fail "chs")) (hb.mono (by (first | omega | (simp; omega) | (simp; done) | fail "sml")))
  have zWu3 := rWu3.size
  have rDu3 := Below.trans (show Below D.heap.size D _ by ((repeat (first | with_reducible assumption | with_reducible exact Below.refl _ _ | refine Below.setCell ?_ (by (first | omega | (simp; omega) | (simp; done) | fail "sml")) _ | refine Below.drew ?_ | refine Below.alloc ?_ (by (first | omega | (simp; omega) | (simp; done) | fail "sml")) _)); first | done | fail "chs")) (hb.mono (by (first | omega | (simp; omega) | (simp; done) | fail "sml")))
  have zDu3 := rDu3.size
  clear hb yW0 yW1 yW2 yD0 yD1 yD2
  obtain ⟨yW0, yW1, yW2⟩ := HKW.out _ rWu3
  obtain ⟨yD0, yD1, yD2⟩ := HKD.out _ rDu3
  go_wp2_with fail
  refine Calls.mono (EC0 ▸ labelHolds_any x1 _ s D.heap.size _ (HAD.out.below (show Below D.heap.size D _ by ((repeat (first | with_reducible assumption | with_reducible exact Below.refl _ _ | refine Below.setCell ?_ (by (first | omega | (simp; omega) | (simp; done) | fail "sml")) _ | refine Below.drew ?_ | refine Below.alloc ?_ (by (first | omega | (simp; omega) | (simp; done) | fail "sml")) _)); first | done | fail "chs")) (Nat.le_refl _)) (show Below D.heap.size D _ by ((repeat (first | with_reducible assumption | with_reducible exact Below.refl _ _ | refine Below.setCell ?_ (by (first | omega | (simp; omega) | (simp; done) | fail "sml")) _ | refine Below.drew ?_ | refine Below.alloc ?_ (by (first | omega | (simp; omega) | (simp; done) | fail "sml")) _)); first | done | fail "chs")).size hsm1.1 hsm1.2 (by omega) (HVV.out.below (show Below w.heap.size w _ by ((repeat (first | with_reducible assumption | with_reducible exact Below.refl _ _ | refine Below.setCell ?_ (by (first | omega | (simp; omega) | (simp; done) | fail "sml")) _ | refine Below.drew ?_ | refine Below.alloc ?_ (by (first | omega | (simp; omega) | (simp; done) | fail "sml")) _)); first | done | fail "chs")))) ?_
  rintro en u4 ⟨rfl, hb⟩
  have rwu4 := Below.trans (show Below w.heap.size w _ by ((repeat (first | with_reducible assumption | with_reducible exact Below.refl _ _ | refine Below.setCell ?_ (by (first | omega | (simp; omega) | (simp; done) | fail "sml")) _ | refine Below.drew ?_ | refine Below.alloc ?_ (by (first | omega | (simp; omega) | (simp; done) | fail "sml")) _)); first | done | fail "chs")) (hb.mono (by (first | omega | (simp; omega) | (simp; done) | fail "sml")))
  have zwu4 := rwu4.size
  have rWu4 := Below.trans (show Below W.heap.size W _ by ((repeat (first | with_reducible assumption | with_reducible exact Below.refl _ _ | refine Below.setCell ?_ (by (first | omega | (simp; omega) | (simp; done) | fail "sml")) _ | refine Below.drew ?_ | refine Below.alloc ?_ (by (first | omega | (simp; omega) | (simp; done) | fail "sml")) _)); first | done | fail "chs")) (hb.mono (by (first | omega | (simp; omega) | (simp; done) | fail "sml")))
  have zWu4 := rWu4.size
  have rDu4 := Below.trans (show Below D.heap.size D _ by ((repeat (first | with_reducible assumption | with_reducible exact Below.refl _ _ | refine Below.setCell ?_ (by (first | omega | (simp; omega) | (simp; done) | fail "sml")) _ | refine Below.drew ?_ | refine Below.alloc ?_ (by (first | omega | (simp; omega) | (simp; done) | fail "sml")) _)); first | done | fail "chs")) (hb.mono (by (first | omega | (simp; omega) | (simp; done) | fail "sml")))
  have zDu4 := rDu4.size
  clear hb yW0 yW1 yW2 yD0 yD1 yD2
  obtain ⟨yW0, yW1, yW2⟩ := HKW.out _ rWu4
  obtain ⟨yD0, yD1, yD2⟩ := HKD.out _ rDu4
  go_wp2_with fail
  refine Calls.mono (EB ▸ specLabelHolds_any x0 _ s W.heap.size _ (HAW.out.below (show Below W.heap.size W _ by ((repeat (first | with_reducible assumption | with_reducible exact Below.refl _ _ | refine Below.setCell ?_ (by (first | omega | (simp; omega) | (simp; done) | fail "sml")) _ | refine Below.drew ?_ | refine Below.alloc ?_ (by (first | omega | (simp; omega) | (simp; done) | fail "sml")) _)); first | done | fail "chs")) (Nat.le_refl _)) (show Below W.heap.size W _ by ((repeat (first | with_reducible assumption | with_reducible exact Below.refl _ _ | refine Below.setCell ?_ (by (first | omega | (simp; omega) | (simp; done) | fail "sml")) _ | refine Below.drew ?_ | refine Below.alloc ?_ (by (first | omega | (simp; omega) | (simp; done) | fail "sml")) _)); first | done | fail "chs")).size hsm0.1 hsm0.2 (by omega)) ?_
  rintro en u5 ⟨rfl, hb⟩
  have rwu5 := Below.trans (show Below w.heap.size w _ by ((repeat (first | with_reducible assumption | with_reducible exact Below.refl _ _ | refine Below.setCell ?_ (by (first | omega | (simp; omega) | (simp; done) | fail "sml")) _ | refine Below.drew ?_ | refine Below.alloc ?_ (by (first | omega | (simp; omega) | (simp; done) | fail "sml")) _)); first | done | fail "chs")) (hb.mono (by (first | omega | (simp; omega) | (simp; done) | fail "sml")))
  have zwu5 := rwu5.size
  have rWu5 := Below.trans (show Below W.heap.size W _ by ((repeat (first | with_reducible assumption | with_reducible exact Below.refl _ _ | refine Below.setCell ?_ (by (first | omega | (simp; omega) | (simp; done) | fail "sml")) _ | refine Below.drew ?_ | refine Below.alloc ?_ (by (first | omega | (simp; omega) | (simp; done) | fail "sml")) _)); first | done | fail "chs")) (hb.mono (by (first | omega | (simp; omega) | (simp; done) | fail "sml")))
  have zWu5 := rWu5.size
  have rDu5 := Below.trans (show Below D.heap.size D _ by ((repeat (first | with_reducible assumption | with_reducible exact Below.refl _ _ | refine Below.setCell ?_ (by (first | omega | (simp; omega) | (simp; done) | fail "sml")) _ | refine Below.drew ?_ | refine Below.alloc ?_ (by (first | omega | (simp; omega) | (simp; done) | fail "sml")) _)); first | done | fail "chs")) (hb.mono (by (first | omega | (simp; omega) | (simp; done) | fail "sml")))
  have zDu5 := rDu5.size
  clear hb yW0 yW1 yW2 yD0 yD1 yD2
  obtain ⟨yW0, yW1, yW2⟩ := HKW.out _ rWu5
  obtain ⟨yD0, yD1, yD2⟩ := HKD.out _ rDu5
  go_wp2_with fail
  refine Calls.mono (EC0 ▸ specLabelHolds_any x1 _ s D.heap.size _ (HAD.out.below (show Below D.heap.size D _ by ((repeat (first | with_reducible assumption | with_reducible exact Below.refl _ _ | refine Below.setCell ?_ (by (first | omega | (simp; omega) | (simp; done) | fail "sml")) _ | refine Below.drew ?_ | refine Below.alloc ?_ (by (first | omega | (simp; omega) | (simp; done) | fail "sml")) _)); first | done | fail "chs")) (Nat.le_refl _)) (show Below D.heap.size D _ by ((repeat (first | with_reducible assumption | with_reducible exact Below.refl _ _ | refine Below.setCell ?_ (by (first | omega | (simp; omega) | (simp; done) | fail "sml")) _ | refine Below.drew ?_ | refine Below.alloc ?_ (by (first | omega | (simp; omega) | (simp; done) | fail "sml")) _)); first | done | fail "chs")).size hsm1.1 hsm1.2 (by omega)) ?_
  rintro en u6 ⟨rfl, hb⟩
  have rwu6 := Below.trans (show Below w.heap.size w _ by ((repeat (first | with_reducible assumption | with_reducible exact Below.refl _ _ | refine Below.setCell ?_ (by (first | omega | (simp; omega) | (simp; done) | fail "sml")) _ | refine Below.drew ?_ | refine Below.alloc ?_ (by (first | omega | (simp; omega) | (simp; done) | fail "sml")) _)); first | done | fail "chs")) (hb.mono (by (first | omega | (simp; omega) | (simp; done) | fail "sml")))
  have zwu6 := rwu6.size
  have rWu6 := Below.trans (show Below W.heap.size W _ by ((repeat (first | with_reducible assumption | with_reducible exact Below.refl _ _ | refine Below.setCell ?_ (by (first | omega | (simp; omega) | (simp; done) | fail "sml")) _ | refine Below.drew ?_ | refine Below.alloc ?_ (by (first | omega | (simp; omega) | (simp; done) | fail "sml")) _)); first | done | fail "chs")) (hb.mono (by (first | omega | (simp; omega) | (simp; done) | fail "sml")))
  have zWu6 := rWu6.size
  have rDu6 := Below.trans (show Below D.heap.size D _ by ((repeat (first | with_reducible assumption | with_reducible exact Below.refl _ _ | refine Below.setCell ?_ (by (first | omega | (simp; omega) | (simp; done) | fail "sml")) _ | refine Below.drew ?_ | refine Below.alloc ?_ (by (first | omega | (simp; omega) | (simp; done) | fail "sml")) _)); first | done | fail "chs")) (hb.mono (by (first | omega | (simp; omega) | (simp; done) | fail "sml")))
  have zDu6 := rDu6.size
  clear hb yW0 yW1 yW2 yD0 yD1 yD2
  obtain ⟨yW0, yW1, yW2⟩ := HKW.out _ rWu6
  obtain ⟨yD0, yD1, yD2⟩ := HKD.out _ rDu6
  obtain ⟨ks0, eks, hks⟩ := HAW.out
  cases eks
  obtain ⟨ks1, eks1, hks1⟩ := HAD.out
  cases eks1
  go_upto_region 10 with fail
  obtain ⟨A, eA⟩ : ∃ E, E = (u6.alloc (.cells #[.int .i64 x0.op, .string x0.a, .slice p0' x0.ks.list.length c0', .int .i64 x1.op, .string x1.a, .slice p1' x1.ks.list.length c1'] 25)).alloc (.cells #[.int .i64 4, .string ⟨#[]⟩, .slice (some ⟨u6.heap.size, 0, none⟩) 2 2] 25) := ⟨_, rfl⟩
  have sA : u6.heap.size + 1 < A.heap.size := by rw [eA]; simp
  have kA : Below u6.heap.size u6 A := by rw [eA]; ((repeat (first | with_reducible assumption | with_reducible exact Below.refl _ _ | refine Below.setCell ?_ (by (first | omega | (simp; omega) | (simp; done) | fail "sml")) _ | refine Below.drew ?_ | refine Below.alloc ?_ (by (first | omega | (simp; omega) | (simp; done) | fail "sml")) _)); first | done | fail "chs")
  have HCA := Lib.hid (show A.cell? ⟨u6.heap.size + 1, 0, none⟩ = some (.int .i64 4) ∧ A.cell? ⟨u6.heap.size + 1, 1, none⟩ = some (.string ⟨#[]⟩) ∧ A.cell? ⟨u6.heap.size + 1, 2, none⟩ = some (.slice (some ⟨u6.heap.size, 0, none⟩) 2 2) from by rw [eA]; exact ⟨by simp [go_sem], by simp [go_sem], by simp [go_sem]⟩)
  have HAA := Lib.hid (show (twoE 4 x0 x1).At A.heap.size A (.agg #[.int .i64 4, .string ⟨#[]⟩, .slice (some ⟨u6.heap.size, 0, none⟩) 2 2]) from by rw [eA]; exact (twoE_at ((hks.below (rWu6) (Nat.le_refl _)).below (Below.refl _ _) (show W.heap.size ≤ u6.heap.size from rWu6.size)) ((hks1.below (rDu6) (Nat.le_refl _)).below (Below.refl _ _) (show D.heap.size ≤ u6.heap.size from rDu6.size)) (Nat.le_refl _)).below ((Below.refl _ _).alloc (by simp) _) (by simp))
  rw [← eA]
  have rwA := Below.trans (show Below w.heap.size w _ by ((repeat (first | with_reducible assumption | with_reducible exact Below.refl _ _ | refine Below.setCell ?_ (by (first | omega | (simp; omega) | (simp; done) | fail "sml")) _ | refine Below.drew ?_ | refine Below.alloc ?_ (by (first | omega | (simp; omega) | (simp; done) | fail "sml")) _)); first | done | fail "chs")) (kA.mono (by (first | omega | (simp; omega) | (simp; done) | fail "sml")))
  have rWA := Below.trans (show Below W.heap.size W _ by ((repeat (first | with_reducible assumption | with_reducible exact Below.refl _ _ | refine Below.setCell ?_ (by (first | omega | (simp; omega) | (simp; done) | fail "sml")) _ | refine Below.drew ?_ | refine Below.alloc ?_ (by (first | omega | (simp; omega) | (simp; done) | fail "sml")) _)); first | done | fail "chs")) (kA.mono (by (first | omega | (simp; omega) | (simp; done) | fail "sml")))
  have rDA := Below.trans (show Below D.heap.size D _ by ((repeat (first | with_reducible assumption | with_reducible exact Below.refl _ _ | refine Below.setCell ?_ (by (first | omega | (simp; omega) | (simp; done) | fail "sml")) _ | refine Below.drew ?_ | refine Below.alloc ?_ (by (first | omega | (simp; omega) | (simp; done) | fail "sml")) _)); first | done | fail "chs")) (kA.mono (by (first | omega | (simp; omega) | (simp; done) | fail "sml")))
  have HKA := Lib.hid (fun (E : World) (hE : Below A.heap.size A E) => (⟨keepc hE sA HCA.out.1, keepc hE sA HCA.out.2.1, keepc hE sA HCA.out.2.2⟩ : E.cell? ⟨u6.heap.size + 1, 0, none⟩ = some (.int .i64 4) ∧ E.cell? ⟨u6.heap.size + 1, 1, none⟩ = some (.string ⟨#[]⟩) ∧ E.cell? ⟨u6.heap.size + 1, 2, none⟩ = some (.slice (some ⟨u6.heap.size, 0, none⟩) 2 2)))
  have rA0 := Below.refl A.heap.size A
  obtain ⟨yA0, yA1, yA2⟩ := HKA.out _ rA0
  clear eA kA
  clear yW0 yW1 yW2
  obtain ⟨yW0, yW1, yW2⟩ := HKW.out _ rWA
  clear yD0 yD1 yD2
  obtain ⟨yD0, yD1, yD2⟩ := HKD.out _ rDA
  go_upto_region 11 with fail
  have rWA' := rWA
  obtain ⟨O, eO⟩ : ∃ E, E = (A.alloc (.cells #[.int .i64 x0.op, .string x0.a, .slice p0' x0.ks.list.length c0', .int .i64 x1.op, .string x1.a, .slice p1' x1.ks.list.length c1'] 25)).alloc (.cells #[.int .i64 5, .string ⟨#[]⟩, .slice (some ⟨A.heap.size, 0, none⟩) 2 2] 25) := ⟨_, rfl⟩
  have sO : A.heap.size + 1 < O.heap.size := by rw [eO]; simp
  have kO : Below A.heap.size A O := by rw [eO]; ((repeat (first | with_reducible assumption | with_reducible exact Below.refl _ _ | refine Below.setCell ?_ (by (first | omega | (simp; omega) | (simp; done) | fail "sml")) _ | refine Below.drew ?_ | refine Below.alloc ?_ (by (first | omega | (simp; omega) | (simp; done) | fail "sml")) _)); first | done | fail "chs")
  have HCO := Lib.hid (show O.cell? ⟨A.heap.size + 1, 0, none⟩ = some (.int .i64 5) ∧ O.cell? ⟨A.heap.size + 1, 1, none⟩ = some (.string ⟨#[]⟩) ∧ O.cell? ⟨A.heap.size + 1, 2, none⟩ = some (.slice (some ⟨A.heap.size, 0, none⟩) 2 2) from by rw [eO]; exact ⟨by simp [go_sem], by simp [go_sem], by simp [go_sem]⟩)
  have HAO := Lib.hid (show (twoE 5 x0 x1).At O.heap.size O (.agg #[.int .i64 5, .string ⟨#[]⟩, .slice (some ⟨A.heap.size, 0, none⟩) 2 2]) from by rw [eO]; exact (twoE_at ((hks.below (rWA) (Nat.le_refl _)).below (Below.refl _ _) (show W.heap.size ≤ A.heap.size from rWA.size)) ((hks1.below (rDA) (Nat.le_refl _)).below (Below.refl _ _) (show D.heap.size ≤ A.heap.size from rDA.size)) (Nat.le_refl _)).below ((Below.refl _ _).alloc (by simp) _) (by simp))
  rw [← eO]
  have rwO := Below.trans (show Below w.heap.size w _ by ((repeat (first | with_reducible assumption | with_reducible exact Below.refl _ _ | refine Below.setCell ?_ (by (first | omega | (simp; omega) | (simp; done) | fail "sml")) _ | refine Below.drew ?_ | refine Below.alloc ?_ (by (first | omega | (simp; omega) | (simp; done) | fail "sml")) _)); first | done | fail "chs")) (kO.mono (by (first | omega | (simp; omega) | (simp; done) | fail "sml")))
  have rWO := Below.trans (show Below W.heap.size W _ by ((repeat (first | with_reducible assumption | with_reducible exact Below.refl _ _ | refine Below.setCell ?_ (by (first | omega | (simp; omega) | (simp; done) | fail "sml")) _ | refine Below.drew ?_ | refine Below.alloc ?_ (by (first | omega | (simp; omega) | (simp; done) | fail "sml")) _)); first | done | fail "chs")) (kO.mono (by (first | omega | (simp; omega) | (simp; done) | fail "sml")))
  have rDO := Below.trans (show Below D.heap.size D _ by ((repeat (first | with_reducible assumption | with_reducible exact Below.refl _ _ | refine Below.setCell ?_ (by (first | omega | (simp; omega) | (simp; done) | fail "sml")) _ | refine Below.drew ?_ | refine Below.alloc ?_ (by (first | omega | (simp; omega) | (simp; done) | fail "sml")) _)); first | done | fail "chs")) (kO.mono (by (first | omega | (simp; omega) | (simp; done) | fail "sml")))
  have rAO := Below.trans (show Below A.heap.size A _ by ((repeat (first | with_reducible assumption | with_reducible exact Below.refl _ _ | refine Below.setCell ?_ (by (first | omega | (simp; omega) | (simp; done) | fail "sml")) _ | refine Below.drew ?_ | refine Below.alloc ?_ (by (first | omega | (simp; omega) | (simp; done) | fail "sml")) _)); first | done | fail "chs")) (kO.mono (by (first | omega | (simp; omega) | (simp; done) | fail "sml")))
  have HKO := Lib.hid (fun (E : World) (hE : Below O.heap.size O E) => (⟨keepc hE sO HCO.out.1, keepc hE sO HCO.out.2.1, keepc hE sO HCO.out.2.2⟩ : E.cell? ⟨A.heap.size + 1, 0, none⟩ = some (.int .i64 5) ∧ E.cell? ⟨A.heap.size + 1, 1, none⟩ = some (.string ⟨#[]⟩) ∧ E.cell? ⟨A.heap.size + 1, 2, none⟩ = some (.slice (some ⟨A.heap.size, 0, none⟩) 2 2)))
  have rO0 := Below.refl O.heap.size O
  obtain ⟨yO0, yO1, yO2⟩ := HKO.out _ rO0
  clear eO kO
  clear yW0 yW1 yW2
  obtain ⟨yW0, yW1, yW2⟩ := HKW.out _ rWO
  clear yD0 yD1 yD2
  obtain ⟨yD0, yD1, yD2⟩ := HKD.out _ rDO
  clear yA0 yA1 yA2
  obtain ⟨yA0, yA1, yA2⟩ := HKA.out _ rAO
  cases EN : exV 1 (twoE 4 x0 x1) with
  | false =>
    go_wp2_with fail
    refine Calls.mono (EN ▸ exprValid_any (twoE 4 x0 x1) _ 1 A.heap.size _ (HAA.out.below (show Below A.heap.size A _ by ((repeat (first | with_reducible assumption | with_reducible exact Below.refl _ _ | refine Below.setCell ?_ (by (first | omega | (simp; omega) | (simp; done) | fail "sml")) _ | refine Below.drew ?_ | refine Below.alloc ?_ (by (first | omega | (simp; omega) | (simp; done) | fail "sml")) _)); first | done | fail "chs")) (Nat.le_refl _)) (show Below A.heap.size A _ by ((repeat (first | with_reducible assumption | with_reducible exact Below.refl _ _ | refine Below.setCell ?_ (by (first | omega | (simp; omega) | (simp; done) | fail "sml")) _ | refine Below.drew ?_ | refine Below.alloc ?_ (by (first | omega | (simp; omega) | (simp; done) | fail "sml")) _)); first | done | fail "chs")).size (twoE_sml hsm0 hsm1).1 (twoE_sml hsm0 hsm1).2 (HVV.out.below (show Below w.heap.size w _ by ((repeat (first | with_reducible assumption | with_reducible exact Below.refl _ _ | refine Below.setCell ?_ (by (first | omega | (simp; omega) | (simp; done) | fail "sml")) _ | refine Below.drew ?_ | refine Below.alloc ?_ (by (first | omega | (simp; omega) | (simp; done) | fail "sml")) _)); first | done | fail "chs")))) ?_
    rintro en u7 ⟨rfl, hb⟩
    have rwu7 := Below.trans (show Below w.heap.size w _ by ((repeat (first | with_reducible assumption | with_reducible exact Below.refl _ _ | refine Below.setCell ?_ (by (first | omega | (simp; omega) | (simp; done) | fail "sml")) _ | refine Below.drew ?_ | refine Below.alloc ?_ (by (first | omega | (simp; omega) | (simp; done) | fail "sml")) _)); first | done | fail "chs")) (hb.mono (by (first | omega | (simp; omega) | (simp; done) | fail "sml")))
    have zwu7 := rwu7.size
    have rWu7 := Below.trans (show Below W.heap.size W _ by ((repeat (first | with_reducible assumption | with_reducible exact Below.refl _ _ | refine Below.setCell ?_ (by (first | omega | (simp; omega) | (simp; done) | fail "sml")) _ | refine Below.drew ?_ | refine Below.alloc ?_ (by (first | omega | (simp; omega) | (simp; done) | fail "sml")) _)); first | done | fail "chs")) (hb.mono (by (first | omega | (simp; omega) | (simp; done) | fail "sml")))
    have zWu7 := rWu7.size
    have rDu7 := Below.trans (show Below D.heap.size D _ by ((repeat (first | with_reducible assumption | with_reducible exact Below.refl _ _ | refine Below.setCell ?_ (by (first | omega | (simp; omega) | (simp; done) | fail "sml")) _ | refine Below.drew ?_ | refine Below.alloc ?_ (by (first | omega | (simp; omega) | (simp; done) | fail "sml")) _)); first | done | fail "chs")) (hb.mono (by (first | omega | (simp; omega) | (simp; done) | fail "sml")))
    have zDu7 := rDu7.size
    have rAu7 := Below.trans (show Below A.heap.size A _ by ((repeat (first | with_reducible assumption | with_reducible exact Below.refl _ _ | refine Below.setCell ?_ (by (first | omega | (simp; omega) | (simp; done) | fail "sml")) _ | refine Below.drew ?_ | refine Below.alloc ?_ (by (first | omega | (simp; omega) | (simp; done) | fail "sml")) _)); first | done | fail "chs")) (hb.mono (by (first | omega | (simp; omega) | (simp; done) | fail "sml")))
    have zAu7 := rAu7.size
    have rOu7 := Below.trans (show Below O.heap.size O _ by ((repeat (first | with_reducible assumption | with_reducible exact Below.refl _ _ | refine Below.setCell ?_ (by (first | omega | (simp; omega) | (simp; done) | fail "sml")) _ | refine Below.drew ?_ | refine Below.alloc ?_ (by (first | omega | (simp; omega) | (simp; done) | fail "sml")) _)); first | done | fail "chs")) (hb.mono (by (first | omega | (simp; omega) | (simp; done) | fail "sml")))
    have zOu7 := rOu7.size
    clear hb yW0 yW1 yW2 yD0 yD1 yD2 yA0 yA1 yA2 yO0 yO1 yO2
    obtain ⟨yW0, yW1, yW2⟩ := HKW.out _ rWu7
    obtain ⟨yD0, yD1, yD2⟩ := HKD.out _ rDu7
    obtain ⟨yA0, yA1, yA2⟩ := HKA.out _ rAu7
    obtain ⟨yO0, yO1, yO2⟩ := HKO.out _ rOu7
    go_wp2_with fail
    go_ret
    exact ⟨rfl, by ((repeat (first | with_reducible assumption | with_reducible exact Below.refl _ _ | refine Below.setCell ?_ (by (first | omega | (simp; omega) | (simp; done) | fail "sml")) _ | refine Below.drew ?_ | refine Below.alloc ?_ (by (first | omega | (simp; omega) | (simp; done) | fail "sml")) _)); first | done | fail "chs")⟩
  | true =>
    by_cases hs0 : s.size = 0
    · have hse : s.toList.isEmpty = true := str_empty' hs0
      have hlb : lbl s = true := by unfold lbl; simp [hs0]
      cases b with
      | false =>
        cases c with
        | false =>
          go_wp2_with fail
          refine Calls.mono (EN ▸ exprValid_any (twoE 4 x0 x1) _ 1 A.heap.size _ (HAA.out.below (show Below A.heap.size A _ by ((repeat (first | with_reducible assumption | with_reducible exact Below.refl _ _ | refine Below.setCell ?_ (by (first | omega | (simp; omega) | (simp; done) | fail "sml")) _ | refine Below.drew ?_ | refine Below.alloc ?_ (by (first | omega | (simp; omega) | (simp; done) | fail "sml")) _)); first | done | fail "chs")) (Nat.le_refl _)) (show Below A.heap.size A _ by ((repeat (first | with_reducible assumption | with_reducible exact Below.refl _ _ | refine Below.setCell ?_ (by (first | omega | (simp; omega) | (simp; done) | fail "sml")) _ | refine Below.drew ?_ | refine Below.alloc ?_ (by (first | omega | (simp; omega) | (simp; done) | fail "sml")) _)); first | done | fail "chs")).size (twoE_sml hsm0 hsm1).1 (twoE_sml hsm0 hsm1).2 (HVV.out.below (show Below w.heap.size w _ by ((repeat (first | with_reducible assumption | with_reducible exact Below.refl _ _ | refine Below.setCell ?_ (by (first | omega | (simp; omega) | (simp; done) | fail "sml")) _ | refine Below.drew ?_ | refine Below.alloc ?_ (by (first | omega | (simp; omega) | (simp; done) | fail "sml")) _)); first | done | fail "chs")))) ?_
          rintro en u7 ⟨rfl, hb⟩
          have rwu7 := Below.trans (show Below w.heap.size w _ by ((repeat (first | with_reducible assumption | with_reducible exact Below.refl _ _ | refine Below.setCell ?_ (by (first | omega | (simp; omega) | (simp; done) | fail "sml")) _ | refine Below.drew ?_ | refine Below.alloc ?_ (by (first | omega | (simp; omega) | (simp; done) | fail "sml")) _)); first | done | fail "chs")) (hb.mono (by (first | omega | (simp; omega) | (simp; done) | fail "sml")))
          have zwu7 := rwu7.size
          have rWu7 := Below.trans (show Below W.heap.size W _ by ((repeat (first | with_reducible assumption | with_reducible exact Below.refl _ _ | refine Below.setCell ?_ (by (first | omega | (simp; omega) | (simp; done) | fail "sml")) _ | refine Below.drew ?_ | refine Below.alloc ?_ (by (first | omega | (simp; omega) | (simp; done) | fail "sml")) _)); first | done | fail "chs")) (hb.mono (by (first | omega | (simp; omega) | (simp; done) | fail "sml")))
          have zWu7 := rWu7.size
          have rDu7 := Below.trans (show Below D.heap.size D _ by ((repeat (first | with_reducible assumption | with_reducible exact Below.refl _ _ | refine Below.setCell ?_ (by (first | omega | (simp; omega) | (simp; done) | fail "sml")) _ | refine Below.drew ?_ | refine Below.alloc ?_ (by (first | omega | (simp; omega) | (simp; done) | fail "sml")) _)); first | done | fail "chs")) (hb.mono (by (first | omega | (simp; omega) | (simp; done) | fail "sml")))
          have zDu7 := rDu7.size
          have rAu7 := Below.trans (show Below A.heap.size A _ by ((repeat (first | with_reducible assumption | with_reducible exact Below.refl _ _ | refine Below.setCell ?_ (by (first | omega | (simp; omega) | (simp; done) | fail "sml")) _ | refine Below.drew ?_ | refine Below.alloc ?_ (by (first | omega | (simp; omega) | (simp; done) | fail "sml")) _)); first | done | fail "chs")) (hb.mono (by (first | omega | (simp; omega) | (simp; done) | fail "sml")))
          have zAu7 := rAu7.size
          have rOu7 := Below.trans (show Below O.heap.size O _ by ((repeat (first | with_reducible assumption | with_reducible exact Below.refl _ _ | refine Below.setCell ?_ (by (first | omega | (simp; omega) | (simp; done) | fail "sml")) _ | refine Below.drew ?_ | refine Below.alloc ?_ (by (first | omega | (simp; omega) | (simp; done) | fail "sml")) _)); first | done | fail "chs")) (hb.mono (by (first | omega | (simp; omega) | (simp; done) | fail "sml")))
          have zOu7 := rOu7.size
          clear hb yW0 yW1 yW2 yD0 yD1 yD2 yA0 yA1 yA2 yO0 yO1 yO2
          obtain ⟨yW0, yW1, yW2⟩ := HKW.out _ rWu7
          obtain ⟨yD0, yD1, yD2⟩ := HKD.out _ rDu7
          obtain ⟨yA0, yA1, yA2⟩ := HKA.out _ rAu7
          obtain ⟨yO0, yO1, yO2⟩ := HKO.out _ rOu7
          go_wp2_with fail
          refine Calls.mono (((lholds_two (s := s) EN hlb).1.trans (by rw [EB, EC0])) ▸ labelHolds_any (twoE 4 x0 x1) _ s A.heap.size _ (HAA.out.below (show Below A.heap.size A _ by ((repeat (first | with_reducible assumption | with_reducible exact Below.refl _ _ | refine Below.setCell ?_ (by (first | omega | (simp; omega) | (simp; done) | fail "sml")) _ | refine Below.drew ?_ | refine Below.alloc ?_ (by (first | omega | (simp; omega) | (simp; done) | fail "sml")) _)); first | done | fail "chs")) (Nat.le_refl _)) (show Below A.heap.size A _ by ((repeat (first | with_reducible assumption | with_reducible exact Below.refl _ _ | refine Below.setCell ?_ (by (first | omega | (simp; omega) | (simp; done) | fail "sml")) _ | refine Below.drew ?_ | refine Below.alloc ?_ (by (first | omega | (simp; omega) | (simp; done) | fail "sml")) _)); first | done | fail "chs")).size (twoE_sml hsm0 hsm1).1 (twoE_sml hsm0 hsm1).2 (by omega) (HVV.out.below (show Below w.heap.size w _ by ((repeat (first | with_reducible assumption | with_reducible exact Below.refl _ _ | refine Below.setCell ?_ (by (first | omega | (simp; omega) | (simp; done) | fail "sml")) _ | refine Below.drew ?_ | refine Below.alloc ?_ (by (first | omega | (simp; omega) | (simp; done) | fail "sml")) _)); first | done | fail "chs")))) ?_
          rintro en u8 ⟨rfl, hb⟩
          have rwu8 := Below.trans (show Below w.heap.size w _ by ((repeat (first | with_reducible assumption | with_reducible exact Below.refl _ _ | refine Below.setCell ?_ (by (first | omega | (simp; omega) | (simp; done) | fail "sml")) _ | refine Below.drew ?_ | refine Below.alloc ?_ (by (first | omega | (simp; omega) | (simp; done) | fail "sml")) _)); first | done | fail "chs")) (hb.mono (by (first | omega | (simp; omega) | (simp; done) | fail "sml")))
          have zwu8 := rwu8.size
          have rWu8 := Below.trans (show Below W.heap.size W _ by ((repeat (first | with_reducible assumption | with_reducible exact Below.refl _ _ | refine Below.setCell ?_ (by (first | omega | (simp; omega) | (simp; done) | fail "sml")) _ | refine Below.drew ?_ | refine Below.alloc ?_ (by (first | omega | (simp; omega) | (simp; done) | fail "sml")) _)); first | done | fail "chs")) (hb.mono (by (first | omega | (simp; omega) | (simp; done) | fail "sml")))
          have zWu8 := rWu8.size
          have rDu8 := Below.trans (show Below D.heap.size D _ by ((repeat (first | with_reducible assumption | with_reducible exact Below.refl _ _ | refine Below.setCell ?_ (by (first | omega | (simp; omega) | (simp; done) | fail "sml")) _ | refine Below.drew ?_ | refine Below.alloc ?_ (by (first | omega | (simp; omega) | (simp; done) | fail "sml")) _)); first | done | fail "chs")) (hb.mono (by (first | omega | (simp; omega) | (simp; done) | fail "sml")))
          have zDu8 := rDu8.size
          have rAu8 := Below.trans (show Below A.heap.size A _ by ((repeat (first | with_reducible assumption | with_reducible exact Below.refl _ _ | refine Below.setCell ?_ (by (first | omega | (simp; omega) | (simp; done) | fail "sml")) _ | refine Below.drew ?_ | refine Below.alloc ?_ (by (first | omega | (simp; omega) | (simp; done) | fail "sml")) _)); first | done | fail "chs")) (hb.mono (by (first | omega | (simp; omega) | (simp; done) | fail "sml")))
          have zAu8 := rAu8.size
          have rOu8 := Below.trans (show Below O.heap.size O _ by ((repeat (first | with_reducible assumption | with_reducible exact Below.refl _ _ | refine Below.setCell ?_ (by (first | omega | (simp; omega) | (simp; done) | fail "sml")) _ | refine Below.drew ?_ | refine Below.alloc ?_ (by (first | omega | (simp; omega) | (simp; done) | fail "sml")) _)); first | done | fail "chs")) (hb.mono (by (first | omega | (simp; omega) | (simp; done) | fail "sml")))
          have zOu8 := rOu8.size
          clear hb yW0 yW1 yW2 yD0 yD1 yD2 yA0 yA1 yA2 yO0 yO1 yO2
          obtain ⟨yW0, yW1, yW2⟩ := HKW.out _ rWu8
          obtain ⟨yD0, yD1, yD2⟩ := HKD.out _ rDu8
          obtain ⟨yA0, yA1, yA2⟩ := HKA.out _ rAu8
          obtain ⟨yO0, yO1, yO2⟩ := HKO.out _ rOu8
          go_wp2_with fail
          refine Calls.mono (((lholds_two (s := s) EN hlb).2.trans (by rw [EB, EC0])) ▸ labelHolds_any (twoE 5 x0 x1) _ s O.heap.size _ (HAO.out.below (show Below O.heap.size O _ by ((repeat (first | with_reducible assumption | with_reducible exact Below.refl _ _ | refine Below.setCell ?_ (by (first | omega | (simp; omega) | (simp; done) | fail "sml")) _ | refine Below.drew ?_ | refine Below.alloc ?_ (by (first | omega | (simp; omega) | (simp; done) | fail "sml")) _)); first | done | fail "chs")) (Nat.le_refl _)) (show Below O.heap.size O _ by ((repeat (first | with_reducible assumption | with_reducible exact Below.refl _ _ | refine Below.setCell ?_ (by (first | omega | (simp; omega) | (simp; done) | fail "sml")) _ | refine Below.drew ?_ | refine Below.alloc ?_ (by (first | omega | (simp; omega) | (simp; done) | fail "sml")) _)); first | done | fail "chs")).size (twoE_sml hsm0 hsm1).1 (twoE_sml hsm0 hsm1).2 (by omega) (HVV.out.below (show Below w.heap.size w _ by ((repeat (first | with_reducible assumption | with_reducible exact Below.refl _ _ | refine Below.setCell ?_ (by (first | omega | (simp; omega) | (simp; done) | fail "sml")) _ | refine Below.drew ?_ | refine Below.alloc ?_ (by (first | omega | (simp; omega) | (simp; done) | fail "sml")) _)); first | done | fail "chs")))) ?_
          rintro en u9 ⟨rfl, hb⟩
          have rwu9 := Below.trans (show Below w.heap.size w _ by ((repeat (first | with_reducible assumption | with_reducible exact Below.refl _ _ | refine Below.setCell ?_ (by (first | omega | (simp; omega) | (simp; done) | fail "sml")) _ | refine Below.drew ?_ | refine Below.alloc ?_ (by (first | omega | (simp; omega) | (simp; done) | fail "sml")) _)); first | done | fail "chs")) (hb.mono (by (first | omega | (simp; omega) | (simp; done) | fail "sml")))
          have zwu9 := rwu9.size
          have rWu9 := Below.trans (show Below W.heap.size W _ by ((repeat (first | with_reducible assumption | with_reducible exact Below.refl _ _ | refine Below.setCell ?_ (by (first | omega | (simp; omega) | (simp; done) | fail "sml")) _ | refine Below.drew ?_ | refine Below.alloc ?_ (by (first | omega | (simp; omega) | (simp; done) | fail "sml")) _)); first | done | fail "chs")) (hb.mono (by (first | omega | (simp; omega) | (simp; done) | fail "sml")))
          have zWu9 := rWu9.size
          have rDu9 := Below.trans (show Below D.heap.size D _ by ((repeat (first | with_reducible assumption | with_reducible exact Below.refl _ _ | refine Below.setCell ?_ (by (first | omega | (simp; omega) | (simp; done) | fail "sml")) _ | refine Below.drew ?_ | refine Below.alloc ?_ (by (first | omega | (simp; omega) | (simp; done) | fail "sml")) _)); first | done | fail "chs")) (hb.mono (by (first | omega | (simp; omega) | (simp; done) | fail "sml")))
          have zDu9 := rDu9.size
          have rAu9 := Below.trans (show Below A.heap.size A _ by ((repeat (first | with_reducible assumption | with_reducible exact Below.refl _ _ | refine Below.setCell ?_ (by (first | omega | (simp; omega) | (simp; done) | fail "sml")) _ | refine Below.drew ?_ | refine Below.alloc ?_ (by (first | omega | (simp; omega) | (simp; done) | fail "sml")) _)); first | done | fail "chs")) (hb.mono (by (first | omega | (simp; omega) | (simp; done) | fail "sml")))
          have zAu9 := rAu9.size
          have rOu9 := Below.trans (show Below O.heap.size O _ by ((repeat (first | with_reducible assumption | with_reducible exact Below.refl _ _ | refine Below.setCell ?_ (by (first | omega | (simp; omega) | (simp; done) | fail "sml")) _ | refine Below.drew ?_ | refine Below.alloc ?_ (by (first | omega | (simp; omega) | (simp; done) | fail "sml")) _)); first | done | fail "chs")) (hb.mono (by (first | omega | (simp; omega) | (simp; done) | fail "sml")))
          have zOu9 := rOu9.size
          clear hb yW0 yW1 yW2 yD0 yD1 yD2 yA0 yA1 yA2 yO0 yO1 yO2
          obtain ⟨yW0, yW1, yW2⟩ := HKW.out _ rWu9
          obtain ⟨yD0, yD1, yD2⟩ := HKD.out _ rDu9
          obtain ⟨yA0, yA1, yA2⟩ := HKA.out _ rAu9
          obtain ⟨yO0, yO1, yO2⟩ := HKO.out _ rOu9
          go_wp2_with fail
          go_ret
          exact ⟨rfl, by ((repeat (first | with_reducible assumption | with_reducible exact Below.refl _ _ | refine Below.setCell ?_ (by (first | omega | (simp; omega) | (simp; done) | fail "sml")) _ | refine Below.drew ?_ | refine Below.alloc ?_ (by (first | omega | (simp; omega) | (simp; done) | fail "sml")) _)); first | done | fail "chs")⟩
        | true =>
          go_wp2_with fail
          refine Calls.mono (EN ▸ exprValid_any (twoE 4 x0 x1) _ 1 A.heap.size _ (HAA.out.below (show Below A.heap.size A _ by ((repeat (first | with_reducible assumption | with_reducible exact Below.refl _ _ | refine Below.setCell ?_ (by (first | omega | (simp; omega) | (simp; done) | fail "sml")) _ | refine Below.drew ?_ | refine Below.alloc ?_ (by (first | omega | (simp; omega) | (simp; done) | fail "sml")) _)); first | done | fail "chs")) (Nat.le_refl _)) (show Below A.heap.size A _ by ((repeat (first | with_reducible assumption | with_reducible exact Below.refl _ _ | refine Below.setCell ?_ (by (first | omega | (simp; omega) | (simp; done) | fail "sml")) _ | refine Below.drew ?_ | refine Below.alloc ?_ (by (first | omega | (simp; omega) | (simp; done) | fail "sml")) _)); first | done | fail "chs")).size (twoE_sml hsm0 hsm1).1 (twoE_sml hsm0 hsm1).2 (HVV.out.below (show Below w.heap.size w _ by ((repeat (first | with_reducible assumption | with_reducible exact Below.refl _ _ | refine Below.setCell ?_ (by (first | omega | (simp; omega) | (simp; done) | fail "sml")) _ | refine Below.drew ?_ | refine Below.alloc ?_ (by (first | omega | (simp; omega) | (simp; done) | fail "sml")) _)); first | done | fail "chs")))) ?_
          rintro en u7 ⟨rfl, hb⟩
          have rwu7 := Below.trans (show Below w.heap.size w _ by ((repeat (first | with_reducible assumption | with_reducible exact Below.refl _ _ | refine Below.setCell ?_ (by (first | omega | (simp; omega) | (simp; done) | fail "sml")) _ | refine Below.drew ?_ | refine Below.alloc ?_ (by (first | omega | (simp; omega) | (simp; done) | fail "sml")) _)); first | done | fail "chs")) (hb.mono (by (first | omega | (simp; omega) | (simp; done) | fail "sml")))
          have zwu7 := rwu7.size
          have rWu7 := Below.trans (show Below W.heap.size W _ by ((repeat (first | with_reducible assumption | with_reducible exact Below.refl _ _ | refine Below.setCell ?_ (by (first | omega | (simp; omega) | (simp; done) | fail "sml")) _ | refine Below.drew ?_ | refine Below.alloc ?_ (by (first | omega | (simp; omega) | (simp; done) | fail "sml")) _)); first | done | fail "chs")) (hb.mono (by (first | omega | (simp; omega) | (simp; done) | fail "sml")))
          have zWu7 := rWu7.size
          have rDu7 := Below.trans (show Below D.heap.size D _ by ((repeat (first | with_reducible assumption | with_reducible exact Below.refl _ _ | refine Below.setCell ?_ (by (first | omega | (simp; omega) | (simp; done) | fail "sml")) _ | refine Below.drew ?_ | refine Below.alloc ?_ (by (first | omega | (simp; omega) | (simp; done) | fail "sml")) _)); first | done | fail "chs")) (hb.mono (by (first | omega | (simp; omega) | (simp; done) | fail "sml")))
          have zDu7 := rDu7.size
          have rAu7 := Below.trans (show Below A.heap.size A _ by ((repeat (first | with_reducible assumption | with_reducible exact Below.refl _ _ | refine Below.setCell ?_ (by (first | omega | (simp; omega) | (simp; done) | fail "sml")) _ | refine Below.drew ?_ | refine Below.alloc ?_ (by (first | omega | (simp; omega) | (simp; done) | fail "sml")) _)); first | done | fail "chs")) (hb.mono (by (first | omega | (simp; omega) | (simp; done) | fail "sml")))
          have zAu7 := rAu7.size
          have rOu7 := Below.trans (show Below O.heap.size O _ by ((repeat (first | with_reducible assumption | with_reducible exact Below.refl _ _ | refine Below.setCell ?_ (by (first | omega | (simp; omega) | (simp; done) | fail "sml")) _ | refine Below.drew ?_ | refine Below.alloc ?_ (by (first | omega | (simp; omega) | (simp; done) | fail "sml")) _)); first | done | fail "chs")) (hb.mono (by (first | omega | (simp; omega) | (simp; done) | fail "sml")))
          have zOu7 := rOu7.size
          clear hb yW0 yW1 yW2 yD0 yD1 yD2 yA0 yA1 yA2 yO0 yO1 yO2
          obtain ⟨yW0, yW1, yW2⟩ := HKW.out _ rWu7
          obtain ⟨yD0, yD1, yD2⟩ := HKD.out _ rDu7
          obtain ⟨yA0, yA1, yA2⟩ := HKA.out _ rAu7
          obtain ⟨yO0, yO1, yO2⟩ := HKO.out _ rOu7
          go_wp2_with fail
          refine Calls.mono (((lholds_two (s := s) EN hlb).1.trans (by rw [EB, EC0])) ▸ labelHolds_any (twoE 4 x0 x1) _ s A.heap.size _ (HAA.out.below (show Below A.heap.size A _ by ((repeat (first | with_reducible assumption | with_reducible exact Below.refl _ _ | refine Below.setCell ?_ (by (first | omega | (simp; omega) | (simp; done) | fail "sml")) _ | refine Below.drew ?_ | refine Below.alloc ?_ (by (first | omega | (simp; omega) | (simp; done) | fail "sml")) _)); first | done | fail "chs")) (Nat.le_refl _)) (show Below A.heap.size A _ by ((repeat (first | with_reducible assumption | with_reducible exact Below.refl _ _ | refine Below.setCell ?_ (by (first | omega | (simp; omega) | (simp; done) | fail "sml")) _ | refine Below.drew ?_ | refine Below.alloc ?_ (by (first | omega | (simp; omega) | (simp; done) | fail "sml")) _)); first | done | fail "chs")).size (twoE_sml hsm0 hsm1).1 (twoE_sml hsm0 hsm1).2 (by omega) (HVV.out.below (show Below w.heap.size w _ by ((repeat (first | with_reducible assumption | with_reducible exact Below.refl _ _ | refine Below.setCell ?_ (by (first | omega | (simp; omega) | (simp; done) | fail "sml")) _ | refine Below.drew ?_ | refine Below.alloc ?_ (by (first | omega | (simp; omega) | (simp; done) | fail "sml")) _)); first | done | fail "chs")))) ?_
          rintro en u8 ⟨rfl, hb⟩
          have rwu8 := Below.trans (show Below w.heap.size w _ by ((repeat (first | with_reducible assumption | with_reducible exact Below.refl _ _ | refine Below.setCell ?_ (by (first | omega | (simp; omega) | (simp; done) | fail "sml")) _ | refine Below.drew ?_ | refine Below.alloc ?_ (by (first | omega | (simp; omega) | (simp; done) | fail "sml")) _)); first | done | fail "chs")) (hb.mono (by (first | omega | (simp; omega) | (simp; done) | fail "sml")))
          have zwu8 := rwu8.size
          have rWu8 := Below.trans (show Below W.heap.size W _ by ((repeat (first | with_reducible assumption | with_reducible exact Below.refl _ _ | refine Below.setCell ?_ (by (first | omega | (simp; omega) | (simp; done) | fail "sml")) _ | refine Below.drew ?_ | refine Below.alloc ?_ (by (first | omega | (simp; omega) | (simp; done) | fail "sml")) _)); first | done | fail "chs")) (hb.mono (by (first | omega | (simp; omega) | (simp; done) | fail "sml")))
          have zWu8 := rWu8.size
          have rDu8 := Below.trans (show Below D.heap.size D _ by ((repeat (first | with_reducible assumption | with_reducible exact Below.refl _ _ | refine Below.setCell ?_ (by (first | omega | (simp; omega) | (simp; done) | fail "sml")) _ | refine Below.drew ?_ | refine Below.alloc ?_ (by (first | omega | (simp; omega) | (simp; done) | fail "sml")) _)); first | done | fail "chs")) (hb.mono (by (first | omega | (simp; omega) | (simp; done) | fail "sml")))
          have zDu8 := rDu8.size
          have rAu8 := Below.trans (show Below A.heap.size A _ by ((repeat (first | with_reducible assumption | with_reducible exact Below.refl _ _ | refine Below.setCell ?_ (by (first | omega | (simp; omega) | (simp; done) | fail "sml")) _ | refine Below.drew ?_ | refine Below.alloc ?_ (by (first | omega | (simp; omega) | (simp; done) | fail "sml")) _)); first | done | fail "chs")) (hb.mono (by (first | omega | (simp; omega) | (simp; done) | fail "sml")))
          have zAu8 := rAu8.size
          have rOu8 := Below.trans (show Below O.heap.size O _ by ((repeat (first | with_reducible assumption | with_reducible exact Below.refl _ _ | refine Below.setCell ?_ (by (first | omega | (simp; omega) | (simp; done) | fail "sml")) _ | refine Below.drew ?_ | refine Below.alloc ?_ (by (first | omega | (simp; omega) | (simp; done) | fail "sml")) _)); first | done | fail "chs")) (hb.mono (by (first | omega | (simp; omega) | (simp; done) | fail "sml")))
          have zOu8 := rOu8.size
          clear hb yW0 yW1 yW2 yD0 yD1 yD2 yA0 yA1 yA2 yO0 yO1 yO2
          obtain ⟨yW0, yW1, yW2⟩ := HKW.out _ rWu8
          obtain ⟨yD0, yD1, yD2⟩ := HKD.out _ rDu8
          obtain ⟨yA0, yA1, yA2⟩ := HKA.out _ rAu8
          obtain ⟨yO0, yO1, yO2⟩ := HKO.out _ rOu8
          go_wp2_with fail
          refine Calls.mono (((lholds_two (s := s) EN hlb).2.trans (by rw [EB, EC0])) ▸ labelHolds_any (twoE 5 x0 x1) _ s O.heap.size _ (HAO.out.below (show Below O.heap.size O _ by ((repeat (first | with_reducible assumption | with_reducible exact Below.refl _ _ | refine Below.setCell ?_ (by (first | omega | (simp; omega) | (simp; done) | fail "sml")) _ | refine Below.drew ?_ | refine Below.alloc ?_ (by (first | omega | (simp; omega) | (simp; done) | fail "sml")) _)); first | done | fail "chs")) (Nat.le_refl _)) (show Below O.heap.size O _ by ((repeat (first | with_reducible assumption | with_reducible exact Below.refl _ _ | refine Below.setCell ?_ (by (first | omega | (simp; omega) | (simp; done) | fail "sml")) _ | refine Below.drew ?_ | refine Below.alloc ?_ (by (first | omega | (simp; omega) | (simp; done) | fail "sml")) _)); first | done | fail "chs")).size (twoE_sml hsm0 hsm1).1 (twoE_sml hsm0 hsm1).2 (by omega) (HVV.out.below (show Below w.heap.size w _ by ((repeat (first | with_reducible assumption | with_reducible exact Below.refl _ _ | refine Below.setCell ?_ (by (first | omega | (simp; omega) | (simp; done) | fail "sml")) _ | refine Below.drew ?_ | refine Below.alloc ?_ (by (first | omega | (simp; omega) | (simp; done) | fail "sml")) _)); first | done | fail "chs")))) ?_
          rintro en u9 ⟨rfl, hb⟩
          have rwu9 := Below.trans (show Below w.heap.size w _ by ((repeat (first | with_reducible assumption | with_reducible exact Below.refl _ _ | refine Below.setCell ?_ (by (first | omega | (simp; omega) | (simp; done) | fail "sml")) _ | refine Below.drew ?_ | refine Below.alloc ?_ (by (first | omega | (simp; omega) | (simp; done) | fail "sml")) _)); first | done | fail "chs")) (hb.mono (by (first | omega | (simp; omega) | (simp; done) | fail "sml")))
          have zwu9 := rwu9.size
          have rWu9 := Below.trans (show Below W.heap.size W _ by ((repeat (first | with_reducible assumption | with_reducible exact Below.refl _ _ | refine Below.setCell ?_ (by (first | omega | (simp; omega) | (simp; done) | fail "sml")) _ | refine Below.drew ?_ | refine Below.alloc ?_ (by (first | omega | (simp; omega) | (simp; done) | fail "sml")) _)); first | done | fail "chs")) (hb.mono (by (first | omega | (simp; omega) | (simp; done) | fail "sml")))
          have zWu9 := rWu9.size
          have rDu9 := Below.trans (show Below D.heap.size D _ by ((repeat (first | with_reducible assumption | with_reducible exact Below.refl _ _ | refine Below.setCell ?_ (by (first | omega | (simp; omega) | (simp; done) | fail "sml")) _ | refine Below.drew ?_ | refine Below.alloc ?_ (by (first | omega | (simp; omega) | (simp; done) | fail "sml")) _)); first | done | fail "chs")) (hb.mono (by (first | omega | (simp; omega) | (simp; done) | fail "sml")))
          have zDu9 := rDu9.size
          have rAu9 := Below.trans (show Below A.heap.size A _ by ((repeat (first | with_reducible assumption | with_reducible exact Below.refl _ _ | refine Below.setCell ?_ (by (first | omega | (simp; omega) | (simp; done) | fail "sml")) _ | refine Below.drew ?_ | refine Below.alloc ?_ (by (first | omega | (simp; omega) | (simp; done) | fail "sml")) _)); first | done | fail "chs")) (hb.mono (by (first | omega | (simp; omega) | (simp; done) | fail "sml")))
          have zAu9 := rAu9.size
          have rOu9 := Below.trans (show Below O.heap.size O _ by ((repeat (first | with_reducible assumption | with_reducible exact Below.refl _ _ | refine Below.setCell ?_ (by (first | omega | (simp; omega) | (simp; done) | fail "sml")) _ | refine Below.drew ?_ | refine Below.alloc ?_ (by (first | omega | (simp; omega) | (simp; done) | fail "sml")) _)); first | done | fail "chs")) (hb.mono (by (first | omega | (simp; omega) | (simp; done) | fail "sml")))
          have zOu9 := rOu9.size
          clear hb yW0 yW1 yW2 yD0 yD1 yD2 yA0 yA1 yA2 yO0 yO1 yO2
          obtain ⟨yW0, yW1, yW2⟩ := HKW.out _ rWu9
          obtain ⟨yD0, yD1, yD2⟩ := HKD.out _ rDu9
          obtain ⟨yA0, yA1, yA2⟩ := HKA.out _ rAu9
          obtain ⟨yO0, yO1, yO2⟩ := HKO.out _ rOu9
          go_wp2_with fail
          go_ret
          exact ⟨rfl, by ((repeat (first | with_reducible assumption | with_reducible exact Below.refl _ _ | refine Below.setCell ?_ (by (first | omega | (simp; omega) | (simp; done) | fail "sml")) _ | refine Below.drew ?_ | refine Below.alloc ?_ (by (first | omega | (simp; omega) | (simp; done) | fail "sml")) _)); first | done | fail "chs")⟩
      | true =>
        cases c with
        | false =>
          go_wp2_with fail
          refine Calls.mono (EN ▸ exprValid_any (twoE 4 x0 x1) _ 1 A.heap.size _ (HAA.out.below (show Below A.heap.size A _ by ((repeat (first | with_reducible assumption | with_reducible exact Below.refl _ _ | refine Below.setCell ?_ (by (first | omega | (simp; omega) | (simp; done) | fail "sml")) _ | refine Below.drew ?_ | refine Below.alloc ?_ (by (first | omega | (simp; omega) | (simp; done) | fail "sml")) _)); first | done | fail "chs")) (Nat.le_refl _)) (show Below A.heap.size A _ by ((repeat (first | with_reducible assumption | with_reducible exact Below.refl _ _ | refine Below.setCell ?_ (by (first | omega | (simp; omega) | (simp; done) | fail "sml")) _ | refine Below.drew ?_ | refine Below.alloc ?_ (by (first | omega | (simp; omega) | (simp; done) | fail "sml")) _)); first | done | fail "chs")).size (twoE_sml hsm0 hsm1).1 (twoE_sml hsm0 hsm1).2 (HVV.out.below (show Below w.heap.size w _ by ((repeat (first | with_reducible assumption | with_reducible exact Below.refl _ _ | refine Below.setCell ?_ (by (first | omega | (simp; omega) | (simp; done) | fail "sml")) _ | refine Below.drew ?_ | refine Below.alloc ?_ (by (first | omega | (simp; omega) | (simp; done) | fail "sml")) _)); first | done | fail "chs")))) ?_
          rintro en u7 ⟨rfl, hb⟩
          have rwu7 := Below.trans (show Below w.heap.size w _ by ((repeat (first | with_reducible assumption | with_reducible exact Below.refl _ _ | refine Below.setCell ?_ (by (first | omega | (simp; omega) | (simp; done) | fail "sml")) _ | refine Below.drew ?_ | refine Below.alloc ?_ (by (first | omega | (simp; omega) | (simp; done) | fail "sml")) _)); first | done | fail "chs")) (hb.mono (by (first | omega | (simp; omega) | (simp; done) | fail "sml")))
          have zwu7 := rwu7.size
          have rWu7 := Below.trans (show Below W.heap.size W _ by ((repeat (first | with_reducible assumption | with_reducible exact Below.refl _ _ | refine Below.setCell ?_ (by (first | omega | (simp; omega) | (simp; done) | fail "sml")) _ | refine Below.drew ?_ | refine Below.alloc ?_ (by (first | omega | (simp; omega) | (simp; done) | fail "sml")) _)); first | done | fail "chs")) (hb.mono (by (first | omega | (simp; omega) | (simp; done) | fail "sml")))
          have zWu7 := rWu7.size
          have rDu7 := Below.trans (show Below D.heap.size D _ by ((repeat (first | with_reducible assumption | with_reducible exact Below.refl _ _ | refine Below.setCell ?_ (by (first | omega | (simp; omega) | (simp; done) | fail "sml")) _ | refine Below.drew ?_ | refine Below.alloc ?_ (by (first | omega | (simp; omega) | (simp; done) | fail "sml")) _)); first | done | fail "chs")) (hb.mono (by (first | omega | (simp; omega) | (simp; done) | fail "sml")))
          have zDu7 := rDu7.size
          have rAu7 := Below.trans (show Below A.heap.size A _ by ((repeat (first | with_reducible assumption | with_reducible exact Below.refl _ _ | refine Below.setCell ?_ (by (first | omega | (simp; omega) | (simp; done) | fail "sml")) _ | refine Below.drew ?_ | refine Below.alloc ?_ (by (first | omega | (simp; omega) | (simp; done) | fail "sml")) _)); first | done | fail "chs")) (hb.mono (by (first | omega | (simp; omega) | (simp; done) | fail "sml")))
          have zAu7 := rAu7.size
          have rOu7 := Below.trans (show Below O.heap.size O _ by ((repeat (first | with_reducible assumption | with_reducible exact Below.refl _ _ | refine Below.setCell ?_ (by (first | omega | (simp; omega) | (simp; done) | fail "sml")) _ | refine Below.drew ?_ | refine Below.alloc ?_ (by (first | omega | (simp; omega) | (simp; done) | fail "sml")) _)); first | done | fail "chs")) (hb.mono (by (first | omega | (simp; omega) | (simp; done) | fail "sml")))
          have zOu7 := rOu7.size
          clear hb yW0 yW1 yW2 yD0 yD1 yD2 yA0 yA1 yA2 yO0 yO1 yO2
          obtain ⟨yW0, yW1, yW2⟩ := HKW.out _ rWu7
          obtain ⟨yD0, yD1, yD2⟩ := HKD.out _ rDu7
          obtain ⟨yA0, yA1, yA2⟩ := HKA.out _ rAu7
          obtain ⟨yO0, yO1, yO2⟩ := HKO.out _ rOu7
          go_wp2_with fail
          refine Calls.mono (((lholds_two (s := s) EN hlb).1.trans (by rw [EB, EC0])) ▸ labelHolds_any (twoE 4 x0 x1) _ s A.heap.size _ (HAA.out.below (show Below A.heap.size A _ by ((repeat (first | with_reducible assumption | with_reducible exact Below.refl _ _ | refine Below.setCell ?_ (by (first | omega | (simp; omega) | (simp; done) | fail "sml")) _ | refine Below.drew ?_ | refine Below.alloc ?_ (by (first | omega | (simp; omega) | (simp; done) | fail "sml")) _)); first | done | fail "chs")) (Nat.le_refl _)) (show Below A.heap.size A _ by ((repeat (first | with_reducible assumption | with_reducible exact Below.refl _ _ | refine Below.setCell ?_ (by (first | omega | (simp; omega) | (simp; done) | fail "sml")) _ | refine Below.drew ?_ | refine Below.alloc ?_ (by (first | omega | (simp; omega) | (simp; done) | fail "sml")) _)); first | done | fail "chs")).size (twoE_sml hsm0 hsm1).1 (twoE_sml hsm0 hsm1).2 (by omega) (HVV.out.below (show Below w.heap.size w _ by ((repeat (first | with_reducible assumption | with_reducible exact Below.refl _ _ | refine Below.setCell ?_ (by (first | omega | (simp; omega) | (simp; done) | fail "sml")) _ | refine Below.drew ?_ | refine Below.alloc ?_ (by (first | omega | (simp; omega) | (simp; done) | fail "sml")) _)); first | done | fail "chs")))) ?_
          rintro en u8 ⟨rfl, hb⟩
          have rwu8 := Below.trans (show Below w.heap.size w _ by ((repeat (first | with_reducible assumption | with_reducible exact Below.refl _ _ | refine Below.setCell ?_ (by (first | omega | (simp; omega) | (simp; done) | fail "sml")) _ | refine Below.drew ?_ | refine Below.alloc ?_ (by (first | omega | (simp; omega) | (simp; done) | fail "sml")) _)); first | done | fail "chs")) (hb.mono (by (first | omega | (simp; omega) | (simp; done) | fail "sml")))
          have zwu8 := rwu8.size
          have rWu8 := Below.trans (show Below W.heap.size W _ by ((repeat (first | with_reducible assumption | with_reducible exact Below.refl _ _ | refine Below.setCell ?_ (by (first | omega | (simp; omega) | (simp; done) | fail "sml")) _ | refine Below.drew ?_ | refine Below.alloc ?_ (by (first | omega | (simp; omega) | (simp; done) | fail "sml")) _)); first | done | fail "chs")) (hb.mono (by (first | omega | (simp; omega) | (simp; done) | fail "sml")))
          have zWu8 := rWu8.size
          have rDu8 := Below.trans (show Below D.heap.size D _ by ((repeat (first | with_reducible assumption | with_reducible exact Below.refl _ _ | refine Below.setCell ?_ (by (first | omega | (simp; omega) | (simp; done) | fail "sml")) _ | refine Below.drew ?_ | refine Below.alloc ?_ (by (first | omega | (simp; omega) | (simp; done) | fail "sml")) _)); first | done | fail "chs")) (hb.mono (by (first | omega | (simp; omega) | (simp; done) | fail "sml")))
          have zDu8 := rDu8.size
          have rAu8 := Below.trans (show Below A.heap.size A _ by ((repeat (first | with_reducible assumption | with_reducible exact Below.refl _ _ | refine Below.setCell ?_ (by (first | omega | (simp; omega) | (simp; done) | fail "sml")) _ | refine Below.drew ?_ | refine Below.alloc ?_ (by (first | omega | (simp; omega) | (simp; done) | fail "sml")) _)); first | done | fail "chs")) (hb.mono (by (first | omega | (simp; omega) | (simp; done) | fail "sml")))
          have zAu8 := rAu8.size
          have rOu8 := Below.trans (show Below O.heap.size O _ by ((repeat (first | with_reducible assumption | with_reducible exact Below.refl _ _ | refine Below.setCell ?_ (by (first | omega | (simp; omega) | (simp; done) | fail "sml")) _ | refine Below.drew ?_ | refine Below.alloc ?_ (by (first | omega | (simp; omega) | (simp; done) | fail "sml")) _)); first | done | fail "chs")) (hb.mono (by (first | omega | (simp; omega) | (simp; done) | fail "sml")))
          have zOu8 := rOu8.size
          clear hb yW0 yW1 yW2 yD0 yD1 yD2 yA0 yA1 yA2 yO0 yO1 yO2
          obtain ⟨yW0, yW1, yW2⟩ := HKW.out _ rWu8
          obtain ⟨yD0, yD1, yD2⟩ := HKD.out _ rDu8
          obtain ⟨yA0, yA1, yA2⟩ := HKA.out _ rAu8
          obtain ⟨yO0, yO1, yO2⟩ := HKO.out _ rOu8
          go_wp2_with fail
          refine Calls.mono (((lholds_two (s := s) EN hlb).2.trans (by rw [EB, EC0])) ▸ labelHolds_any (twoE 5 x0 x1) _ s O.heap.size _ (HAO.out.below (show Below O.heap.size O _ by ((repeat (first | with_reducible assumption | with_reducible exact Below.refl _ _ | refine Below.setCell ?_ (by (first | omega | (simp; omega) | (simp; done) | fail "sml")) _ | refine Below.drew ?_ | refine Below.alloc ?_ (by (first | omega | (simp; omega) | (simp; done) | fail "sml")) _)); first | done | fail "chs")) (Nat.le_refl _)) (show Below O.heap.size O _ by ((repeat (first | with_reducible assumption | with_reducible exact Below.refl _ _ | refine Below.setCell ?_ (by (first | omega | (simp; omega) | (simp; done) | fail "sml")) _ | refine Below.drew ?_ | refine Below.alloc ?_ (by (first | omega | (simp; omega) | (simp; done) | fail "sml")) _)); first | done | fail "chs")).size (twoE_sml hsm0 hsm1).1 (twoE_sml hsm0 hsm1).2 (by omega) (HVV.out.below (show Below w.heap.size w _ by ((repeat (first | with_reducible assumption | with_reducible exact Below.refl _ _ | refine Below.setCell ?_ (by (first | omega | (simp; omega) | (simp; done) | fail "sml")) _ | refine Below.drew ?_ | refine Below.alloc ?_ (by (first | omega | (simp; omega) | (simp; done) | fail "sml")) _)); first | done | fail "chs")))) ?_
          rintro en u9 ⟨rfl, hb⟩
          have rwu9 := Below.trans (show Below w.heap.size w _ by ((repeat (first | with_reducible assumption | with_reducible exact Below.refl _ _ | refine Below.setCell ?_ (by (first | omega | (simp; omega) | (simp; done) | fail "sml")) _ | refine Below.drew ?_ | refine Below.alloc ?_ (by (first | omega | (simp; omega) | (simp; done) | fail "sml")) _)); first | done | fail "chs")) (hb.mono (by (first | omega | (simp; omega) | (simp; done) | fail "sml")))
          have zwu9 := rwu9.size
          have rWu9 := Below.trans (show Below W.heap.size W _ by ((repeat (first | with_reducible assumption | with_reducible exact Below.refl _ _ | refine Below.setCell ?_ (by (first | omega | (simp; omega) | (simp; done) | fail "sml")) _ | refine Below.drew ?_ | refine Below.alloc ?_ (by (first | omega | (simp; omega) | (simp; done) | fail "sml")) _)); first | done | fail "chs")) (hb.mono (by (first | omega | (simp; omega) | (simp; done) | fail "sml")))
          have zWu9 := rWu9.size
          have rDu9 := Below.trans (show Below D.heap.size D _ by ((repeat (first | with_reducible assumption | with_reducible exact Below.refl _ _ | refine Below.setCell ?_ (by (first | omega | (simp; omega) | (simp; done) | fail "sml")) _ | refine Below.drew ?_ | refine Below.alloc ?_ (by (first | omega | (simp; omega) | (simp; done) | fail "sml")) _)); first | done | fail "chs")) (hb.mono (by (first | omega | (simp; omega) | (simp; done) | fail "sml")))
          have zDu9 := rDu9.size
          have rAu9 := Below.trans (show Below A.heap.size A _ by ((repeat (first | with_reducible assumption | with_reducible exact Below.refl _ _ | refine Below.setCell ?_ (by (first | omega | (simp; omega) | (simp; done) | fail "sml")) _ | refine Below.drew ?_ | refine Below.alloc ?_ (by (first | omega | (simp; omega) | (simp; done) | fail "sml")) _)); first | done | fail "chs")) (hb.mono (by (first | omega | (simp; omega) | (simp; done) | fail "sml")))
          have zAu9 := rAu9.size
          have rOu9 := Below.trans (show Below O.heap.size O _ by ((repeat (first | with_reducible assumption | with_reducible exact Below.refl _ _ | refine Below.setCell ?_ (by (first | omega | (simp; omega) | (simp; done) | fail "sml")) _ | refine Below.drew ?_ | refine Below.alloc ?_ (by (first | omega | (simp; omega) | (simp; done) | fail "sml")) _)); first | done | fail "chs")) (hb.mono (by (first | omega | (simp; omega) | (simp; done) | fail "sml")))
          have zOu9 := rOu9.size
          clear hb yW0 yW1 yW2 yD0 yD1 yD2 yA0 yA1 yA2 yO0 yO1 yO2
          obtain ⟨yW0, yW1, yW2⟩ := HKW.out _ rWu9
          obtain ⟨yD0, yD1, yD2⟩ := HKD.out _ rDu9
          obtain ⟨yA0, yA1, yA2⟩ := HKA.out _ rAu9
          obtain ⟨yO0, yO1, yO2⟩ := HKO.out _ rOu9
          go_wp2_with fail
          go_ret
          exact ⟨rfl, by ((repeat (first | with_reducible assumption | with_reducible exact Below.refl _ _ | refine Below.setCell ?_ (by (first | omega | (simp; omega) | (simp; done) | fail "sml")) _ | refine Below.drew ?_ | refine Below.alloc ?_ (by (first | omega | (simp; omega) | (simp; done) | fail "sml")) _)); first | done | fail "chs")⟩
        | true =>
          go_wp2_with fail
          refine Calls.mono (EN ▸ exprValid_any (twoE 4 x0 x1) _ 1 A.heap.size _ (HAA.out.below (show Below A.heap.size A _ by ((repeat (first | with_reducible assumption | with_reducible exact Below.refl _ _ | refine Below.setCell ?_ (by (first | omega | (simp; omega) | (simp; done) | fail "sml")) _ | refine Below.drew ?_ | refine Below.alloc ?_ (by (first | omega | (simp; omega) | (simp; done) | fail "sml")) _)); first | done | fail "chs")) (Nat.le_refl _)) (show Below A.heap.size A _ by ((repeat (first | with_reducible assumption | with_reducible exact Below.refl _ _ | refine Below.setCell ?_ (by (first | omega | (simp; omega) | (simp; done) | fail "sml")) _ | refine Below.drew ?_ | refine Below.alloc ?_ (by (first | omega | (simp; omega) | (simp; done) | fail "sml")) _)); first | done | fail "chs")).size (twoE_sml hsm0 hsm1).1 (twoE_sml hsm0 hsm1).2 (HVV.out.below (show Below w.heap.size w _ by ((repeat (first | with_reducible assumption | with_reducible exact Below.refl _ _ | refine Below.setCell ?_ (by (first | omega | (simp; omega) | (simp; done) | fail "sml")) _ | refine Below.drew ?_ | refine Below.alloc ?_ (by (first | omega | (simp; omega) | (simp; done) | fail "sml")) _)); first | done | fail "chs")))) ?_
          rintro en u7 ⟨rfl, hb⟩
          have rwu7 := Below.trans (show Below w.heap.size w _ by ((repeat (first | with_reducible assumption | with_reducible exact Below.refl _ _ | refine Below.setCell ?_ (by (first | omega | (simp; omega) | (simp; done) | fail "sml")) _ | refine Below.drew ?_ | refine Below.alloc ?_ (by (first | omega | (simp; omega) | (simp; done) | fail "sml")) _)); first | done | fail "chs")) (hb.mono (by (first | omega | (simp; omega) | (simp; done) | fail "sml")))
          have zwu7 := rwu7.size
          have rWu7 := Below.trans (show Below W.heap.size W _ by ((repeat (first | with_reducible assumption | with_reducible exact Below.refl _ _ | refine Below.setCell ?_ (by (first | omega | (simp; omega) | (simp; done) | fail "sml")) _ | refine Below.drew ?_ | refine Below.alloc ?_ (by (first | omega | (simp; omega) | (simp; done) | fail "sml")) _)); first | done | fail "chs")) (hb.mono (by (first | omega | (simp; omega) | (simp; done) | fail "sml")))
          have zWu7 := rWu7.size
          have rDu7 := Below.trans (show Below D.heap.size D _ by ((repeat (first | with_reducible assumption | with_reducible exact Below.refl _ _ | refine Below.setCell ?_ (by (first | omega | (simp; omega) | (simp; done) | fail "sml")) _ | refine Below.drew ?_ | refine Below.alloc ?_ (by (first | omega | (simp; omega) | (simp; done) | fail "sml")) _)); first | done | fail "chs")) (hb.mono (by (first | omega | (simp; omega) | (simp; done) | fail "sml")))
          have zDu7 := rDu7.size
          have rAu7 := Below.trans (show Below A.heap.size A _ by ((repeat (first | with_reducible assumption | with_reducible exact Below.refl _ _ | refine Below.setCell ?_ (by (first | omega | (simp; omega) | (simp; done) | fail "sml")) _ | refine Below.drew ?_ | refine Below.alloc ?_ (by (first | omega | (simp; omega) | (simp; done) | fail "sml")) _)); first | done | fail "chs")) (hb.mono (by (first | omega | (simp; omega) | (simp; done) | fail "sml")))
          have zAu7 := rAu7.size
          have rOu7 := Below.trans (show Below O.heap.size O _ by ((repeat (first | with_reducible assumption | with_reducible exact Below.refl _ _ | refine Below.setCell ?_ (by (first | omega | (simp; omega) | (simp; done) | fail "sml")) _ | refine Below.drew ?_ | refine Below.alloc ?_ (by (first | omega | (simp; omega) | (simp; done) | fail "sml")) _)); first | done | fail "chs")) (hb.mono (by (first | omega | (simp; omega) | (simp; done) | fail "sml")))
          have zOu7 := rOu7.size
          clear hb yW0 yW1 yW2 yD0 yD1 yD2 yA0 yA1 yA2 yO0 yO1 yO2
          obtain ⟨yW0, yW1, yW2⟩ := HKW.out _ rWu7
          obtain ⟨yD0, yD1, yD2⟩ := HKD.out _ rDu7
          obtain ⟨yA0, yA1, yA2⟩ := HKA.out _ rAu7
          obtain ⟨yO0, yO1, yO2⟩ := HKO.out _ rOu7
          go_wp2_with fail
          refine Calls.mono (((lholds_two (s := s) EN hlb).1.trans (by rw [EB, EC0])) ▸ labelHolds_any (twoE 4 x0 x1) _ s A.heap.size _ (HAA.out.below (show Below A.heap.size A _ by ((repeat (first | with_reducible assumption | with_reducible exact Below.refl _ _ | refine Below.setCell ?_ (by (first | omega | (simp; omega) | (simp; done) | fail "sml")) _ | refine Below.drew ?_ | refine Below.alloc ?_ (by (first | omega | (simp; omega) | (simp; done) | fail "sml")) _)); first | done | fail "chs")) (Nat.le_refl _)) (show Below A.heap.size A _ by ((repeat (first | with_reducible assumption | with_reducible exact Below.refl _ _ | refine Below.setCell ?_ (by (first | omega | (simp; omega) | (simp; done) | fail "sml")) _ | refine Below.drew ?_ | refine Below.alloc ?_ (by (first | omega | (simp; omega) | (simp; done) | fail "sml")) _)); first | done | fail "chs")).size (twoE_sml hsm0 hsm1).1 (twoE_sml hsm0 hsm1).2 (by omega) (HVV.out.below (show Below w.heap.size w _ by ((repeat (first | with_reducible assumption | with_reducible exact Below.refl _ _ | refine Below.setCell ?_ (by (first | omega | (simp; omega) | (simp; done) | fail "sml")) _ | refine Below.drew ?_ | refine Below.alloc ?_ (by (first | omega | (simp; omega) | (simp; done) | fail "sml")) _)); first | done | fail "chs")))) ?_
          rintro en u8 ⟨rfl, hb⟩
          have rwu8 := Below.trans (show Below w.heap.size w _ by ((repeat (first | with_reducible assumption | with_reducible exact Below.refl _ _ | refine Below.setCell ?_ (by (first | omega | (simp; omega) | (simp; done) | fail "sml")) _ | refine Below.drew ?_ | refine Below.alloc ?_ (by (first | omega | (simp; omega) | (simp; done) | fail "sml")) _)); first | done | fail "chs")) (hb.mono (by (first | omega | (simp; omega) | (simp; done) | fail "sml")))
          have zwu8 := rwu8.size
          have rWu8 := Below.trans (show Below W.heap.size W _ by ((repeat (first | with_reducible assumption | with_reducible exact Below.refl _ _ | refine Below.setCell ?_ (by (first | omega | (simp; omega) | (simp; done) | fail "sml")) _ | refine Below.drew ?_ | refine Below.alloc ?_ (by (first | omega | (simp; omega) | (simp; done) | fail "sml")) _)); first | done | fail "chs")) (hb.mono (by (first | omega | (simp; omega) | (simp; done) | fail "sml")))
          have zWu8 := rWu8.size
          have rDu8 := Below.trans (show Below D.heap.size D _ by ((repeat (first | with_reducible assumption | with_reducible exact Below.refl _ _ | refine Below.setCell ?_ (by (first | omega | (simp; omega) | (simp; done) | fail "sml")) _ | refine Below.drew ?_ | refine Below.alloc ?_ (by (first | omega | (simp; omega) | (simp; done) | fail "sml")) _)); first | done | fail "chs")) (hb.mono (by (first | omega | (simp; omega) | (simp; done) | fail "sml")))
          have zDu8 := rDu8.size
          have rAu8 := Below.trans (show Below A.heap.size A _ by ((repeat (first | with_reducible assumption | with_reducible exact Below.refl _ _ | refine Below.setCell ?_ (by (first | omega | (simp; omega) | (simp; done) | fail "sml")) _ | refine Below.drew ?_ | refine Below.alloc ?_ (by (first | omega | (simp; omega) | (simp; done) | fail "sml")) _)); first | done | fail "chs")) (hb.mono (by (first | omega | (simp; omega) | (simp; done) | fail "sml")))
          have zAu8 := rAu8.size
          have rOu8 := Below.trans (show Below O.heap.size O _ by ((repeat (first | with_reducible assumption | with_reducible exact Below.refl _ _ | refine Below.setCell ?_ (by (first | omega | (simp; omega) | (simp; done) | fail "sml")) _ | refine Below.drew ?_ | refine Below.alloc ?_ (by (first | omega | (simp; omega) | (simp; done) | fail "sml")) _)); first | done | fail "chs")) (hb.mono (by (first | omega | (simp; omega) | (simp; done) | fail "sml")))
          have zOu8 := rOu8.size
          clear hb yW0 yW1 yW2 yD0 yD1 yD2 yA0 yA1 yA2 yO0 yO1 yO2
          obtain ⟨yW0, yW1, yW2⟩ := HKW.out _ rWu8
          obtain ⟨yD0, yD1, yD2⟩ := HKD.out _ rDu8
          obtain ⟨yA0, yA1, yA2⟩ := HKA.out _ rAu8
          obtain ⟨yO0, yO1, yO2⟩ := HKO.out _ rOu8
          go_wp2_with fail
          refine Calls.mono (((lholds_two (s := s) EN hlb).2.trans (by rw [EB, EC0])) ▸ labelHolds_any (twoE 5 x0 x1) _ s O.heap.size _ (HAO.out.below (show Below O.heap.size O _ by ((repeat (first | with_reducible assumption | with_reducible exact Below.refl _ _ | refine Below.setCell ?_ (by (first | omega | (simp; omega) | (simp; done) | fail "sml")) _ | refine Below.drew ?_ | refine Below.alloc ?_ (by (first | omega | (simp; omega) | (simp; done) | fail "sml")) _)); first | done | fail "chs")) (Nat.le_refl _)) (show Below O.heap.size O _ by ((repeat (first | with_reducible assumption | with_reducible exact Below.refl _ _ | refine Below.setCell ?_ (by (first | omega | (simp; omega) | (simp; done) | fail "sml")) _ | refine Below.drew ?_ | refine Below.alloc ?_ (by (first | omega | (simp; omega) | (simp; done) | fail "sml")) _)); first | done | fail "chs")).size (twoE_sml hsm0 hsm1).1 (twoE_sml hsm0 hsm1).2 (by omega) (HVV.out.below (show Below w.heap.size w _ by ((repeat (first | with_reducible assumption | with_reducible exact Below.refl _ _ | refine Below.setCell ?_ (by (first | omega | (simp; omega) | (simp; done) | fail "sml")) _ | refine Below.drew ?_ | refine Below.alloc ?_ (by (first | omega | (simp; omega) | (simp; done) | fail "sml")) _)); first | done | fail "chs")))) ?_
          rintro en u9 ⟨rfl, hb⟩
          have rwu9 := Below.trans (show Below w.heap.size w _ by ((repeat (first | with_reducible assumption | with_reducible exact Below.refl _ _ | refine Below.setCell ?_ (by (first | omega | (simp; omega) | (simp; done) | fail "sml")) _ | refine Below.drew ?_ | refine Below.alloc ?_ (by (first | omega | (simp; omega) | (simp; done) | fail "sml")) _)); first | done | fail "chs")) (hb.mono (by (first | omega | (simp; omega) | (simp; done) | fail "sml")))
          have zwu9 := rwu9.size
          have rWu9 := Below.trans (show Below W.heap.size W _ by ((repeat (first | with_reducible assumption | with_reducible exact Below.refl _ _ | refine Below.setCell ?_ (by (first | omega | (simp; omega) | (simp; done) | fail "sml")) _ | refine Below.drew ?_ | refine Below.alloc ?_ (by (first | omega | (simp; omega) | (simp; done) | fail "sml")) _)); first | done | fail "chs")) (hb.mono (by (first | omega | (simp; omega) | (simp; done) | fail "sml")))
          have zWu9 := rWu9.size
          have rDu9 := Below.trans (show Below D.heap.size D _ by ((repeat (first | with_reducible assumption | with_reducible exact Below.refl _ _ | refine Below.setCell ?_ (by (first | omega | (simp; omega) | (simp; done) | fail "sml")) _ | refine Below.drew ?_ | refine Below.alloc ?_ (by (first | omega | (simp; omega) | (simp; done) | fail "sml")) _)); first | done | fail "chs")) (hb.mono (by (first | omega | (simp; omega) | (simp; done) | fail "sml")))
          have zDu9 := rDu9.size
          have rAu9 := Below.trans (show Below A.heap.size A _ by ((repeat (first | with_reducible assumption | with_reducible exact Below.refl _ _ | refine Below.setCell ?_ (by (first | omega | (simp; omega) | (simp; done) | fail "sml")) _ | refine Below.drew ?_ | refine Below.alloc ?_ (by (first | omega | (simp; omega) | (simp; done) | fail "sml")) _)); first | done | fail "chs")) (hb.mono (by (first | omega | (simp; omega) | (simp; done) | fail "sml")))
          have zAu9 := rAu9.size
          have rOu9 := Below.trans (show Below O.heap.size O _ by ((repeat (first | with_reducible assumption | with_reducible exact Below.refl _ _ | refine Below.setCell ?_ (by (first | omega | (simp; omega) | (simp; done) | fail "sml")) _ | refine Below.drew ?_ | refine Below.alloc ?_ (by (first | omega | (simp; omega) | (simp; done) | fail "sml")) _)); first | done | fail "chs")) (hb.mono (by (first | omega | (simp; omega) | (simp; done) | fail "sml")))
          have zOu9 := rOu9.size
          clear hb yW0 yW1 yW2 yD0 yD1 yD2 yA0 yA1 yA2 yO0 yO1 yO2
          obtain ⟨yW0, yW1, yW2⟩ := HKW.out _ rWu9
          obtain ⟨yD0, yD1, yD2⟩ := HKD.out _ rDu9
          obtain ⟨yA0, yA1, yA2⟩ := HKA.out _ rAu9
          obtain ⟨yO0, yO1, yO2⟩ := HKO.out _ rOu9
          go_wp2_with fail
          go_ret
          exact ⟨rfl, by ((repeat (first | with_reducible assumption | with_reducible exact Below.refl _ _ | refine Below.setCell ?_ (by (first | omega | (simp; omega) | (simp; done) | fail "sml")) _ | refine Below.drew ?_ | refine Below.alloc ?_ (by (first | omega | (simp; omega) | (simp; done) | fail "sml")) _)); first | done | fail "chs")⟩
    · have hse : s.toList.isEmpty = false := str_nonempty'' (by omega)
      cases EC : lv s with
      | true =>
        have hlb : lbl s = true := by unfold lbl; simp [EC]
        cases b with
        | false =>
          cases c with
          | false =>
            go_wp2_with fail
            refine Calls.mono (EN ▸ exprValid_any (twoE 4 x0 x1) _ 1 A.heap.size _ (HAA.out.below (show Below A.heap.size A _ by ((repeat (first | with_reducible assumption | with_reducible exact Below.refl _ _ | refine Below.setCell ?_ (by (first | omega | (simp; omega) | (simp; done) | fail "sml")) _ | refine Below.drew ?_ | refine Below.alloc ?_ (by (first | omega | (simp; omega) | (simp; done) | fail "sml")) _)); first | done | fail "chs")) (Nat.le_refl _)) (show Below A.heap.size A _ by ((repeat (first | with_reducible assumption | with_reducible exact Below.refl _ _ | refine Below.setCell ?_ (by (first | omega | (simp; omega) | (simp; done) | fail "sml")) _ | refine Below.drew ?_ | refine Below.alloc ?_ (by (first | omega | (simp; omega) | (simp; done) | fail "sml")) _)); first | done | fail "chs")).size (twoE_sml hsm0 hsm1).1 (twoE_sml hsm0 hsm1).2 (HVV.out.below (show Below w.heap.size w _ by ((repeat (first | with_reducible assumption | with_reducible exact Below.refl _ _ | refine Below.setCell ?_ (by (first | omega | (simp; omega) | (simp; done) | fail "sml")) _ | refine Below.drew ?_ | refine Below.alloc ?_ (by (first | omega | (simp; omega) | (simp; done) | fail "sml")) _)); first | done | fail "chs")))) ?_
            rintro en u7 ⟨rfl, hb⟩
            have rwu7 := Below.trans (show Below w.heap.size w _ by ((repeat (first | with_reducible assumption | with_reducible exact Below.refl _ _ | refine Below.setCell ?_ (by (first | omega | (simp; omega) | (simp; done) | fail "sml")) _ | refine Below.drew ?_ | refine Below.alloc ?_ (by (first | omega | (simp; omega) | (simp; done) | fail "sml")) _)); first | done | fail "chs")) (hb.mono (by (first | omega | (simp; omega) | (simp; done) | fail "sml")))
            have zwu7 := rwu7.size
            have rWu7 := Below.trans (show Below W.heap.size W _ by ((repeat (first | with_reducible assumption | with_reducible exact Below.refl _ _ | refine Below.setCell ?_ (by (first | omega | (simp; omega) | (simp; done) | fail "sml")) _ | refine Below.drew ?_ | refine Below.alloc ?_ (by (first | omega | (simp; omega) | (simp; done) | fail "sml")) _)); first | done | fail "chs")) (hb.mono (by (first | omega | (simp; omega) | (simp; done) | fail "sml")))
            have zWu7 := rWu7.size
            have rDu7 := Below.trans (show Below D.heap.size D _ by ((repeat (first | with_reducible assumption | with_reducible exact Below.refl _ _ | refine Below.setCell ?_ (by (first | omega | (simp; omega) | (simp; done) | fail "sml")) _ | refine Below.drew ?_ | refine Below.alloc ?_ (by (first | omega | (simp; omega) | (simp; done) | fail "sml")) _)); first | done | fail "chs")) (hb.mono (by (first | omega | (simp; omega) | (simp; done) | fail "sml")))
            have zDu7 := rDu7.size
            have rAu7 := Below.trans (show Below A.heap.size A _ by ((repeat (first | with_reducible assumption | with_reducible exact Below.refl _ _ | refine Below.setCell ?_ (by (first | omega | (simp; omega) | (simp; done) | fail "sml")) _ | refine Below.drew ?_ | refine Below.alloc ?_ (by (first | omega | (simp; omega) | (simp; done) | fail "sml")) _)); first | done | fail "chs")) (hb.mono (by (first | omega | (simp; omega) | (simp; done) | fail "sml")))
            have zAu7 := rAu7.size
            have rOu7 := Below.trans (show Below O.heap.size O _ by ((repeat (first | with_reducible assumption | with_reducible exact Below.refl _ _ | refine Below.setCell ?_ (by (first | omega | (simp; omega) | (simp; done) | fail "sml")) _ | refine Below.drew ?_ | refine Below.alloc ?_ (by (first | omega | (simp; omega) | (simp; done) | fail "sml")) _)); first | done | fail "chs")) (hb.mono (by (first | omega | (simp; omega) | (simp; done) | fail "sml")))
            have zOu7 := rOu7.size
            clear hb yW0 yW1 yW2 yD0 yD1 yD2 yA0 yA1 yA2 yO0 yO1 yO2
            obtain ⟨yW0, yW1, yW2⟩ := HKW.out _ rWu7
            obtain ⟨yD0, yD1, yD2⟩ := HKD.out _ rDu7
            obtain ⟨yA0, yA1, yA2⟩ := HKA.out _ rAu7
            obtain ⟨yO0, yO1, yO2⟩ := HKO.out _ rOu7
            go_wp2_with fail
            refine Calls.mono (labelValid_b (s := s) (by unfold maxLen; omega) EC) ?_
            rintro en u8 ⟨rfl, hb⟩
            have rwu8 := Below.trans (show Below w.heap.size w _ by ((repeat (first | with_reducible assumption | with_reducible exact Below.refl _ _ | refine Below.setCell ?_ (by (first | omega | (simp; omega) | (simp; done) | fail "sml")) _ | refine Below.drew ?_ | refine Below.alloc ?_ (by (first | omega | (simp; omega) | (simp; done) | fail "sml")) _)); first | done | fail "chs")) (hb.mono (by (first | omega | (simp; omega) | (simp; done) | fail "sml")))
            have zwu8 := rwu8.size
            have rWu8 := Below.trans (show Below W.heap.size W _ by ((repeat (first | with_reducible assumption | with_reducible exact Below.refl _ _ | refine Below.setCell ?_ (by (first | omega | (simp; omega) | (simp; done) | fail "sml")) _ | refine Below.drew ?_ | refine Below.alloc ?_ (by (first | omega | (simp; omega) | (simp; done) | fail "sml")) _)); first | done | fail "chs")) (hb.mono (by (first | omega | (simp; omega) | (simp; done) | fail "sml")))
            have zWu8 := rWu8.size
            have rDu8 := Below.trans (show Below D.heap.size D _ by ((repeat (first | with_reducible assumption | with_reducible exact Below.refl _ _ | refine Below.setCell ?_ (by (first | omega | (simp; omega) | (simp; done) | fail "sml")) _ | refine Below.drew ?_ | refine Below.alloc ?_ (by (first | omega | (simp; omega) | (simp; done) | fail "sml")) _)); first | done | fail "chs")) (hb.mono (by (first | omega | (simp; omega) | (simp; done) | fail "sml")))
            have zDu8 := rDu8.size
            have rAu8 := Below.trans (show Below A.heap.size A _ by ((repeat (first | with_reducible assumption | with_reducible exact Below.refl _ _ | refine Below.setCell ?_ (by (first | omega | (simp; omega) | (simp; done) | fail "sml")) _ | refine Below.drew ?_ | refine Below.alloc ?_ (by (first | omega | (simp; omega) | (simp; done) | fail "sml")) _)); first | done | fail "chs")) (hb.mono (by (first | omega | (simp; omega) | (simp; done) | fail "sml")))
            have zAu8 := rAu8.size
            have rOu8 := Below.trans (show Below O.heap.size O _ by ((repeat (first | with_reducible assumption | with_reducible exact Below.refl _ _ | refine Below.setCell ?_ (by (first | omega | (simp; omega) | (simp; done) | fail "sml")) _ | refine Below.drew ?_ | refine Below.alloc ?_ (by (first | omega | (simp; omega) | (simp; done) | fail "sml")) _)); first | done | fail "chs")) (hb.mono (by (first | omega | (simp; omega) | (simp; done) | fail "sml")))
            have zOu8 := rOu8.size
            clear hb yW0 yW1 yW2 yD0 yD1 yD2 yA0 yA1 yA2 yO0 yO1 yO2
            obtain ⟨yW0, yW1, yW2⟩ := HKW.out _ rWu8
            obtain ⟨yD0, yD1, yD2⟩ := HKD.out _ rDu8
            obtain ⟨yA0, yA1, yA2⟩ := HKA.out _ rAu8
            obtain ⟨yO0, yO1, yO2⟩ := HKO.out _ rOu8
            go_wp2_with fail
            refine Calls.mono (((lholds_two (s := s) EN hlb).1.trans (by rw [EB, EC0])) ▸ labelHolds_any (twoE 4 x0 x1) _ s A.heap.size _ (HAA.out.below (show Below A.heap.size A _ by ((repeat (first | with_reducible assumption | with_reducible exact Below.refl _ _ | refine Below.setCell ?_ (by (first | omega | (simp; omega) | (simp; done) | fail "sml")) _ | refine Below.drew ?_ | refine Below.alloc ?_ (by (first | omega | (simp; omega) | (simp; done) | fail "sml")) _)); first | done | fail "chs")) (Nat.le_refl _)) (show Below A.heap.size A _ by ((repeat (first | with_reducible assumption | with_reducible exact Below.refl _ _ | refine Below.setCell ?_ (by (first | omega | (simp; omega) | (simp; done) | fail "sml")) _ | refine Below.drew ?_ | refine Below.alloc ?_ (by (first | omega | (simp; omega) | (simp; done) | fail "sml")) _)); first | done | fail "chs")).size (twoE_sml hsm0 hsm1).1 (twoE_sml hsm0 hsm1).2 (by omega) (HVV.out.below (show Below w.heap.size w _ by ((repeat (first | with_reducible assumption | with_reducible exact Below.refl _ _ | refine Below.setCell ?_ (by (first | omega | (simp; omega) | (simp; done) | fail "sml")) _ | refine Below.drew ?_ | refine Below.alloc ?_ (by (first | omega | (simp; omega) | (simp; done) | fail "sml")) _)); first | done | fail "chs")))) ?_
            rintro en u9 ⟨rfl, hb⟩
            have rwu9 := Below.trans (show Below w.heap.size w _ by ((repeat (first | with_reducible assumption | with_reducible exact Below.refl _ _ | refine Below.setCell ?_ (by (first | omega | (simp; omega) | (simp; done) | fail "sml")) _ | refine Below.drew ?_ | refine Below.alloc ?_ (by (first | omega | (simp; omega) | (simp; done) | fail "sml")) _)); first | done | fail "chs")) (hb.mono (by (first | omega | (simp; omega) | (simp; done) | fail "sml")))
            have zwu9 := rwu9.size
            have rWu9 := Below.trans (show Below W.heap.size W _ by ((repeat (first | with_reducible assumption | with_reducible exact Below.refl _ _ | refine Below.setCell ?_ (by (first | omega | (simp; omega) | (simp; done) | fail "sml")) _ | refine Below.drew ?_ | refine Below.alloc ?_ (by (first | omega | (simp; omega) | (simp; done) | fail "sml")) _)); first | done | fail "chs")) (hb.mono (by (first | omega | (simp; omega) | (simp; done) | fail "sml")))
            have zWu9 := rWu9.size
            have rDu9 := Below.trans (show Below D.heap.size D _ by ((repeat (first | with_reducible assumption | with_reducible exact Below.refl _ _ | refine Below.setCell ?_ (by (first | omega | (simp; omega) | (simp; done) | fail "sml")) _ | refine Below.drew ?_ | refine Below.alloc ?_ (by (first | omega | (simp; omega) | (simp; done) | fail "sml")) _)); first | done | fail "chs")) (hb.mono (by (first | omega | (simp; omega) | (simp; done) | fail "sml")))
            have zDu9 := rDu9.size
            have rAu9 := Below.trans (show Below A.heap.size A _ by ((repeat (first | with_reducible assumption | with_reducible exact Below.refl _ _ | refine Below.setCell ?_ (by (first | omega | (simp; omega) | (simp; done) | fail "sml")) _ | refine Below.drew ?_ | refine Below.alloc ?_ (by (first | omega | (simp; omega) | (simp; done) | fail "sml")) _)); first | done | fail "chs")) (hb.mono (by (first | omega | (simp; omega) | (simp; done) | fail "sml")))
            have zAu9 := rAu9.size
            have rOu9 := Below.trans (show Below O.heap.size O _ by ((repeat (first | with_reducible assumption | with_reducible exact Below.refl _ _ | refine Below.setCell ?_ (by (first | omega | (simp; omega) | (simp; done) | fail "sml")) _ | refine Below.drew ?_ | refine Below.alloc ?_ (by (first | omega | (simp; omega) | (simp; done) | fail "sml")) _)); first | done | fail "chs")) (hb.mono (by (first | omega | (simp; omega) | (simp; done) | fail "sml")))
            have zOu9 := rOu9.size
            clear hb yW0 yW1 yW2 yD0 yD1 yD2 yA0 yA1 yA2 yO0 yO1 yO2
            obtain ⟨yW0, yW1, yW2⟩ := HKW.out _ rWu9
            obtain ⟨yD0, yD1, yD2⟩ := HKD.out _ rDu9
            obtain ⟨yA0, yA1, yA2⟩ := HKA.out _ rAu9
            obtain ⟨yO0, yO1, yO2⟩ := HKO.out _ rOu9
            go_wp2_with fail
            refine Calls.mono (((lholds_two (s := s) EN hlb).2.trans (by rw [EB, EC0])) ▸ labelHolds_any (twoE 5 x0 x1) _ s O.heap.size _ (HAO.out.below (show Below O.heap.size O _ by ((repeat (first | with_reducible assumption | with_reducible exact Below.refl _ _ | refine Below.setCell ?_ (by (first | omega | (simp; omega) | (simp; done) | fail "sml")) _ | refine Below.drew ?_ | refine Below.alloc ?_ (by (first | omega | (simp; omega) | (simp; done) | fail "sml")) _)); first | done | fail "chs")) (Nat.le_refl _)) (show Below O.heap.size O _ by ((repeat (first | with_reducible assumption | with_reducible exact Below.refl _ _ | refine Below.setCell ?_ (by (first | omega | (simp; omega) | (simp; done) | fail "sml")) _ | refine Below.drew ?_ | refine Below.alloc ?_ (by (first | omega | (simp; omega) | (simp; done) | fail "sml")) _)); first | done | fail "chs")).size (twoE_sml hsm0 hsm1).1 (twoE_sml hsm0 hsm1).2 (by omega) (HVV.out.below (show Below w.heap.size w _ by ((repeat (first | with_reducible assumption | with_reducible exact Below.refl _ _ | refine Below.setCell ?_ (by (first | omega | (simp; omega) | (simp; done) | fail "sml")) _ | refine Below.drew ?_ | refine Below.alloc ?_ (by (first | omega | (simp; omega) | (simp; done) | fail "sml")) _)); first | done | fail "chs")))) ?_
            rintro en u10 ⟨rfl, hb⟩
            have rwu10 := Below.trans (show Below w.heap.size w _ by ((repeat (first | with_reducible assumption | with_reducible exact Below.refl _ _ | refine Below.setCell ?_ (by (first | omega | (simp; omega) | (simp; done) | fail "sml")) _ | refine Below.drew ?_ | refine Below.alloc ?_ (by (first | omega | (simp; omega) | (simp; done) | fail "sml")) _)); first | done | fail "chs")) (hb.mono (by (first | omega | (simp; omega) | (simp; done) | fail "sml")))
            have zwu10 := rwu10.size
            have rWu10 := Below.trans (show Below W.heap.size W _ by ((repeat (first | with_reducible assumption | with_reducible exact Below.refl _ _ | refine Below.setCell ?_ (by (first | omega | (simp; omega) | (simp; done) | fail "sml")) _ | refine Below.drew ?_ | refine Below.alloc ?_ (by (first | omega | (simp; omega) | (simp; done) | fail "sml")) _)); first | done | fail "chs")) (hb.mono (by (first | omega | (simp; omega) | (simp; done) | fail "sml")))
            have zWu10 := rWu10.size
            have rDu10 := Below.trans (show Below D.heap.size D _ by ((repeat (first | with_reducible assumption | with_reducible exact Below.refl _ _ | refine Below.setCell ?_ (by (first | omega | (simp; omega) | (simp; done) | fail "sml")) _ | refine Below.drew ?_ | refine Below.alloc ?_ (by (first | omega | (simp; omega) | (simp; done) | fail "sml")) _)); first | done | fail "chs")) (hb.mono (by (first | omega | (simp; omega) | (simp; done) | fail "sml")))
            have zDu10 := rDu10.size
            have rAu10 := Below.trans (show Below A.heap.size A _ by ((repeat (first | with_reducible assumption | with_reducible exact Below.refl _ _ | refine Below.setCell ?_ (by (first | omega | (simp; omega) | (simp; done) | fail "sml")) _ | refine Below.drew ?_ | refine Below.alloc ?_ (by (first | omega | (simp; omega) | (simp; done) | fail "sml")) _)); first | done | fail "chs")) (hb.mono (by (first | omega | (simp; omega) | (simp; done) | fail "sml")))
            have zAu10 := rAu10.size
            have rOu10 := Below.trans (show Below O.heap.size O _ by ((repeat (first | with_reducible assumption | with_reducible exact Below.refl _ _ | refine Below.setCell ?_ (by (first | omega | (simp; omega) | (simp; done) | fail "sml")) _ | refine Below.drew ?_ | refine Below.alloc ?_ (by (first | omega | (simp; omega) | (simp; done) | fail "sml")) _)); first | done | fail "chs")) (hb.mono (by (first | omega | (simp; omega) | (simp; done) | fail "sml")))
            have zOu10 := rOu10.size
            clear hb yW0 yW1 yW2 yD0 yD1 yD2 yA0 yA1 yA2 yO0 yO1 yO2
            obtain ⟨yW0, yW1, yW2⟩ := HKW.out _ rWu10
            obtain ⟨yD0, yD1, yD2⟩ := HKD.out _ rDu10
            obtain ⟨yA0, yA1, yA2⟩ := HKA.out _ rAu10
            obtain ⟨yO0, yO1, yO2⟩ := HKO.out _ rOu10
            go_wp2_with fail
            go_ret
            exact ⟨rfl, by ((repeat (first | with_reducible assumption | with_reducible exact Below.refl _ _ | refine Below.setCell ?_ (by (first | omega | (simp; omega) | (simp; done) | fail "sml")) _ | refine Below.drew ?_ | refine Below.alloc ?_ (by (first | omega | (simp; omega) | (simp; done) | fail "sml")) _)); first | done | fail "chs")⟩
          | true =>
            go_wp2_with fail
            refine Calls.mono (EN ▸ exprValid_any (twoE 4 x0 x1) _ 1 A.heap.size _ (HAA.out.below (show Below A.heap.size A _ by ((repeat (first | with_reducible assumption | with_reducible exact Below.refl _ _ | refine Below.setCell ?_ (by (first | omega | (simp; omega) | (simp; done) | fail "sml")) _ | refine Below.drew ?_ | refine Below.alloc ?_ (by (first | omega | (simp; omega) | (simp; done) | fail "sml")) _)); first | done | fail "chs")) (Nat.le_refl _)) (show Below A.heap.size A _ by ((repeat (first | with_reducible assumption | with_reducible exact Below.refl _ _ | refine Below.setCell ?_ (by (first | omega | (simp; omega) | (simp; done) | fail "sml")) _ | refine Below.drew ?_ | refine Below.alloc ?_ (by (first | omega | (simp; omega) | (simp; done) | fail "sml")) _)); first | done | fail "chs")).size (twoE_sml hsm0 hsm1).1 (twoE_sml hsm0 hsm1).2 (HVV.out.below (show Below w.heap.size w _ by ((repeat (first | with_reducible assumption | with_reducible exact Below.refl _ _ | refine Below.setCell ?_ (by (first | omega | (simp; omega) | (simp; done) | fail "sml")) _ | refine Below.drew ?_ | refine Below.alloc ?_ (by (first | omega | (simp; omega) | (simp; done) | fail "sml")) _)); first | done | fail "chs")))) ?_
            rintro en u7 ⟨rfl, hb⟩
            have rwu7 := Below.trans (show Below w.heap.size w _ by ((repeat (first | with_reducible assumption | with_reducible exact Below.refl _ _ | refine Below.setCell ?_ (by (first | omega | (simp; omega) | (simp; done) | fail "sml")) _ | refine Below.drew ?_ | refine Below.alloc ?_ (by (first | omega | (simp; omega) | (simp; done) | fail "sml")) _)); first | done | fail "chs")) (hb.mono (by (first | omega | (simp; omega) | (simp; done) | fail "sml")))
            have zwu7 := rwu7.size
            have rWu7 := Below.trans (show Below W.heap.size W _ by ((repeat (first | with_reducible assumption | with_reducible exact Below.refl _ _ | refine Below.setCell ?_ (by (first | omega | (simp; omega) | (simp; done) | fail "sml")) _ | refine Below.drew ?_ | refine Below.alloc ?_ (by (first | omega | (simp; omega) | (simp; done) | fail "sml")) _)); first | done | fail "chs")) (hb.mono (by (first | omega | (simp; omega) | (simp; done) | fail "sml")))
            have zWu7 := rWu7.size
            have rDu7 := Below.trans (show Below D.heap.size D _ by ((repeat (first | with_reducible assumption | with_reducible exact Below.refl _ _ | refine Below.setCell ?_ (by (first | omega | (simp; omega) | (simp; done) | fail "sml")) _ | refine Below.drew ?_ | refine Below.alloc ?_ (by (first | omega | (simp; omega) | (simp; done) | fail "sml")) _)); first | done | fail "chs")) (hb.mono (by (first | omega | (simp; omega) | (simp; done) | fail "sml")))
            have zDu7 := rDu7.size
            have rAu7 := Below.trans (show Below A.heap.size A _ by ((repeat (first | with_reducible assumption | with_reducible exact Below.refl _ _ | refine Below.setCell ?_ (by (first | omega | (simp; omega) | (simp; done) | fail "sml")) _ | refine Below.drew ?_ | refine Below.alloc ?_ (by (first | omega | (simp; omega) | (simp; done) | fail "sml")) _)); first | done | fail "chs")) (hb.mono (by (first | omega | (simp; omega) | (simp; done) | fail "sml")))
            have zAu7 := rAu7.size
            have rOu7 := Below.trans (show Below O.heap.size O _ by ((repeat (first | with_reducible assumption | with_reducible exact Below.refl _ _ | refine Below.setCell ?_ (by (first | omega | (simp; omega) | (simp; done) | fail "sml")) _ | refine Below.drew ?_ | refine Below.alloc ?_ (by (first | omega | (simp; omega) | (simp; done) | fail "sml")) _)); first | done | fail "chs")) (hb.mono (by (first | omega | (simp; omega) | (simp; done) | fail "sml")))
            have zOu7 := rOu7.size
            clear hb yW0 yW1 yW2 yD0 yD1 yD2 yA0 yA1 yA2 yO0 yO1 yO2
            obtain ⟨yW0, yW1, yW2⟩ := HKW.out _ rWu7
            obtain ⟨yD0, yD1, yD2⟩ := HKD.out _ rDu7
            obtain ⟨yA0, yA1, yA2⟩ := HKA.out _ rAu7
            obtain ⟨yO0, yO1, yO2⟩ := HKO.out _ rOu7
            go_wp2_with fail
            refine Calls.mono (labelValid_b (s := s) (by unfold maxLen; omega) EC) ?_
            rintro en u8 ⟨rfl, hb⟩
            have rwu8 := Below.trans (show Below w.heap.size w _ by ((repeat (first | with_reducible assumption | with_reducible exact Below.refl _ _ | refine Below.setCell ?_ (by (first | omega | (simp; omega) | (simp; done) | fail "sml")) _ | refine Below.drew ?_ | refine Below.alloc ?_ (by (first | omega | (simp; omega) | (simp; done) | fail "sml")) _)); first | done | fail "chs")) (hb.mono (by (first | omega | (simp; omega) | (simp; done) | fail "sml")))
            have zwu8 := rwu8.size
            have rWu8 := Below.trans (show Below W.heap.size W _ by ((repeat (first | with_reducible assumption | with_reducible exact Below.refl _ _ | refine Below.setCell ?_ (by (first | omega | (simp; omega) | (simp; done) | fail "sml")) _ | refine Below.drew ?_ | refine Below.alloc ?_ (by (first | omega | (simp; omega) | (simp; done) | fail "sml")) _)); first | done | fail "chs")) (hb.mono (by (first | omega | (simp; omega) | (simp; done) | fail "sml")))
            have zWu8 := rWu8.size
            have rDu8 := Below.trans (show Below D.heap.size D _ by ((repeat (first | with_reducible assumption | with_reducible exact Below.refl _ _ | refine Below.setCell ?_ (by (first | omega | (simp; omega) | (simp; done) | fail "sml")) _ | refine Below.drew ?_ | refine Below.alloc ?_ (by (first | omega | (simp; omega) | (simp; done) | fail "sml")) _)); first | done | fail "chs")) (hb.mono (by (first | omega | (simp; omega) | (simp; done) | fail "sml")))
            have zDu8 := rDu8.size
            have rAu8 := Below.trans (show Below A.heap.size A _ by ((repeat (first | with_reducible assumption | with_reducible exact Below.refl _ _ | refine Below.setCell ?_ (by (first | omega | (simp; omega) | (simp; done) | fail "sml")) _ | refine Below.drew ?_ | refine Below.alloc ?_ (by (first | omega | (simp; omega) | (simp; done) | fail "sml")) _)); first | done | fail "chs")) (hb.mono (by (first | omega | (simp; omega) | (simp; done) | fail "sml")))
            have zAu8 := rAu8.size
            have rOu8 := Below.trans (show Below O.heap.size O _ by ((repeat (first | with_reducible assumption | with_reducible exact Below.refl _ _ | refine Below.setCell ?_ (by (first | omega | (simp; omega) | (simp; done) | fail "sml")) _ | refine Below.drew ?_ | refine Below.alloc ?_ (by (first | omega | (simp; omega) | (simp; done) | fail "sml")) _)); first | done | fail "chs")) (hb.mono (by (first | omega | (simp; omega) | (simp; done) | fail "sml")))
            have zOu8 := rOu8.size
            clear hb yW0 yW1 yW2 yD0 yD1 yD2 yA0 yA1 yA2 yO0 yO1 yO2
            obtain ⟨yW0, yW1, yW2⟩ := HKW.out _ rWu8
            obtain ⟨yD0, yD1, yD2⟩ := HKD.out _ rDu8
            obtain ⟨yA0, yA1, yA2⟩ := HKA.out _ rAu8
            obtain ⟨yO0, yO1, yO2⟩ := HKO.out _ rOu8
            go_wp2_with fail
            refine Calls.mono (((lholds_two (s := s) EN hlb).1.trans (by rw [EB, EC0])) ▸ labelHolds_any (twoE 4 x0 x1) _ s A.heap.size _ (HAA.out.below (show Below A.heap.size A _ by ((repeat (first | with_reducible assumption | with_reducible exact Below.refl _ _ | refine Below.setCell ?_ (by (first | omega | (simp; omega) | (simp; done) | fail "sml")) _ | refine Below.drew ?_ | refine Below.alloc ?_ (by (first | omega | (simp; omega) | (simp; done) | fail "sml")) _)); first | done | fail "chs")) (Nat.le_refl _)) (show Below A.heap.size A _ by ((repeat (first | with_reducible assumption | with_reducible exact Below.refl _ _ | refine Below.setCell ?_ (by (first | omega | (simp; omega) | (simp; done) | fail "sml")) _ | refine Below.drew ?_ | refine Below.alloc ?_ (by (first | omega | (simp; omega) | (simp; done) | fail "sml")) _)); first | done | fail "chs")).size (twoE_sml hsm0 hsm1).1 (twoE_sml hsm0 hsm1).2 (by omega) (HVV.out.below (show Below w.heap.size w _ by ((repeat (first | with_reducible assumption | with_reducible exact Below.refl _ _ | refine Below.setCell ?_ (by (first | omega | (simp; omega) | (simp; done) | fail "sml")) _ | refine Below.drew ?_ | refine Below.alloc ?_ (by (first | omega | (simp; omega) | (simp; done) | fail "sml")) _)); first | done | fail "chs")))) ?_
            rintro en u9 ⟨rfl, hb⟩
            have rwu9 := Below.trans (show Below w.heap.size w _ by ((repeat (first | with_reducible assumption | with_reducible exact Below.refl _ _ | refine Below.setCell ?_ (by (first | omega | (simp; omega) | (simp; done) | fail "sml")) _ | refine Below.drew ?_ | refine Below.alloc ?_ (by (first | omega | (simp; omega) | (simp; done) | fail "sml")) _)); first | done | fail "chs")) (hb.mono (by (first | omega | (simp; omega) | (simp; done) | fail "sml")))
            have zwu9 := rwu9.size
            have rWu9 := Below.trans (show Below W.heap.size W _ by ((repeat (first | with_reducible assumption | with_reducible exact Below.refl _ _ | refine Below.setCell ?_ (by (first | omega | (simp; omega) | (simp; done) | fail "sml")) _ | refine Below.drew ?_ | refine Below.alloc ?_ (by (first | omega | (simp; omega) | (simp; done) | fail "sml")) _)); first | done | fail "chs")) (hb.mono (by (first | omega | (simp; omega) | (simp; done) | fail "sml")))
            have zWu9 := rWu9.size
            have rDu9 := Below.trans (show Below D.heap.size D _ by ((repeat (first | with_reducible assumption | with_reducible exact Below.refl _ _ | refine Below.setCell ?_ (by (first | omega | (simp; omega) | (simp; done) | fail "sml")) _ | refine Below.drew ?_ | refine Below.alloc ?_ (by (first | omega | (simp; omega) | (simp; done) | fail "sml")) _)); first | done | fail "chs")) (hb.mono (by (first | omega | (simp; omega) | (simp; done) | fail "sml")))
            have zDu9 := rDu9.size
            have rAu9 := Below.trans (show Below A.heap.size A _ by ((repeat (first | with_reducible assumption | with_reducible exact Below.refl _ _ | refine Below.setCell ?_ (by (first | omega | (simp; omega) | (simp; done) | fail "sml")) _ | refine Below.drew ?_ | refine Below.alloc ?_ (by (first | omega | (simp; omega) | (simp; done) | fail "sml")) _)); first | done | fail "chs")) (hb.mono (by (first | omega | (simp; omega) | (simp; done) | fail "sml")))
            have zAu9 := rAu9.size
            have rOu9 := Below.trans (show Below O.heap.size O _ by ((repeat (first | with_reducible assumption | with_reducible exact Below.refl _ _ | refine Below.setCell ?_ (by (first | omega | (simp; omega) | (simp; done) | fail "sml")) _ | refine Below.drew ?_ | refine Below.alloc ?_ (by (first | omega | (simp; omega) | (simp; done) | fail "sml")) _)); first | done | fail "chs")) (hb.mono (by (first | omega | (simp; omega) | (simp; done) | fail "sml")))
            have zOu9 := rOu9.size
            clear hb yW0 yW1 yW2 yD0 yD1 yD2 yA0 yA1 yA2 yO0 yO1 yO2
            obtain ⟨yW0, yW1, yW2⟩ := HKW.out _ rWu9
            obtain ⟨yD0, yD1, yD2⟩ := HKD.out _ rDu9
            obtain ⟨yA0, yA1, yA2⟩ := HKA.out _ rAu9
            obtain ⟨yO0, yO1, yO2⟩ := HKO.out _ rOu9
            go_wp2_with fail
            refine Calls.mono (((lholds_two (s := s) EN hlb).2.trans (by rw [EB, EC0])) ▸ labelHolds_any (twoE 5 x0 x1) _ s O.heap.size _ (HAO.out.below (show Below O.heap.size O _ by ((repeat (first | with_reducible assumption | with_reducible exact Below.refl _ _ | refine Below.setCell ?_ (by (first | omega | (simp; omega) | (simp; done) | fail "sml")) _ | refine Below.drew ?_ | refine Below.alloc ?_ (by (first | omega | (simp; omega) | (simp; done) | fail "sml")) _)); first | done | fail "chs")) (Nat.le_refl _)) (show Below O.heap.size O _ by ((repeat (first | with_reducible assumption | with_reducible exact Below.refl _ _ | refine Below.setCell ?_ (by (first | omega | (simp; omega) | (simp; done) | fail "sml")) _ | refine Below.drew ?_ | refine Below.alloc ?_ (by (first | omega | (simp; omega) | (simp; done) | fail "sml")) _)); first | done | fail "chs")).size (twoE_sml hsm0 hsm1).1 (twoE_sml hsm0 hsm1).2 (by omega) (HVV.out.below (show Below w.heap.size w _ by ((repeat (first | with_reducible assumption | with_reducible exact Below.refl _ _ | refine Below.setCell ?_ (by (first | omega | (simp; omega) | (simp; done) | fail "sml")) _ | refine Below.drew ?_ | refine Below.alloc ?_ (by (first | omega | (simp; omega) | (simp; done) | fail "sml")) _)); first | done | fail "chs")))) ?_
            rintro en u10 ⟨rfl, hb⟩
            have rwu10 := Below.trans (show Below w.heap.size w _ by ((repeat (first | with_reducible assumption | with_reducible exact Below.refl _ _ | refine Below.setCell ?_ (by (first | omega | (simp; omega) | (simp; done) | fail "sml")) _ | refine Below.drew ?_ | refine Below.alloc ?_ (by (first | omega | (simp; omega) | (simp; done) | fail "sml")) _)); first | done | fail "chs")) (hb.mono (by (first | omega | (simp; omega) | (simp; done) | fail "sml")))
            have zwu10 := rwu10.size
            have rWu10 := Below.trans (show Below W.heap.size W _ by ((repeat (first | with_reducible assumption | with_reducible exact Below.refl _ _ | refine Below.setCell ?_ (by (first | omega | (simp; omega) | (simp; done) | fail "sml")) _ | refine Below.drew ?_ | refine Below.alloc ?_ (by (first | omega | (simp; omega) | (simp; done) | fail "sml")) _)); first | done | fail "chs")) (hb.mono (by (first | omega | (simp; omega) | (simp; done) | fail "sml")))
            have zWu10 := rWu10.size
            have rDu10 := Below.trans (show Below D.heap.size D _ by ((repeat (first | with_reducible assumption | with_reducible exact Below.refl _ _ | refine Below.setCell ?_ (by (first | omega | (simp; omega) | (simp; done) | fail "sml")) _ | refine Below.drew ?_ | refine Below.alloc ?_ (by (first | omega | (simp; omega) | (simp; done) | fail "sml")) _)); first | done | fail "chs")) (hb.mono (by (first | omega | (simp; omega) | (simp; done) | fail "sml")))
            have zDu10 := rDu10.size
            have rAu10 := Below.trans (show Below A.heap.size A _ by ((repeat (first | with_reducible assumption | with_reducible exact Below.refl _ _ | refine Below.setCell ?_ (by (first | omega | (simp; omega) | (simp; done) | fail "sml")) _ | refine Below.drew ?_ | refine Below.alloc ?_ (by (first | omega | (simp; omega) | (simp; done) | fail "sml")) _)); first | done | fail "chs")) (hb.mono (by (first | omega | (simp; omega) | (simp; done) | fail "sml")))
            have zAu10 := rAu10.size
            have rOu10 := Below.trans (show Below O.heap.size O _ by ((repeat (first | with_reducible assumption | with_reducible exact Below.refl _ _ | refine Below.setCell ?_ (by (first | omega | (simp; omega) | (simp; done) | fail "sml")) _ | refine Below.drew ?_ | refine Below.alloc ?_ (by (first | omega | (simp; omega) | (simp; done) | fail "sml")) _)); first | done | fail "chs")) (hb.mono (by (first | omega | (simp; omega) | (simp; done) | fail "sml")))
            have zOu10 := rOu10.size
            clear hb yW0 yW1 yW2 yD0 yD1 yD2 yA0 yA1 yA2 yO0 yO1 yO2
            obtain ⟨yW0, yW1, yW2⟩ := HKW.out _ rWu10
            obtain ⟨yD0, yD1, yD2⟩ := HKD.out _ rDu10
            obtain ⟨yA0, yA1, yA2⟩ := HKA.out _ rAu10
            obtain ⟨yO0, yO1, yO2⟩ := HKO.out _ rOu10
            go_wp2_with fail
            go_ret
            exact ⟨rfl, by ((repeat (first | with_reducible assumption | with_reducible exact Below.refl _ _ | refine Below.setCell ?_ (by (first | omega | (simp; omega) | (simp; done) | fail "sml")) _ | refine Below.drew ?_ | refine Below.alloc ?_ (by (first | omega | (simp; omega) | (simp; done) | fail "sml")) _)); first | done | fail "chs")⟩
        | true =>
          cases c with
          | false =>
            go_wp2_with fail
            refine Calls.mono (EN ▸ exprValid_any (twoE 4 x0 x1) _ 1 A.heap.size _ (HAA.out.below (show Below A.heap.size A _ by ((repeat (first | with_reducible assumption | with_reducible exact Below.refl _ _ | refine Below.setCell ?_ (by (first | omega | (simp; omega) | (simp; done) | fail "sml")) _ | refine Below.drew ?_ | refine Below.alloc ?_ (by (first | omega | (simp; omega) | (simp; done) | fail "sml")) _)); first | done | fail "chs")) (Nat.le_refl _)) (show Below A.heap.size A _ by ((repeat (first | with_reducible assumption | with_reducible exact Below.refl _ _ | refine Below.setCell ?_ (by (first | omega | (simp; omega) | (simp; done) | fail "sml")) _ | refine Below.drew ?_ | refine Below.alloc ?_ (by (first | omega | (simp; omega) | (simp; done) | fail "sml")) _)); first | done | fail "chs")).size (twoE_sml hsm0 hsm1).1 (twoE_sml hsm0 hsm1).2 (HVV.out.below (show Below w.heap.size w _ by ((repeat (first | with_reducible assumption | with_reducible exact Below.refl _ _ | refine Below.setCell ?_ (by (first | omega | (simp; omega) | (simp; done) | fail "sml")) _ | refine Below.drew ?_ | refine Below.alloc ?_ (by (first | omega | (simp; omega) | (simp; done) | fail "sml")) _)); first | done | fail "chs")))) ?_
            rintro en u7 ⟨rfl, hb⟩
            have rwu7 := Below.trans (show Below w.heap.size w _ by ((repeat (first | with_reducible assumption | with_reducible exact Below.refl _ _ | refine Below.setCell ?_ (by (first | omega | (simp; omega) | (simp; done) | fail "sml")) _ | refine Below.drew ?_ | refine Below.alloc ?_ (by (first | omega | (simp; omega) | (simp; done) | fail "sml")) _)); first | done | fail "chs")) (hb.mono (by (first | omega | (simp; omega) | (simp; done) | fail "sml")))
            have zwu7 := rwu7.size
            have rWu7 := Below.trans (show Below W.heap.size W _ by ((repeat (first | with_reducible assumption | with_reducible exact Below.refl _ _ | refine Below.setCell ?_ (by (first | omega | (simp; omega) | (simp; done) | fail "sml")) _ | refine Below.drew ?_ | refine Below.alloc ?_ (by (first | omega | (simp; omega) | (simp; done) | fail "sml")) _)); first | done | fail "chs")) (hb.mono (by (first | omega | (simp; omega) | (simp; done) | fail "sml")))
            have zWu7 := rWu7.size
            have rDu7 := Below.trans (show Below D.heap.size D _ by ((repeat (first | with_reducible assumption | with_reducible exact Below.refl _ _ | refine Below.setCell ?_ (by (first | omega | (simp; omega) | (simp; done) | fail "sml")) _ | refine Below.drew ?_ | refine Below.alloc ?_ (by (first | omega | (simp; omega) | (simp; done) | fail "sml")) _)); first | done | fail "chs")) (hb.mono (by (first | omega | (simp; omega) | (simp; done) | fail "sml")))
            have zDu7 := rDu7.size
            have rAu7 := Below.trans (show Below A.heap.size A _ by ((repeat (first | with_reducible assumption | with_reducible exact Below.refl _ _ | refine Below.setCell ?_ (by (first | omega | (simp; omega) | (simp; done) | fail "sml")) _ | refine Below.drew ?_ | refine Below.alloc ?_ (by (first | omega | (simp; omega) | (simp; done) | fail "sml")) _)); first | done | fail "chs")) (hb.mono (by (first | omega | (simp; omega) | (simp; done) | fail "sml")))
            have zAu7 := rAu7.size
            have rOu7 := Below.trans (show Below O.heap.size O _ by ((repeat (first | with_reducible assumption | with_reducible exact Below.refl _ _ | refine Below.setCell ?_ (by (first | omega | (simp; omega) | (simp; done) | fail "sml")) _ | refine Below.drew ?_ | refine Below.alloc ?_ (by (first | omega | (simp; omega) | (simp; done) | fail "sml")) _)); first | done | fail "chs")) (hb.mono (by (first | omega | (simp; omega) | (simp; done) | fail "sml")))
            have zOu7 := rOu7.size
            clear hb yW0 yW1 yW2 yD0 yD1 yD2 yA0 yA1 yA2 yO0 yO1 yO2
            obtain ⟨yW0, yW1, yW2⟩ := HKW.out _ rWu7
            obtain ⟨yD0, yD1, yD2⟩ := HKD.out _ rDu7
            obtain ⟨yA0, yA1, yA2⟩ := HKA.out _ rAu7
            obtain ⟨yO0, yO1, yO2⟩ := HKO.out _ rOu7
            go_wp2_with fail
            refine Calls.mono (labelValid_b (s := s) (by unfold maxLen; omega) EC) ?_
            rintro en u8 ⟨rfl, hb⟩
            have rwu8 := Below.trans (show Below w.heap.size w _ by ((repeat (first | with_reducible assumption | with_reducible exact Below.refl _ _ | refine Below.setCell ?_ (by (first | omega | (simp; omega) | (simp; done) | fail "sml")) _ | refine Below.drew ?_ | refine Below.alloc ?_ (by (first | omega | (simp; omega) | (simp; done) | fail "sml")) _)); first | done | fail "chs")) (hb.mono (by (first | omega | (simp; omega) | (simp; done) | fail "sml")))
            have zwu8 := rwu8.size
            have rWu8 := Below.trans (show Below W.heap.size W _ by ((repeat (first | with_reducible assumption | with_reducible exact Below.refl _ _ | refine Below.setCell ?_ (by (first | omega | (simp; omega) | (simp; done) | fail "sml")) _ | refine Below.drew ?_ | refine Below.alloc ?_ (by (first | omega | (simp; omega) | (simp; done) | fail "sml")) _)); first | done | fail "chs")) (hb.mono (by (first | omega | (simp; omega) | (simp; done) | fail "sml")))
            have zWu8 := rWu8.size
            have rDu8 := Below.trans (show Below D.heap.size D _ by ((repeat (first | with_reducible assumption | with_reducible exact Below.refl _ _ | refine Below.setCell ?_ (by (first | omega | (simp; omega) | (simp; done) | fail "sml")) _ | refine Below.drew ?_ | refine Below.alloc ?_ (by (first | omega | (simp; omega) | (simp; done) | fail "sml")) _)); first | done | fail "chs")) (hb.mono (by (first | omega | (simp; omega) | (simp; done) | fail "sml")))
            have zDu8 := rDu8.size
            have rAu8 := Below.trans (show Below A.heap.size A _ by ((repeat (first | with_reducible assumption | with_reducible exact Below.refl _ _ | refine Below.setCell ?_ (by (first | omega | (simp; omega) | (simp; done) | fail "sml")) _ | refine Below.drew ?_ | refine Below.alloc ?_ (by (first | omega | (simp; omega) | (simp; done) | fail "sml")) _)); first | done | fail "chs")) (hb.mono (by (first | omega | (simp; omega) | (simp; done) | fail "sml")))
            have zAu8 := rAu8.size
            have rOu8 := Below.trans (show Below O.heap.size O _ by ((repeat (first | with_reducible assumption | with_reducible exact Below.refl _ _ | refine Below.setCell ?_ (by (first | omega | (simp; omega) | (simp; done) | fail "sml")) _ | refine Below.drew ?_ | refine Below.alloc ?_ (by (first | omega | (simp; omega) | (simp; done) | fail "sml")) _)); first | done | fail "chs")) (hb.mono (by (first | omega | (simp; omega) | (simp; done) | fail "sml")))
            have zOu8 := rOu8.size
            clear hb yW0 yW1 yW2 yD0 yD1 yD2 yA0 yA1 yA2 yO0 yO1 yO2
            obtain ⟨yW0, yW1, yW2⟩ := HKW.out _ rWu8
            obtain ⟨yD0, yD1, yD2⟩ := HKD.out _ rDu8
            obtain ⟨yA0, yA1, yA2⟩ := HKA.out _ rAu8
            obtain ⟨yO0, yO1, yO2⟩ := HKO.out _ rOu8
            go_wp2_with fail
            refine Calls.mono (((lholds_two (s := s) EN hlb).1.trans (by rw [EB, EC0])) ▸ labelHolds_any (twoE 4 x0 x1) _ s A.heap.size _ (HAA.out.below (show Below A.heap.size A _ by ((repeat (first | with_reducible assumption | with_reducible exact Below.refl _ _ | refine Below.setCell ?_ (by (first | omega | (simp; omega) | (simp; done) | fail "sml")) _ | refine Below.drew ?_ | refine Below.alloc ?_ (by (first | omega | (simp; omega) | (simp; done) | fail "sml")) _)); first | done | fail "chs")) (Nat.le_refl _)) (show Below A.heap.size A _ by ((repeat (first | with_reducible assumption | with_reducible exact Below.refl _ _ | refine Below.setCell ?_ (by (first | omega | (simp; omega) | (simp; done) | fail "sml")) _ | refine Below.drew ?_ | refine Below.alloc ?_ (by (first | omega | (simp; omega) | (simp; done) | fail "sml")) _)); first | done | fail "chs")).size (twoE_sml hsm0 hsm1).1 (twoE_sml hsm0 hsm1).2 (by omega) (HVV.out.below (show Below w.heap.size w _ by ((repeat (first | with_reducible assumption | with_reducible exact Below.refl _ _ | refine Below.setCell ?_ (by (first | omega | (simp; omega) | (simp; done) | fail "sml")) _ | refine Below.drew ?_ | refine Below.alloc ?_ (by (first | omega | (simp; omega) | (simp; done) | fail "sml")) _)); first | done | fail "chs")))) ?_
            rintro en u9 ⟨rfl, hb⟩
            have rwu9 := Below.trans (show Below w.heap.size w _ by ((repeat (first | with_reducible assumption | with_reducible exact Below.refl _ _ | refine Below.setCell ?_ (by (first | omega | (simp; omega) | (simp; done) | fail "sml")) _ | refine Below.drew ?_ | refine Below.alloc ?_ (by (first | omega | (simp; omega) | (simp; done) | fail "sml")) _)); first | done | fail "chs")) (hb.mono (by (first | omega | (simp; omega) | (simp; done) | fail "sml")))
            have zwu9 := rwu9.size
            have rWu9 := Below.trans (show Below W.heap.size W _ by ((repeat (first | with_reducible assumption | with_reducible exact Below.refl _ _ | refine Below.setCell ?_ (by (first | omega | (simp; omega) | (simp; done) | fail "sml")) _ | refine Below.drew ?_ | refine Below.alloc ?_ (by (first | omega | (simp; omega) | (simp; done) | fail "sml")) _)); first | done | fail "chs")) (hb.mono (by (first | omega | (simp; omega) | (simp; done) | fail "sml")))
            have zWu9 := rWu9.size
            have rDu9 := Below.trans (show Below D.heap.size D _ by ((repeat (first | with_reducible assumption | with_reducible exact Below.refl _ _ | refine Below.setCell ?_ (by (first | omega | (simp; omega) | (simp; done) | fail "sml")) _ | refine Below.drew ?_ | refine Below.alloc ?_ (by (first | omega | (simp; omega) | (simp; done) | fail "sml")) _)); first | done | fail "chs")) (hb.mono (by (first | omega | (simp; omega) | (simp; done) | fail "sml")))
            have zDu9 := rDu9.size
            have rAu9 := Below.trans (show Below A.heap.size A _ by ((repeat (first | with_reducible assumption | with_reducible exact Below.refl _ _ | refine Below.setCell ?_ (by (first | omega | (simp; omega) | (simp; done) | fail "sml")) _ | refine Below.drew ?_ | refine Below.alloc ?_ (by (first | omega | (simp; omega) | (simp; done) | fail "sml")) _)); first | done | fail "chs")) (hb.mono (by (first | omega | (simp; omega) | (simp; done) | fail "sml")))
            have zAu9 := rAu9.size
            have rOu9 := Below.trans (show Below O.heap.size O _ by ((repeat (first | with_reducible assumption | with_reducible exact Below.refl _ _ | refine Below.setCell ?_ (by (first | omega | (simp; omega) | (simp; done) | fail "sml")) _ | refine Below.drew ?_ | refine Below.alloc ?_ (by (first | omega | (simp; omega) | (simp; done) | fail "sml")) _)); first | done | fail "chs")) (hb.mono (by (first | omega | (simp; omega) | (simp; done) | fail "sml")))
            have zOu9 := rOu9.size
            clear hb yW0 yW1 yW2 yD0 yD1 yD2 yA0 yA1 yA2 yO0 yO1 yO2
            obtain ⟨yW0, yW1, yW2⟩ := HKW.out _ rWu9
            obtain ⟨yD0, yD1, yD2⟩ := HKD.out _ rDu9
            obtain ⟨yA0, yA1, yA2⟩ := HKA.out _ rAu9
            obtain ⟨yO0, yO1, yO2⟩ := HKO.out _ rOu9
            go_wp2_with fail
            refine Calls.mono (((lholds_two (s := s) EN hlb).2.trans (by rw [EB, EC0])) ▸ labelHolds_any (twoE 5 x0 x1) _ s O.heap.size _ (HAO.out.below (show Below O.heap.size O _ by ((repeat (first | with_reducible assumption | with_reducible exact Below.refl _ _ | refine Below.setCell ?_ (by (first | omega | (simp; omega) | (simp; done) | fail "sml")) _ | refine Below.drew ?_ | refine Below.alloc ?_ (by (first | omega | (simp; omega) | (simp; done) | fail "sml")) _)); first | done | fail "chs")) (Nat.le_refl _)) (show Below O.heap.size O _ by ((repeat (first | with_reducible assumption | with_reducible exact Below.refl _ _ | refine Below.setCell ?_ (by (first | omega | (simp; omega) | (simp; done) | fail "sml")) _ | refine Below.drew ?_ | refine Below.alloc ?_ (by (first | omega | (simp; omega) | (simp; done) | fail "sml")) _)); first | done | fail "chs")).size (twoE_sml hsm0 hsm1).1 (twoE_sml hsm0 hsm1).2 (by omega) (HVV.out.below (show Below w.heap.size w _ by ((repeat (first | with_reducible assumption | with_reducible exact Below.refl _ _ | refine Below.setCell ?_ (by (first | omega | (simp; omega) | (simp; done) | fail "sml")) _ | refine Below.drew ?_ | refine Below.alloc ?_ (by (first | omega | (simp; omega) | (simp; done) | fail "sml")) _)); first | done | fail "chs")))) ?_
            rintro en u10 ⟨rfl, hb⟩
            have rwu10 := Below.trans (show Below w.heap.size w _ by ((repeat (first | with_reducible assumption | with_reducible exact Below.refl _ _ | refine Below.setCell ?_ (by (first | omega | (simp; omega) | (simp; done) | fail "sml")) _ | refine Below.drew ?_ | refine Below.alloc ?_ (by (first | omega | (simp; omega) | (simp; done) | fail "sml")) _)); first | done | fail "chs")) (hb.mono (by (first | omega | (simp; omega) | (simp; done) | fail "sml")))
            have zwu10 := rwu10.size
            have rWu10 := Below.trans (show Below W.heap.size W _ by ((repeat (first | with_reducible assumption | with_reducible exact Below.refl _ _ | refine Below.setCell ?_ (by (first | omega | (simp; omega) | (simp; done) | fail "sml")) _ | refine Below.drew ?_ | refine Below.alloc ?_ (by (first | omega | (simp; omega) | (simp; done) | fail "sml")) _)); first | done | fail "chs")) (hb.mono (by (first | omega | (simp; omega) | (simp; done) | fail "sml")))
            have zWu10 := rWu10.size
            have rDu10 := Below.trans (show Below D.heap.size D _ by ((repeat (first | with_reducible assumption | with_reducible exact Below.refl _ _ | refine Below.setCell ?_ (by (first | omega | (simp; omega) | (simp; done) | fail "sml")) _ | refine Below.drew ?_ | refine Below.alloc ?_ (by (first | omega | (simp; omega) | (simp; done) | fail "sml")) _)); first | done | fail "chs")) (hb.mono (by (first | omega | (simp; omega) | (simp; done) | fail "sml")))
            have zDu10 := rDu10.size
            have rAu10 := Below.trans (show Below A.heap.size A _ by ((repeat (first | with_reducible assumption | with_reducible exact Below.refl _ _ | refine Below.setCell ?_ (by (first | omega | (simp; omega) | (simp; done) | fail "sml")) _ | refine Below.drew ?_ | refine Below.alloc ?_ (by (first | omega | (simp; omega) | (simp; done) | fail "sml")) _)); first | done | fail "chs")) (hb.mono (by (first | omega | (simp; omega) | (simp; done) | fail "sml")))
            have zAu10 := rAu10.size
            have rOu10 := Below.trans (show Below O.heap.size O _ by ((repeat (first | with_reducible assumption | with_reducible exact Below.refl _ _ | refine Below.setCell ?_ (by (first | omega | (simp; omega) | (simp; done) | fail "sml")) _ | refine Below.drew ?_ | refine Below.alloc ?_ (by (first | omega | (simp; omega) | (simp; done) | fail "sml")) _)); first | done | fail "chs")) (hb.mono (by (first | omega | (simp; omega) | (simp; done) | fail "sml")))
            have zOu10 := rOu10.size
            clear hb yW0 yW1 yW2 yD0 yD1 yD2 yA0 yA1 yA2 yO0 yO1 yO2
            obtain ⟨yW0, yW1, yW2⟩ := HKW.out _ rWu10
            obtain ⟨yD0, yD1, yD2⟩ := HKD.out _ rDu10
            obtain ⟨yA0, yA1, yA2⟩ := HKA.out _ rAu10
            obtain ⟨yO0, yO1, yO2⟩ := HKO.out _ rOu10
            go_wp2_with fail
            go_ret
            exact ⟨rfl, by ((repeat (first | with_reducible assumption | with_reducible exact Below.refl _ _ | refine Below.setCell ?_ (by (first | omega | (simp; omega) | (simp; done) | fail "sml")) _ | refine Below.drew ?_ | refine Below.alloc ?_ (by (first | omega | (simp; omega) | (simp; done) | fail "sml")) _)); first | done | fail "chs")⟩
          | true =>
            go_wp2_with fail
            refine Calls.mono (EN ▸ exprValid_any (twoE 4 x0 x1) _ 1 A.heap.size _ (HAA.out.below (show Below A.heap.size A _ by ((repeat (first | with_reducible assumption | with_reducible exact Below.refl _ _ | refine Below.setCell ?_ (by (first | omega | (simp; omega) | (simp; done) | fail "sml")) _ | refine Below.drew ?_ | refine Below.alloc ?_ (by (first | omega | (simp; omega) | (simp; done) | fail "sml")) _)); first | done | fail "chs")) (Nat.le_refl _)) (show Below A.heap.size A _ by ((repeat (first | with_reducible assumption | with_reducible exact Below.refl _ _ | refine Below.setCell ?_ (by (first | omega | (simp; omega) | (simp; done) | fail "sml")) _ | refine Below.drew ?_ | refine Below.alloc ?_ (by (first | omega | (simp; omega) | (simp; done) | fail "sml")) _)); first | done | fail "chs")).size (twoE_sml hsm0 hsm1).1 (twoE_sml hsm0 hsm1).2 (HVV.out.below (show Below w.heap.size w _ by ((repeat (first | with_reducible assumption | with_reducible exact Below.refl _ _ | refine Below.setCell ?_ (by (first | omega | (simp; omega) | (simp; done) | fail "sml")) _ | refine Below.drew ?_ | refine Below.alloc ?_ (by (first | omega | (simp; omega) | (simp; done) | fail "sml")) _)); first | done | fail "chs")))) ?_
            rintro en u7 ⟨rfl, hb⟩
            have rwu7 := Below.trans (show Below w.heap.size w _ by ((repeat (first | with_reducible assumption | with_reducible exact Below.refl _ _ | refine Below.setCell ?_ (by (first | omega | (simp; omega) | (simp; done) | fail "sml")) _ | refine Below.drew ?_ | refine Below.alloc ?_ (by (first | omega | (simp; omega) | (simp; done) | fail "sml")) _)); first | done | fail "chs")) (hb.mono (by (first | omega | (simp; omega) | (simp; done) | fail "sml")))
            have zwu7 := rwu7.size
            have rWu7 := Below.trans (show Below W.heap.size W _ by ((repeat (first | with_reducible assumption | with_reducible exact Below.refl _ _ | refine Below.setCell ?_ (by (first | omega | (simp; omega) | (simp; done) | fail "sml")) _ | refine Below.drew ?_ | refine Below.alloc ?_ (by (first | omega | (simp; omega) | (simp; done) | fail "sml")) _)); first | done | fail "chs")) (hb.mono (by (first | omega | (simp; omega) | (simp; done) | fail "sml")))
            have zWu7 := rWu7.size
            have rDu7 := Below.trans (show Below D.heap.size D _ by ((repeat (first | with_reducible assumption | with_reducible exact Below.refl _ _ | refine Below.setCell ?_ (by (first | omega | (simp; omega) | (simp; done) | fail "sml")) _ | refine Below.drew ?_ | refine Below.alloc ?_ (by (first | omega | (simp; omega) | (simp; done) | fail "sml")) _)); first | done | fail "chs")) (hb.mono (by (first | omega | (simp; omega) | (simp; done) | fail "sml")))
            have zDu7 := rDu7.size
            have rAu7 := Below.trans (show Below A.heap.size A _ by ((repeat (first | with_reducible assumption | with_reducible exact Below.refl _ _ | refine Below.setCell ?_ (by (first | omega | (simp; omega) | (simp; done) | fail "sml")) _ | refine Below.drew ?_ | refine Below.alloc ?_ (by (first | omega | (simp; omega) | (simp; done) | fail "sml")) _)); first | done | fail "chs")) (hb.mono (by (first | omega | (simp; omega) | (simp; done) | fail "sml")))
            have zAu7 := rAu7.size
            have rOu7 := Below.trans (show Below O.heap.size O _ by ((repeat (first | with_reducible assumption | with_reducible exact Below.refl _ _ | refine Below.setCell ?_ (by (first | omega | (simp; omega) | (simp; done) | fail "sml")) _ | refine Below.drew ?_ | refine Below.alloc ?_ (by (first | omega | (simp; omega) | (simp; done) | fail "sml")) _)); first | done | fail "chs")) (hb.mono (by (first | omega | (simp; omega) | (simp; done) | fail "sml")))
            have zOu7 := rOu7.size
            clear hb yW0 yW1 yW2 yD0 yD1 yD2 yA0 yA1 yA2 yO0 yO1 yO2
            obtain ⟨yW0, yW1, yW2⟩ := HKW.out _ rWu7
            obtain ⟨yD0, yD1, yD2⟩ := HKD.out _ rDu7
            obtain ⟨yA0, yA1, yA2⟩ := HKA.out _ rAu7
            obtain ⟨yO0, yO1, yO2⟩ := HKO.out _ rOu7
            go_wp2_with fail
            refine Calls.mono (labelValid_b (s := s) (by unfold maxLen; omega) EC) ?_
            rintro en u8 ⟨rfl, hb⟩
            have rwu8 := Below.trans (show Below w.heap.size w _ by ((repeat (first | with_reducible assumption | with_reducible exact Below.refl _ _ | refine Below.setCell ?_ (by (first | omega | (simp; omega) | (simp; done) | fail "sml")) _ | refine Below.drew ?_ | refine Below.alloc ?_ (by (first | omega | (simp; omega) | (simp; done) | fail "sml")) _)); first | done | fail "chs")) (hb.mono (by (first | omega | (simp; omega) | (simp; done) | fail "sml")))
            have zwu8 := rwu8.size
            have rWu8 := Below.trans (show Below W.heap.size W _ by ((repeat (first | with_reducible assumption | with_reducible exact Below.refl _ _ | refine Below.setCell ?_ (by (first | omega | (simp; omega) | (simp; done) | fail "sml")) _ | refine Below.drew ?_ | refine Below.alloc ?_ (by (first | omega | (simp; omega) | (simp; done) | fail "sml")) _)); first | done | fail "chs")) (hb.mono (by (first | omega | (simp; omega) | (simp; done) | fail "sml")))
            have zWu8 := rWu8.size
            have rDu8 := Below.trans (show Below D.heap.size D _ by ((repeat (first | with_reducible assumption | with_reducible exact Below.refl _ _ | refine Below.setCell ?_ (by (first | omega | (simp; omega) | (simp; done) | fail "sml")) _ | refine Below.drew ?_ | refine Below.alloc ?_ (by (first | omega | (simp; omega) | (simp; done) | fail "sml")) _)); first | done | fail "chs")) (hb.mono (by (first | omega | (simp; omega) | (simp; done) | fail "sml")))
            have zDu8 := rDu8.size
            have rAu8 := Below.trans (show Below A.heap.size A _ by ((repeat (first | with_reducible assumption | with_reducible exact Below.refl _ _ | refine Below.setCell ?_ (by (first | omega | (simp; omega) | (simp; done) | fail "sml")) _ | refine Below.drew ?_ | refine Below.alloc ?_ (by (first | omega | (simp; omega) | (simp; done) | fail "sml")) _)); first | done | fail "chs")) (hb.mono (by (first | omega | (simp; omega) | (simp; done) | fail "sml")))
            have zAu8 := rAu8.size
            have rOu8 := Below.trans (show Below O.heap.size O _ by ((repeat (first | with_reducible assumption | with_reducible exact Below.refl _ _ | refine Below.setCell ?_ (by (first | omega | (simp; omega) | (simp; done) | fail "sml")) _ | refine Below.drew ?_ | refine Below.alloc ?_ (by (first | omega | (simp; omega) | (simp; done) | fail "sml")) _)); first | done | fail "chs")) (hb.mono (by (first | omega | (simp; omega) | (simp; done) | fail "sml")))
            have zOu8 := rOu8.size
            clear hb yW0 yW1 yW2 yD0 yD1 yD2 yA0 yA1 yA2 yO0 yO1 yO2
            obtain ⟨yW0, yW1, yW2⟩ := HKW.out _ rWu8
            obtain ⟨yD0, yD1, yD2⟩ := HKD.out _ rDu8
            obtain ⟨yA0, yA1, yA2⟩ := HKA.out _ rAu8
            obtain ⟨yO0, yO1, yO2⟩ := HKO.out _ rOu8
            go_wp2_with fail
            refine Calls.mono (((lholds_two (s := s) EN hlb).1.trans (by rw [EB, EC0])) ▸ labelHolds_any (twoE 4 x0 x1) _ s A.heap.size _ (HAA.out.below (show Below A.heap.size A _ by ((repeat (first | with_reducible assumption | with_reducible exact Below.refl _ _ | refine Below.setCell ?_ (by (first | omega | (simp; omega) | (simp; done) | fail "sml")) _ | refine Below.drew ?_ | refine Below.alloc ?_ (by (first | omega | (simp; omega) | (simp; done) | fail "sml")) _)); first | done | fail "chs")) (Nat.le_refl _)) (show Below A.heap.size A _ by ((repeat (first | with_reducible assumption | with_reducible exact Below.refl _ _ | refine Below.setCell ?_ (by (first | omega | (simp; omega) | (simp; done) | fail "sml")) _ | refine Below.drew ?_ | refine Below.alloc ?_ (by (first | omega | (simp; omega) | (simp; done) | fail "sml")) _)); first | done | fail "chs")).size (twoE_sml hsm0 hsm1).1 (twoE_sml hsm0 hsm1).2 (by omega) (HVV.out.below (show Below w.heap.size w _ by ((repeat (first | with_reducible assumption | with_reducible exact Below.refl _ _ | refine Below.setCell ?_ (by (first | omega | (simp; omega) | (simp; done) | fail "sml")) _ | refine Below.drew ?_ | refine Below.alloc ?_ (by (first | omega | (simp; omega) | (simp; done) | fail "sml")) _)); first | done | fail "chs")))) ?_
            rintro en u9 ⟨rfl, hb⟩
            have rwu9 := Below.trans (show Below w.heap.size w _ by ((repeat (first | with_reducible assumption | with_reducible exact Below.refl _ _ | refine Below.setCell ?_ (by (first | omega | (simp; omega) | (simp; done) | fail "sml")) _ | refine Below.drew ?_ | refine Below.alloc ?_ (by (first | omega | (simp; omega) | (simp; done) | fail "sml")) _)); first | done | fail "chs")) (hb.mono (by (first | omega | (simp; omega) | (simp; done) | fail "sml")))
            have zwu9 := rwu9.size
            have rWu9 := Below.trans (show Below W.heap.size W _ by ((repeat (first | with_reducible assumption | with_reducible exact Below.refl _ _ | refine Below.setCell ?_ (by (first | omega | (simp; omega) | (simp; done) | fail "sml")) _ | refine Below.drew ?_ | refine Below.alloc ?_ (by (first | omega | (simp; omega) | (simp; done) | fail "sml")) _)); first | done | fail "chs")) (hb.mono (by (first | omega | (simp; omega) | (simp; done) | fail "sml")))
            have zWu9 := rWu9.size
            have rDu9 := Below.trans (show Below D.heap.size D _ by ((repeat (first | with_reducible assumption | with_reducible exact Below.refl _ _ | refine Below.setCell ?_ (by (first | omega | (simp; omega) | (simp; done) | fail "sml")) _ | refine Below.drew ?_ | refine Below.alloc ?_ (by (first | omega | (simp; omega) | (simp; done) | fail "sml")) _)); first | done | fail "chs")) (hb.mono (by (first | omega | (simp; omega) | (simp; done) | fail "sml")))
            have zDu9 := rDu9.size
            have rAu9 := Below.trans (show Below A.heap.size A _ by ((repeat (first | with_reducible assumption | with_reducible exact Below.refl _ _ | refine Below.setCell ?_ (by (first | omega | (simp; omega) | (simp; done) | fail "sml")) _ | refine Below.drew ?_ | refine Below.alloc ?_ (by (first | omega | (simp; omega) | (simp; done) | fail "sml")) _)); first | done | fail "chs")) (hb.mono (by (first | omega | (simp; omega) | (simp; done) | fail "sml")))
            have zAu9 := rAu9.size
            have rOu9 := Below.trans (show Below O.heap.size O _ by ((repeat (first | with_reducible assumption | with_reducible exact Below.refl _ _ | refine Below.setCell ?_ (by (first | omega | (simp; omega) | (simp; done) | fail "sml")) _ | refine Below.drew ?_ | refine Below.alloc ?_ (by (first | omega | (simp; omega) | (simp; done) | fail "sml")) _)); first | done | fail "chs")) (hb.mono (by (first | omega | (simp; omega) | (simp; done) | fail "sml")))
            have zOu9 := rOu9.size
            clear hb yW0 yW1 yW2 yD0 yD1 yD2 yA0 yA1 yA2 yO0 yO1 yO2
            obtain ⟨yW0, yW1, yW2⟩ := HKW.out _ rWu9
            obtain ⟨yD0, yD1, yD2⟩ := HKD.out _ rDu9
            obtain ⟨yA0, yA1, yA2⟩ := HKA.out _ rAu9
            obtain ⟨yO0, yO1, yO2⟩ := HKO.out _ rOu9
            go_wp2_with fail
            refine Calls.mono (((lholds_two (s := s) EN hlb).2.trans (by rw [EB, EC0])) ▸ labelHolds_any (twoE 5 x0 x1) _ s O.heap.size _ (HAO.out.below (show Below O.heap.size O _ by ((repeat (first | with_reducible assumption | with_reducible exact Below.refl _ _ | refine Below.setCell ?_ (by (first | omega | (simp; omega) | (simp; done) | fail "sml")) _ | refine Below.drew ?_ | refine Below.alloc ?_ (by (first | omega | (simp; omega) | (simp; done) | fail "sml")) _)); first | done | fail "chs")) (Nat.le_refl _)) (show Below O.heap.size O _ by ((repeat (first | with_reducible assumption | with_reducible exact Below.refl _ _ | refine Below.setCell ?_ (by (first | omega | (simp; omega) | (simp; done) | fail "sml")) _ | refine Below.drew ?_ | refine Below.alloc ?_ (by (first | omega | (simp; omega) | (simp; done) | fail "sml")) _)); first | done | fail "chs")).size (twoE_sml hsm0 hsm1).1 (twoE_sml hsm0 hsm1).2 (by omega) (HVV.out.below (show Below w.heap.size w _ by ((repeat (first | with_reducible assumption | with_reducible exact Below.refl _ _ | refine Below.setCell ?_ (by (first | omega | (simp; omega) | (simp; done) | fail "sml")) _ | refine Below.drew ?_ | refine Below.alloc ?_ (by (first | omega | (simp; omega) | (simp; done) | fail "sml")) _)); first | done | fail "chs")))) ?_
            rintro en u10 ⟨rfl, hb⟩
            have rwu10 := Below.trans (show Below w.heap.size w _ by ((repeat (first | with_reducible assumption | with_reducible exact Below.refl _ _ | refine Below.setCell ?_ (by (first | omega | (simp; omega) | (simp; done) | fail "sml")) _ | refine Below.drew ?_ | refine Below.alloc ?_ (by (first | omega | (simp; omega) | (simp; done) | fail "sml")) _)); first | done | fail "chs")) (hb.mono (by (first | omega | (simp; omega) | (simp; done) | fail "sml")))
            have zwu10 := rwu10.size
            have rWu10 := Below.trans (show Below W.heap.size W _ by ((repeat (first | with_reducible assumption | with_reducible exact Below.refl _ _ | refine Below.setCell ?_ (by (first | omega | (simp; omega) | (simp; done) | fail "sml")) _ | refine Below.drew ?_ | refine Below.alloc ?_ (by (first | omega | (simp; omega) | (simp; done) | fail "sml")) _)); first | done | fail "chs")) (hb.mono (by (first | omega | (simp; omega) | (simp; done) | fail "sml")))
            have zWu10 := rWu10.size
            have rDu10 := Below.trans (show Below D.heap.size D _ by ((repeat (first | with_reducible assumption | with_reducible exact Below.refl _ _ | refine Below.setCell ?_ (by (first | omega | (simp; omega) | (simp; done) | fail "sml")) _ | refine Below.drew ?_ | refine Below.alloc ?_ (by (first | omega | (simp; omega) | (simp; done) | fail "sml")) _)); first | done | fail "chs")) (hb.mono (by (first | omega | (simp; omega) | (simp; done) | fail "sml")))
            have zDu10 := rDu10.size
            have rAu10 := Below.trans (show Below A.heap.size A _ by ((repeat (first | with_reducible assumption | with_reducible exact Below.refl _ _ | refine Below.setCell ?_ (by (first | omega | (simp; omega) | (simp; done) | fail "sml")) _ | refine Below.drew ?_ | refine Below.alloc ?_ (by (first | omega | (simp; omega) | (simp; done) | fail "sml")) _)); first | done | fail "chs")) (hb.mono (by (first | omega | (simp; omega) | (simp; done) | fail "sml")))
            have zAu10 := rAu10.size
            have rOu10 := Below.trans (show Below O.heap.size O _ by ((repeat (first | with_reducible assumption | with_reducible exact Below.refl _ _ | refine Below.setCell ?_ (by (first | omega | (simp; omega) | (simp; done) | fail "sml")) _ | refine Below.drew ?_ | refine Below.alloc ?_ (by (first | omega | (simp; omega) | (simp; done) | fail "sml")) _)); first | done | fail "chs")) (hb.mono (by (first | omega | (simp; omega) | (simp; done) | fail "sml")))
            have zOu10 := rOu10.size
            clear hb yW0 yW1 yW2 yD0 yD1 yD2 yA0 yA1 yA2 yO0 yO1 yO2
            obtain ⟨yW0, yW1, yW2⟩ := HKW.out _ rWu10
            obtain ⟨yD0, yD1, yD2⟩ := HKD.out _ rDu10
            obtain ⟨yA0, yA1, yA2⟩ := HKA.out _ rAu10
            obtain ⟨yO0, yO1, yO2⟩ := HKO.out _ rOu10
            go_wp2_with fail
            go_ret
            exact ⟨rfl, by ((repeat (first | with_reducible assumption | with_reducible exact Below.refl _ _ | refine Below.setCell ?_ (by (first | omega | (simp; omega) | (simp; done) | fail "sml")) _ | refine Below.drew ?_ | refine Below.alloc ?_ (by (first | omega | (simp; omega) | (simp; done) | fail "sml")) _)); first | done | fail "chs")⟩
      | false =>
        have hlb : lbl s = false := by unfold lbl; simp [EC, hs0]
        go_wp2_with fail
        refine Calls.mono (EN ▸ exprValid_any (twoE 4 x0 x1) _ 1 A.heap.size _ (HAA.out.below (show Below A.heap.size A _ by ((repeat (first | with_reducible assumption | with_reducible exact Below.refl _ _ | refine Below.setCell ?_ (by (first | omega | (simp; omega) | (simp; done) | fail "sml")) _ | refine Below.drew ?_ | refine Below.alloc ?_ (by (first | omega | (simp; omega) | (simp; done) | fail "sml")) _)); first | done | fail "chs")) (Nat.le_refl _)) (show Below A.heap.size A _ by ((repeat (first | with_reducible assumption | with_reducible exact Below.refl _ _ | refine Below.setCell ?_ (by (first | omega | (simp; omega) | (simp; done) | fail "sml")) _ | refine Below.drew ?_ | refine Below.alloc ?_ (by (first | omega | (simp; omega) | (simp; done) | fail "sml")) _)); first | done | fail "chs")).size (twoE_sml hsm0 hsm1).1 (twoE_sml hsm0 hsm1).2 (HVV.out.below (show Below w.heap.size w _ by ((repeat (first | with_reducible assumption | with_reducible exact Below.refl _ _ | refine Below.setCell ?_ (by (first | omega | (simp; omega) | (simp; done) | fail "sml")) _ | refine Below.drew ?_ | refine Below.alloc ?_ (by (first | omega | (simp; omega) | (simp; done) | fail "sml")) _)); first | done | fail "chs")))) ?_
        rintro en u7 ⟨rfl, hb⟩
        have rwu7 := Below.trans (show Below w.heap.size w _ by ((repeat (first | with_reducible assumption | with_reducible exact Below.refl _ _ | refine Below.setCell ?_ (by (first | omega | (simp; omega) | (simp; done) | fail "sml")) _ | refine Below.drew ?_ | refine Below.alloc ?_ (by (first | omega | (simp; omega) | (simp; done) | fail "sml")) _)); first | done | fail "chs")) (hb.mono (by (first | omega | (simp; omega) | (simp; done) | fail "sml")))
        have zwu7 := rwu7.size
        have rWu7 := Below.trans (show Below W.heap.size W _ by ((repeat (first | with_reducible assumption | with_reducible exact Below.refl _ _ | refine Below.setCell ?_ (by (first | omega | (simp; omega) | (simp; done) | fail "sml")) _ | refine Below.drew ?_ | refine Below.alloc ?_ (by (first | omega | (simp; omega) | (simp; done) | fail "sml")) _)); first | done | fail "chs")) (hb.mono (by (first | omega | (simp; omega) | (simp; done) | fail "sml")))
        have zWu7 := rWu7.size
        have rDu7 := Below.trans (show Below D.heap.size D _ by ((repeat (first | with_reducible assumption | with_reducible exact Below.refl _ _ | refine Below.setCell ?_ (by (first | omega | (simp; omega) | (simp; done) | fail "sml")) _ | refine Below.drew ?_ | refine Below.alloc ?_ (by (first | omega | (simp; omega) | (simp; done) | fail "sml")) _)); first | done | fail "chs")) (hb.mono (by (first | omega | (simp; omega) | (simp; done) | fail "sml")))
        have zDu7 := rDu7.size
        have rAu7 := Below.trans (show Below A.heap.size A _ by ((repeat (first | with_reducible assumption | with_reducible exact Below.refl _ _ | refine Below.setCell ?_ (by (first | omega | (simp; omega) | (simp; done) | fail "sml")) _ | refine Below.drew ?_ | refine Below.alloc ?_ (by (first | omega | (simp; omega) | (simp; done) | fail "sml")) _)); first | done | fail "chs")) (hb.mono (by (first | omega | (simp; omega) | (simp; done) | fail "sml")))
        have zAu7 := rAu7.size
        have rOu7 := Below.trans (show Below O.heap.size O _ by ((repeat (first | with_reducible assumption | with_reducible exact Below.refl _ _ | refine Below.setCell ?_ (by (first | omega | (simp; omega) | (simp; done) | fail "sml")) _ | refine Below.drew ?_ | refine Below.alloc ?_ (by (first | omega | (simp; omega) | (simp; done) | fail "sml")) _)); first | done | fail "chs")) (hb.mono (by (first | omega | (simp; omega) | (simp; done) | fail "sml")))
        have zOu7 := rOu7.size
        clear hb yW0 yW1 yW2 yD0 yD1 yD2 yA0 yA1 yA2 yO0 yO1 yO2
        obtain ⟨yW0, yW1, yW2⟩ := HKW.out _ rWu7
        obtain ⟨yD0, yD1, yD2⟩ := HKD.out _ rDu7
        obtain ⟨yA0, yA1, yA2⟩ := HKA.out _ rAu7
        obtain ⟨yO0, yO1, yO2⟩ := HKO.out _ rOu7
        go_wp2_with fail
        refine Calls.mono (labelValid_b (s := s) (by unfold maxLen; omega) EC) ?_
        rintro en u8 ⟨rfl, hb⟩
        have rwu8 := Below.trans (show Below w.heap.size w _ by ((repeat (first | with_reducible assumption | with_reducible exact Below.refl _ _ | refine Below.setCell ?_ (by (first | omega | (simp; omega) | (simp; done) | fail "sml")) _ | refine Below.drew ?_ | refine Below.alloc ?_ (by (first | omega | (simp; omega) | (simp; done) | fail "sml")) _)); first | done | fail "chs")) (hb.mono (by (first | omega | (simp; omega) | (simp; done) | fail "sml")))
        have zwu8 := rwu8.size
        have rWu8 := Below.trans (show Below W.heap.size W _ by ((repeat (first | with_reducible assumption | with_reducible exact Below.refl _ _ | refine Below.setCell ?_ (by (first | omega | (simp; omega) | (simp; done) | fail "sml")) _ | refine Below.drew ?_ | refine Below.alloc ?_ (by (first | omega | (simp; omega) | (simp; done) | fail "sml")) _)); first | done | fail "chs")) (hb.mono (by (first | omega | (simp; omega) | (simp; done) | fail "sml")))
        have zWu8 := rWu8.size
        have rDu8 := Below.trans (show Below D.heap.size D _ by ((repeat (first | with_reducible assumption | with_reducible exact Below.refl _ _ | refine Below.setCell ?_ (by (first | omega | (simp; omega) | (simp; done) | fail "sml")) _ | refine Below.drew ?_ | refine Below.alloc ?_ (by (first | omega | (simp; omega) | (simp; done) | fail "sml")) _)); first | done | fail "chs")) (hb.mono (by (first | omega | (simp; omega) | (simp; done) | fail "sml")))
        have zDu8 := rDu8.size
        have rAu8 := Below.trans (show Below A.heap.size A _ by ((repeat (first | with_reducible assumption | with_reducible exact Below.refl _ _ | refine Below.setCell ?_ (by (first | omega | (simp; omega) | (simp; done) | fail "sml")) _ | refine Below.drew ?_ | refine Below.alloc ?_ (by (first | omega | (simp; omega) | (simp; done) | fail "sml")) _)); first | done | fail "chs")) (hb.mono (by (first | omega | (simp; omega) | (simp; done) | fail "sml")))
        have zAu8 := rAu8.size
        have rOu8 := Below.trans (show Below O.heap.size O _ by ((repeat (first | with_reducible assumption | with_reducible exact Below.refl _ _ | refine Below.setCell ?_ (by (first | omega | (simp; omega) | (simp; done) | fail "sml")) _ | refine Below.drew ?_ | refine Below.alloc ?_ (by (first | omega | (simp; omega) | (simp; done) | fail "sml")) _)); first | done | fail "chs")) (hb.mono (by (first | omega | (simp; omega) | (simp; done) | fail "sml")))
        have zOu8 := rOu8.size
        clear hb yW0 yW1 yW2 yD0 yD1 yD2 yA0 yA1 yA2 yO0 yO1 yO2
        obtain ⟨yW0, yW1, yW2⟩ := HKW.out _ rWu8
        obtain ⟨yD0, yD1, yD2⟩ := HKD.out _ rDu8
        obtain ⟨yA0, yA1, yA2⟩ := HKA.out _ rAu8
        obtain ⟨yO0, yO1, yO2⟩ := HKO.out _ rOu8
        go_wp2_with fail
        go_ret
        exact ⟨rfl, by ((repeat (first | with_reducible assumption | with_reducible exact Below.refl _ _ | refine Below.setCell ?_ (by (first | omega | (simp; omega) | (simp; done) | fail "sml")) _ | refine Below.drew ?_ | refine Below.alloc ?_ (by (first | omega | (simp; omega) | (simp; done) | fail "sml")) _)); first | done | fail "chs")⟩
end Go.Proofs.YtckkebjpkcfmnaaDoor
