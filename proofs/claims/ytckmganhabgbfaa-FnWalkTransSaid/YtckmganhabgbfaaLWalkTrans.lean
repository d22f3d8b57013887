/- The walk of FnWalkTrans. -/
import Derived.Test.YtckmganhabgbfaaL5T
import Derived.Test.YtckmganhabgbfaaWkLaw
import Derived.Test.YtckmganhabgbfaaWkO2
namespace Go.Proofs.Ytckmganhabgbfaa
open Go.RowKit

set_option maxRecDepth 100000 in
set_option maxHeartbeats 16000000 in
theorem lawWalkTrans (zs zs' : List Int) (v v' : Value) (w : World) (hv : Sl 1 byCells w.heap.size w v zs) (hz : ∀ z ∈ zs, 0 ≤ z ∧ z ≤ 255) (hv' : Sl 1 byCells w.heap.size w v' zs') (hz' : ∀ z ∈ zs', 0 ≤ z ∧ z ≤ 255) :
    Calls Try.prog 9 #[v, v'] w fun e w' => e = .returned (.bool true) ∧ Below w.heap.size w w' := by
  obtain ⟨p, cap, rfl⟩ := hv.form
  obtain ⟨p', cap', rfl⟩ := hv'.form
  have hm := hv.max
  have hm' := hv'.max
  unfold maxLen at hm hm'
  by_cases hb : (1048576 : Int) < zs.length
  · go_enter Try.func9, Try.ntmps9
    go_wp2_with fail
    go_ret
    exact ⟨rfl, Below.refl _ _⟩
  by_cases hb' : (1048576 : Int) < zs'.length
  · go_enter Try.func9, Try.ntmps9
    go_wp2_with fail
    go_ret
    exact ⟨rfl, Below.refl _ _⟩
  · have HV := Lib.hid hv'
    go_enter Try.func9, Try.ntmps9
    go_wp2_with fail
    refine (drawWalkBefore_any zs _ w.heap.size _ hv (Nat.le_refl _) hz).mono ?_
    rintro e wx ⟨x, vx, Fx, y, vy, Fy, rfl, hx, hy, hb1⟩
    obtain ⟨px, cx, qx, dx, rfl⟩ := hx.1.form
    obtain ⟨py, cy, qy, dy, rfl⟩ := hy.1.form
    have HX := Lib.hid hx.1.at
    have HY := Lib.hid hy.1.at
    have HB1 := Lib.hid hb1
    have HNx := Lib.hid (show x.need ≤ 1048576 by have := hx.2.2; omega)
    have HNy := Lib.hid (show y.need ≤ 1048576 by have := hy.2.2; omega)
    have s1 := hb1.size
    clear hx hy hb1 hv hv'
    go_upto_region 4 with fail
    obtain ⟨W1, eW1⟩ : ∃ E, E = (wx.alloc (.cells #[.slice px x.ns.length cx, .slice qx x.es.length dx] 25)).alloc (.cells #[.slice py y.ns.length cy, .slice qy y.es.length dy] 25) := ⟨_, rfl⟩
    have s2 : wx.heap.size + 1 < W1.heap.size := by rw [eW1]; simp
    have hbW1 : Below wx.heap.size wx W1 := by rw [eW1]; exact ((Below.refl _ _).alloc (Nat.le_refl _) _).alloc (by simp) _
    have HC1 := Lib.hid (show (W1.cell? ⟨wx.heap.size, 0, none⟩ = some (.slice px x.ns.length cx) ∧ W1.cell? ⟨wx.heap.size, 1, none⟩ = some (.slice qx x.es.length dx)) ∧ (W1.cell? ⟨wx.heap.size + 1, 0, none⟩ = some (.slice py y.ns.length cy) ∧ W1.cell? ⟨wx.heap.size + 1, 1, none⟩ = some (.slice qy y.es.length dy)) by rw [eW1]; exact ⟨⟨by simp [go_sem], by simp [go_sem]⟩, by simp [go_sem], by simp [go_sem]⟩)
    rw [← eW1]
    clear eW1
    have HBW1 := Lib.hid ((HB1.out.trans (hbW1.mono s1)) : Below w.heap.size w W1)
    have HX1 := Lib.hid (HX.out.to hbW1 (Nat.le_refl _))
    have HY1 := Lib.hid (HY.out.to hbW1 (Nat.le_refl _))
    clear hbW1
    go_wp2_with fail
    refine (drawWalkBefore_any zs' _ w.heap.size W1 (HV.out.below HBW1.out) (by omega) hz').mono ?_
    rintro e wz ⟨z, vz, Fz, t, vt, Ft, rfl, hx, hy, hb1⟩
    obtain ⟨pz, cz, qz, dz, rfl⟩ := hx.1.form
    obtain ⟨pt, ct, qt, dt, rfl⟩ := hy.1.form
    have HZ := Lib.hid hx.1.at
    have HB2 := Lib.hid hb1
    have HNz := Lib.hid (show z.need ≤ 1048576 by have := hx.2.2; omega)
    have s4 := hb1.size
    clear hx hy hb1
    go_upto_region 5 with fail
    obtain ⟨W, eW⟩ : ∃ E, E = (wz.alloc (.cells #[.slice pz z.ns.length cz, .slice qz z.es.length dz] 25)).alloc (.cells #[.slice pt t.ns.length ct, .slice qt t.es.length dt] 25) := ⟨_, rfl⟩
    have s3 : wz.heap.size + 1 < W.heap.size := by rw [eW]; simp
    have hbW : Below wz.heap.size wz W := by rw [eW]; exact ((Below.refl _ _).alloc (Nat.le_refl _) _).alloc (by simp) _
    have HC := Lib.hid (show (W.cell? ⟨wz.heap.size, 0, none⟩ = some (.slice pz z.ns.length cz) ∧ W.cell? ⟨wz.heap.size, 1, none⟩ = some (.slice qz z.es.length dz)) by rw [eW]; exact ⟨by simp [go_sem], by simp [go_sem]⟩)
    rw [← eW]
    clear eW
    have hbm : Below W1.heap.size W1 W := HB2.out.trans (hbW.mono s4)
    have HK := Lib.hid (fun (E : World) (hE : Below W.heap.size W E) => And.intro (And.intro (keepc (b := wx.heap.size) hE (by omega) (keepc hbm (by omega) HC1.out.1.1)) (keepc (b := wx.heap.size) hE (by omega) (keepc hbm (by omega) HC1.out.1.2))) (And.intro (And.intro (keepc (b := wx.heap.size + 1) hE (by omega) (keepc hbm (by omega) HC1.out.2.1)) (keepc (b := wx.heap.size + 1) hE (by omega) (keepc hbm (by omega) HC1.out.2.2))) (And.intro (keepc (b := wz.heap.size) hE (by omega) HC.out.1) (keepc (b := wz.heap.size) hE (by omega) HC.out.2))))
    have HA := Lib.hid (fun (E : World) (hE : Below W.heap.size W E) => (show x.At W.heap.size E (.agg #[.slice px x.ns.length cx, .slice qx x.es.length dx]) ∧ y.At W.heap.size E (.agg #[.slice py y.ns.length cy, .slice qy y.es.length dy]) ∧ z.At W.heap.size E (.agg #[.slice pz z.ns.length cz, .slice qz z.es.length dz]) from ⟨(HX1.out.to (hbm.mono (by omega)) (Nat.le_refl _)).to (hE.mono (by omega)) (by omega), (HY1.out.to (hbm.mono (by omega)) (Nat.le_refl _)).to (hE.mono (by omega)) (by omega), (HZ.out.to hbW (Nat.le_refl _)).to (hE.mono (by omega)) (by omega)⟩))
    have HBW := Lib.hid ((HBW1.out.trans (hbm.mono (by omega))) : Below w.heap.size w W)
    clear hbW hbm
    have r0 := Below.refl W.heap.size W
    obtain ⟨⟨y0, y1⟩, ⟨y2, y3⟩, y4, y5⟩ := HK.out _ r0
    go_wp2_with fail
    refine Calls.mono (walkBefore_any x y _ _ W.heap.size _ (HA.out _ (show Below W.heap.size W _ by ((repeat (first | with_reducible assumption | with_reducible exact Below.refl _ _ | refine Below.setCell ?_ (by (first | omega | (simp; omega) | (simp; done) | fail "sml")) _ | refine Below.drew ?_ | refine Below.alloc ?_ (by (first | omega | (simp; omega) | (simp; done) | fail "sml")) _)); first | done | fail "chs"))).1 (HA.out _ (show Below W.heap.size W _ by ((repeat (first | with_reducible assumption | with_reducible exact Below.refl _ _ | refine Below.setCell ?_ (by (first | omega | (simp; omega) | (simp; done) | fail "sml")) _ | refine Below.drew ?_ | refine Below.alloc ?_ (by (first | omega | (simp; omega) | (simp; done) | fail "sml")) _)); first | done | fail "chs"))).2.1 (show Below W.heap.size W _ by ((repeat (first | with_reducible assumption | with_reducible exact Below.refl _ _ | refine Below.setCell ?_ (by (first | omega | (simp; omega) | (simp; done) | fail "sml")) _ | refine Below.drew ?_ | refine Below.alloc ?_ (by (first | omega | (simp; omega) | (simp; done) | fail "sml")) _)); first | done | fail "chs")).size) ?_
    rintro e wa ⟨rfl, hb⟩
    have rwa := Below.trans (show Below W.heap.size W _ by ((repeat (first | with_reducible assumption | with_reducible exact Below.refl _ _ | refine Below.setCell ?_ (by (first | omega | (simp; omega) | (simp; done) | fail "sml")) _ | refine Below.drew ?_ | refine Below.alloc ?_ (by (first | omega | (simp; omega) | (simp; done) | fail "sml")) _)); first | done | fail "chs")) (hb.mono (by (first | omega | (simp; omega) | (simp; done) | fail "sml")))
    have zwa := rwa.size
    clear hb y0 y1 y2 y3 y4 y5
    obtain ⟨⟨y0, y1⟩, ⟨y2, y3⟩, y4, y5⟩ := HK.out _ rwa
    go_wp2_with fail

    refine Calls.mono (walkBefore_any y z _ _ W.heap.size _ (HA.out _ (show Below W.heap.size W _ by ((repeat (first | with_reducible assumption | with_reducible exact Below.refl _ _ | refine Below.setCell ?_ (by (first | omega | (simp; omega) | (simp; done) | fail "sml")) _ | refine Below.drew ?_ | refine Below.alloc ?_ (by (first | omega | (simp; omega) | (simp; done) | fail "sml")) _)); first | done | fail "chs"))).2.1 (HA.out _ (show Below W.heap.size W _ by ((repeat (first | with_reducible assumption | with_reducible exact Below.refl _ _ | refine Below.setCell ?_ (by (first | omega | (simp; omega) | (simp; done) | fail "sml")) _ | refine Below.drew ?_ | refine Below.alloc ?_ (by (first | omega | (simp; omega) | (simp; done) | fail "sml")) _)); first | done | fail "chs"))).2.2 (show Below W.heap.size W _ by ((repeat (first | with_reducible assumption | with_reducible exact Below.refl _ _ | refine Below.setCell ?_ (by (first | omega | (simp; omega) | (simp; done) | fail "sml")) _ | refine Below.drew ?_ | refine Below.alloc ?_ (by (first | omega | (simp; omega) | (simp; done) | fail "sml")) _)); first | done | fail "chs")).size) ?_
    rintro e wb ⟨rfl, hb⟩
    have rwb := Below.trans (show Below W.heap.size W _ by ((repeat (first | with_reducible assumption | with_reducible exact Below.refl _ _ | refine Below.setCell ?_ (by (first | omega | (simp; omega) | (simp; done) | fail "sml")) _ | refine Below.drew ?_ | refine Below.alloc ?_ (by (first | omega | (simp; omega) | (simp; done) | fail "sml")) _)); first | done | fail "chs")) (hb.mono (by (first | omega | (simp; omega) | (simp; done) | fail "sml")))
    have zwb := rwb.size
    clear hb y0 y1 y2 y3 y4 y5
    obtain ⟨⟨y0, y1⟩, ⟨y2, y3⟩, y4, y5⟩ := HK.out _ rwb
    cases h1 : wkBefore x y with
    | false =>
      cases h2 : wkBefore y z with
      | false =>
        go_wp2_with fail
        refine Calls.mono (specWalkBefore_any x y _ _ W.heap.size _ (HA.out _ (show Below W.heap.size W _ by ((repeat (first | with_reducible assumption | with_reducible exact Below.refl _ _ | refine Below.setCell ?_ (by (first | omega | (simp; omega) | (simp; done) | fail "sml")) _ | refine Below.drew ?_ | refine Below.alloc ?_ (by (first | omega | (simp; omega) | (simp; done) | fail "sml")) _)); first | done | fail "chs"))).1 (HA.out _ (show Below W.heap.size W _ by ((repeat (first | with_reducible assumption | with_reducible exact Below.refl _ _ | refine Below.setCell ?_ (by (first | omega | (simp; omega) | (simp; done) | fail "sml")) _ | refine Below.drew ?_ | refine Below.alloc ?_ (by (first | omega | (simp; omega) | (simp; done) | fail "sml")) _)); first | done | fail "chs"))).2.1 (show Below W.heap.size W _ by ((repeat (first | with_reducible assumption | with_reducible exact Below.refl _ _ | refine Below.setCell ?_ (by (first | omega | (simp; omega) | (simp; done) | fail "sml")) _ | refine Below.drew ?_ | refine Below.alloc ?_ (by (first | omega | (simp; omega) | (simp; done) | fail "sml")) _)); first | done | fail "chs")).size HNx.out HNy.out) ?_
        rintro e wd ⟨rfl, hb⟩
        have rwd := Below.trans (show Below W.heap.size W _ by ((repeat (first | with_reducible assumption | with_reducible exact Below.refl _ _ | refine Below.setCell ?_ (by (first | omega | (simp; omega) | (simp; done) | fail "sml")) _ | refine Below.drew ?_ | refine Below.alloc ?_ (by (first | omega | (simp; omega) | (simp; done) | fail "sml")) _)); first | done | fail "chs")) (hb.mono (by (first | omega | (simp; omega) | (simp; done) | fail "sml")))
        have zwd := rwd.size
        clear hb y0 y1 y2 y3 y4 y5
        obtain ⟨⟨y0, y1⟩, ⟨y2, y3⟩, y4, y5⟩ := HK.out _ rwd
        rw [h1]
        go_wp2_with fail
        refine Calls.mono (specWalkBefore_any y z _ _ W.heap.size _ (HA.out _ (show Below W.heap.size W _ by ((repeat (first | with_reducible assumption | with_reducible exact Below.refl _ _ | refine Below.setCell ?_ (by (first | omega | (simp; omega) | (simp; done) | fail "sml")) _ | refine Below.drew ?_ | refine Below.alloc ?_ (by (first | omega | (simp; omega) | (simp; done) | fail "sml")) _)); first | done | fail "chs"))).2.1 (HA.out _ (show Below W.heap.size W _ by ((repeat (first | with_reducible assumption | with_reducible exact Below.refl _ _ | refine Below.setCell ?_ (by (first | omega | (simp; omega) | (simp; done) | fail "sml")) _ | refine Below.drew ?_ | refine Below.alloc ?_ (by (first | omega | (simp; omega) | (simp; done) | fail "sml")) _)); first | done | fail "chs"))).2.2 (show Below W.heap.size W _ by ((repeat (first | with_reducible assumption | with_reducible exact Below.refl _ _ | refine Below.setCell ?_ (by (first | omega | (simp; omega) | (simp; done) | fail "sml")) _ | refine Below.drew ?_ | refine Below.alloc ?_ (by (first | omega | (simp; omega) | (simp; done) | fail "sml")) _)); first | done | fail "chs")).size HNy.out HNz.out) ?_
        rintro e we ⟨rfl, hb⟩
        have rwe := Below.trans (show Below W.heap.size W _ by ((repeat (first | with_reducible assumption | with_reducible exact Below.refl _ _ | refine Below.setCell ?_ (by (first | omega | (simp; omega) | (simp; done) | fail "sml")) _ | refine Below.drew ?_ | refine Below.alloc ?_ (by (first | omega | (simp; omega) | (simp; done) | fail "sml")) _)); first | done | fail "chs")) (hb.mono (by (first | omega | (simp; omega) | (simp; done) | fail "sml")))
        have zwe := rwe.size
        clear hb y0 y1 y2 y3 y4 y5
        obtain ⟨⟨y0, y1⟩, ⟨y2, y3⟩, y4, y5⟩ := HK.out _ rwe
        rw [h2]
        go_wp2_with fail
        go_ret
        exact ⟨rfl, HBW.out.trans ((show Below W.heap.size W _ by ((repeat (first | with_reducible assumption | with_reducible exact Below.refl _ _ | refine Below.setCell ?_ (by (first | omega | (simp; omega) | (simp; done) | fail "sml")) _ | refine Below.drew ?_ | refine Below.alloc ?_ (by (first | omega | (simp; omega) | (simp; done) | fail "sml")) _)); first | done | fail "chs")).mono (by omega))⟩
      | true =>
        go_wp2_with fail
        refine Calls.mono (specWalkBefore_any x y _ _ W.heap.size _ (HA.out _ (show Below W.heap.size W _ by ((repeat (first | with_reducible assumption | with_reducible exact Below.refl _ _ | refine Below.setCell ?_ (by (first | omega | (simp; omega) | (simp; done) | fail "sml")) _ | refine Below.drew ?_ | refine Below.alloc ?_ (by (first | omega | (simp; omega) | (simp; done) | fail "sml")) _)); first | done | fail "chs"))).1 (HA.out _ (show Below W.heap.size W _ by ((repeat (first | with_reducible assumption | with_reducible exact Below.refl _ _ | refine Below.setCell ?_ (by (first | omega | (simp; omega) | (simp; done) | fail "sml")) _ | refine Below.drew ?_ | refine Below.alloc ?_ (by (first | omega | (simp; omega) | (simp; done) | fail "sml")) _)); first | done | fail "chs"))).2.1 (show Below W.heap.size W _ by ((repeat (first | with_reducible assumption | with_reducible exact Below.refl _ _ | refine Below.setCell ?_ (by (first | omega | (simp; omega) | (simp; done) | fail "sml")) _ | refine Below.drew ?_ | refine Below.alloc ?_ (by (first | omega | (simp; omega) | (simp; done) | fail "sml")) _)); first | done | fail "chs")).size HNx.out HNy.out) ?_
        rintro e wd ⟨rfl, hb⟩
        have rwd := Below.trans (show Below W.heap.size W _ by ((repeat (first | with_reducible assumption | with_reducible exact Below.refl _ _ | refine Below.setCell ?_ (by (first | omega | (simp; omega) | (simp; done) | fail "sml")) _ | refine Below.drew ?_ | refine Below.alloc ?_ (by (first | omega | (simp; omega) | (simp; done) | fail "sml")) _)); first | done | fail "chs")) (hb.mono (by (first | omega | (simp; omega) | (simp; done) | fail "sml")))
        have zwd := rwd.size
        clear hb y0 y1 y2 y3 y4 y5
        obtain ⟨⟨y0, y1⟩, ⟨y2, y3⟩, y4, y5⟩ := HK.out _ rwd
        rw [h1]
        go_wp2_with fail
        refine Calls.mono (specWalkBefore_any y z _ _ W.heap.size _ (HA.out _ (show Below W.heap.size W _ by ((repeat (first | with_reducible assumption | with_reducible exact Below.refl _ _ | refine Below.setCell ?_ (by (first | omega | (simp; omega) | (simp; done) | fail "sml")) _ | refine Below.drew ?_ | refine Below.alloc ?_ (by (first | omega | (simp; omega) | (simp; done) | fail "sml")) _)); first | done | fail "chs"))).2.1 (HA.out _ (show Below W.heap.size W _ by ((repeat (first | with_reducible assumption | with_reducible exact Below.refl _ _ | refine Below.setCell ?_ (by (first | omega | (simp; omega) | (simp; done) | fail "sml")) _ | refine Below.drew ?_ | refine Below.alloc ?_ (by (first | omega | (simp; omega) | (simp; done) | fail "sml")) _)); first | done | fail "chs"))).2.2 (show Below W.heap.size W _ by ((repeat (first | with_reducible assumption | with_reducible exact Below.refl _ _ | refine Below.setCell ?_ (by (first | omega | (simp; omega) | (simp; done) | fail "sml")) _ | refine Below.drew ?_ | refine Below.alloc ?_ (by (first | omega | (simp; omega) | (simp; done) | fail "sml")) _)); first | done | fail "chs")).size HNy.out HNz.out) ?_
        rintro e we ⟨rfl, hb⟩
        have rwe := Below.trans (show Below W.heap.size W _ by ((repeat (first | with_reducible assumption | with_reducible exact Below.refl _ _ | refine Below.setCell ?_ (by (first | omega | (simp; omega) | (simp; done) | fail "sml")) _ | refine Below.drew ?_ | refine Below.alloc ?_ (by (first | omega | (simp; omega) | (simp; done) | fail "sml")) _)); first | done | fail "chs")) (hb.mono (by (first | omega | (simp; omega) | (simp; done) | fail "sml")))
        have zwe := rwe.size
        clear hb y0 y1 y2 y3 y4 y5
        obtain ⟨⟨y0, y1⟩, ⟨y2, y3⟩, y4, y5⟩ := HK.out _ rwe
        rw [h2]
        go_wp2_with fail
        go_ret
        exact ⟨rfl, HBW.out.trans ((show Below W.heap.size W _ by ((repeat (first | with_reducible assumption | with_reducible exact Below.refl _ _ | refine Below.setCell ?_ (by (first | omega | (simp; omega) | (simp; done) | fail "sml")) _ | refine Below.drew ?_ | refine Below.alloc ?_ (by (first | omega | (simp; omega) | (simp; done) | fail "sml")) _)); first | done | fail "chs")).mono (by omega))⟩
    | true =>
      cases h2 : wkBefore y z with
      | false =>
        go_wp2_with fail
        refine Calls.mono (specWalkBefore_any x y _ _ W.heap.size _ (HA.out _ (show Below W.heap.size W _ by ((repeat (first | with_reducible assumption | with_reducible exact Below.refl _ _ | refine Below.setCell ?_ (by (first | omega | (simp; omega) | (simp; done) | fail "sml")) _ | refine Below.drew ?_ | refine Below.alloc ?_ (by (first | omega | (simp; omega) | (simp; done) | fail "sml")) _)); first | done | fail "chs"))).1 (HA.out _ (show Below W.heap.size W _ by ((repeat (first | with_reducible assumption | with_reducible exact Below.refl _ _ | refine Below.setCell ?_ (by (first | omega | (simp; omega) | (simp; done) | fail "sml")) _ | refine Below.drew ?_ | refine Below.alloc ?_ (by (first | omega | (simp; omega) | (simp; done) | fail "sml")) _)); first | done | fail "chs"))).2.1 (show Below W.heap.size W _ by ((repeat (first | with_reducible assumption | with_reducible exact Below.refl _ _ | refine Below.setCell ?_ (by (first | omega | (simp; omega) | (simp; done) | fail "sml")) _ | refine Below.drew ?_ | refine Below.alloc ?_ (by (first | omega | (simp; omega) | (simp; done) | fail "sml")) _)); first | done | fail "chs")).size HNx.out HNy.out) ?_
        rintro e wd ⟨rfl, hb⟩
        have rwd := Below.trans (show Below W.heap.size W _ by ((repeat (first | with_reducible assumption | with_reducible exact Below.refl _ _ | refine Below.setCell ?_ (by (first | omega | (simp; omega) | (simp; done) | fail "sml")) _ | refine Below.drew ?_ | refine Below.alloc ?_ (by (first | omega | (simp; omega) | (simp; done) | fail "sml")) _)); first | done | fail "chs")) (hb.mono (by (first | omega | (simp; omega) | (simp; done) | fail "sml")))
        have zwd := rwd.size
        clear hb y0 y1 y2 y3 y4 y5
        obtain ⟨⟨y0, y1⟩, ⟨y2, y3⟩, y4, y5⟩ := HK.out _ rwd
        rw [h1]
        go_wp2_with fail
        refine Calls.mono (specWalkBefore_any y z _ _ W.heap.size _ (HA.out _ (show Below W.heap.size W _ by ((repeat (first | with_reducible assumption | with_reducible exact Below.refl _ _ | refine Below.setCell ?_ (by (first | omega | (simp; omega) | (simp; done) | fail "sml")) _ | refine Below.drew ?_ | refine Below.alloc ?_ (by (first | omega | (simp; omega) | (simp; done) | fail "sml")) _)); first | done | fail "chs"))).2.1 (HA.out _ (show Below W.heap.size W _ by ((repeat (first | with_reducible assumption | with_reducible exact Below.refl _ _ | refine Below.setCell ?_ (by (first | omega | (simp; omega) | (simp; done) | fail "sml")) _ | refine Below.drew ?_ | refine Below.alloc ?_ (by (first | omega | (simp; omega) | (simp; done) | fail "sml")) _)); first | done | fail "chs"))).2.2 (show Below W.heap.size W _ by ((repeat (first | with_reducible assumption | with_reducible exact Below.refl _ _ | refine Below.setCell ?_ (by (first | omega | (simp; omega) | (simp; done) | fail "sml")) _ | refine Below.drew ?_ | refine Below.alloc ?_ (by (first | omega | (simp; omega) | (simp; done) | fail "sml")) _)); first | done | fail "chs")).size HNy.out HNz.out) ?_
        rintro e we ⟨rfl, hb⟩
        have rwe := Below.trans (show Below W.heap.size W _ by ((repeat (first | with_reducible assumption | with_reducible exact Below.refl _ _ | refine Below.setCell ?_ (by (first | omega | (simp; omega) | (simp; done) | fail "sml")) _ | refine Below.drew ?_ | refine Below.alloc ?_ (by (first | omega | (simp; omega) | (simp; done) | fail "sml")) _)); first | done | fail "chs")) (hb.mono (by (first | omega | (simp; omega) | (simp; done) | fail "sml")))
        have zwe := rwe.size
        clear hb y0 y1 y2 y3 y4 y5
        obtain ⟨⟨y0, y1⟩, ⟨y2, y3⟩, y4, y5⟩ := HK.out _ rwe
        rw [h2]
        go_wp2_with fail
        go_ret
        exact ⟨rfl, HBW.out.trans ((show Below W.heap.size W _ by ((repeat (first | with_reducible assumption | with_reducible exact Below.refl _ _ | refine Below.setCell ?_ (by (first | omega | (simp; omega) | (simp; done) | fail "sml")) _ | refine Below.drew ?_ | refine Below.alloc ?_ (by (first | omega | (simp; omega) | (simp; done) | fail "sml")) _)); first | done | fail "chs")).mono (by omega))⟩
      | true =>
        go_wp2_with fail
        refine Calls.mono (specWalkBefore_any x y _ _ W.heap.size _ (HA.out _ (show Below W.heap.size W _ by ((repeat (first | with_reducible assumption | with_reducible exact Below.refl _ _ | refine Below.setCell ?_ (by (first | omega | (simp; omega) | (simp; done) | fail "sml")) _ | refine Below.drew ?_ | refine Below.alloc ?_ (by (first | omega | (simp; omega) | (simp; done) | fail "sml")) _)); first | done | fail "chs"))).1 (HA.out _ (show Below W.heap.size W _ by ((repeat (first | with_reducible assumption | with_reducible exact Below.refl _ _ | refine Below.setCell ?_ (by (first | omega | (simp; omega) | (simp; done) | fail "sml")) _ | refine Below.drew ?_ | refine Below.alloc ?_ (by (first | omega | (simp; omega) | (simp; done) | fail "sml")) _)); first | done | fail "chs"))).2.1 (show Below W.heap.size W _ by ((repeat (first | with_reducible assumption | with_reducible exact Below.refl _ _ | refine Below.setCell ?_ (by (first | omega | (simp; omega) | (simp; done) | fail "sml")) _ | refine Below.drew ?_ | refine Below.alloc ?_ (by (first | omega | (simp; omega) | (simp; done) | fail "sml")) _)); first | done | fail "chs")).size HNx.out HNy.out) ?_
        rintro e wd ⟨rfl, hb⟩
        have rwd := Below.trans (show Below W.heap.size W _ by ((repeat (first | with_reducible assumption | with_reducible exact Below.refl _ _ | refine Below.setCell ?_ (by (first | omega | (simp; omega) | (simp; done) | fail "sml")) _ | refine Below.drew ?_ | refine Below.alloc ?_ (by (first | omega | (simp; omega) | (simp; done) | fail "sml")) _)); first | done | fail "chs")) (hb.mono (by (first | omega | (simp; omega) | (simp; done) | fail "sml")))
        have zwd := rwd.size
        clear hb y0 y1 y2 y3 y4 y5
        obtain ⟨⟨y0, y1⟩, ⟨y2, y3⟩, y4, y5⟩ := HK.out _ rwd
        rw [h1]
        go_wp2_with fail
        refine Calls.mono (specWalkBefore_any y z _ _ W.heap.size _ (HA.out _ (show Below W.heap.size W _ by ((repeat (first | with_reducible assumption | with_reducible exact Below.refl _ _ | refine Below.setCell ?_ (by (first | omega | (simp; omega) | (simp; done) | fail "sml")) _ | refine Below.drew ?_ | refine Below.alloc ?_ (by (first | omega | (simp; omega) | (simp; done) | fail "sml")) _)); first | done | fail "chs"))).2.1 (HA.out _ (show Below W.heap.size W _ by ((repeat (first | with_reducible assumption | with_reducible exact Below.refl _ _ | refine Below.setCell ?_ (by (first | omega | (simp; omega) | (simp; done) | fail "sml")) _ | refine Below.drew ?_ | refine Below.alloc ?_ (by (first | omega | (simp; omega) | (simp; done) | fail "sml")) _)); first | done | fail "chs"))).2.2 (show Below W.heap.size W _ by ((repeat (first | with_reducible assumption | with_reducible exact Below.refl _ _ | refine Below.setCell ?_ (by (first | omega | (simp; omega) | (simp; done) | fail "sml")) _ | refine Below.drew ?_ | refine Below.alloc ?_ (by (first | omega | (simp; omega) | (simp; done) | fail "sml")) _)); first | done | fail "chs")).size HNy.out HNz.out) ?_
        rintro e we ⟨rfl, hb⟩
        have rwe := Below.trans (show Below W.heap.size W _ by ((repeat (first | with_reducible assumption | with_reducible exact Below.refl _ _ | refine Below.setCell ?_ (by (first | omega | (simp; omega) | (simp; done) | fail "sml")) _ | refine Below.drew ?_ | refine Below.alloc ?_ (by (first | omega | (simp; omega) | (simp; done) | fail "sml")) _)); first | done | fail "chs")) (hb.mono (by (first | omega | (simp; omega) | (simp; done) | fail "sml")))
        have zwe := rwe.size
        clear hb y0 y1 y2 y3 y4 y5
        obtain ⟨⟨y0, y1⟩, ⟨y2, y3⟩, y4, y5⟩ := HK.out _ rwe
        rw [h2]
        go_wp2_with fail
        refine Calls.mono (walkBefore_any x z _ _ W.heap.size _ (HA.out _ (show Below W.heap.size W _ by ((repeat (first | with_reducible assumption | with_reducible exact Below.refl _ _ | refine Below.setCell ?_ (by (first | omega | (simp; omega) | (simp; done) | fail "sml")) _ | refine Below.drew ?_ | refine Below.alloc ?_ (by (first | omega | (simp; omega) | (simp; done) | fail "sml")) _)); first | done | fail "chs"))).1 (HA.out _ (show Below W.heap.size W _ by ((repeat (first | with_reducible assumption | with_reducible exact Below.refl _ _ | refine Below.setCell ?_ (by (first | omega | (simp; omega) | (simp; done) | fail "sml")) _ | refine Below.drew ?_ | refine Below.alloc ?_ (by (first | omega | (simp; omega) | (simp; done) | fail "sml")) _)); first | done | fail "chs"))).2.2 (show Below W.heap.size W _ by ((repeat (first | with_reducible assumption | with_reducible exact Below.refl _ _ | refine Below.setCell ?_ (by (first | omega | (simp; omega) | (simp; done) | fail "sml")) _ | refine Below.drew ?_ | refine Below.alloc ?_ (by (first | omega | (simp; omega) | (simp; done) | fail "sml")) _)); first | done | fail "chs")).size) ?_
        rintro e wf ⟨rfl, hb⟩
        have rwf := Below.trans (show Below W.heap.size W _ by ((repeat (first | with_reducible assumption | with_reducible exact Below.refl _ _ | refine Below.setCell ?_ (by (first | omega | (simp; omega) | (simp; done) | fail "sml")) _ | refine Below.drew ?_ | refine Below.alloc ?_ (by (first | omega | (simp; omega) | (simp; done) | fail "sml")) _)); first | done | fail "chs")) (hb.mono (by (first | omega | (simp; omega) | (simp; done) | fail "sml")))
        have zwf := rwf.size
        clear hb y0 y1 y2 y3 y4 y5
        obtain ⟨⟨y0, y1⟩, ⟨y2, y3⟩, y4, y5⟩ := HK.out _ rwf
        rw [wkBefore_trans h1 h2]
        go_wp2_with fail
        go_ret
        exact ⟨rfl, HBW.out.trans ((show Below W.heap.size W _ by ((repeat (first | with_reducible assumption | with_reducible exact Below.refl _ _ | refine Below.setCell ?_ (by (first | omega | (simp; omega) | (simp; done) | fail "sml")) _ | refine Below.drew ?_ | refine Below.alloc ?_ (by (first | omega | (simp; omega) | (simp; done) | fail "sml")) _)); first | done | fail "chs")).mono (by omega))⟩

end Go.Proofs.Ytckmganhabgbfaa
