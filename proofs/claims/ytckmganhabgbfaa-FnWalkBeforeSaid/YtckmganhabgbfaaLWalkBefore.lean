/- The walk of FnWalkBefore. -/
import Derived.Test.YtckmganhabgbfaaL5T
import Derived.Test.YtckmganhabgbfaaWkLaw
import Derived.Test.YtckmganhabgbfaaWkO2
namespace Go.Proofs.Ytckmganhabgbfaa
open Go.RowKit

theorem order_parts (x y : Wk) : (wkBefore x y = true ∧ wkBefore y x = false ∧ wkEq x y = false) ∨ (wkBefore x y = false ∧ wkBefore y x = true ∧ wkEq x y = false) ∨ (wkBefore x y = false ∧ wkBefore y x = false ∧ wkEq x y = true) := by
  have ht := wkBefore_total x y
  cases h1 : wkBefore x y with
  | true =>
    have h2 := wkBefore_asymm h1
    rw [h1, h2] at ht
    cases h3 : wkEq x y <;> simp_all
  | false =>
    rw [h1] at ht
    cases h2 : wkBefore y x <;> cases h3 : wkEq x y <;> simp_all

set_option maxRecDepth 100000 in
set_option maxHeartbeats 8000000 in
theorem lawWalkBefore (zs : List Int) (v : Value) (w : World) (hv : Sl 1 byCells w.heap.size w v zs) (hz : ∀ z ∈ zs, 0 ≤ z ∧ z ≤ 255) :
    Calls Try.prog 7 #[v] w fun e w' => e = .returned (.bool true) ∧ Below w.heap.size w w' := by
  obtain ⟨p, cap, rfl⟩ := hv.form
  have hm := hv.max
  unfold maxLen at hm
  by_cases hb : (1048576 : Int) < zs.length
  · go_enter Try.func7, Try.ntmps7
    go_wp2_with fail
    go_ret
    exact ⟨rfl, Below.refl _ _⟩
  · go_enter Try.func7, Try.ntmps7
    go_wp2_with fail
    refine (drawWalkBefore_any zs _ w.heap.size _ hv (Nat.le_refl _) hz).mono ?_
    rintro e wx ⟨x, vx, Fx, y, vy, Fy, rfl, hx, hy, hb1⟩
    clear hv
    obtain ⟨px, cx, qx, dx, rfl⟩ := hx.1.form
    obtain ⟨py, cy, qy, dy, rfl⟩ := hy.1.form
    have HX := Lib.hid hx.1.at
    have HY := Lib.hid hy.1.at
    have HB1 := Lib.hid hb1
    have HNx := Lib.hid (show x.need ≤ 1048576 by have := hx.2.2; omega)
    have HNy := Lib.hid (show y.need ≤ 1048576 by have := hy.2.2; omega)
    have s1 := hb1.size
    clear hx hy hb1
    go_upto_region 4 with fail
    obtain ⟨W, eW⟩ : ∃ E, E = (wx.alloc (.cells #[.slice px x.ns.length cx, .slice qx x.es.length dx] 25)).alloc (.cells #[.slice py y.ns.length cy, .slice qy y.es.length dy] 25) := ⟨_, rfl⟩
    have s3 : wx.heap.size + 1 < W.heap.size := by rw [eW]; simp
    have hbW : Below wx.heap.size wx W := by rw [eW]; exact ((Below.refl _ _).alloc (Nat.le_refl _) _).alloc (by simp) _
    have HC := Lib.hid (show (W.cell? ⟨wx.heap.size, 0, none⟩ = some (.slice px x.ns.length cx) ∧ W.cell? ⟨wx.heap.size, 1, none⟩ = some (.slice qx x.es.length dx)) ∧ W.cell? ⟨wx.heap.size + 1, 0, none⟩ = some (.slice py y.ns.length cy) ∧ W.cell? ⟨wx.heap.size + 1, 1, none⟩ = some (.slice qy y.es.length dy) by rw [eW]; exact ⟨⟨by simp [go_sem], by simp [go_sem]⟩, by simp [go_sem], by simp [go_sem]⟩)
    rw [← eW]
    clear eW
    have HK := Lib.hid (fun (E : World) (hE : Below W.heap.size W E) => And.intro (And.intro (keepc (b := wx.heap.size) hE (by omega) HC.out.1.1) (keepc (b := wx.heap.size) hE (by omega) HC.out.1.2)) (And.intro (keepc hE s3 HC.out.2.1) (keepc hE s3 HC.out.2.2)))
    have HA := Lib.hid (fun (E : World) (hE : Below W.heap.size W E) => (show x.At W.heap.size E (.agg #[.slice px x.ns.length cx, .slice qx x.es.length dx]) ∧ y.At W.heap.size E (.agg #[.slice py y.ns.length cy, .slice qy y.es.length dy]) from ⟨(HX.out.to hbW (Nat.le_refl _)).to (hE.mono (by omega)) (by omega), (HY.out.to hbW (Nat.le_refl _)).to (hE.mono (by omega)) (by omega)⟩))
    have HBW := Lib.hid ((HB1.out.trans (hbW.mono s1)) : Below w.heap.size w W)
    clear hbW
    have r0 := Below.refl W.heap.size W
    obtain ⟨⟨y0, y1⟩, y2, y3⟩ := HK.out _ r0
    go_wp2_with fail
    refine Calls.mono (walkBefore_any x y _ _ W.heap.size _ (HA.out _ (show Below W.heap.size W _ by ((repeat (first | with_reducible assumption | with_reducible exact Below.refl _ _ | refine Below.setCell ?_ (by (first | omega | (simp; omega) | (simp; done) | fail "sml")) _ | refine Below.drew ?_ | refine Below.alloc ?_ (by (first | omega | (simp; omega) | (simp; done) | fail "sml")) _)); first | done | fail "chs"))).1 (HA.out _ (show Below W.heap.size W _ by ((repeat (first | with_reducible assumption | with_reducible exact Below.refl _ _ | refine Below.setCell ?_ (by (first | omega | (simp; omega) | (simp; done) | fail "sml")) _ | refine Below.drew ?_ | refine Below.alloc ?_ (by (first | omega | (simp; omega) | (simp; done) | fail "sml")) _)); first | done | fail "chs"))).2 (show Below W.heap.size W _ by ((repeat (first | with_reducible assumption | with_reducible exact Below.refl _ _ | refine Below.setCell ?_ (by (first | omega | (simp; omega) | (simp; done) | fail "sml")) _ | refine Below.drew ?_ | refine Below.alloc ?_ (by (first | omega | (simp; omega) | (simp; done) | fail "sml")) _)); first | done | fail "chs")).size) ?_
    rintro e wa ⟨rfl, hb⟩
    have rwa := Below.trans (show Below W.heap.size W _ by ((repeat (first | with_reducible assumption | with_reducible exact Below.refl _ _ | refine Below.setCell ?_ (by (first | omega | (simp; omega) | (simp; done) | fail "sml")) _ | refine Below.drew ?_ | refine Below.alloc ?_ (by (first | omega | (simp; omega) | (simp; done) | fail "sml")) _)); first | done | fail "chs")) (hb.mono (by (first | omega | (simp; omega) | (simp; done) | fail "sml")))
    have zwa := rwa.size
    clear hb y0 y1 y2 y3
    obtain ⟨⟨y0, y1⟩, y2, y3⟩ := HK.out _ rwa
    go_wp2_with fail

    refine Calls.mono (walkBefore_any y x _ _ W.heap.size _ (HA.out _ (show Below W.heap.size W _ by ((repeat (first | with_reducible assumption | with_reducible exact Below.refl _ _ | refine Below.setCell ?_ (by (first | omega | (simp; omega) | (simp; done) | fail "sml")) _ | refine Below.drew ?_ | refine Below.alloc ?_ (by (first | omega | (simp; omega) | (simp; done) | fail "sml")) _)); first | done | fail "chs"))).2 (HA.out _ (show Below W.heap.size W _ by ((repeat (first | with_reducible assumption | with_reducible exact Below.refl _ _ | refine Below.setCell ?_ (by (first | omega | (simp; omega) | (simp; done) | fail "sml")) _ | refine Below.drew ?_ | refine Below.alloc ?_ (by (first | omega | (simp; omega) | (simp; done) | fail "sml")) _)); first | done | fail "chs"))).1 (show Below W.heap.size W _ by ((repeat (first | with_reducible assumption | with_reducible exact Below.refl _ _ | refine Below.setCell ?_ (by (first | omega | (simp; omega) | (simp; done) | fail "sml")) _ | refine Below.drew ?_ | refine Below.alloc ?_ (by (first | omega | (simp; omega) | (simp; done) | fail "sml")) _)); first | done | fail "chs")).size) ?_
    rintro e wb ⟨rfl, hb⟩
    have rwb := Below.trans (show Below W.heap.size W _ by ((repeat (first | with_reducible assumption | with_reducible exact Below.refl _ _ | refine Below.setCell ?_ (by (first | omega | (simp; omega) | (simp; done) | fail "sml")) _ | refine Below.drew ?_ | refine Below.alloc ?_ (by (first | omega | (simp; omega) | (simp; done) | fail "sml")) _)); first | done | fail "chs")) (hb.mono (by (first | omega | (simp; omega) | (simp; done) | fail "sml")))
    have zwb := rwb.size
    clear hb y0 y1 y2 y3
    obtain ⟨⟨y0, y1⟩, y2, y3⟩ := HK.out _ rwb
    go_wp2_with fail

    refine Calls.mono (walkSame_any x y _ _ W.heap.size _ (HA.out _ (show Below W.heap.size W _ by ((repeat (first | with_reducible assumption | with_reducible exact Below.refl _ _ | refine Below.setCell ?_ (by (first | omega | (simp; omega) | (simp; done) | fail "sml")) _ | refine Below.drew ?_ | refine Below.alloc ?_ (by (first | omega | (simp; omega) | (simp; done) | fail "sml")) _)); first | done | fail "chs"))).1 (HA.out _ (show Below W.heap.size W _ by ((repeat (first | with_reducible assumption | with_reducible exact Below.refl _ _ | refine Below.setCell ?_ (by (first | omega | (simp; omega) | (simp; done) | fail "sml")) _ | refine Below.drew ?_ | refine Below.alloc ?_ (by (first | omega | (simp; omega) | (simp; done) | fail "sml")) _)); first | done | fail "chs"))).2 (show Below W.heap.size W _ by ((repeat (first | with_reducible assumption | with_reducible exact Below.refl _ _ | refine Below.setCell ?_ (by (first | omega | (simp; omega) | (simp; done) | fail "sml")) _ | refine Below.drew ?_ | refine Below.alloc ?_ (by (first | omega | (simp; omega) | (simp; done) | fail "sml")) _)); first | done | fail "chs")).size) ?_
    rintro e wc1 ⟨rfl, hb⟩
    have rwc1 := Below.trans (show Below W.heap.size W _ by ((repeat (first | with_reducible assumption | with_reducible exact Below.refl _ _ | refine Below.setCell ?_ (by (first | omega | (simp; omega) | (simp; done) | fail "sml")) _ | refine Below.drew ?_ | refine Below.alloc ?_ (by (first | omega | (simp; omega) | (simp; done) | fail "sml")) _)); first | done | fail "chs")) (hb.mono (by (first | omega | (simp; omega) | (simp; done) | fail "sml")))
    have zwc1 := rwc1.size
    clear hb y0 y1 y2 y3
    obtain ⟨⟨y0, y1⟩, y2, y3⟩ := HK.out _ rwc1
    rcases order_parts x y with ⟨h1, h2, h3⟩ | ⟨h1, h2, h3⟩ | ⟨h1, h2, h3⟩
    · skip
      simp only [h1, h2, h3]
      go_wp2_with fail
      refine Calls.mono (specWalkBefore_any x y _ _ W.heap.size _ (HA.out _ (show Below W.heap.size W _ by ((repeat (first | with_reducible assumption | with_reducible exact Below.refl _ _ | refine Below.setCell ?_ (by (first | omega | (simp; omega) | (simp; done) | fail "sml")) _ | refine Below.drew ?_ | refine Below.alloc ?_ (by (first | omega | (simp; omega) | (simp; done) | fail "sml")) _)); first | done | fail "chs"))).1 (HA.out _ (show Below W.heap.size W _ by ((repeat (first | with_reducible assumption | with_reducible exact Below.refl _ _ | refine Below.setCell ?_ (by (first | omega | (simp; omega) | (simp; done) | fail "sml")) _ | refine Below.drew ?_ | refine Below.alloc ?_ (by (first | omega | (simp; omega) | (simp; done) | fail "sml")) _)); first | done | fail "chs"))).2 (show Below W.heap.size W _ by ((repeat (first | with_reducible assumption | with_reducible exact Below.refl _ _ | refine Below.setCell ?_ (by (first | omega | (simp; omega) | (simp; done) | fail "sml")) _ | refine Below.drew ?_ | refine Below.alloc ?_ (by (first | omega | (simp; omega) | (simp; done) | fail "sml")) _)); first | done | fail "chs")).size HNx.out HNy.out) ?_
      rintro e wd ⟨rfl, hb⟩
      have rwd := Below.trans (show Below W.heap.size W _ by ((repeat (first | with_reducible assumption | with_reducible exact Below.refl _ _ | refine Below.setCell ?_ (by (first | omega | (simp; omega) | (simp; done) | fail "sml")) _ | refine Below.drew ?_ | refine Below.alloc ?_ (by (first | omega | (simp; omega) | (simp; done) | fail "sml")) _)); first | done | fail "chs")) (hb.mono (by (first | omega | (simp; omega) | (simp; done) | fail "sml")))
      have zwd := rwd.size
      clear hb y0 y1 y2 y3
      obtain ⟨⟨y0, y1⟩, y2, y3⟩ := HK.out _ rwd
      rw [h1]
      go_wp2_with fail
      refine Calls.mono (specWalkSame_any x y _ _ W.heap.size _ (HA.out _ (show Below W.heap.size W _ by ((repeat (first | with_reducible assumption | with_reducible exact Below.refl _ _ | refine Below.setCell ?_ (by (first | omega | (simp; omega) | (simp; done) | fail "sml")) _ | refine Below.drew ?_ | refine Below.alloc ?_ (by (first | omega | (simp; omega) | (simp; done) | fail "sml")) _)); first | done | fail "chs"))).1 (HA.out _ (show Below W.heap.size W _ by ((repeat (first | with_reducible assumption | with_reducible exact Below.refl _ _ | refine Below.setCell ?_ (by (first | omega | (simp; omega) | (simp; done) | fail "sml")) _ | refine Below.drew ?_ | refine Below.alloc ?_ (by (first | omega | (simp; omega) | (simp; done) | fail "sml")) _)); first | done | fail "chs"))).2 (show Below W.heap.size W _ by ((repeat (first | with_reducible assumption | with_reducible exact Below.refl _ _ | refine Below.setCell ?_ (by (first | omega | (simp; omega) | (simp; done) | fail "sml")) _ | refine Below.drew ?_ | refine Below.alloc ?_ (by (first | omega | (simp; omega) | (simp; done) | fail "sml")) _)); first | done | fail "chs")).size) ?_
      rintro e we ⟨rfl, hb⟩
      have rwe := Below.trans (show Below W.heap.size W _ by ((repeat (first | with_reducible assumption | with_reducible exact Below.refl _ _ | refine Below.setCell ?_ (by (first | omega | (simp; omega) | (simp; done) | fail "sml")) _ | refine Below.drew ?_ | refine Below.alloc ?_ (by (first | omega | (simp; omega) | (simp; done) | fail "sml")) _)); first | done | fail "chs")) (hb.mono (by (first | omega | (simp; omega) | (simp; done) | fail "sml")))
      have zwe := rwe.size
      clear hb y0 y1 y2 y3
      obtain ⟨⟨y0, y1⟩, y2, y3⟩ := HK.out _ rwe
      rw [h3]
      go_wp2_with fail
      go_ret
      exact ⟨rfl, HBW.out.trans ((show Below W.heap.size W _ by ((repeat (first | with_reducible assumption | with_reducible exact Below.refl _ _ | refine Below.setCell ?_ (by (first | omega | (simp; omega) | (simp; done) | fail "sml")) _ | refine Below.drew ?_ | refine Below.alloc ?_ (by (first | omega | (simp; omega) | (simp; done) | fail "sml")) _)); first | done | fail "chs")).mono (by omega))⟩
    · skip
      simp only [h1, h2, h3]
      go_wp2_with fail
      refine Calls.mono (specWalkBefore_any x y _ _ W.heap.size _ (HA.out _ (show Below W.heap.size W _ by ((repeat (first | with_reducible assumption | with_reducible exact Below.refl _ _ | refine Below.setCell ?_ (by (first | omega | (simp; omega) | (simp; done) | fail "sml")) _ | refine Below.drew ?_ | refine Below.alloc ?_ (by (first | omega | (simp; omega) | (simp; done) | fail "sml")) _)); first | done | fail "chs"))).1 (HA.out _ (show Below W.heap.size W _ by ((repeat (first | with_reducible assumption | with_reducible exact Below.refl _ _ | refine Below.setCell ?_ (by (first | omega | (simp; omega) | (simp; done) | fail "sml")) _ | refine Below.drew ?_ | refine Below.alloc ?_ (by (first | omega | (simp; omega) | (simp; done) | fail "sml")) _)); first | done | fail "chs"))).2 (show Below W.heap.size W _ by ((repeat (first | with_reducible assumption | with_reducible exact Below.refl _ _ | refine Below.setCell ?_ (by (first | omega | (simp; omega) | (simp; done) | fail "sml")) _ | refine Below.drew ?_ | refine Below.alloc ?_ (by (first | omega | (simp; omega) | (simp; done) | fail "sml")) _)); first | done | fail "chs")).size HNx.out HNy.out) ?_
      rintro e wd ⟨rfl, hb⟩
      have rwd := Below.trans (show Below W.heap.size W _ by ((repeat (first | with_reducible assumption | with_reducible exact Below.refl _ _ | refine Below.setCell ?_ (by (first | omega | (simp; omega) | (simp; done) | fail "sml")) _ | refine Below.drew ?_ | refine Below.alloc ?_ (by (first | omega | (simp; omega) | (simp; done) | fail "sml")) _)); first | done | fail "chs")) (hb.mono (by (first | omega | (simp; omega) | (simp; done) | fail "sml")))
      have zwd := rwd.size
      clear hb y0 y1 y2 y3
      obtain ⟨⟨y0, y1⟩, y2, y3⟩ := HK.out _ rwd
      rw [h1]
      go_wp2_with fail
      refine Calls.mono (specWalkSame_any x y _ _ W.heap.size _ (HA.out _ (show Below W.heap.size W _ by ((repeat (first | with_reducible assumption | with_reducible exact Below.refl _ _ | refine Below.setCell ?_ (by (first | omega | (simp; omega) | (simp; done) | fail "sml")) _ | refine Below.drew ?_ | refine Below.alloc ?_ (by (first | omega | (simp; omega) | (simp; done) | fail "sml")) _)); first | done | fail "chs"))).1 (HA.out _ (show Below W.heap.size W _ by ((repeat (first | with_reducible assumption | with_reducible exact Below.refl _ _ | refine Below.setCell ?_ (by (first | omega | (simp; omega) | (simp; done) | fail "sml")) _ | refine Below.drew ?_ | refine Below.alloc ?_ (by (first | omega | (simp; omega) | (simp; done) | fail "sml")) _)); first | done | fail "chs"))).2 (show Below W.heap.size W _ by ((repeat (first | with_reducible assumption | with_reducible exact Below.refl _ _ | refine Below.setCell ?_ (by (first | omega | (simp; omega) | (simp; done) | fail "sml")) _ | refine Below.drew ?_ | refine Below.alloc ?_ (by (first | omega | (simp; omega) | (simp; done) | fail "sml")) _)); first | done | fail "chs")).size) ?_
      rintro e we ⟨rfl, hb⟩
      have rwe := Below.trans (show Below W.heap.size W _ by ((repeat (first | with_reducible assumption | with_reducible exact Below.refl _ _ | refine Below.setCell ?_ (by (first | omega | (simp; omega) | (simp; done) | fail "sml")) _ | refine Below.drew ?_ | refine Below.alloc ?_ (by (first | omega | (simp; omega) | (simp; done) | fail "sml")) _)); first | done | fail "chs")) (hb.mono (by (first | omega | (simp; omega) | (simp; done) | fail "sml")))
      have zwe := rwe.size
      clear hb y0 y1 y2 y3
      obtain ⟨⟨y0, y1⟩, y2, y3⟩ := HK.out _ rwe
      rw [h3]
      go_wp2_with fail
      go_ret
      exact ⟨rfl, HBW.out.trans ((show Below W.heap.size W _ by ((repeat (first | with_reducible assumption | with_reducible exact Below.refl _ _ | refine Below.setCell ?_ (by (first | omega | (simp; omega) | (simp; done) | fail "sml")) _ | refine Below.drew ?_ | refine Below.alloc ?_ (by (first | omega | (simp; omega) | (simp; done) | fail "sml")) _)); first | done | fail "chs")).mono (by omega))⟩
    · skip
      simp only [h1, h2, h3]
      go_wp2_with fail
      refine Calls.mono (specWalkBefore_any x y _ _ W.heap.size _ (HA.out _ (show Below W.heap.size W _ by ((repeat (first | with_reducible assumption | with_reducible exact Below.refl _ _ | refine Below.setCell ?_ (by (first | omega | (simp; omega) | (simp; done) | fail "sml")) _ | refine Below.drew ?_ | refine Below.alloc ?_ (by (first | omega | (simp; omega) | (simp; done) | fail "sml")) _)); first | done | fail "chs"))).1 (HA.out _ (show Below W.heap.size W _ by ((repeat (first | with_reducible assumption | with_reducible exact Below.refl _ _ | refine Below.setCell ?_ (by (first | omega | (simp; omega) | (simp; done) | fail "sml")) _ | refine Below.drew ?_ | refine Below.alloc ?_ (by (first | omega | (simp; omega) | (simp; done) | fail "sml")) _)); first | done | fail "chs"))).2 (show Below W.heap.size W _ by ((repeat (first | with_reducible assumption | with_reducible exact Below.refl _ _ | refine Below.setCell ?_ (by (first | omega | (simp; omega) | (simp; done) | fail "sml")) _ | refine Below.drew ?_ | refine Below.alloc ?_ (by (first | omega | (simp; omega) | (simp; done) | fail "sml")) _)); first | done | fail "chs")).size HNx.out HNy.out) ?_
      rintro e wd ⟨rfl, hb⟩
      have rwd := Below.trans (show Below W.heap.size W _ by ((repeat (first | with_reducible assumption | with_reducible exact Below.refl _ _ | refine Below.setCell ?_ (by (first | omega | (simp; omega) | (simp; done) | fail "sml")) _ | refine Below.drew ?_ | refine Below.alloc ?_ (by (first | omega | (simp; omega) | (simp; done) | fail "sml")) _)); first | done | fail "chs")) (hb.mono (by (first | omega | (simp; omega) | (simp; done) | fail "sml")))
      have zwd := rwd.size
      clear hb y0 y1 y2 y3
      obtain ⟨⟨y0, y1⟩, y2, y3⟩ := HK.out _ rwd
      rw [h1]
      go_wp2_with fail
      refine Calls.mono (specWalkSame_any x y _ _ W.heap.size _ (HA.out _ (show Below W.heap.size W _ by ((repeat (first | with_reducible assumption | with_reducible exact Below.refl _ _ | refine Below.setCell ?_ (by (first | omega | (simp; omega) | (simp; done) | fail "sml")) _ | refine Below.drew ?_ | refine Below.alloc ?_ (by (first | omega | (simp; omega) | (simp; done) | fail "sml")) _)); first | done | fail "chs"))).1 (HA.out _ (show Below W.heap.size W _ by ((repeat (first | with_reducible assumption | with_reducible exact Below.refl _ _ | refine Below.setCell ?_ (by (first | omega | (simp; omega) | (simp; done) | fail "sml")) _ | refine Below.drew ?_ | refine Below.alloc ?_ (by (first | omega | (simp; omega) | (simp; done) | fail "sml")) _)); first | done | fail "chs"))).2 (show Below W.heap.size W _ by ((repeat (first | with_reducible assumption | with_reducible exact Below.refl _ _ | refine Below.setCell ?_ (by (first | omega | (simp; omega) | (simp; done) | fail "sml")) _ | refine Below.drew ?_ | refine Below.alloc ?_ (by (first | omega | (simp; omega) | (simp; done) | fail "sml")) _)); first | done | fail "chs")).size) ?_
      rintro e we ⟨rfl, hb⟩
      have rwe := Below.trans (show Below W.heap.size W _ by ((repeat (first | with_reducible assumption | with_reducible exact Below.refl _ _ | refine Below.setCell ?_ (by (first | omega | (simp; omega) | (simp; done) | fail "sml")) _ | refine Below.drew ?_ | refine Below.alloc ?_ (by (first | omega | (simp; omega) | (simp; done) | fail "sml")) _)); first | done | fail "chs")) (hb.mono (by (first | omega | (simp; omega) | (simp; done) | fail "sml")))
      have zwe := rwe.size
      clear hb y0 y1 y2 y3
      obtain ⟨⟨y0, y1⟩, y2, y3⟩ := HK.out _ rwe
      rw [h3]
      go_wp2_with fail
      go_ret
      exact ⟨rfl, HBW.out.trans ((show Below W.heap.size W _ by ((repeat (first | with_reducible assumption | with_reducible exact Below.refl _ _ | refine Below.setCell ?_ (by (first | omega | (simp; omega) | (simp; done) | fail "sml")) _ | refine Below.drew ?_ | refine Below.alloc ?_ (by (first | omega | (simp; omega) | (simp; done) | fail "sml")) _)); first | done | fail "chs")).mono (by omega))⟩
end Go.Proofs.Ytckmganhabgbfaa
