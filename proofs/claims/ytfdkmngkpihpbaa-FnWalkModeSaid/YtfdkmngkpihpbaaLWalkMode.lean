/- The walk of FnWalkMode. -/
import Derived.Test.YtfdkmngkpihpbaaL5M
import Derived.Test.YtfdkmngkpihpbaaWkLaw
import Derived.Test.YtfdkmngkpihpbaaWkM3
import Derived.Test.YtfdkmngkpihpbaaWkM2
namespace Go.Proofs.Ytfdkmngkpihpbaa
open Go.RowKit

theorem below_drewN {B : Nat} {a w : World} (h : Below B a w) (n : Nat) : Below B a (w.drewN n) := ⟨h.os, h.tape, h.output, h.size, h.block⟩

set_option maxRecDepth 100000 in
set_option maxHeartbeats 8000000 in
theorem lawWalkMode (zs : List Int) (v : Value) (w : World) (hv : Sl 1 byCells w.heap.size w v zs) (hz : ∀ z ∈ zs, 0 ≤ z ∧ z ≤ 255) :
    Calls Try.prog 3 #[v] w fun e w' => e = .returned (.bool true) ∧ Below w.heap.size w w' := by
  obtain ⟨p, cap, rfl⟩ := hv.form
  have hm := hv.max
  unfold maxLen at hm
  by_cases hb : (1048576 : Int) < zs.length
  · go_enter Try.func3, Try.ntmps3
    go_wp2_with fail
    go_ret
    exact ⟨rfl, Below.refl _ _⟩
  · go_enter Try.func3, Try.ntmps3
    go_wp2_with fail
    refine (drawWalkMode_any zs _ w.heap.size _ hv (Nat.le_refl _) hz).mono ?_
    rintro e wx ⟨x, vx, Fx, m, rfl, hx, hb1⟩
    obtain ⟨px, cx, qx, dx, rfl⟩ := hx.1.form
    have HX := Lib.hid hx.1.at
    have HB1 := Lib.hid hb1
    have HN := Lib.hid (show x.need ≤ 1048576 by have := hx.2.2; omega)
    have s1 := hb1.size
    clear hx hb1 hv
    go_upto_region 4 with fail
    obtain ⟨W, eW⟩ : ∃ E, E = wx.alloc (.cells #[.slice px x.ns.length cx, .slice qx x.es.length dx] 25) := ⟨_, rfl⟩
    have s3 : wx.heap.size < W.heap.size := by rw [eW]; simp
    have hbW : Below wx.heap.size wx W := by rw [eW]; exact (Below.refl _ _).alloc (Nat.le_refl _) _
    have HC := Lib.hid (show W.cell? ⟨wx.heap.size, 0, none⟩ = some (.slice px x.ns.length cx) ∧ W.cell? ⟨wx.heap.size, 1, none⟩ = some (.slice qx x.es.length dx) by rw [eW]; exact ⟨by simp [go_sem], by simp [go_sem]⟩)
    rw [← eW]
    clear eW
    have HK := Lib.hid (fun (E : World) (hE : Below W.heap.size W E) => And.intro (keepc hE s3 HC.out.1) (keepc hE s3 HC.out.2))
    have HA := Lib.hid (fun (E : World) (hE : Below W.heap.size W E) => (show x.At W.heap.size E (.agg #[.slice px x.ns.length cx, .slice qx x.es.length dx]) from (HX.out.to hbW (Nat.le_refl _)).to (hE.mono (by omega)) (by omega)))
    have HBW := Lib.hid ((HB1.out.trans (hbW.mono s1)) : Below w.heap.size w W)
    clear hbW
    have r0 := Below.refl W.heap.size W
    obtain ⟨y0, y1⟩ := HK.out _ r0
    go_wp2_with fail
    refine Calls.mono (walkMode_any x m _ W.heap.size _ (HA.out _ (show Below W.heap.size W _ by ((repeat (first | with_reducible assumption | with_reducible exact Below.refl _ _ | refine Below.setCell ?_ (by (first | omega | (simp; omega) | (simp; done) | fail "sml")) _ | refine Below.drew ?_ | refine Below.alloc ?_ (by (first | omega | (simp; omega) | (simp; done) | fail "sml")) _)); first | done | fail "chs"))) (show Below W.heap.size W _ by ((repeat (first | with_reducible assumption | with_reducible exact Below.refl _ _ | refine Below.setCell ?_ (by (first | omega | (simp; omega) | (simp; done) | fail "sml")) _ | refine Below.drew ?_ | refine Below.alloc ?_ (by (first | omega | (simp; omega) | (simp; done) | fail "sml")) _)); first | done | fail "chs")).size HN.out) ?_
    rintro e wa ⟨rfl, hb⟩
    have rwa := Below.trans (show Below W.heap.size W _ by ((repeat (first | with_reducible assumption | with_reducible exact Below.refl _ _ | refine Below.setCell ?_ (by (first | omega | (simp; omega) | (simp; done) | fail "sml")) _ | refine Below.drew ?_ | refine Below.alloc ?_ (by (first | omega | (simp; omega) | (simp; done) | fail "sml")) _)); first | done | fail "chs")) (hb.mono (by (first | omega | (simp; omega) | (simp; done) | fail "sml")))
    have zwa := rwa.size
    clear hb y0 y1
    obtain ⟨y0, y1⟩ := HK.out _ rwa
    go_wp2_with fail

    refine Calls.mono (specWalkMode_any x m _ W.heap.size _ (HA.out _ (show Below W.heap.size W _ by ((repeat (first | with_reducible assumption | with_reducible exact Below.refl _ _ | refine Below.setCell ?_ (by (first | omega | (simp; omega) | (simp; done) | fail "sml")) _ | refine Below.drew ?_ | refine Below.alloc ?_ (by (first | omega | (simp; omega) | (simp; done) | fail "sml")) _)); first | done | fail "chs"))) (show Below W.heap.size W _ by ((repeat (first | with_reducible assumption | with_reducible exact Below.refl _ _ | refine Below.setCell ?_ (by (first | omega | (simp; omega) | (simp; done) | fail "sml")) _ | refine Below.drew ?_ | refine Below.alloc ?_ (by (first | omega | (simp; omega) | (simp; done) | fail "sml")) _)); first | done | fail "chs")).size HN.out) ?_
    rintro e wb ⟨rfl, hb⟩
    have rwb := Below.trans (show Below W.heap.size W _ by ((repeat (first | with_reducible assumption | with_reducible exact Below.refl _ _ | refine Below.setCell ?_ (by (first | omega | (simp; omega) | (simp; done) | fail "sml")) _ | refine Below.drew ?_ | refine Below.alloc ?_ (by (first | omega | (simp; omega) | (simp; done) | fail "sml")) _)); first | done | fail "chs")) (hb.mono (by (first | omega | (simp; omega) | (simp; done) | fail "sml")))
    have zwb := rwb.size
    clear hb y0 y1
    obtain ⟨y0, y1⟩ := HK.out _ rwb
    go_wp2_with fail

    refine Calls.mono (walkMode_any x 3 _ W.heap.size _ (HA.out _ (show Below W.heap.size W _ by ((repeat (first | with_reducible assumption | with_reducible exact Below.refl _ _ | refine Below.setCell ?_ (by (first | omega | (simp; omega) | (simp; done) | fail "sml")) _ | refine Below.drew ?_ | refine Below.alloc ?_ (by (first | omega | (simp; omega) | (simp; done) | fail "sml")) _)); first | done | fail "chs"))) (show Below W.heap.size W _ by ((repeat (first | with_reducible assumption | with_reducible exact Below.refl _ _ | refine Below.setCell ?_ (by (first | omega | (simp; omega) | (simp; done) | fail "sml")) _ | refine Below.drew ?_ | refine Below.alloc ?_ (by (first | omega | (simp; omega) | (simp; done) | fail "sml")) _)); first | done | fail "chs")).size HN.out) ?_
    rintro e wc1 ⟨rfl, hb⟩
    have rwc1 := Below.trans (show Below W.heap.size W _ by ((repeat (first | with_reducible assumption | with_reducible exact Below.refl _ _ | refine Below.setCell ?_ (by (first | omega | (simp; omega) | (simp; done) | fail "sml")) _ | refine Below.drew ?_ | refine Below.alloc ?_ (by (first | omega | (simp; omega) | (simp; done) | fail "sml")) _)); first | done | fail "chs")) (hb.mono (by (first | omega | (simp; omega) | (simp; done) | fail "sml")))
    have zwc1 := rwc1.size
    clear hb y0 y1
    obtain ⟨y0, y1⟩ := HK.out _ rwc1
    go_wp2_with fail

    refine Calls.mono (walkMode_any x 4 _ W.heap.size _ (HA.out _ (show Below W.heap.size W _ by ((repeat (first | with_reducible assumption | with_reducible exact Below.refl _ _ | refine Below.setCell ?_ (by (first | omega | (simp; omega) | (simp; done) | fail "sml")) _ | refine Below.drew ?_ | refine Below.alloc ?_ (by (first | omega | (simp; omega) | (simp; done) | fail "sml")) _)); first | done | fail "chs"))) (show Below W.heap.size W _ by ((repeat (first | with_reducible assumption | with_reducible exact Below.refl _ _ | refine Below.setCell ?_ (by (first | omega | (simp; omega) | (simp; done) | fail "sml")) _ | refine Below.drew ?_ | refine Below.alloc ?_ (by (first | omega | (simp; omega) | (simp; done) | fail "sml")) _)); first | done | fail "chs")).size HN.out) ?_
    rintro e wd ⟨rfl, hb⟩
    have rwd := Below.trans (show Below W.heap.size W _ by ((repeat (first | with_reducible assumption | with_reducible exact Below.refl _ _ | refine Below.setCell ?_ (by (first | omega | (simp; omega) | (simp; done) | fail "sml")) _ | refine Below.drew ?_ | refine Below.alloc ?_ (by (first | omega | (simp; omega) | (simp; done) | fail "sml")) _)); first | done | fail "chs")) (hb.mono (by (first | omega | (simp; omega) | (simp; done) | fail "sml")))
    have zwd := rwd.size
    clear hb y0 y1
    obtain ⟨y0, y1⟩ := HK.out _ rwd
    cases h4 : wkMode x 4 with
    | false =>
      have h3 : wkMode x 3 = false := by
        cases h : wkMode x 3 with
        | false => rfl
        | true => rw [acyclic_simple h] at h4; cases h4
      rw [h3]
      clear h3 h4
      go_wp2_with fail
      go_quiet (fail)
      go_wp2_with fail
      go_ret
      exact ⟨rfl, HBW.out.trans ((below_drewN (show Below W.heap.size W _ by ((repeat (first | with_reducible assumption | with_reducible exact Below.refl _ _ | refine Below.setCell ?_ (by (first | omega | (simp; omega) | (simp; done) | fail "sml")) _ | refine Below.drew ?_ | refine Below.alloc ?_ (by (first | omega | (simp; omega) | (simp; done) | fail "sml")) _)); first | done | fail "chs")) _).mono (by omega))⟩
    | true =>
      have h1 := simple_walk h4
      cases h3 : wkMode x 3 with
      | true =>
        clear h3 h4
        go_wp2_with fail
        refine Calls.mono (walkMode_any x 1 _ W.heap.size _ (HA.out _ (show Below W.heap.size W _ by ((repeat (first | with_reducible assumption | with_reducible exact Below.refl _ _ | refine Below.setCell ?_ (by (first | omega | (simp; omega) | (simp; done) | fail "sml")) _ | refine Below.drew ?_ | refine Below.alloc ?_ (by (first | omega | (simp; omega) | (simp; done) | fail "sml")) _)); first | done | fail "chs"))) (show Below W.heap.size W _ by ((repeat (first | with_reducible assumption | with_reducible exact Below.refl _ _ | refine Below.setCell ?_ (by (first | omega | (simp; omega) | (simp; done) | fail "sml")) _ | refine Below.drew ?_ | refine Below.alloc ?_ (by (first | omega | (simp; omega) | (simp; done) | fail "sml")) _)); first | done | fail "chs")).size HN.out) ?_
        rintro e we ⟨rfl, hb⟩
        have rwe := Below.trans (show Below W.heap.size W _ by ((repeat (first | with_reducible assumption | with_reducible exact Below.refl _ _ | refine Below.setCell ?_ (by (first | omega | (simp; omega) | (simp; done) | fail "sml")) _ | refine Below.drew ?_ | refine Below.alloc ?_ (by (first | omega | (simp; omega) | (simp; done) | fail "sml")) _)); first | done | fail "chs")) (hb.mono (by (first | omega | (simp; omega) | (simp; done) | fail "sml")))
        have zwe := rwe.size
        clear hb y0 y1
        obtain ⟨y0, y1⟩ := HK.out _ rwe
        rw [h1]
        go_wp2_with fail
        go_quiet (fail)
        go_wp2_with fail
        go_ret
        exact ⟨rfl, HBW.out.trans ((below_drewN (show Below W.heap.size W _ by ((repeat (first | with_reducible assumption | with_reducible exact Below.refl _ _ | refine Below.setCell ?_ (by (first | omega | (simp; omega) | (simp; done) | fail "sml")) _ | refine Below.drew ?_ | refine Below.alloc ?_ (by (first | omega | (simp; omega) | (simp; done) | fail "sml")) _)); first | done | fail "chs")) _).mono (by omega))⟩
      | false =>
        obtain ⟨hs1, hs2⟩ := wkShape_iff.1 (wkMode_iff.1 h4).1
        have hp : 0 < x.ns.length := by omega
        have hl0 : x.ns.length - 1 < x.ns.length := by omega
        have HE := Lib.hid (simple_closed h4 h3 hp hl0)
        have hl1 : x.es.length < x.ns.length := by omega
        have HL := Lib.hid hs1
        clear h3 h4 hs1 hs2
        go_wp2_with fail
        refine Calls.mono (walkMode_any x 1 _ W.heap.size _ (HA.out _ (show Below W.heap.size W _ by ((repeat (first | with_reducible assumption | with_reducible exact Below.refl _ _ | refine Below.setCell ?_ (by (first | omega | (simp; omega) | (simp; done) | fail "sml")) _ | refine Below.drew ?_ | refine Below.alloc ?_ (by (first | omega | (simp; omega) | (simp; done) | fail "sml")) _)); first | done | fail "chs"))) (show Below W.heap.size W _ by ((repeat (first | with_reducible assumption | with_reducible exact Below.refl _ _ | refine Below.setCell ?_ (by (first | omega | (simp; omega) | (simp; done) | fail "sml")) _ | refine Below.drew ?_ | refine Below.alloc ?_ (by (first | omega | (simp; omega) | (simp; done) | fail "sml")) _)); first | done | fail "chs")).size HN.out) ?_
        rintro e we ⟨rfl, hb⟩
        have rwe := Below.trans (show Below W.heap.size W _ by ((repeat (first | with_reducible assumption | with_reducible exact Below.refl _ _ | refine Below.setCell ?_ (by (first | omega | (simp; omega) | (simp; done) | fail "sml")) _ | refine Below.drew ?_ | refine Below.alloc ?_ (by (first | omega | (simp; omega) | (simp; done) | fail "sml")) _)); first | done | fail "chs")) (hb.mono (by (first | omega | (simp; omega) | (simp; done) | fail "sml")))
        have zwe := rwe.size
        clear hb y0 y1
        obtain ⟨y0, y1⟩ := HK.out _ rwe
        rw [h1]
        go_wp2_with fail

        obtain ⟨v0, v1, e1, a1, a2⟩ := HA.out _ rwe
        cases e1
        obtain ⟨b, off, rfl, hbb, cz⟩ := a1.it (k := 0) hp
        obtain ⟨b', off', e2, _, cl⟩ := a1.it (k := x.es.length) hl1
        cases e2
        have hm2 := a1.max
        unfold maxLen at hm2
        have hi1 : (x.ns.length : Int) - 1 = (x.es.length : Int) := by have := HL.out; omega
        have hq : x.ns[x.es.length]'hl1 = x.ns[0]'hp := by
          rw [HE.out]
          congr 1
          have := HL.out
          omega
        rw [hq] at cl
        obtain ⟨z, ez⟩ : ∃ z, z = x.ns[0]'hp := ⟨_, rfl⟩
        rw [← ez] at cz cl
        rw [Nat.add_zero] at cz
        clear ez hq a1 a2
        have hp2 : (0 : Int) < (x.ns.length : Int) := by omega
        have hl2 : (x.es.length : Int) < (x.ns.length : Int) := by omega
        go_quiet (fail)
        go_wp2_with fail
        go_ret
        exact ⟨rfl, HBW.out.trans ((below_drewN (show Below W.heap.size W _ by ((repeat (first | with_reducible assumption | with_reducible exact Below.refl _ _ | refine Below.setCell ?_ (by (first | omega | (simp; omega) | (simp; done) | fail "sml")) _ | refine Below.drew ?_ | refine Below.alloc ?_ (by (first | omega | (simp; omega) | (simp; done) | fail "sml")) _)); first | done | fail "chs")) _).mono (by omega))⟩
end Go.Proofs.Ytfdkmngkpihpbaa
