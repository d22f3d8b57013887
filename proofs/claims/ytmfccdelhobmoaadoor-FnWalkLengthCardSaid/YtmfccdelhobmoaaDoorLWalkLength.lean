/- The walk of FnWalkLength. -/
import Derived.Test.YtmfccdelhobmoaaDoorL5F
import Derived.Test.YtmfccdelhobmoaaDoorWkDash
import Derived.Test.YtmfccdelhobmoaaDoorWkF2
import Derived.Test.YtmfccdelhobmoaaDoorWkF3
import Derived.Test.YtmfccdelhobmoaaDoorReg
namespace Go.Proofs.YtmfccdelhobmoaaDoor
open Go.RowKit

theorem u8_45 {c : UInt8} : (c.toNat : Int) = 45 ↔ c = 45 := by
  constructor
  · intro h; exact UInt8.toNat.inj (show c.toNat = 45 by omega)
  · rintro rfl; rfl

set_option maxRecDepth 100000 in
set_option maxHeartbeats 8000000 in
theorem lawWalkLength (zs : List Int) (v : Value) (w : World) (hv : Sl 1 byCells w.heap.size w v zs) (hz : ∀ z ∈ zs, 0 ≤ z ∧ z ≤ 255) (hvars : VarsI w) :
    Calls Tryd.prog 3 #[v] w fun e w' => e = .returned (.bool true) ∧ Below w.heap.size w w' := by
  have HVV := Lib.hid hvars
  clear hvars
  obtain ⟨p, cap, rfl⟩ := hv.form
  have hm := hv.max
  unfold maxLen at hm
  by_cases hb : (1048576 : Int) < zs.length
  · go_enter Tryd.func3, Tryd.ntmps3
    go_wp2_with fail
    go_ret
    exact ⟨rfl, Below.refl _ _⟩
  · go_enter Tryd.func3, Tryd.ntmps3
    go_wp2_with fail
    refine (drawFormatWalk_any zs _ w.heap.size _ hv (Nat.le_refl _) hz).mono ?_
    rintro e wx ⟨x, vx, Fx, rfl, hx, hb1⟩
    obtain ⟨px, cx, qx, dx, rfl⟩ := hx.1.form
    have HX := Lib.hid hx.1.at
    have HB1 := Lib.hid hb1
    have HN := Lib.hid (show x.need ≤ 1048576 by have := hx.2.2; omega)
    have hn5 : x.es.length ≤ 1048576 := by have := hx.2.2; unfold Wk.need at this; omega
    have s1 := hb1.size
    clear hx hb1 hv
    go_upto_region 4 with fail
    obtain ⟨W, eW⟩ : ∃ E, E = wx.alloc (.cells #[.slice px x.ns.length cx, .slice qx x.es.length dx] 25) := ⟨_, rfl⟩
    have s3 : wx.heap.size < W.heap.size := by rw [eW]; simp
    have hbW : Below wx.heap.size wx W := by rw [eW]; exact (Below.refl _ _).alloc (Nat.le_refl _) _
    have HC := Lib.hid (show W.cell? ⟨wx.heap.size, 0, none⟩ = some (.slice px x.ns.length cx) ∧ W.cell? ⟨wx.heap.size, 1, none⟩ = some (.slice qx x.es.length dx) by rw [eW]; exact ⟨by simp [go_sem], by simp [go_sem]⟩)
    rw [← eW]
    clear eW
    have HK := Lib.hid (fun (E : World) (hE : Below W.heap.size W E) => And.intro (keepc hE s3 HC.out.1) (keepc hE s3 HC.out.2))
    have HA := Lib.hid (fun (E : World) (hE : Below W.heap.size W E) => (show x.At W.heap.size E (.agg #[.slice px x.ns.length cx, .slice qx x.es.length dx]) from (HX.out.to hbW (Nat.le_refl _)).to (hE.mono (by omega)) (by omega)))
    have HBW := Lib.hid ((HB1.out.trans (hbW.mono s1)) : Below w.heap.size w W)
    have HVI := Lib.hid (fun (E : World) (hE : Below W.heap.size W E) => HVV.out.below (HBW.out.trans (hE.mono (by have := HBW.out.size; omega))))
    clear hbW
    have r0 := Below.refl W.heap.size W
    obtain ⟨y0, y1⟩ := HK.out _ r0
    obtain ⟨s, ES⟩ : ∃ s, fmtW x = s := ⟨_, rfl⟩
    cases ht : wkText x with
    | false =>
      obtain rfl : s = ⟨#[]⟩ := ES ▸ fmtW_no ht
      go_wp2_with fail
      refine Calls.mono (ES ▸ formatWalk_any x _ W.heap.size _ (HA.out _ (show Below W.heap.size W _ by ((repeat (first | with_reducible assumption | with_reducible exact Below.refl _ _ | refine Below.setCell ?_ (by (first | omega | (simp; omega) | (simp; done) | fail "sml")) _ | refine Below.drew ?_ | refine Below.alloc ?_ (by (first | omega | (simp; omega) | (simp; done) | fail "sml")) _)); first | done | fail "chs"))) (show Below W.heap.size W _ by ((repeat (first | with_reducible assumption | with_reducible exact Below.refl _ _ | refine Below.setCell ?_ (by (first | omega | (simp; omega) | (simp; done) | fail "sml")) _ | refine Below.drew ?_ | refine Below.alloc ?_ (by (first | omega | (simp; omega) | (simp; done) | fail "sml")) _)); first | done | fail "chs")).size HN.out (HVI.out _ (show Below W.heap.size W _ by ((repeat (first | with_reducible assumption | with_reducible exact Below.refl _ _ | refine Below.setCell ?_ (by (first | omega | (simp; omega) | (simp; done) | fail "sml")) _ | refine Below.drew ?_ | refine Below.alloc ?_ (by (first | omega | (simp; omega) | (simp; done) | fail "sml")) _)); first | done | fail "chs")))) ?_
      rintro e wa ⟨rfl, hb⟩
      have rwa := Below.trans (show Below W.heap.size W _ by ((repeat (first | with_reducible assumption | with_reducible exact Below.refl _ _ | refine Below.setCell ?_ (by (first | omega | (simp; omega) | (simp; done) | fail "sml")) _ | refine Below.drew ?_ | refine Below.alloc ?_ (by (first | omega | (simp; omega) | (simp; done) | fail "sml")) _)); first | done | fail "chs")) (hb.mono (by (first | omega | (simp; omega) | (simp; done) | fail "sml")))
      have zwa := rwa.size
      clear hb y0 y1
      obtain ⟨y0, y1⟩ := HK.out _ rwa
      go_wp2_with fail

      refine Calls.mono (ES ▸ specFormatWalk_any x _ W.heap.size _ (HA.out _ (show Below W.heap.size W _ by ((repeat (first | with_reducible assumption | with_reducible exact Below.refl _ _ | refine Below.setCell ?_ (by (first | omega | (simp; omega) | (simp; done) | fail "sml")) _ | refine Below.drew ?_ | refine Below.alloc ?_ (by (first | omega | (simp; omega) | (simp; done) | fail "sml")) _)); first | done | fail "chs"))) (show Below W.heap.size W _ by ((repeat (first | with_reducible assumption | with_reducible exact Below.refl _ _ | refine Below.setCell ?_ (by (first | omega | (simp; omega) | (simp; done) | fail "sml")) _ | refine Below.drew ?_ | refine Below.alloc ?_ (by (first | omega | (simp; omega) | (simp; done) | fail "sml")) _)); first | done | fail "chs")).size HN.out) ?_
      rintro e wb ⟨rfl, hb⟩
      have rwb := Below.trans (show Below W.heap.size W _ by ((repeat (first | with_reducible assumption | with_reducible exact Below.refl _ _ | refine Below.setCell ?_ (by (first | omega | (simp; omega) | (simp; done) | fail "sml")) _ | refine Below.drew ?_ | refine Below.alloc ?_ (by (first | omega | (simp; omega) | (simp; done) | fail "sml")) _)); first | done | fail "chs")) (hb.mono (by (first | omega | (simp; omega) | (simp; done) | fail "sml")))
      have zwb := rwb.size
      clear hb y0 y1
      obtain ⟨y0, y1⟩ := HK.out _ rwb
      go_wp2_with fail

      refine Calls.mono (ES ▸ specFormatWalk_any x _ W.heap.size _ (HA.out _ (show Below W.heap.size W _ by ((repeat (first | with_reducible assumption | with_reducible exact Below.refl _ _ | refine Below.setCell ?_ (by (first | omega | (simp; omega) | (simp; done) | fail "sml")) _ | refine Below.drew ?_ | refine Below.alloc ?_ (by (first | omega | (simp; omega) | (simp; done) | fail "sml")) _)); first | done | fail "chs"))) (show Below W.heap.size W _ by ((repeat (first | with_reducible assumption | with_reducible exact Below.refl _ _ | refine Below.setCell ?_ (by (first | omega | (simp; omega) | (simp; done) | fail "sml")) _ | refine Below.drew ?_ | refine Below.alloc ?_ (by (first | omega | (simp; omega) | (simp; done) | fail "sml")) _)); first | done | fail "chs")).size HN.out) ?_
      rintro e wc1 ⟨rfl, hb⟩
      have rwc1 := Below.trans (show Below W.heap.size W _ by ((repeat (first | with_reducible assumption | with_reducible exact Below.refl _ _ | refine Below.setCell ?_ (by (first | omega | (simp; omega) | (simp; done) | fail "sml")) _ | refine Below.drew ?_ | refine Below.alloc ?_ (by (first | omega | (simp; omega) | (simp; done) | fail "sml")) _)); first | done | fail "chs")) (hb.mono (by (first | omega | (simp; omega) | (simp; done) | fail "sml")))
      have zwc1 := rwc1.size
      clear hb y0 y1
      obtain ⟨y0, y1⟩ := HK.out _ rwc1
      go_wp2_with fail

      go_ret
      exact ⟨rfl, HBW.out.trans (rwc1.mono HBW.out.size)⟩
    | true =>
      have hd : RowKit.Hid (dash s s.size = 2 * x.es.length) := Lib.hid (ES ▸ (fmtW_signs ht).1)
      obtain ⟨h0, h50⟩ : 0 < s.size ∧ s.size ≤ 50 := ES ▸ (fmtW_signs ht).2
      have hne := str_nonempty' h0
      have hne2 := str_nonempty h0
      have hne3 : s.toList.isEmpty = false := by simpa using hne
      go_wp2_with fail
      refine Calls.mono (ES ▸ formatWalk_any x _ W.heap.size _ (HA.out _ (show Below W.heap.size W _ by ((repeat (first | with_reducible assumption | with_reducible exact Below.refl _ _ | refine Below.setCell ?_ (by (first | omega | (simp; omega) | (simp; done) | fail "sml")) _ | refine Below.drew ?_ | refine Below.alloc ?_ (by (first | omega | (simp; omega) | (simp; done) | fail "sml")) _)); first | done | fail "chs"))) (show Below W.heap.size W _ by ((repeat (first | with_reducible assumption | with_reducible exact Below.refl _ _ | refine Below.setCell ?_ (by (first | omega | (simp; omega) | (simp; done) | fail "sml")) _ | refine Below.drew ?_ | refine Below.alloc ?_ (by (first | omega | (simp; omega) | (simp; done) | fail "sml")) _)); first | done | fail "chs")).size HN.out (HVI.out _ (show Below W.heap.size W _ by ((repeat (first | with_reducible assumption | with_reducible exact Below.refl _ _ | refine Below.setCell ?_ (by (first | omega | (simp; omega) | (simp; done) | fail "sml")) _ | refine Below.drew ?_ | refine Below.alloc ?_ (by (first | omega | (simp; omega) | (simp; done) | fail "sml")) _)); first | done | fail "chs")))) ?_
      rintro e wa ⟨rfl, hb⟩
      have rwa := Below.trans (show Below W.heap.size W _ by ((repeat (first | with_reducible assumption | with_reducible exact Below.refl _ _ | refine Below.setCell ?_ (by (first | omega | (simp; omega) | (simp; done) | fail "sml")) _ | refine Below.drew ?_ | refine Below.alloc ?_ (by (first | omega | (simp; omega) | (simp; done) | fail "sml")) _)); first | done | fail "chs")) (hb.mono (by (first | omega | (simp; omega) | (simp; done) | fail "sml")))
      have zwa := rwa.size
      clear hb y0 y1
      obtain ⟨y0, y1⟩ := HK.out _ rwa
      go_wp2_with fail

      refine Calls.mono (ES ▸ specFormatWalk_any x _ W.heap.size _ (HA.out _ (show Below W.heap.size W _ by ((repeat (first | with_reducible assumption | with_reducible exact Below.refl _ _ | refine Below.setCell ?_ (by (first | omega | (simp; omega) | (simp; done) | fail "sml")) _ | refine Below.drew ?_ | refine Below.alloc ?_ (by (first | omega | (simp; omega) | (simp; done) | fail "sml")) _)); first | done | fail "chs"))) (show Below W.heap.size W _ by ((repeat (first | with_reducible assumption | with_reducible exact Below.refl _ _ | refine Below.setCell ?_ (by (first | omega | (simp; omega) | (simp; done) | fail "sml")) _ | refine Below.drew ?_ | refine Below.alloc ?_ (by (first | omega | (simp; omega) | (simp; done) | fail "sml")) _)); first | done | fail "chs")).size HN.out) ?_
      rintro e wb ⟨rfl, hb⟩
      have rwb := Below.trans (show Below W.heap.size W _ by ((repeat (first | with_reducible assumption | with_reducible exact Below.refl _ _ | refine Below.setCell ?_ (by (first | omega | (simp; omega) | (simp; done) | fail "sml")) _ | refine Below.drew ?_ | refine Below.alloc ?_ (by (first | omega | (simp; omega) | (simp; done) | fail "sml")) _)); first | done | fail "chs")) (hb.mono (by (first | omega | (simp; omega) | (simp; done) | fail "sml")))
      have zwb := rwb.size
      clear hb y0 y1
      obtain ⟨y0, y1⟩ := HK.out _ rwb
      go_wp2_with fail

      go_loopw [5, 6] (fun c i wr => ∃ k n : Nat, k ≤ s.size ∧ i = .int .i64 k ∧ c = .int .i64 n ∧ RowKit.Hid (n = dash s k) ∧ n ≤ k ∧ Below W.heap.size W wr) (fun _ i _ => s.size - (intOf i).toNat)
      case atStart => exact ⟨0, 0, Nat.zero_le _, rfl, rfl, Lib.hid (dash_zero s).symm, Nat.le_refl _, by ((repeat (first | with_reducible assumption | with_reducible exact Below.refl _ _ | refine Below.setCell ?_ (by (first | omega | (simp; omega) | (simp; done) | fail "sml")) _ | refine Below.drew ?_ | refine Below.alloc ?_ (by (first | omega | (simp; omega) | (simp; done) | fail "sml")) _)); first | done | fail "chs")⟩
      case round =>
        obtain ⟨k, n, hk, rfl, rfl, hnk, hn, hbr⟩ := hrel
        clear y0 y1
        obtain ⟨y0, y1⟩ := HK.out _ hbr
        have zwr := hbr.size
        by_cases hlt : k < s.size
        · by_cases hc : (s[k].toNat : Int) = 45
          · have hs := Lib.hid (show n + 1 = dash s (k + 1) by rw [dash_succ hlt, if_pos (u8_45.1 hc), hnk.out])
            go_wp2_with fail
            go_roundw
            case rel => exact ⟨k + 1, n + 1, by omega, by go_num, by go_num, hs, by omega, by ((repeat (first | with_reducible assumption | with_reducible exact Below.refl _ _ | refine Below.setCell ?_ (by (first | omega | (simp; omega) | (simp; done) | fail "sml")) _ | refine Below.drew ?_ | refine Below.alloc ?_ (by (first | omega | (simp; omega) | (simp; done) | fail "sml")) _)); first | done | fail "chs")⟩
            case measure => simp [intOf]; omega
          · have hs := Lib.hid (show n = dash s (k + 1) by rw [dash_succ hlt, if_neg (fun h => hc (u8_45.2 h)), hnk.out]; rfl)
            go_wp2_with fail
            go_roundw
            case rel => exact ⟨k + 1, n, by omega, by go_num, rfl, hs, by omega, by ((repeat (first | with_reducible assumption | with_reducible exact Below.refl _ _ | refine Below.setCell ?_ (by (first | omega | (simp; omega) | (simp; done) | fail "sml")) _ | refine Below.drew ?_ | refine Below.alloc ?_ (by (first | omega | (simp; omega) | (simp; done) | fail "sml")) _)); first | done | fail "chs")⟩
            case measure => simp [intOf]; omega
        · obtain rfl : k = s.size := by omega
          obtain rfl : n = 2 * x.es.length := hnk.out.trans hd.out
          have hw : IntKind.i64.wrap (2 * (x.es.length : Int)) = 2 * (x.es.length : Int) := by rw [IntKind.wrap_i64]; omega
          go_wp2_with fail
          go_ret
          exact ⟨rfl, HBW.out.trans (hbr.mono HBW.out.size)⟩
end Go.Proofs.YtmfccdelhobmoaaDoor
