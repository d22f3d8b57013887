/- The walk of FnGraphNode. -/
import Derived.Test.YthephdglianipaaDoorL1F
import Derived.Test.YthephdglianipaaDoorBCnt
import Derived.Test.YthephdglianipaaDoorFGI
import Derived.Test.YthephdglianipaaDoorFGS
import Derived.Test.YthephdglianipaaDoorReg
namespace Go.Proofs.YthephdglianipaaDoor
open Go.RowKit

theorem u8_at {c d : UInt8} (n : Nat) (h : d.toNat = n) : (c.toNat : Int) = n ↔ c = d := by
  constructor
  · intro h2; exact UInt8.toNat.inj (show c.toNat = d.toNat by omega)
  · rintro rfl; omega

set_option maxRecDepth 100000 in
set_option maxHeartbeats 8000000 in
theorem lawGraphNode (zs : List Int) (v : Value) (w : World) (hv : Sl 1 byCells w.heap.size w v zs) (hz : ∀ z ∈ zs, 0 ≤ z ∧ z ≤ 255) (hvars : VarsI w) :
    Calls Tryd.prog 3 #[v] w fun e w' => e = .returned (.bool true) ∧ Below w.heap.size w w' := by
  have HVV := Lib.hid hvars
  clear hvars
  obtain ⟨p, cap, rfl⟩ := hv.form
  have hm := hv.max
  unfold maxLen at hm
  by_cases hb : (1048576 : Int) < zs.length
  · go_enter Tryd.func3, Tryd.ntmps3
    go_wp2_with fail
    go_ret
    exact ⟨rfl, Below.refl _ _⟩
  · go_enter Tryd.func3, Tryd.ntmps3
    go_wp2_with fail
    refine (drawFormatGraph_any zs _ w.heap.size _ hv (Nat.le_refl _) hz).mono ?_
    rintro e wx ⟨x, vx, Fx, rfl, hx, hb1⟩
    obtain ⟨px, cx, qx, dx, rfl⟩ := hx.1.form
    have HX := Lib.hid hx.1.at
    have HB1 := Lib.hid hb1
    have HN := Lib.hid hx.2.2.1
    have s1 := hb1.size
    clear hx hb1 hv
    go_upto_region 4 with fail
    obtain ⟨W, eW⟩ : ∃ E, E = wx.alloc (.cells #[.slice px x.ns.length cx, .slice qx x.es.length dx] 26) := ⟨_, rfl⟩
    have s3 : wx.heap.size < W.heap.size := by rw [eW]; simp
    have hbW : Below wx.heap.size wx W := by rw [eW]; exact (Below.refl _ _).alloc (Nat.le_refl _) _
    have HC := Lib.hid (show W.cell? ⟨wx.heap.size, 0, none⟩ = some (.slice px x.ns.length cx) ∧ W.cell? ⟨wx.heap.size, 1, none⟩ = some (.slice qx x.es.length dx) by rw [eW]; exact ⟨by simp [go_sem], by simp [go_sem]⟩)
    rw [← eW]
    clear eW
    have HK := Lib.hid (fun (E : World) (hE : Below W.heap.size W E) => And.intro (keepc hE s3 HC.out.1) (keepc hE s3 HC.out.2))
    have HA := Lib.hid (fun (E : World) (hE : Below W.heap.size W E) => (show x.At W.heap.size E (.agg #[.slice px x.ns.length cx, .slice qx x.es.length dx]) from ((HX.out.below hbW).below (hE.mono (by omega))).mono (by omega)))
    have HBW := Lib.hid ((HB1.out.trans (hbW.mono s1)) : Below w.heap.size w W)
    have HVI := Lib.hid (fun (E : World) (hE : Below W.heap.size W E) => HVV.out.below (HBW.out.trans (hE.mono (by have := HBW.out.size; omega))))
    clear hbW
    have r0 := Below.refl W.heap.size W
    obtain ⟨y0, y1⟩ := HK.out _ r0
    obtain ⟨s, ES⟩ : ∃ s, fmtG x = s := ⟨_, rfl⟩
    cases ht : gv x with
    | false =>
      obtain rfl : s = ⟨#[]⟩ := ES ▸ fmtG_no ht
      go_wp2_with fail
      refine Calls.mono (ES ▸ formatGraph_any x _ W.heap.size _ (HA.out _ (show Below W.heap.size W _ by ((repeat (first | with_reducible assumption | with_reducible exact Below.refl _ _ | refine Below.setCell ?_ (by (first | omega | (simp; omega) | (simp; done) | fail "sml")) _ | refine Below.drew ?_ | refine Below.alloc ?_ (by (first | omega | (simp; omega) | (simp; done) | fail "sml")) _)); first | done | fail "chs"))) (show Below W.heap.size W _ by ((repeat (first | with_reducible assumption | with_reducible exact Below.refl _ _ | refine Below.setCell ?_ (by (first | omega | (simp; omega) | (simp; done) | fail "sml")) _ | refine Below.drew ?_ | refine Below.alloc ?_ (by (first | omega | (simp; omega) | (simp; done) | fail "sml")) _)); first | done | fail "chs")).size HN.out (HVI.out _ (show Below W.heap.size W _ by ((repeat (first | with_reducible assumption | with_reducible exact Below.refl _ _ | refine Below.setCell ?_ (by (first | omega | (simp; omega) | (simp; done) | fail "sml")) _ | refine Below.drew ?_ | refine Below.alloc ?_ (by (first | omega | (simp; omega) | (simp; done) | fail "sml")) _)); first | done | fail "chs")))) ?_
      rintro e wa ⟨rfl, hb⟩
      have rwa := Below.trans (show Below W.heap.size W _ by ((repeat (first | with_reducible assumption | with_reducible exact Below.refl _ _ | refine Below.setCell ?_ (by (first | omega | (simp; omega) | (simp; done) | fail "sml")) _ | refine Below.drew ?_ | refine Below.alloc ?_ (by (first | omega | (simp; omega) | (simp; done) | fail "sml")) _)); first | done | fail "chs")) (hb.mono (by (first | omega | (simp; omega) | (simp; done) | fail "sml")))
      have zwa := rwa.size
      clear hb y0 y1
      obtain ⟨y0, y1⟩ := HK.out _ rwa
      go_wp2_with fail

      refine Calls.mono (ES ▸ specFormatGraph_any x _ W.heap.size _ (HA.out _ (show Below W.heap.size W _ by ((repeat (first | with_reducible assumption | with_reducible exact Below.refl _ _ | refine Below.setCell ?_ (by (first | omega | (simp; omega) | (simp; done) | fail "sml")) _ | refine Below.drew ?_ | refine Below.alloc ?_ (by (first | omega | (simp; omega) | (simp; done) | fail "sml")) _)); first | done | fail "chs"))) (show Below W.heap.size W _ by ((repeat (first | with_reducible assumption | with_reducible exact Below.refl _ _ | refine Below.setCell ?_ (by (first | omega | (simp; omega) | (simp; done) | fail "sml")) _ | refine Below.drew ?_ | refine Below.alloc ?_ (by (first | omega | (simp; omega) | (simp; done) | fail "sml")) _)); first | done | fail "chs")).size HN.out) ?_
      rintro e wb ⟨rfl, hb⟩
      have rwb := Below.trans (show Below W.heap.size W _ by ((repeat (first | with_reducible assumption | with_reducible exact Below.refl _ _ | refine Below.setCell ?_ (by (first | omega | (simp; omega) | (simp; done) | fail "sml")) _ | refine Below.drew ?_ | refine Below.alloc ?_ (by (first | omega | (simp; omega) | (simp; done) | fail "sml")) _)); first | done | fail "chs")) (hb.mono (by (first | omega | (simp; omega) | (simp; done) | fail "sml")))
      have zwb := rwb.size
      clear hb y0 y1
      obtain ⟨y0, y1⟩ := HK.out _ rwb
      go_wp2_with fail

      refine Calls.mono (ES ▸ specFormatGraph_any x _ W.heap.size _ (HA.out _ (show Below W.heap.size W _ by ((repeat (first | with_reducible assumption | with_reducible exact Below.refl _ _ | refine Below.setCell ?_ (by (first | omega | (simp; omega) | (simp; done) | fail "sml")) _ | refine Below.drew ?_ | refine Below.alloc ?_ (by (first | omega | (simp; omega) | (simp; done) | fail "sml")) _)); first | done | fail "chs"))) (show Below W.heap.size W _ by ((repeat (first | with_reducible assumption | with_reducible exact Below.refl _ _ | refine Below.setCell ?_ (by (first | omega | (simp; omega) | (simp; done) | fail "sml")) _ | refine Below.drew ?_ | refine Below.alloc ?_ (by (first | omega | (simp; omega) | (simp; done) | fail "sml")) _)); first | done | fail "chs")).size HN.out) ?_
      rintro e wc1 ⟨rfl, hb⟩
      have rwc1 := Below.trans (show Below W.heap.size W _ by ((repeat (first | with_reducible assumption | with_reducible exact Below.refl _ _ | refine Below.setCell ?_ (by (first | omega | (simp; omega) | (simp; done) | fail "sml")) _ | refine Below.drew ?_ | refine Below.alloc ?_ (by (first | omega | (simp; omega) | (simp; done) | fail "sml")) _)); first | done | fail "chs")) (hb.mono (by (first | omega | (simp; omega) | (simp; done) | fail "sml")))
      have zwc1 := rwc1.size
      clear hb y0 y1
      obtain ⟨y0, y1⟩ := HK.out _ rwc1
      go_wp2_with fail

      go_ret
      exact ⟨rfl, HBW.out.trans (rwc1.mono HBW.out.size)⟩
    | true =>
      have hd : RowKit.Hid (bcnt 40 s s.size = x.ns.length) := Lib.hid (ES ▸ (fmtG_brackets ht).1)
      have hd2 : RowKit.Hid (bcnt 91 s s.size = x.es.length) := Lib.hid (ES ▸ (fmtG_brackets ht).2.1)
      obtain ⟨h0, h50⟩ : 0 < s.size ∧ s.size ≤ 400 := ES ▸ (fmtG_brackets ht).2.2
      have hne := str_nonempty' h0
      have hne2 := str_nonempty h0
      have hne3 : s.toList.isEmpty = false := by simpa using hne
      go_wp2_with fail
      refine Calls.mono (ES ▸ formatGraph_any x _ W.heap.size _ (HA.out _ (show Below W.heap.size W _ by ((repeat (first | with_reducible assumption | with_reducible exact Below.refl _ _ | refine Below.setCell ?_ (by (first | omega | (simp; omega) | (simp; done) | fail "sml")) _ | refine Below.drew ?_ | refine Below.alloc ?_ (by (first | omega | (simp; omega) | (simp; done) | fail "sml")) _)); first | done | fail "chs"))) (show Below W.heap.size W _ by ((repeat (first | with_reducible assumption | with_reducible exact Below.refl _ _ | refine Below.setCell ?_ (by (first | omega | (simp; omega) | (simp; done) | fail "sml")) _ | refine Below.drew ?_ | refine Below.alloc ?_ (by (first | omega | (simp; omega) | (simp; done) | fail "sml")) _)); first | done | fail "chs")).size HN.out (HVI.out _ (show Below W.heap.size W _ by ((repeat (first | with_reducible assumption | with_reducible exact Below.refl _ _ | refine Below.setCell ?_ (by (first | omega | (simp; omega) | (simp; done) | fail "sml")) _ | refine Below.drew ?_ | refine Below.alloc ?_ (by (first | omega | (simp; omega) | (simp; done) | fail "sml")) _)); first | done | fail "chs")))) ?_
      rintro e wa ⟨rfl, hb⟩
      have rwa := Below.trans (show Below W.heap.size W _ by ((repeat (first | with_reducible assumption | with_reducible exact Below.refl _ _ | refine Below.setCell ?_ (by (first | omega | (simp; omega) | (simp; done) | fail "sml")) _ | refine Below.drew ?_ | refine Below.alloc ?_ (by (first | omega | (simp; omega) | (simp; done) | fail "sml")) _)); first | done | fail "chs")) (hb.mono (by (first | omega | (simp; omega) | (simp; done) | fail "sml")))
      have zwa := rwa.size
      clear hb y0 y1
      obtain ⟨y0, y1⟩ := HK.out _ rwa
      go_wp2_with fail

      refine Calls.mono (ES ▸ specFormatGraph_any x _ W.heap.size _ (HA.out _ (show Below W.heap.size W _ by ((repeat (first | with_reducible assumption | with_reducible exact Below.refl _ _ | refine Below.setCell ?_ (by (first | omega | (simp; omega) | (simp; done) | fail "sml")) _ | refine Below.drew ?_ | refine Below.alloc ?_ (by (first | omega | (simp; omega) | (simp; done) | fail "sml")) _)); first | done | fail "chs"))) (show Below W.heap.size W _ by ((repeat (first | with_reducible assumption | with_reducible exact Below.refl _ _ | refine Below.setCell ?_ (by (first | omega | (simp; omega) | (simp; done) | fail "sml")) _ | refine Below.drew ?_ | refine Below.alloc ?_ (by (first | omega | (simp; omega) | (simp; done) | fail "sml")) _)); first | done | fail "chs")).size HN.out) ?_
      rintro e wb ⟨rfl, hb⟩
      have rwb := Below.trans (show Below W.heap.size W _ by ((repeat (first | with_reducible assumption | with_reducible exact Below.refl _ _ | refine Below.setCell ?_ (by (first | omega | (simp; omega) | (simp; done) | fail "sml")) _ | refine Below.drew ?_ | refine Below.alloc ?_ (by (first | omega | (simp; omega) | (simp; done) | fail "sml")) _)); first | done | fail "chs")) (hb.mono (by (first | omega | (simp; omega) | (simp; done) | fail "sml")))
      have zwb := rwb.size
      clear hb y0 y1
      obtain ⟨y0, y1⟩ := HK.out _ rwb
      go_wp2_with fail

      go_loopw [5, 6, 7] (fun c d i wr => ∃ k n t : Nat, k ≤ s.size ∧ i = .int .i64 k ∧ c = .int .i64 n ∧ d = .int .i64 t ∧ RowKit.Hid (n = bcnt 40 s k) ∧ RowKit.Hid (t = bcnt 91 s k) ∧ n ≤ k ∧ t ≤ k ∧ Below W.heap.size W wr) (fun _ _ i _ => s.size - (intOf i).toNat)
      case atStart => exact ⟨0, 0, 0, Nat.zero_le _, rfl, rfl, rfl, Lib.hid (bcnt_zero 40 s).symm, Lib.hid (bcnt_zero 91 s).symm, Nat.le_refl _, Nat.le_refl _, by ((repeat (first | with_reducible assumption | with_reducible exact Below.refl _ _ | refine Below.setCell ?_ (by (first | omega | (simp; omega) | (simp; done) | fail "sml")) _ | refine Below.drew ?_ | refine Below.alloc ?_ (by (first | omega | (simp; omega) | (simp; done) | fail "sml")) _)); first | done | fail "chs")⟩
      case round =>
        obtain ⟨k, n, t, hk, rfl, rfl, rfl, hnk, htk, hn, ht2, hbr⟩ := hrel
        clear y0 y1
        obtain ⟨y0, y1⟩ := HK.out _ hbr
        have zwr := hbr.size
        by_cases hlt : k < s.size
        · by_cases hc : (s[k].toNat : Int) = 40
          · have hs := Lib.hid (show n + 1 = bcnt 40 s (k + 1) by rw [bcnt_succ 40 hlt, if_pos ((u8_at 40 rfl).1 hc), hnk.out])
            have hs2 := Lib.hid (show t = bcnt 91 s (k + 1) by rw [bcnt_succ 91 hlt, if_neg (fun h => by have := (u8_at 91 rfl).2 h; omega), htk.out]; rfl)
            have hc2 : ((s[k].toNat : Int) = 91) = False := eq_false (by omega)
            go_wp2_with fail
            go_roundw
            case rel => exact ⟨k + 1, n + 1, t, by omega, by go_num, by go_num, rfl, hs, hs2, by omega, by omega, by ((repeat (first | with_reducible assumption | with_reducible exact Below.refl _ _ | refine Below.setCell ?_ (by (first | omega | (simp; omega) | (simp; done) | fail "sml")) _ | refine Below.drew ?_ | refine Below.alloc ?_ (by (first | omega | (simp; omega) | (simp; done) | fail "sml")) _)); first | done | fail "chs")⟩
            case measure => simp [intOf]; omega
          · have hs := Lib.hid (show n = bcnt 40 s (k + 1) by rw [bcnt_succ 40 hlt, if_neg (fun h => hc ((u8_at 40 rfl).2 h)), hnk.out]; rfl)
            by_cases hc2 : (s[k].toNat : Int) = 91
            · have hs2 := Lib.hid (show t + 1 = bcnt 91 s (k + 1) by rw [bcnt_succ 91 hlt, if_pos ((u8_at 91 rfl).1 hc2), htk.out])
              go_wp2_with fail
              go_roundw
              case rel => exact ⟨k + 1, n, t + 1, by omega, by go_num, rfl, by go_num, hs, hs2, by omega, by omega, by ((repeat (first | with_reducible assumption | with_reducible exact Below.refl _ _ | refine Below.setCell ?_ (by (first | omega | (simp; omega) | (simp; done) | fail "sml")) _ | refine Below.drew ?_ | refine Below.alloc ?_ (by (first | omega | (simp; omega) | (simp; done) | fail "sml")) _)); first | done | fail "chs")⟩
              case measure => simp [intOf]; omega
            · have hs2 := Lib.hid (show t = bcnt 91 s (k + 1) by rw [bcnt_succ 91 hlt, if_neg (fun h => hc2 ((u8_at 91 rfl).2 h)), htk.out]; rfl)
              go_wp2_with fail
              go_roundw
              case rel => exact ⟨k + 1, n, t, by omega, by go_num, rfl, rfl, hs, hs2, by omega, by omega, by ((repeat (first | with_reducible assumption | with_reducible exact Below.refl _ _ | refine Below.setCell ?_ (by (first | omega | (simp; omega) | (simp; done) | fail "sml")) _ | refine Below.drew ?_ | refine Below.alloc ?_ (by (first | omega | (simp; omega) | (simp; done) | fail "sml")) _)); first | done | fail "chs")⟩
              case measure => simp [intOf]; omega
        · obtain rfl : k = s.size := by omega
          obtain rfl : n = x.ns.length := hnk.out.trans hd.out
          obtain rfl : t = x.es.length := htk.out.trans hd2.out
          go_wp2_with fail
          go_ret
          exact ⟨rfl, HBW.out.trans (hbr.mono HBW.out.size)⟩
end Go.Proofs.YthephdglianipaaDoor
