/- The walk of FnWalkOne. -/
import Derived.Test.YtchhobphockhhaaL5J
import Derived.Test.YtchhobphockhhaaWkLaw
import Derived.Test.YtchhobphockhhaaWkJ
import Derived.Test.YtchhobphockhhaaWkJ3
import Derived.Test.YtchhobphockhhaaWkB
import Derived.Test.YtchhobphockhhaaWkT2
namespace Go.Proofs.Ytchhobphockhhaa
open Go.RowKit

set_option maxRecDepth 100000 in
set_option maxHeartbeats 16000000 in
theorem lawWalkOne (zs : List Int) (v : Value) (w : World) (hv : Sl 1 byCells w.heap.size w v zs) (hz : ∀ z ∈ zs, 0 ≤ z ∧ z ≤ 255) :
    Calls Try.prog 5 #[v] w fun e w' => e = .returned (.bool true) ∧ Below w.heap.size w w' := by
  obtain ⟨p, cap, rfl⟩ := hv.form
  have hm := hv.max
  unfold maxLen at hm
  by_cases hb : (1048576 : Int) < zs.length
  · go_enter Try.func5, Try.ntmps5
    go_wp2_with fail
    go_ret
    exact ⟨rfl, Below.refl _ _⟩
  · go_enter Try.func5, Try.ntmps5
    go_wp2_with fail
    refine (drawJoinWalks_any zs _ w.heap.size _ hv (Nat.le_refl _) hz).mono ?_
    rintro e wx ⟨x, vx, Fx, y, vy, Fy, rfl, hx, hy, hb1⟩
    clear hv
    obtain ⟨px, cx, qx, dx, rfl⟩ := hx.1.form
    obtain ⟨py, cy, qy, dy, rfl⟩ := hy.1.form
    have HX := Lib.hid hx.1.at
    have HY := Lib.hid hy.1.at
    have HB1 := Lib.hid hb1
    have HN40 := Lib.hid (show x.need ≤ 40 ∧ y.need ≤ 40 from ⟨hx.2.2, hy.2.2⟩)
    have HNx := Lib.hid (show x.need ≤ 1048576 by have := hx.2.2; omega)
    have HNy := Lib.hid (show y.need ≤ 1048576 by have := hy.2.2; omega)
    have s1 := hb1.size
    clear hx hy hb1
    go_upto_region 4 with fail
    obtain ⟨W, eW⟩ : ∃ E, E = (wx.alloc (.cells #[.slice px x.ns.length cx, .slice qx x.es.length dx] 25)).alloc (.cells #[.slice py y.ns.length cy, .slice qy y.es.length dy] 25) := ⟨_, rfl⟩
    have s3 : wx.heap.size + 1 < W.heap.size := by rw [eW]; simp
    have hbW : Below wx.heap.size wx W := by rw [eW]; exact ((Below.refl _ _).alloc (Nat.le_refl _) _).alloc (by simp) _
    have HC := Lib.hid (show (W.cell? ⟨wx.heap.size, 0, none⟩ = some (.slice px x.ns.length cx) ∧ W.cell? ⟨wx.heap.size, 1, none⟩ = some (.slice qx x.es.length dx)) ∧ (W.cell? ⟨wx.heap.size + 1, 0, none⟩ = some (.slice py y.ns.length cy) ∧ W.cell? ⟨wx.heap.size + 1, 1, none⟩ = some (.slice qy y.es.length dy)) by rw [eW]; exact ⟨⟨by simp [go_sem], by simp [go_sem]⟩, by simp [go_sem], by simp [go_sem]⟩)
    rw [← eW]
    clear eW
    have HK := Lib.hid (fun (E : World) (hE : Below W.heap.size W E) => And.intro (And.intro (And.intro (keepc (b := wx.heap.size) hE (by omega) HC.out.1.1) (keepc (b := wx.heap.size) hE (by omega) HC.out.1.2)) (show x.At W.heap.size E (.agg #[.slice px x.ns.length cx, .slice qx x.es.length dx]) from (HX.out.to hbW (Nat.le_refl _)).to (hE.mono (by omega)) (by omega))) (And.intro (And.intro (keepc hE s3 HC.out.2.1) (keepc hE s3 HC.out.2.2)) (show y.At W.heap.size E (.agg #[.slice py y.ns.length cy, .slice qy y.es.length dy]) from (HY.out.to hbW (Nat.le_refl _)).to (hE.mono (by omega)) (by omega))))
    have HBW := Lib.hid ((HB1.out.trans (hbW.mono s1)) : Below w.heap.size w W)
    clear hbW HC HX HY HB1
    have r0 := Below.refl W.heap.size W
    obtain ⟨⟨⟨y0a, y0b⟩, _⟩, ⟨y1a, y1b⟩, _⟩ := HK.out W (r0)
    obtain ⟨J, hJ⟩ : ∃ J, RowKit.Hid (J = wkJoin x y) := ⟨_, Lib.hid rfl⟩
    obtain ⟨O, hO⟩ : ∃ O, RowKit.Hid (O = joinOk x y) := ⟨_, Lib.hid rfl⟩
    go_wp2_with fail
    refine Calls.mono (joinWalks_any x y _ _ W.heap.size W (((HK.out W (r0)).1.2).to (Below.refl _ _) (by have := (r0).size; omega)) (((HK.out W (r0)).2.2).to (Below.refl _ _) (by have := (r0).size; omega)) (Nat.le_refl _) HNx.out HNy.out) ?_
    rw [← hJ.out, ← hO.out]
    rintro e wj ⟨vwj, Fwj, rfl, hwj, _, hb⟩
    obtain ⟨pwj, cwj, qwj, dwj, rfl⟩ := hwj.form
    have Hwj := Lib.hid hwj.at
    have rwj : Below W.heap.size W wj := (r0).trans (hb.mono (r0).size)
    have swj := rwj.size
    clear hwj hb
    clear y0a y0b y1a y1b
    go_upto_region 5 with fail
    obtain ⟨W5, eW5⟩ : ∃ E, E = wj.alloc (.cells #[.slice pwj J.ns.length cwj, .slice qwj J.es.length dwj] 25) := ⟨_, rfl⟩
    have lW5 : Below wj.heap.size wj W5 := by rw [eW5]; exact (Below.refl _ _).alloc (Nat.le_refl _) _
    have zW5 : wj.heap.size < W5.heap.size := by rw [eW5]; simp
    have CW5 := Lib.hid (show (W5.cell? ⟨wj.heap.size, 0, none⟩ = some (.slice pwj J.ns.length cwj) ∧ W5.cell? ⟨wj.heap.size, 1, none⟩ = some (.slice qwj J.es.length dwj)) by rw [eW5]; exact ⟨by simp [go_sem], by simp [go_sem]⟩)
    rw [← eW5]
    clear eW5
    have rW5 : Below W.heap.size W W5 := rwj.trans (lW5.mono swj)
    have sW5 := rW5.size
    have KW5 := Lib.hid (fun (E : World) (hE : Below W5.heap.size W5 E) => And.intro (HK.out E (rW5.trans (hE.mono sW5))) (show (E.cell? ⟨wj.heap.size, 0, none⟩ = some (.slice pwj J.ns.length cwj) ∧ E.cell? ⟨wj.heap.size, 1, none⟩ = some (.slice qwj J.es.length dwj)) ∧ (J : Wk).At W5.heap.size E (.agg #[.slice pwj J.ns.length cwj, .slice qwj J.es.length dwj]) from ⟨⟨keepc hE zW5 CW5.out.1, keepc hE zW5 CW5.out.2⟩, (Hwj.out.to lW5 (Nat.le_refl _)).to (hE.mono (by omega)) (by omega)⟩))
    have BW5 := Lib.hid ((HBW.out.trans (rW5.mono HBW.out.size)) : Below w.heap.size w W5)
    clear CW5 Hwj HBW rW5 lW5 rwj swj r0 HK
    have HBW := BW5
    clear BW5
    have r0 := Below.refl W5.heap.size W5
    obtain ⟨⟨⟨⟨y0a, y0b⟩, _⟩, ⟨y1a, y1b⟩, _⟩, ⟨y2a, y2b⟩, _⟩ := KW5.out W5 (r0)
    go_wp2_with fail
    refine Calls.mono (specJoinWalks_any x y _ _ W5.heap.size W5 (((KW5.out W5 (r0)).1.1.2).to (Below.refl _ _) (by have := (r0).size; omega)) (((KW5.out W5 (r0)).1.2.2).to (Below.refl _ _) (by have := (r0).size; omega)) (Nat.le_refl _) HNx.out HNy.out) ?_
    rw [← hJ.out, ← hO.out]
    rintro e wk ⟨vwk, Fwk, rfl, hwk, _, hb⟩
    obtain ⟨pwk, cwk, qwk, dwk, rfl⟩ := hwk.form
    have Hwk := Lib.hid hwk.at
    have rwk : Below W5.heap.size W5 wk := (r0).trans (hb.mono (r0).size)
    have swk := rwk.size
    clear hwk hb
    clear y0a y0b y1a y1b y2a y2b
    go_upto_region 6 with fail
    obtain ⟨W6, eW6⟩ : ∃ E, E = wk.alloc (.cells #[.slice pwk J.ns.length cwk, .slice qwk J.es.length dwk] 25) := ⟨_, rfl⟩
    have lW6 : Below wk.heap.size wk W6 := by rw [eW6]; exact (Below.refl _ _).alloc (Nat.le_refl _) _
    have zW6 : wk.heap.size < W6.heap.size := by rw [eW6]; simp
    have CW6 := Lib.hid (show (W6.cell? ⟨wk.heap.size, 0, none⟩ = some (.slice pwk J.ns.length cwk) ∧ W6.cell? ⟨wk.heap.size, 1, none⟩ = some (.slice qwk J.es.length dwk)) by rw [eW6]; exact ⟨by simp [go_sem], by simp [go_sem]⟩)
    rw [← eW6]
    clear eW6
    have rW6 : Below W5.heap.size W5 W6 := rwk.trans (lW6.mono swk)
    have sW6 := rW6.size
    have KW6 := Lib.hid (fun (E : World) (hE : Below W6.heap.size W6 E) => And.intro (KW5.out E (rW6.trans (hE.mono sW6))) (show (E.cell? ⟨wk.heap.size, 0, none⟩ = some (.slice pwk J.ns.length cwk) ∧ E.cell? ⟨wk.heap.size, 1, none⟩ = some (.slice qwk J.es.length dwk)) ∧ (J : Wk).At W6.heap.size E (.agg #[.slice pwk J.ns.length cwk, .slice qwk J.es.length dwk]) from ⟨⟨keepc hE zW6 CW6.out.1, keepc hE zW6 CW6.out.2⟩, (Hwk.out.to lW6 (Nat.le_refl _)).to (hE.mono (by omega)) (by omega)⟩))
    have BW6 := Lib.hid ((HBW.out.trans (rW6.mono HBW.out.size)) : Below w.heap.size w W6)
    clear CW6 Hwk HBW rW6 lW6 rwk swk r0 KW5
    have HBW := BW6
    clear BW6
    have r0 := Below.refl W6.heap.size W6
    obtain ⟨⟨⟨⟨⟨y0a, y0b⟩, _⟩, ⟨y1a, y1b⟩, _⟩, ⟨y2a, y2b⟩, _⟩, ⟨y3a, y3b⟩, _⟩ := KW6.out W6 (r0)
    cases O with
    | false =>
      clear hO
      go_wp2_with fail
      refine Calls.mono (walkSame_any J J _ _ W6.heap.size W6 (((KW6.out W6 (r0)).1.2.2).to (Below.refl _ _) (by have := (r0).size; omega)) (((KW6.out W6 (r0)).2.2).to (Below.refl _ _) (by have := (r0).size; omega)) (Nat.le_refl _)) ?_
      rw [wkEq_refl]
      rintro e wa ⟨rfl, hb⟩
      have rwa : Below W6.heap.size W6 wa := (r0).trans (hb.mono (r0).size)
      have swa := rwa.size
      clear hb
      clear y0a y0b y1a y1b y2a y2b y3a y3b
      obtain ⟨⟨⟨⟨⟨y0a, y0b⟩, _⟩, ⟨y1a, y1b⟩, _⟩, ⟨y2a, y2b⟩, _⟩, ⟨y3a, y3b⟩, _⟩ := KW6.out wa (rwa)
      go_wp2_with fail
      refine Calls.mono (walkSame_any J J _ _ wa.heap.size wa (((KW6.out wa (rwa)).1.2.2).to (Below.refl _ _) (by have := (rwa).size; omega)) (((KW6.out wa (rwa)).2.2).to (Below.refl _ _) (by have := (rwa).size; omega)) (Nat.le_refl _)) ?_
      rw [wkEq_refl]
      rintro e wb ⟨rfl, hb⟩
      have rwb : Below W6.heap.size W6 wb := (rwa).trans (hb.mono (rwa).size)
      have swb := rwb.size
      clear hb
      clear y0a y0b y1a y1b y2a y2b y3a y3b
      obtain ⟨⟨⟨⟨⟨y0a, y0b⟩, _⟩, ⟨y1a, y1b⟩, _⟩, ⟨y2a, y2b⟩, _⟩, ⟨y3a, y3b⟩, _⟩ := KW6.out wb (rwb)
      go_wp2_with fail
      go_ret
      exact ⟨rfl, HBW.out.trans ((rwb).mono HBW.out.size)⟩

    | true =>
      have HO := Lib.hid hO.out.symm
      have HJ := hJ
      clear hO hJ
      go_wp2_with fail
      refine Calls.mono (walkSame_any J J _ _ W6.heap.size W6 (((KW6.out W6 (r0)).1.2.2).to (Below.refl _ _) (by have := (r0).size; omega)) (((KW6.out W6 (r0)).2.2).to (Below.refl _ _) (by have := (r0).size; omega)) (Nat.le_refl _)) ?_
      rw [wkEq_refl]
      rintro e wa ⟨rfl, hb⟩
      have rwa : Below W6.heap.size W6 wa := (r0).trans (hb.mono (r0).size)
      have swa := rwa.size
      clear hb
      clear y0a y0b y1a y1b y2a y2b y3a y3b
      have hpy : 0 < y.ns.length := by have := (wkShape_iff.1 (joinOk_iff.1 HO.out).2.1).1; omega
      have HR := Lib.hid (join_one_right HO.out hpy)
      have HL := Lib.hid (join_one_left HO.out hpy)
      have hpy2 : (0 : Int) < (y.ns.length : Int) := by omega
      obtain ⟨v0, v1, e1, a1, a2⟩ := (KW6.out wa (rwa)).1.1.2.2
      cases e1
      obtain ⟨byy, oy, rfl, hby, czy⟩ := a1.it (k := 0) hpy
      clear a1 a2
      obtain ⟨z, ez⟩ : ∃ z, z = y.ns[0]'hpy := ⟨_, rfl⟩
      rw [← ez] at HR HL czy
      rw [Nat.add_zero] at czy
      clear ez
      obtain ⟨⟨⟨⟨⟨y0a, y0b⟩, _⟩, ⟨y1a, y1b⟩, _⟩, ⟨y2a, y2b⟩, _⟩, ⟨y3a, y3b⟩, _⟩ := KW6.out wa (rwa)
      go_upto_region 9 with fail
      obtain ⟨wn, ewn⟩ : ∃ E, E = wa.alloc (.cells #[.int .i64 z] 3) := ⟨_, rfl⟩
      have Hwn := Lib.hid (show (⟨[z], []⟩ : Wk).At wn.heap.size wn (.agg #[.slice (some ⟨wa.heap.size, 0, none⟩) 1 1, .slice none 0 0]) by rw [ewn]; exact ⟨_, _, rfl, (OwnS.own (enc := intCells) (fun _ => rfl) (ownOne wa z)).sl, Sl.nil _ _ _⟩)
      have HSZ := Lib.hid (show wn.heap.size = wa.heap.size + 1 by rw [ewn]; simp)
      have rwn : Below W6.heap.size W6 wn := by rw [ewn]; exact rwa.alloc swa _
      have swn := rwn.size
      rw [← ewn]
      clear ewn czy rwa
      clear y0a y0b y1a y1b y2a y2b y3a y3b
      obtain ⟨W8, eW8⟩ : ∃ E, E = wn.alloc (.cells #[.slice (some ⟨wa.heap.size, 0, none⟩) 1 1, .slice none 0 0] 25) := ⟨_, rfl⟩
      have lW8 : Below wn.heap.size wn W8 := by rw [eW8]; exact (Below.refl _ _).alloc (Nat.le_refl _) _
      have zW8 : wa.heap.size + 1 < W8.heap.size := by rw [← HSZ.out, eW8]; simp
      have CW8 := Lib.hid (show (W8.cell? ⟨wa.heap.size + 1, 0, none⟩ = some (.slice (some ⟨wa.heap.size, 0, none⟩) 1 1) ∧ W8.cell? ⟨wa.heap.size + 1, 1, none⟩ = some (.slice none 0 0)) by rw [← HSZ.out, eW8]; exact ⟨by simp [go_sem], by simp [go_sem]⟩)
      rw [← eW8]
      clear eW8
      have rW8 : Below W6.heap.size W6 W8 := rwn.trans (lW8.mono swn)
      have sW8 := rW8.size
      have KW8 := Lib.hid (fun (E : World) (hE : Below W8.heap.size W8 E) => And.intro (KW6.out E (rW8.trans (hE.mono sW8))) (show (E.cell? ⟨wa.heap.size + 1, 0, none⟩ = some (.slice (some ⟨wa.heap.size, 0, none⟩) 1 1) ∧ E.cell? ⟨wa.heap.size + 1, 1, none⟩ = some (.slice none 0 0)) ∧ (⟨[z], []⟩ : Wk).At W8.heap.size E (.agg #[.slice (some ⟨wa.heap.size, 0, none⟩) 1 1, .slice none 0 0]) from ⟨⟨keepc hE zW8 CW8.out.1, keepc hE zW8 CW8.out.2⟩, (Hwn.out.to lW8 (Nat.le_refl _)).to (hE.mono lW8.size) lW8.size⟩))
      have BW8 := Lib.hid ((HBW.out.trans (rW8.mono HBW.out.size)) : Below w.heap.size w W8)
      clear CW8 Hwn HBW rW8 lW8 rwn swn r0 KW6
      have HBW := BW8
      clear BW8
      have r0 := Below.refl W8.heap.size W8
      obtain ⟨⟨⟨⟨⟨⟨y0a, y0b⟩, _⟩, ⟨y1a, y1b⟩, _⟩, ⟨y2a, y2b⟩, _⟩, ⟨y3a, y3b⟩, _⟩, ⟨y4a, y4b⟩, _⟩ := KW8.out W8 (r0)
      go_wp2_with fail
      refine Calls.mono (joinWalks_any x ⟨[z], []⟩ _ _ W8.heap.size W8 (((KW8.out W8 (r0)).1.1.1.1.2).to (Below.refl _ _) (by have := (r0).size; omega)) (((KW8.out W8 (r0)).2.2).to (Below.refl _ _) (by have := (r0).size; omega)) (Nat.le_refl _) HNx.out (by simp [Wk.need])) ?_
      rw [HR.out.1, HR.out.2]
      rintro e wc1 ⟨vwc1, Fwc1, rfl, hwc1, _, hb⟩
      obtain ⟨pwc1, cwc1, qwc1, dwc1, rfl⟩ := hwc1.form
      have Hwc1 := Lib.hid hwc1.at
      have rwc1 : Below W8.heap.size W8 wc1 := (r0).trans (hb.mono (r0).size)
      have swc1 := rwc1.size
      clear hwc1 hb
      clear y0a y0b y1a y1b y2a y2b y3a y3b y4a y4b
      go_upto_region 10 with fail
      obtain ⟨W9, eW9⟩ : ∃ E, E = wc1.alloc (.cells #[.slice pwc1 x.ns.length cwc1, .slice qwc1 x.es.length dwc1] 25) := ⟨_, rfl⟩
      have lW9 : Below wc1.heap.size wc1 W9 := by rw [eW9]; exact (Below.refl _ _).alloc (Nat.le_refl _) _
      have zW9 : wc1.heap.size < W9.heap.size := by rw [eW9]; simp
      have CW9 := Lib.hid (show (W9.cell? ⟨wc1.heap.size, 0, none⟩ = some (.slice pwc1 x.ns.length cwc1) ∧ W9.cell? ⟨wc1.heap.size, 1, none⟩ = some (.slice qwc1 x.es.length dwc1)) by rw [eW9]; exact ⟨by simp [go_sem], by simp [go_sem]⟩)
      rw [← eW9]
      clear eW9
      have rW9 : Below W8.heap.size W8 W9 := rwc1.trans (lW9.mono swc1)
      have sW9 := rW9.size
      have KW9 := Lib.hid (fun (E : World) (hE : Below W9.heap.size W9 E) => And.intro (KW8.out E (rW9.trans (hE.mono sW9))) (show (E.cell? ⟨wc1.heap.size, 0, none⟩ = some (.slice pwc1 x.ns.length cwc1) ∧ E.cell? ⟨wc1.heap.size, 1, none⟩ = some (.slice qwc1 x.es.length dwc1)) ∧ (x : Wk).At W9.heap.size E (.agg #[.slice pwc1 x.ns.length cwc1, .slice qwc1 x.es.length dwc1]) from ⟨⟨keepc hE zW9 CW9.out.1, keepc hE zW9 CW9.out.2⟩, (Hwc1.out.to lW9 (Nat.le_refl _)).to (hE.mono (by omega)) (by omega)⟩))
      have BW9 := Lib.hid ((HBW.out.trans (rW9.mono HBW.out.size)) : Below w.heap.size w W9)
      clear CW9 Hwc1 HBW rW9 lW9 rwc1 swc1 r0 KW8
      have HBW := BW9
      clear BW9
      have r0 := Below.refl W9.heap.size W9
      obtain ⟨⟨⟨⟨⟨⟨⟨y0a, y0b⟩, _⟩, ⟨y1a, y1b⟩, _⟩, ⟨y2a, y2b⟩, _⟩, ⟨y3a, y3b⟩, _⟩, ⟨y4a, y4b⟩, _⟩, ⟨y5a, y5b⟩, _⟩ := KW9.out W9 (r0)
      go_wp2_with fail
      refine Calls.mono (joinWalks_any ⟨[z], []⟩ y _ _ W9.heap.size W9 (((KW9.out W9 (r0)).1.2.2).to (Below.refl _ _) (by have := (r0).size; omega)) (((KW9.out W9 (r0)).1.1.1.1.2.2).to (Below.refl _ _) (by have := (r0).size; omega)) (Nat.le_refl _) (by simp [Wk.need]) HNy.out) ?_
      rw [HL.out.1, HL.out.2]
      rintro e wd ⟨vwd, Fwd, rfl, hwd, _, hb⟩
      obtain ⟨pwd, cwd, qwd, dwd, rfl⟩ := hwd.form
      have Hwd := Lib.hid hwd.at
      have rwd : Below W9.heap.size W9 wd := (r0).trans (hb.mono (r0).size)
      have swd := rwd.size
      clear hwd hb
      clear y0a y0b y1a y1b y2a y2b y3a y3b y4a y4b y5a y5b
      go_upto_region 11 with fail
      obtain ⟨W10, eW10⟩ : ∃ E, E = wd.alloc (.cells #[.slice pwd y.ns.length cwd, .slice qwd y.es.length dwd] 25) := ⟨_, rfl⟩
      have lW10 : Below wd.heap.size wd W10 := by rw [eW10]; exact (Below.refl _ _).alloc (Nat.le_refl _) _
      have zW10 : wd.heap.size < W10.heap.size := by rw [eW10]; simp
      have CW10 := Lib.hid (show (W10.cell? ⟨wd.heap.size, 0, none⟩ = some (.slice pwd y.ns.length cwd) ∧ W10.cell? ⟨wd.heap.size, 1, none⟩ = some (.slice qwd y.es.length dwd)) by rw [eW10]; exact ⟨by simp [go_sem], by simp [go_sem]⟩)
      rw [← eW10]
      clear eW10
      have rW10 : Below W9.heap.size W9 W10 := rwd.trans (lW10.mono swd)
      have sW10 := rW10.size
      have KW10 := Lib.hid (fun (E : World) (hE : Below W10.heap.size W10 E) => And.intro (KW9.out E (rW10.trans (hE.mono sW10))) (show (E.cell? ⟨wd.heap.size, 0, none⟩ = some (.slice pwd y.ns.length cwd) ∧ E.cell? ⟨wd.heap.size, 1, none⟩ = some (.slice qwd y.es.length dwd)) ∧ (y : Wk).At W10.heap.size E (.agg #[.slice pwd y.ns.length cwd, .slice qwd y.es.length dwd]) from ⟨⟨keepc hE zW10 CW10.out.1, keepc hE zW10 CW10.out.2⟩, (Hwd.out.to lW10 (Nat.le_refl _)).to (hE.mono (by omega)) (by omega)⟩))
      have BW10 := Lib.hid ((HBW.out.trans (rW10.mono HBW.out.size)) : Below w.heap.size w W10)
      clear CW10 Hwd HBW rW10 lW10 rwd swd r0 KW9
      have HBW := BW10
      clear BW10
      have r0 := Below.refl W10.heap.size W10
      obtain ⟨⟨⟨⟨⟨⟨⟨⟨y0a, y0b⟩, _⟩, ⟨y1a, y1b⟩, _⟩, ⟨y2a, y2b⟩, _⟩, ⟨y3a, y3b⟩, _⟩, ⟨y4a, y4b⟩, _⟩, ⟨y5a, y5b⟩, _⟩, ⟨y6a, y6b⟩, _⟩ := KW10.out W10 (r0)
      go_wp2_with fail
      refine Calls.mono (walkSame_any x x _ _ W10.heap.size W10 (((KW10.out W10 (r0)).1.2.2).to (Below.refl _ _) (by have := (r0).size; omega)) (((KW10.out W10 (r0)).1.1.1.1.1.1.2).to (Below.refl _ _) (by have := (r0).size; omega)) (Nat.le_refl _)) ?_
      rw [wkEq_refl]
      rintro e we ⟨rfl, hb⟩
      have rwe : Below W10.heap.size W10 we := (r0).trans (hb.mono (r0).size)
      have swe := rwe.size
      clear hb
      clear y0a y0b y1a y1b y2a y2b y3a y3b y4a y4b y5a y5b y6a y6b
      obtain ⟨⟨⟨⟨⟨⟨⟨⟨y0a, y0b⟩, _⟩, ⟨y1a, y1b⟩, _⟩, ⟨y2a, y2b⟩, _⟩, ⟨y3a, y3b⟩, _⟩, ⟨y4a, y4b⟩, _⟩, ⟨y5a, y5b⟩, _⟩, ⟨y6a, y6b⟩, _⟩ := KW10.out we (rwe)
      go_wp2_with fail
      refine Calls.mono (walkSame_any y y _ _ we.heap.size we (((KW10.out we (rwe)).2.2).to (Below.refl _ _) (by have := (rwe).size; omega)) (((KW10.out we (rwe)).1.1.1.1.1.2.2).to (Below.refl _ _) (by have := (rwe).size; omega)) (Nat.le_refl _)) ?_
      rw [wkEq_refl]
      rintro e wf ⟨rfl, hb⟩
      have rwf : Below W10.heap.size W10 wf := (rwe).trans (hb.mono (rwe).size)
      have swf := rwf.size
      clear hb
      clear y0a y0b y1a y1b y2a y2b y3a y3b y4a y4b y5a y5b y6a y6b
      obtain ⟨⟨⟨⟨⟨⟨⟨⟨y0a, y0b⟩, _⟩, ⟨y1a, y1b⟩, _⟩, ⟨y2a, y2b⟩, _⟩, ⟨y3a, y3b⟩, _⟩, ⟨y4a, y4b⟩, _⟩, ⟨y5a, y5b⟩, _⟩, ⟨y6a, y6b⟩, _⟩ := KW10.out wf (rwf)
      go_wp2_with fail
      go_ret
      exact ⟨rfl, HBW.out.trans ((rwf).mono HBW.out.size)⟩

end Go.Proofs.Ytchhobphockhhaa
