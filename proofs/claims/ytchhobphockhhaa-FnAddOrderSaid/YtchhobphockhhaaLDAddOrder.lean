/- The walk of FnAddOrder. -/
import Derived.Test.YtchhobphockhhaaL1E
import Derived.Test.YtchhobphockhhaaGLaw
import Derived.Test.YtchhobphockhhaaGSame2
import Derived.Test.YtchhobphockhhaaAdd
import Derived.Test.YtchhobphockhhaaSAdd
namespace Go.Proofs.Ytchhobphockhhaa
open Go.RowKit
theorem extR_ok {g : Gr} {xs : List Nd} {ys : List Ed} (h : g.Ok) (hx : ∀ x ∈ xs, x.Ok) (hy : ∀ y ∈ ys, y.Ok) : (extR g xs ys).Ok := by
  unfold extR
  split
  · exact more_ok h hx hy
  · exact ⟨by simp, by simp⟩

set_option maxRecDepth 100000 in
set_option maxHeartbeats 16000000 in
theorem lawAddOrder (zs : List Int) (v : Value) (w : World) (hv : Sl 1 byCells w.heap.size w v zs) (hz : ∀ z ∈ zs, 0 ≤ z ∧ z ≤ 255) :
    Calls Try.prog 8 #[v] w fun e w' => e = .returned (.bool true) ∧ Below w.heap.size w w' := by
  obtain ⟨p, cap, rfl⟩ := hv.form
  have hm := hv.max
  unfold maxLen at hm
  by_cases hb : (1048576 : Int) < zs.length
  · go_enter Try.func8, Try.ntmps8
    go_wp2_with fail
    go_ret
    exact ⟨rfl, Below.refl _ _⟩
  · go_enter Try.func8, Try.ntmps8
    go_wp2_with fail
    refine (drawAddEdge_any zs _ w.heap.size _ hv (Nat.le_refl _) hz).mono ?_
    rintro e wx ⟨g, vg, Fg, x, rfl, hg, hxo, hb1⟩
    clear hv
    obtain ⟨pg, cg, qg, dg, rfl⟩ := hg.1.form
    have Hg := Lib.hid hg.1.at
    have HB1 := Lib.hid hb1
    have HOK := Lib.hid hg.2.2.1
    have HLEN := Lib.hid hg.2.2.2
    have HXO := Lib.hid hxo
    clear hxo
    clear hg hb1
    go_upto_region 4 with fail
    obtain ⟨W, eW⟩ : ∃ E, E = ((wx).alloc (.cells #[.slice pg g.ns.length cg, .slice qg g.es.length dg] 55)).alloc (.cells #[.int .i64 x.f, .int .i64 x.t, .string x.l, .int .i64 x.n] 57) := ⟨_, rfl⟩
    have zW : wx.heap.size + 1 < W.heap.size := by rw [eW]; simp
    have hbW : Below wx.heap.size wx W := by rw [eW]; exact ((Below.refl _ _).alloc (Nat.le_refl _) _).alloc (by simp) _
    have HC := Lib.hid (show (W.cell? ⟨wx.heap.size, 0, none⟩ = some (.slice pg g.ns.length cg) ∧ W.cell? ⟨wx.heap.size, 1, none⟩ = some (.slice qg g.es.length dg)) ∧ (W.cell? ⟨wx.heap.size + 1, 0, none⟩ = some (.int .i64 x.f) ∧ W.cell? ⟨wx.heap.size + 1, 1, none⟩ = some (.int .i64 x.t) ∧ W.cell? ⟨wx.heap.size + 1, 2, none⟩ = some (.string x.l) ∧ W.cell? ⟨wx.heap.size + 1, 3, none⟩ = some (.int .i64 x.n)) by rw [eW]; exact ⟨⟨by simp [go_sem], by simp [go_sem]⟩, ⟨by simp [go_sem], by simp [go_sem], by simp [go_sem], by simp [go_sem]⟩⟩)
    rw [← eW]
    clear eW
    have HK := Lib.hid (fun (E : World) (hE : Below W.heap.size W E) => And.intro (And.intro (show (E.cell? ⟨wx.heap.size, 0, none⟩ = some (.slice pg g.ns.length cg) ∧ E.cell? ⟨wx.heap.size, 1, none⟩ = some (.slice qg g.es.length dg)) from ⟨keepc hE (by omega) HC.out.1.1, keepc hE (by omega) HC.out.1.2⟩) (show (g : Gr).At W.heap.size E (.agg #[.slice pg g.ns.length cg, .slice qg g.es.length dg]) from (Hg.out.to hbW (Nat.le_refl _)).to (hE.mono (by omega)) (by omega))) (And.intro (show (E.cell? ⟨wx.heap.size + 1, 0, none⟩ = some (.int .i64 x.f) ∧ E.cell? ⟨wx.heap.size + 1, 1, none⟩ = some (.int .i64 x.t) ∧ E.cell? ⟨wx.heap.size + 1, 2, none⟩ = some (.string x.l) ∧ E.cell? ⟨wx.heap.size + 1, 3, none⟩ = some (.int .i64 x.n)) from ⟨keepc hE (by omega) HC.out.2.1, keepc hE (by omega) HC.out.2.2.1, keepc hE (by omega) HC.out.2.2.2.1, keepc hE (by omega) HC.out.2.2.2.2⟩) trivial))
    have HBW := Lib.hid ((HB1.out.trans (hbW.mono HB1.out.size)) : Below w.heap.size w W)
    clear hbW HC HB1 Hg
    have r0 := Below.refl W.heap.size W
    obtain ⟨⟨⟨y0a, y0b⟩, _⟩, ⟨y1a, y1b, y1c, y1d⟩, _⟩ := HK.out W (r0)
    obtain ⟨O, hO⟩ : ∃ O, RowKit.Hid (O = extOk g [] [x]) := ⟨_, Lib.hid rfl⟩
    obtain ⟨J, hJ⟩ : ∃ J, RowKit.Hid (J = extR g [] [x]) := ⟨_, Lib.hid rfl⟩
    have hL1 : g.ns.length ≤ 2000000 := by have := HLEN.out.1; omega
    have hL2 : g.es.length ≤ 2000000 := by have := HLEN.out.2; omega
    go_wp2_with fail
    refine Calls.mono (addEdge_any g _ x W.heap.size W (((HK.out W (r0)).1.2).to (Below.refl _ _) (by have := (r0).size; omega)) (Nat.le_refl _) HOK.out HXO.out) ?_
    rw [← hO.out, ← hJ.out]
    rintro e wa ⟨vwa, Fwa, Gwa, rfl, hwa, hb⟩
    have rwa : Below W.heap.size W wa := (r0).trans (hb.mono (r0).size)
    have swa := rwa.size
    clear hb
    obtain ⟨pwa, cwa, qwa, dwa, rfl⟩ := Gr.At.form' hwa.at
    have Hwa := Lib.hid hwa.at
    clear hwa
    clear y0a y0b y1a y1b y1c y1d
    go_upto_region 5 with fail
    obtain ⟨W5, eW5⟩ : ∃ E, E = wa.alloc (.cells #[.slice pwa J.ns.length cwa, .slice qwa J.es.length dwa] 55) := ⟨_, rfl⟩
    have lW5 : Below wa.heap.size wa W5 := by rw [eW5]; exact (Below.refl _ _).alloc (Nat.le_refl _) _
    have zW5 : wa.heap.size < W5.heap.size := by rw [eW5]; simp
    have CW5 := Lib.hid (show (W5.cell? ⟨wa.heap.size, 0, none⟩ = some (.slice pwa J.ns.length cwa) ∧ W5.cell? ⟨wa.heap.size, 1, none⟩ = some (.slice qwa J.es.length dwa)) by rw [eW5]; exact ⟨by simp [go_sem], by simp [go_sem]⟩)
    rw [← eW5]
    clear eW5
    have rW5 : Below W.heap.size W W5 := rwa.trans (lW5.mono swa)
    have sW5 := rW5.size
    have KW5 := Lib.hid (fun (E : World) (hE : Below W5.heap.size W5 E) => And.intro (HK.out E (rW5.trans (hE.mono sW5))) (show (E.cell? ⟨wa.heap.size, 0, none⟩ = some (.slice pwa J.ns.length cwa) ∧ E.cell? ⟨wa.heap.size, 1, none⟩ = some (.slice qwa J.es.length dwa)) ∧ (J : Gr).At W5.heap.size E (.agg #[.slice pwa J.ns.length cwa, .slice qwa J.es.length dwa]) from ⟨⟨keepc hE zW5 CW5.out.1, keepc hE zW5 CW5.out.2⟩, (Hwa.out.to lW5 (Nat.le_refl _)).to (hE.mono (by omega)) (by omega)⟩))
    have BW5 := Lib.hid ((HBW.out.trans (rW5.mono HBW.out.size)) : Below w.heap.size w W5)
    clear CW5 Hwa HBW rW5 lW5 rwa swa r0 HK
    have HBW := BW5
    clear BW5
    have r0 := Below.refl W5.heap.size W5
    obtain ⟨⟨⟨⟨y0a, y0b⟩, _⟩, ⟨y1a, y1b, y1c, y1d⟩, _⟩, ⟨y2a, y2b⟩, _⟩ := KW5.out W5 (r0)
    go_wp2_with fail
    refine Calls.mono (specAddEdge_any g _ x W5.heap.size W5 (((KW5.out W5 (r0)).1.1.2).to (Below.refl _ _) (by have := (r0).size; omega)) (Nat.le_refl _) HOK.out HXO.out hL1 hL2) ?_
    rw [← hO.out, ← hJ.out]
    rintro e wb ⟨vwb, Fwb, Gwb, rfl, hwb, hb⟩
    have rwb : Below W5.heap.size W5 wb := (r0).trans (hb.mono (r0).size)
    have swb := rwb.size
    clear hb
    obtain ⟨pwb, cwb, qwb, dwb, rfl⟩ := Gr.At.form' hwb.at
    have Hwb := Lib.hid hwb.at
    clear hwb
    clear y0a y0b y1a y1b y1c y1d y2a y2b
    go_upto_region 6 with fail
    obtain ⟨W6, eW6⟩ : ∃ E, E = wb.alloc (.cells #[.slice pwb J.ns.length cwb, .slice qwb J.es.length dwb] 55) := ⟨_, rfl⟩
    have lW6 : Below wb.heap.size wb W6 := by rw [eW6]; exact (Below.refl _ _).alloc (Nat.le_refl _) _
    have zW6 : wb.heap.size < W6.heap.size := by rw [eW6]; simp
    have CW6 := Lib.hid (show (W6.cell? ⟨wb.heap.size, 0, none⟩ = some (.slice pwb J.ns.length cwb) ∧ W6.cell? ⟨wb.heap.size, 1, none⟩ = some (.slice qwb J.es.length dwb)) by rw [eW6]; exact ⟨by simp [go_sem], by simp [go_sem]⟩)
    rw [← eW6]
    clear eW6
    have rW6 : Below W5.heap.size W5 W6 := rwb.trans (lW6.mono swb)
    have sW6 := rW6.size
    have KW6 := Lib.hid (fun (E : World) (hE : Below W6.heap.size W6 E) => And.intro (KW5.out E (rW6.trans (hE.mono sW6))) (show (E.cell? ⟨wb.heap.size, 0, none⟩ = some (.slice pwb J.ns.length cwb) ∧ E.cell? ⟨wb.heap.size, 1, none⟩ = some (.slice qwb J.es.length dwb)) ∧ (J : Gr).At W6.heap.size E (.agg #[.slice pwb J.ns.length cwb, .slice qwb J.es.length dwb]) from ⟨⟨keepc hE zW6 CW6.out.1, keepc hE zW6 CW6.out.2⟩, (Hwb.out.to lW6 (Nat.le_refl _)).to (hE.mono (by omega)) (by omega)⟩))
    have BW6 := Lib.hid ((HBW.out.trans (rW6.mono HBW.out.size)) : Below w.heap.size w W6)
    clear CW6 Hwb HBW rW6 lW6 rwb swb r0 KW5
    have HBW := BW6
    clear BW6
    have r0 := Below.refl W6.heap.size W6
    obtain ⟨⟨⟨⟨⟨y0a, y0b⟩, _⟩, ⟨y1a, y1b, y1c, y1d⟩, _⟩, ⟨y2a, y2b⟩, _⟩, ⟨y3a, y3b⟩, _⟩ := KW6.out W6 (r0)
    cases O with
    | false =>
      go_wp2_with fail
      refine Calls.mono (graphSame_any J J _ _ W6.heap.size W6 (((KW6.out W6 (r0)).1.2.2).to (Below.refl _ _) (by have := (r0).size; omega)) (((KW6.out W6 (r0)).2.2).to (Below.refl _ _) (by have := (r0).size; omega)) (Nat.le_refl _)) ?_
      rw [gs_refl]
      rintro e wc1 ⟨rfl, hb⟩
      have rwc1 : Below W6.heap.size W6 wc1 := (r0).trans (hb.mono (r0).size)
      have swc1 := rwc1.size
      clear hb
      clear y0a y0b y1a y1b y1c y1d y2a y2b y3a y3b
      obtain ⟨⟨⟨⟨⟨y0a, y0b⟩, _⟩, ⟨y1a, y1b, y1c, y1d⟩, _⟩, ⟨y2a, y2b⟩, _⟩, ⟨y3a, y3b⟩, _⟩ := KW6.out wc1 (rwc1)
      go_wp2_with fail
      refine Calls.mono (graphSame_any J J _ _ wc1.heap.size wc1 (((KW6.out wc1 (rwc1)).1.2.2).to (Below.refl _ _) (by have := (rwc1).size; omega)) (((KW6.out wc1 (rwc1)).2.2).to (Below.refl _ _) (by have := (rwc1).size; omega)) (Nat.le_refl _)) ?_
      rw [gs_refl]
      rintro e wd ⟨rfl, hb⟩
      have rwd : Below W6.heap.size W6 wd := (rwc1).trans (hb.mono (rwc1).size)
      have swd := rwd.size
      clear hb
      clear y0a y0b y1a y1b y1c y1d y2a y2b y3a y3b
      obtain ⟨⟨⟨⟨⟨y0a, y0b⟩, _⟩, ⟨y1a, y1b, y1c, y1d⟩, _⟩, ⟨y2a, y2b⟩, _⟩, ⟨y3a, y3b⟩, _⟩ := KW6.out wd (rwd)
      go_wp2_with fail
      go_ret
      exact ⟨rfl, HBW.out.trans ((rwd).mono HBW.out.size)⟩

    | true =>
      have HV := Lib.hid hO.out.symm
      have HN := Lib.hid (show (⟨⟨#[122]⟩, 7⟩ : Nd).Ok from ⟨small_len (by show (1 : Nat) ≤ 100; decide), by unfold I64; simp only; omega⟩)
      have HJO := Lib.hid (show J.Ok by rw [hJ.out]; exact extR_ok HOK.out (by simp) (by simpa using HXO.out))
      have hAO := add_order (n := (⟨⟨#[122]⟩, 7⟩ : Nd)) HV.out
      obtain ⟨Q, hQ⟩ : ∃ Q, RowKit.Hid (Q = extOk g [(⟨⟨#[122]⟩, 7⟩ : Nd)] []) := ⟨_, Lib.hid rfl⟩
      obtain ⟨y, hy⟩ : ∃ y, RowKit.Hid (y = extR g [(⟨⟨#[122]⟩, 7⟩ : Nd)] []) := ⟨_, Lib.hid rfl⟩
      obtain ⟨A, hA⟩ : ∃ A, RowKit.Hid (A = extR J [(⟨⟨#[122]⟩, 7⟩ : Nd)] []) := ⟨_, Lib.hid rfl⟩
      obtain ⟨R, hR⟩ : ∃ R, RowKit.Hid (R = extOk y [] [x]) := ⟨_, Lib.hid rfl⟩
      obtain ⟨D, hD⟩ : ∃ D, RowKit.Hid (D = extR y [] [x]) := ⟨_, Lib.hid rfl⟩
      rw [← hJ.out, ← hQ.out, ← hy.out, ← hA.out, ← hR.out, ← hD.out] at hAO
      have HAO := Lib.hid hAO
      have HYO := Lib.hid (show y.Ok by rw [hy.out]; exact extR_ok HOK.out (by simpa using HN.out) (by simp))
      clear hAO hO
      go_wp2_with fail
      refine Calls.mono (graphSame_any J J _ _ W6.heap.size W6 (((KW6.out W6 (r0)).1.2.2).to (Below.refl _ _) (by have := (r0).size; omega)) (((KW6.out W6 (r0)).2.2).to (Below.refl _ _) (by have := (r0).size; omega)) (Nat.le_refl _)) ?_
      rw [gs_refl]
      rintro e wc1 ⟨rfl, hb⟩
      have rwc1 : Below W6.heap.size W6 wc1 := (r0).trans (hb.mono (r0).size)
      have swc1 := rwc1.size
      clear hb
      clear y0a y0b y1a y1b y1c y1d y2a y2b y3a y3b
      obtain ⟨⟨⟨⟨⟨y0a, y0b⟩, _⟩, ⟨y1a, y1b, y1c, y1d⟩, _⟩, ⟨y2a, y2b⟩, _⟩, ⟨y3a, y3b⟩, _⟩ := KW6.out wc1 (rwc1)
      go_upto_region 9 with fail
      clear y0a y0b y1a y1b y1c y1d y2a y2b y3a y3b
      obtain ⟨W8, eW8⟩ : ∃ E, E = wc1.alloc (.cells #[.string ⟨#[122]⟩, .int .i64 7] 64) := ⟨_, rfl⟩
      have lW8 : Below wc1.heap.size wc1 W8 := by rw [eW8]; exact (Below.refl _ _).alloc (Nat.le_refl _) _
      have zW8 : wc1.heap.size < W8.heap.size := by rw [eW8]; simp
      have CW8 := Lib.hid (show (W8.cell? ⟨wc1.heap.size, 0, none⟩ = some (.string ⟨#[122]⟩) ∧ W8.cell? ⟨wc1.heap.size, 1, none⟩ = some (.int .i64 7)) by rw [eW8]; exact ⟨by simp [go_sem], by simp [go_sem]⟩)
      rw [← eW8]
      clear eW8
      have rW8 : Below W6.heap.size W6 W8 := rwc1.trans (lW8.mono swc1)
      have sW8 := rW8.size
      have KW8 := Lib.hid (fun (E : World) (hE : Below W8.heap.size W8 E) => And.intro (KW6.out E (rW8.trans (hE.mono sW8))) (show (E.cell? ⟨wc1.heap.size, 0, none⟩ = some (.string ⟨#[122]⟩) ∧ E.cell? ⟨wc1.heap.size, 1, none⟩ = some (.int .i64 7)) ∧ True from ⟨⟨keepc hE zW8 CW8.out.1, keepc hE zW8 CW8.out.2⟩, trivial⟩))
      have BW8 := Lib.hid ((HBW.out.trans (rW8.mono HBW.out.size)) : Below w.heap.size w W8)
      clear CW8  HBW rW8 lW8 rwc1 swc1 r0 KW6
      have HBW := BW8
      clear BW8
      have r0 := Below.refl W8.heap.size W8
      obtain ⟨⟨⟨⟨⟨⟨y0a, y0b⟩, _⟩, ⟨y1a, y1b, y1c, y1d⟩, _⟩, ⟨y2a, y2b⟩, _⟩, ⟨y3a, y3b⟩, _⟩, ⟨y4a, y4b⟩, _⟩ := KW8.out W8 (r0)
      go_wp2_with fail
      refine Calls.mono (addNode_any J _ (⟨⟨#[122]⟩, 7⟩ : Nd) W8.heap.size W8 (((KW8.out W8 (r0)).1.1.2.2).to (Below.refl _ _) (by have := (r0).size; omega)) (Nat.le_refl _) HJO.out HN.out) ?_
      rw [HAO.out.1, ← hA.out]
      rintro e wd ⟨vwd, Fwd, Gwd, rfl, hwd, hb⟩
      have rwd : Below W8.heap.size W8 wd := (r0).trans (hb.mono (r0).size)
      have swd := rwd.size
      clear hb
      obtain ⟨pwd, cwd, qwd, dwd, rfl⟩ := Gr.At.form' hwd.at
      have Hwd := Lib.hid hwd.at
      clear hwd
      clear y0a y0b y1a y1b y1c y1d y2a y2b y3a y3b y4a y4b
      go_upto_region 10 with fail
      obtain ⟨W9, eW9⟩ : ∃ E, E = wd.alloc (.cells #[.slice pwd A.ns.length cwd, .slice qwd A.es.length dwd] 55) := ⟨_, rfl⟩
      have lW9 : Below wd.heap.size wd W9 := by rw [eW9]; exact (Below.refl _ _).alloc (Nat.le_refl _) _
      have zW9 : wd.heap.size < W9.heap.size := by rw [eW9]; simp
      have CW9 := Lib.hid (show (W9.cell? ⟨wd.heap.size, 0, none⟩ = some (.slice pwd A.ns.length cwd) ∧ W9.cell? ⟨wd.heap.size, 1, none⟩ = some (.slice qwd A.es.length dwd)) by rw [eW9]; exact ⟨by simp [go_sem], by simp [go_sem]⟩)
      rw [← eW9]
      clear eW9
      have rW9 : Below W8.heap.size W8 W9 := rwd.trans (lW9.mono swd)
      have sW9 := rW9.size
      have KW9 := Lib.hid (fun (E : World) (hE : Below W9.heap.size W9 E) => And.intro (KW8.out E (rW9.trans (hE.mono sW9))) (show (E.cell? ⟨wd.heap.size, 0, none⟩ = some (.slice pwd A.ns.length cwd) ∧ E.cell? ⟨wd.heap.size, 1, none⟩ = some (.slice qwd A.es.length dwd)) ∧ (A : Gr).At W9.heap.size E (.agg #[.slice pwd A.ns.length cwd, .slice qwd A.es.length dwd]) from ⟨⟨keepc hE zW9 CW9.out.1, keepc hE zW9 CW9.out.2⟩, (Hwd.out.to lW9 (Nat.le_refl _)).to (hE.mono (by omega)) (by omega)⟩))
      have BW9 := Lib.hid ((HBW.out.trans (rW9.mono HBW.out.size)) : Below w.heap.size w W9)
      clear CW9 Hwd HBW rW9 lW9 rwd swd r0 KW8
      have HBW := BW9
      clear BW9
      have r0 := Below.refl W9.heap.size W9
      obtain ⟨⟨⟨⟨⟨⟨⟨y0a, y0b⟩, _⟩, ⟨y1a, y1b, y1c, y1d⟩, _⟩, ⟨y2a, y2b⟩, _⟩, ⟨y3a, y3b⟩, _⟩, ⟨y4a, y4b⟩, _⟩, ⟨y5a, y5b⟩, _⟩ := KW9.out W9 (r0)
      go_wp2_with fail
      refine Calls.mono (addNode_any g _ (⟨⟨#[122]⟩, 7⟩ : Nd) W9.heap.size W9 (((KW9.out W9 (r0)).1.1.1.1.1.2).to (Below.refl _ _) (by have := (r0).size; omega)) (Nat.le_refl _) HOK.out HN.out) ?_
      rw [← hQ.out, ← hy.out]
      rintro e we ⟨vwe, Fwe, Gwe, rfl, hwe, hb⟩
      have rwe : Below W9.heap.size W9 we := (r0).trans (hb.mono (r0).size)
      have swe := rwe.size
      clear hb
      obtain ⟨pwe, cwe, qwe, dwe, rfl⟩ := Gr.At.form' hwe.at
      have Hwe := Lib.hid hwe.at
      clear hwe
      clear y0a y0b y1a y1b y1c y1d y2a y2b y3a y3b y4a y4b y5a y5b
      go_upto_region 11 with fail
      obtain ⟨W10, eW10⟩ : ∃ E, E = we.alloc (.cells #[.slice pwe y.ns.length cwe, .slice qwe y.es.length dwe] 55) := ⟨_, rfl⟩
      have lW10 : Below we.heap.size we W10 := by rw [eW10]; exact (Below.refl _ _).alloc (Nat.le_refl _) _
      have zW10 : we.heap.size < W10.heap.size := by rw [eW10]; simp
      have CW10 := Lib.hid (show (W10.cell? ⟨we.heap.size, 0, none⟩ = some (.slice pwe y.ns.length cwe) ∧ W10.cell? ⟨we.heap.size, 1, none⟩ = some (.slice qwe y.es.length dwe)) by rw [eW10]; exact ⟨by simp [go_sem], by simp [go_sem]⟩)
      rw [← eW10]
      clear eW10
      have rW10 : Below W9.heap.size W9 W10 := rwe.trans (lW10.mono swe)
      have sW10 := rW10.size
      have KW10 := Lib.hid (fun (E : World) (hE : Below W10.heap.size W10 E) => And.intro (KW9.out E (rW10.trans (hE.mono sW10))) (show (E.cell? ⟨we.heap.size, 0, none⟩ = some (.slice pwe y.ns.length cwe) ∧ E.cell? ⟨we.heap.size, 1, none⟩ = some (.slice qwe y.es.length dwe)) ∧ (y : Gr).At W10.heap.size E (.agg #[.slice pwe y.ns.length cwe, .slice qwe y.es.length dwe]) from ⟨⟨keepc hE zW10 CW10.out.1, keepc hE zW10 CW10.out.2⟩, (Hwe.out.to lW10 (Nat.le_refl _)).to (hE.mono (by omega)) (by omega)⟩))
      have BW10 := Lib.hid ((HBW.out.trans (rW10.mono HBW.out.size)) : Below w.heap.size w W10)
      clear CW10 Hwe HBW rW10 lW10 rwe swe r0 KW9
      have HBW := BW10
      clear BW10
      have r0 := Below.refl W10.heap.size W10
      obtain ⟨⟨⟨⟨⟨⟨⟨⟨y0a, y0b⟩, _⟩, ⟨y1a, y1b, y1c, y1d⟩, _⟩, ⟨y2a, y2b⟩, _⟩, ⟨y3a, y3b⟩, _⟩, ⟨y4a, y4b⟩, _⟩, ⟨y5a, y5b⟩, _⟩, ⟨y6a, y6b⟩, _⟩ := KW10.out W10 (r0)
      go_wp2_with fail
      refine Calls.mono (addEdge_any y _ x W10.heap.size W10 (((KW10.out W10 (r0)).2.2).to (Below.refl _ _) (by have := (r0).size; omega)) (Nat.le_refl _) HYO.out HXO.out) ?_
      rw [← hR.out, ← hD.out]
      rintro e wf ⟨vwf, Fwf, Gwf, rfl, hwf, hb⟩
      have rwf : Below W10.heap.size W10 wf := (r0).trans (hb.mono (r0).size)
      have swf := rwf.size
      clear hb
      obtain ⟨pwf, cwf, qwf, dwf, rfl⟩ := Gr.At.form' hwf.at
      have Hwf := Lib.hid hwf.at
      clear hwf
      clear y0a y0b y1a y1b y1c y1d y2a y2b y3a y3b y4a y4b y5a y5b y6a y6b
      go_upto_region 12 with fail
      obtain ⟨W11, eW11⟩ : ∃ E, E = wf.alloc (.cells #[.slice pwf D.ns.length cwf, .slice qwf D.es.length dwf] 55) := ⟨_, rfl⟩
      have lW11 : Below wf.heap.size wf W11 := by rw [eW11]; exact (Below.refl _ _).alloc (Nat.le_refl _) _
      have zW11 : wf.heap.size < W11.heap.size := by rw [eW11]; simp
      have CW11 := Lib.hid (show (W11.cell? ⟨wf.heap.size, 0, none⟩ = some (.slice pwf D.ns.length cwf) ∧ W11.cell? ⟨wf.heap.size, 1, none⟩ = some (.slice qwf D.es.length dwf)) by rw [eW11]; exact ⟨by simp [go_sem], by simp [go_sem]⟩)
      rw [← eW11]
      clear eW11
      have rW11 : Below W10.heap.size W10 W11 := rwf.trans (lW11.mono swf)
      have sW11 := rW11.size
      have KW11 := Lib.hid (fun (E : World) (hE : Below W11.heap.size W11 E) => And.intro (KW10.out E (rW11.trans (hE.mono sW11))) (show (E.cell? ⟨wf.heap.size, 0, none⟩ = some (.slice pwf D.ns.length cwf) ∧ E.cell? ⟨wf.heap.size, 1, none⟩ = some (.slice qwf D.es.length dwf)) ∧ (D : Gr).At W11.heap.size E (.agg #[.slice pwf D.ns.length cwf, .slice qwf D.es.length dwf]) from ⟨⟨keepc hE zW11 CW11.out.1, keepc hE zW11 CW11.out.2⟩, (Hwf.out.to lW11 (Nat.le_refl _)).to (hE.mono (by omega)) (by omega)⟩))
      have BW11 := Lib.hid ((HBW.out.trans (rW11.mono HBW.out.size)) : Below w.heap.size w W11)
      clear CW11 Hwf HBW rW11 lW11 rwf swf r0 KW10
      have HBW := BW11
      clear BW11
      have r0 := Below.refl W11.heap.size W11
      obtain ⟨⟨⟨⟨⟨⟨⟨⟨⟨y0a, y0b⟩, _⟩, ⟨y1a, y1b, y1c, y1d⟩, _⟩, ⟨y2a, y2b⟩, _⟩, ⟨y3a, y3b⟩, _⟩, ⟨y4a, y4b⟩, _⟩, ⟨y5a, y5b⟩, _⟩, ⟨y6a, y6b⟩, _⟩, ⟨y7a, y7b⟩, _⟩ := KW11.out W11 (r0)
      cases Q with
      | false =>
        go_wp2_with fail
        go_ret
        exact ⟨rfl, HBW.out.trans ((r0).mono HBW.out.size)⟩

      | true =>
        obtain ⟨hr, had⟩ := HAO.out.2 rfl
        subst hr
        have HAD := Lib.hid had
        clear had
        go_wp2_with fail
        refine Calls.mono (graphSame_any A D _ _ W11.heap.size W11 (((KW11.out W11 (r0)).1.1.2.2).to (Below.refl _ _) (by have := (r0).size; omega)) (((KW11.out W11 (r0)).2.2).to (Below.refl _ _) (by have := (r0).size; omega)) (Nat.le_refl _)) ?_
        rw [HAD.out, gs_refl]
        rintro e wg ⟨rfl, hb⟩
        have rwg : Below W11.heap.size W11 wg := (r0).trans (hb.mono (r0).size)
        have swg := rwg.size
        clear hb
        clear y0a y0b y1a y1b y1c y1d y2a y2b y3a y3b y4a y4b y5a y5b y6a y6b y7a y7b
        obtain ⟨⟨⟨⟨⟨⟨⟨⟨⟨y0a, y0b⟩, _⟩, ⟨y1a, y1b, y1c, y1d⟩, _⟩, ⟨y2a, y2b⟩, _⟩, ⟨y3a, y3b⟩, _⟩, ⟨y4a, y4b⟩, _⟩, ⟨y5a, y5b⟩, _⟩, ⟨y6a, y6b⟩, _⟩, ⟨y7a, y7b⟩, _⟩ := KW11.out wg (rwg)
        go_wp2_with fail
        go_ret
        exact ⟨rfl, HBW.out.trans ((rwg).mono HBW.out.size)⟩

end Go.Proofs.Ytchhobphockhhaa
