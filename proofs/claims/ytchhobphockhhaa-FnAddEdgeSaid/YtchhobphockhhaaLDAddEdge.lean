/- The walk of FnAddEdge. -/
import Derived.Test.YtchhobphockhhaaL1E
import Derived.Test.YtchhobphockhhaaELaw
import Derived.Test.YtchhobphockhhaaGSame2
import Derived.Test.YtchhobphockhhaaAdd
import Derived.Test.YtchhobphockhhaaSAdd
import Derived.Test.YtchhobphockhhaaEdges
import Derived.Test.YtchhobphockhhaaReg
namespace Go.Proofs.Ytchhobphockhhaa
open Go.RowKit
theorem extR_ok {g : Gr} {xs : List Nd} {ys : List Ed} (h : g.Ok) (hx : ∀ x ∈ xs, x.Ok) (hy : ∀ y ∈ ys, y.Ok) : (extR g xs ys).Ok := by
  unfold extR
  split
  · exact more_ok h hx hy
  · exact ⟨by simp, by simp⟩
theorem eqEdgeB (x y : Ed) (w : World) : (binOp .eql 57 (.agg #[.int .i64 x.f, .int .i64 x.t, .string x.l, .int .i64 x.n]) (.agg #[.int .i64 y.f, .int .i64 y.t, .string y.l, .int .i64 y.n])).run Try.prog w = .ok (.bool (edE x y)) w := by
  have h := run_eql_struct (P := Try.prog) w 57 #[.int .i64 x.f, .int .i64 x.t, .string x.l, .int .i64 x.n] #[.int .i64 y.f, .int .i64 y.t, .string y.l, .int .i64 y.n]
  rw [h, run_equalIn_agg w 9999 57 _ _ (by kernel_rfl) (by kernel_rfl)]
  go_simp
  unfold edE
  repeat' split
  all_goals simp_all

set_option maxRecDepth 100000 in
set_option maxHeartbeats 16000000 in
theorem lawAddEdge (zs : List Int) (v : Value) (w : World) (hv : Sl 1 byCells w.heap.size w v zs) (hz : ∀ z ∈ zs, 0 ≤ z ∧ z ≤ 255) :
    Calls Try.prog 12 #[v] w fun e w' => e = .returned (.bool true) ∧ Below w.heap.size w w' := by
  obtain ⟨p, cap, rfl⟩ := hv.form
  have hm := hv.max
  unfold maxLen at hm
  by_cases hb : (1048576 : Int) < zs.length
  · go_enter Try.func12, Try.ntmps12
    go_wp2_with fail
    go_ret
    exact ⟨rfl, Below.refl _ _⟩
  · go_enter Try.func12, Try.ntmps12
    go_wp2_with fail
    refine (drawAddEdge_any zs _ w.heap.size _ hv (Nat.le_refl _) hz).mono ?_
    rintro e wx ⟨g, vg, Fg, x, rfl, hg, hxo, hb1⟩
    clear hv
    obtain ⟨pg, cg, qg, dg, rfl⟩ := hg.1.form
    have Hg := Lib.hid hg.1.at
    have HB1 := Lib.hid hb1
    have HOK := Lib.hid hg.2.2.1
    have HLEN := Lib.hid hg.2.2.2
    have HXO := Lib.hid hxo
    clear hxo
    clear hg hb1
    go_upto_region 4 with fail
    obtain ⟨W, eW⟩ : ∃ E, E = ((wx).alloc (.cells #[.slice pg g.ns.length cg, .slice qg g.es.length dg] 55)).alloc (.cells #[.int .i64 x.f, .int .i64 x.t, .string x.l, .int .i64 x.n] 57) := ⟨_, rfl⟩
    have zW : wx.heap.size + 1 < W.heap.size := by rw [eW]; simp
    have hbW : Below wx.heap.size wx W := by rw [eW]; exact ((Below.refl _ _).alloc (Nat.le_refl _) _).alloc (by simp) _
    have HC := Lib.hid (show (W.cell? ⟨wx.heap.size, 0, none⟩ = some (.slice pg g.ns.length cg) ∧ W.cell? ⟨wx.heap.size, 1, none⟩ = some (.slice qg g.es.length dg)) ∧ (W.cell? ⟨wx.heap.size + 1, 0, none⟩ = some (.int .i64 x.f) ∧ W.cell? ⟨wx.heap.size + 1, 1, none⟩ = some (.int .i64 x.t) ∧ W.cell? ⟨wx.heap.size + 1, 2, none⟩ = some (.string x.l) ∧ W.cell? ⟨wx.heap.size + 1, 3, none⟩ = some (.int .i64 x.n)) by rw [eW]; exact ⟨⟨by simp [go_sem], by simp [go_sem]⟩, ⟨by simp [go_sem], by simp [go_sem], by simp [go_sem], by simp [go_sem]⟩⟩)
    rw [← eW]
    clear eW
    have HK := Lib.hid (fun (E : World) (hE : Below W.heap.size W E) => And.intro (And.intro (show (E.cell? ⟨wx.heap.size, 0, none⟩ = some (.slice pg g.ns.length cg) ∧ E.cell? ⟨wx.heap.size, 1, none⟩ = some (.slice qg g.es.length dg)) from ⟨keepc hE (by omega) HC.out.1.1, keepc hE (by omega) HC.out.1.2⟩) (show (g : Gr).At W.heap.size E (.agg #[.slice pg g.ns.length cg, .slice qg g.es.length dg]) from (Hg.out.to hbW (Nat.le_refl _)).to (hE.mono (by omega)) (by omega))) (And.intro (show (E.cell? ⟨wx.heap.size + 1, 0, none⟩ = some (.int .i64 x.f) ∧ E.cell? ⟨wx.heap.size + 1, 1, none⟩ = some (.int .i64 x.t) ∧ E.cell? ⟨wx.heap.size + 1, 2, none⟩ = some (.string x.l) ∧ E.cell? ⟨wx.heap.size + 1, 3, none⟩ = some (.int .i64 x.n)) from ⟨keepc hE (by omega) HC.out.2.1, keepc hE (by omega) HC.out.2.2.1, keepc hE (by omega) HC.out.2.2.2.1, keepc hE (by omega) HC.out.2.2.2.2⟩) trivial))
    have HBW := Lib.hid ((HB1.out.trans (hbW.mono HB1.out.size)) : Below w.heap.size w W)
    clear hbW HC HB1 Hg
    have r0 := Below.refl W.heap.size W
    obtain ⟨⟨⟨y0a, y0b⟩, _⟩, ⟨y1a, y1b, y1c, y1d⟩, _⟩ := HK.out W (r0)
    obtain ⟨O, hO⟩ : ∃ O, RowKit.Hid (O = extOk g [] [x]) := ⟨_, Lib.hid rfl⟩
    obtain ⟨J, hJ⟩ : ∃ J, RowKit.Hid (J = extR g [] [x]) := ⟨_, Lib.hid rfl⟩
    have hL1 : g.ns.length ≤ 2000000 := by have := HLEN.out.1; omega
    have hL2 : g.es.length ≤ 2000000 := by have := HLEN.out.2; omega
    go_wp2_with fail
    refine Calls.mono (addEdge_any g _ x W.heap.size W (((HK.out W (r0)).1.2).to (Below.refl _ _) (by have := (r0).size; omega)) (Nat.le_refl _) HOK.out HXO.out) ?_
    rw [← hO.out, ← hJ.out]
    rintro e wa ⟨vwa, Fwa, Gwa, rfl, hwa, hb⟩
    have rwa : Below W.heap.size W wa := (r0).trans (hb.mono (r0).size)
    have swa := rwa.size
    clear hb
    obtain ⟨pwa, cwa, qwa, dwa, rfl⟩ := Gr.At.form' hwa.at
    have Hwa := Lib.hid hwa.at
    clear hwa
    clear y0a y0b y1a y1b y1c y1d
    go_upto_region 5 with fail
    obtain ⟨W5, eW5⟩ : ∃ E, E = wa.alloc (.cells #[.slice pwa J.ns.length cwa, .slice qwa J.es.length dwa] 55) := ⟨_, rfl⟩
    have lW5 : Below wa.heap.size wa W5 := by rw [eW5]; exact (Below.refl _ _).alloc (Nat.le_refl _) _
    have zW5 : wa.heap.size < W5.heap.size := by rw [eW5]; simp
    have CW5 := Lib.hid (show (W5.cell? ⟨wa.heap.size, 0, none⟩ = some (.slice pwa J.ns.length cwa) ∧ W5.cell? ⟨wa.heap.size, 1, none⟩ = some (.slice qwa J.es.length dwa)) by rw [eW5]; exact ⟨by simp [go_sem], by simp [go_sem]⟩)
    rw [← eW5]
    clear eW5
    have rW5 : Below W.heap.size W W5 := rwa.trans (lW5.mono swa)
    have sW5 := rW5.size
    have KW5 := Lib.hid (fun (E : World) (hE : Below W5.heap.size W5 E) => And.intro (HK.out E (rW5.trans (hE.mono sW5))) (show (E.cell? ⟨wa.heap.size, 0, none⟩ = some (.slice pwa J.ns.length cwa) ∧ E.cell? ⟨wa.heap.size, 1, none⟩ = some (.slice qwa J.es.length dwa)) ∧ (J : Gr).At W5.heap.size E (.agg #[.slice pwa J.ns.length cwa, .slice qwa J.es.length dwa]) from ⟨⟨keepc hE zW5 CW5.out.1, keepc hE zW5 CW5.out.2⟩, (Hwa.out.to lW5 (Nat.le_refl _)).to (hE.mono (by omega)) (by omega)⟩))
    have BW5 := Lib.hid ((HBW.out.trans (rW5.mono HBW.out.size)) : Below w.heap.size w W5)
    clear CW5 Hwa HBW rW5 lW5 rwa swa r0 HK
    have HBW := BW5
    clear BW5
    have r0 := Below.refl W5.heap.size W5
    obtain ⟨⟨⟨⟨y0a, y0b⟩, _⟩, ⟨y1a, y1b, y1c, y1d⟩, _⟩, ⟨y2a, y2b⟩, _⟩ := KW5.out W5 (r0)
    go_wp2_with fail
    refine Calls.mono (specAddEdge_any g _ x W5.heap.size W5 (((KW5.out W5 (r0)).1.1.2).to (Below.refl _ _) (by have := (r0).size; omega)) (Nat.le_refl _) HOK.out HXO.out hL1 hL2) ?_
    rw [← hO.out, ← hJ.out]
    rintro e wb ⟨vwb, Fwb, Gwb, rfl, hwb, hb⟩
    have rwb : Below W5.heap.size W5 wb := (r0).trans (hb.mono (r0).size)
    have swb := rwb.size
    clear hb
    obtain ⟨pwb, cwb, qwb, dwb, rfl⟩ := Gr.At.form' hwb.at
    have Hwb := Lib.hid hwb.at
    clear hwb
    clear y0a y0b y1a y1b y1c y1d y2a y2b
    go_upto_region 6 with fail
    obtain ⟨W6, eW6⟩ : ∃ E, E = wb.alloc (.cells #[.slice pwb J.ns.length cwb, .slice qwb J.es.length dwb] 55) := ⟨_, rfl⟩
    have lW6 : Below wb.heap.size wb W6 := by rw [eW6]; exact (Below.refl _ _).alloc (Nat.le_refl _) _
    have zW6 : wb.heap.size < W6.heap.size := by rw [eW6]; simp
    have CW6 := Lib.hid (show (W6.cell? ⟨wb.heap.size, 0, none⟩ = some (.slice pwb J.ns.length cwb) ∧ W6.cell? ⟨wb.heap.size, 1, none⟩ = some (.slice qwb J.es.length dwb)) by rw [eW6]; exact ⟨by simp [go_sem], by simp [go_sem]⟩)
    rw [← eW6]
    clear eW6
    have rW6 : Below W5.heap.size W5 W6 := rwb.trans (lW6.mono swb)
    have sW6 := rW6.size
    have KW6 := Lib.hid (fun (E : World) (hE : Below W6.heap.size W6 E) => And.intro (KW5.out E (rW6.trans (hE.mono sW6))) (show (E.cell? ⟨wb.heap.size, 0, none⟩ = some (.slice pwb J.ns.length cwb) ∧ E.cell? ⟨wb.heap.size, 1, none⟩ = some (.slice qwb J.es.length dwb)) ∧ (J : Gr).At W6.heap.size E (.agg #[.slice pwb J.ns.length cwb, .slice qwb J.es.length dwb]) from ⟨⟨keepc hE zW6 CW6.out.1, keepc hE zW6 CW6.out.2⟩, (Hwb.out.to lW6 (Nat.le_refl _)).to (hE.mono (by omega)) (by omega)⟩))
    have BW6 := Lib.hid ((HBW.out.trans (rW6.mono HBW.out.size)) : Below w.heap.size w W6)
    clear CW6 Hwb HBW rW6 lW6 rwb swb r0 KW5
    have HBW := BW6
    clear BW6
    have r0 := Below.refl W6.heap.size W6
    obtain ⟨⟨⟨⟨⟨y0a, y0b⟩, _⟩, ⟨y1a, y1b, y1c, y1d⟩, _⟩, ⟨y2a, y2b⟩, _⟩, ⟨y3a, y3b⟩, _⟩ := KW6.out W6 (r0)
    cases O with
    | false =>
      go_wp2_with fail
      refine Calls.mono (graphSame_any J J _ _ W6.heap.size W6 (((KW6.out W6 (r0)).1.2.2).to (Below.refl _ _) (by have := (r0).size; omega)) (((KW6.out W6 (r0)).2.2).to (Below.refl _ _) (by have := (r0).size; omega)) (Nat.le_refl _)) ?_
      rw [gs_refl]
      rintro e wc1 ⟨rfl, hb⟩
      have rwc1 : Below W6.heap.size W6 wc1 := (r0).trans (hb.mono (r0).size)
      have swc1 := rwc1.size
      clear hb
      clear y0a y0b y1a y1b y1c y1d y2a y2b y3a y3b
      obtain ⟨⟨⟨⟨⟨y0a, y0b⟩, _⟩, ⟨y1a, y1b, y1c, y1d⟩, _⟩, ⟨y2a, y2b⟩, _⟩, ⟨y3a, y3b⟩, _⟩ := KW6.out wc1 (rwc1)
      go_wp2_with fail
      refine Calls.mono (graphSame_any J J _ _ wc1.heap.size wc1 (((KW6.out wc1 (rwc1)).1.2.2).to (Below.refl _ _) (by have := (rwc1).size; omega)) (((KW6.out wc1 (rwc1)).2.2).to (Below.refl _ _) (by have := (rwc1).size; omega)) (Nat.le_refl _)) ?_
      rw [gs_refl]
      rintro e wd ⟨rfl, hb⟩
      have rwd : Below W6.heap.size W6 wd := (rwc1).trans (hb.mono (rwc1).size)
      have swd := rwd.size
      clear hb
      clear y0a y0b y1a y1b y1c y1d y2a y2b y3a y3b
      obtain ⟨⟨⟨⟨⟨y0a, y0b⟩, _⟩, ⟨y1a, y1b, y1c, y1d⟩, _⟩, ⟨y2a, y2b⟩, _⟩, ⟨y3a, y3b⟩, _⟩ := KW6.out wd (rwd)
      go_wp2_with fail
      go_ret
      exact ⟨rfl, HBW.out.trans ((rwd).mono HBW.out.size)⟩

    | true =>
      have HV := Lib.hid hO.out.symm
      have HM := Lib.hid (show J = more g [] [x] by rw [hJ.out]; exact (ext_of HV.out).1)
      have HGV := Lib.hid (show gv J = true by rw [HM.out]; exact (ext_of HV.out).2.1)
      have HJO := Lib.hid (show J.Ok by rw [hJ.out]; exact extR_ok HOK.out (by simp) (by simpa using HXO.out))
      obtain ⟨k, hk⟩ : ∃ k : Nat, RowKit.Hid (k = g.es.length) := ⟨_, Lib.hid rfl⟩
      obtain ⟨lg, hlg⟩ : ∃ l, RowKit.Hid (l = edgesOut g x.f) := ⟨_, Lib.hid rfl⟩
      obtain ⟨li, hli⟩ : ∃ l, RowKit.Hid (l = edgesIn g x.t) := ⟨_, Lib.hid rfl⟩
      obtain ⟨LA, hLA⟩ : ∃ l, RowKit.Hid (l = edgesOut J x.f) := ⟨_, Lib.hid rfl⟩
      obtain ⟨LB, hLB⟩ : ∃ l, RowKit.Hid (l = edgesIn J x.t) := ⟨_, Lib.hid rfl⟩
      have hA1 : LA = lg ++ [(k : Int)] := by rw [hLA.out, hlg.out, hk.out, HM.out]; exact (out_added HV.out).1
      have hB1 : LB = li ++ [(k : Int)] := by rw [hLB.out, hli.out, hk.out, HM.out]; exact (out_added HV.out).2
      have HA1 := Lib.hid hA1
      have HB1 := Lib.hid hB1
      have hJl : J.es.length = k + 1 := by rw [HM.out, hk.out]; simp [more]
      have hk1 : (J.es.length : Int) - 1 = (k : Int) := by omega
      have hk2 : (k : Int) < (J.es.length : Int) := by omega
      have hk2' : k < J.es.length := by omega
      have hk3 : IntKind.i64.wrap (k : Int) = (k : Int) := by have := hk.out; have := HLEN.out.2; rw [IntKind.wrap_i64]; omega
      have HN := Lib.hid (show J.es[k]'hk2' = x by simp only [HM.out, hk.out]; simp [more])
      have hal : LA.length = lg.length + 1 := by rw [hA1]; simp
      have hbl : LB.length = li.length + 1 := by rw [hB1]; simp
      have hlm : lg.length ≤ 1010 := by rw [hlg.out]; have := HLEN.out.2; unfold edgesOut; split; exact Nat.le_trans (pick_le _ _ _) this; simp
      have hlm2 : li.length ≤ 1010 := by rw [hli.out]; have := HLEN.out.2; unfold edgesIn; split; exact Nat.le_trans (pick_le _ _ _) this; simp
      have a1' : (LA.length : Int) - 1 = (lg.length : Int) := by omega
      have a2' : (lg.length : Int) < (LA.length : Int) := by omega
      have a3' : lg.length < LA.length := by omega
      have a4' : IntKind.i64.wrap (lg.length : Int) = (lg.length : Int) := by rw [IntKind.wrap_i64]; omega
      have a5' : IntKind.i64.wrap ((lg.length : Int) + 1) = (lg.length : Int) + 1 := by rw [IntKind.wrap_i64]; omega
      have a6' : ((LA.length : Int) == (lg.length : Int) + 1) = true := beq_iff_eq.2 (by omega)
      have b1' : (LB.length : Int) - 1 = (li.length : Int) := by omega
      have b2' : (li.length : Int) < (LB.length : Int) := by omega
      have b3' : li.length < LB.length := by omega
      have b4' : IntKind.i64.wrap (li.length : Int) = (li.length : Int) := by rw [IntKind.wrap_i64]; omega
      have HLA := Lib.hid (show LA[lg.length]'a3' = (k : Int) by simp only [HA1.out]; simp)
      have HLB := Lib.hid (show LB[li.length]'b3' = (k : Int) by simp only [HB1.out]; simp)
      have hee := eqEdgeB x x
      have hxx : edE x x = true := by simp [edE]
      clear hO hA1 hB1 hJl hal hbl hlm hlm2
      go_wp2_with fail
      refine Calls.mono (graphSame_any J J _ _ W6.heap.size W6 (((KW6.out W6 (r0)).1.2.2).to (Below.refl _ _) (by have := (r0).size; omega)) (((KW6.out W6 (r0)).2.2).to (Below.refl _ _) (by have := (r0).size; omega)) (Nat.le_refl _)) ?_
      rw [gs_refl]
      rintro e wc1 ⟨rfl, hb⟩
      have rwc1 : Below W6.heap.size W6 wc1 := (r0).trans (hb.mono (r0).size)
      have swc1 := rwc1.size
      clear hb
      clear y0a y0b y1a y1b y1c y1d y2a y2b y3a y3b
      obtain ⟨⟨⟨⟨⟨y0a, y0b⟩, _⟩, ⟨y1a, y1b, y1c, y1d⟩, _⟩, ⟨y2a, y2b⟩, _⟩, ⟨y3a, y3b⟩, _⟩ := KW6.out wc1 (rwc1)
      go_wp2_with fail
      refine Calls.mono (outEdges_any J _ x.f wc1.heap.size wc1 (((KW6.out wc1 (rwc1)).1.2.2).to (Below.refl _ _) (by have := (rwc1).size; omega)) (Nat.le_refl _) HJO.out) ?_
      rw [← hLA.out]
      rintro e wd ⟨vwd, Fwd, rfl, hl, _, hb⟩
      have rwd : Below W6.heap.size W6 wd := (rwc1).trans (hb.mono (rwc1).size)
      have swd := rwd.size
      clear hb
      obtain ⟨pA, cA, rfl⟩ := hl.sl.form
      have HSA := Lib.hid hl.sl
      clear hl
      clear y0a y0b y1a y1b y1c y1d y2a y2b y3a y3b
      obtain ⟨⟨⟨⟨⟨y0a, y0b⟩, _⟩, ⟨y1a, y1b, y1c, y1d⟩, _⟩, ⟨y2a, y2b⟩, _⟩, ⟨y3a, y3b⟩, _⟩ := KW6.out wd (rwd)
      go_wp2_with fail
      refine Calls.mono (inEdges_any J _ x.t wd.heap.size wd (((KW6.out wd (rwd)).1.2.2).to (Below.refl _ _) (by have := (rwd).size; omega)) (Nat.le_refl _) HJO.out) ?_
      rw [← hLB.out]
      rintro e we ⟨vwe, Fwe, rfl, hl, _, hb⟩
      have rwe : Below W6.heap.size W6 we := (rwd).trans (hb.mono (rwd).size)
      have swe := rwe.size
      have HSA2 := Lib.hid (HSA.out.below hb)
      have sde := hb.size
      clear hb
      obtain ⟨pB, cB, rfl⟩ := hl.sl.form
      have HSB := Lib.hid hl.sl
      clear hl
      clear y0a y0b y1a y1b y1c y1d y2a y2b y3a y3b
      obtain ⟨v0, v1, e1, a1, a2⟩ := (KW6.out we (rwe)).1.2.2
      cases e1
      obtain ⟨b, off, rfl, hbb, c0, c1, c2, c3⟩ := a2.ed hk2'
      rw [HN.out] at c0 c1 c2 c3
      clear a1 a2
      obtain ⟨bA, oA, rfl, hbA, d0⟩ := HSA2.out.it a3'
      rw [HLA.out] at d0
      obtain ⟨bB, oB, rfl, hbB, d1⟩ := HSB.out.it b3'
      rw [HLB.out] at d1
      have hbA2 : bA < we.heap.size := by omega
      have KS := Lib.hid (fun (E : World) (hE : Below we.heap.size we E) => (show (E.cell? ⟨wa.heap.size, 0, none⟩ = some (.slice pwa J.ns.length cwa) ∧ E.cell? ⟨wa.heap.size, 1, none⟩ = some (.slice (some ⟨b, off, none⟩) J.es.length dwa)) ∧ (E.cell? ⟨wx.heap.size + 1, 0, none⟩ = some (.int .i64 x.f) ∧ E.cell? ⟨wx.heap.size + 1, 1, none⟩ = some (.int .i64 x.t) ∧ E.cell? ⟨wx.heap.size + 1, 2, none⟩ = some (.string x.l) ∧ E.cell? ⟨wx.heap.size + 1, 3, none⟩ = some (.int .i64 x.n)) ∧ (E.cell? ⟨wx.heap.size, 0, none⟩ = some (.slice pg g.ns.length cg) ∧ E.cell? ⟨wx.heap.size, 1, none⟩ = some (.slice qg g.es.length dg)) ∧ (E.cell? ⟨b, off + k * 4, none⟩ = some (.int .i64 x.f) ∧ E.cell? ⟨b, off + k * 4 + 1, none⟩ = some (.int .i64 x.t) ∧ E.cell? ⟨b, off + k * 4 + 2, none⟩ = some (.string x.l) ∧ E.cell? ⟨b, off + k * 4 + 3, none⟩ = some (.int .i64 x.n)) ∧ E.cell? ⟨bA, oA + lg.length, none⟩ = some (.int .i64 (k : Int)) ∧ E.cell? ⟨bB, oB + li.length, none⟩ = some (.int .i64 (k : Int)) from ⟨(KW6.out E (rwe.trans (hE.mono swe))).1.2.1, (KW6.out E (rwe.trans (hE.mono swe))).1.1.2.1, (KW6.out E (rwe.trans (hE.mono swe))).1.1.1.1, ⟨keepc hE (by omega) c0, keepc hE (by omega) c1, keepc hE (by omega) c2, keepc hE (by omega) c3⟩, keepc hE hbA2 d0, keepc hE hbB d1⟩))
      have HAJ := Lib.hid (fun (E : World) (hE : Below we.heap.size we E) => (KW6.out E (rwe.trans (hE.mono swe))).1.2.2)
      have HAG := Lib.hid (fun (E : World) (hE : Below we.heap.size we E) => (KW6.out E (rwe.trans (hE.mono swe))).1.1.1.2)
      have szJ : W5.heap.size ≤ we.heap.size := by omega
      have szg : W.heap.size ≤ we.heap.size := by omega
      have r1 := Below.refl we.heap.size we
      clear c0 c1 c2 c3 d0 d1
      go_upto_region 11 with fail
      refine wp_region_held_drew (S := fun w' => (w'.cell? ⟨wa.heap.size, 0, none⟩ = some (.slice pwa J.ns.length cwa) ∧ w'.cell? ⟨wa.heap.size, 1, none⟩ = some (.slice (some ⟨b, off, none⟩) J.es.length dwa)) ∧ (w'.cell? ⟨wx.heap.size + 1, 0, none⟩ = some (.int .i64 x.f) ∧ w'.cell? ⟨wx.heap.size + 1, 1, none⟩ = some (.int .i64 x.t) ∧ w'.cell? ⟨wx.heap.size + 1, 2, none⟩ = some (.string x.l) ∧ w'.cell? ⟨wx.heap.size + 1, 3, none⟩ = some (.int .i64 x.n)) ∧ (w'.cell? ⟨wx.heap.size, 0, none⟩ = some (.slice pg g.ns.length cg) ∧ w'.cell? ⟨wx.heap.size, 1, none⟩ = some (.slice qg g.es.length dg)) ∧ (w'.cell? ⟨b, off + k * 4, none⟩ = some (.int .i64 x.f) ∧ w'.cell? ⟨b, off + k * 4 + 1, none⟩ = some (.int .i64 x.t) ∧ w'.cell? ⟨b, off + k * 4 + 2, none⟩ = some (.string x.l) ∧ w'.cell? ⟨b, off + k * 4 + 3, none⟩ = some (.int .i64 x.n)) ∧ w'.cell? ⟨bA, oA + lg.length, none⟩ = some (.int .i64 (k : Int)) ∧ w'.cell? ⟨bB, oB + li.length, none⟩ = some (.int .i64 (k : Int))) (by kernel_rfl) ?_ (fun hHeld => ?_)
      · exact KS.out _ (show Below we.heap.size we _ by ((repeat (first | with_reducible assumption | with_reducible exact Below.refl _ _ | refine Below.setCell ?_ (by (first | omega | (simp; omega) | (simp; done) | fail "sml")) _ | refine Below.drew ?_ | refine Below.alloc ?_ (by (first | omega | (simp; omega) | (simp; done) | fail "sml")) _)); first | done | fail "chs"))
      (refine takeL (i := 0) (v := ?_) rfl (by kernel_rfl) (by kernel_rfl) (by kernel_rfl) (fun _ _ _ h => h) (Or.inl ⟨by kernel_rfl, ?_⟩) (by assumption) ?_; rotate_left; (focus (intro w hSw; (try dsimp only at hSw); go_simp; first | done | with_reducible rfl | fail "take")); (try simp only [Act.put, List.setIfInBounds_toArray, List.set_cons_zero, List.set_cons_succ]))
      (refine callL (i := 1) rfl (by kernel_rfl) (by kernel_rfl) (fun K hK => ?_); go_simp)
      go_at_call 42
      refine Calls.mono (graphValid_any J _ W5.heap.size _ (HAJ.out _ (show Below we.heap.size we _ by ((repeat (first | with_reducible assumption | with_reducible exact Below.refl _ _ | refine Below.setCell ?_ (by (first | omega | (simp; omega) | (simp; done) | fail "sml")) _ | refine Below.drew ?_ | refine Below.alloc ?_ (by (first | omega | (simp; omega) | (simp; done) | fail "sml")) _)); first | done | fail "chs"))) (Nat.le_trans szJ ((show Below we.heap.size we _ by ((repeat (first | with_reducible assumption | with_reducible exact Below.refl _ _ | refine Below.setCell ?_ (by (first | omega | (simp; omega) | (simp; done) | fail "sml")) _ | refine Below.drew ?_ | refine Below.alloc ?_ (by (first | omega | (simp; omega) | (simp; done) | fail "sml")) _)); first | done | fail "chs"))).size) HJO.out) ?_
      rw [HGV.out]
      rintro en wf ⟨rfl, hb⟩
      have rwf := Below.trans (show Below we.heap.size we _ by ((repeat (first | with_reducible assumption | with_reducible exact Below.refl _ _ | refine Below.setCell ?_ (by (first | omega | (simp; omega) | (simp; done) | fail "sml")) _ | refine Below.drew ?_ | refine Below.alloc ?_ (by (first | omega | (simp; omega) | (simp; done) | fail "sml")) _)); first | done | fail "chs")) (hb.mono (by (first | omega | (simp; omega) | (simp; done) | fail "sml")))
      have zwf := rwf.size
      clear hb
      go_wp2_with fail
      refine hK.out _ _ (KS.out _ (show Below we.heap.size we _ by ((repeat (first | with_reducible assumption | with_reducible exact Below.refl _ _ | refine Below.setCell ?_ (by (first | omega | (simp; omega) | (simp; done) | fail "sml")) _ | refine Below.drew ?_ | refine Below.alloc ?_ (by (first | omega | (simp; omega) | (simp; done) | fail "sml")) _)); first | done | fail "chs"))) (fun hHeld => ?_)
      clear hK K
      (try simp only [Act.put, List.setIfInBounds_toArray, List.set_cons_zero, List.set_cons_succ])
      (refine takeL (i := 2) (v := ?_) rfl (by kernel_rfl) (by kernel_rfl) (by kernel_rfl) (fun _ _ _ h => h) (Or.inl ⟨by kernel_rfl, ?_⟩) (by assumption) ?_; rotate_left; (focus (intro w hSw; (try dsimp only at hSw); go_simp; first | done | with_reducible rfl | fail "take")); (try simp only [Act.put, List.setIfInBounds_toArray, List.set_cons_zero, List.set_cons_succ]))
      (refine takeL (i := 3) (v := ?_) rfl (by kernel_rfl) (by kernel_rfl) (by kernel_rfl) (fun _ _ _ h => h) (Or.inl ⟨by kernel_rfl, ?_⟩) (by assumption) ?_; rotate_left; (focus (intro w hSw; (try dsimp only at hSw); go_simp; first | done | with_reducible rfl | fail "take")); (try simp only [Act.put, List.setIfInBounds_toArray, List.set_cons_zero, List.set_cons_succ]))
      (refine takeL (i := 4) (v := ?_) rfl (by kernel_rfl) (by kernel_rfl) (by kernel_rfl) (fun _ _ _ h => h) (Or.inl ⟨by kernel_rfl, ?_⟩) (by assumption) ?_; rotate_left; (focus (intro w hSw; (try dsimp only at hSw); go_simp; first | done | with_reducible rfl | fail "take")); (try simp only [Act.put, List.setIfInBounds_toArray, List.set_cons_zero, List.set_cons_succ]))
      (refine takeL (i := 5) (v := ?_) rfl (by kernel_rfl) (by kernel_rfl) (by kernel_rfl) (fun _ _ _ h => h) (Or.inl ⟨by kernel_rfl, ?_⟩) (by assumption) ?_; rotate_left; (focus (intro w hSw; (try dsimp only at hSw); go_simp; first | done | with_reducible rfl | fail "take")); (try simp only [Act.put, List.setIfInBounds_toArray, List.set_cons_zero, List.set_cons_succ]))
      (refine takeL (i := 6) (v := ?_) rfl (by kernel_rfl) (by kernel_rfl) (by kernel_rfl) (fun _ _ _ h => h) (Or.inl ⟨by kernel_rfl, ?_⟩) (by assumption) ?_; rotate_left; (focus (intro w hSw; (try dsimp only at hSw); go_simp; first | done | with_reducible rfl | fail "take")); (try simp only [Act.put, List.setIfInBounds_toArray, List.set_cons_zero, List.set_cons_succ]))
      (refine takeL (i := 7) (v := ?_) rfl (by kernel_rfl) (by kernel_rfl) (by kernel_rfl) (fun _ _ _ h => h) (Or.inl ⟨by kernel_rfl, ?_⟩) (by assumption) ?_; rotate_left; (focus (intro w hSw; (try dsimp only at hSw); go_simp; first | done | with_reducible rfl | fail "take")); (try simp only [Act.put, List.setIfInBounds_toArray, List.set_cons_zero, List.set_cons_succ]))
      (refine takeL (i := 8) (v := ?_) rfl (by kernel_rfl) (by kernel_rfl) (by kernel_rfl) (fun _ _ _ h => h) (Or.inl ⟨by kernel_rfl, ?_⟩) (by assumption) ?_; rotate_left; (focus (intro w hSw; (try dsimp only at hSw); go_simp; first | done | with_reducible rfl | fail "take")); (try simp only [Act.put, List.setIfInBounds_toArray, List.set_cons_zero, List.set_cons_succ]))
      (refine takeL (i := 9) (v := ?_) rfl (by kernel_rfl) (by kernel_rfl) (by kernel_rfl) (fun _ _ _ h => h) (Or.inl ⟨by kernel_rfl, ?_⟩) (by assumption) ?_; rotate_left; (focus (intro w hSw; (try dsimp only at hSw); go_simp; first | done | with_reducible rfl | fail "take")); (try simp only [Act.put, List.setIfInBounds_toArray, List.set_cons_zero, List.set_cons_succ]))
      (refine takeL (i := 10) (v := ?_) rfl (by kernel_rfl) (by kernel_rfl) (by kernel_rfl) (fun _ _ _ h => h) (Or.inl ⟨by kernel_rfl, ?_⟩) (by assumption) ?_; rotate_left; (focus (intro w hSw; (try dsimp only at hSw); go_simp; first | done | with_reducible rfl | fail "take")); (try simp only [Act.put, List.setIfInBounds_toArray, List.set_cons_zero, List.set_cons_succ]))
      (refine takeL (i := 11) (v := ?_) rfl (by kernel_rfl) (by kernel_rfl) (by kernel_rfl) (fun _ _ _ h => h) (Or.inl ⟨by kernel_rfl, ?_⟩) (by assumption) ?_; rotate_left; (focus (intro w hSw; (try dsimp only at hSw); go_simp; first | done | with_reducible rfl | fail "take")); (try simp only [Act.put, List.setIfInBounds_toArray, List.set_cons_zero, List.set_cons_succ]))
      (refine takeL (i := 12) (v := ?_) rfl (by kernel_rfl) (by kernel_rfl) (by kernel_rfl) (fun _ _ _ h => h) (Or.inl ⟨by kernel_rfl, ?_⟩) (by assumption) ?_; rotate_left; (focus (intro w hSw; (try dsimp only at hSw); go_simp; first | done | with_reducible rfl | fail "take")); (try simp only [Act.put, List.setIfInBounds_toArray, List.set_cons_zero, List.set_cons_succ]))
      (refine takeL (i := 13) (v := ?_) rfl (by kernel_rfl) (by kernel_rfl) (by kernel_rfl) (fun _ _ _ h => h) (Or.inl ⟨by kernel_rfl, ?_⟩) (by assumption) ?_; rotate_left; (focus (intro w hSw; (try dsimp only at hSw); go_simp; first | done | with_reducible rfl | fail "take")); (try simp only [Act.put, List.setIfInBounds_toArray, List.set_cons_zero, List.set_cons_succ]))
      (refine takeL (i := 14) (v := ?_) rfl (by kernel_rfl) (by kernel_rfl) (by kernel_rfl) (fun _ _ _ h => h) (Or.inl ⟨by kernel_rfl, ?_⟩) (by assumption) ?_; rotate_left; (focus (intro w hSw; (try dsimp only at hSw); go_simp; first | done | with_reducible rfl | fail "take")); (try simp only [Act.put, List.setIfInBounds_toArray, List.set_cons_zero, List.set_cons_succ]))
      (refine takeL (i := 15) (v := ?_) rfl (by kernel_rfl) (by kernel_rfl) (by kernel_rfl) (fun _ _ _ h => h) (Or.inl ⟨by kernel_rfl, ?_⟩) (by assumption) ?_; rotate_left; (focus (intro w hSw; (try dsimp only at hSw); go_simp; first | done | with_reducible rfl | fail "take")); (try simp only [Act.put, List.setIfInBounds_toArray, List.set_cons_zero, List.set_cons_succ]))
      (refine takeL (i := 16) (v := ?_) rfl (by kernel_rfl) (by kernel_rfl) (by kernel_rfl) (fun _ _ _ h => h) (Or.inl ⟨by kernel_rfl, ?_⟩) (by assumption) ?_; rotate_left; (focus (intro w hSw; (try dsimp only at hSw); go_simp; first | done | with_reducible rfl | fail "take")); (try simp only [Act.put, List.setIfInBounds_toArray, List.set_cons_zero, List.set_cons_succ]))
      (refine takeL (i := 17) (v := ?_) rfl (by kernel_rfl) (by kernel_rfl) (by kernel_rfl) (fun _ _ _ h => h) (Or.inl ⟨by kernel_rfl, ?_⟩) (by assumption) ?_; rotate_left; (focus (intro w hSw; (try dsimp only at hSw); go_simp; first | done | with_reducible rfl | fail "take")); (try simp only [Act.put, List.setIfInBounds_toArray, List.set_cons_zero, List.set_cons_succ]))
      (refine takeL (i := 18) (v := ?_) rfl (by kernel_rfl) (by kernel_rfl) (by kernel_rfl) (fun _ _ _ h => h) (Or.inl ⟨by kernel_rfl, ?_⟩) (by assumption) ?_; rotate_left; (focus (intro w hSw; (try dsimp only at hSw); go_simp; first | done | with_reducible rfl | fail "take")); (try simp only [Act.put, List.setIfInBounds_toArray, List.set_cons_zero, List.set_cons_succ]))
      (refine takeL (i := 19) (v := ?_) rfl (by kernel_rfl) (by kernel_rfl) (by kernel_rfl) (fun _ _ _ h => h) (Or.inl ⟨by kernel_rfl, ?_⟩) (by assumption) ?_; rotate_left; (focus (intro w hSw; (try dsimp only at hSw); go_simp; first | done | with_reducible rfl | fail "take")); (try simp only [Act.put, List.setIfInBounds_toArray, List.set_cons_zero, List.set_cons_succ]))
      (refine takeL (i := 20) (v := ?_) rfl (by kernel_rfl) (by kernel_rfl) (by kernel_rfl) (fun _ _ _ h => h) (Or.inl ⟨by kernel_rfl, ?_⟩) (by assumption) ?_; rotate_left; (focus (intro w hSw; (try dsimp only at hSw); go_simp; first | done | with_reducible rfl | fail "take")); (try simp only [Act.put, List.setIfInBounds_toArray, List.set_cons_zero, List.set_cons_succ]))
      (refine takeL (i := 21) (v := ?_) rfl (by kernel_rfl) (by kernel_rfl) (by kernel_rfl) (fun _ _ _ h => h) (Or.inl ⟨by kernel_rfl, ?_⟩) (by assumption) ?_; rotate_left; (focus (intro w hSw; (try dsimp only at hSw); go_simp; first | done | with_reducible rfl | fail "take")); (try simp only [Act.put, List.setIfInBounds_toArray, List.set_cons_zero, List.set_cons_succ]))
      (refine takeL (i := 22) (v := ?_) rfl (by kernel_rfl) (by kernel_rfl) (by kernel_rfl) (fun _ _ _ h => h) (Or.inl ⟨by kernel_rfl, ?_⟩) (by assumption) ?_; rotate_left; (focus (intro w hSw; (try dsimp only at hSw); go_simp; first | done | with_reducible rfl | fail "take")); (try simp only [Act.put, List.setIfInBounds_toArray, List.set_cons_zero, List.set_cons_succ]))
      (refine takeL (i := 23) (v := ?_) rfl (by kernel_rfl) (by kernel_rfl) (by kernel_rfl) (fun _ _ _ h => h) (Or.inl ⟨by kernel_rfl, ?_⟩) (by assumption) ?_; rotate_left; (focus (intro w hSw; (try dsimp only at hSw); go_simp; first | done | with_reducible rfl | fail "take")); (try simp only [Act.put, List.setIfInBounds_toArray, List.set_cons_zero, List.set_cons_succ]))
      (refine takeL (i := 24) (v := ?_) rfl (by kernel_rfl) (by kernel_rfl) (by kernel_rfl) (fun _ _ _ h => h) (Or.inl ⟨by kernel_rfl, ?_⟩) (by assumption) ?_; rotate_left; (focus (intro w hSw; (try dsimp only at hSw); go_simp; first | done | with_reducible rfl | fail "take")); (try simp only [Act.put, List.setIfInBounds_toArray, List.set_cons_zero, List.set_cons_succ]))
      (refine takeL (i := 25) (v := ?_) rfl (by kernel_rfl) (by kernel_rfl) (by kernel_rfl) (fun _ _ _ h => h) (Or.inl ⟨by kernel_rfl, ?_⟩) (by assumption) ?_; rotate_left; (focus (intro w hSw; (try dsimp only at hSw); go_simp; first | done | with_reducible rfl | fail "take")); (try simp only [Act.put, List.setIfInBounds_toArray, List.set_cons_zero, List.set_cons_succ]))
      (refine takeL (i := 26) (v := ?_) rfl (by kernel_rfl) (by kernel_rfl) (by kernel_rfl) (fun _ _ _ h => h) (Or.inl ⟨by kernel_rfl, ?_⟩) (by assumption) ?_; rotate_left; (focus (intro w hSw; (try dsimp only at hSw); go_simp; first | done | with_reducible rfl | fail "take")); (try simp only [Act.put, List.setIfInBounds_toArray, List.set_cons_zero, List.set_cons_succ]))
      (refine takeL (i := 27) (v := ?_) rfl (by kernel_rfl) (by kernel_rfl) (by kernel_rfl) (fun _ _ _ h => h) (Or.inl ⟨by kernel_rfl, ?_⟩) (by assumption) ?_; rotate_left; (focus (intro w hSw; (try dsimp only at hSw); go_simp; first | done | with_reducible rfl | fail "take")); (try simp only [Act.put, List.setIfInBounds_toArray, List.set_cons_zero, List.set_cons_succ]))
      (refine takeL (i := 28) (v := ?_) rfl (by kernel_rfl) (by kernel_rfl) (by kernel_rfl) (fun _ _ _ h => h) (Or.inl ⟨by kernel_rfl, ?_⟩) (by assumption) ?_; rotate_left; (focus (intro w hSw; (try dsimp only at hSw); go_simp; first | done | with_reducible rfl | fail "take")); (try simp only [Act.put, List.setIfInBounds_toArray, List.set_cons_zero, List.set_cons_succ]))
      (refine takeL (i := 29) (v := ?_) rfl (by kernel_rfl) (by kernel_rfl) (by kernel_rfl) (fun _ _ _ h => h) (Or.inl ⟨by kernel_rfl, ?_⟩) (by assumption) ?_; rotate_left; (focus (intro w hSw; (try dsimp only at hSw); go_simp; first | done | with_reducible rfl | fail "take")); (try simp only [Act.put, List.setIfInBounds_toArray, List.set_cons_zero, List.set_cons_succ]))
      (refine takeL (i := 30) (v := ?_) rfl (by kernel_rfl) (by kernel_rfl) (by kernel_rfl) (fun _ _ _ h => h) (Or.inl ⟨by kernel_rfl, ?_⟩) (by assumption) ?_; rotate_left; (focus (intro w hSw; (try dsimp only at hSw); go_simp; first | done | with_reducible rfl | fail "take")); (try simp only [Act.put, List.setIfInBounds_toArray, List.set_cons_zero, List.set_cons_succ]))
      (refine takeL (i := 31) (v := ?_) rfl (by kernel_rfl) (by kernel_rfl) (by kernel_rfl) (fun _ _ _ h => h) (Or.inl ⟨by kernel_rfl, ?_⟩) (by assumption) ?_; rotate_left; (focus (intro w hSw; (try dsimp only at hSw); go_simp; first | done | with_reducible rfl | fail "take")); (try simp only [Act.put, List.setIfInBounds_toArray, List.set_cons_zero, List.set_cons_succ]))
      (refine takeL (i := 32) (v := ?_) rfl (by kernel_rfl) (by kernel_rfl) (by kernel_rfl) (fun _ _ _ h => h) (Or.inl ⟨by kernel_rfl, ?_⟩) (by assumption) ?_; rotate_left; (focus (intro w hSw; (try dsimp only at hSw); go_simp; first | done | with_reducible rfl | fail "take")); (try simp only [Act.put, List.setIfInBounds_toArray, List.set_cons_zero, List.set_cons_succ]))
      (refine takeL (i := 33) (v := ?_) rfl (by kernel_rfl) (by kernel_rfl) (by kernel_rfl) (fun _ _ _ h => h) (Or.inl ⟨by kernel_rfl, ?_⟩) (by assumption) ?_; rotate_left; (focus (intro w hSw; (try dsimp only at hSw); go_simp; first | done | with_reducible rfl | fail "take")); (try simp only [Act.put, List.setIfInBounds_toArray, List.set_cons_zero, List.set_cons_succ]))
      (refine takeL (i := 34) (v := ?_) rfl (by kernel_rfl) (by kernel_rfl) (by kernel_rfl) (fun _ _ _ h => h) (Or.inl ⟨by kernel_rfl, ?_⟩) (by assumption) ?_; rotate_left; (focus (intro w hSw; (try dsimp only at hSw); go_simp; first | done | with_reducible rfl | fail "take")); (try simp only [Act.put, List.setIfInBounds_toArray, List.set_cons_zero, List.set_cons_succ]))
      (refine takeL (i := 35) (v := ?_) rfl (by kernel_rfl) (by kernel_rfl) (by kernel_rfl) (fun _ _ _ h => h) (Or.inl ⟨by kernel_rfl, ?_⟩) (by assumption) ?_; rotate_left; (focus (intro w hSw; (try dsimp only at hSw); go_simp; first | done | with_reducible rfl | fail "take")); (try simp only [Act.put, List.setIfInBounds_toArray, List.set_cons_zero, List.set_cons_succ]))
      (refine takeL (i := 36) (v := ?_) rfl (by kernel_rfl) (by kernel_rfl) (by kernel_rfl) (fun _ _ _ h => h) (Or.inl ⟨by kernel_rfl, ?_⟩) (by assumption) ?_; rotate_left; (focus (intro w hSw; (try dsimp only at hSw); go_simp; first | done | with_reducible rfl | fail "take")); (try simp only [Act.put, List.setIfInBounds_toArray, List.set_cons_zero, List.set_cons_succ]))
      (refine callL (i := 37) rfl (by kernel_rfl) (by kernel_rfl) (fun K hK => ?_); go_simp)
      go_at_call 40
      refine Calls.mono (outEdges_any g _ x.f W.heap.size _ (HAG.out _ (show Below we.heap.size we _ by ((repeat (first | with_reducible assumption | with_reducible exact Below.refl _ _ | refine Below.setCell ?_ (by (first | omega | (simp; omega) | (simp; done) | fail "sml")) _ | refine Below.drew ?_ | refine Below.alloc ?_ (by (first | omega | (simp; omega) | (simp; done) | fail "sml")) _)); first | done | fail "chs"))) (Nat.le_trans szg ((show Below we.heap.size we _ by ((repeat (first | with_reducible assumption | with_reducible exact Below.refl _ _ | refine Below.setCell ?_ (by (first | omega | (simp; omega) | (simp; done) | fail "sml")) _ | refine Below.drew ?_ | refine Below.alloc ?_ (by (first | omega | (simp; omega) | (simp; done) | fail "sml")) _)); first | done | fail "chs"))).size) HOK.out) ?_
      rw [← hlg.out]
      rintro en wg ⟨vs, Fs, rfl, hs, _, hb⟩
      have rwg := Below.trans (show Below we.heap.size we _ by ((repeat (first | with_reducible assumption | with_reducible exact Below.refl _ _ | refine Below.setCell ?_ (by (first | omega | (simp; omega) | (simp; done) | fail "sml")) _ | refine Below.drew ?_ | refine Below.alloc ?_ (by (first | omega | (simp; omega) | (simp; done) | fail "sml")) _)); first | done | fail "chs")) (hb.mono (by (first | omega | (simp; omega) | (simp; done) | fail "sml")))
      have zwg := rwg.size
      obtain ⟨ps, cs, rfl⟩ := hs.sl.form
      clear hs
      clear hb
      go_wp2_with fail
      refine hK.out _ _ (KS.out _ (show Below we.heap.size we _ by ((repeat (first | with_reducible assumption | with_reducible exact Below.refl _ _ | refine Below.setCell ?_ (by (first | omega | (simp; omega) | (simp; done) | fail "sml")) _ | refine Below.drew ?_ | refine Below.alloc ?_ (by (first | omega | (simp; omega) | (simp; done) | fail "sml")) _)); first | done | fail "chs"))) (fun hHeld => ?_)
      clear hK K
      (try simp only [Act.put, List.setIfInBounds_toArray, List.set_cons_zero, List.set_cons_succ])
      (refine takeL (i := 38) (v := ?_) rfl (by kernel_rfl) (by kernel_rfl) (by kernel_rfl) (fun _ _ _ h => h) (Or.inl ⟨by kernel_rfl, ?_⟩) (by assumption) ?_; rotate_left; (focus (intro w hSw; (try dsimp only at hSw); go_simp; first | done | with_reducible rfl | fail "take")); (try simp only [Act.put, List.setIfInBounds_toArray, List.set_cons_zero, List.set_cons_succ]))
      (refine takeL (i := 39) (v := ?_) rfl (by kernel_rfl) (by kernel_rfl) (by kernel_rfl) (fun _ _ _ h => h) (Or.inl ⟨by kernel_rfl, ?_⟩) (by assumption) ?_; rotate_left; (focus (intro w hSw; (try dsimp only at hSw); go_simp; first | done | with_reducible rfl | fail "take")); (try simp only [Act.put, List.setIfInBounds_toArray, List.set_cons_zero, List.set_cons_succ]))
      (refine takeL (i := 40) (v := ?_) rfl (by kernel_rfl) (by kernel_rfl) (by kernel_rfl) (fun _ _ _ h => h) (Or.inl ⟨by kernel_rfl, ?_⟩) (by assumption) ?_; rotate_left; (focus (intro w hSw; (try dsimp only at hSw); go_simp; first | done | with_reducible rfl | fail "take")); (try simp only [Act.put, List.setIfInBounds_toArray, List.set_cons_zero, List.set_cons_succ]))
      (refine takeL (i := 41) (v := ?_) rfl (by kernel_rfl) (by kernel_rfl) (by kernel_rfl) (fun _ _ _ h => h) (Or.inl ⟨by kernel_rfl, ?_⟩) (by assumption) ?_; rotate_left; (focus (intro w hSw; (try dsimp only at hSw); go_simp; first | done | with_reducible rfl | fail "take")); (try simp only [Act.put, List.setIfInBounds_toArray, List.set_cons_zero, List.set_cons_succ]))
      (refine takeL (i := 42) (v := ?_) rfl (by kernel_rfl) (by kernel_rfl) (by kernel_rfl) (fun _ _ _ h => h) (Or.inl ⟨by kernel_rfl, ?_⟩) (by assumption) ?_; rotate_left; (focus (intro w hSw; (try dsimp only at hSw); go_simp; first | done | with_reducible rfl | fail "take")); (try simp only [Act.put, List.setIfInBounds_toArray, List.set_cons_zero, List.set_cons_succ]))
      refine wpAnyH_done (by kernel_rfl) ?_ _
      go_wp2_with fail
      go_ret
      exact ⟨rfl, HBW.out.trans ((rwe.trans ((show Below we.heap.size we _ by ((repeat (first | with_reducible assumption | with_reducible exact Below.refl _ _ | refine Below.setCell ?_ (by (first | omega | (simp; omega) | (simp; done) | fail "sml")) _ | refine Below.drew ?_ | refine Below.alloc ?_ (by (first | omega | (simp; omega) | (simp; done) | fail "sml")) _)); first | done | fail "chs")).mono swe)).mono HBW.out.size)⟩

end Go.Proofs.Ytchhobphockhhaa
