/- The walk of FnAddNode. -/
import Derived.Test.YtchhobphockhhaaL1N
import Derived.Test.YtchhobphockhhaaGLaw
import Derived.Test.YtchhobphockhhaaNVar
import Derived.Test.YtchhobphockhhaaGSame2
import Derived.Test.YtchhobphockhhaaAdd
import Derived.Test.YtchhobphockhhaaSAdd
import Derived.Test.YtchhobphockhhaaEdges
import Derived.Test.YtchhobphockhhaaReg
namespace Go.Proofs.Ytchhobphockhhaa
open Go.RowKit
theorem eqNodeB (x y : Nd) (w : World) : (binOp .eql 64 (.agg #[.string x.l, .int .i64 x.n]) (.agg #[.string y.l, .int .i64 y.n])).run Try.prog w = .ok (.bool (ndE x y)) w := by
  have h := run_eql_struct (P := Try.prog) w 64 #[.string x.l, .int .i64 x.n] #[.string y.l, .int .i64 y.n]
  rw [h, run_equalIn_agg w 9999 64 _ _ (by kernel_rfl) (by kernel_rfl)]
  go_simp
  unfold ndE
  repeat' split
  all_goals simp_all

set_option maxRecDepth 100000 in
set_option maxHeartbeats 16000000 in
theorem lawAddNode (zs : List Int) (v : Value) (w : World) (hv : Sl 1 byCells w.heap.size w v zs) (hz : ∀ z ∈ zs, 0 ≤ z ∧ z ≤ 255) :
    Calls Try.prog 11 #[v] w fun e w' => e = .returned (.bool true) ∧ Below w.heap.size w w' := by
  obtain ⟨p, cap, rfl⟩ := hv.form
  have hm := hv.max
  unfold maxLen at hm
  by_cases hb : (1048576 : Int) < zs.length
  · go_enter Try.func11, Try.ntmps11
    go_wp2_with fail
    go_ret
    exact ⟨rfl, Below.refl _ _⟩
  · go_enter Try.func11, Try.ntmps11
    go_wp2_with fail
    refine (drawAddNode_any zs _ w.heap.size _ hv (Nat.le_refl _) hz).mono ?_
    rintro e wx ⟨g, vg, Fg, x, rfl, hg, hx1, hx2, hx3, hb1⟩
    clear hv
    obtain ⟨pg, cg, qg, dg, rfl⟩ := hg.1.form
    have Hg := Lib.hid hg.1.at
    have HB1 := Lib.hid hb1
    have HOK := Lib.hid hg.2.2.1
    have HLEN := Lib.hid hg.2.2.2
    have HXO := Lib.hid (show x.Ok from ⟨small_len hx1, by unfold I64; omega⟩)
    clear hg hb1
    go_upto_region 4 with fail
    obtain ⟨W, eW⟩ : ∃ E, E = ((wx).alloc (.cells #[.slice pg g.ns.length cg, .slice qg g.es.length dg] 55)).alloc (.cells #[.string x.l, .int .i64 x.n] 64) := ⟨_, rfl⟩
    have zW : wx.heap.size + 1 < W.heap.size := by rw [eW]; simp
    have hbW : Below wx.heap.size wx W := by rw [eW]; exact ((Below.refl _ _).alloc (Nat.le_refl _) _).alloc (by simp) _
    have HC := Lib.hid (show (W.cell? ⟨wx.heap.size, 0, none⟩ = some (.slice pg g.ns.length cg) ∧ W.cell? ⟨wx.heap.size, 1, none⟩ = some (.slice qg g.es.length dg)) ∧ (W.cell? ⟨wx.heap.size + 1, 0, none⟩ = some (.string x.l) ∧ W.cell? ⟨wx.heap.size + 1, 1, none⟩ = some (.int .i64 x.n)) by rw [eW]; exact ⟨⟨by simp [go_sem], by simp [go_sem]⟩, ⟨by simp [go_sem], by simp [go_sem]⟩⟩)
    rw [← eW]
    clear eW
    have HK := Lib.hid (fun (E : World) (hE : Below W.heap.size W E) => And.intro (And.intro (show (E.cell? ⟨wx.heap.size, 0, none⟩ = some (.slice pg g.ns.length cg) ∧ E.cell? ⟨wx.heap.size, 1, none⟩ = some (.slice qg g.es.length dg)) from ⟨keepc hE (by omega) HC.out.1.1, keepc hE (by omega) HC.out.1.2⟩) (show (g : Gr).At W.heap.size E (.agg #[.slice pg g.ns.length cg, .slice qg g.es.length dg]) from (Hg.out.to hbW (Nat.le_refl _)).to (hE.mono (by omega)) (by omega))) (And.intro (show (E.cell? ⟨wx.heap.size + 1, 0, none⟩ = some (.string x.l) ∧ E.cell? ⟨wx.heap.size + 1, 1, none⟩ = some (.int .i64 x.n)) from ⟨keepc hE (by omega) HC.out.2.1, keepc hE (by omega) HC.out.2.2⟩) trivial))
    have HBW := Lib.hid ((HB1.out.trans (hbW.mono HB1.out.size)) : Below w.heap.size w W)
    clear hbW HC HB1 Hg
    have r0 := Below.refl W.heap.size W
    obtain ⟨⟨⟨y0a, y0b⟩, _⟩, ⟨y1a, y1b⟩, _⟩ := HK.out W (r0)
    obtain ⟨O, hO⟩ : ∃ O, RowKit.Hid (O = extOk g [x] []) := ⟨_, Lib.hid rfl⟩
    obtain ⟨J, hJ⟩ : ∃ J, RowKit.Hid (J = extR g [x] []) := ⟨_, Lib.hid rfl⟩
    have hL1 : g.ns.length ≤ 2000000 := by have := HLEN.out.1; omega
    have hL2 : g.es.length ≤ 2000000 := by have := HLEN.out.2; omega
    go_wp2_with fail
    refine Calls.mono (addNode_any g _ x W.heap.size W (((HK.out W (r0)).1.2).to (Below.refl _ _) (by have := (r0).size; omega)) (Nat.le_refl _) HOK.out HXO.out) ?_
    rw [← hO.out, ← hJ.out]
    rintro e wa ⟨vwa, Fwa, Gwa, rfl, hwa, hb⟩
    have rwa : Below W.heap.size W wa := (r0).trans (hb.mono (r0).size)
    have swa := rwa.size
    clear hb
    obtain ⟨pwa, cwa, qwa, dwa, rfl⟩ := Gr.At.form' hwa.at
    have Hwa := Lib.hid hwa.at
    clear hwa
    clear y0a y0b y1a y1b
    go_upto_region 5 with fail
    obtain ⟨W5, eW5⟩ : ∃ E, E = wa.alloc (.cells #[.slice pwa J.ns.length cwa, .slice qwa J.es.length dwa] 55) := ⟨_, rfl⟩
    have lW5 : Below wa.heap.size wa W5 := by rw [eW5]; exact (Below.refl _ _).alloc (Nat.le_refl _) _
    have zW5 : wa.heap.size < W5.heap.size := by rw [eW5]; simp
    have CW5 := Lib.hid (show (W5.cell? ⟨wa.heap.size, 0, none⟩ = some (.slice pwa J.ns.length cwa) ∧ W5.cell? ⟨wa.heap.size, 1, none⟩ = some (.slice qwa J.es.length dwa)) by rw [eW5]; exact ⟨by simp [go_sem], by simp [go_sem]⟩)
    rw [← eW5]
    clear eW5
    have rW5 : Below W.heap.size W W5 := rwa.trans (lW5.mono swa)
    have sW5 := rW5.size
    have KW5 := Lib.hid (fun (E : World) (hE : Below W5.heap.size W5 E) => And.intro (HK.out E (rW5.trans (hE.mono sW5))) (show (E.cell? ⟨wa.heap.size, 0, none⟩ = some (.slice pwa J.ns.length cwa) ∧ E.cell? ⟨wa.heap.size, 1, none⟩ = some (.slice qwa J.es.length dwa)) ∧ (J : Gr).At W5.heap.size E (.agg #[.slice pwa J.ns.length cwa, .slice qwa J.es.length dwa]) from ⟨⟨keepc hE zW5 CW5.out.1, keepc hE zW5 CW5.out.2⟩, (Hwa.out.to lW5 (Nat.le_refl _)).to (hE.mono (by omega)) (by omega)⟩))
    have BW5 := Lib.hid ((HBW.out.trans (rW5.mono HBW.out.size)) : Below w.heap.size w W5)
    clear CW5 Hwa HBW rW5 lW5 rwa swa r0 HK
    have HBW := BW5
    clear BW5
    have r0 := Below.refl W5.heap.size W5
    obtain ⟨⟨⟨⟨y0a, y0b⟩, _⟩, ⟨y1a, y1b⟩, _⟩, ⟨y2a, y2b⟩, _⟩ := KW5.out W5 (r0)
    go_wp2_with fail
    refine Calls.mono (specAddNode_any g _ x W5.heap.size W5 (((KW5.out W5 (r0)).1.1.2).to (Below.refl _ _) (by have := (r0).size; omega)) (Nat.le_refl _) HOK.out HXO.out hL1 hL2) ?_
    rw [← hO.out, ← hJ.out]
    rintro e wb ⟨vwb, Fwb, Gwb, rfl, hwb, hb⟩
    have rwb : Below W5.heap.size W5 wb := (r0).trans (hb.mono (r0).size)
    have swb := rwb.size
    clear hb
    obtain ⟨pwb, cwb, qwb, dwb, rfl⟩ := Gr.At.form' hwb.at
    have Hwb := Lib.hid hwb.at
    clear hwb
    clear y0a y0b y1a y1b y2a y2b
    go_upto_region 6 with fail
    obtain ⟨W6, eW6⟩ : ∃ E, E = wb.alloc (.cells #[.slice pwb J.ns.length cwb, .slice qwb J.es.length dwb] 55) := ⟨_, rfl⟩
    have lW6 : Below wb.heap.size wb W6 := by rw [eW6]; exact (Below.refl _ _).alloc (Nat.le_refl _) _
    have zW6 : wb.heap.size < W6.heap.size := by rw [eW6]; simp
    have CW6 := Lib.hid (show (W6.cell? ⟨wb.heap.size, 0, none⟩ = some (.slice pwb J.ns.length cwb) ∧ W6.cell? ⟨wb.heap.size, 1, none⟩ = some (.slice qwb J.es.length dwb)) by rw [eW6]; exact ⟨by simp [go_sem], by simp [go_sem]⟩)
    rw [← eW6]
    clear eW6
    have rW6 : Below W5.heap.size W5 W6 := rwb.trans (lW6.mono swb)
    have sW6 := rW6.size
    have KW6 := Lib.hid (fun (E : World) (hE : Below W6.heap.size W6 E) => And.intro (KW5.out E (rW6.trans (hE.mono sW6))) (show (E.cell? ⟨wb.heap.size, 0, none⟩ = some (.slice pwb J.ns.length cwb) ∧ E.cell? ⟨wb.heap.size, 1, none⟩ = some (.slice qwb J.es.length dwb)) ∧ (J : Gr).At W6.heap.size E (.agg #[.slice pwb J.ns.length cwb, .slice qwb J.es.length dwb]) from ⟨⟨keepc hE zW6 CW6.out.1, keepc hE zW6 CW6.out.2⟩, (Hwb.out.to lW6 (Nat.le_refl _)).to (hE.mono (by omega)) (by omega)⟩))
    have BW6 := Lib.hid ((HBW.out.trans (rW6.mono HBW.out.size)) : Below w.heap.size w W6)
    clear CW6 Hwb HBW rW6 lW6 rwb swb r0 KW5
    have HBW := BW6
    clear BW6
    have r0 := Below.refl W6.heap.size W6
    obtain ⟨⟨⟨⟨⟨y0a, y0b⟩, _⟩, ⟨y1a, y1b⟩, _⟩, ⟨y2a, y2b⟩, _⟩, ⟨y3a, y3b⟩, _⟩ := KW6.out W6 (r0)
    cases O with
    | false =>
      go_wp2_with fail
      refine Calls.mono (graphSame_any J J _ _ W6.heap.size W6 (((KW6.out W6 (r0)).1.2.2).to (Below.refl _ _) (by have := (r0).size; omega)) (((KW6.out W6 (r0)).2.2).to (Below.refl _ _) (by have := (r0).size; omega)) (Nat.le_refl _)) ?_
      rw [gs_refl]
      rintro e wc1 ⟨rfl, hb⟩
      have rwc1 : Below W6.heap.size W6 wc1 := (r0).trans (hb.mono (r0).size)
      have swc1 := rwc1.size
      clear hb
      clear y0a y0b y1a y1b y2a y2b y3a y3b
      obtain ⟨⟨⟨⟨⟨y0a, y0b⟩, _⟩, ⟨y1a, y1b⟩, _⟩, ⟨y2a, y2b⟩, _⟩, ⟨y3a, y3b⟩, _⟩ := KW6.out wc1 (rwc1)
      go_wp2_with fail
      refine Calls.mono (graphSame_any J J _ _ wc1.heap.size wc1 (((KW6.out wc1 (rwc1)).1.2.2).to (Below.refl _ _) (by have := (rwc1).size; omega)) (((KW6.out wc1 (rwc1)).2.2).to (Below.refl _ _) (by have := (rwc1).size; omega)) (Nat.le_refl _)) ?_
      rw [gs_refl]
      rintro e wd ⟨rfl, hb⟩
      have rwd : Below W6.heap.size W6 wd := (rwc1).trans (hb.mono (rwc1).size)
      have swd := rwd.size
      clear hb
      clear y0a y0b y1a y1b y2a y2b y3a y3b
      obtain ⟨⟨⟨⟨⟨y0a, y0b⟩, _⟩, ⟨y1a, y1b⟩, _⟩, ⟨y2a, y2b⟩, _⟩, ⟨y3a, y3b⟩, _⟩ := KW6.out wd (rwd)
      go_wp2_with fail
      go_ret
      exact ⟨rfl, HBW.out.trans ((rwd).mono HBW.out.size)⟩

    | true =>
      have HV := Lib.hid hO.out.symm
      have HM := Lib.hid (show J = more g [x] [] by rw [hJ.out]; exact (ext_of HV.out).1)
      have HGV := Lib.hid (show gv J = true by rw [HM.out]; exact (ext_of HV.out).2.1)
      have HJO := Lib.hid (show J.Ok by rw [HM.out]; exact more_ok HOK.out (by simpa using HXO.out) (by simp))
      obtain ⟨k, hk⟩ : ∃ k : Nat, RowKit.Hid (k = g.ns.length) := ⟨_, Lib.hid rfl⟩
      have hJl : J.ns.length = k + 1 := by rw [HM.out, hk.out]; simp [more]
      have HJL := Lib.hid hJl
      have hk1 : (J.ns.length : Int) - 1 = (k : Int) := by omega
      have hk2 : (k : Int) < (J.ns.length : Int) := by omega
      have hk2' : k < J.ns.length := by omega
      clear hJl
      have HN := Lib.hid (show J.ns[k]'hk2' = x by simp only [HM.out, hk.out]; simp [more])
      have HY := Lib.hid (show (⟨J.ns.take k, J.es⟩ : Gr) = g by rw [HM.out, hk.out]; simp [more])
      have HOE := Lib.hid (show edgesOut J (k : Int) = [] by rw [HM.out, hk.out]; exact (add_node_alone HV.out).1)
      have HIE := Lib.hid (show edgesIn J (k : Int) = [] by rw [HM.out, hk.out]; exact (add_node_alone HV.out).2)
      have hxx : ndE x x = true := by simp [ndE]
      have hqq := eqNodeB x x
      clear hO
      go_wp2_with fail
      refine Calls.mono (graphSame_any J J _ _ W6.heap.size W6 (((KW6.out W6 (r0)).1.2.2).to (Below.refl _ _) (by have := (r0).size; omega)) (((KW6.out W6 (r0)).2.2).to (Below.refl _ _) (by have := (r0).size; omega)) (Nat.le_refl _)) ?_
      rw [gs_refl]
      rintro e wc1 ⟨rfl, hb⟩
      have rwc1 : Below W6.heap.size W6 wc1 := (r0).trans (hb.mono (r0).size)
      have swc1 := rwc1.size
      clear hb
      clear y0a y0b y1a y1b y2a y2b y3a y3b
      obtain ⟨v0, v1, e1, a1, a2⟩ := (KW6.out wc1 (rwc1)).1.2.2
      cases e1
      have hcap : (J.ns.length : Int) ≤ (cwa : Int) := by obtain ⟨_, _, _, e1, _, h3, _⟩ := a1; cases e1; omega
      have hmc := a1.max
      unfold maxLen at hmc
      have g2 : (k : Int) ≤ (cwa : Int) := by omega
      have g4 : (k : Int) ≤ (J.ns.length : Int) := by omega
      have g7 : k ≤ cwa := by omega
      obtain ⟨b, off, rfl, hbb, c0, c1⟩ := a1.nd hk2'
      rw [HN.out] at c0 c1
      clear a1 a2
      have HZ := Lib.hid (fun (E : World) (hE : Below wc1.heap.size wc1 E) => And.intro (keepc hE (by omega) c0) (keepc hE (by omega) c1))
      clear c0 c1
      have KS := Lib.hid (fun (E : World) (hE : Below wc1.heap.size wc1 E) => (KW6.out E (rwc1.trans (hE.mono swc1))).1.2.1)
      have r1 := Below.refl wc1.heap.size wc1
      obtain ⟨⟨⟨⟨⟨y0a, y0b⟩, _⟩, ⟨y1a, y1b⟩, _⟩, ⟨y2a, y2b⟩, _⟩, ⟨y3a, y3b⟩, _⟩ := KW6.out wc1 (rwc1)
      go_upto_region 9 with fail
      clear y0a y0b y1a y1b y2a y2b y3a y3b
      go_upto_region 9 with fail
      refine wp_region_held_drew (S := fun w' => (w'.cell? ⟨wa.heap.size, 0, none⟩ = some (.slice (some ⟨b, off, none⟩) J.ns.length cwa) ∧ w'.cell? ⟨wa.heap.size, 1, none⟩ = some (.slice qwa J.es.length dwa))) (by kernel_rfl) ?_ (fun hHeld => ?_)
      · exact KS.out _ (show Below wc1.heap.size wc1 _ by ((repeat (first | with_reducible assumption | with_reducible exact Below.refl _ _ | refine Below.setCell ?_ (by (first | omega | (simp; omega) | (simp; done) | fail "sml")) _ | refine Below.drew ?_ | refine Below.alloc ?_ (by (first | omega | (simp; omega) | (simp; done) | fail "sml")) _)); first | done | fail "chs"))
      (refine takeL (i := 0) (v := ?_) rfl (by kernel_rfl) (by kernel_rfl) (by kernel_rfl) (fun _ _ _ h => h) (Or.inl ⟨by kernel_rfl, ?_⟩) (by assumption) ?_; rotate_left; (focus (intro w hSw; (try dsimp only at hSw); go_simp; first | done | with_reducible rfl | fail "take")); (try simp only [Act.put, List.setIfInBounds_toArray, List.set_cons_zero, List.set_cons_succ]))
      (refine takeL (i := 1) (v := ?_) rfl (by kernel_rfl) (by kernel_rfl) (by kernel_rfl) (fun _ _ _ h => h) (Or.inl ⟨by kernel_rfl, ?_⟩) (by assumption) ?_; rotate_left; (focus (intro w hSw; (try dsimp only at hSw); go_simp; first | done | with_reducible rfl | fail "take")); (try simp only [Act.put, List.setIfInBounds_toArray, List.set_cons_zero, List.set_cons_succ]))
      (refine takeL (i := 2) (v := ?_) rfl (by kernel_rfl) (by kernel_rfl) (by kernel_rfl) (fun _ _ _ h => h) (Or.inl ⟨by kernel_rfl, ?_⟩) (by assumption) ?_; rotate_left; (focus (intro w hSw; (try dsimp only at hSw); go_simp; first | done | with_reducible rfl | fail "take")); (try simp only [Act.put, List.setIfInBounds_toArray, List.set_cons_zero, List.set_cons_succ]))
      (refine takeL (i := 3) (v := ?_) rfl (by kernel_rfl) (by kernel_rfl) (by kernel_rfl) (fun _ _ _ h => h) (Or.inl ⟨by kernel_rfl, ?_⟩) (by assumption) ?_; rotate_left; (focus (intro w hSw; (try dsimp only at hSw); go_simp; first | done | with_reducible rfl | fail "take")); (try simp only [Act.put, List.setIfInBounds_toArray, List.set_cons_zero, List.set_cons_succ]))
      (refine takeL (i := 4) (v := ?_) rfl (by kernel_rfl) (by kernel_rfl) (by kernel_rfl) (fun _ _ _ h => h) (Or.inl ⟨by kernel_rfl, ?_⟩) (by assumption) ?_; rotate_left; (focus (intro w hSw; (try dsimp only at hSw); go_simp; first | done | with_reducible rfl | fail "take")); (try simp only [Act.put, List.setIfInBounds_toArray, List.set_cons_zero, List.set_cons_succ]))
      (refine takeL (i := 5) (v := ?_) rfl (by kernel_rfl) (by kernel_rfl) (by kernel_rfl) (fun _ _ _ h => h) (Or.inl ⟨by kernel_rfl, ?_⟩) (by assumption) ?_; rotate_left; (focus (intro w hSw; (try dsimp only at hSw); go_simp; first | done | with_reducible rfl | fail "take")); (try simp only [Act.put, List.setIfInBounds_toArray, List.set_cons_zero, List.set_cons_succ]))
      (refine takeL (i := 6) (v := ?_) rfl (by kernel_rfl) (by kernel_rfl) (by kernel_rfl) (fun _ _ _ h => h) (Or.inl ⟨by kernel_rfl, ?_⟩) (by assumption) ?_; rotate_left; (focus (intro w hSw; (try dsimp only at hSw); go_simp; first | done | with_reducible rfl | fail "take")); (try simp only [Act.put, List.setIfInBounds_toArray, List.set_cons_zero, List.set_cons_succ]))
      (refine callL (i := 7) rfl (by kernel_rfl) (by kernel_rfl) (fun K hK => ?_); go_simp)
      refine hK.out _ _ (KS.out _ (show Below wc1.heap.size wc1 _ by ((repeat (first | with_reducible assumption | with_reducible exact Below.refl _ _ | refine Below.setCell ?_ (by (first | omega | (simp; omega) | (simp; done) | fail "sml")) _ | refine Below.drew ?_ | refine Below.alloc ?_ (by (first | omega | (simp; omega) | (simp; done) | fail "sml")) _)); first | done | fail "chs"))) (fun hHeld => ?_)
      clear hK K
      (try simp only [Act.put, List.setIfInBounds_toArray, List.set_cons_zero, List.set_cons_succ])
      (refine callL (i := 8) rfl (by kernel_rfl) (by kernel_rfl) (fun K hK => ?_); go_simp)
      refine hK.out _ _ (KS.out _ (show Below wc1.heap.size wc1 _ by ((repeat (first | with_reducible assumption | with_reducible exact Below.refl _ _ | refine Below.setCell ?_ (by (first | omega | (simp; omega) | (simp; done) | fail "sml")) _ | refine Below.drew ?_ | refine Below.alloc ?_ (by (first | omega | (simp; omega) | (simp; done) | fail "sml")) _)); first | done | fail "chs"))) (fun hHeld => ?_)
      clear hK K
      (try simp only [Act.put, List.setIfInBounds_toArray, List.set_cons_zero, List.set_cons_succ])
      refine wpAnyH_done (by kernel_rfl) ?_ _
      obtain ⟨W8, eW8⟩ : ∃ E, E = (wc1.alloc (.cells #[.slice (some ⟨b, off, none⟩) k cwa, .slice qwa J.es.length dwa] 55)).drew := ⟨_, rfl⟩
      have lW8 : Below wc1.heap.size wc1 W8 := by rw [eW8]; exact ((Below.refl _ _).alloc (Nat.le_refl _) _).drew
      have zW8 : wc1.heap.size < W8.heap.size := by rw [eW8]; show wc1.heap.size < (wc1.alloc _).heap.size; simp
      have CW8 := Lib.hid (show (W8.cell? ⟨wc1.heap.size, 0, none⟩ = some (.slice (some ⟨b, off, none⟩) k cwa) ∧ W8.cell? ⟨wc1.heap.size, 1, none⟩ = some (.slice qwa J.es.length dwa)) by rw [eW8]; exact ⟨by simp [go_sem], by simp [go_sem]⟩)
      go_upto_region 10 with fail
      rw [← eW8]
      clear eW8
      have rW8 : Below W6.heap.size W6 W8 := rwc1.trans (lW8.mono swc1)
      have sW8 := rW8.size
      have KW8 := Lib.hid (fun (E : World) (hE : Below W8.heap.size W8 E) => And.intro (KW6.out E (rW8.trans (hE.mono sW8))) (show (E.cell? ⟨wc1.heap.size, 0, none⟩ = some (.slice (some ⟨b, off, none⟩) k cwa) ∧ E.cell? ⟨wc1.heap.size, 1, none⟩ = some (.slice qwa J.es.length dwa)) ∧ (g : Gr).At W8.heap.size E (.agg #[.slice (some ⟨b, off, none⟩) k cwa, .slice qwa J.es.length dwa]) from ⟨⟨keepc hE zW8 CW8.out.1, keepc hE zW8 CW8.out.2⟩, HY.out ▸ preN_at (Gr.At.to ((KW6.out E (rwc1.trans ((lW8.trans (hE.mono (by omega))).mono swc1))).1.2.2) (Below.refl _ _) (by omega)) (by omega)⟩))
      have BW8 := Lib.hid ((HBW.out.trans (rW8.mono HBW.out.size)) : Below w.heap.size w W8)
      have lk8 := lW8
      clear CW8  HBW rW8 lW8 rwc1 swc1 r0 KW6
      have HBW := BW8
      clear BW8
      have r0 := Below.refl W8.heap.size W8
      have HZ8 := Lib.hid (fun (E : World) (hE : Below W8.heap.size W8 E) => HZ.out E (lk8.trans (hE.mono (by omega))))
      have KS9 := Lib.hid (fun (E : World) (hE : Below W8.heap.size W8 E) => (show (E.cell? ⟨wa.heap.size, 0, none⟩ = some (.slice (some ⟨b, off, none⟩) J.ns.length cwa) ∧ E.cell? ⟨wa.heap.size, 1, none⟩ = some (.slice qwa J.es.length dwa)) ∧ (E.cell? ⟨wc1.heap.size, 0, none⟩ = some (.slice (some ⟨b, off, none⟩) k cwa) ∧ E.cell? ⟨wc1.heap.size, 1, none⟩ = some (.slice qwa J.es.length dwa)) ∧ (E.cell? ⟨wx.heap.size, 0, none⟩ = some (.slice pg g.ns.length cg) ∧ E.cell? ⟨wx.heap.size, 1, none⟩ = some (.slice qg g.es.length dg)) ∧ (E.cell? ⟨wx.heap.size + 1, 0, none⟩ = some (.string x.l) ∧ E.cell? ⟨wx.heap.size + 1, 1, none⟩ = some (.int .i64 x.n)) ∧ (E.cell? ⟨b, off + k * 2, none⟩ = some (.string x.l) ∧ E.cell? ⟨b, off + k * 2 + 1, none⟩ = some (.int .i64 x.n)) from ⟨(KW8.out E (hE)).1.1.2.1, (KW8.out E (hE)).2.1, (KW8.out E (hE)).1.1.1.1.1, (KW8.out E (hE)).1.1.1.2.1, HZ8.out E hE⟩))
      have szJ : W5.heap.size ≤ W8.heap.size := by omega
      have szg : W.heap.size ≤ W8.heap.size := by omega
      go_upto_region 10 with fail
      refine wp_region_held_drew (S := fun w' => (w'.cell? ⟨wa.heap.size, 0, none⟩ = some (.slice (some ⟨b, off, none⟩) J.ns.length cwa) ∧ w'.cell? ⟨wa.heap.size, 1, none⟩ = some (.slice qwa J.es.length dwa)) ∧ (w'.cell? ⟨wc1.heap.size, 0, none⟩ = some (.slice (some ⟨b, off, none⟩) k cwa) ∧ w'.cell? ⟨wc1.heap.size, 1, none⟩ = some (.slice qwa J.es.length dwa)) ∧ (w'.cell? ⟨wx.heap.size, 0, none⟩ = some (.slice pg g.ns.length cg) ∧ w'.cell? ⟨wx.heap.size, 1, none⟩ = some (.slice qg g.es.length dg)) ∧ (w'.cell? ⟨wx.heap.size + 1, 0, none⟩ = some (.string x.l) ∧ w'.cell? ⟨wx.heap.size + 1, 1, none⟩ = some (.int .i64 x.n)) ∧ (w'.cell? ⟨b, off + k * 2, none⟩ = some (.string x.l) ∧ w'.cell? ⟨b, off + k * 2 + 1, none⟩ = some (.int .i64 x.n))) (by kernel_rfl) ?_ (fun hHeld => ?_)
      · exact KS9.out _ (show Below W8.heap.size W8 _ by ((repeat (first | with_reducible assumption | with_reducible exact Below.refl _ _ | refine Below.setCell ?_ (by (first | omega | (simp; omega) | (simp; done) | fail "sml")) _ | refine Below.drew ?_ | refine Below.alloc ?_ (by (first | omega | (simp; omega) | (simp; done) | fail "sml")) _)); first | done | fail "chs"))
      (refine takeL (i := 0) (v := ?_) rfl (by kernel_rfl) (by kernel_rfl) (by kernel_rfl) (fun _ _ _ h => h) (Or.inl ⟨by kernel_rfl, ?_⟩) (by assumption) ?_; rotate_left; (focus (intro w hSw; (try dsimp only at hSw); go_simp; first | done | with_reducible rfl | fail "take")); (try simp only [Act.put, List.setIfInBounds_toArray, List.set_cons_zero, List.set_cons_succ]))
      (refine callL (i := 1) rfl (by kernel_rfl) (by kernel_rfl) (fun K hK => ?_); go_simp)
      go_at_call 42
      refine Calls.mono (graphValid_any J _ W5.heap.size _ ((KW8.out _ ((show Below W8.heap.size W8 _ by ((repeat (first | with_reducible assumption | with_reducible exact Below.refl _ _ | refine Below.setCell ?_ (by (first | omega | (simp; omega) | (simp; done) | fail "sml")) _ | refine Below.drew ?_ | refine Below.alloc ?_ (by (first | omega | (simp; omega) | (simp; done) | fail "sml")) _)); first | done | fail "chs")))).1.1.2.2) (Nat.le_trans szJ ((show Below W8.heap.size W8 _ by ((repeat (first | with_reducible assumption | with_reducible exact Below.refl _ _ | refine Below.setCell ?_ (by (first | omega | (simp; omega) | (simp; done) | fail "sml")) _ | refine Below.drew ?_ | refine Below.alloc ?_ (by (first | omega | (simp; omega) | (simp; done) | fail "sml")) _)); first | done | fail "chs"))).size) HJO.out) ?_
      rw [HGV.out]
      rintro en we ⟨rfl, hb⟩
      have rwe := Below.trans (show Below W8.heap.size W8 _ by ((repeat (first | with_reducible assumption | with_reducible exact Below.refl _ _ | refine Below.setCell ?_ (by (first | omega | (simp; omega) | (simp; done) | fail "sml")) _ | refine Below.drew ?_ | refine Below.alloc ?_ (by (first | omega | (simp; omega) | (simp; done) | fail "sml")) _)); first | done | fail "chs")) (hb.mono (by (first | omega | (simp; omega) | (simp; done) | fail "sml")))
      have zwe := rwe.size
      clear hb
      go_wp2_with fail
      refine hK.out _ _ (KS9.out _ (show Below W8.heap.size W8 _ by ((repeat (first | with_reducible assumption | with_reducible exact Below.refl _ _ | refine Below.setCell ?_ (by (first | omega | (simp; omega) | (simp; done) | fail "sml")) _ | refine Below.drew ?_ | refine Below.alloc ?_ (by (first | omega | (simp; omega) | (simp; done) | fail "sml")) _)); first | done | fail "chs"))) (fun hHeld => ?_)
      clear hK K
      (try simp only [Act.put, List.setIfInBounds_toArray, List.set_cons_zero, List.set_cons_succ])
      (refine takeL (i := 2) (v := ?_) rfl (by kernel_rfl) (by kernel_rfl) (by kernel_rfl) (fun _ _ _ h => h) (Or.inl ⟨by kernel_rfl, ?_⟩) (by assumption) ?_; rotate_left; (focus (intro w hSw; (try dsimp only at hSw); go_simp; first | done | with_reducible rfl | fail "take")); (try simp only [Act.put, List.setIfInBounds_toArray, List.set_cons_zero, List.set_cons_succ]))
      (refine takeL (i := 3) (v := ?_) rfl (by kernel_rfl) (by kernel_rfl) (by kernel_rfl) (fun _ _ _ h => h) (Or.inl ⟨by kernel_rfl, ?_⟩) (by assumption) ?_; rotate_left; (focus (intro w hSw; (try dsimp only at hSw); go_simp; first | done | with_reducible rfl | fail "take")); (try simp only [Act.put, List.setIfInBounds_toArray, List.set_cons_zero, List.set_cons_succ]))
      (refine takeL (i := 4) (v := ?_) rfl (by kernel_rfl) (by kernel_rfl) (by kernel_rfl) (fun _ _ _ h => h) (Or.inl ⟨by kernel_rfl, ?_⟩) (by assumption) ?_; rotate_left; (focus (intro w hSw; (try dsimp only at hSw); go_simp; first | done | with_reducible rfl | fail "take")); (try simp only [Act.put, List.setIfInBounds_toArray, List.set_cons_zero, List.set_cons_succ]))
      (refine takeL (i := 5) (v := ?_) rfl (by kernel_rfl) (by kernel_rfl) (by kernel_rfl) (fun _ _ _ h => h) (Or.inl ⟨by kernel_rfl, ?_⟩) (by assumption) ?_; rotate_left; (focus (intro w hSw; (try dsimp only at hSw); go_simp; first | done | with_reducible rfl | fail "take")); (try simp only [Act.put, List.setIfInBounds_toArray, List.set_cons_zero, List.set_cons_succ]))
      (refine takeL (i := 6) (v := ?_) rfl (by kernel_rfl) (by kernel_rfl) (by kernel_rfl) (fun _ _ _ h => h) (Or.inl ⟨by kernel_rfl, ?_⟩) (by assumption) ?_; rotate_left; (focus (intro w hSw; (try dsimp only at hSw); go_simp; first | done | with_reducible rfl | fail "take")); (try simp only [Act.put, List.setIfInBounds_toArray, List.set_cons_zero, List.set_cons_succ]))
      (refine takeL (i := 7) (v := ?_) rfl (by kernel_rfl) (by kernel_rfl) (by kernel_rfl) (fun _ _ _ h => h) (Or.inl ⟨by kernel_rfl, ?_⟩) (by assumption) ?_; rotate_left; (focus (intro w hSw; (try dsimp only at hSw); go_simp; first | done | with_reducible rfl | fail "take")); (try simp only [Act.put, List.setIfInBounds_toArray, List.set_cons_zero, List.set_cons_succ]))
      (refine takeL (i := 8) (v := ?_) rfl (by kernel_rfl) (by kernel_rfl) (by kernel_rfl) (fun _ _ _ h => h) (Or.inl ⟨by kernel_rfl, ?_⟩) (by assumption) ?_; rotate_left; (focus (intro w hSw; (try dsimp only at hSw); go_simp; first | done | with_reducible rfl | fail "take")); (try simp only [Act.put, List.setIfInBounds_toArray, List.set_cons_zero, List.set_cons_succ]))
      (refine takeL (i := 9) (v := ?_) rfl (by kernel_rfl) (by kernel_rfl) (by kernel_rfl) (fun _ _ _ h => h) (Or.inl ⟨by kernel_rfl, ?_⟩) (by assumption) ?_; rotate_left; (focus (intro w hSw; (try dsimp only at hSw); go_simp; first | done | with_reducible rfl | fail "take")); (try simp only [Act.put, List.setIfInBounds_toArray, List.set_cons_zero, List.set_cons_succ]))
      (refine takeL (i := 10) (v := ?_) rfl (by kernel_rfl) (by kernel_rfl) (by kernel_rfl) (fun _ _ _ h => h) (Or.inl ⟨by kernel_rfl, ?_⟩) (by assumption) ?_; rotate_left; (focus (intro w hSw; (try dsimp only at hSw); go_simp; first | done | with_reducible rfl | fail "take")); (try simp only [Act.put, List.setIfInBounds_toArray, List.set_cons_zero, List.set_cons_succ]))
      (refine takeL (i := 11) (v := ?_) rfl (by kernel_rfl) (by kernel_rfl) (by kernel_rfl) (fun _ _ _ h => h) (Or.inl ⟨by kernel_rfl, ?_⟩) (by assumption) ?_; rotate_left; (focus (intro w hSw; (try dsimp only at hSw); go_simp; first | done | with_reducible rfl | fail "take")); (try simp only [Act.put, List.setIfInBounds_toArray, List.set_cons_zero, List.set_cons_succ]))
      (refine takeL (i := 12) (v := ?_) rfl (by kernel_rfl) (by kernel_rfl) (by kernel_rfl) (fun _ _ _ h => h) (Or.inl ⟨by kernel_rfl, ?_⟩) (by assumption) ?_; rotate_left; (focus (intro w hSw; (try dsimp only at hSw); go_simp; first | done | with_reducible rfl | fail "take")); (try simp only [Act.put, List.setIfInBounds_toArray, List.set_cons_zero, List.set_cons_succ]))
      (refine takeL (i := 13) (v := ?_) rfl (by kernel_rfl) (by kernel_rfl) (by kernel_rfl) (fun _ _ _ h => h) (Or.inl ⟨by kernel_rfl, ?_⟩) (by assumption) ?_; rotate_left; (focus (intro w hSw; (try dsimp only at hSw); go_simp; first | done | with_reducible rfl | fail "take")); (try simp only [Act.put, List.setIfInBounds_toArray, List.set_cons_zero, List.set_cons_succ]))
      (refine callL (i := 14) rfl (by kernel_rfl) (by kernel_rfl) (fun K hK => ?_); go_simp)
      go_at_call 34
      refine Calls.mono (graphSame_any g g _ _ W8.heap.size _ ((KW8.out _ ((show Below W8.heap.size W8 _ by ((repeat (first | with_reducible assumption | with_reducible exact Below.refl _ _ | refine Below.setCell ?_ (by (first | omega | (simp; omega) | (simp; done) | fail "sml")) _ | refine Below.drew ?_ | refine Below.alloc ?_ (by (first | omega | (simp; omega) | (simp; done) | fail "sml")) _)); first | done | fail "chs")))).2.2) (((KW8.out _ ((show Below W8.heap.size W8 _ by ((repeat (first | with_reducible assumption | with_reducible exact Below.refl _ _ | refine Below.setCell ?_ (by (first | omega | (simp; omega) | (simp; done) | fail "sml")) _ | refine Below.drew ?_ | refine Below.alloc ?_ (by (first | omega | (simp; omega) | (simp; done) | fail "sml")) _)); first | done | fail "chs")))).1.1.1.1.2).mono szg) ((show Below W8.heap.size W8 _ by ((repeat (first | with_reducible assumption | with_reducible exact Below.refl _ _ | refine Below.setCell ?_ (by (first | omega | (simp; omega) | (simp; done) | fail "sml")) _ | refine Below.drew ?_ | refine Below.alloc ?_ (by (first | omega | (simp; omega) | (simp; done) | fail "sml")) _)); first | done | fail "chs"))).size) ?_
      rw [gs_refl]
      rintro en wf ⟨rfl, hb⟩
      have rwf := Below.trans (show Below W8.heap.size W8 _ by ((repeat (first | with_reducible assumption | with_reducible exact Below.refl _ _ | refine Below.setCell ?_ (by (first | omega | (simp; omega) | (simp; done) | fail "sml")) _ | refine Below.drew ?_ | refine Below.alloc ?_ (by (first | omega | (simp; omega) | (simp; done) | fail "sml")) _)); first | done | fail "chs")) (hb.mono (by (first | omega | (simp; omega) | (simp; done) | fail "sml")))
      have zwf := rwf.size
      clear hb
      go_wp2_with fail
      refine hK.out _ _ (KS9.out _ (show Below W8.heap.size W8 _ by ((repeat (first | with_reducible assumption | with_reducible exact Below.refl _ _ | refine Below.setCell ?_ (by (first | omega | (simp; omega) | (simp; done) | fail "sml")) _ | refine Below.drew ?_ | refine Below.alloc ?_ (by (first | omega | (simp; omega) | (simp; done) | fail "sml")) _)); first | done | fail "chs"))) (fun hHeld => ?_)
      clear hK K
      (try simp only [Act.put, List.setIfInBounds_toArray, List.set_cons_zero, List.set_cons_succ])
      (refine takeL (i := 15) (v := ?_) rfl (by kernel_rfl) (by kernel_rfl) (by kernel_rfl) (fun _ _ _ h => h) (Or.inl ⟨by kernel_rfl, ?_⟩) (by assumption) ?_; rotate_left; (focus (intro w hSw; (try dsimp only at hSw); go_simp; first | done | with_reducible rfl | fail "take")); (try simp only [Act.put, List.setIfInBounds_toArray, List.set_cons_zero, List.set_cons_succ]))
      (refine takeL (i := 16) (v := ?_) rfl (by kernel_rfl) (by kernel_rfl) (by kernel_rfl) (fun _ _ _ h => h) (Or.inl ⟨by kernel_rfl, ?_⟩) (by assumption) ?_; rotate_left; (focus (intro w hSw; (try dsimp only at hSw); go_simp; first | done | with_reducible rfl | fail "take")); (try simp only [Act.put, List.setIfInBounds_toArray, List.set_cons_zero, List.set_cons_succ]))
      (refine takeL (i := 17) (v := ?_) rfl (by kernel_rfl) (by kernel_rfl) (by kernel_rfl) (fun _ _ _ h => h) (Or.inl ⟨by kernel_rfl, ?_⟩) (by assumption) ?_; rotate_left; (focus (intro w hSw; (try dsimp only at hSw); go_simp; first | done | with_reducible rfl | fail "take")); (try simp only [Act.put, List.setIfInBounds_toArray, List.set_cons_zero, List.set_cons_succ]))
      (refine takeL (i := 18) (v := ?_) rfl (by kernel_rfl) (by kernel_rfl) (by kernel_rfl) (fun _ _ _ h => h) (Or.inl ⟨by kernel_rfl, ?_⟩) (by assumption) ?_; rotate_left; (focus (intro w hSw; (try dsimp only at hSw); go_simp; first | done | with_reducible rfl | fail "take")); (try simp only [Act.put, List.setIfInBounds_toArray, List.set_cons_zero, List.set_cons_succ]))
      (refine callL (i := 19) rfl (by kernel_rfl) (by kernel_rfl) (fun K hK => ?_); go_simp)
      go_at_call 40
      refine Calls.mono (outEdges_any J _ (k : Int) W5.heap.size _ ((KW8.out _ ((show Below W8.heap.size W8 _ by ((repeat (first | with_reducible assumption | with_reducible exact Below.refl _ _ | refine Below.setCell ?_ (by (first | omega | (simp; omega) | (simp; done) | fail "sml")) _ | refine Below.drew ?_ | refine Below.alloc ?_ (by (first | omega | (simp; omega) | (simp; done) | fail "sml")) _)); first | done | fail "chs")))).1.1.2.2) (Nat.le_trans szJ ((show Below W8.heap.size W8 _ by ((repeat (first | with_reducible assumption | with_reducible exact Below.refl _ _ | refine Below.setCell ?_ (by (first | omega | (simp; omega) | (simp; done) | fail "sml")) _ | refine Below.drew ?_ | refine Below.alloc ?_ (by (first | omega | (simp; omega) | (simp; done) | fail "sml")) _)); first | done | fail "chs"))).size) HJO.out) ?_
      rintro en wg ⟨vs, Fs, rfl, hs, _, hb⟩
      have rwg := Below.trans (show Below W8.heap.size W8 _ by ((repeat (first | with_reducible assumption | with_reducible exact Below.refl _ _ | refine Below.setCell ?_ (by (first | omega | (simp; omega) | (simp; done) | fail "sml")) _ | refine Below.drew ?_ | refine Below.alloc ?_ (by (first | omega | (simp; omega) | (simp; done) | fail "sml")) _)); first | done | fail "chs")) (hb.mono (by (first | omega | (simp; omega) | (simp; done) | fail "sml")))
      have zwg := rwg.size
      rw [HOE.out] at hs
      obtain ⟨ps, cs, rfl⟩ := hs.sl.form
      clear hs
      clear hb
      go_wp2_with fail
      refine hK.out _ _ (KS9.out _ (show Below W8.heap.size W8 _ by ((repeat (first | with_reducible assumption | with_reducible exact Below.refl _ _ | refine Below.setCell ?_ (by (first | omega | (simp; omega) | (simp; done) | fail "sml")) _ | refine Below.drew ?_ | refine Below.alloc ?_ (by (first | omega | (simp; omega) | (simp; done) | fail "sml")) _)); first | done | fail "chs"))) (fun hHeld => ?_)
      clear hK K
      (try simp only [Act.put, List.setIfInBounds_toArray, List.set_cons_zero, List.set_cons_succ])
      (refine takeL (i := 20) (v := ?_) rfl (by kernel_rfl) (by kernel_rfl) (by kernel_rfl) (fun _ _ _ h => h) (Or.inl ⟨by kernel_rfl, ?_⟩) (by assumption) ?_; rotate_left; (focus (intro w hSw; (try dsimp only at hSw); go_simp; first | done | with_reducible rfl | fail "take")); (try simp only [Act.put, List.setIfInBounds_toArray, List.set_cons_zero, List.set_cons_succ]))
      (refine takeL (i := 21) (v := ?_) rfl (by kernel_rfl) (by kernel_rfl) (by kernel_rfl) (fun _ _ _ h => h) (Or.inl ⟨by kernel_rfl, ?_⟩) (by assumption) ?_; rotate_left; (focus (intro w hSw; (try dsimp only at hSw); go_simp; first | done | with_reducible rfl | fail "take")); (try simp only [Act.put, List.setIfInBounds_toArray, List.set_cons_zero, List.set_cons_succ]))
      (refine takeL (i := 22) (v := ?_) rfl (by kernel_rfl) (by kernel_rfl) (by kernel_rfl) (fun _ _ _ h => h) (Or.inl ⟨by kernel_rfl, ?_⟩) (by assumption) ?_; rotate_left; (focus (intro w hSw; (try dsimp only at hSw); go_simp; first | done | with_reducible rfl | fail "take")); (try simp only [Act.put, List.setIfInBounds_toArray, List.set_cons_zero, List.set_cons_succ]))
      (refine takeL (i := 23) (v := ?_) rfl (by kernel_rfl) (by kernel_rfl) (by kernel_rfl) (fun _ _ _ h => h) (Or.inl ⟨by kernel_rfl, ?_⟩) (by assumption) ?_; rotate_left; (focus (intro w hSw; (try dsimp only at hSw); go_simp; first | done | with_reducible rfl | fail "take")); (try simp only [Act.put, List.setIfInBounds_toArray, List.set_cons_zero, List.set_cons_succ]))
      (refine takeL (i := 24) (v := ?_) rfl (by kernel_rfl) (by kernel_rfl) (by kernel_rfl) (fun _ _ _ h => h) (Or.inl ⟨by kernel_rfl, ?_⟩) (by assumption) ?_; rotate_left; (focus (intro w hSw; (try dsimp only at hSw); go_simp; first | done | with_reducible rfl | fail "take")); (try simp only [Act.put, List.setIfInBounds_toArray, List.set_cons_zero, List.set_cons_succ]))
      (refine takeL (i := 25) (v := ?_) rfl (by kernel_rfl) (by kernel_rfl) (by kernel_rfl) (fun _ _ _ h => h) (Or.inl ⟨by kernel_rfl, ?_⟩) (by assumption) ?_; rotate_left; (focus (intro w hSw; (try dsimp only at hSw); go_simp; first | done | with_reducible rfl | fail "take")); (try simp only [Act.put, List.setIfInBounds_toArray, List.set_cons_zero, List.set_cons_succ]))
      (refine callL (i := 26) rfl (by kernel_rfl) (by kernel_rfl) (fun K hK => ?_); go_simp)
      go_at_call 41
      refine Calls.mono (inEdges_any J _ (k : Int) W5.heap.size _ ((KW8.out _ ((show Below W8.heap.size W8 _ by ((repeat (first | with_reducible assumption | with_reducible exact Below.refl _ _ | refine Below.setCell ?_ (by (first | omega | (simp; omega) | (simp; done) | fail "sml")) _ | refine Below.drew ?_ | refine Below.alloc ?_ (by (first | omega | (simp; omega) | (simp; done) | fail "sml")) _)); first | done | fail "chs")))).1.1.2.2) (Nat.le_trans szJ ((show Below W8.heap.size W8 _ by ((repeat (first | with_reducible assumption | with_reducible exact Below.refl _ _ | refine Below.setCell ?_ (by (first | omega | (simp; omega) | (simp; done) | fail "sml")) _ | refine Below.drew ?_ | refine Below.alloc ?_ (by (first | omega | (simp; omega) | (simp; done) | fail "sml")) _)); first | done | fail "chs"))).size) HJO.out) ?_
      rintro en wh ⟨vq, Fq, rfl, hs, _, hb⟩
      have rwh := Below.trans (show Below W8.heap.size W8 _ by ((repeat (first | with_reducible assumption | with_reducible exact Below.refl _ _ | refine Below.setCell ?_ (by (first | omega | (simp; omega) | (simp; done) | fail "sml")) _ | refine Below.drew ?_ | refine Below.alloc ?_ (by (first | omega | (simp; omega) | (simp; done) | fail "sml")) _)); first | done | fail "chs")) (hb.mono (by (first | omega | (simp; omega) | (simp; done) | fail "sml")))
      have zwh := rwh.size
      rw [HIE.out] at hs
      obtain ⟨pq, cq, rfl⟩ := hs.sl.form
      clear hs
      clear hb
      go_wp2_with fail
      refine hK.out _ _ (KS9.out _ (show Below W8.heap.size W8 _ by ((repeat (first | with_reducible assumption | with_reducible exact Below.refl _ _ | refine Below.setCell ?_ (by (first | omega | (simp; omega) | (simp; done) | fail "sml")) _ | refine Below.drew ?_ | refine Below.alloc ?_ (by (first | omega | (simp; omega) | (simp; done) | fail "sml")) _)); first | done | fail "chs"))) (fun hHeld => ?_)
      clear hK K
      (try simp only [Act.put, List.setIfInBounds_toArray, List.set_cons_zero, List.set_cons_succ])
      (refine takeL (i := 27) (v := ?_) rfl (by kernel_rfl) (by kernel_rfl) (by kernel_rfl) (fun _ _ _ h => h) (Or.inl ⟨by kernel_rfl, ?_⟩) (by assumption) ?_; rotate_left; (focus (intro w hSw; (try dsimp only at hSw); go_simp; first | done | with_reducible rfl | fail "take")); (try simp only [Act.put, List.setIfInBounds_toArray, List.set_cons_zero, List.set_cons_succ]))
      (refine takeL (i := 28) (v := ?_) rfl (by kernel_rfl) (by kernel_rfl) (by kernel_rfl) (fun _ _ _ h => h) (Or.inl ⟨by kernel_rfl, ?_⟩) (by assumption) ?_; rotate_left; (focus (intro w hSw; (try dsimp only at hSw); go_simp; first | done | with_reducible rfl | fail "take")); (try simp only [Act.put, List.setIfInBounds_toArray, List.set_cons_zero, List.set_cons_succ]))
      (refine takeL (i := 29) (v := ?_) rfl (by kernel_rfl) (by kernel_rfl) (by kernel_rfl) (fun _ _ _ h => h) (Or.inl ⟨by kernel_rfl, ?_⟩) (by assumption) ?_; rotate_left; (focus (intro w hSw; (try dsimp only at hSw); go_simp; first | done | with_reducible rfl | fail "take")); (try simp only [Act.put, List.setIfInBounds_toArray, List.set_cons_zero, List.set_cons_succ]))
      (refine takeL (i := 30) (v := ?_) rfl (by kernel_rfl) (by kernel_rfl) (by kernel_rfl) (fun _ _ _ h => h) (Or.inl ⟨by kernel_rfl, ?_⟩) (by assumption) ?_; rotate_left; (focus (intro w hSw; (try dsimp only at hSw); go_simp; first | done | with_reducible rfl | fail "take")); (try simp only [Act.put, List.setIfInBounds_toArray, List.set_cons_zero, List.set_cons_succ]))
      refine wpAnyH_done (by kernel_rfl) ?_ _
      go_wp2_with fail
      go_ret
      exact ⟨rfl, HBW.out.trans ((show Below W8.heap.size W8 _ by ((repeat (first | with_reducible assumption | with_reducible exact Below.refl _ _ | refine Below.setCell ?_ (by (first | omega | (simp; omega) | (simp; done) | fail "sml")) _ | refine Below.drew ?_ | refine Below.alloc ?_ (by (first | omega | (simp; omega) | (simp; done) | fail "sml")) _)); first | done | fail "chs")).mono HBW.out.size)⟩

end Go.Proofs.Ytchhobphockhhaa
