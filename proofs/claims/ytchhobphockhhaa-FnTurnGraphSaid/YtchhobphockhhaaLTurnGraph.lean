/- The walk of FnTurnGraph. -/
import Derived.Test.YtchhobphockhhaaL1G
import Derived.Test.YtchhobphockhhaaGLaw
import Derived.Test.YtchhobphockhhaaSTurn
import Derived.Test.YtchhobphockhhaaGSame2
import Derived.Test.YtchhobphockhhaaSEdges
import Derived.Test.YtchhobphockhhaaReg
import Derived.Test.YtchhobphockhhaaGpInts
namespace Go.Proofs.Ytchhobphockhhaa
open Go.RowKit

set_option maxRecDepth 100000 in
set_option maxHeartbeats 16000000 in
theorem lawTurnGraph (zs : List Int) (v : Value) (w : World) (hv : Sl 1 byCells w.heap.size w v zs) (hz : ∀ z ∈ zs, 0 ≤ z ∧ z ≤ 255) :
    Calls Try.prog 9 #[v] w fun e w' => e = .returned (.bool true) ∧ Below w.heap.size w w' := by
  obtain ⟨p, cap, rfl⟩ := hv.form
  have hm := hv.max
  unfold maxLen at hm
  by_cases hb : (1048576 : Int) < zs.length
  · go_enter Try.func9, Try.ntmps9
    go_wp2_with fail
    go_ret
    exact ⟨rfl, Below.refl _ _⟩
  · go_enter Try.func9, Try.ntmps9
    go_wp2_with fail
    refine (drawTurnGraph_any zs _ w.heap.size _ hv (Nat.le_refl _) hz).mono ?_
    rintro e wx ⟨g, vg, Fg, rfl, hg, hb1⟩
    clear hv
    obtain ⟨pg, cg, qg, dg, rfl⟩ := hg.1.form
    have Hg := Lib.hid hg.1.at
    have HB1 := Lib.hid hb1
    have HOK := Lib.hid hg.2.2.1
    have HLEN := Lib.hid hg.2.2.2
    clear hg hb1
    go_upto_region 4 with fail
    obtain ⟨W, eW⟩ : ∃ E, E = (wx).alloc (.cells #[.slice pg g.ns.length cg, .slice qg g.es.length dg] 55) := ⟨_, rfl⟩
    have zW : wx.heap.size < W.heap.size := by rw [eW]; simp
    have hbW : Below wx.heap.size wx W := by rw [eW]; exact (Below.refl _ _).alloc (Nat.le_refl _) _
    have HC := Lib.hid (show (W.cell? ⟨wx.heap.size, 0, none⟩ = some (.slice pg g.ns.length cg) ∧ W.cell? ⟨wx.heap.size, 1, none⟩ = some (.slice qg g.es.length dg)) by rw [eW]; exact ⟨by simp [go_sem], by simp [go_sem]⟩)
    rw [← eW]
    clear eW
    have HK := Lib.hid (fun (E : World) (hE : Below W.heap.size W E) => And.intro (show (E.cell? ⟨wx.heap.size, 0, none⟩ = some (.slice pg g.ns.length cg) ∧ E.cell? ⟨wx.heap.size, 1, none⟩ = some (.slice qg g.es.length dg)) from ⟨keepc hE (by omega) HC.out.1, keepc hE (by omega) HC.out.2⟩) (show (g : Gr).At W.heap.size E (.agg #[.slice pg g.ns.length cg, .slice qg g.es.length dg]) from (Hg.out.to hbW (Nat.le_refl _)).to (hE.mono (by omega)) (by omega)))
    have HBW := Lib.hid ((HB1.out.trans (hbW.mono HB1.out.size)) : Below w.heap.size w W)
    clear hbW HC HB1 Hg
    have r0 := Below.refl W.heap.size W
    obtain ⟨⟨y0a, y0b⟩, _⟩ := HK.out W (r0)
    obtain ⟨O, hO⟩ : ∃ O, RowKit.Hid (O = gv g) := ⟨_, Lib.hid rfl⟩
    obtain ⟨x, hx⟩ : ∃ x, RowKit.Hid (x = tgr g) := ⟨_, Lib.hid rfl⟩
    go_wp2_with fail
    refine Calls.mono (turnGraph_any g _  W.heap.size W (((HK.out W (r0)).2).to (Below.refl _ _) (by have := (r0).size; omega)) (Nat.le_refl _) HOK.out) ?_
    rw [← hO.out, ← hx.out]
    rintro e wa ⟨vwa, Fwa, Gwa, rfl, hwa, hb⟩
    have rwa : Below W.heap.size W wa := (r0).trans (hb.mono (r0).size)
    have swa := rwa.size
    clear hb
    obtain ⟨pwa, cwa, qwa, dwa, rfl⟩ := Gr.At.form' hwa.at
    have Hwa := Lib.hid hwa.at
    clear hwa
    clear y0a y0b
    go_upto_region 5 with fail
    obtain ⟨W5, eW5⟩ : ∃ E, E = wa.alloc (.cells #[.slice pwa x.ns.length cwa, .slice qwa x.es.length dwa] 55) := ⟨_, rfl⟩
    have lW5 : Below wa.heap.size wa W5 := by rw [eW5]; exact (Below.refl _ _).alloc (Nat.le_refl _) _
    have zW5 : wa.heap.size < W5.heap.size := by rw [eW5]; simp
    have CW5 := Lib.hid (show (W5.cell? ⟨wa.heap.size, 0, none⟩ = some (.slice pwa x.ns.length cwa) ∧ W5.cell? ⟨wa.heap.size, 1, none⟩ = some (.slice qwa x.es.length dwa)) by rw [eW5]; exact ⟨by simp [go_sem], by simp [go_sem]⟩)
    rw [← eW5]
    clear eW5
    have rW5 : Below W.heap.size W W5 := rwa.trans (lW5.mono swa)
    have sW5 := rW5.size
    have KW5 := Lib.hid (fun (E : World) (hE : Below W5.heap.size W5 E) => And.intro (HK.out E (rW5.trans (hE.mono sW5))) (show (E.cell? ⟨wa.heap.size, 0, none⟩ = some (.slice pwa x.ns.length cwa) ∧ E.cell? ⟨wa.heap.size, 1, none⟩ = some (.slice qwa x.es.length dwa)) ∧ (x : Gr).At W5.heap.size E (.agg #[.slice pwa x.ns.length cwa, .slice qwa x.es.length dwa]) from ⟨⟨keepc hE zW5 CW5.out.1, keepc hE zW5 CW5.out.2⟩, (Hwa.out.to lW5 (Nat.le_refl _)).to (hE.mono (by omega)) (by omega)⟩))
    have BW5 := Lib.hid ((HBW.out.trans (rW5.mono HBW.out.size)) : Below w.heap.size w W5)
    clear CW5 Hwa HBW rW5 lW5 rwa swa r0 HK
    have HBW := BW5
    clear BW5
    have r0 := Below.refl W5.heap.size W5
    obtain ⟨⟨⟨y0a, y0b⟩, _⟩, ⟨y1a, y1b⟩, _⟩ := KW5.out W5 (r0)
    go_wp2_with fail
    refine Calls.mono (specTurnGraph_any g _  W5.heap.size W5 (((KW5.out W5 (r0)).1.2).to (Below.refl _ _) (by have := (r0).size; omega)) (Nat.le_refl _) HOK.out) ?_
    rw [← hO.out, ← hx.out]
    rintro e wb ⟨vwb, Fwb, Gwb, rfl, hwb, hb⟩
    have rwb : Below W5.heap.size W5 wb := (r0).trans (hb.mono (r0).size)
    have swb := rwb.size
    clear hb
    obtain ⟨pwb, cwb, qwb, dwb, rfl⟩ := Gr.At.form' hwb.at
    have Hwb := Lib.hid hwb.at
    clear hwb
    clear y0a y0b y1a y1b
    go_upto_region 6 with fail
    obtain ⟨W6, eW6⟩ : ∃ E, E = wb.alloc (.cells #[.slice pwb x.ns.length cwb, .slice qwb x.es.length dwb] 55) := ⟨_, rfl⟩
    have lW6 : Below wb.heap.size wb W6 := by rw [eW6]; exact (Below.refl _ _).alloc (Nat.le_refl _) _
    have zW6 : wb.heap.size < W6.heap.size := by rw [eW6]; simp
    have CW6 := Lib.hid (show (W6.cell? ⟨wb.heap.size, 0, none⟩ = some (.slice pwb x.ns.length cwb) ∧ W6.cell? ⟨wb.heap.size, 1, none⟩ = some (.slice qwb x.es.length dwb)) by rw [eW6]; exact ⟨by simp [go_sem], by simp [go_sem]⟩)
    rw [← eW6]
    clear eW6
    have rW6 : Below W5.heap.size W5 W6 := rwb.trans (lW6.mono swb)
    have sW6 := rW6.size
    have KW6 := Lib.hid (fun (E : World) (hE : Below W6.heap.size W6 E) => And.intro (KW5.out E (rW6.trans (hE.mono sW6))) (show (E.cell? ⟨wb.heap.size, 0, none⟩ = some (.slice pwb x.ns.length cwb) ∧ E.cell? ⟨wb.heap.size, 1, none⟩ = some (.slice qwb x.es.length dwb)) ∧ (x : Gr).At W6.heap.size E (.agg #[.slice pwb x.ns.length cwb, .slice qwb x.es.length dwb]) from ⟨⟨keepc hE zW6 CW6.out.1, keepc hE zW6 CW6.out.2⟩, (Hwb.out.to lW6 (Nat.le_refl _)).to (hE.mono (by omega)) (by omega)⟩))
    have BW6 := Lib.hid ((HBW.out.trans (rW6.mono HBW.out.size)) : Below w.heap.size w W6)
    clear CW6 Hwb HBW rW6 lW6 rwb swb r0 KW5
    have HBW := BW6
    clear BW6
    have r0 := Below.refl W6.heap.size W6
    obtain ⟨⟨⟨⟨y0a, y0b⟩, _⟩, ⟨y1a, y1b⟩, _⟩, ⟨y2a, y2b⟩, _⟩ := KW6.out W6 (r0)
    cases O with
    | false =>
      go_wp2_with fail
      refine Calls.mono (graphSame_any x x _ _ W6.heap.size W6 (((KW6.out W6 (r0)).1.2.2).to (Below.refl _ _) (by have := (r0).size; omega)) (((KW6.out W6 (r0)).2.2).to (Below.refl _ _) (by have := (r0).size; omega)) (Nat.le_refl _)) ?_
      rw [gs_refl]
      rintro e wc1 ⟨rfl, hb⟩
      have rwc1 : Below W6.heap.size W6 wc1 := (r0).trans (hb.mono (r0).size)
      have swc1 := rwc1.size
      clear hb
      clear y0a y0b y1a y1b y2a y2b
      obtain ⟨⟨⟨⟨y0a, y0b⟩, _⟩, ⟨y1a, y1b⟩, _⟩, ⟨y2a, y2b⟩, _⟩ := KW6.out wc1 (rwc1)
      go_wp2_with fail
      refine Calls.mono (graphSame_any x x _ _ wc1.heap.size wc1 (((KW6.out wc1 (rwc1)).1.2.2).to (Below.refl _ _) (by have := (rwc1).size; omega)) (((KW6.out wc1 (rwc1)).2.2).to (Below.refl _ _) (by have := (rwc1).size; omega)) (Nat.le_refl _)) ?_
      rw [gs_refl]
      rintro e wd ⟨rfl, hb⟩
      have rwd : Below W6.heap.size W6 wd := (rwc1).trans (hb.mono (rwc1).size)
      have swd := rwd.size
      clear hb
      clear y0a y0b y1a y1b y2a y2b
      obtain ⟨⟨⟨⟨y0a, y0b⟩, _⟩, ⟨y1a, y1b⟩, _⟩, ⟨y2a, y2b⟩, _⟩ := KW6.out wd (rwd)
      go_wp2_with fail
      go_ret
      exact ⟨rfl, HBW.out.trans ((rwd).mono HBW.out.size)⟩

    | true =>
      have HV := Lib.hid hO.out.symm
      have HX := Lib.hid (show x.Ok by rw [hx.out, tgr_of HV.out]; exact ⟨HOK.out.1, fun e he => by obtain ⟨y, hy, rfl⟩ := List.mem_map.1 he; have := HOK.out.2 y hy; exact ⟨this.2.1, this.1, this.2.2.1, this.2.2.2⟩⟩)
      have HTV := Lib.hid (show gv x = true by rw [hx.out]; exact gv_tgr HV.out)
      have HTT := Lib.hid (show tgr x = g by rw [hx.out]; exact tgr_tgr HV.out)
      have HIO := Lib.hid (fun n : Int => (show edgesOut g n = edgesIn x n by rw [hx.out]; exact out_in HV.out n))
      clear hO
      go_wp2_with fail
      refine Calls.mono (graphSame_any x x _ _ W6.heap.size W6 (((KW6.out W6 (r0)).1.2.2).to (Below.refl _ _) (by have := (r0).size; omega)) (((KW6.out W6 (r0)).2.2).to (Below.refl _ _) (by have := (r0).size; omega)) (Nat.le_refl _)) ?_
      rw [gs_refl]
      rintro e wc1 ⟨rfl, hb⟩
      have rwc1 : Below W6.heap.size W6 wc1 := (r0).trans (hb.mono (r0).size)
      have swc1 := rwc1.size
      clear hb
      clear y0a y0b y1a y1b y2a y2b
      obtain ⟨⟨⟨⟨y0a, y0b⟩, _⟩, ⟨y1a, y1b⟩, _⟩, ⟨y2a, y2b⟩, _⟩ := KW6.out wc1 (rwc1)
      go_wp2_with fail
      refine Calls.mono (turnGraph_any x _  wc1.heap.size wc1 (((KW6.out wc1 (rwc1)).1.2.2).to (Below.refl _ _) (by have := (rwc1).size; omega)) (Nat.le_refl _) HX.out) ?_
      rw [HTV.out, HTT.out]
      rintro e wd ⟨vwd, Fwd, Gwd, rfl, hwd, hb⟩
      have rwd : Below W6.heap.size W6 wd := (rwc1).trans (hb.mono (rwc1).size)
      have swd := rwd.size
      clear hb
      obtain ⟨pwd, cwd, qwd, dwd, rfl⟩ := Gr.At.form' hwd.at
      have Hwd := Lib.hid hwd.at
      clear hwd
      clear y0a y0b y1a y1b y2a y2b
      go_upto_region 9 with fail
      obtain ⟨W8, eW8⟩ : ∃ E, E = wd.alloc (.cells #[.slice pwd g.ns.length cwd, .slice qwd g.es.length dwd] 55) := ⟨_, rfl⟩
      have lW8 : Below wd.heap.size wd W8 := by rw [eW8]; exact (Below.refl _ _).alloc (Nat.le_refl _) _
      have zW8 : wd.heap.size < W8.heap.size := by rw [eW8]; simp
      have CW8 := Lib.hid (show (W8.cell? ⟨wd.heap.size, 0, none⟩ = some (.slice pwd g.ns.length cwd) ∧ W8.cell? ⟨wd.heap.size, 1, none⟩ = some (.slice qwd g.es.length dwd)) by rw [eW8]; exact ⟨by simp [go_sem], by simp [go_sem]⟩)
      rw [← eW8]
      clear eW8
      have rW8 : Below W6.heap.size W6 W8 := rwd.trans (lW8.mono swd)
      have sW8 := rW8.size
      have KW8 := Lib.hid (fun (E : World) (hE : Below W8.heap.size W8 E) => And.intro (KW6.out E (rW8.trans (hE.mono sW8))) (show (E.cell? ⟨wd.heap.size, 0, none⟩ = some (.slice pwd g.ns.length cwd) ∧ E.cell? ⟨wd.heap.size, 1, none⟩ = some (.slice qwd g.es.length dwd)) ∧ (g : Gr).At W8.heap.size E (.agg #[.slice pwd g.ns.length cwd, .slice qwd g.es.length dwd]) from ⟨⟨keepc hE zW8 CW8.out.1, keepc hE zW8 CW8.out.2⟩, (Hwd.out.to lW8 (Nat.le_refl _)).to (hE.mono (by omega)) (by omega)⟩))
      have BW8 := Lib.hid ((HBW.out.trans (rW8.mono HBW.out.size)) : Below w.heap.size w W8)
      clear CW8 Hwd HBW rW8 lW8 rwd swd r0 KW6
      have HBW := BW8
      clear BW8
      have r0 := Below.refl W8.heap.size W8
      obtain ⟨⟨⟨⟨⟨y0a, y0b⟩, _⟩, ⟨y1a, y1b⟩, _⟩, ⟨y2a, y2b⟩, _⟩, ⟨y3a, y3b⟩, _⟩ := KW8.out W8 (r0)
      go_wp2_with fail
      go_loopw [10] (fun i wr => ∃ k : Nat, k ≤ g.ns.length ∧ i = .int .i64 k ∧ Below W8.heap.size W8 wr) (fun i _ => g.ns.length - (intOf i).toNat)
      case atStart => exact ⟨0, Nat.zero_le _, rfl, r0⟩
      case round =>
        clear y0a y0b y1a y1b y2a y2b y3a y3b
        obtain ⟨k, hk, rfl, hbr⟩ := hrel
        have zwr := hbr.size
        obtain ⟨⟨⟨⟨⟨y0a, y0b⟩, _⟩, ⟨y1a, y1b⟩, _⟩, ⟨y2a, y2b⟩, _⟩, ⟨y3a, y3b⟩, _⟩ := KW8.out wr (hbr)
        have hm : g.ns.length ≤ 1010 := HLEN.out.1
        by_cases hlt : k < g.ns.length
        · have q0 : decide ((k : Int) < (g.ns.length : Int)) = true := decide_eq_true (by omega)
          have zW0 : W.heap.size ≤ wr.heap.size := by omega
          have zW5' : W5.heap.size ≤ wr.heap.size := by omega
          have r1 := Below.refl wr.heap.size wr
          have KS := Lib.hid (fun (E : World) (hE : Below wr.heap.size wr E) => And.intro ((KW8.out E (hbr.trans (hE.mono zwr))).1.1.1.1) ((KW8.out E (hbr.trans (hE.mono zwr))).1.1.2.1))
          go_upto_region 12 with fail
          refine wp_region_held_drew (S := fun w' => (w'.cell? ⟨wx.heap.size, 0, none⟩ = some (.slice pg g.ns.length cg) ∧ w'.cell? ⟨wx.heap.size, 1, none⟩ = some (.slice qg g.es.length dg)) ∧ (w'.cell? ⟨wa.heap.size, 0, none⟩ = some (.slice pwa x.ns.length cwa) ∧ w'.cell? ⟨wa.heap.size, 1, none⟩ = some (.slice qwa x.es.length dwa))) (by kernel_rfl) ?_ (fun hHeld => ?_)
          · exact KS.out _ (show Below wr.heap.size wr _ by ((repeat (first | with_reducible assumption | with_reducible exact Below.refl _ _ | refine Below.setCell ?_ (by (first | omega | (simp; omega) | (simp; done) | fail "sml")) _ | refine Below.drew ?_ | refine Below.alloc ?_ (by (first | omega | (simp; omega) | (simp; done) | fail "sml")) _)); first | done | fail "chs"))
          (refine takeL (i := 0) (v := ?_) rfl (by kernel_rfl) (by kernel_rfl) (by kernel_rfl) (fun _ _ _ h => h) (Or.inl ⟨by kernel_rfl, ?_⟩) (by assumption) ?_; rotate_left; (focus (intro w hSw; (try dsimp only at hSw); go_simp; first | done | with_reducible rfl | fail "take")); (try simp only [Act.put, List.setIfInBounds_toArray, List.set_cons_zero, List.set_cons_succ]))
          (refine takeL (i := 1) (v := ?_) rfl (by kernel_rfl) (by kernel_rfl) (by kernel_rfl) (fun _ _ _ h => h) (Or.inl ⟨by kernel_rfl, ?_⟩) (by assumption) ?_; rotate_left; (focus (intro w hSw; (try dsimp only at hSw); go_simp; first | done | with_reducible rfl | fail "take")); (try simp only [Act.put, List.setIfInBounds_toArray, List.set_cons_zero, List.set_cons_succ]))
          (refine takeL (i := 3) (v := ?_) rfl (by kernel_rfl) (by kernel_rfl) (by kernel_rfl) (fun _ _ _ h => h) (Or.inl ⟨by kernel_rfl, ?_⟩) (by assumption) ?_; rotate_left; (focus (intro w hSw; (try dsimp only at hSw); go_simp; first | done | with_reducible rfl | fail "take")); (try simp only [Act.put, List.setIfInBounds_toArray, List.set_cons_zero, List.set_cons_succ]))
          (refine takeL (i := 4) (v := ?_) rfl (by kernel_rfl) (by kernel_rfl) (by kernel_rfl) (fun _ _ _ h => h) (Or.inl ⟨by kernel_rfl, ?_⟩) (by assumption) ?_; rotate_left; (focus (intro w hSw; (try dsimp only at hSw); go_simp; first | done | with_reducible rfl | fail "take")); (try simp only [Act.put, List.setIfInBounds_toArray, List.set_cons_zero, List.set_cons_succ]))
          (refine callL (i := 2) rfl (by kernel_rfl) (by kernel_rfl) (fun K hK => ?_); go_simp)
          go_at_call 40
          refine Calls.mono (outEdges_any g _ _ W.heap.size _ ((KW8.out _ (hbr.trans (((show Below wr.heap.size wr _ by ((repeat (first | with_reducible assumption | with_reducible exact Below.refl _ _ | refine Below.setCell ?_ (by (first | omega | (simp; omega) | (simp; done) | fail "sml")) _ | refine Below.drew ?_ | refine Below.alloc ?_ (by (first | omega | (simp; omega) | (simp; done) | fail "sml")) _)); first | done | fail "chs"))).mono zwr))).1.1.1.2) (Nat.le_trans zW0 ((show Below wr.heap.size wr _ by ((repeat (first | with_reducible assumption | with_reducible exact Below.refl _ _ | refine Below.setCell ?_ (by (first | omega | (simp; omega) | (simp; done) | fail "sml")) _ | refine Below.drew ?_ | refine Below.alloc ?_ (by (first | omega | (simp; omega) | (simp; done) | fail "sml")) _)); first | done | fail "chs"))).size) HOK.out) ?_
          rintro en wa ⟨vs, Fs, rfl, hs, _, hb⟩
          have rwa := Below.trans (show Below wr.heap.size wr _ by ((repeat (first | with_reducible assumption | with_reducible exact Below.refl _ _ | refine Below.setCell ?_ (by (first | omega | (simp; omega) | (simp; done) | fail "sml")) _ | refine Below.drew ?_ | refine Below.alloc ?_ (by (first | omega | (simp; omega) | (simp; done) | fail "sml")) _)); first | done | fail "chs")) (hb.mono (by (first | omega | (simp; omega) | (simp; done) | fail "sml")))
          have zwa := rwa.size
          have HS := Lib.hid hs
          obtain ⟨ps, cs, rfl⟩ := hs.sl.form
          clear hs
          clear hb
          go_wp2_with fail
          refine hK.out _ _ (KS.out _ (show Below wr.heap.size wr _ by ((repeat (first | with_reducible assumption | with_reducible exact Below.refl _ _ | refine Below.setCell ?_ (by (first | omega | (simp; omega) | (simp; done) | fail "sml")) _ | refine Below.drew ?_ | refine Below.alloc ?_ (by (first | omega | (simp; omega) | (simp; done) | fail "sml")) _)); first | done | fail "chs"))) (fun hHeld => ?_)
          clear hK K
          (try simp only [Act.put, List.setIfInBounds_toArray, List.set_cons_zero, List.set_cons_succ])
          (refine callL (i := 5) rfl (by kernel_rfl) (by kernel_rfl) (fun K hK => ?_); go_simp)
          go_at_call 41
          refine Calls.mono (inEdges_any x _ _ W5.heap.size _ ((KW8.out _ (hbr.trans (((show Below wr.heap.size wr _ by ((repeat (first | with_reducible assumption | with_reducible exact Below.refl _ _ | refine Below.setCell ?_ (by (first | omega | (simp; omega) | (simp; done) | fail "sml")) _ | refine Below.drew ?_ | refine Below.alloc ?_ (by (first | omega | (simp; omega) | (simp; done) | fail "sml")) _)); first | done | fail "chs"))).mono zwr))).1.1.2.2) (Nat.le_trans zW5' ((show Below wr.heap.size wr _ by ((repeat (first | with_reducible assumption | with_reducible exact Below.refl _ _ | refine Below.setCell ?_ (by (first | omega | (simp; omega) | (simp; done) | fail "sml")) _ | refine Below.drew ?_ | refine Below.alloc ?_ (by (first | omega | (simp; omega) | (simp; done) | fail "sml")) _)); first | done | fail "chs"))).size) HX.out) ?_
          rintro en wb ⟨vq, Fq, rfl, hs, _, hb⟩
          have rwb := Below.trans (show Below wr.heap.size wr _ by ((repeat (first | with_reducible assumption | with_reducible exact Below.refl _ _ | refine Below.setCell ?_ (by (first | omega | (simp; omega) | (simp; done) | fail "sml")) _ | refine Below.drew ?_ | refine Below.alloc ?_ (by (first | omega | (simp; omega) | (simp; done) | fail "sml")) _)); first | done | fail "chs")) (hb.mono (by (first | omega | (simp; omega) | (simp; done) | fail "sml")))
          have zwb := rwb.size
          have HQ := Lib.hid hs
          obtain ⟨pq, cq, rfl⟩ := hs.sl.form
          clear hs
          have HS2 := Lib.hid (HS.out.below hb)
          clear hb
          go_wp2_with fail
          refine hK.out _ _ (KS.out _ (show Below wr.heap.size wr _ by ((repeat (first | with_reducible assumption | with_reducible exact Below.refl _ _ | refine Below.setCell ?_ (by (first | omega | (simp; omega) | (simp; done) | fail "sml")) _ | refine Below.drew ?_ | refine Below.alloc ?_ (by (first | omega | (simp; omega) | (simp; done) | fail "sml")) _)); first | done | fail "chs"))) (fun hHeld => ?_)
          clear hK K
          (try simp only [Act.put, List.setIfInBounds_toArray, List.set_cons_zero, List.set_cons_succ])
          (refine callL (i := 6) rfl (by kernel_rfl) (by kernel_rfl) (fun K hK => ?_); go_simp)
          go_at_call 39
          refine Calls.mono (gpInts_any (edgesOut g k) (edgesIn x k) _ _ wb.heap.size wb HS2.out.sl HQ.out.sl (Nat.le_refl _)) ?_
          rw [HIO.out, ints_refl]
          rintro en we ⟨rfl, hb⟩
          have rwe := Below.trans (show Below wr.heap.size wr _ by ((repeat (first | with_reducible assumption | with_reducible exact Below.refl _ _ | refine Below.setCell ?_ (by (first | omega | (simp; omega) | (simp; done) | fail "sml")) _ | refine Below.drew ?_ | refine Below.alloc ?_ (by (first | omega | (simp; omega) | (simp; done) | fail "sml")) _)); first | done | fail "chs")) (hb.mono (by (first | omega | (simp; omega) | (simp; done) | fail "sml")))
          have zwe := rwe.size
          clear hb
          go_wp2_with fail
          refine hK.out _ _ (KS.out _ (show Below wr.heap.size wr _ by ((repeat (first | with_reducible assumption | with_reducible exact Below.refl _ _ | refine Below.setCell ?_ (by (first | omega | (simp; omega) | (simp; done) | fail "sml")) _ | refine Below.drew ?_ | refine Below.alloc ?_ (by (first | omega | (simp; omega) | (simp; done) | fail "sml")) _)); first | done | fail "chs"))) (fun hHeld => ?_)
          clear hK K
          (try simp only [Act.put, List.setIfInBounds_toArray, List.set_cons_zero, List.set_cons_succ])
          (refine takeL (i := 7) (v := ?_) rfl (by kernel_rfl) (by kernel_rfl) (by kernel_rfl) (fun _ _ _ h => h) (Or.inl ⟨by kernel_rfl, ?_⟩) (by assumption) ?_; rotate_left; (focus (intro w hSw; (try dsimp only at hSw); go_simp; first | done | with_reducible rfl | fail "take")); (try simp only [Act.put, List.setIfInBounds_toArray, List.set_cons_zero, List.set_cons_succ]))
          refine wpAnyH_done (by kernel_rfl) ?_ _
          go_wp2_with fail

          go_roundw
          case rel => exact ⟨k + 1, by omega, by go_num, hbr.trans ((show Below wr.heap.size wr _ by ((repeat (first | with_reducible assumption | with_reducible exact Below.refl _ _ | refine Below.setCell ?_ (by (first | omega | (simp; omega) | (simp; done) | fail "sml")) _ | refine Below.drew ?_ | refine Below.alloc ?_ (by (first | omega | (simp; omega) | (simp; done) | fail "sml")) _)); first | done | fail "chs")).mono zwr)⟩
          case measure => simp [intOf]; omega
        · have q0 : decide ((k : Int) < (g.ns.length : Int)) = false := decide_eq_false (by omega)
          go_wp2_with fail
          refine Calls.mono (graphValid_any x _ wr.heap.size wr (((KW8.out wr (hbr)).1.1.2.2).to (Below.refl _ _) (by have := (hbr).size; omega)) (Nat.le_refl _) HX.out) ?_
          rw [HTV.out]
          rintro e we ⟨rfl, hb⟩
          have rwe : Below W8.heap.size W8 we := (hbr).trans (hb.mono (hbr).size)
          have swe := rwe.size
          clear hb
          clear y0a y0b y1a y1b y2a y2b y3a y3b
          obtain ⟨⟨⟨⟨⟨y0a, y0b⟩, _⟩, ⟨y1a, y1b⟩, _⟩, ⟨y2a, y2b⟩, _⟩, ⟨y3a, y3b⟩, _⟩ := KW8.out we (rwe)
          go_wp2_with fail
          refine Calls.mono (graphSame_any g g _ _ we.heap.size we (((KW8.out we (rwe)).2.2).to (Below.refl _ _) (by have := (rwe).size; omega)) (((KW8.out we (rwe)).1.1.1.2).to (Below.refl _ _) (by have := (rwe).size; omega)) (Nat.le_refl _)) ?_
          rw [gs_refl]
          rintro e wf ⟨rfl, hb⟩
          have rwf : Below W8.heap.size W8 wf := (rwe).trans (hb.mono (rwe).size)
          have swf := rwf.size
          clear hb
          clear y0a y0b y1a y1b y2a y2b y3a y3b
          obtain ⟨⟨⟨⟨⟨y0a, y0b⟩, _⟩, ⟨y1a, y1b⟩, _⟩, ⟨y2a, y2b⟩, _⟩, ⟨y3a, y3b⟩, _⟩ := KW8.out wf (rwf)
          go_wp2_with fail
          go_ret
          exact ⟨rfl, HBW.out.trans ((rwf).mono HBW.out.size)⟩


end Go.Proofs.Ytchhobphockhhaa
