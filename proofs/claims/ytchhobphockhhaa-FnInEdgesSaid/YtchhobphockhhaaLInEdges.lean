/- The walk of FnInEdges. -/
import Derived.Test.YtchhobphockhhaaL1A
import Derived.Test.YtchhobphockhhaaELaw
import Derived.Test.YtchhobphockhhaaGSame2
import Derived.Test.YtchhobphockhhaaSEdges
import Derived.Test.YtchhobphockhhaaTurn
import Derived.Test.YtchhobphockhhaaGpInts
import Derived.Test.YtchhobphockhhaaReg
namespace Go.Proofs.Ytchhobphockhhaa
open Go.RowKit

set_option maxRecDepth 100000 in
set_option maxHeartbeats 16000000 in
theorem lawInEdges (zs : List Int) (v : Value) (w : World) (hv : Sl 1 byCells w.heap.size w v zs) (hz : ∀ z ∈ zs, 0 ≤ z ∧ z ≤ 255) :
    Calls Try.prog 14 #[v] w fun e w' => e = .returned (.bool true) ∧ Below w.heap.size w w' := by
  obtain ⟨p, cap, rfl⟩ := hv.form
  have hm := hv.max
  unfold maxLen at hm
  by_cases hb : (1048576 : Int) < zs.length
  · go_enter Try.func14, Try.ntmps14
    go_wp2_with fail
    go_ret
    exact ⟨rfl, Below.refl _ _⟩
  · go_enter Try.func14, Try.ntmps14
    go_wp2_with fail
    refine (drawInEdges_any zs _ w.heap.size _ hv (Nat.le_refl _) hz).mono ?_
    rintro e wx ⟨g, vg, Fg, n, rfl, hg, hn0, hn1, hb1⟩
    clear hv
    obtain ⟨pg, cg, qg, dg, rfl⟩ := hg.1.form
    have Hg := Lib.hid hg.1.at
    have HB1 := Lib.hid hb1
    have HOK := Lib.hid hg.2.2.1
    have HLEN := Lib.hid hg.2.2.2
    clear hg hb1
    go_upto_region 4 with fail
    obtain ⟨W, eW⟩ : ∃ E, E = (wx).alloc (.cells #[.slice pg g.ns.length cg, .slice qg g.es.length dg] 55) := ⟨_, rfl⟩
    have zW : wx.heap.size < W.heap.size := by rw [eW]; simp
    have hbW : Below wx.heap.size wx W := by rw [eW]; exact (Below.refl _ _).alloc (Nat.le_refl _) _
    have HC := Lib.hid (show (W.cell? ⟨wx.heap.size, 0, none⟩ = some (.slice pg g.ns.length cg) ∧ W.cell? ⟨wx.heap.size, 1, none⟩ = some (.slice qg g.es.length dg)) by rw [eW]; exact ⟨by simp [go_sem], by simp [go_sem]⟩)
    rw [← eW]
    clear eW
    have HK := Lib.hid (fun (E : World) (hE : Below W.heap.size W E) => And.intro (show (E.cell? ⟨wx.heap.size, 0, none⟩ = some (.slice pg g.ns.length cg) ∧ E.cell? ⟨wx.heap.size, 1, none⟩ = some (.slice qg g.es.length dg)) from ⟨keepc hE (by omega) HC.out.1, keepc hE (by omega) HC.out.2⟩) (show (g : Gr).At W.heap.size E (.agg #[.slice pg g.ns.length cg, .slice qg g.es.length dg]) from (Hg.out.to hbW (Nat.le_refl _)).to (hE.mono (by omega)) (by omega)))
    have HBW := Lib.hid ((HB1.out.trans (hbW.mono HB1.out.size)) : Below w.heap.size w W)
    clear hbW HC HB1 Hg
    have r0 := Below.refl W.heap.size W
    obtain ⟨⟨y0a, y0b⟩, _⟩ := HK.out W (r0)
    obtain ⟨O, hO⟩ : ∃ O, RowKit.Hid (O = gv g) := ⟨_, Lib.hid rfl⟩
    obtain ⟨L, hL⟩ : ∃ L, RowKit.Hid (L = edgesIn g n) := ⟨_, Lib.hid rfl⟩
    go_wp2_with fail
    refine Calls.mono (inEdges_any g _ n W.heap.size W (((HK.out W (r0)).2).to (Below.refl _ _) (by have := (r0).size; omega)) (Nat.le_refl _) HOK.out) ?_
    rw [← hL.out]
    rintro e wa ⟨vl, Fl, rfl, hl, _, hb⟩
    have rwa : Below W.heap.size W wa := (r0).trans (hb.mono (r0).size)
    have swa := rwa.size
    clear hb
    obtain ⟨pl, cl, rfl⟩ := hl.sl.form
    have HL0 := Lib.hid hl.sl
    have HL := Lib.hid (fun (E : World) (hE : Below wa.heap.size wa E) => (show Sl 1 intCells wa.heap.size E (.slice pl L.length cl) L from HL0.out.below hE))
    clear hl HL0
    clear y0a y0b
    obtain ⟨⟨y0a, y0b⟩, _⟩ := HK.out wa (rwa)
    go_wp2_with fail
    refine Calls.mono (specInEdges_any g _ n wa.heap.size wa (((HK.out wa (rwa)).2).to (Below.refl _ _) (by have := (rwa).size; omega)) (Nat.le_refl _) HOK.out) ?_
    rw [← hL.out]
    rintro e wb ⟨vwb, Fwb, rfl, hwb, _, hb⟩
    have rwb : Below W.heap.size W wb := (rwa).trans (hb.mono (rwa).size)
    have swb := rwb.size
    have jwb : Below wa.heap.size wa wb := hb
    clear hb
    obtain ⟨pwb, cwb, rfl⟩ := hwb.sl.form
    have Hwb := Lib.hid hwb.sl
    clear hwb
    clear y0a y0b
    obtain ⟨⟨y0a, y0b⟩, _⟩ := HK.out wb (rwb)
    go_wp2_with fail
    refine Calls.mono (gpInts_any L L _ _ wb.heap.size wb ((HL.out wb (jwb)).mono (jwb).size) Hwb.out (Nat.le_refl _)) ?_
    rw [ints_refl]
    rintro e wc1 ⟨rfl, hb⟩
    have rwc1 : Below W.heap.size W wc1 := (rwb).trans (hb.mono (rwb).size)
    have swc1 := rwc1.size
    have jwc1 : Below wa.heap.size wa wc1 := jwb.trans (hb.mono jwb.size)
    clear hb
    clear y0a y0b
    obtain ⟨⟨y0a, y0b⟩, _⟩ := HK.out wc1 (rwc1)
    go_wp2_with fail
    refine Calls.mono (graphValid_any g _ wc1.heap.size wc1 (((HK.out wc1 (rwc1)).2).to (Below.refl _ _) (by have := (rwc1).size; omega)) (Nat.le_refl _) HOK.out) ?_
    rw [← hO.out]
    rintro e wd ⟨rfl, hb⟩
    have rwd : Below W.heap.size W wd := (rwc1).trans (hb.mono (rwc1).size)
    have swd := rwd.size
    have jwd : Below wa.heap.size wa wd := jwc1.trans (hb.mono jwc1.size)
    clear hb
    clear y0a y0b
    cases O with
    | false =>
      have HE := Lib.hid (show L = [] by rw [hL.out]; exact in_none hO.out.symm n)
      have hle : ((L.length : Int) == 0) = true := by rw [HE.out]; rfl
      obtain ⟨⟨y0a, y0b⟩, _⟩ := HK.out wd (rwd)
      go_wp2_with fail
      refine Calls.mono (specInEdges_any g _ n wd.heap.size wd (((HK.out wd (rwd)).2).to (Below.refl _ _) (by have := (rwd).size; omega)) (Nat.le_refl _) HOK.out) ?_
      rw [← hL.out]
      rintro e we ⟨vwe, Fwe, rfl, hwe, _, hb⟩
      have rwe : Below W.heap.size W we := (rwd).trans (hb.mono (rwd).size)
      have swe := rwe.size
      have jwe : Below wa.heap.size wa we := jwd.trans (hb.mono jwd.size)
      clear hb
      obtain ⟨pwe, cwe, rfl⟩ := hwe.sl.form
      have Hwe := Lib.hid hwe.sl
      clear hwe
      clear y0a y0b
      obtain ⟨⟨y0a, y0b⟩, _⟩ := HK.out we (rwe)
      go_wp2_with fail
      refine Calls.mono (gpInts_any L L _ _ we.heap.size we ((HL.out we (jwe)).mono (jwe).size) Hwe.out (Nat.le_refl _)) ?_
      rw [ints_refl]
      rintro e wf ⟨rfl, hb⟩
      have rwf : Below W.heap.size W wf := (rwe).trans (hb.mono (rwe).size)
      have swf := rwf.size
      have jwf : Below wa.heap.size wa wf := jwe.trans (hb.mono jwe.size)
      clear hb
      clear y0a y0b
      obtain ⟨⟨y0a, y0b⟩, _⟩ := HK.out wf (rwf)
      go_wp2_with fail
      go_ret
      exact ⟨rfl, HBW.out.trans ((rwf).mono HBW.out.size)⟩

    | true =>
      have HV := Lib.hid hO.out.symm
      obtain ⟨⟨y0a, y0b⟩, _⟩ := HK.out wd (rwd)
      obtain ⟨x, hx⟩ : ∃ x, RowKit.Hid (x = tgr g) := ⟨_, Lib.hid rfl⟩
      go_wp2_with fail
      refine Calls.mono (turnGraph_any g _  wd.heap.size wd (((HK.out wd (rwd)).2).to (Below.refl _ _) (by have := (rwd).size; omega)) (Nat.le_refl _) HOK.out) ?_
      rw [HV.out, ← hx.out]
      rintro e we ⟨vwe, Fwe, Gwe, rfl, hwe, hb⟩
      have rwe : Below W.heap.size W we := (rwd).trans (hb.mono (rwd).size)
      have swe := rwe.size
      have jwe : Below wa.heap.size wa we := jwd.trans (hb.mono jwd.size)
      clear hb
      obtain ⟨pwe, cwe, qwe, dwe, rfl⟩ := Gr.At.form' hwe.at
      have Hwe := Lib.hid hwe.at
      clear hwe
      clear y0a y0b
      go_upto_region 8 with fail
      obtain ⟨W8, eW8⟩ : ∃ E, E = we.alloc (.cells #[.slice pwe x.ns.length cwe, .slice qwe x.es.length dwe] 55) := ⟨_, rfl⟩
      have lW8 : Below we.heap.size we W8 := by rw [eW8]; exact (Below.refl _ _).alloc (Nat.le_refl _) _
      have zW8 : we.heap.size < W8.heap.size := by rw [eW8]; simp
      have CW8 := Lib.hid (show (W8.cell? ⟨we.heap.size, 0, none⟩ = some (.slice pwe x.ns.length cwe) ∧ W8.cell? ⟨we.heap.size, 1, none⟩ = some (.slice qwe x.es.length dwe)) by rw [eW8]; exact ⟨by simp [go_sem], by simp [go_sem]⟩)
      rw [← eW8]
      clear eW8
      have rW8 : Below W.heap.size W W8 := rwe.trans (lW8.mono swe)
      have sW8 := rW8.size
      have KW8 := Lib.hid (fun (E : World) (hE : Below W8.heap.size W8 E) => And.intro (HK.out E (rW8.trans (hE.mono sW8))) (show (E.cell? ⟨we.heap.size, 0, none⟩ = some (.slice pwe x.ns.length cwe) ∧ E.cell? ⟨we.heap.size, 1, none⟩ = some (.slice qwe x.es.length dwe)) ∧ (x : Gr).At W8.heap.size E (.agg #[.slice pwe x.ns.length cwe, .slice qwe x.es.length dwe]) from ⟨⟨keepc hE zW8 CW8.out.1, keepc hE zW8 CW8.out.2⟩, (Hwe.out.to lW8 (Nat.le_refl _)).to (hE.mono (by omega)) (by omega)⟩))
      have BW8 := Lib.hid ((HBW.out.trans (rW8.mono HBW.out.size)) : Below w.heap.size w W8)
      have jW8 : Below wa.heap.size wa W8 := jwe.trans (lW8.mono jwe.size)
      clear CW8 Hwe HBW rW8 lW8 rwe swe r0 HK
      have HBW := BW8
      clear BW8
      have r0 := Below.refl W8.heap.size W8
      have HJ := Lib.hid jW8
      have sj := jW8.size
      obtain ⟨⟨⟨y0a, y0b⟩, _⟩, ⟨y1a, y1b⟩, _⟩ := KW8.out W8 (r0)
      go_wp2_with fail
      go_loopw [8] (fun i wr => ∃ k : Nat, k ≤ L.length ∧ i = .int .i64 k ∧ Below W8.heap.size W8 wr) (fun i _ => L.length - (intOf i).toNat)
      case atStart => exact ⟨0, Nat.zero_le _, rfl, r0⟩
      case round =>
        clear y0a y0b y1a y1b
        obtain ⟨k, hk, rfl, hbr⟩ := hrel
        have zwr := hbr.size
        have jr := HJ.out.trans (hbr.mono sj)
        have hLm : (L.length : Int) ≤ 9223372036854775807 := by have := (HL.out _ jr).max; unfold maxLen at this; omega
        by_cases hlt : k < L.length
        · have q0 : decide ((k : Int) < (L.length : Int)) = true := decide_eq_true (by omega)
          have hlt2 : (k : Int) < (L.length : Int) := by omega
          obtain ⟨j, hj1, hj2, hj3⟩ := in_at HV.out hL.out hlt
          obtain ⟨bl, ol, el, hb1, d0⟩ := (HL.out _ jr).it hlt
          rw [hj1] at d0
          obtain ⟨v0, v1, e1, a1, a2⟩ := (KW8.out wr (hbr)).1.2
          cases e1
          obtain ⟨be, oe, ee, hb2, _, c1, _, _⟩ := a2.ed hj2
          rw [hj3] at c1
          clear a1 a2 hj3
          have hb1 : bl < wr.heap.size := by have := jr.size; omega
          have hb2 : be < wr.heap.size := by omega
          have hbg : wx.heap.size < wr.heap.size := by omega
          obtain ⟨⟨⟨y0a, y0b⟩, _⟩, ⟨y1a, y1b⟩, _⟩ := KW8.out wr (hbr)
          clear y1a y1b
          have r1 := Below.refl wr.heap.size wr
          have hj2' : (j : Int) < (g.es.length : Int) := by omega
          have g7 : (n != n) = false := by simp
          by_cases hk0 : k = 0
          · have q1 : decide ((0 : Int) < (k : Int)) = false := decide_eq_false (by omega)
            have q1' : (0 < k) = False := eq_false (by omega)
            clear hk0
            subst el ee
            have KS := Lib.hid (fun (E : World) (hE : Below wr.heap.size wr E) => (show (E.cell? ⟨wx.heap.size, 0, none⟩ = some (.slice pg g.ns.length cg) ∧ E.cell? ⟨wx.heap.size, 1, none⟩ = some (.slice (some ⟨be, oe, none⟩) g.es.length dg)) ∧ E.cell? ⟨be, oe + j * 4 + 1, none⟩ = some (.int .i64 n) ∧ E.cell? ⟨bl, ol + k, none⟩ = some (.int .i64 (j : Int)) from ⟨⟨keepc hE hbg y0a, keepc hE hbg y0b⟩, keepc hE hb2 c1, keepc hE hb1 d0⟩))
            clear y0a y0b c1 d0
            go_upto_region 11 with fail
            refine wp_region_held_drew (S := fun w' => (w'.cell? ⟨wx.heap.size, 0, none⟩ = some (.slice pg g.ns.length cg) ∧ w'.cell? ⟨wx.heap.size, 1, none⟩ = some (.slice (some ⟨be, oe, none⟩) g.es.length dg)) ∧ w'.cell? ⟨be, oe + j * 4 + 1, none⟩ = some (.int .i64 n) ∧ w'.cell? ⟨bl, ol + k, none⟩ = some (.int .i64 (j : Int))) (by kernel_rfl) ?_ (fun hHeld => ?_)
            · exact KS.out _ (show Below wr.heap.size wr _ by ((repeat (first | with_reducible assumption | with_reducible exact Below.refl _ _ | refine Below.setCell ?_ (by (first | omega | (simp; omega) | (simp; done) | fail "sml")) _ | refine Below.drew ?_ | refine Below.alloc ?_ (by (first | omega | (simp; omega) | (simp; done) | fail "sml")) _)); first | done | fail "chs"))
            (refine takeL (i := 0) (v := ?_) rfl (by kernel_rfl) (by kernel_rfl) (by kernel_rfl) (fun _ _ _ h => h) (Or.inl ⟨by kernel_rfl, ?_⟩) (by assumption) ?_; rotate_left; (focus (intro w hSw; (try dsimp only at hSw); go_simp; first | done | with_reducible rfl | fail "take")); (try simp only [Act.put, List.setIfInBounds_toArray, List.set_cons_zero, List.set_cons_succ]))
            (refine takeL (i := 1) (v := ?_) rfl (by kernel_rfl) (by kernel_rfl) (by kernel_rfl) (fun _ _ _ h => h) (Or.inl ⟨by kernel_rfl, ?_⟩) (by assumption) ?_; rotate_left; (focus (intro w hSw; (try dsimp only at hSw); go_simp; first | done | with_reducible rfl | fail "take")); (try simp only [Act.put, List.setIfInBounds_toArray, List.set_cons_zero, List.set_cons_succ]))
            (refine takeL (i := 2) (v := ?_) rfl (by kernel_rfl) (by kernel_rfl) (by kernel_rfl) (fun _ _ _ h => h) (Or.inl ⟨by kernel_rfl, ?_⟩) (by assumption) ?_; rotate_left; (focus (intro w hSw; (try dsimp only at hSw); go_simp; first | done | with_reducible rfl | fail "take")); (try simp only [Act.put, List.setIfInBounds_toArray, List.set_cons_zero, List.set_cons_succ]))
            (refine takeL (i := 3) (v := ?_) rfl (by kernel_rfl) (by kernel_rfl) (by kernel_rfl) (fun _ _ _ h => h) (Or.inl ⟨by kernel_rfl, ?_⟩) (by assumption) ?_; rotate_left; (focus (intro w hSw; (try dsimp only at hSw); go_simp; first | done | with_reducible rfl | fail "take")); (try simp only [Act.put, List.setIfInBounds_toArray, List.set_cons_zero, List.set_cons_succ]))
            (refine takeL (i := 4) (v := ?_) rfl (by kernel_rfl) (by kernel_rfl) (by kernel_rfl) (fun _ _ _ h => h) (Or.inl ⟨by kernel_rfl, ?_⟩) (by assumption) ?_; rotate_left; (focus (intro w hSw; (try dsimp only at hSw); go_simp; first | done | with_reducible rfl | fail "take")); (try simp only [Act.put, List.setIfInBounds_toArray, List.set_cons_zero, List.set_cons_succ]))
            (refine takeL (i := 5) (v := ?_) rfl (by kernel_rfl) (by kernel_rfl) (by kernel_rfl) (fun _ _ _ h => h) (Or.inl ⟨by kernel_rfl, ?_⟩) (by assumption) ?_; rotate_left; (focus (intro w hSw; (try dsimp only at hSw); go_simp; first | done | with_reducible rfl | fail "take")); (try simp only [Act.put, List.setIfInBounds_toArray, List.set_cons_zero, List.set_cons_succ]))
            (refine takeL (i := 6) (v := ?_) rfl (by kernel_rfl) (by kernel_rfl) (by kernel_rfl) (fun _ _ _ h => h) (Or.inl ⟨by kernel_rfl, ?_⟩) (by assumption) ?_; rotate_left; (focus (intro w hSw; (try dsimp only at hSw); go_simp; first | done | with_reducible rfl | fail "take")); (try simp only [Act.put, List.setIfInBounds_toArray, List.set_cons_zero, List.set_cons_succ]))
            (refine takeL (i := 7) (v := ?_) rfl (by kernel_rfl) (by kernel_rfl) (by kernel_rfl) (fun _ _ _ h => h) (Or.inl ⟨by kernel_rfl, ?_⟩) (by assumption) ?_; rotate_left; (focus (intro w hSw; (try dsimp only at hSw); go_simp; first | done | with_reducible rfl | fail "take")); (try simp only [Act.put, List.setIfInBounds_toArray, List.set_cons_zero, List.set_cons_succ]))
            (refine takeL (i := 8) (v := ?_) rfl (by kernel_rfl) (by kernel_rfl) (by kernel_rfl) (fun _ _ _ h => h) (Or.inl ⟨by kernel_rfl, ?_⟩) (by assumption) ?_; rotate_left; (focus (intro w hSw; (try dsimp only at hSw); go_simp; first | done | with_reducible rfl | fail "take")); (try simp only [Act.put, List.setIfInBounds_toArray, List.set_cons_zero, List.set_cons_succ]))
            (refine takeL (i := 9) (v := ?_) rfl (by kernel_rfl) (by kernel_rfl) (by kernel_rfl) (fun _ _ _ h => h) (Or.inl ⟨by kernel_rfl, ?_⟩) (by assumption) ?_; rotate_left; (focus (intro w hSw; (try dsimp only at hSw); go_simp; first | done | with_reducible rfl | fail "take")); (try simp only [Act.put, List.setIfInBounds_toArray, List.set_cons_zero, List.set_cons_succ]))
            (refine takeL (i := 10) (v := ?_) rfl (by kernel_rfl) (by kernel_rfl) (by kernel_rfl) (fun _ _ _ h => h) (Or.inl ⟨by kernel_rfl, ?_⟩) (by assumption) ?_; rotate_left; (focus (intro w hSw; (try dsimp only at hSw); go_simp; first | done | with_reducible rfl | fail "take")); (try simp only [Act.put, List.setIfInBounds_toArray, List.set_cons_zero, List.set_cons_succ]))
            (refine takeL (i := 11) (v := ?_) rfl (by kernel_rfl) (by kernel_rfl) (by kernel_rfl) (fun _ _ _ h => h) (Or.inl ⟨by kernel_rfl, ?_⟩) (by assumption) ?_; rotate_left; (focus (intro w hSw; (try dsimp only at hSw); go_simp; first | done | with_reducible rfl | fail "take")); (try simp only [Act.put, List.setIfInBounds_toArray, List.set_cons_zero, List.set_cons_succ]))
            (refine takeL (i := 12) (v := ?_) rfl (by kernel_rfl) (by kernel_rfl) (by kernel_rfl) (fun _ _ _ h => h) (Or.inl ⟨by kernel_rfl, ?_⟩) (by assumption) ?_; rotate_left; (focus (intro w hSw; (try dsimp only at hSw); go_simp; first | done | with_reducible rfl | fail "take")); (try simp only [Act.put, List.setIfInBounds_toArray, List.set_cons_zero, List.set_cons_succ]))
            (refine takeL (i := 13) (v := ?_) rfl (by kernel_rfl) (by kernel_rfl) (by kernel_rfl) (fun _ _ _ h => h) (Or.inl ⟨by kernel_rfl, ?_⟩) (by assumption) ?_; rotate_left; (focus (intro w hSw; (try dsimp only at hSw); go_simp; first | done | with_reducible rfl | fail "take")); (try simp only [Act.put, List.setIfInBounds_toArray, List.set_cons_zero, List.set_cons_succ]))
            (refine takeL (i := 14) (v := ?_) rfl (by kernel_rfl) (by kernel_rfl) (by kernel_rfl) (fun _ _ _ h => h) (Or.inl ⟨by kernel_rfl, ?_⟩) (by assumption) ?_; rotate_left; (focus (intro w hSw; (try dsimp only at hSw); go_simp; first | done | with_reducible rfl | fail "take")); (try simp only [Act.put, List.setIfInBounds_toArray, List.set_cons_zero, List.set_cons_succ]))
            (refine takeL (i := 15) (v := undef) rfl (by kernel_rfl) (by kernel_rfl) (by kernel_rfl) (fun _ _ _ h => h) (Or.inr ⟨by kernel_rfl, rfl⟩) (by assumption) ?_; (try simp only [Act.put, List.setIfInBounds_toArray, List.set_cons_zero, List.set_cons_succ]))
            (refine takeL (i := 16) (v := undef) rfl (by kernel_rfl) (by kernel_rfl) (by kernel_rfl) (fun _ _ _ h => h) (Or.inr ⟨by kernel_rfl, rfl⟩) (by assumption) ?_; (try simp only [Act.put, List.setIfInBounds_toArray, List.set_cons_zero, List.set_cons_succ]))
            (refine takeL (i := 17) (v := undef) rfl (by kernel_rfl) (by kernel_rfl) (by kernel_rfl) (fun _ _ _ h => h) (Or.inr ⟨by kernel_rfl, rfl⟩) (by assumption) ?_; (try simp only [Act.put, List.setIfInBounds_toArray, List.set_cons_zero, List.set_cons_succ]))
            (refine takeL (i := 18) (v := undef) rfl (by kernel_rfl) (by kernel_rfl) (by kernel_rfl) (fun _ _ _ h => h) (Or.inr ⟨by kernel_rfl, rfl⟩) (by assumption) ?_; (try simp only [Act.put, List.setIfInBounds_toArray, List.set_cons_zero, List.set_cons_succ]))
            (refine takeL (i := 19) (v := undef) rfl (by kernel_rfl) (by kernel_rfl) (by kernel_rfl) (fun _ _ _ h => h) (Or.inr ⟨by kernel_rfl, rfl⟩) (by assumption) ?_; (try simp only [Act.put, List.setIfInBounds_toArray, List.set_cons_zero, List.set_cons_succ]))
            (refine takeL (i := 20) (v := undef) rfl (by kernel_rfl) (by kernel_rfl) (by kernel_rfl) (fun _ _ _ h => h) (Or.inr ⟨by kernel_rfl, rfl⟩) (by assumption) ?_; (try simp only [Act.put, List.setIfInBounds_toArray, List.set_cons_zero, List.set_cons_succ]))
            (refine takeL (i := 21) (v := undef) rfl (by kernel_rfl) (by kernel_rfl) (by kernel_rfl) (fun _ _ _ h => h) (Or.inr ⟨by kernel_rfl, rfl⟩) (by assumption) ?_; (try simp only [Act.put, List.setIfInBounds_toArray, List.set_cons_zero, List.set_cons_succ]))
            (refine takeL (i := 22) (v := undef) rfl (by kernel_rfl) (by kernel_rfl) (by kernel_rfl) (fun _ _ _ h => h) (Or.inr ⟨by kernel_rfl, rfl⟩) (by assumption) ?_; (try simp only [Act.put, List.setIfInBounds_toArray, List.set_cons_zero, List.set_cons_succ]))
            (refine takeL (i := 23) (v := undef) rfl (by kernel_rfl) (by kernel_rfl) (by kernel_rfl) (fun _ _ _ h => h) (Or.inr ⟨by kernel_rfl, rfl⟩) (by assumption) ?_; (try simp only [Act.put, List.setIfInBounds_toArray, List.set_cons_zero, List.set_cons_succ]))
            (refine takeL (i := 24) (v := undef) rfl (by kernel_rfl) (by kernel_rfl) (by kernel_rfl) (fun _ _ _ h => h) (Or.inr ⟨by kernel_rfl, rfl⟩) (by assumption) ?_; (try simp only [Act.put, List.setIfInBounds_toArray, List.set_cons_zero, List.set_cons_succ]))
            (refine takeL (i := 25) (v := ?_) rfl (by kernel_rfl) (by kernel_rfl) (by kernel_rfl) (fun _ _ _ h => h) (Or.inl ⟨by kernel_rfl, ?_⟩) (by assumption) ?_; rotate_left; (focus (intro w hSw; (try dsimp only at hSw); go_simp; first | done | with_reducible rfl | fail "take")); (try simp only [Act.put, List.setIfInBounds_toArray, List.set_cons_zero, List.set_cons_succ]))
            (refine takeL (i := 26) (v := ?_) rfl (by kernel_rfl) (by kernel_rfl) (by kernel_rfl) (fun _ _ _ h => h) (Or.inl ⟨by kernel_rfl, ?_⟩) (by assumption) ?_; rotate_left; (focus (intro w hSw; (try dsimp only at hSw); go_simp; first | done | with_reducible rfl | fail "take")); (try simp only [Act.put, List.setIfInBounds_toArray, List.set_cons_zero, List.set_cons_succ]))
            refine wpAnyH_done (by kernel_rfl) ?_ _
            go_wp2_with fail
            go_roundw
            case rel => exact ⟨k + 1, by omega, by go_num, hbr.trans ((show Below wr.heap.size wr _ by ((repeat (first | with_reducible assumption | with_reducible exact Below.refl _ _ | refine Below.setCell ?_ (by (first | omega | (simp; omega) | (simp; done) | fail "sml")) _ | refine Below.drew ?_ | refine Below.alloc ?_ (by (first | omega | (simp; omega) | (simp; done) | fail "sml")) _)); first | done | fail "chs")).mono zwr)⟩
            case measure => simp [intOf]; omega

          · have q1 : decide ((0 : Int) < (k : Int)) = true := decide_eq_true (by omega)
            have q1' : (0 < k) = True := eq_true (by omega)
            obtain ⟨m, hm⟩ : ∃ m, RowKit.Hid (m + 1 = k) := ⟨k - 1, Lib.hid (by omega)⟩
            have hm1 : (k : Int) - 1 = (m : Int) := by have := hm.out; omega
            have hm2 : m < L.length := by have := hm.out; omega
            have hm3 : (m : Int) < (L.length : Int) := by omega
            have hm4 : IntKind.i64.wrap (m : Int) = (m : Int) := by rw [IntKind.wrap_i64]; omega
            have hup := in_up HV.out hL.out hm2 hlt (by have := hm.out; omega)
            obtain ⟨bl', ol', el', _, d1⟩ := (HL.out _ jr).it hm2
            rw [el] at el'
            cases el'
            rw [hj1] at hup
            obtain ⟨y, ey⟩ : ∃ y, y = L[m]'hm2 := ⟨_, rfl⟩
            rw [← ey] at hup d1
            have q2 : decide ((j : Int) ≤ y) = false := decide_eq_false (by omega)
            clear ey hup hk0
            subst el ee
            have KS := Lib.hid (fun (E : World) (hE : Below wr.heap.size wr E) => (show (E.cell? ⟨wx.heap.size, 0, none⟩ = some (.slice pg g.ns.length cg) ∧ E.cell? ⟨wx.heap.size, 1, none⟩ = some (.slice (some ⟨be, oe, none⟩) g.es.length dg)) ∧ E.cell? ⟨be, oe + j * 4 + 1, none⟩ = some (.int .i64 n) ∧ E.cell? ⟨bl, ol + k, none⟩ = some (.int .i64 (j : Int)) ∧ E.cell? ⟨bl, ol + m, none⟩ = some (.int .i64 y) from ⟨⟨keepc hE hbg y0a, keepc hE hbg y0b⟩, keepc hE hb2 c1, keepc hE hb1 d0, keepc hE hb1 d1⟩))
            clear y0a y0b c1 d0 d1
            go_upto_region 11 with fail
            refine wp_region_held_drew (S := fun w' => (w'.cell? ⟨wx.heap.size, 0, none⟩ = some (.slice pg g.ns.length cg) ∧ w'.cell? ⟨wx.heap.size, 1, none⟩ = some (.slice (some ⟨be, oe, none⟩) g.es.length dg)) ∧ w'.cell? ⟨be, oe + j * 4 + 1, none⟩ = some (.int .i64 n) ∧ w'.cell? ⟨bl, ol + k, none⟩ = some (.int .i64 (j : Int)) ∧ w'.cell? ⟨bl, ol + m, none⟩ = some (.int .i64 y)) (by kernel_rfl) ?_ (fun hHeld => ?_)
            · exact KS.out _ (show Below wr.heap.size wr _ by ((repeat (first | with_reducible assumption | with_reducible exact Below.refl _ _ | refine Below.setCell ?_ (by (first | omega | (simp; omega) | (simp; done) | fail "sml")) _ | refine Below.drew ?_ | refine Below.alloc ?_ (by (first | omega | (simp; omega) | (simp; done) | fail "sml")) _)); first | done | fail "chs"))
            (refine takeL (i := 0) (v := ?_) rfl (by kernel_rfl) (by kernel_rfl) (by kernel_rfl) (fun _ _ _ h => h) (Or.inl ⟨by kernel_rfl, ?_⟩) (by assumption) ?_; rotate_left; (focus (intro w hSw; (try dsimp only at hSw); go_simp; first | done | with_reducible rfl | fail "take")); (try simp only [Act.put, List.setIfInBounds_toArray, List.set_cons_zero, List.set_cons_succ]))
            (refine takeL (i := 1) (v := ?_) rfl (by kernel_rfl) (by kernel_rfl) (by kernel_rfl) (fun _ _ _ h => h) (Or.inl ⟨by kernel_rfl, ?_⟩) (by assumption) ?_; rotate_left; (focus (intro w hSw; (try dsimp only at hSw); go_simp; first | done | with_reducible rfl | fail "take")); (try simp only [Act.put, List.setIfInBounds_toArray, List.set_cons_zero, List.set_cons_succ]))
            (refine takeL (i := 2) (v := ?_) rfl (by kernel_rfl) (by kernel_rfl) (by kernel_rfl) (fun _ _ _ h => h) (Or.inl ⟨by kernel_rfl, ?_⟩) (by assumption) ?_; rotate_left; (focus (intro w hSw; (try dsimp only at hSw); go_simp; first | done | with_reducible rfl | fail "take")); (try simp only [Act.put, List.setIfInBounds_toArray, List.set_cons_zero, List.set_cons_succ]))
            (refine takeL (i := 3) (v := ?_) rfl (by kernel_rfl) (by kernel_rfl) (by kernel_rfl) (fun _ _ _ h => h) (Or.inl ⟨by kernel_rfl, ?_⟩) (by assumption) ?_; rotate_left; (focus (intro w hSw; (try dsimp only at hSw); go_simp; first | done | with_reducible rfl | fail "take")); (try simp only [Act.put, List.setIfInBounds_toArray, List.set_cons_zero, List.set_cons_succ]))
            (refine takeL (i := 4) (v := ?_) rfl (by kernel_rfl) (by kernel_rfl) (by kernel_rfl) (fun _ _ _ h => h) (Or.inl ⟨by kernel_rfl, ?_⟩) (by assumption) ?_; rotate_left; (focus (intro w hSw; (try dsimp only at hSw); go_simp; first | done | with_reducible rfl | fail "take")); (try simp only [Act.put, List.setIfInBounds_toArray, List.set_cons_zero, List.set_cons_succ]))
            (refine takeL (i := 5) (v := ?_) rfl (by kernel_rfl) (by kernel_rfl) (by kernel_rfl) (fun _ _ _ h => h) (Or.inl ⟨by kernel_rfl, ?_⟩) (by assumption) ?_; rotate_left; (focus (intro w hSw; (try dsimp only at hSw); go_simp; first | done | with_reducible rfl | fail "take")); (try simp only [Act.put, List.setIfInBounds_toArray, List.set_cons_zero, List.set_cons_succ]))
            (refine takeL (i := 6) (v := ?_) rfl (by kernel_rfl) (by kernel_rfl) (by kernel_rfl) (fun _ _ _ h => h) (Or.inl ⟨by kernel_rfl, ?_⟩) (by assumption) ?_; rotate_left; (focus (intro w hSw; (try dsimp only at hSw); go_simp; first | done | with_reducible rfl | fail "take")); (try simp only [Act.put, List.setIfInBounds_toArray, List.set_cons_zero, List.set_cons_succ]))
            (refine takeL (i := 7) (v := ?_) rfl (by kernel_rfl) (by kernel_rfl) (by kernel_rfl) (fun _ _ _ h => h) (Or.inl ⟨by kernel_rfl, ?_⟩) (by assumption) ?_; rotate_left; (focus (intro w hSw; (try dsimp only at hSw); go_simp; first | done | with_reducible rfl | fail "take")); (try simp only [Act.put, List.setIfInBounds_toArray, List.set_cons_zero, List.set_cons_succ]))
            (refine takeL (i := 8) (v := ?_) rfl (by kernel_rfl) (by kernel_rfl) (by kernel_rfl) (fun _ _ _ h => h) (Or.inl ⟨by kernel_rfl, ?_⟩) (by assumption) ?_; rotate_left; (focus (intro w hSw; (try dsimp only at hSw); go_simp; first | done | with_reducible rfl | fail "take")); (try simp only [Act.put, List.setIfInBounds_toArray, List.set_cons_zero, List.set_cons_succ]))
            (refine takeL (i := 9) (v := ?_) rfl (by kernel_rfl) (by kernel_rfl) (by kernel_rfl) (fun _ _ _ h => h) (Or.inl ⟨by kernel_rfl, ?_⟩) (by assumption) ?_; rotate_left; (focus (intro w hSw; (try dsimp only at hSw); go_simp; first | done | with_reducible rfl | fail "take")); (try simp only [Act.put, List.setIfInBounds_toArray, List.set_cons_zero, List.set_cons_succ]))
            (refine takeL (i := 10) (v := ?_) rfl (by kernel_rfl) (by kernel_rfl) (by kernel_rfl) (fun _ _ _ h => h) (Or.inl ⟨by kernel_rfl, ?_⟩) (by assumption) ?_; rotate_left; (focus (intro w hSw; (try dsimp only at hSw); go_simp; first | done | with_reducible rfl | fail "take")); (try simp only [Act.put, List.setIfInBounds_toArray, List.set_cons_zero, List.set_cons_succ]))
            (refine takeL (i := 11) (v := ?_) rfl (by kernel_rfl) (by kernel_rfl) (by kernel_rfl) (fun _ _ _ h => h) (Or.inl ⟨by kernel_rfl, ?_⟩) (by assumption) ?_; rotate_left; (focus (intro w hSw; (try dsimp only at hSw); go_simp; first | done | with_reducible rfl | fail "take")); (try simp only [Act.put, List.setIfInBounds_toArray, List.set_cons_zero, List.set_cons_succ]))
            (refine takeL (i := 12) (v := ?_) rfl (by kernel_rfl) (by kernel_rfl) (by kernel_rfl) (fun _ _ _ h => h) (Or.inl ⟨by kernel_rfl, ?_⟩) (by assumption) ?_; rotate_left; (focus (intro w hSw; (try dsimp only at hSw); go_simp; first | done | with_reducible rfl | fail "take")); (try simp only [Act.put, List.setIfInBounds_toArray, List.set_cons_zero, List.set_cons_succ]))
            (refine takeL (i := 13) (v := ?_) rfl (by kernel_rfl) (by kernel_rfl) (by kernel_rfl) (fun _ _ _ h => h) (Or.inl ⟨by kernel_rfl, ?_⟩) (by assumption) ?_; rotate_left; (focus (intro w hSw; (try dsimp only at hSw); go_simp; first | done | with_reducible rfl | fail "take")); (try simp only [Act.put, List.setIfInBounds_toArray, List.set_cons_zero, List.set_cons_succ]))
            (refine takeL (i := 14) (v := ?_) rfl (by kernel_rfl) (by kernel_rfl) (by kernel_rfl) (fun _ _ _ h => h) (Or.inl ⟨by kernel_rfl, ?_⟩) (by assumption) ?_; rotate_left; (focus (intro w hSw; (try dsimp only at hSw); go_simp; first | done | with_reducible rfl | fail "take")); (try simp only [Act.put, List.setIfInBounds_toArray, List.set_cons_zero, List.set_cons_succ]))
            (refine takeL (i := 15) (v := ?_) rfl (by kernel_rfl) (by kernel_rfl) (by kernel_rfl) (fun _ _ _ h => h) (Or.inl ⟨by kernel_rfl, ?_⟩) (by assumption) ?_; rotate_left; (focus (intro w hSw; (try dsimp only at hSw); go_simp; first | done | with_reducible rfl | fail "take")); (try simp only [Act.put, List.setIfInBounds_toArray, List.set_cons_zero, List.set_cons_succ]))
            (refine takeL (i := 16) (v := ?_) rfl (by kernel_rfl) (by kernel_rfl) (by kernel_rfl) (fun _ _ _ h => h) (Or.inl ⟨by kernel_rfl, ?_⟩) (by assumption) ?_; rotate_left; (focus (intro w hSw; (try dsimp only at hSw); go_simp; first | done | with_reducible rfl | fail "take")); (try simp only [Act.put, List.setIfInBounds_toArray, List.set_cons_zero, List.set_cons_succ]))
            (refine takeL (i := 17) (v := ?_) rfl (by kernel_rfl) (by kernel_rfl) (by kernel_rfl) (fun _ _ _ h => h) (Or.inl ⟨by kernel_rfl, ?_⟩) (by assumption) ?_; rotate_left; (focus (intro w hSw; (try dsimp only at hSw); go_simp; first | done | with_reducible rfl | fail "take")); (try simp only [Act.put, List.setIfInBounds_toArray, List.set_cons_zero, List.set_cons_succ]))
            (refine takeL (i := 18) (v := ?_) rfl (by kernel_rfl) (by kernel_rfl) (by kernel_rfl) (fun _ _ _ h => h) (Or.inl ⟨by kernel_rfl, ?_⟩) (by assumption) ?_; rotate_left; (focus (intro w hSw; (try dsimp only at hSw); go_simp; first | done | with_reducible rfl | fail "take")); (try simp only [Act.put, List.setIfInBounds_toArray, List.set_cons_zero, List.set_cons_succ]))
            (refine takeL (i := 19) (v := ?_) rfl (by kernel_rfl) (by kernel_rfl) (by kernel_rfl) (fun _ _ _ h => h) (Or.inl ⟨by kernel_rfl, ?_⟩) (by assumption) ?_; rotate_left; (focus (intro w hSw; (try dsimp only at hSw); go_simp; first | done | with_reducible rfl | fail "take")); (try simp only [Act.put, List.setIfInBounds_toArray, List.set_cons_zero, List.set_cons_succ]))
            (refine takeL (i := 20) (v := ?_) rfl (by kernel_rfl) (by kernel_rfl) (by kernel_rfl) (fun _ _ _ h => h) (Or.inl ⟨by kernel_rfl, ?_⟩) (by assumption) ?_; rotate_left; (focus (intro w hSw; (try dsimp only at hSw); go_simp; first | done | with_reducible rfl | fail "take")); (try simp only [Act.put, List.setIfInBounds_toArray, List.set_cons_zero, List.set_cons_succ]))
            (refine takeL (i := 21) (v := ?_) rfl (by kernel_rfl) (by kernel_rfl) (by kernel_rfl) (fun _ _ _ h => h) (Or.inl ⟨by kernel_rfl, ?_⟩) (by assumption) ?_; rotate_left; (focus (intro w hSw; (try dsimp only at hSw); go_simp; first | done | with_reducible rfl | fail "take")); (try simp only [Act.put, List.setIfInBounds_toArray, List.set_cons_zero, List.set_cons_succ]))
            (refine takeL (i := 22) (v := ?_) rfl (by kernel_rfl) (by kernel_rfl) (by kernel_rfl) (fun _ _ _ h => h) (Or.inl ⟨by kernel_rfl, ?_⟩) (by assumption) ?_; rotate_left; (focus (intro w hSw; (try dsimp only at hSw); go_simp; first | done | with_reducible rfl | fail "take")); (try simp only [Act.put, List.setIfInBounds_toArray, List.set_cons_zero, List.set_cons_succ]))
            (refine takeL (i := 23) (v := ?_) rfl (by kernel_rfl) (by kernel_rfl) (by kernel_rfl) (fun _ _ _ h => h) (Or.inl ⟨by kernel_rfl, ?_⟩) (by assumption) ?_; rotate_left; (focus (intro w hSw; (try dsimp only at hSw); go_simp; first | done | with_reducible rfl | fail "take")); (try simp only [Act.put, List.setIfInBounds_toArray, List.set_cons_zero, List.set_cons_succ]))
            (refine takeL (i := 24) (v := ?_) rfl (by kernel_rfl) (by kernel_rfl) (by kernel_rfl) (fun _ _ _ h => h) (Or.inl ⟨by kernel_rfl, ?_⟩) (by assumption) ?_; rotate_left; (focus (intro w hSw; (try dsimp only at hSw); go_simp; first | done | with_reducible rfl | fail "take")); (try simp only [Act.put, List.setIfInBounds_toArray, List.set_cons_zero, List.set_cons_succ]))
            (refine takeL (i := 25) (v := ?_) rfl (by kernel_rfl) (by kernel_rfl) (by kernel_rfl) (fun _ _ _ h => h) (Or.inl ⟨by kernel_rfl, ?_⟩) (by assumption) ?_; rotate_left; (focus (intro w hSw; (try dsimp only at hSw); go_simp; first | done | with_reducible rfl | fail "take")); (try simp only [Act.put, List.setIfInBounds_toArray, List.set_cons_zero, List.set_cons_succ]))
            (refine takeL (i := 26) (v := ?_) rfl (by kernel_rfl) (by kernel_rfl) (by kernel_rfl) (fun _ _ _ h => h) (Or.inl ⟨by kernel_rfl, ?_⟩) (by assumption) ?_; rotate_left; (focus (intro w hSw; (try dsimp only at hSw); go_simp; first | done | with_reducible rfl | fail "take")); (try simp only [Act.put, List.setIfInBounds_toArray, List.set_cons_zero, List.set_cons_succ]))
            refine wpAnyH_done (by kernel_rfl) ?_ _
            go_wp2_with fail
            go_roundw
            case rel => exact ⟨k + 1, by omega, by go_num, hbr.trans ((show Below wr.heap.size wr _ by ((repeat (first | with_reducible assumption | with_reducible exact Below.refl _ _ | refine Below.setCell ?_ (by (first | omega | (simp; omega) | (simp; done) | fail "sml")) _ | refine Below.drew ?_ | refine Below.alloc ?_ (by (first | omega | (simp; omega) | (simp; done) | fail "sml")) _)); first | done | fail "chs")).mono zwr)⟩
            case measure => simp [intOf]; omega

        · have q0 : decide ((k : Int) < (L.length : Int)) = false := decide_eq_false (by omega)
          obtain ⟨⟨⟨y0a, y0b⟩, _⟩, ⟨y1a, y1b⟩, _⟩ := KW8.out wr (hbr)
          have HXO := Lib.hid (show x.Ok by rw [hx.out, tgr_of HV.out]; exact ⟨HOK.out.1, fun e he => by obtain ⟨y, hy, rfl⟩ := List.mem_map.1 he; have := HOK.out.2 y hy; exact ⟨this.2.1, this.1, this.2.2.1, this.2.2.2⟩⟩)
          go_wp2_with fail
          refine Calls.mono (outEdges_any x _ n wr.heap.size wr (((KW8.out wr (hbr)).2.2).to (Below.refl _ _) (by have := (hbr).size; omega)) (Nat.le_refl _) HXO.out) ?_
          rw [hx.out, ← in_out HV.out n, ← hL.out]
          rintro e wg ⟨vg, Fg', rfl, hq, _, hb⟩
          have rwg : Below W8.heap.size W8 wg := (hbr).trans (hb.mono (hbr).size)
          have swg := rwg.size
          have jg : Below wa.heap.size wa wg := jr.trans (hb.mono jr.size)
          clear hb
          obtain ⟨pq, cq, rfl⟩ := hq.sl.form
          have HQ := Lib.hid hq.sl
          clear hq
          clear y0a y0b y1a y1b

          go_wp2_with fail
          refine Calls.mono (gpInts_any L L _ _ wg.heap.size wg ((HL.out wg jg).mono jg.size) HQ.out (Nat.le_refl _)) ?_
          rw [ints_refl]
          rintro e wh ⟨rfl, hb⟩
          have rwh : Below W8.heap.size W8 wh := (rwg).trans (hb.mono (rwg).size)
          have swh := rwh.size
          clear hb

          go_wp2_with fail
          go_ret
          exact ⟨rfl, HBW.out.trans ((rwh).mono HBW.out.size)⟩


end Go.Proofs.Ytchhobphockhhaa
