/- The walk of FnOutEdges. -/
import Derived.Test.YtchhobphockhhaaL1A
import Derived.Test.YtchhobphockhhaaELaw
import Derived.Test.YtchhobphockhhaaGSame2
import Derived.Test.YtchhobphockhhaaSEdges
import Derived.Test.YtchhobphockhhaaGpInts
import Derived.Test.YtchhobphockhhaaReg
namespace Go.Proofs.Ytchhobphockhhaa
open Go.RowKit

set_option maxRecDepth 100000 in
set_option maxHeartbeats 32000000 in
theorem lawOutEdges (zs : List Int) (v : Value) (w : World) (hv : Sl 1 byCells w.heap.size w v zs) (hz : ∀ z ∈ zs, 0 ≤ z ∧ z ≤ 255) :
    Calls Try.prog 13 #[v] w fun e w' => e = .returned (.bool true) ∧ Below w.heap.size w w' := by
  obtain ⟨p, cap, rfl⟩ := hv.form
  have hm := hv.max
  unfold maxLen at hm
  by_cases hb : (1048576 : Int) < zs.length
  · go_enter Try.func13, Try.ntmps13
    go_wp2_with fail
    go_ret
    exact ⟨rfl, Below.refl _ _⟩
  · go_enter Try.func13, Try.ntmps13
    go_wp2_with fail
    refine (drawOutEdges_any zs _ w.heap.size _ hv (Nat.le_refl _) hz).mono ?_
    rintro e wx ⟨g, vg, Fg, n, rfl, hg, hn0, hn1, hb1⟩
    clear hv
    obtain ⟨pg, cg, qg, dg, rfl⟩ := hg.1.form
    have Hg := Lib.hid hg.1.at
    have HB1 := Lib.hid hb1
    have HOK := Lib.hid hg.2.2.1
    have HLEN := Lib.hid hg.2.2.2
    clear hg hb1
    go_upto_region 4 with fail
    obtain ⟨W, eW⟩ : ∃ E, E = (wx).alloc (.cells #[.slice pg g.ns.length cg, .slice qg g.es.length dg] 55) := ⟨_, rfl⟩
    have zW : wx.heap.size < W.heap.size := by rw [eW]; simp
    have hbW : Below wx.heap.size wx W := by rw [eW]; exact (Below.refl _ _).alloc (Nat.le_refl _) _
    have HC := Lib.hid (show (W.cell? ⟨wx.heap.size, 0, none⟩ = some (.slice pg g.ns.length cg) ∧ W.cell? ⟨wx.heap.size, 1, none⟩ = some (.slice qg g.es.length dg)) by rw [eW]; exact ⟨by simp [go_sem], by simp [go_sem]⟩)
    rw [← eW]
    clear eW
    have HK := Lib.hid (fun (E : World) (hE : Below W.heap.size W E) => And.intro (show (E.cell? ⟨wx.heap.size, 0, none⟩ = some (.slice pg g.ns.length cg) ∧ E.cell? ⟨wx.heap.size, 1, none⟩ = some (.slice qg g.es.length dg)) from ⟨keepc hE (by omega) HC.out.1, keepc hE (by omega) HC.out.2⟩) (show (g : Gr).At W.heap.size E (.agg #[.slice pg g.ns.length cg, .slice qg g.es.length dg]) from (Hg.out.to hbW (Nat.le_refl _)).to (hE.mono (by omega)) (by omega)))
    have HBW := Lib.hid ((HB1.out.trans (hbW.mono HB1.out.size)) : Below w.heap.size w W)
    clear hbW HC HB1 Hg
    have r0 := Below.refl W.heap.size W
    obtain ⟨⟨y0a, y0b⟩, _⟩ := HK.out W (r0)
    obtain ⟨O, hO⟩ : ∃ O, RowKit.Hid (O = gv g) := ⟨_, Lib.hid rfl⟩
    obtain ⟨L, hL⟩ : ∃ L, RowKit.Hid (L = edgesOut g n) := ⟨_, Lib.hid rfl⟩
    go_wp2_with fail
    refine Calls.mono (outEdges_any g _ n W.heap.size W (((HK.out W (r0)).2).to (Below.refl _ _) (by have := (r0).size; omega)) (Nat.le_refl _) HOK.out) ?_
    rw [← hL.out]
    rintro e wa ⟨vl, Fl, rfl, hl, _, hb⟩
    have rwa : Below W.heap.size W wa := (r0).trans (hb.mono (r0).size)
    have swa := rwa.size
    clear hb
    obtain ⟨pl, cl, rfl⟩ := hl.sl.form
    have HL0 := Lib.hid hl.sl
    have HL := Lib.hid (fun (E : World) (hE : Below wa.heap.size wa E) => (show Sl 1 intCells wa.heap.size E (.slice pl L.length cl) L from HL0.out.below hE))
    clear hl HL0
    clear y0a y0b
    have KS := Lib.hid (fun (E : World) (hE : Below wa.heap.size wa E) => (HK.out E (rwa.trans (hE.mono swa))).1)
    have HAG := Lib.hid (fun (E : World) (hE : Below wa.heap.size wa E) => (HK.out E (rwa.trans (hE.mono swa))).2)
    have sW0 : W.heap.size ≤ wa.heap.size := swa
    have r1 := Below.refl wa.heap.size wa
    go_upto_region 5 with fail
    refine wp_region_held_drew (S := fun w' => (w'.cell? ⟨wx.heap.size, 0, none⟩ = some (.slice pg g.ns.length cg) ∧ w'.cell? ⟨wx.heap.size, 1, none⟩ = some (.slice qg g.es.length dg))) (by kernel_rfl) ?_ (fun hHeld => ?_)
    · exact KS.out _ (show Below wa.heap.size wa _ by ((repeat (first | with_reducible assumption | with_reducible exact Below.refl _ _ | refine Below.setCell ?_ (by (first | omega | (simp; omega) | (simp; done) | fail "sml")) _ | refine Below.drew ?_ | refine Below.alloc ?_ (by (first | omega | (simp; omega) | (simp; done) | fail "sml")) _)); first | done | fail "chs"))
    (refine takeL (i := 0) (v := ?_) rfl (by kernel_rfl) (by kernel_rfl) (by kernel_rfl) (fun _ _ _ h => h) (Or.inl ⟨by kernel_rfl, ?_⟩) (by assumption) ?_; rotate_left; (focus (intro w hSw; (try dsimp only at hSw); go_simp; first | done | with_reducible rfl | fail "take")); (try simp only [Act.put, List.setIfInBounds_toArray, List.set_cons_zero, List.set_cons_succ]))
    (refine takeL (i := 1) (v := ?_) rfl (by kernel_rfl) (by kernel_rfl) (by kernel_rfl) (fun _ _ _ h => h) (Or.inl ⟨by kernel_rfl, ?_⟩) (by assumption) ?_; rotate_left; (focus (intro w hSw; (try dsimp only at hSw); go_simp; first | done | with_reducible rfl | fail "take")); (try simp only [Act.put, List.setIfInBounds_toArray, List.set_cons_zero, List.set_cons_succ]))
    (refine takeL (i := 2) (v := ?_) rfl (by kernel_rfl) (by kernel_rfl) (by kernel_rfl) (fun _ _ _ h => h) (Or.inl ⟨by kernel_rfl, ?_⟩) (by assumption) ?_; rotate_left; (focus (intro w hSw; (try dsimp only at hSw); go_simp; first | done | with_reducible rfl | fail "take")); (try simp only [Act.put, List.setIfInBounds_toArray, List.set_cons_zero, List.set_cons_succ]))
    (refine callL (i := 3) rfl (by kernel_rfl) (by kernel_rfl) (fun K hK => ?_); go_simp)
    go_at_call 48
    refine Calls.mono (specOutEdges_any g _ n W.heap.size _ (HAG.out _ (show Below wa.heap.size wa _ by ((repeat (first | with_reducible assumption | with_reducible exact Below.refl _ _ | refine Below.setCell ?_ (by (first | omega | (simp; omega) | (simp; done) | fail "sml")) _ | refine Below.drew ?_ | refine Below.alloc ?_ (by (first | omega | (simp; omega) | (simp; done) | fail "sml")) _)); first | done | fail "chs"))) (Nat.le_trans sW0 ((show Below wa.heap.size wa _ by ((repeat (first | with_reducible assumption | with_reducible exact Below.refl _ _ | refine Below.setCell ?_ (by (first | omega | (simp; omega) | (simp; done) | fail "sml")) _ | refine Below.drew ?_ | refine Below.alloc ?_ (by (first | omega | (simp; omega) | (simp; done) | fail "sml")) _)); first | done | fail "chs"))).size) HOK.out) ?_
    rw [← hL.out]
    rintro en wb ⟨vwb, Fwb, rfl, hs, _, hb⟩
    have rwb := Below.trans (show Below wa.heap.size wa _ by ((repeat (first | with_reducible assumption | with_reducible exact Below.refl _ _ | refine Below.setCell ?_ (by (first | omega | (simp; omega) | (simp; done) | fail "sml")) _ | refine Below.drew ?_ | refine Below.alloc ?_ (by (first | omega | (simp; omega) | (simp; done) | fail "sml")) _)); first | done | fail "chs")) (hb.mono (by (first | omega | (simp; omega) | (simp; done) | fail "sml")))
    have zwb := rwb.size
    obtain ⟨pwb, cwb, rfl⟩ := hs.sl.form
    have HS := Lib.hid hs
    clear hs
    clear hb
    go_wp2_with fail
    refine hK.out _ _ (KS.out _ (show Below wa.heap.size wa _ by ((repeat (first | with_reducible assumption | with_reducible exact Below.refl _ _ | refine Below.setCell ?_ (by (first | omega | (simp; omega) | (simp; done) | fail "sml")) _ | refine Below.drew ?_ | refine Below.alloc ?_ (by (first | omega | (simp; omega) | (simp; done) | fail "sml")) _)); first | done | fail "chs"))) (fun hHeld => ?_)
    clear hK K
    (try simp only [Act.put, List.setIfInBounds_toArray, List.set_cons_zero, List.set_cons_succ])
    (refine callL (i := 4) rfl (by kernel_rfl) (by kernel_rfl) (fun K hK => ?_); go_simp)
    go_at_call 39
    refine Calls.mono (gpInts_any L L _ _ wb.heap.size wb ((HL.out wb ((show Below wa.heap.size wa _ by ((repeat (first | with_reducible assumption | with_reducible exact Below.refl _ _ | refine Below.setCell ?_ (by (first | omega | (simp; omega) | (simp; done) | fail "sml")) _ | refine Below.drew ?_ | refine Below.alloc ?_ (by (first | omega | (simp; omega) | (simp; done) | fail "sml")) _)); first | done | fail "chs")))).mono zwb) HS.out.sl (Nat.le_refl _)) ?_
    rw [ints_refl]
    rintro en wc1 ⟨rfl, hb⟩
    have rwc1 := Below.trans (show Below wa.heap.size wa _ by ((repeat (first | with_reducible assumption | with_reducible exact Below.refl _ _ | refine Below.setCell ?_ (by (first | omega | (simp; omega) | (simp; done) | fail "sml")) _ | refine Below.drew ?_ | refine Below.alloc ?_ (by (first | omega | (simp; omega) | (simp; done) | fail "sml")) _)); first | done | fail "chs")) (hb.mono (by (first | omega | (simp; omega) | (simp; done) | fail "sml")))
    have zwc1 := rwc1.size
    clear hb
    go_wp2_with fail
    refine hK.out _ _ (KS.out _ (show Below wa.heap.size wa _ by ((repeat (first | with_reducible assumption | with_reducible exact Below.refl _ _ | refine Below.setCell ?_ (by (first | omega | (simp; omega) | (simp; done) | fail "sml")) _ | refine Below.drew ?_ | refine Below.alloc ?_ (by (first | omega | (simp; omega) | (simp; done) | fail "sml")) _)); first | done | fail "chs"))) (fun hHeld => ?_)
    clear hK K
    (try simp only [Act.put, List.setIfInBounds_toArray, List.set_cons_zero, List.set_cons_succ])
    (refine takeL (i := 5) (v := ?_) rfl (by kernel_rfl) (by kernel_rfl) (by kernel_rfl) (fun _ _ _ h => h) (Or.inl ⟨by kernel_rfl, ?_⟩) (by assumption) ?_; rotate_left; (focus (intro w hSw; (try dsimp only at hSw); go_simp; first | done | with_reducible rfl | fail "take")); (try simp only [Act.put, List.setIfInBounds_toArray, List.set_cons_zero, List.set_cons_succ]))
    (refine takeL (i := 6) (v := ?_) rfl (by kernel_rfl) (by kernel_rfl) (by kernel_rfl) (fun _ _ _ h => h) (Or.inl ⟨by kernel_rfl, ?_⟩) (by assumption) ?_; rotate_left; (focus (intro w hSw; (try dsimp only at hSw); go_simp; first | done | with_reducible rfl | fail "take")); (try simp only [Act.put, List.setIfInBounds_toArray, List.set_cons_zero, List.set_cons_succ]))
    (refine takeL (i := 7) (v := ?_) rfl (by kernel_rfl) (by kernel_rfl) (by kernel_rfl) (fun _ _ _ h => h) (Or.inl ⟨by kernel_rfl, ?_⟩) (by assumption) ?_; rotate_left; (focus (intro w hSw; (try dsimp only at hSw); go_simp; first | done | with_reducible rfl | fail "take")); (try simp only [Act.put, List.setIfInBounds_toArray, List.set_cons_zero, List.set_cons_succ]))
    (refine takeL (i := 8) (v := ?_) rfl (by kernel_rfl) (by kernel_rfl) (by kernel_rfl) (fun _ _ _ h => h) (Or.inl ⟨by kernel_rfl, ?_⟩) (by assumption) ?_; rotate_left; (focus (intro w hSw; (try dsimp only at hSw); go_simp; first | done | with_reducible rfl | fail "take")); (try simp only [Act.put, List.setIfInBounds_toArray, List.set_cons_zero, List.set_cons_succ]))
    (refine takeL (i := 10) (v := ?_) rfl (by kernel_rfl) (by kernel_rfl) (by kernel_rfl) (fun _ _ _ h => h) (Or.inl ⟨by kernel_rfl, ?_⟩) (by assumption) ?_; rotate_left; (focus (intro w hSw; (try dsimp only at hSw); go_simp; first | done | with_reducible rfl | fail "take")); (try simp only [Act.put, List.setIfInBounds_toArray, List.set_cons_zero, List.set_cons_succ]))
    (refine takeL (i := 11) (v := ?_) rfl (by kernel_rfl) (by kernel_rfl) (by kernel_rfl) (fun _ _ _ h => h) (Or.inl ⟨by kernel_rfl, ?_⟩) (by assumption) ?_; rotate_left; (focus (intro w hSw; (try dsimp only at hSw); go_simp; first | done | with_reducible rfl | fail "take")); (try simp only [Act.put, List.setIfInBounds_toArray, List.set_cons_zero, List.set_cons_succ]))
    (refine callL (i := 9) rfl (by kernel_rfl) (by kernel_rfl) (fun K hK => ?_); go_simp)
    go_at_call 41
    refine Calls.mono (inEdges_any g _ n W.heap.size _ (HAG.out _ (show Below wa.heap.size wa _ by ((repeat (first | with_reducible assumption | with_reducible exact Below.refl _ _ | refine Below.setCell ?_ (by (first | omega | (simp; omega) | (simp; done) | fail "sml")) _ | refine Below.drew ?_ | refine Below.alloc ?_ (by (first | omega | (simp; omega) | (simp; done) | fail "sml")) _)); first | done | fail "chs"))) (Nat.le_trans sW0 ((show Below wa.heap.size wa _ by ((repeat (first | with_reducible assumption | with_reducible exact Below.refl _ _ | refine Below.setCell ?_ (by (first | omega | (simp; omega) | (simp; done) | fail "sml")) _ | refine Below.drew ?_ | refine Below.alloc ?_ (by (first | omega | (simp; omega) | (simp; done) | fail "sml")) _)); first | done | fail "chs"))).size) HOK.out) ?_
    rintro en wd ⟨vwd, Fwd, rfl, hs, _, hb⟩
    have rwd := Below.trans (show Below wa.heap.size wa _ by ((repeat (first | with_reducible assumption | with_reducible exact Below.refl _ _ | refine Below.setCell ?_ (by (first | omega | (simp; omega) | (simp; done) | fail "sml")) _ | refine Below.drew ?_ | refine Below.alloc ?_ (by (first | omega | (simp; omega) | (simp; done) | fail "sml")) _)); first | done | fail "chs")) (hb.mono (by (first | omega | (simp; omega) | (simp; done) | fail "sml")))
    have zwd := rwd.size
    obtain ⟨pwd, cwd, rfl⟩ := hs.sl.form
    have HI1 := Lib.hid hs
    clear hs
    clear hb
    go_wp2_with fail
    refine hK.out _ _ (KS.out _ (show Below wa.heap.size wa _ by ((repeat (first | with_reducible assumption | with_reducible exact Below.refl _ _ | refine Below.setCell ?_ (by (first | omega | (simp; omega) | (simp; done) | fail "sml")) _ | refine Below.drew ?_ | refine Below.alloc ?_ (by (first | omega | (simp; omega) | (simp; done) | fail "sml")) _)); first | done | fail "chs"))) (fun hHeld => ?_)
    clear hK K
    (try simp only [Act.put, List.setIfInBounds_toArray, List.set_cons_zero, List.set_cons_succ])
    (refine callL (i := 12) rfl (by kernel_rfl) (by kernel_rfl) (fun K hK => ?_); go_simp)
    go_at_call 49
    refine Calls.mono (specInEdges_any g _ n W.heap.size _ (HAG.out _ (show Below wa.heap.size wa _ by ((repeat (first | with_reducible assumption | with_reducible exact Below.refl _ _ | refine Below.setCell ?_ (by (first | omega | (simp; omega) | (simp; done) | fail "sml")) _ | refine Below.drew ?_ | refine Below.alloc ?_ (by (first | omega | (simp; omega) | (simp; done) | fail "sml")) _)); first | done | fail "chs"))) (Nat.le_trans sW0 ((show Below wa.heap.size wa _ by ((repeat (first | with_reducible assumption | with_reducible exact Below.refl _ _ | refine Below.setCell ?_ (by (first | omega | (simp; omega) | (simp; done) | fail "sml")) _ | refine Below.drew ?_ | refine Below.alloc ?_ (by (first | omega | (simp; omega) | (simp; done) | fail "sml")) _)); first | done | fail "chs"))).size) HOK.out) ?_
    rintro en we ⟨vwe, Fwe, rfl, hs, _, hb⟩
    have rwe := Below.trans (show Below wa.heap.size wa _ by ((repeat (first | with_reducible assumption | with_reducible exact Below.refl _ _ | refine Below.setCell ?_ (by (first | omega | (simp; omega) | (simp; done) | fail "sml")) _ | refine Below.drew ?_ | refine Below.alloc ?_ (by (first | omega | (simp; omega) | (simp; done) | fail "sml")) _)); first | done | fail "chs")) (hb.mono (by (first | omega | (simp; omega) | (simp; done) | fail "sml")))
    have HI3 := Lib.hid (HI1.out.below hb)
    have zwe := rwe.size
    obtain ⟨pwe, cwe, rfl⟩ := hs.sl.form
    have HI2 := Lib.hid hs
    clear hs
    clear hb
    go_wp2_with fail
    refine hK.out _ _ (KS.out _ (show Below wa.heap.size wa _ by ((repeat (first | with_reducible assumption | with_reducible exact Below.refl _ _ | refine Below.setCell ?_ (by (first | omega | (simp; omega) | (simp; done) | fail "sml")) _ | refine Below.drew ?_ | refine Below.alloc ?_ (by (first | omega | (simp; omega) | (simp; done) | fail "sml")) _)); first | done | fail "chs"))) (fun hHeld => ?_)
    clear hK K
    (try simp only [Act.put, List.setIfInBounds_toArray, List.set_cons_zero, List.set_cons_succ])
    (refine callL (i := 13) rfl (by kernel_rfl) (by kernel_rfl) (fun K hK => ?_); go_simp)
    go_at_call 39
    refine Calls.mono (gpInts_any (edgesIn g n) (edgesIn g n) _ _ we.heap.size we HI3.out.sl HI2.out.sl (Nat.le_refl _)) ?_
    rw [ints_refl]
    rintro en wf ⟨rfl, hb⟩
    have rwf := Below.trans (show Below wa.heap.size wa _ by ((repeat (first | with_reducible assumption | with_reducible exact Below.refl _ _ | refine Below.setCell ?_ (by (first | omega | (simp; omega) | (simp; done) | fail "sml")) _ | refine Below.drew ?_ | refine Below.alloc ?_ (by (first | omega | (simp; omega) | (simp; done) | fail "sml")) _)); first | done | fail "chs")) (hb.mono (by (first | omega | (simp; omega) | (simp; done) | fail "sml")))
    have zwf := rwf.size
    clear hb
    go_wp2_with fail
    refine hK.out _ _ (KS.out _ (show Below wa.heap.size wa _ by ((repeat (first | with_reducible assumption | with_reducible exact Below.refl _ _ | refine Below.setCell ?_ (by (first | omega | (simp; omega) | (simp; done) | fail "sml")) _ | refine Below.drew ?_ | refine Below.alloc ?_ (by (first | omega | (simp; omega) | (simp; done) | fail "sml")) _)); first | done | fail "chs"))) (fun hHeld => ?_)
    clear hK K
    (try simp only [Act.put, List.setIfInBounds_toArray, List.set_cons_zero, List.set_cons_succ])
    (refine takeL (i := 14) (v := ?_) rfl (by kernel_rfl) (by kernel_rfl) (by kernel_rfl) (fun _ _ _ h => h) (Or.inl ⟨by kernel_rfl, ?_⟩) (by assumption) ?_; rotate_left; (focus (intro w hSw; (try dsimp only at hSw); go_simp; first | done | with_reducible rfl | fail "take")); (try simp only [Act.put, List.setIfInBounds_toArray, List.set_cons_zero, List.set_cons_succ]))
    (refine takeL (i := 15) (v := ?_) rfl (by kernel_rfl) (by kernel_rfl) (by kernel_rfl) (fun _ _ _ h => h) (Or.inl ⟨by kernel_rfl, ?_⟩) (by assumption) ?_; rotate_left; (focus (intro w hSw; (try dsimp only at hSw); go_simp; first | done | with_reducible rfl | fail "take")); (try simp only [Act.put, List.setIfInBounds_toArray, List.set_cons_zero, List.set_cons_succ]))
    (refine takeL (i := 16) (v := ?_) rfl (by kernel_rfl) (by kernel_rfl) (by kernel_rfl) (fun _ _ _ h => h) (Or.inl ⟨by kernel_rfl, ?_⟩) (by assumption) ?_; rotate_left; (focus (intro w hSw; (try dsimp only at hSw); go_simp; first | done | with_reducible rfl | fail "take")); (try simp only [Act.put, List.setIfInBounds_toArray, List.set_cons_zero, List.set_cons_succ]))
    (refine takeL (i := 17) (v := ?_) rfl (by kernel_rfl) (by kernel_rfl) (by kernel_rfl) (fun _ _ _ h => h) (Or.inl ⟨by kernel_rfl, ?_⟩) (by assumption) ?_; rotate_left; (focus (intro w hSw; (try dsimp only at hSw); go_simp; first | done | with_reducible rfl | fail "take")); (try simp only [Act.put, List.setIfInBounds_toArray, List.set_cons_zero, List.set_cons_succ]))
    (refine callL (i := 18) rfl (by kernel_rfl) (by kernel_rfl) (fun K hK => ?_); go_simp)
    go_at_call 42
    refine Calls.mono (graphValid_any g _ W.heap.size _ (HAG.out _ (show Below wa.heap.size wa _ by ((repeat (first | with_reducible assumption | with_reducible exact Below.refl _ _ | refine Below.setCell ?_ (by (first | omega | (simp; omega) | (simp; done) | fail "sml")) _ | refine Below.drew ?_ | refine Below.alloc ?_ (by (first | omega | (simp; omega) | (simp; done) | fail "sml")) _)); first | done | fail "chs"))) (Nat.le_trans sW0 ((show Below wa.heap.size wa _ by ((repeat (first | with_reducible assumption | with_reducible exact Below.refl _ _ | refine Below.setCell ?_ (by (first | omega | (simp; omega) | (simp; done) | fail "sml")) _ | refine Below.drew ?_ | refine Below.alloc ?_ (by (first | omega | (simp; omega) | (simp; done) | fail "sml")) _)); first | done | fail "chs"))).size) HOK.out) ?_
    rw [← hO.out]
    rintro en wg ⟨rfl, hb⟩
    have rwg := Below.trans (show Below wa.heap.size wa _ by ((repeat (first | with_reducible assumption | with_reducible exact Below.refl _ _ | refine Below.setCell ?_ (by (first | omega | (simp; omega) | (simp; done) | fail "sml")) _ | refine Below.drew ?_ | refine Below.alloc ?_ (by (first | omega | (simp; omega) | (simp; done) | fail "sml")) _)); first | done | fail "chs")) (hb.mono (by (first | omega | (simp; omega) | (simp; done) | fail "sml")))
    have zwg := rwg.size
    clear hb
    go_wp2_with fail
    refine hK.out _ _ (KS.out _ (show Below wa.heap.size wa _ by ((repeat (first | with_reducible assumption | with_reducible exact Below.refl _ _ | refine Below.setCell ?_ (by (first | omega | (simp; omega) | (simp; done) | fail "sml")) _ | refine Below.drew ?_ | refine Below.alloc ?_ (by (first | omega | (simp; omega) | (simp; done) | fail "sml")) _)); first | done | fail "chs"))) (fun hHeld => ?_)
    clear hK K
    (try simp only [Act.put, List.setIfInBounds_toArray, List.set_cons_zero, List.set_cons_succ])
    (refine takeL (i := 19) (v := ?_) rfl (by kernel_rfl) (by kernel_rfl) (by kernel_rfl) (fun _ _ _ h => h) (Or.inl ⟨by kernel_rfl, ?_⟩) (by assumption) ?_; rotate_left; (focus (intro w hSw; (try dsimp only at hSw); go_simp; first | done | with_reducible rfl | fail "take")); (try simp only [Act.put, List.setIfInBounds_toArray, List.set_cons_zero, List.set_cons_succ]))
    (refine takeL (i := 20) (v := ?_) rfl (by kernel_rfl) (by kernel_rfl) (by kernel_rfl) (fun _ _ _ h => h) (Or.inl ⟨by kernel_rfl, ?_⟩) (by assumption) ?_; rotate_left; (focus (intro w hSw; (try dsimp only at hSw); go_simp; first | done | with_reducible rfl | fail "take")); (try simp only [Act.put, List.setIfInBounds_toArray, List.set_cons_zero, List.set_cons_succ]))
    refine wpAnyH_done (by kernel_rfl) ?_ _
    have jg : Below wa.heap.size wa wg := show Below wa.heap.size wa _ by ((repeat (first | with_reducible assumption | with_reducible exact Below.refl _ _ | refine Below.setCell ?_ (by (first | omega | (simp; omega) | (simp; done) | fail "sml")) _ | refine Below.drew ?_ | refine Below.alloc ?_ (by (first | omega | (simp; omega) | (simp; done) | fail "sml")) _)); first | done | fail "chs")
    clear HS HI1 HI2 HI3 hHeld
    have rwg := rwa.trans (jg.mono swa)
    have swg := rwg.size
    cases O with
    | false =>
      have HE := Lib.hid (show L = [] by rw [hL.out]; exact out_none hO.out.symm n)
      have hle : ((L.length : Int) == 0) = true := by rw [HE.out]; rfl
      obtain ⟨⟨y0a, y0b⟩, _⟩ := HK.out wg (rwg)
      go_wp2_with fail
      refine Calls.mono (specOutEdges_any g _ n wg.heap.size wg (((HK.out wg (rwg)).2).to (Below.refl _ _) (by have := (rwg).size; omega)) (Nat.le_refl _) HOK.out) ?_
      rw [← hL.out]
      rintro e wh ⟨vq, Fq, rfl, hq, _, hb⟩
      have rwh : Below W.heap.size W wh := (rwg).trans (hb.mono (rwg).size)
      have swh := rwh.size
      have jh : Below wa.heap.size wa wh := jg.trans (hb.mono jg.size)
      clear hb
      obtain ⟨pq, cq, rfl⟩ := hq.sl.form
      have HQ := Lib.hid hq.sl
      clear hq
      clear y0a y0b
      go_wp2_with fail
      refine Calls.mono (gpInts_any L L _ _ wh.heap.size wh ((HL.out wh jh).mono jh.size) HQ.out (Nat.le_refl _)) ?_
      rw [ints_refl]
      rintro e wi ⟨rfl, hb⟩
      have rwi : Below W.heap.size W wi := (rwh).trans (hb.mono (rwh).size)
      have swi := rwi.size
      clear hb
      go_wp2_with fail
      go_ret
      exact ⟨rfl, HBW.out.trans ((rwi).mono HBW.out.size)⟩

    | true =>
      have HV := Lib.hid hO.out.symm
      simp only [Bool.not_true]
      have hm1 : g.ns.length ≤ 1010 := HLEN.out.1
      have hm2 : g.es.length ≤ 1010 := HLEN.out.2
      have HJ := Lib.hid jg
      have HR := Lib.hid rwg
      obtain ⟨⟨y0a, y0b⟩, _⟩ := HK.out wg (rwg)
      have rg := Below.refl wg.heap.size wg
      go_wp2_with fail
      go_loopw [6, 7, 8] (fun o c i wr => ∃ k : Nat, k ≤ g.ns.length ∧ i = .int .i64 k ∧ o = .int .i64 (cntO g k) ∧ c = .int .i64 (cntI g k) ∧ Below wg.heap.size wg wr) (fun _ _ i _ => g.ns.length - (intOf i).toNat)
      case atStart => exact ⟨0, Nat.zero_le _, rfl, rfl, rfl, rg⟩
      case round =>
        clear y0a y0b
        obtain ⟨k, hk, rfl, rfl, rfl, hbr⟩ := hrel
        have zwr := hbr.size
        have rwr := HR.out.trans (hbr.mono swg)
        have swr := rwr.size
        obtain ⟨⟨y0a, y0b⟩, _⟩ := HK.out wr (rwr)
        have hcO := cntO_le g k
        have hcI := cntI_le g k
        have hkm : k * g.es.length ≤ 1010 * 1010 := Nat.mul_le_mul (by omega) hm2
        by_cases hlt : k < g.ns.length
        · have q0 : decide ((k : Int) < (g.ns.length : Int)) = true := decide_eq_true (by omega)
          have HCO := Lib.hid (show cntO g (k + 1) = cntO g k + (edgesOut g (k : Int)).length from rfl)
          have HCI := Lib.hid (show cntI g (k + 1) = cntI g k + (edgesIn g (k : Int)).length from rfl)
          have hlO : (edgesOut g (k : Int)).length ≤ 1010 := by unfold edgesOut; split; exact Nat.le_trans (pick_le _ _ _) hm2; simp
          have hlI : (edgesIn g (k : Int)).length ≤ 1010 := by unfold edgesIn; split; exact Nat.le_trans (pick_le _ _ _) hm2; simp
          obtain ⟨oo, hoo⟩ : ∃ oo, oo = cntO g k := ⟨_, rfl⟩
          obtain ⟨ci, hci⟩ : ∃ ci, ci = cntI g k := ⟨_, rfl⟩
          obtain ⟨lo, hlo⟩ : ∃ lo, RowKit.Hid (lo = edgesOut g (k : Int)) := ⟨_, Lib.hid rfl⟩
          obtain ⟨li, hli⟩ : ∃ li, RowKit.Hid (li = edgesIn g (k : Int)) := ⟨_, Lib.hid rfl⟩
          rw [← hoo] at HCO hcO ⊢
          rw [← hci] at HCI hcI ⊢
          rw [← hlo.out] at HCO hlO
          rw [← hli.out] at HCI hlI
          clear hoo hci
          have g1 : IntKind.i64.wrap ((oo : Int) + (lo.length : Int)) = (oo : Int) + (lo.length : Int) := by rw [IntKind.wrap_i64]; omega
          have g2 : IntKind.i64.wrap ((ci : Int) + (li.length : Int)) = (ci : Int) + (li.length : Int) := by rw [IntKind.wrap_i64]; omega
          go_wp2_with fail
          refine Calls.mono (outEdges_any g _ (k : Int) wr.heap.size wr (((HK.out wr (rwr)).2).to (Below.refl _ _) (by have := (rwr).size; omega)) (Nat.le_refl _) HOK.out) ?_
          rw [← hlo.out]
          rintro e wh ⟨vq, Fq, rfl, hq, _, hb⟩
          have rwh : Below W.heap.size W wh := (rwr).trans (hb.mono (rwr).size)
          have swh := rwh.size
          have jh : Below wg.heap.size wg wh := hbr.trans (hb.mono zwr)
          clear hb
          obtain ⟨pq, cq, rfl⟩ := hq.sl.form
          clear hq
          clear y0a y0b

          obtain ⟨⟨y0a, y0b⟩, _⟩ := HK.out wh (rwh)
          go_wp2_with fail
          refine Calls.mono (inEdges_any g _ (k : Int) wh.heap.size wh (((HK.out wh (rwh)).2).to (Below.refl _ _) (by have := (rwh).size; omega)) (Nat.le_refl _) HOK.out) ?_
          rw [← hli.out]
          rintro e wi ⟨vq2, Fq2, rfl, hq, _, hb⟩
          have rwi : Below W.heap.size W wi := (rwh).trans (hb.mono (rwh).size)
          have swi := rwi.size
          have ji : Below wg.heap.size wg wi := jh.trans (hb.mono jh.size)
          clear hb
          obtain ⟨pq2, cq2, rfl⟩ := hq.sl.form
          clear hq
          clear y0a y0b

          go_wp2_with fail
          go_roundw
          case rel => exact ⟨k + 1, by omega, by go_num, by rw [HCO.out]; go_num, by rw [HCI.out]; go_num, ji⟩
          case measure => simp [intOf]; omega
        · have q0 : decide ((k : Int) < (g.ns.length : Int)) = false := decide_eq_false (by omega)
          obtain rfl : k = g.ns.length := by omega
          rw [cntO_full HV.out, cntI_full HV.out]
          have HB := Lib.hid hbr
          clear hcO hcI hkm
          obtain ⟨wq, ewq⟩ : ∃ q, q = wr := ⟨_, rfl⟩
          subst ewq
          have r2 := Below.refl wq.heap.size wq
          go_wp2_with fail
          go_loopw [9] (fun i wr => ∃ k : Nat, k ≤ L.length ∧ i = .int .i64 k ∧ Below wq.heap.size wq wr) (fun i _ => L.length - (intOf i).toNat)
          case atStart => exact ⟨0, Nat.zero_le _, rfl, r2⟩
          case round =>
            clear y0a y0b
            obtain ⟨k, hk, rfl, hbt⟩ := hrel
            have zwt := hbt.size
            have jt := (HJ.out.trans (HB.out.mono HJ.out.size)).trans (hbt.mono (Nat.le_trans HJ.out.size zwr))
            have rwt := rwr.trans (hbt.mono swr)
            have hLm : (L.length : Int) ≤ 9223372036854775807 := by have := (HL.out _ jt).max; unfold maxLen at this; omega
            by_cases hlt : k < L.length
            · have q1 : decide ((k : Int) < (L.length : Int)) = true := decide_eq_true (by omega)
              have hlt2 : (k : Int) < (L.length : Int) := by omega
              obtain ⟨j, hj1, hj2, hj3⟩ := out_at HV.out hL.out hlt
              obtain ⟨bl, ol, el, hb1, d0⟩ := (HL.out _ jt).it hlt
              rw [hj1] at d0
              obtain ⟨v0, v1, e1, a1, a2⟩ := (HK.out wr (rwt)).2
              cases e1
              obtain ⟨be, oe, ee, hb2, c1, _, _, _⟩ := a2.ed hj2
              rw [hj3] at c1
              clear a1 a2 hj3
              have hb1 : bl < wr.heap.size := by have := jt.size; omega
              have hb2 : be < wr.heap.size := by have := rwt.size; omega
              have hbg : wx.heap.size < wr.heap.size := by have := rwt.size; omega
              obtain ⟨⟨y0a, y0b⟩, _⟩ := HK.out wr (rwt)
              have r1 := Below.refl wr.heap.size wr
              have hj2' : (j : Int) < (g.es.length : Int) := by omega
              have g7 : (n != n) = false := by simp
              subst el ee
              have KS := Lib.hid (fun (E : World) (hE : Below wr.heap.size wr E) => (show (E.cell? ⟨wx.heap.size, 0, none⟩ = some (.slice pg g.ns.length cg) ∧ E.cell? ⟨wx.heap.size, 1, none⟩ = some (.slice (some ⟨be, oe, none⟩) g.es.length dg)) ∧ E.cell? ⟨be, oe + j * 4, none⟩ = some (.int .i64 n) ∧ E.cell? ⟨bl, ol + k, none⟩ = some (.int .i64 (j : Int)) from ⟨⟨keepc hE hbg y0a, keepc hE hbg y0b⟩, keepc hE hb2 c1, keepc hE hb1 d0⟩))
              clear y0a y0b c1 d0
              go_upto_region 17 with fail
              refine wp_region_held_drew (S := fun w' => (w'.cell? ⟨wx.heap.size, 0, none⟩ = some (.slice pg g.ns.length cg) ∧ w'.cell? ⟨wx.heap.size, 1, none⟩ = some (.slice (some ⟨be, oe, none⟩) g.es.length dg)) ∧ w'.cell? ⟨be, oe + j * 4, none⟩ = some (.int .i64 n) ∧ w'.cell? ⟨bl, ol + k, none⟩ = some (.int .i64 (j : Int))) (by kernel_rfl) ?_ (fun hHeld => ?_)
              · exact KS.out _ (show Below wr.heap.size wr _ by ((repeat (first | with_reducible assumption | with_reducible exact Below.refl _ _ | refine Below.setCell ?_ (by (first | omega | (simp; omega) | (simp; done) | fail "sml")) _ | refine Below.drew ?_ | refine Below.alloc ?_ (by (first | omega | (simp; omega) | (simp; done) | fail "sml")) _)); first | done | fail "chs"))
              (refine takeL (i := 0) (v := ?_) rfl (by kernel_rfl) (by kernel_rfl) (by kernel_rfl) (fun _ _ _ h => h) (Or.inl ⟨by kernel_rfl, ?_⟩) (by assumption) ?_; rotate_left; (focus (intro w hSw; (try dsimp only at hSw); go_simp; first | done | with_reducible rfl | fail "take")); (try simp only [Act.put, List.setIfInBounds_toArray, List.set_cons_zero, List.set_cons_succ]))
              (refine takeL (i := 1) (v := ?_) rfl (by kernel_rfl) (by kernel_rfl) (by kernel_rfl) (fun _ _ _ h => h) (Or.inl ⟨by kernel_rfl, ?_⟩) (by assumption) ?_; rotate_left; (focus (intro w hSw; (try dsimp only at hSw); go_simp; first | done | with_reducible rfl | fail "take")); (try simp only [Act.put, List.setIfInBounds_toArray, List.set_cons_zero, List.set_cons_succ]))
              (refine takeL (i := 2) (v := ?_) rfl (by kernel_rfl) (by kernel_rfl) (by kernel_rfl) (fun _ _ _ h => h) (Or.inl ⟨by kernel_rfl, ?_⟩) (by assumption) ?_; rotate_left; (focus (intro w hSw; (try dsimp only at hSw); go_simp; first | done | with_reducible rfl | fail "take")); (try simp only [Act.put, List.setIfInBounds_toArray, List.set_cons_zero, List.set_cons_succ]))
              (refine takeL (i := 3) (v := ?_) rfl (by kernel_rfl) (by kernel_rfl) (by kernel_rfl) (fun _ _ _ h => h) (Or.inl ⟨by kernel_rfl, ?_⟩) (by assumption) ?_; rotate_left; (focus (intro w hSw; (try dsimp only at hSw); go_simp; first | done | with_reducible rfl | fail "take")); (try simp only [Act.put, List.setIfInBounds_toArray, List.set_cons_zero, List.set_cons_succ]))
              (refine takeL (i := 4) (v := ?_) rfl (by kernel_rfl) (by kernel_rfl) (by kernel_rfl) (fun _ _ _ h => h) (Or.inl ⟨by kernel_rfl, ?_⟩) (by assumption) ?_; rotate_left; (focus (intro w hSw; (try dsimp only at hSw); go_simp; first | done | with_reducible rfl | fail "take")); (try simp only [Act.put, List.setIfInBounds_toArray, List.set_cons_zero, List.set_cons_succ]))
              (refine takeL (i := 5) (v := ?_) rfl (by kernel_rfl) (by kernel_rfl) (by kernel_rfl) (fun _ _ _ h => h) (Or.inl ⟨by kernel_rfl, ?_⟩) (by assumption) ?_; rotate_left; (focus (intro w hSw; (try dsimp only at hSw); go_simp; first | done | with_reducible rfl | fail "take")); (try simp only [Act.put, List.setIfInBounds_toArray, List.set_cons_zero, List.set_cons_succ]))
              (refine takeL (i := 6) (v := ?_) rfl (by kernel_rfl) (by kernel_rfl) (by kernel_rfl) (fun _ _ _ h => h) (Or.inl ⟨by kernel_rfl, ?_⟩) (by assumption) ?_; rotate_left; (focus (intro w hSw; (try dsimp only at hSw); go_simp; first | done | with_reducible rfl | fail "take")); (try simp only [Act.put, List.setIfInBounds_toArray, List.set_cons_zero, List.set_cons_succ]))
              (refine takeL (i := 7) (v := ?_) rfl (by kernel_rfl) (by kernel_rfl) (by kernel_rfl) (fun _ _ _ h => h) (Or.inl ⟨by kernel_rfl, ?_⟩) (by assumption) ?_; rotate_left; (focus (intro w hSw; (try dsimp only at hSw); go_simp; first | done | with_reducible rfl | fail "take")); (try simp only [Act.put, List.setIfInBounds_toArray, List.set_cons_zero, List.set_cons_succ]))
              (refine takeL (i := 8) (v := ?_) rfl (by kernel_rfl) (by kernel_rfl) (by kernel_rfl) (fun _ _ _ h => h) (Or.inl ⟨by kernel_rfl, ?_⟩) (by assumption) ?_; rotate_left; (focus (intro w hSw; (try dsimp only at hSw); go_simp; first | done | with_reducible rfl | fail "take")); (try simp only [Act.put, List.setIfInBounds_toArray, List.set_cons_zero, List.set_cons_succ]))
              (refine takeL (i := 9) (v := ?_) rfl (by kernel_rfl) (by kernel_rfl) (by kernel_rfl) (fun _ _ _ h => h) (Or.inl ⟨by kernel_rfl, ?_⟩) (by assumption) ?_; rotate_left; (focus (intro w hSw; (try dsimp only at hSw); go_simp; first | done | with_reducible rfl | fail "take")); (try simp only [Act.put, List.setIfInBounds_toArray, List.set_cons_zero, List.set_cons_succ]))
              (refine takeL (i := 10) (v := ?_) rfl (by kernel_rfl) (by kernel_rfl) (by kernel_rfl) (fun _ _ _ h => h) (Or.inl ⟨by kernel_rfl, ?_⟩) (by assumption) ?_; rotate_left; (focus (intro w hSw; (try dsimp only at hSw); go_simp; first | done | with_reducible rfl | fail "take")); (try simp only [Act.put, List.setIfInBounds_toArray, List.set_cons_zero, List.set_cons_succ]))
              refine wpAnyH_done (by kernel_rfl) ?_ _
              go_wp2_with fail
              go_roundw
              case rel => exact ⟨k + 1, by omega, by go_num, hbt.trans ((show Below wr.heap.size wr _ by ((repeat (first | with_reducible assumption | with_reducible exact Below.refl _ _ | refine Below.setCell ?_ (by (first | omega | (simp; omega) | (simp; done) | fail "sml")) _ | refine Below.drew ?_ | refine Below.alloc ?_ (by (first | omega | (simp; omega) | (simp; done) | fail "sml")) _)); first | done | fail "chs")).mono zwt)⟩
              case measure => simp [intOf]; omega
            · have q1 : decide ((k : Int) < (L.length : Int)) = false := decide_eq_false (by omega)
              have q2 : ((g.es.length : Int) == (g.es.length : Int)) = true := beq_self_eq_true _
              obtain ⟨⟨y0a, y0b⟩, _⟩ := HK.out wr (rwt)
              go_wp2_with fail
              go_ret
              exact ⟨rfl, HBW.out.trans (rwt.mono HBW.out.size)⟩

end Go.Proofs.Ytchhobphockhhaa
