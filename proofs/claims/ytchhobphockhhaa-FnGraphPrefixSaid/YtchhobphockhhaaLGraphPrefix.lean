/- The walk of FnGraphPrefix. -/
import Derived.Test.YtchhobphockhhaaL1G
import Derived.Test.YtchhobphockhhaaGLaw
import Derived.Test.YtchhobphockhhaaNVar
import Derived.Test.YtchhobphockhhaaGSame2
import Derived.Test.YtchhobphockhhaaAdd
import Derived.Test.YtchhobphockhhaaSGValid
import Derived.Test.YtchhobphockhhaaReg
namespace Go.Proofs.Ytchhobphockhhaa
open Go.RowKit

set_option maxRecDepth 100000 in
set_option maxHeartbeats 16000000 in
theorem lawGraphPrefix (zs : List Int) (v : Value) (w : World) (hv : Sl 1 byCells w.heap.size w v zs) (hz : ∀ z ∈ zs, 0 ≤ z ∧ z ≤ 255) :
    Calls Try.prog 10 #[v] w fun e w' => e = .returned (.bool true) ∧ Below w.heap.size w w' := by
  obtain ⟨p, cap, rfl⟩ := hv.form
  have hm := hv.max
  unfold maxLen at hm
  by_cases hb : (1048576 : Int) < zs.length
  · go_enter Try.func10, Try.ntmps10
    go_wp2_with fail
    go_ret
    exact ⟨rfl, Below.refl _ _⟩
  · go_enter Try.func10, Try.ntmps10
    go_wp2_with fail
    refine (drawGraphValid_any zs _ w.heap.size _ hv (Nat.le_refl _) hz).mono ?_
    rintro e wx ⟨g, vg, Fg, rfl, hg, hb1⟩
    clear hv
    obtain ⟨pg, cg, qg, dg, rfl⟩ := hg.1.form
    have Hg := Lib.hid hg.1.at
    have HB1 := Lib.hid hb1
    have HOK := Lib.hid hg.2.2.1
    have HLEN := Lib.hid hg.2.2.2
    clear hg hb1
    go_upto_region 4 with fail
    obtain ⟨W, eW⟩ : ∃ E, E = (wx).alloc (.cells #[.slice pg g.ns.length cg, .slice qg g.es.length dg] 55) := ⟨_, rfl⟩
    have zW : wx.heap.size < W.heap.size := by rw [eW]; simp
    have hbW : Below wx.heap.size wx W := by rw [eW]; exact (Below.refl _ _).alloc (Nat.le_refl _) _
    have HC := Lib.hid (show (W.cell? ⟨wx.heap.size, 0, none⟩ = some (.slice pg g.ns.length cg) ∧ W.cell? ⟨wx.heap.size, 1, none⟩ = some (.slice qg g.es.length dg)) by rw [eW]; exact ⟨by simp [go_sem], by simp [go_sem]⟩)
    rw [← eW]
    clear eW
    have HK := Lib.hid (fun (E : World) (hE : Below W.heap.size W E) => And.intro (show (E.cell? ⟨wx.heap.size, 0, none⟩ = some (.slice pg g.ns.length cg) ∧ E.cell? ⟨wx.heap.size, 1, none⟩ = some (.slice qg g.es.length dg)) from ⟨keepc hE (by omega) HC.out.1, keepc hE (by omega) HC.out.2⟩) (show (g : Gr).At W.heap.size E (.agg #[.slice pg g.ns.length cg, .slice qg g.es.length dg]) from (Hg.out.to hbW (Nat.le_refl _)).to (hE.mono (by omega)) (by omega)))
    have HBW := Lib.hid ((HB1.out.trans (hbW.mono HB1.out.size)) : Below w.heap.size w W)
    clear hbW HC HB1 Hg
    have r0 := Below.refl W.heap.size W
    obtain ⟨⟨y0a, y0b⟩, _⟩ := HK.out W (r0)
    obtain ⟨O, hO⟩ : ∃ O, RowKit.Hid (O = gv g) := ⟨_, Lib.hid rfl⟩
    go_wp2_with fail
    refine Calls.mono (graphValid_any g _ W.heap.size W (((HK.out W (r0)).2).to (Below.refl _ _) (by have := (r0).size; omega)) (Nat.le_refl _) HOK.out) ?_
    rw [← hO.out]
    rintro e wa ⟨rfl, hb⟩
    have rwa : Below W.heap.size W wa := (r0).trans (hb.mono (r0).size)
    have swa := rwa.size
    clear hb
    clear y0a y0b
    obtain ⟨⟨y0a, y0b⟩, _⟩ := HK.out wa (rwa)
    go_wp2_with fail
    cases O with
    | false =>
      refine Calls.mono (specGraphValid_any g _ wa.heap.size wa (((HK.out wa (rwa)).2).to (Below.refl _ _) (by have := (rwa).size; omega)) (Nat.le_refl _) HOK.out) ?_
      rw [← hO.out]
      rintro e wb ⟨rfl, hb⟩
      have rwb : Below W.heap.size W wb := (rwa).trans (hb.mono (rwa).size)
      have swb := rwb.size
      clear hb
      clear y0a y0b
      obtain ⟨⟨y0a, y0b⟩, _⟩ := HK.out wb (rwb)
      go_wp2_with fail
      refine Calls.mono (specGraphValid_any g _ wb.heap.size wb (((HK.out wb (rwb)).2).to (Below.refl _ _) (by have := (rwb).size; omega)) (Nat.le_refl _) HOK.out) ?_
      rw [← hO.out]
      rintro e wc1 ⟨rfl, hb⟩
      have rwc1 : Below W.heap.size W wc1 := (rwb).trans (hb.mono (rwb).size)
      have swc1 := rwc1.size
      clear hb
      clear y0a y0b
      obtain ⟨⟨y0a, y0b⟩, _⟩ := HK.out wc1 (rwc1)
      go_wp2_with fail
      go_ret
      exact ⟨rfl, HBW.out.trans ((rwc1).mono HBW.out.size)⟩

    | true =>
      refine Calls.mono (specGraphValid_any g _ wa.heap.size wa (((HK.out wa (rwa)).2).to (Below.refl _ _) (by have := (rwa).size; omega)) (Nat.le_refl _) HOK.out) ?_
      rw [← hO.out]
      rintro e wb ⟨rfl, hb⟩
      have rwb : Below W.heap.size W wb := (rwa).trans (hb.mono (rwa).size)
      have swb := rwb.size
      clear hb
      clear y0a y0b
      by_cases hz : g.es.length = 0
      · have q1 : ((g.es.length : Int) == 0) = true := beq_iff_eq.2 (by omega)
        clear hz
        obtain ⟨⟨y0a, y0b⟩, _⟩ := HK.out wb (rwb)
        go_wp2_with fail
        refine Calls.mono (specGraphValid_any g _ wb.heap.size wb (((HK.out wb (rwb)).2).to (Below.refl _ _) (by have := (rwb).size; omega)) (Nat.le_refl _) HOK.out) ?_
        rw [← hO.out]
        rintro e wc1 ⟨rfl, hb⟩
        have rwc1 : Below W.heap.size W wc1 := (rwb).trans (hb.mono (rwb).size)
        have swc1 := rwc1.size
        clear hb
        clear y0a y0b
        obtain ⟨⟨y0a, y0b⟩, _⟩ := HK.out wc1 (rwc1)
        go_wp2_with fail
        go_ret
        exact ⟨rfl, HBW.out.trans ((rwc1).mono HBW.out.size)⟩

      · have q1 : ((g.es.length : Int) == 0) = false := beq_eq_false_iff_ne.2 (by omega)
        obtain ⟨k, hk⟩ : ∃ k : Nat, RowKit.Hid (k + 1 = g.es.length) := ⟨g.es.length - 1, Lib.hid (by omega)⟩
        have hk1 : (g.es.length : Int) - 1 = (k : Int) := by have := hk.out; omega
        have hk2 : (k : Int) < (g.es.length : Int) := by have := hk.out; omega
        have hk2' : k < g.es.length := by have := hk.out; omega
        have HV := Lib.hid hO.out.symm
        have HE := Lib.hid (ext_last HV.out hk.out)
        have HGP := Lib.hid (gv_pre HV.out k)
        clear hz hO
        obtain ⟨v0, v1, e1, a1, a2⟩ := (HK.out wb (rwb)).2
        cases e1
        have hme := a2.max
        unfold maxLen at hme
        have hcap : (g.es.length : Int) ≤ (dg : Int) := by obtain ⟨_, _, _, e1, _, h3, _⟩ := a2; cases e1; omega
        have g2 : (k : Int) ≤ (dg : Int) := by omega
        have g4 : (k : Int) ≤ (g.es.length : Int) := by omega
        have g7 : k ≤ dg := by omega
        obtain ⟨b, off, rfl, hbb, c0, c1, c2, c3⟩ := a2.ed hk2'
        obtain ⟨x, ex⟩ : ∃ x, x = g.es[k]'hk2' := ⟨_, rfl⟩
        rw [← ex] at c0 c1 c2 c3 HE
        have HXO := Lib.hid (show x.Ok by rw [ex]; exact HOK.out.2 _ (List.getElem_mem hk2'))
        clear ex a1 a2
        have HZ := Lib.hid (fun (E : World) (hE : Below wb.heap.size wb E) => And.intro (keepc hE (by omega) c0) (And.intro (keepc hE (by omega) c1) (And.intro (keepc hE (by omega) c2) (keepc hE (by omega) c3))))
        clear c0 c1 c2 c3
        have KS := Lib.hid (fun (E : World) (hE : Below wb.heap.size wb E) => (HK.out E (rwb.trans (hE.mono swb))).1)
        have r1 := Below.refl wb.heap.size wb
        obtain ⟨⟨y0a, y0b⟩, _⟩ := HK.out wb (rwb)
        go_upto_region 8 with fail
        clear y0a y0b
        go_upto_region 8 with fail
        refine wp_region_held_drew (S := fun w' => (w'.cell? ⟨wx.heap.size, 0, none⟩ = some (.slice pg g.ns.length cg) ∧ w'.cell? ⟨wx.heap.size, 1, none⟩ = some (.slice (some ⟨b, off, none⟩) g.es.length dg))) (by kernel_rfl) ?_ (fun hHeld => ?_)
        · exact KS.out _ (show Below wb.heap.size wb _ by ((repeat (first | with_reducible assumption | with_reducible exact Below.refl _ _ | refine Below.setCell ?_ (by (first | omega | (simp; omega) | (simp; done) | fail "sml")) _ | refine Below.drew ?_ | refine Below.alloc ?_ (by (first | omega | (simp; omega) | (simp; done) | fail "sml")) _)); first | done | fail "chs"))
        (refine takeL (i := 0) (v := ?_) rfl (by kernel_rfl) (by kernel_rfl) (by kernel_rfl) (fun _ _ _ h => h) (Or.inl ⟨by kernel_rfl, ?_⟩) (by assumption) ?_; rotate_left; (focus (intro w hSw; (try dsimp only at hSw); go_simp; first | done | with_reducible rfl | fail "take")); (try simp only [Act.put, List.setIfInBounds_toArray, List.set_cons_zero, List.set_cons_succ]))
        (refine takeL (i := 1) (v := ?_) rfl (by kernel_rfl) (by kernel_rfl) (by kernel_rfl) (fun _ _ _ h => h) (Or.inl ⟨by kernel_rfl, ?_⟩) (by assumption) ?_; rotate_left; (focus (intro w hSw; (try dsimp only at hSw); go_simp; first | done | with_reducible rfl | fail "take")); (try simp only [Act.put, List.setIfInBounds_toArray, List.set_cons_zero, List.set_cons_succ]))
        (refine takeL (i := 2) (v := ?_) rfl (by kernel_rfl) (by kernel_rfl) (by kernel_rfl) (fun _ _ _ h => h) (Or.inl ⟨by kernel_rfl, ?_⟩) (by assumption) ?_; rotate_left; (focus (intro w hSw; (try dsimp only at hSw); go_simp; first | done | with_reducible rfl | fail "take")); (try simp only [Act.put, List.setIfInBounds_toArray, List.set_cons_zero, List.set_cons_succ]))
        (refine takeL (i := 3) (v := ?_) rfl (by kernel_rfl) (by kernel_rfl) (by kernel_rfl) (fun _ _ _ h => h) (Or.inl ⟨by kernel_rfl, ?_⟩) (by assumption) ?_; rotate_left; (focus (intro w hSw; (try dsimp only at hSw); go_simp; first | done | with_reducible rfl | fail "take")); (try simp only [Act.put, List.setIfInBounds_toArray, List.set_cons_zero, List.set_cons_succ]))
        (refine takeL (i := 4) (v := ?_) rfl (by kernel_rfl) (by kernel_rfl) (by kernel_rfl) (fun _ _ _ h => h) (Or.inl ⟨by kernel_rfl, ?_⟩) (by assumption) ?_; rotate_left; (focus (intro w hSw; (try dsimp only at hSw); go_simp; first | done | with_reducible rfl | fail "take")); (try simp only [Act.put, List.setIfInBounds_toArray, List.set_cons_zero, List.set_cons_succ]))
        (refine takeL (i := 5) (v := ?_) rfl (by kernel_rfl) (by kernel_rfl) (by kernel_rfl) (fun _ _ _ h => h) (Or.inl ⟨by kernel_rfl, ?_⟩) (by assumption) ?_; rotate_left; (focus (intro w hSw; (try dsimp only at hSw); go_simp; first | done | with_reducible rfl | fail "take")); (try simp only [Act.put, List.setIfInBounds_toArray, List.set_cons_zero, List.set_cons_succ]))
        (refine takeL (i := 6) (v := ?_) rfl (by kernel_rfl) (by kernel_rfl) (by kernel_rfl) (fun _ _ _ h => h) (Or.inl ⟨by kernel_rfl, ?_⟩) (by assumption) ?_; rotate_left; (focus (intro w hSw; (try dsimp only at hSw); go_simp; first | done | with_reducible rfl | fail "take")); (try simp only [Act.put, List.setIfInBounds_toArray, List.set_cons_zero, List.set_cons_succ]))
        (refine callL (i := 7) rfl (by kernel_rfl) (by kernel_rfl) (fun K hK => ?_); go_simp)
        refine hK.out _ _ (KS.out _ (show Below wb.heap.size wb _ by ((repeat (first | with_reducible assumption | with_reducible exact Below.refl _ _ | refine Below.setCell ?_ (by (first | omega | (simp; omega) | (simp; done) | fail "sml")) _ | refine Below.drew ?_ | refine Below.alloc ?_ (by (first | omega | (simp; omega) | (simp; done) | fail "sml")) _)); first | done | fail "chs"))) (fun hHeld => ?_)
        clear hK K
        (try simp only [Act.put, List.setIfInBounds_toArray, List.set_cons_zero, List.set_cons_succ])
        (refine callL (i := 8) rfl (by kernel_rfl) (by kernel_rfl) (fun K hK => ?_); go_simp)
        refine hK.out _ _ (KS.out _ (show Below wb.heap.size wb _ by ((repeat (first | with_reducible assumption | with_reducible exact Below.refl _ _ | refine Below.setCell ?_ (by (first | omega | (simp; omega) | (simp; done) | fail "sml")) _ | refine Below.drew ?_ | refine Below.alloc ?_ (by (first | omega | (simp; omega) | (simp; done) | fail "sml")) _)); first | done | fail "chs"))) (fun hHeld => ?_)
        clear hK K
        (try simp only [Act.put, List.setIfInBounds_toArray, List.set_cons_zero, List.set_cons_succ])
        refine wpAnyH_done (by kernel_rfl) ?_ _
        obtain ⟨W8, eW8⟩ : ∃ E, E = (wb.alloc (.cells #[.slice pg g.ns.length cg, .slice (some ⟨b, off, none⟩) k dg] 55)).drew := ⟨_, rfl⟩
        have lW8 : Below wb.heap.size wb W8 := by rw [eW8]; exact ((Below.refl _ _).alloc (Nat.le_refl _) _).drew
        have zW8 : wb.heap.size < W8.heap.size := by rw [eW8]; show wb.heap.size < (wb.alloc _).heap.size; simp
        have CW8 := Lib.hid (show (W8.cell? ⟨wb.heap.size, 0, none⟩ = some (.slice pg g.ns.length cg) ∧ W8.cell? ⟨wb.heap.size, 1, none⟩ = some (.slice (some ⟨b, off, none⟩) k dg)) by rw [eW8]; exact ⟨by simp [go_sem], by simp [go_sem]⟩)
        go_upto_region 9 with fail
        rw [← eW8]
        clear eW8
        have rW8 : Below W.heap.size W W8 := rwb.trans (lW8.mono swb)
        have sW8 := rW8.size
        have KW8 := Lib.hid (fun (E : World) (hE : Below W8.heap.size W8 E) => And.intro (HK.out E (rW8.trans (hE.mono sW8))) (show (E.cell? ⟨wb.heap.size, 0, none⟩ = some (.slice pg g.ns.length cg) ∧ E.cell? ⟨wb.heap.size, 1, none⟩ = some (.slice (some ⟨b, off, none⟩) k dg)) ∧ ((⟨g.ns, g.es.take k⟩ : Gr) : Gr).At W8.heap.size E (.agg #[.slice pg g.ns.length cg, .slice (some ⟨b, off, none⟩) k dg]) from ⟨⟨keepc hE zW8 CW8.out.1, keepc hE zW8 CW8.out.2⟩, pre_at (Gr.At.to ((HK.out E (rwb.trans ((lW8.trans (hE.mono (by omega))).mono swb))).2) (Below.refl _ _) (by omega)) (by omega)⟩))
        have BW8 := Lib.hid ((HBW.out.trans (rW8.mono HBW.out.size)) : Below w.heap.size w W8)
        have lk8 := lW8
        clear CW8  HBW rW8 lW8 rwb swb r0 HK
        have HBW := BW8
        clear BW8
        have r0 := Below.refl W8.heap.size W8
        have HZ8 := Lib.hid (fun (E : World) (hE : Below W8.heap.size W8 E) => HZ.out E (lk8.trans (hE.mono (by omega))))
        have KS9 := Lib.hid (fun (E : World) (hE : Below W8.heap.size W8 E) => And.intro ((KW8.out E (hE)).1.1) (And.intro ((KW8.out E (hE)).2.1) (HZ8.out E hE)))
        have HAX := Lib.hid (fun (E : World) (hE : Below W8.heap.size W8 E) => (KW8.out E (hE)).2.2)
        go_upto_region 9 with fail
        go_cut [7, 8] (fun t fine wx => fine = .bool true ∧ ∃ ba, t = .pointer (some ⟨ba, 0, none⟩) ∧ VarG (g) ba W8.heap.size wx ∧ Below W8.heap.size W8 wx)
        case first =>
          refine wp_region_E (last := 12) (S := fun w' => (w'.cell? ⟨wx.heap.size, 0, none⟩ = some (.slice pg g.ns.length cg) ∧ w'.cell? ⟨wx.heap.size, 1, none⟩ = some (.slice (some ⟨b, off, none⟩) g.es.length dg)) ∧ (w'.cell? ⟨wb.heap.size, 0, none⟩ = some (.slice pg g.ns.length cg) ∧ w'.cell? ⟨wb.heap.size, 1, none⟩ = some (.slice (some ⟨b, off, none⟩) k dg)) ∧ (w'.cell? ⟨b, off + k * 4, none⟩ = some (.int .i64 x.f) ∧ w'.cell? ⟨b, off + k * 4 + 1, none⟩ = some (.int .i64 x.t) ∧ w'.cell? ⟨b, off + k * 4 + 2, none⟩ = some (.string x.l) ∧ w'.cell? ⟨b, off + k * 4 + 3, none⟩ = some (.int .i64 x.n))) (by kernel_rfl) ?_ (fun hHeld => ?_)
          · exact KS9.out _ ((Below.refl _ _).drew)
          have cW0 : Below W8.heap.size W8 W8.drew := (Below.refl _ _).drew
          generalize W8.drew = W0 at cW0 hHeld ⊢
          have yW0 := cW0.size
          (refine takeE (i := 0) (v := ?_) [] rfl (by kernel_rfl) (by kernel_rfl) (fun _ _ _ h => h) (Or.inl ⟨by kernel_rfl, ?_⟩) (by assumption) ?_; rotate_left; (focus (intro w hSw; (try dsimp only at hSw); go_simp; first | done | with_reducible rfl | fail "takeE")); (try simp only [Act.put, List.setIfInBounds_toArray, List.set_cons_zero, List.set_cons_succ]))
          (refine takeE (i := 1) (v := ?_) [] rfl (by kernel_rfl) (by kernel_rfl) (fun _ _ _ h => h) (Or.inl ⟨by kernel_rfl, ?_⟩) (by assumption) ?_; rotate_left; (focus (intro w hSw; (try dsimp only at hSw); go_simp; first | done | with_reducible rfl | fail "takeE")); (try simp only [Act.put, List.setIfInBounds_toArray, List.set_cons_zero, List.set_cons_succ]))
          (refine takeE (i := 2) (v := ?_) [] rfl (by kernel_rfl) (by kernel_rfl) (fun _ _ _ h => h) (Or.inl ⟨by kernel_rfl, ?_⟩) (by assumption) ?_; rotate_left; (focus (intro w hSw; (try dsimp only at hSw); go_simp; first | done | with_reducible rfl | fail "takeE")); (try simp only [Act.put, List.setIfInBounds_toArray, List.set_cons_zero, List.set_cons_succ]))
          (refine takeE (i := 3) (v := ?_) [] rfl (by kernel_rfl) (by kernel_rfl) (fun _ _ _ h => h) (Or.inl ⟨by kernel_rfl, ?_⟩) (by assumption) ?_; rotate_left; (focus (intro w hSw; (try dsimp only at hSw); go_simp; first | done | with_reducible rfl | fail "takeE")); (try simp only [Act.put, List.setIfInBounds_toArray, List.set_cons_zero, List.set_cons_succ]))
          (refine takeE (i := 4) (v := ?_) [] rfl (by kernel_rfl) (by kernel_rfl) (fun _ _ _ h => h) (Or.inl ⟨by kernel_rfl, ?_⟩) (by assumption) ?_; rotate_left; (focus (intro w hSw; (try dsimp only at hSw); go_simp; first | done | with_reducible rfl | fail "takeE")); (try simp only [Act.put, List.setIfInBounds_toArray, List.set_cons_zero, List.set_cons_succ]))
          (refine takeE (i := 5) (v := ?_) [] rfl (by kernel_rfl) (by kernel_rfl) (fun _ _ _ h => h) (Or.inl ⟨by kernel_rfl, ?_⟩) (by assumption) ?_; rotate_left; (focus (intro w hSw; (try dsimp only at hSw); go_simp; first | done | with_reducible rfl | fail "takeE")); (try simp only [Act.put, List.setIfInBounds_toArray, List.set_cons_zero, List.set_cons_succ]))
          refine upE (rs := [6, 10]) (by kernel_rfl) (by simp) (AllE'.cons (i := 6) rfl (by kernel_rfl) (fun K hK => ?_) (AllE'.cons (i := 10) rfl (by kernel_rfl) (fun K hK => ?_) AllE'.nil))
          · go_simp
            go_at_call 32
            refine Calls.mono (addEdge_any ⟨g.ns, g.es.take k⟩ _ x W8.heap.size W0 (HAX.out W0 cW0) cW0.size ⟨HOK.out.1, fun e he => HOK.out.2 e (List.mem_of_mem_take he)⟩ HXO.out) ?_
            rw [HE.out.1, HE.out.2]
            rintro en U1 ⟨vJ, FJ, GJ, rfl, hs, kU1⟩
            obtain ⟨pt, ct, qt, dt, rfl⟩ := Gr.At.form' hs.at
            have hJl := hs.lo
            have cU1 : Below W8.heap.size W8 U1 := cW0.trans (kU1.mono cW0.size)
            have yU1 := kU1.size
            have oJ := hs.has
            clear hs
            go_wp2_with fail
            refine hK.out _ _ (KS9.out U1 (cU1)) (fun hHeld => ?_)
            clear hK K
            (try simp only [Act.put, List.setIfInBounds_toArray, List.set_cons_zero, List.set_cons_succ])
            (refine takeE (i := 7) (v := ?_) [] rfl (by kernel_rfl) (by kernel_rfl) (fun _ _ _ h => h) (Or.inl ⟨by kernel_rfl, ?_⟩) (by assumption) ?_; rotate_left; (focus (intro w hSw; (try dsimp only at hSw); go_simp; first | done | with_reducible rfl | fail "takeE")); (try simp only [Act.put, List.setIfInBounds_toArray, List.set_cons_zero, List.set_cons_succ]))
            (refine takeE (i := 8) (v := ?_) [] rfl (by kernel_rfl) (by kernel_rfl) (fun _ _ _ h => h) (Or.inl ⟨by kernel_rfl, ?_⟩) (by assumption) ?_; rotate_left; (focus (intro w hSw; (try dsimp only at hSw); go_simp; first | done | with_reducible rfl | fail "takeE")); (try simp only [Act.put, List.setIfInBounds_toArray, List.set_cons_zero, List.set_cons_succ]))
            (refine takeE (i := 9) (v := ?_) [] rfl (by kernel_rfl) (by kernel_rfl) (fun _ _ _ h => h) (Or.inl ⟨by kernel_rfl, ?_⟩) (by assumption) ?_; rotate_left; (focus (intro w hSw; (try dsimp only at hSw); go_simp; first | done | with_reducible rfl | fail "takeE")); (try simp only [Act.put, List.setIfInBounds_toArray, List.set_cons_zero, List.set_cons_succ]))
            refine oneE (i := 10) rfl (by kernel_rfl) (by kernel_rfl) (fun K hK => ?_)
            have nJ : ∀ z ∈ FJ ++ GJ, z ≠ U1.heap.size := fun z hz => by have := hJl z hz; omega
            go_simp
            refine madeNVar (K := K) ?_
            intro U2 kU2 nv
            have cU2 : Below W8.heap.size W8 U2 := cU1.trans (kU2.mono cU1.size)
            have yU2 := kU2.size
            replace oJ := (Gr.Has.chg oJ (Chg.of_below kU2 []) (by simp))
            have bv : W8.heap.size ≤ U1.heap.size := cU1.size
            have sv := nv.1
            refine hK.out _ _ (KS9.out U2 (cU2)) (fun hHeld => ?_)
            clear hK K
            (try simp only [Act.put, List.setIfInBounds_toArray, List.set_cons_zero, List.set_cons_succ])
            refine oneE (i := 11) rfl (by kernel_rfl) (by kernel_rfl) (fun K hK => ?_)
            obtain ⟨v0, v1, v2, v3, v4⟩ := nv
            have hset : Below W8.heap.size W8 ((U2.setCell ⟨U1.heap.size, 0, none⟩ (.slice pt (g).ns.length ct)).setCell ⟨U1.heap.size, 1, none⟩ (.slice qt (g).es.length dt)) := (cU2.setCell (by show W8.heap.size ≤ _; omega) _).setCell (by show W8.heap.size ≤ _; omega) _
            go_simp
            refine hK.out _ _ (KS9.out _ (hset)) (fun hHeld => ?_)
            clear hK K
            (try simp only [Act.put, List.setIfInBounds_toArray, List.set_cons_zero, List.set_cons_succ])
            refine lastE rfl (by kernel_rfl) (by kernel_rfl) (fun K hK => ?_)
            go_simp
            refine hK.out _ _ ?_
            clear hK K
            refine doneE (by kernel_rfl) ?_ _
            go_wp2_with fail
            go_meet
            exact ⟨rfl, _, rfl, VarG.mk ⟨v0, v1, v2, v3, v4⟩ oJ nJ bv, hset⟩
          · go_simp
            refine madeNVar (K := K) ?_
            intro U3 kU3 nv
            have cU3 : Below W8.heap.size W8 U3 := cW0.trans (kU3.mono cW0.size)
            have yU3 := kU3.size
            have bv : W8.heap.size ≤ W0.heap.size := cW0.size
            have sv := nv.1
            refine hK.out _ _ (KS9.out U3 (cU3)) (fun hHeld => ?_)
            clear hK K
            (try simp only [Act.put, List.setIfInBounds_toArray, List.set_cons_zero, List.set_cons_succ])
            refine oneE (i := 6) rfl (by kernel_rfl) (by kernel_rfl) (fun K hK => ?_)
            go_simp
            go_at_call 32
            refine Calls.mono (addEdge_any ⟨g.ns, g.es.take k⟩ _ x W8.heap.size U3 (HAX.out U3 cU3) cU3.size ⟨HOK.out.1, fun e he => HOK.out.2 e (List.mem_of_mem_take he)⟩ HXO.out) ?_
            rw [HE.out.1, HE.out.2]
            rintro en U4 ⟨vJ, FJ, GJ, rfl, hs, kU4⟩
            obtain ⟨pt, ct, qt, dt, rfl⟩ := Gr.At.form' hs.at
            have hJl := hs.lo
            have cU4 : Below W8.heap.size W8 U4 := cU3.trans (kU4.mono cU3.size)
            have yU4 := kU4.size
            replace nv := nv.below kU4
            have nJ : ∀ z ∈ FJ ++ GJ, z ≠ W0.heap.size := fun z hz => by have := hJl z hz; omega
            have oJ := hs.has
            clear hs
            go_wp2_with fail
            refine hK.out _ _ (KS9.out U4 (cU4)) (fun hHeld => ?_)
            clear hK K
            (try simp only [Act.put, List.setIfInBounds_toArray, List.set_cons_zero, List.set_cons_succ])
            (refine takeE (i := 7) (v := ?_) [] rfl (by kernel_rfl) (by kernel_rfl) (fun _ _ _ h => h) (Or.inl ⟨by kernel_rfl, ?_⟩) (by assumption) ?_; rotate_left; (focus (intro w hSw; (try dsimp only at hSw); go_simp; first | done | with_reducible rfl | fail "takeE")); (try simp only [Act.put, List.setIfInBounds_toArray, List.set_cons_zero, List.set_cons_succ]))
            (refine takeE (i := 8) (v := ?_) [] rfl (by kernel_rfl) (by kernel_rfl) (fun _ _ _ h => h) (Or.inl ⟨by kernel_rfl, ?_⟩) (by assumption) ?_; rotate_left; (focus (intro w hSw; (try dsimp only at hSw); go_simp; first | done | with_reducible rfl | fail "takeE")); (try simp only [Act.put, List.setIfInBounds_toArray, List.set_cons_zero, List.set_cons_succ]))
            (refine takeE (i := 9) (v := ?_) [] rfl (by kernel_rfl) (by kernel_rfl) (fun _ _ _ h => h) (Or.inl ⟨by kernel_rfl, ?_⟩) (by assumption) ?_; rotate_left; (focus (intro w hSw; (try dsimp only at hSw); go_simp; first | done | with_reducible rfl | fail "takeE")); (try simp only [Act.put, List.setIfInBounds_toArray, List.set_cons_zero, List.set_cons_succ]))
            refine oneE (i := 11) rfl (by kernel_rfl) (by kernel_rfl) (fun K hK => ?_)
            obtain ⟨v0, v1, v2, v3, v4⟩ := nv
            have hset : Below W8.heap.size W8 ((U4.setCell ⟨W0.heap.size, 0, none⟩ (.slice pt (g).ns.length ct)).setCell ⟨W0.heap.size, 1, none⟩ (.slice qt (g).es.length dt)) := (cU4.setCell (by show W8.heap.size ≤ _; omega) _).setCell (by show W8.heap.size ≤ _; omega) _
            go_simp
            refine hK.out _ _ (KS9.out _ (hset)) (fun hHeld => ?_)
            clear hK K
            (try simp only [Act.put, List.setIfInBounds_toArray, List.set_cons_zero, List.set_cons_succ])
            refine lastE rfl (by kernel_rfl) (by kernel_rfl) (fun K hK => ?_)
            go_simp
            refine hK.out _ _ ?_
            clear hK K
            refine doneE (by kernel_rfl) ?_ _
            go_wp2_with fail
            go_meet
            exact ⟨rfl, _, rfl, VarG.mk ⟨v0, v1, v2, v3, v4⟩ oJ nJ bv, hset⟩
        case rest =>
          obtain ⟨rfl, bW9, rfl, hva, hbx⟩ := hcut
          obtain ⟨W9, eW9⟩ : ∃ E, E = wc := ⟨_, rfl⟩
          subst eW9
          obtain ⟨pW9, cW9, qW9, dW9, hcs, hat, hba, hbs⟩ := hva
          have rW9 : Below W8.heap.size W8 W9 := (r0).trans (hbx.mono (r0).size)
          have sW9 := rW9.size
          have HCS := Lib.hid hcs
          have HAT := Lib.hid hat
          have KW9 := Lib.hid (fun (E : World) (hE : Below W9.heap.size W9 E) => And.intro (KW8.out E (rW9.trans (hE.mono sW9))) (show (E.cell? ⟨bW9, 0, none⟩ = some (.slice pW9 (g).ns.length cW9) ∧ E.cell? ⟨bW9, 1, none⟩ = some (.slice qW9 (g).es.length dW9)) ∧ (g : Gr).At W9.heap.size E (.agg #[.slice pW9 (g).ns.length cW9, .slice qW9 (g).es.length dW9]) from ⟨⟨keepc hE hbs HCS.out.1, keepc hE hbs HCS.out.2⟩, HAT.out.to hE (Nat.le_refl _)⟩))
          have BW9 := Lib.hid ((HBW.out.trans (rW9.mono HBW.out.size)) : Below w.heap.size w W9)
          clear hcs hat HCS HAT HBW r0 rW9 hbx
          have HBW := BW9
          clear BW9
          have r0 := Below.refl W9.heap.size W9
          obtain ⟨⟨⟨⟨y0a, y0b⟩, _⟩, ⟨y1a, y1b⟩, _⟩, ⟨y2a, y2b⟩, _⟩ := KW9.out W9 (r0)
          go_wp2_with fail
          refine Calls.mono (graphValid_any ⟨g.ns, g.es.take k⟩ _ W9.heap.size W9 (((KW9.out W9 (r0)).1.2.2).to (Below.refl _ _) (by have := (r0).size; omega)) (Nat.le_refl _) ⟨HOK.out.1, fun e he => HOK.out.2 e (List.mem_of_mem_take he)⟩) ?_
          rw [HGP.out]
          rintro e we ⟨rfl, hb⟩
          have rwe : Below W9.heap.size W9 we := (r0).trans (hb.mono (r0).size)
          have swe := rwe.size
          clear hb
          clear y0a y0b y1a y1b y2a y2b
          obtain ⟨⟨⟨⟨y0a, y0b⟩, _⟩, ⟨y1a, y1b⟩, _⟩, ⟨y2a, y2b⟩, _⟩ := KW9.out we (rwe)
          go_wp2_with fail
          refine Calls.mono (graphSame_any g g _ _ we.heap.size we (((KW9.out we (rwe)).2.2).to (Below.refl _ _) (by have := (rwe).size; omega)) (((KW9.out we (rwe)).1.1.2).to (Below.refl _ _) (by have := (rwe).size; omega)) (Nat.le_refl _)) ?_
          rw [gs_refl]
          rintro e wf ⟨rfl, hb⟩
          have rwf : Below W9.heap.size W9 wf := (rwe).trans (hb.mono (rwe).size)
          have swf := rwf.size
          clear hb
          clear y0a y0b y1a y1b y2a y2b
          obtain ⟨⟨⟨⟨y0a, y0b⟩, _⟩, ⟨y1a, y1b⟩, _⟩, ⟨y2a, y2b⟩, _⟩ := KW9.out wf (rwf)
          go_wp2_with fail
          go_ret
          exact ⟨rfl, HBW.out.trans ((rwf).mono HBW.out.size)⟩

end Go.Proofs.Ytchhobphockhhaa
