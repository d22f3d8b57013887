/- The walk of FnMergeElems. -/
import Derived.Test.YtbbemeaojmfndaaDoorM10q1p1
import Derived.Test.YtbbemeaojmfndaaDoorM6q0p1
import Derived.Deep.RegionHeld3
import Derived.Deep.DeepCutAuto
import Derived.Test.YtbbemeaojmfndaaDoorM0q0p1
import Derived.Test.YtbbemeaojmfndaaDoorM7q0p1
import Derived.Test.YtbbemeaojmfndaaDoorFitsI
namespace Go.Proofs.YtbbemeaojmfndaaDoor
open Go.RowKit

theorem nodeFits_to {g : Gr} {e : El} {n : Int} {r : Bool} (h : nodeF g n e = r) (v u : Value) (B : Nat) (w : World) (hg : g.At B w v) (hu : e.At B w u) (hB : B ≤ w.heap.size) (hok : g.Ok) (hs : e.Sm) (hvars : Vars w) :
    Calls Tryd.prog 12 #[v, .int .i64 n, u] w fun en w' => en = .returned (.bool r) ∧ Below w.heap.size w w' := by
  subst h
  exact nodeFits_any g e v u n B w hg hu hB hok hs hvars

set_option maxRecDepth 100000 in
set_option maxHeartbeats 16000000 in
theorem lawMergeElems (zs : List Int) (zs2 : List Int) (v v2 : Value) (w : World) (hv : Sl 1 byCells w.heap.size w v zs) (hv2 : Sl 1 byCells w.heap.size w v2 zs2) (hz : ∀ z ∈ zs, 0 ≤ z ∧ z ≤ 255) (hz2 : ∀ z ∈ zs2, 0 ≤ z ∧ z ≤ 255) (hvars : Vars w) :
    Calls Tryd.prog 3 #[v, v2] w fun e w' => e = .returned (.bool true) ∧ Below w.heap.size w w' := by
  have HVV := Lib.hid hvars
  clear hvars
  obtain ⟨p, cap, rfl⟩ := hv.form
  have hm := hv.max
  unfold maxLen at hm
  obtain ⟨p2, cap2, rfl⟩ := hv2.form
  have hm2 := hv2.max
  unfold maxLen at hm2
  have HV2 := Lib.hid hv2
  clear hv2
  by_cases hbig : (1048576 : Int) < zs.length
  · go_enter Tryd.func3, Tryd.ntmps3
    go_wp2_with fail
    go_ret
    exact ⟨rfl, Below.refl _ _⟩
  by_cases hbig2 : (1048576 : Int) < zs2.length
  · go_enter Tryd.func3, Tryd.ntmps3
    go_wp2_with fail
    go_ret
    exact ⟨rfl, Below.refl _ _⟩
  go_enter Tryd.func3, Tryd.ntmps3
  go_wp2_with fail
  have rw0 := Below.refl w.heap.size w
  refine Calls.mono (drawMergeElems_any zs _ w.heap.size _ hv (Nat.le_refl _) hz) ?_
  rintro en o1 ⟨⟨an, av, al, ac, ad⟩, p, c, p', c', ⟨bn, bv, bl, bc, bd⟩, q, d, q', d', rfl, ha, hb', hb⟩
  have rwo1 := Below.trans (show Below w.heap.size w _ by assumption) (hb.mono (by omega))
  have zwo1 := rwo1.size
  have hasm := ha.sm
  have hbsm := hb'.sm
  obtain ⟨FA, hah⟩ := ha.has
  obtain ⟨FB, hbh⟩ := hb'.has
  have HAA := Lib.hid hah
  have HBB := Lib.hid hbh
  clear ha hb' hah hbh
  clear hb 
  have ro10 := Below.refl o1.heap.size o1
  go_upto_region 4 with fail
  obtain ⟨W, eW⟩ : ∃ E, E = (o1.alloc (.cells #[.bool an, .string av, .int .i64 al.op, .string al.a, .slice p al.ks.list.length c, .int .i64 ac.op, .string ac.a, .slice p' ac.ks.list.length c', .int .i64 ad] 27)).alloc (.cells #[.bool bn, .string bv, .int .i64 bl.op, .string bl.a, .slice q bl.ks.list.length d, .int .i64 bc.op, .string bc.a, .slice q' bc.ks.list.length d', .int .i64 bd] 27) := ⟨_, rfl⟩
  have kW : Below o1.heap.size o1 W := by rw [eW]; ((repeat (first | with_reducible assumption | with_reducible exact Below.refl _ _ | refine Below.setCell ?_ (by (first | omega | (simp; omega) | (simp; done) | fail "sml")) _ | refine Below.drew ?_ | refine Below.alloc ?_ (by (first | omega | (simp; omega) | (simp; done) | fail "sml")) _)); first | done | fail "chs")
  have sW : o1.heap.size + 1 < W.heap.size := by rw [eW]; simp
  have HCW := Lib.hid (show (W.cell? ⟨o1.heap.size, 0, none⟩ = some (.bool an) ∧ W.cell? ⟨o1.heap.size, 1, none⟩ = some (.string av) ∧ W.cell? ⟨o1.heap.size, 2, none⟩ = some (.int .i64 al.op) ∧ W.cell? ⟨o1.heap.size, 3, none⟩ = some (.string al.a) ∧ W.cell? ⟨o1.heap.size, 4, none⟩ = some (.slice p al.ks.list.length c) ∧ W.cell? ⟨o1.heap.size, 5, none⟩ = some (.int .i64 ac.op) ∧ W.cell? ⟨o1.heap.size, 6, none⟩ = some (.string ac.a) ∧ W.cell? ⟨o1.heap.size, 7, none⟩ = some (.slice p' ac.ks.list.length c') ∧ W.cell? ⟨o1.heap.size, 8, none⟩ = some (.int .i64 ad) ∧ W.cell? ⟨o1.heap.size + 1, 0, none⟩ = some (.bool bn) ∧ W.cell? ⟨o1.heap.size + 1, 1, none⟩ = some (.string bv) ∧ W.cell? ⟨o1.heap.size + 1, 2, none⟩ = some (.int .i64 bl.op) ∧ W.cell? ⟨o1.heap.size + 1, 3, none⟩ = some (.string bl.a) ∧ W.cell? ⟨o1.heap.size + 1, 4, none⟩ = some (.slice q bl.ks.list.length d) ∧ W.cell? ⟨o1.heap.size + 1, 5, none⟩ = some (.int .i64 bc.op) ∧ W.cell? ⟨o1.heap.size + 1, 6, none⟩ = some (.string bc.a) ∧ W.cell? ⟨o1.heap.size + 1, 7, none⟩ = some (.slice q' bc.ks.list.length d') ∧ W.cell? ⟨o1.heap.size + 1, 8, none⟩ = some (.int .i64 bd)) from by rw [eW]; exact ⟨by simp [go_sem], by simp [go_sem], by simp [go_sem], by simp [go_sem], by simp [go_sem], by simp [go_sem], by simp [go_sem], by simp [go_sem], by simp [go_sem], by simp [go_sem], by simp [go_sem], by simp [go_sem], by simp [go_sem], by simp [go_sem], by simp [go_sem], by simp [go_sem], by simp [go_sem], by simp [go_sem]⟩)
  have rwW := Below.trans (show Below w.heap.size w _ by ((repeat (first | with_reducible assumption | with_reducible exact Below.refl _ _ | refine Below.setCell ?_ (by (first | omega | (simp; omega) | (simp; done) | fail "sml")) _ | refine Below.drew ?_ | refine Below.alloc ?_ (by (first | omega | (simp; omega) | (simp; done) | fail "sml")) _)); first | done | fail "chs")) (kW.mono (by (first | omega | (simp; omega) | (simp; done) | fail "sml")))
  have ro1W := Below.trans (show Below o1.heap.size o1 _ by ((repeat (first | with_reducible assumption | with_reducible exact Below.refl _ _ | refine Below.setCell ?_ (by (first | omega | (simp; omega) | (simp; done) | fail "sml")) _ | refine Below.drew ?_ | refine Below.alloc ?_ (by (first | omega | (simp; omega) | (simp; done) | fail "sml")) _)); first | done | fail "chs")) (kW.mono (by (first | omega | (simp; omega) | (simp; done) | fail "sml")))
  rw [← eW]
  have HKW := Lib.hid (fun (E : World) (hE : Below W.heap.size W E) => (⟨keepc hE (by omega) HCW.out.1, keepc hE (by omega) HCW.out.2.1, keepc hE (by omega) HCW.out.2.2.1, keepc hE (by omega) HCW.out.2.2.2.1, keepc hE (by omega) HCW.out.2.2.2.2.1, keepc hE (by omega) HCW.out.2.2.2.2.2.1, keepc hE (by omega) HCW.out.2.2.2.2.2.2.1, keepc hE (by omega) HCW.out.2.2.2.2.2.2.2.1, keepc hE (by omega) HCW.out.2.2.2.2.2.2.2.2.1, keepc hE (by omega) HCW.out.2.2.2.2.2.2.2.2.2.1, keepc hE (by omega) HCW.out.2.2.2.2.2.2.2.2.2.2.1, keepc hE (by omega) HCW.out.2.2.2.2.2.2.2.2.2.2.2.1, keepc hE (by omega) HCW.out.2.2.2.2.2.2.2.2.2.2.2.2.1, keepc hE (by omega) HCW.out.2.2.2.2.2.2.2.2.2.2.2.2.2.1, keepc hE (by omega) HCW.out.2.2.2.2.2.2.2.2.2.2.2.2.2.2.1, keepc hE (by omega) HCW.out.2.2.2.2.2.2.2.2.2.2.2.2.2.2.2.1, keepc hE (by omega) HCW.out.2.2.2.2.2.2.2.2.2.2.2.2.2.2.2.2.1, keepc hE (by omega) HCW.out.2.2.2.2.2.2.2.2.2.2.2.2.2.2.2.2.2⟩ : E.cell? ⟨o1.heap.size, 0, none⟩ = some (.bool an) ∧ E.cell? ⟨o1.heap.size, 1, none⟩ = some (.string av) ∧ E.cell? ⟨o1.heap.size, 2, none⟩ = some (.int .i64 al.op) ∧ E.cell? ⟨o1.heap.size, 3, none⟩ = some (.string al.a) ∧ E.cell? ⟨o1.heap.size, 4, none⟩ = some (.slice p al.ks.list.length c) ∧ E.cell? ⟨o1.heap.size, 5, none⟩ = some (.int .i64 ac.op) ∧ E.cell? ⟨o1.heap.size, 6, none⟩ = some (.string ac.a) ∧ E.cell? ⟨o1.heap.size, 7, none⟩ = some (.slice p' ac.ks.list.length c') ∧ E.cell? ⟨o1.heap.size, 8, none⟩ = some (.int .i64 ad) ∧ E.cell? ⟨o1.heap.size + 1, 0, none⟩ = some (.bool bn) ∧ E.cell? ⟨o1.heap.size + 1, 1, none⟩ = some (.string bv) ∧ E.cell? ⟨o1.heap.size + 1, 2, none⟩ = some (.int .i64 bl.op) ∧ E.cell? ⟨o1.heap.size + 1, 3, none⟩ = some (.string bl.a) ∧ E.cell? ⟨o1.heap.size + 1, 4, none⟩ = some (.slice q bl.ks.list.length d) ∧ E.cell? ⟨o1.heap.size + 1, 5, none⟩ = some (.int .i64 bc.op) ∧ E.cell? ⟨o1.heap.size + 1, 6, none⟩ = some (.string bc.a) ∧ E.cell? ⟨o1.heap.size + 1, 7, none⟩ = some (.slice q' bc.ks.list.length d') ∧ E.cell? ⟨o1.heap.size + 1, 8, none⟩ = some (.int .i64 bd)))
  have rW0 := Below.refl W.heap.size W
  obtain ⟨yW0, yW1, yW2, yW3, yW4, yW5, yW6, yW7, yW8, yW9, yW10, yW11, yW12, yW13, yW14, yW15, yW16, yW17⟩ := HKW.out _ rW0
  clear eW kW
  obtain ⟨⟨tn, tv, tl, tc, td⟩, ET⟩ : ∃ T, mergeR (⟨an, av, al, ac, ad⟩ : El) (⟨bn, bv, bl, bc, bd⟩ : El) = T := ⟨_, rfl⟩
  have hts := mergeR_small (⟨an, av, al, ac, ad⟩ : El) (⟨bn, bv, bl, bc, bd⟩ : El)
  rw [ET] at hts
  cases EM : mergeB (⟨an, av, al, ac, ad⟩ : El) (⟨bn, bv, bl, bc, bd⟩ : El) with
  | false =>
    go_wp2_with fail
    refine Calls.mono (mergeElems_to ET EM _ _ _ (HAA.out.below (show Below o1.heap.size o1 _ by assumption)).liv (HBB.out.below (show Below o1.heap.size o1 _ by assumption)).liv hasm hbsm (HVV.out.below (show Below w.heap.size w _ by assumption))) ?_
    rintro en o2 ⟨vT, FT, rfl, hTT, hlT, hb⟩
    have rwo2 := Below.trans (show Below w.heap.size w _ by assumption) (hb.mono (by omega))
    have zwo2 := rwo2.size
    have ro1o2 := Below.trans (show Below o1.heap.size o1 _ by assumption) (hb.mono (by omega))
    have zo1o2 := ro1o2.size
    have rWo2 := Below.trans (show Below W.heap.size W _ by assumption) (hb.mono (by omega))
    have zWo2 := rWo2.size
    obtain ⟨qT, dT, rT, eT, rfl⟩ := hTT.form
    have HAT := Lib.hid hTT
    clear hTT hlT
    clear hb yW0 yW1 yW2 yW3 yW4 yW5 yW6 yW7 yW8 yW9 yW10 yW11 yW12 yW13 yW14 yW15 yW16 yW17
    obtain ⟨yW0, yW1, yW2, yW3, yW4, yW5, yW6, yW7, yW8, yW9, yW10, yW11, yW12, yW13, yW14, yW15, yW16, yW17⟩ := HKW.out _ rWo2
    have ro20 := Below.refl o2.heap.size o2
    go_upto_region 5 with fail
    obtain ⟨VT, eVT⟩ : ∃ E, E = o2.alloc (.cells #[.bool tn, .string tv, .int .i64 tl.op, .string tl.a, .slice qT tl.ks.list.length dT, .int .i64 tc.op, .string tc.a, .slice rT tc.ks.list.length eT, .int .i64 td] 27) := ⟨_, rfl⟩
    have sVT : o2.heap.size < VT.heap.size := by rw [eVT]; simp
    have kVT : Below o2.heap.size o2 VT := by rw [eVT]; ((repeat (first | with_reducible assumption | with_reducible exact Below.refl _ _ | refine Below.setCell ?_ (by (first | omega | (simp; omega) | (simp; done) | fail "sml")) _ | refine Below.drew ?_ | refine Below.alloc ?_ (by (first | omega | (simp; omega) | (simp; done) | fail "sml")) _)); first | done | fail "chs")
    have HCVT := Lib.hid (show VT.cell? ⟨o2.heap.size, 0, none⟩ = some (.bool tn) ∧ VT.cell? ⟨o2.heap.size, 1, none⟩ = some (.string tv) ∧ VT.cell? ⟨o2.heap.size, 2, none⟩ = some (.int .i64 tl.op) ∧ VT.cell? ⟨o2.heap.size, 3, none⟩ = some (.string tl.a) ∧ VT.cell? ⟨o2.heap.size, 4, none⟩ = some (.slice qT tl.ks.list.length dT) ∧ VT.cell? ⟨o2.heap.size, 5, none⟩ = some (.int .i64 tc.op) ∧ VT.cell? ⟨o2.heap.size, 6, none⟩ = some (.string tc.a) ∧ VT.cell? ⟨o2.heap.size, 7, none⟩ = some (.slice rT tc.ks.list.length eT) ∧ VT.cell? ⟨o2.heap.size, 8, none⟩ = some (.int .i64 td) from by rw [eVT]; exact ⟨by simp [go_sem], by simp [go_sem], by simp [go_sem], by simp [go_sem], by simp [go_sem], by simp [go_sem], by simp [go_sem], by simp [go_sem], by simp [go_sem]⟩)
    skip
    rw [← eVT]
    have rwVT := Below.trans (show Below w.heap.size w _ by ((repeat (first | with_reducible assumption | with_reducible exact Below.refl _ _ | refine Below.setCell ?_ (by (first | omega | (simp; omega) | (simp; done) | fail "sml")) _ | refine Below.drew ?_ | refine Below.alloc ?_ (by (first | omega | (simp; omega) | (simp; done) | fail "sml")) _)); first | done | fail "chs")) (kVT.mono (by (first | omega | (simp; omega) | (simp; done) | fail "sml")))
    have ro1VT := Below.trans (show Below o1.heap.size o1 _ by ((repeat (first | with_reducible assumption | with_reducible exact Below.refl _ _ | refine Below.setCell ?_ (by (first | omega | (simp; omega) | (simp; done) | fail "sml")) _ | refine Below.drew ?_ | refine Below.alloc ?_ (by (first | omega | (simp; omega) | (simp; done) | fail "sml")) _)); first | done | fail "chs")) (kVT.mono (by (first | omega | (simp; omega) | (simp; done) | fail "sml")))
    have rWVT := Below.trans (show Below W.heap.size W _ by ((repeat (first | with_reducible assumption | with_reducible exact Below.refl _ _ | refine Below.setCell ?_ (by (first | omega | (simp; omega) | (simp; done) | fail "sml")) _ | refine Below.drew ?_ | refine Below.alloc ?_ (by (first | omega | (simp; omega) | (simp; done) | fail "sml")) _)); first | done | fail "chs")) (kVT.mono (by (first | omega | (simp; omega) | (simp; done) | fail "sml")))
    have ro2VT := Below.trans (show Below o2.heap.size o2 _ by ((repeat (first | with_reducible assumption | with_reducible exact Below.refl _ _ | refine Below.setCell ?_ (by (first | omega | (simp; omega) | (simp; done) | fail "sml")) _ | refine Below.drew ?_ | refine Below.alloc ?_ (by (first | omega | (simp; omega) | (simp; done) | fail "sml")) _)); first | done | fail "chs")) (kVT.mono (by (first | omega | (simp; omega) | (simp; done) | fail "sml")))
    have HKVT := Lib.hid (fun (E : World) (hE : Below VT.heap.size VT E) => (⟨keepc hE sVT HCVT.out.1, keepc hE sVT HCVT.out.2.1, keepc hE sVT HCVT.out.2.2.1, keepc hE sVT HCVT.out.2.2.2.1, keepc hE sVT HCVT.out.2.2.2.2.1, keepc hE sVT HCVT.out.2.2.2.2.2.1, keepc hE sVT HCVT.out.2.2.2.2.2.2.1, keepc hE sVT HCVT.out.2.2.2.2.2.2.2.1, keepc hE sVT HCVT.out.2.2.2.2.2.2.2.2⟩ : E.cell? ⟨o2.heap.size, 0, none⟩ = some (.bool tn) ∧ E.cell? ⟨o2.heap.size, 1, none⟩ = some (.string tv) ∧ E.cell? ⟨o2.heap.size, 2, none⟩ = some (.int .i64 tl.op) ∧ E.cell? ⟨o2.heap.size, 3, none⟩ = some (.string tl.a) ∧ E.cell? ⟨o2.heap.size, 4, none⟩ = some (.slice qT tl.ks.list.length dT) ∧ E.cell? ⟨o2.heap.size, 5, none⟩ = some (.int .i64 tc.op) ∧ E.cell? ⟨o2.heap.size, 6, none⟩ = some (.string tc.a) ∧ E.cell? ⟨o2.heap.size, 7, none⟩ = some (.slice rT tc.ks.list.length eT) ∧ E.cell? ⟨o2.heap.size, 8, none⟩ = some (.int .i64 td)))
    have rVT0 := Below.refl VT.heap.size VT
    obtain ⟨yVT0, yVT1, yVT2, yVT3, yVT4, yVT5, yVT6, yVT7, yVT8⟩ := HKVT.out _ rVT0
    clear eVT kVT
    clear yW0 yW1 yW2 yW3 yW4 yW5 yW6 yW7 yW8 yW9 yW10 yW11 yW12 yW13 yW14 yW15 yW16 yW17
    obtain ⟨yW0, yW1, yW2, yW3, yW4, yW5, yW6, yW7, yW8, yW9, yW10, yW11, yW12, yW13, yW14, yW15, yW16, yW17⟩ := HKW.out _ rWVT
    go_wp2_with fail
    refine Calls.mono (specMergeElems_to ET EM _ _ _ (HAA.out.below (show Below o1.heap.size o1 _ by assumption)).liv (HBB.out.below (show Below o1.heap.size o1 _ by assumption)).liv hasm hbsm) ?_
    rintro en o3 ⟨vQ, FQ, rfl, hTQ, hlQ, hb⟩
    have rwo3 := Below.trans (show Below w.heap.size w _ by assumption) (hb.mono (by omega))
    have zwo3 := rwo3.size
    have ro1o3 := Below.trans (show Below o1.heap.size o1 _ by assumption) (hb.mono (by omega))
    have zo1o3 := ro1o3.size
    have rWo3 := Below.trans (show Below W.heap.size W _ by assumption) (hb.mono (by omega))
    have zWo3 := rWo3.size
    have ro2o3 := Below.trans (show Below o2.heap.size o2 _ by assumption) (hb.mono (by omega))
    have zo2o3 := ro2o3.size
    have rVTo3 := Below.trans (show Below VT.heap.size VT _ by assumption) (hb.mono (by omega))
    have zVTo3 := rVTo3.size
    obtain ⟨qQ, dQ, rQ, eQ, rfl⟩ := hTQ.form
    have HAQ := Lib.hid hTQ
    clear hTQ hlQ
    clear hb yW0 yW1 yW2 yW3 yW4 yW5 yW6 yW7 yW8 yW9 yW10 yW11 yW12 yW13 yW14 yW15 yW16 yW17 yVT0 yVT1 yVT2 yVT3 yVT4 yVT5 yVT6 yVT7 yVT8
    obtain ⟨yW0, yW1, yW2, yW3, yW4, yW5, yW6, yW7, yW8, yW9, yW10, yW11, yW12, yW13, yW14, yW15, yW16, yW17⟩ := HKW.out _ rWo3
    obtain ⟨yVT0, yVT1, yVT2, yVT3, yVT4, yVT5, yVT6, yVT7, yVT8⟩ := HKVT.out _ rVTo3
    have ro30 := Below.refl o3.heap.size o3
    go_upto_region 6 with fail
    obtain ⟨VQ, eVQ⟩ : ∃ E, E = o3.alloc (.cells #[.bool tn, .string tv, .int .i64 tl.op, .string tl.a, .slice qQ tl.ks.list.length dQ, .int .i64 tc.op, .string tc.a, .slice rQ tc.ks.list.length eQ, .int .i64 td] 27) := ⟨_, rfl⟩
    have sVQ : o3.heap.size < VQ.heap.size := by rw [eVQ]; simp
    have kVQ : Below o3.heap.size o3 VQ := by rw [eVQ]; ((repeat (first | with_reducible assumption | with_reducible exact Below.refl _ _ | refine Below.setCell ?_ (by (first | omega | (simp; omega) | (simp; done) | fail "sml")) _ | refine Below.drew ?_ | refine Below.alloc ?_ (by (first | omega | (simp; omega) | (simp; done) | fail "sml")) _)); first | done | fail "chs")
    have HCVQ := Lib.hid (show VQ.cell? ⟨o3.heap.size, 0, none⟩ = some (.bool tn) ∧ VQ.cell? ⟨o3.heap.size, 1, none⟩ = some (.string tv) ∧ VQ.cell? ⟨o3.heap.size, 2, none⟩ = some (.int .i64 tl.op) ∧ VQ.cell? ⟨o3.heap.size, 3, none⟩ = some (.string tl.a) ∧ VQ.cell? ⟨o3.heap.size, 4, none⟩ = some (.slice qQ tl.ks.list.length dQ) ∧ VQ.cell? ⟨o3.heap.size, 5, none⟩ = some (.int .i64 tc.op) ∧ VQ.cell? ⟨o3.heap.size, 6, none⟩ = some (.string tc.a) ∧ VQ.cell? ⟨o3.heap.size, 7, none⟩ = some (.slice rQ tc.ks.list.length eQ) ∧ VQ.cell? ⟨o3.heap.size, 8, none⟩ = some (.int .i64 td) from by rw [eVQ]; exact ⟨by simp [go_sem], by simp [go_sem], by simp [go_sem], by simp [go_sem], by simp [go_sem], by simp [go_sem], by simp [go_sem], by simp [go_sem], by simp [go_sem]⟩)
    skip
    rw [← eVQ]
    have rwVQ := Below.trans (show Below w.heap.size w _ by ((repeat (first | with_reducible assumption | with_reducible exact Below.refl _ _ | refine Below.setCell ?_ (by (first | omega | (simp; omega) | (simp; done) | fail "sml")) _ | refine Below.drew ?_ | refine Below.alloc ?_ (by (first | omega | (simp; omega) | (simp; done) | fail "sml")) _)); first | done | fail "chs")) (kVQ.mono (by (first | omega | (simp; omega) | (simp; done) | fail "sml")))
    have ro1VQ := Below.trans (show Below o1.heap.size o1 _ by ((repeat (first | with_reducible assumption | with_reducible exact Below.refl _ _ | refine Below.setCell ?_ (by (first | omega | (simp; omega) | (simp; done) | fail "sml")) _ | refine Below.drew ?_ | refine Below.alloc ?_ (by (first | omega | (simp; omega) | (simp; done) | fail "sml")) _)); first | done | fail "chs")) (kVQ.mono (by (first | omega | (simp; omega) | (simp; done) | fail "sml")))
    have rWVQ := Below.trans (show Below W.heap.size W _ by ((repeat (first | with_reducible assumption | with_reducible exact Below.refl _ _ | refine Below.setCell ?_ (by (first | omega | (simp; omega) | (simp; done) | fail "sml")) _ | refine Below.drew ?_ | refine Below.alloc ?_ (by (first | omega | (simp; omega) | (simp; done) | fail "sml")) _)); first | done | fail "chs")) (kVQ.mono (by (first | omega | (simp; omega) | (simp; done) | fail "sml")))
    have ro2VQ := Below.trans (show Below o2.heap.size o2 _ by ((repeat (first | with_reducible assumption | with_reducible exact Below.refl _ _ | refine Below.setCell ?_ (by (first | omega | (simp; omega) | (simp; done) | fail "sml")) _ | refine Below.drew ?_ | refine Below.alloc ?_ (by (first | omega | (simp; omega) | (simp; done) | fail "sml")) _)); first | done | fail "chs")) (kVQ.mono (by (first | omega | (simp; omega) | (simp; done) | fail "sml")))
    have rVTVQ := Below.trans (show Below VT.heap.size VT _ by ((repeat (first | with_reducible assumption | with_reducible exact Below.refl _ _ | refine Below.setCell ?_ (by (first | omega | (simp; omega) | (simp; done) | fail "sml")) _ | refine Below.drew ?_ | refine Below.alloc ?_ (by (first | omega | (simp; omega) | (simp; done) | fail "sml")) _)); first | done | fail "chs")) (kVQ.mono (by (first | omega | (simp; omega) | (simp; done) | fail "sml")))
    have ro3VQ := Below.trans (show Below o3.heap.size o3 _ by ((repeat (first | with_reducible assumption | with_reducible exact Below.refl _ _ | refine Below.setCell ?_ (by (first | omega | (simp; omega) | (simp; done) | fail "sml")) _ | refine Below.drew ?_ | refine Below.alloc ?_ (by (first | omega | (simp; omega) | (simp; done) | fail "sml")) _)); first | done | fail "chs")) (kVQ.mono (by (first | omega | (simp; omega) | (simp; done) | fail "sml")))
    have HKVQ := Lib.hid (fun (E : World) (hE : Below VQ.heap.size VQ E) => (⟨keepc hE sVQ HCVQ.out.1, keepc hE sVQ HCVQ.out.2.1, keepc hE sVQ HCVQ.out.2.2.1, keepc hE sVQ HCVQ.out.2.2.2.1, keepc hE sVQ HCVQ.out.2.2.2.2.1, keepc hE sVQ HCVQ.out.2.2.2.2.2.1, keepc hE sVQ HCVQ.out.2.2.2.2.2.2.1, keepc hE sVQ HCVQ.out.2.2.2.2.2.2.2.1, keepc hE sVQ HCVQ.out.2.2.2.2.2.2.2.2⟩ : E.cell? ⟨o3.heap.size, 0, none⟩ = some (.bool tn) ∧ E.cell? ⟨o3.heap.size, 1, none⟩ = some (.string tv) ∧ E.cell? ⟨o3.heap.size, 2, none⟩ = some (.int .i64 tl.op) ∧ E.cell? ⟨o3.heap.size, 3, none⟩ = some (.string tl.a) ∧ E.cell? ⟨o3.heap.size, 4, none⟩ = some (.slice qQ tl.ks.list.length dQ) ∧ E.cell? ⟨o3.heap.size, 5, none⟩ = some (.int .i64 tc.op) ∧ E.cell? ⟨o3.heap.size, 6, none⟩ = some (.string tc.a) ∧ E.cell? ⟨o3.heap.size, 7, none⟩ = some (.slice rQ tc.ks.list.length eQ) ∧ E.cell? ⟨o3.heap.size, 8, none⟩ = some (.int .i64 td)))
    have rVQ0 := Below.refl VQ.heap.size VQ
    obtain ⟨yVQ0, yVQ1, yVQ2, yVQ3, yVQ4, yVQ5, yVQ6, yVQ7, yVQ8⟩ := HKVQ.out _ rVQ0
    clear eVQ kVQ
    clear yW0 yW1 yW2 yW3 yW4 yW5 yW6 yW7 yW8 yW9 yW10 yW11 yW12 yW13 yW14 yW15 yW16 yW17
    obtain ⟨yW0, yW1, yW2, yW3, yW4, yW5, yW6, yW7, yW8, yW9, yW10, yW11, yW12, yW13, yW14, yW15, yW16, yW17⟩ := HKW.out _ rWVQ
    clear yVT0 yVT1 yVT2 yVT3 yVT4 yVT5 yVT6 yVT7 yVT8
    obtain ⟨yVT0, yVT1, yVT2, yVT3, yVT4, yVT5, yVT6, yVT7, yVT8⟩ := HKVT.out _ rVTVQ
    go_wp2_with fail
    refine Calls.mono (elemSame_to (HAT.out.below (show Below o2.heap.size o2 _ by assumption)).liv (HAQ.out.below (show Below o3.heap.size o3 _ by assumption)).liv (Nat.le_refl _) hts) ?_
    rintro en o4 ⟨rfl, hb⟩
    have rwo4 := Below.trans (show Below w.heap.size w _ by assumption) (hb.mono (by omega))
    have zwo4 := rwo4.size
    have ro1o4 := Below.trans (show Below o1.heap.size o1 _ by assumption) (hb.mono (by omega))
    have zo1o4 := ro1o4.size
    have rWo4 := Below.trans (show Below W.heap.size W _ by assumption) (hb.mono (by omega))
    have zWo4 := rWo4.size
    have ro2o4 := Below.trans (show Below o2.heap.size o2 _ by assumption) (hb.mono (by omega))
    have zo2o4 := ro2o4.size
    have rVTo4 := Below.trans (show Below VT.heap.size VT _ by assumption) (hb.mono (by omega))
    have zVTo4 := rVTo4.size
    have ro3o4 := Below.trans (show Below o3.heap.size o3 _ by assumption) (hb.mono (by omega))
    have zo3o4 := ro3o4.size
    have rVQo4 := Below.trans (show Below VQ.heap.size VQ _ by assumption) (hb.mono (by omega))
    have zVQo4 := rVQo4.size
    clear hb yW0 yW1 yW2 yW3 yW4 yW5 yW6 yW7 yW8 yW9 yW10 yW11 yW12 yW13 yW14 yW15 yW16 yW17 yVT0 yVT1 yVT2 yVT3 yVT4 yVT5 yVT6 yVT7 yVT8 yVQ0 yVQ1 yVQ2 yVQ3 yVQ4 yVQ5 yVQ6 yVQ7 yVQ8
    obtain ⟨yW0, yW1, yW2, yW3, yW4, yW5, yW6, yW7, yW8, yW9, yW10, yW11, yW12, yW13, yW14, yW15, yW16, yW17⟩ := HKW.out _ rWo4
    obtain ⟨yVT0, yVT1, yVT2, yVT3, yVT4, yVT5, yVT6, yVT7, yVT8⟩ := HKVT.out _ rVTo4
    obtain ⟨yVQ0, yVQ1, yVQ2, yVQ3, yVQ4, yVQ5, yVQ6, yVQ7, yVQ8⟩ := HKVQ.out _ rVQo4
    go_wp2_with fail
    refine Calls.mono (elemSame_to (HAT.out.below (show Below o2.heap.size o2 _ by assumption)).liv (HAQ.out.below (show Below o3.heap.size o3 _ by assumption)).liv (Nat.le_refl _) hts) ?_
    rintro en o5 ⟨rfl, hb⟩
    have rwo5 := Below.trans (show Below w.heap.size w _ by assumption) (hb.mono (by omega))
    have zwo5 := rwo5.size
    have ro1o5 := Below.trans (show Below o1.heap.size o1 _ by assumption) (hb.mono (by omega))
    have zo1o5 := ro1o5.size
    have rWo5 := Below.trans (show Below W.heap.size W _ by assumption) (hb.mono (by omega))
    have zWo5 := rWo5.size
    have ro2o5 := Below.trans (show Below o2.heap.size o2 _ by assumption) (hb.mono (by omega))
    have zo2o5 := ro2o5.size
    have rVTo5 := Below.trans (show Below VT.heap.size VT _ by assumption) (hb.mono (by omega))
    have zVTo5 := rVTo5.size
    have ro3o5 := Below.trans (show Below o3.heap.size o3 _ by assumption) (hb.mono (by omega))
    have zo3o5 := ro3o5.size
    have rVQo5 := Below.trans (show Below VQ.heap.size VQ _ by assumption) (hb.mono (by omega))
    have zVQo5 := rVQo5.size
    clear hb yW0 yW1 yW2 yW3 yW4 yW5 yW6 yW7 yW8 yW9 yW10 yW11 yW12 yW13 yW14 yW15 yW16 yW17 yVT0 yVT1 yVT2 yVT3 yVT4 yVT5 yVT6 yVT7 yVT8 yVQ0 yVQ1 yVQ2 yVQ3 yVQ4 yVQ5 yVQ6 yVQ7 yVQ8
    obtain ⟨yW0, yW1, yW2, yW3, yW4, yW5, yW6, yW7, yW8, yW9, yW10, yW11, yW12, yW13, yW14, yW15, yW16, yW17⟩ := HKW.out _ rWo5
    obtain ⟨yVT0, yVT1, yVT2, yVT3, yVT4, yVT5, yVT6, yVT7, yVT8⟩ := HKVT.out _ rVTo5
    obtain ⟨yVQ0, yVQ1, yVQ2, yVQ3, yVQ4, yVQ5, yVQ6, yVQ7, yVQ8⟩ := HKVQ.out _ rVQo5
    go_wp2_with fail
    go_ret
    exact ⟨rfl, by ((repeat (first | with_reducible assumption | with_reducible exact Below.refl _ _ | refine Below.setCell ?_ (by (first | omega | (simp; omega) | (simp; done) | fail "sml")) _ | refine Below.drew ?_ | refine Below.alloc ?_ (by (first | omega | (simp; omega) | (simp; done) | fail "sml")) _)); first | done | fail "chs")⟩
  | true =>
    go_wp2_with fail
    refine Calls.mono (mergeElems_to ET EM _ _ _ (HAA.out.below (show Below o1.heap.size o1 _ by assumption)).liv (HBB.out.below (show Below o1.heap.size o1 _ by assumption)).liv hasm hbsm (HVV.out.below (show Below w.heap.size w _ by assumption))) ?_
    rintro en o2 ⟨vT, FT, rfl, hTT, hlT, hb⟩
    have rwo2 := Below.trans (show Below w.heap.size w _ by assumption) (hb.mono (by omega))
    have zwo2 := rwo2.size
    have ro1o2 := Below.trans (show Below o1.heap.size o1 _ by assumption) (hb.mono (by omega))
    have zo1o2 := ro1o2.size
    have rWo2 := Below.trans (show Below W.heap.size W _ by assumption) (hb.mono (by omega))
    have zWo2 := rWo2.size
    obtain ⟨qT, dT, rT, eT, rfl⟩ := hTT.form
    have HAT := Lib.hid hTT
    clear hTT hlT
    clear hb yW0 yW1 yW2 yW3 yW4 yW5 yW6 yW7 yW8 yW9 yW10 yW11 yW12 yW13 yW14 yW15 yW16 yW17
    obtain ⟨yW0, yW1, yW2, yW3, yW4, yW5, yW6, yW7, yW8, yW9, yW10, yW11, yW12, yW13, yW14, yW15, yW16, yW17⟩ := HKW.out _ rWo2
    have ro20 := Below.refl o2.heap.size o2
    go_upto_region 5 with fail
    obtain ⟨VT, eVT⟩ : ∃ E, E = o2.alloc (.cells #[.bool tn, .string tv, .int .i64 tl.op, .string tl.a, .slice qT tl.ks.list.length dT, .int .i64 tc.op, .string tc.a, .slice rT tc.ks.list.length eT, .int .i64 td] 27) := ⟨_, rfl⟩
    have sVT : o2.heap.size < VT.heap.size := by rw [eVT]; simp
    have kVT : Below o2.heap.size o2 VT := by rw [eVT]; ((repeat (first | with_reducible assumption | with_reducible exact Below.refl _ _ | refine Below.setCell ?_ (by (first | omega | (simp; omega) | (simp; done) | fail "sml")) _ | refine Below.drew ?_ | refine Below.alloc ?_ (by (first | omega | (simp; omega) | (simp; done) | fail "sml")) _)); first | done | fail "chs")
    have HCVT := Lib.hid (show VT.cell? ⟨o2.heap.size, 0, none⟩ = some (.bool tn) ∧ VT.cell? ⟨o2.heap.size, 1, none⟩ = some (.string tv) ∧ VT.cell? ⟨o2.heap.size, 2, none⟩ = some (.int .i64 tl.op) ∧ VT.cell? ⟨o2.heap.size, 3, none⟩ = some (.string tl.a) ∧ VT.cell? ⟨o2.heap.size, 4, none⟩ = some (.slice qT tl.ks.list.length dT) ∧ VT.cell? ⟨o2.heap.size, 5, none⟩ = some (.int .i64 tc.op) ∧ VT.cell? ⟨o2.heap.size, 6, none⟩ = some (.string tc.a) ∧ VT.cell? ⟨o2.heap.size, 7, none⟩ = some (.slice rT tc.ks.list.length eT) ∧ VT.cell? ⟨o2.heap.size, 8, none⟩ = some (.int .i64 td) from by rw [eVT]; exact ⟨by simp [go_sem], by simp [go_sem], by simp [go_sem], by simp [go_sem], by simp [go_sem], by simp [go_sem], by simp [go_sem], by simp [go_sem], by simp [go_sem]⟩)
    skip
    rw [← eVT]
    have rwVT := Below.trans (show Below w.heap.size w _ by ((repeat (first | with_reducible assumption | with_reducible exact Below.refl _ _ | refine Below.setCell ?_ (by (first | omega | (simp; omega) | (simp; done) | fail "sml")) _ | refine Below.drew ?_ | refine Below.alloc ?_ (by (first | omega | (simp; omega) | (simp; done) | fail "sml")) _)); first | done | fail "chs")) (kVT.mono (by (first | omega | (simp; omega) | (simp; done) | fail "sml")))
    have ro1VT := Below.trans (show Below o1.heap.size o1 _ by ((repeat (first | with_reducible assumption | with_reducible exact Below.refl _ _ | refine Below.setCell ?_ (by (first | omega | (simp; omega) | (simp; done) | fail "sml")) _ | refine Below.drew ?_ | refine Below.alloc ?_ (by (first | omega | (simp; omega) | (simp; done) | fail "sml")) _)); first | done | fail "chs")) (kVT.mono (by (first | omega | (simp; omega) | (simp; done) | fail "sml")))
    have rWVT := Below.trans (show Below W.heap.size W _ by ((repeat (first | with_reducible assumption | with_reducible exact Below.refl _ _ | refine Below.setCell ?_ (by (first | omega | (simp; omega) | (simp; done) | fail "sml")) _ | refine Below.drew ?_ | refine Below.alloc ?_ (by (first | omega | (simp; omega) | (simp; done) | fail "sml")) _)); first | done | fail "chs")) (kVT.mono (by (first | omega | (simp; omega) | (simp; done) | fail "sml")))
    have ro2VT := Below.trans (show Below o2.heap.size o2 _ by ((repeat (first | with_reducible assumption | with_reducible exact Below.refl _ _ | refine Below.setCell ?_ (by (first | omega | (simp; omega) | (simp; done) | fail "sml")) _ | refine Below.drew ?_ | refine Below.alloc ?_ (by (first | omega | (simp; omega) | (simp; done) | fail "sml")) _)); first | done | fail "chs")) (kVT.mono (by (first | omega | (simp; omega) | (simp; done) | fail "sml")))
    have HKVT := Lib.hid (fun (E : World) (hE : Below VT.heap.size VT E) => (⟨keepc hE sVT HCVT.out.1, keepc hE sVT HCVT.out.2.1, keepc hE sVT HCVT.out.2.2.1, keepc hE sVT HCVT.out.2.2.2.1, keepc hE sVT HCVT.out.2.2.2.2.1, keepc hE sVT HCVT.out.2.2.2.2.2.1, keepc hE sVT HCVT.out.2.2.2.2.2.2.1, keepc hE sVT HCVT.out.2.2.2.2.2.2.2.1, keepc hE sVT HCVT.out.2.2.2.2.2.2.2.2⟩ : E.cell? ⟨o2.heap.size, 0, none⟩ = some (.bool tn) ∧ E.cell? ⟨o2.heap.size, 1, none⟩ = some (.string tv) ∧ E.cell? ⟨o2.heap.size, 2, none⟩ = some (.int .i64 tl.op) ∧ E.cell? ⟨o2.heap.size, 3, none⟩ = some (.string tl.a) ∧ E.cell? ⟨o2.heap.size, 4, none⟩ = some (.slice qT tl.ks.list.length dT) ∧ E.cell? ⟨o2.heap.size, 5, none⟩ = some (.int .i64 tc.op) ∧ E.cell? ⟨o2.heap.size, 6, none⟩ = some (.string tc.a) ∧ E.cell? ⟨o2.heap.size, 7, none⟩ = some (.slice rT tc.ks.list.length eT) ∧ E.cell? ⟨o2.heap.size, 8, none⟩ = some (.int .i64 td)))
    have rVT0 := Below.refl VT.heap.size VT
    obtain ⟨yVT0, yVT1, yVT2, yVT3, yVT4, yVT5, yVT6, yVT7, yVT8⟩ := HKVT.out _ rVT0
    clear eVT kVT
    clear yW0 yW1 yW2 yW3 yW4 yW5 yW6 yW7 yW8 yW9 yW10 yW11 yW12 yW13 yW14 yW15 yW16 yW17
    obtain ⟨yW0, yW1, yW2, yW3, yW4, yW5, yW6, yW7, yW8, yW9, yW10, yW11, yW12, yW13, yW14, yW15, yW16, yW17⟩ := HKW.out _ rWVT
    go_wp2_with fail
    refine Calls.mono (specMergeElems_to ET EM _ _ _ (HAA.out.below (show Below o1.heap.size o1 _ by assumption)).liv (HBB.out.below (show Below o1.heap.size o1 _ by assumption)).liv hasm hbsm) ?_
    rintro en o3 ⟨vQ, FQ, rfl, hTQ, hlQ, hb⟩
    have rwo3 := Below.trans (show Below w.heap.size w _ by assumption) (hb.mono (by omega))
    have zwo3 := rwo3.size
    have ro1o3 := Below.trans (show Below o1.heap.size o1 _ by assumption) (hb.mono (by omega))
    have zo1o3 := ro1o3.size
    have rWo3 := Below.trans (show Below W.heap.size W _ by assumption) (hb.mono (by omega))
    have zWo3 := rWo3.size
    have ro2o3 := Below.trans (show Below o2.heap.size o2 _ by assumption) (hb.mono (by omega))
    have zo2o3 := ro2o3.size
    have rVTo3 := Below.trans (show Below VT.heap.size VT _ by assumption) (hb.mono (by omega))
    have zVTo3 := rVTo3.size
    obtain ⟨qQ, dQ, rQ, eQ, rfl⟩ := hTQ.form
    have HAQ := Lib.hid hTQ
    clear hTQ hlQ
    clear hb yW0 yW1 yW2 yW3 yW4 yW5 yW6 yW7 yW8 yW9 yW10 yW11 yW12 yW13 yW14 yW15 yW16 yW17 yVT0 yVT1 yVT2 yVT3 yVT4 yVT5 yVT6 yVT7 yVT8
    obtain ⟨yW0, yW1, yW2, yW3, yW4, yW5, yW6, yW7, yW8, yW9, yW10, yW11, yW12, yW13, yW14, yW15, yW16, yW17⟩ := HKW.out _ rWo3
    obtain ⟨yVT0, yVT1, yVT2, yVT3, yVT4, yVT5, yVT6, yVT7, yVT8⟩ := HKVT.out _ rVTo3
    have ro30 := Below.refl o3.heap.size o3
    go_upto_region 6 with fail
    obtain ⟨VQ, eVQ⟩ : ∃ E, E = o3.alloc (.cells #[.bool tn, .string tv, .int .i64 tl.op, .string tl.a, .slice qQ tl.ks.list.length dQ, .int .i64 tc.op, .string tc.a, .slice rQ tc.ks.list.length eQ, .int .i64 td] 27) := ⟨_, rfl⟩
    have sVQ : o3.heap.size < VQ.heap.size := by rw [eVQ]; simp
    have kVQ : Below o3.heap.size o3 VQ := by rw [eVQ]; ((repeat (first | with_reducible assumption | with_reducible exact Below.refl _ _ | refine Below.setCell ?_ (by (first | omega | (simp; omega) | (simp; done) | fail "sml")) _ | refine Below.drew ?_ | refine Below.alloc ?_ (by (first | omega | (simp; omega) | (simp; done) | fail "sml")) _)); first | done | fail "chs")
    have HCVQ := Lib.hid (show VQ.cell? ⟨o3.heap.size, 0, none⟩ = some (.bool tn) ∧ VQ.cell? ⟨o3.heap.size, 1, none⟩ = some (.string tv) ∧ VQ.cell? ⟨o3.heap.size, 2, none⟩ = some (.int .i64 tl.op) ∧ VQ.cell? ⟨o3.heap.size, 3, none⟩ = some (.string tl.a) ∧ VQ.cell? ⟨o3.heap.size, 4, none⟩ = some (.slice qQ tl.ks.list.length dQ) ∧ VQ.cell? ⟨o3.heap.size, 5, none⟩ = some (.int .i64 tc.op) ∧ VQ.cell? ⟨o3.heap.size, 6, none⟩ = some (.string tc.a) ∧ VQ.cell? ⟨o3.heap.size, 7, none⟩ = some (.slice rQ tc.ks.list.length eQ) ∧ VQ.cell? ⟨o3.heap.size, 8, none⟩ = some (.int .i64 td) from by rw [eVQ]; exact ⟨by simp [go_sem], by simp [go_sem], by simp [go_sem], by simp [go_sem], by simp [go_sem], by simp [go_sem], by simp [go_sem], by simp [go_sem], by simp [go_sem]⟩)
    skip
    rw [← eVQ]
    have rwVQ := Below.trans (show Below w.heap.size w _ by ((repeat (first | with_reducible assumption | with_reducible exact Below.refl _ _ | refine Below.setCell ?_ (by (first | omega | (simp; omega) | (simp; done) | fail "sml")) _ | refine Below.drew ?_ | refine Below.alloc ?_ (by (first | omega | (simp; omega) | (simp; done) | fail "sml")) _)); first | done | fail "chs")) (kVQ.mono (by (first | omega | (simp; omega) | (simp; done) | fail "sml")))
    have ro1VQ := Below.trans (show Below o1.heap.size o1 _ by ((repeat (first | with_reducible assumption | with_reducible exact Below.refl _ _ | refine Below.setCell ?_ (by (first | omega | (simp; omega) | (simp; done) | fail "sml")) _ | refine Below.drew ?_ | refine Below.alloc ?_ (by (first | omega | (simp; omega) | (simp; done) | fail "sml")) _)); first | done | fail "chs")) (kVQ.mono (by (first | omega | (simp; omega) | (simp; done) | fail "sml")))
    have rWVQ := Below.trans (show Below W.heap.size W _ by ((repeat (first | with_reducible assumption | with_reducible exact Below.refl _ _ | refine Below.setCell ?_ (by (first | omega | (simp; omega) | (simp; done) | fail "sml")) _ | refine Below.drew ?_ | refine Below.alloc ?_ (by (first | omega | (simp; omega) | (simp; done) | fail "sml")) _)); first | done | fail "chs")) (kVQ.mono (by (first | omega | (simp; omega) | (simp; done) | fail "sml")))
    have ro2VQ := Below.trans (show Below o2.heap.size o2 _ by ((repeat (first | with_reducible assumption | with_reducible exact Below.refl _ _ | refine Below.setCell ?_ (by (first | omega | (simp; omega) | (simp; done) | fail "sml")) _ | refine Below.drew ?_ | refine Below.alloc ?_ (by (first | omega | (simp; omega) | (simp; done) | fail "sml")) _)); first | done | fail "chs")) (kVQ.mono (by (first | omega | (simp; omega) | (simp; done) | fail "sml")))
    have rVTVQ := Below.trans (show Below VT.heap.size VT _ by ((repeat (first | with_reducible assumption | with_reducible exact Below.refl _ _ | refine Below.setCell ?_ (by (first | omega | (simp; omega) | (simp; done) | fail "sml")) _ | refine Below.drew ?_ | refine Below.alloc ?_ (by (first | omega | (simp; omega) | (simp; done) | fail "sml")) _)); first | done | fail "chs")) (kVQ.mono (by (first | omega | (simp; omega) | (simp; done) | fail "sml")))
    have ro3VQ := Below.trans (show Below o3.heap.size o3 _ by ((repeat (first | with_reducible assumption | with_reducible exact Below.refl _ _ | refine Below.setCell ?_ (by (first | omega | (simp; omega) | (simp; done) | fail "sml")) _ | refine Below.drew ?_ | refine Below.alloc ?_ (by (first | omega | (simp; omega) | (simp; done) | fail "sml")) _)); first | done | fail "chs")) (kVQ.mono (by (first | omega | (simp; omega) | (simp; done) | fail "sml")))
    have HKVQ := Lib.hid (fun (E : World) (hE : Below VQ.heap.size VQ E) => (⟨keepc hE sVQ HCVQ.out.1, keepc hE sVQ HCVQ.out.2.1, keepc hE sVQ HCVQ.out.2.2.1, keepc hE sVQ HCVQ.out.2.2.2.1, keepc hE sVQ HCVQ.out.2.2.2.2.1, keepc hE sVQ HCVQ.out.2.2.2.2.2.1, keepc hE sVQ HCVQ.out.2.2.2.2.2.2.1, keepc hE sVQ HCVQ.out.2.2.2.2.2.2.2.1, keepc hE sVQ HCVQ.out.2.2.2.2.2.2.2.2⟩ : E.cell? ⟨o3.heap.size, 0, none⟩ = some (.bool tn) ∧ E.cell? ⟨o3.heap.size, 1, none⟩ = some (.string tv) ∧ E.cell? ⟨o3.heap.size, 2, none⟩ = some (.int .i64 tl.op) ∧ E.cell? ⟨o3.heap.size, 3, none⟩ = some (.string tl.a) ∧ E.cell? ⟨o3.heap.size, 4, none⟩ = some (.slice qQ tl.ks.list.length dQ) ∧ E.cell? ⟨o3.heap.size, 5, none⟩ = some (.int .i64 tc.op) ∧ E.cell? ⟨o3.heap.size, 6, none⟩ = some (.string tc.a) ∧ E.cell? ⟨o3.heap.size, 7, none⟩ = some (.slice rQ tc.ks.list.length eQ) ∧ E.cell? ⟨o3.heap.size, 8, none⟩ = some (.int .i64 td)))
    have rVQ0 := Below.refl VQ.heap.size VQ
    obtain ⟨yVQ0, yVQ1, yVQ2, yVQ3, yVQ4, yVQ5, yVQ6, yVQ7, yVQ8⟩ := HKVQ.out _ rVQ0
    clear eVQ kVQ
    clear yW0 yW1 yW2 yW3 yW4 yW5 yW6 yW7 yW8 yW9 yW10 yW11 yW12 yW13 yW14 yW15 yW16 yW17
    obtain ⟨yW0, yW1, yW2, yW3, yW4, yW5, yW6, yW7, yW8, yW9, yW10, yW11, yW12, yW13, yW14, yW15, yW16, yW17⟩ := HKW.out _ rWVQ
    clear yVT0 yVT1 yVT2 yVT3 yVT4 yVT5 yVT6 yVT7 yVT8
    obtain ⟨yVT0, yVT1, yVT2, yVT3, yVT4, yVT5, yVT6, yVT7, yVT8⟩ := HKVT.out _ rVTVQ
    go_wp2_with fail
    refine Calls.mono (elemSame_to (HAT.out.below (show Below o2.heap.size o2 _ by assumption)).liv (HAQ.out.below (show Below o3.heap.size o3 _ by assumption)).liv (Nat.le_refl _) hts) ?_
    rintro en o4 ⟨rfl, hb⟩
    have rwo4 := Below.trans (show Below w.heap.size w _ by assumption) (hb.mono (by omega))
    have zwo4 := rwo4.size
    have ro1o4 := Below.trans (show Below o1.heap.size o1 _ by assumption) (hb.mono (by omega))
    have zo1o4 := ro1o4.size
    have rWo4 := Below.trans (show Below W.heap.size W _ by assumption) (hb.mono (by omega))
    have zWo4 := rWo4.size
    have ro2o4 := Below.trans (show Below o2.heap.size o2 _ by assumption) (hb.mono (by omega))
    have zo2o4 := ro2o4.size
    have rVTo4 := Below.trans (show Below VT.heap.size VT _ by assumption) (hb.mono (by omega))
    have zVTo4 := rVTo4.size
    have ro3o4 := Below.trans (show Below o3.heap.size o3 _ by assumption) (hb.mono (by omega))
    have zo3o4 := ro3o4.size
    have rVQo4 := Below.trans (show Below VQ.heap.size VQ _ by assumption) (hb.mono (by omega))
    have zVQo4 := rVQo4.size
    clear hb yW0 yW1 yW2 yW3 yW4 yW5 yW6 yW7 yW8 yW9 yW10 yW11 yW12 yW13 yW14 yW15 yW16 yW17 yVT0 yVT1 yVT2 yVT3 yVT4 yVT5 yVT6 yVT7 yVT8 yVQ0 yVQ1 yVQ2 yVQ3 yVQ4 yVQ5 yVQ6 yVQ7 yVQ8
    obtain ⟨yW0, yW1, yW2, yW3, yW4, yW5, yW6, yW7, yW8, yW9, yW10, yW11, yW12, yW13, yW14, yW15, yW16, yW17⟩ := HKW.out _ rWo4
    obtain ⟨yVT0, yVT1, yVT2, yVT3, yVT4, yVT5, yVT6, yVT7, yVT8⟩ := HKVT.out _ rVTo4
    obtain ⟨yVQ0, yVQ1, yVQ2, yVQ3, yVQ4, yVQ5, yVQ6, yVQ7, yVQ8⟩ := HKVQ.out _ rVQo4
    go_wp2_with fail
    refine Calls.mono (drawNodeFits_any zs2 _ w.heap.size _ (HV2.out.below (show Below w.heap.size w _ by assumption)) (show Below w.heap.size w _ by assumption).size hz2) ?_
    rintro en o5 ⟨g, vg, Fg, n, y, pp, cc, pp', cc', rfl, hg, hn, hy, hb⟩
    have rwo5 := Below.trans (show Below w.heap.size w _ by assumption) (hb.mono (by omega))
    have zwo5 := rwo5.size
    have ro1o5 := Below.trans (show Below o1.heap.size o1 _ by assumption) (hb.mono (by omega))
    have zo1o5 := ro1o5.size
    have rWo5 := Below.trans (show Below W.heap.size W _ by assumption) (hb.mono (by omega))
    have zWo5 := rWo5.size
    have ro2o5 := Below.trans (show Below o2.heap.size o2 _ by assumption) (hb.mono (by omega))
    have zo2o5 := ro2o5.size
    have rVTo5 := Below.trans (show Below VT.heap.size VT _ by assumption) (hb.mono (by omega))
    have zVTo5 := rVTo5.size
    obtain ⟨pg, cg, qg, dg, rfl⟩ := hg.1.form
    have hok := hg.2.2.1
    have HGA := Lib.hid hg.1.at
    clear hg hy hn
    clear hb yW0 yW1 yW2 yW3 yW4 yW5 yW6 yW7 yW8 yW9 yW10 yW11 yW12 yW13 yW14 yW15 yW16 yW17 yVT0 yVT1 yVT2 yVT3 yVT4 yVT5 yVT6 yVT7 yVT8
    obtain ⟨yW0, yW1, yW2, yW3, yW4, yW5, yW6, yW7, yW8, yW9, yW10, yW11, yW12, yW13, yW14, yW15, yW16, yW17⟩ := HKW.out _ rWo5
    obtain ⟨yVT0, yVT1, yVT2, yVT3, yVT4, yVT5, yVT6, yVT7, yVT8⟩ := HKVT.out _ rVTo5
    have ro50 := Below.refl o5.heap.size o5
    go_upto_region 9 with fail
    obtain ⟨VG, eVG⟩ : ∃ E, E = (o5.alloc (.cells #[.slice pg g.ns.length cg, .slice qg g.es.length dg] 36)).alloc (.cells #[.bool y.n, .string y.v, .int .i64 y.l.op, .string y.l.a, .slice pp y.l.ks.list.length cc, .int .i64 y.c.op, .string y.c.a, .slice pp' y.c.ks.list.length cc', .int .i64 y.d] 27) := ⟨_, rfl⟩
    have sVG : o5.heap.size < VG.heap.size := by rw [eVG]; simp; omega
    have kVG : Below o5.heap.size o5 VG := by rw [eVG]; ((repeat (first | with_reducible assumption | with_reducible exact Below.refl _ _ | refine Below.setCell ?_ (by (first | omega | (simp; omega) | (simp; done) | fail "sml")) _ | refine Below.drew ?_ | refine Below.alloc ?_ (by (first | omega | (simp; omega) | (simp; done) | fail "sml")) _)); first | done | fail "chs")
    have HCVG := Lib.hid (show VG.cell? ⟨o5.heap.size, 0, none⟩ = some (.slice pg g.ns.length cg) ∧ VG.cell? ⟨o5.heap.size, 1, none⟩ = some (.slice qg g.es.length dg) from by rw [eVG]; exact ⟨by simp [go_sem], by simp [go_sem]⟩)
    skip
    rw [← eVG]
    have rwVG := Below.trans (show Below w.heap.size w _ by ((repeat (first | with_reducible assumption | with_reducible exact Below.refl _ _ | refine Below.setCell ?_ (by (first | omega | (simp; omega) | (simp; done) | fail "sml")) _ | refine Below.drew ?_ | refine Below.alloc ?_ (by (first | omega | (simp; omega) | (simp; done) | fail "sml")) _)); first | done | fail "chs")) (kVG.mono (by (first | omega | (simp; omega) | (simp; done) | fail "sml")))
    have ro1VG := Below.trans (show Below o1.heap.size o1 _ by ((repeat (first | with_reducible assumption | with_reducible exact Below.refl _ _ | refine Below.setCell ?_ (by (first | omega | (simp; omega) | (simp; done) | fail "sml")) _ | refine Below.drew ?_ | refine Below.alloc ?_ (by (first | omega | (simp; omega) | (simp; done) | fail "sml")) _)); first | done | fail "chs")) (kVG.mono (by (first | omega | (simp; omega) | (simp; done) | fail "sml")))
    have rWVG := Below.trans (show Below W.heap.size W _ by ((repeat (first | with_reducible assumption | with_reducible exact Below.refl _ _ | refine Below.setCell ?_ (by (first | omega | (simp; omega) | (simp; done) | fail "sml")) _ | refine Below.drew ?_ | refine Below.alloc ?_ (by (first | omega | (simp; omega) | (simp; done) | fail "sml")) _)); first | done | fail "chs")) (kVG.mono (by (first | omega | (simp; omega) | (simp; done) | fail "sml")))
    have ro2VG := Below.trans (show Below o2.heap.size o2 _ by ((repeat (first | with_reducible assumption | with_reducible exact Below.refl _ _ | refine Below.setCell ?_ (by (first | omega | (simp; omega) | (simp; done) | fail "sml")) _ | refine Below.drew ?_ | refine Below.alloc ?_ (by (first | omega | (simp; omega) | (simp; done) | fail "sml")) _)); first | done | fail "chs")) (kVG.mono (by (first | omega | (simp; omega) | (simp; done) | fail "sml")))
    have rVTVG := Below.trans (show Below VT.heap.size VT _ by ((repeat (first | with_reducible assumption | with_reducible exact Below.refl _ _ | refine Below.setCell ?_ (by (first | omega | (simp; omega) | (simp; done) | fail "sml")) _ | refine Below.drew ?_ | refine Below.alloc ?_ (by (first | omega | (simp; omega) | (simp; done) | fail "sml")) _)); first | done | fail "chs")) (kVG.mono (by (first | omega | (simp; omega) | (simp; done) | fail "sml")))
    have ro5VG := Below.trans (show Below o5.heap.size o5 _ by ((repeat (first | with_reducible assumption | with_reducible exact Below.refl _ _ | refine Below.setCell ?_ (by (first | omega | (simp; omega) | (simp; done) | fail "sml")) _ | refine Below.drew ?_ | refine Below.alloc ?_ (by (first | omega | (simp; omega) | (simp; done) | fail "sml")) _)); first | done | fail "chs")) (kVG.mono (by (first | omega | (simp; omega) | (simp; done) | fail "sml")))
    have HKVG := Lib.hid (fun (E : World) (hE : Below VG.heap.size VG E) => (⟨keepc hE sVG HCVG.out.1, keepc hE sVG HCVG.out.2⟩ : E.cell? ⟨o5.heap.size, 0, none⟩ = some (.slice pg g.ns.length cg) ∧ E.cell? ⟨o5.heap.size, 1, none⟩ = some (.slice qg g.es.length dg)))
    have rVG0 := Below.refl VG.heap.size VG
    obtain ⟨yVG0, yVG1⟩ := HKVG.out _ rVG0
    clear eVG kVG
    clear yW0 yW1 yW2 yW3 yW4 yW5 yW6 yW7 yW8 yW9 yW10 yW11 yW12 yW13 yW14 yW15 yW16 yW17
    obtain ⟨yW0, yW1, yW2, yW3, yW4, yW5, yW6, yW7, yW8, yW9, yW10, yW11, yW12, yW13, yW14, yW15, yW16, yW17⟩ := HKW.out _ rWVG
    clear yVT0 yVT1 yVT2 yVT3 yVT4 yVT5 yVT6 yVT7 yVT8
    obtain ⟨yVT0, yVT1, yVT2, yVT3, yVT4, yVT5, yVT6, yVT7, yVT8⟩ := HKVT.out _ rVTVG
    have KS := Lib.hid (fun (E : World) (hE : Below VG.heap.size VG E) => (⟨(HKW.out _ (rWVG.trans (hE.mono rWVG.size))).1, (HKW.out _ (rWVG.trans (hE.mono rWVG.size))).2.1, (HKW.out _ (rWVG.trans (hE.mono rWVG.size))).2.2.1, (HKW.out _ (rWVG.trans (hE.mono rWVG.size))).2.2.2.1, (HKW.out _ (rWVG.trans (hE.mono rWVG.size))).2.2.2.2.1, (HKW.out _ (rWVG.trans (hE.mono rWVG.size))).2.2.2.2.2.1, (HKW.out _ (rWVG.trans (hE.mono rWVG.size))).2.2.2.2.2.2.1, (HKW.out _ (rWVG.trans (hE.mono rWVG.size))).2.2.2.2.2.2.2.1, (HKW.out _ (rWVG.trans (hE.mono rWVG.size))).2.2.2.2.2.2.2.2.1, (HKW.out _ (rWVG.trans (hE.mono rWVG.size))).2.2.2.2.2.2.2.2.2.1, (HKW.out _ (rWVG.trans (hE.mono rWVG.size))).2.2.2.2.2.2.2.2.2.2.1, (HKW.out _ (rWVG.trans (hE.mono rWVG.size))).2.2.2.2.2.2.2.2.2.2.2.1, (HKW.out _ (rWVG.trans (hE.mono rWVG.size))).2.2.2.2.2.2.2.2.2.2.2.2.1, (HKW.out _ (rWVG.trans (hE.mono rWVG.size))).2.2.2.2.2.2.2.2.2.2.2.2.2.1, (HKW.out _ (rWVG.trans (hE.mono rWVG.size))).2.2.2.2.2.2.2.2.2.2.2.2.2.2.1, (HKW.out _ (rWVG.trans (hE.mono rWVG.size))).2.2.2.2.2.2.2.2.2.2.2.2.2.2.2.1, (HKW.out _ (rWVG.trans (hE.mono rWVG.size))).2.2.2.2.2.2.2.2.2.2.2.2.2.2.2.2.1, (HKW.out _ (rWVG.trans (hE.mono rWVG.size))).2.2.2.2.2.2.2.2.2.2.2.2.2.2.2.2.2, (HKVT.out _ (rVTVG.trans (hE.mono rVTVG.size))).1, (HKVT.out _ (rVTVG.trans (hE.mono rVTVG.size))).2.1, (HKVT.out _ (rVTVG.trans (hE.mono rVTVG.size))).2.2.1, (HKVT.out _ (rVTVG.trans (hE.mono rVTVG.size))).2.2.2.1, (HKVT.out _ (rVTVG.trans (hE.mono rVTVG.size))).2.2.2.2.1, (HKVT.out _ (rVTVG.trans (hE.mono rVTVG.size))).2.2.2.2.2.1, (HKVT.out _ (rVTVG.trans (hE.mono rVTVG.size))).2.2.2.2.2.2.1, (HKVT.out _ (rVTVG.trans (hE.mono rVTVG.size))).2.2.2.2.2.2.2.1, (HKVT.out _ (rVTVG.trans (hE.mono rVTVG.size))).2.2.2.2.2.2.2.2, (HKVG.out _ hE).1, (HKVG.out _ hE).2⟩ : E.cell? ⟨o1.heap.size, 0, none⟩ = some (.bool an) ∧ E.cell? ⟨o1.heap.size, 1, none⟩ = some (.string av) ∧ E.cell? ⟨o1.heap.size, 2, none⟩ = some (.int .i64 al.op) ∧ E.cell? ⟨o1.heap.size, 3, none⟩ = some (.string al.a) ∧ E.cell? ⟨o1.heap.size, 4, none⟩ = some (.slice p al.ks.list.length c) ∧ E.cell? ⟨o1.heap.size, 5, none⟩ = some (.int .i64 ac.op) ∧ E.cell? ⟨o1.heap.size, 6, none⟩ = some (.string ac.a) ∧ E.cell? ⟨o1.heap.size, 7, none⟩ = some (.slice p' ac.ks.list.length c') ∧ E.cell? ⟨o1.heap.size, 8, none⟩ = some (.int .i64 ad) ∧ E.cell? ⟨o1.heap.size + 1, 0, none⟩ = some (.bool bn) ∧ E.cell? ⟨o1.heap.size + 1, 1, none⟩ = some (.string bv) ∧ E.cell? ⟨o1.heap.size + 1, 2, none⟩ = some (.int .i64 bl.op) ∧ E.cell? ⟨o1.heap.size + 1, 3, none⟩ = some (.string bl.a) ∧ E.cell? ⟨o1.heap.size + 1, 4, none⟩ = some (.slice q bl.ks.list.length d) ∧ E.cell? ⟨o1.heap.size + 1, 5, none⟩ = some (.int .i64 bc.op) ∧ E.cell? ⟨o1.heap.size + 1, 6, none⟩ = some (.string bc.a) ∧ E.cell? ⟨o1.heap.size + 1, 7, none⟩ = some (.slice q' bc.ks.list.length d') ∧ E.cell? ⟨o1.heap.size + 1, 8, none⟩ = some (.int .i64 bd) ∧ E.cell? ⟨o2.heap.size, 0, none⟩ = some (.bool tn) ∧ E.cell? ⟨o2.heap.size, 1, none⟩ = some (.string tv) ∧ E.cell? ⟨o2.heap.size, 2, none⟩ = some (.int .i64 tl.op) ∧ E.cell? ⟨o2.heap.size, 3, none⟩ = some (.string tl.a) ∧ E.cell? ⟨o2.heap.size, 4, none⟩ = some (.slice qT tl.ks.list.length dT) ∧ E.cell? ⟨o2.heap.size, 5, none⟩ = some (.int .i64 tc.op) ∧ E.cell? ⟨o2.heap.size, 6, none⟩ = some (.string tc.a) ∧ E.cell? ⟨o2.heap.size, 7, none⟩ = some (.slice rT tc.ks.list.length eT) ∧ E.cell? ⟨o2.heap.size, 8, none⟩ = some (.int .i64 td) ∧ E.cell? ⟨o5.heap.size, 0, none⟩ = some (.slice pg g.ns.length cg) ∧ E.cell? ⟨o5.heap.size, 1, none⟩ = some (.slice qg g.es.length dg)))
    obtain ⟨⟨han, hav⟩, ⟨hbn, hbv⟩, _, hmv⟩ := mergeB_parts EM
    have htv : elemV (⟨tn, tv, tl, tc, td⟩ : El) = true := by rw [← ET, mergeR_yes EM]; exact hmv
    have htsm : (⟨tn, tv, tl, tc, td⟩ : El).Sm := by rw [← ET, mergeR_yes EM]; exact mgE_sm hasm hbsm
    have HMG := Lib.hid (fun (k : Nat) (hk : k < g.ns.length) => (by rw [← ET]; exact nodeF_mg' EM hk : nodeF g (k : Int) (⟨tn, tv, tl, tc, td⟩ : El) = (nodeF g (k : Int) (⟨an, av, al, ac, ad⟩ : El) && nodeF g (k : Int) (⟨bn, bv, bl, bc, bd⟩ : El))))
    clear han hav hbn hbv hmv yW0 yW1 yW2 yW3 yW4 yW5 yW6 yW7 yW8 yW9 yW10 yW11 yW12 yW13 yW14 yW15 yW16 yW17 yVT0 yVT1 yVT2 yVT3 yVT4 yVT5 yVT6 yVT7 yVT8 yVG0 yVG1
    have HTV := Lib.hid htv
    clear htv
    have hgm : g.ns.length ≤ 9223372036854775807 := by obtain ⟨a1, b1, e1, h1, h2⟩ := HGA.out; cases e1; have := h1.max; unfold maxLen at this; omega
    go_wp2_with fail
    go_loopw [14] (fun i wr => ∃ j : Nat, j ≤ g.ns.length ∧ i = .int .i64 (j : Int) ∧ Below VG.heap.size VG wr) (fun i _ => g.ns.length - (intOf i).toNat)
    case atStart => exact ⟨0, Nat.zero_le _, rfl, by ((repeat (first | with_reducible assumption | with_reducible exact Below.refl _ _ | refine Below.setCell ?_ (by (first | omega | (simp; omega) | (simp; done) | fail "sml")) _ | refine Below.drew ?_ | refine Below.alloc ?_ (by (first | omega | (simp; omega) | (simp; done) | fail "sml")) _)); first | done | fail "chs")⟩
    case round =>
      obtain ⟨j, hj, rfl, hbr⟩ := hrel
      have hzr := hbr.size
      have r0 := Below.refl wr.heap.size wr
      have rwr := rwVG.trans (hbr.mono rwVG.size)
      obtain ⟨z0, z1, z2, z3, z4, z5, z6, z7, z8, z9, z10, z11, z12, z13, z14, z15, z16, z17, z18, z19, z20, z21, z22, z23, z24, z25, z26, z27, z28⟩ := KS.out _ hbr
      by_cases hlt : j < g.ns.length
      · have hmg := HMG.out j hlt
        have hjn : (j : Int) < (g.ns.length : Int) := by omega
        have HLT := Lib.hid (show j + 1 ≤ g.ns.length by omega)
        have CT := Lib.hid (fun (E : World) (hE : Below wr.heap.size wr E) => (fun {r : Bool} (h : nodeF g (j : Int) (⟨tn, tv, tl, tc, td⟩ : El) = r) => nodeFits_to h (.agg #[.slice pg g.ns.length cg, .slice qg g.es.length dg]) (.agg #[.bool tn, .string tv, .int .i64 tl.op, .string tl.a, .slice qT tl.ks.list.length dT, .int .i64 tc.op, .string tc.a, .slice rT tc.ks.list.length eT, .int .i64 td]) o5.heap.size E (HGA.out.below (ro5VG.trans (Below.mono (hbr.trans (Below.mono hE hzr)) ro5VG.size))) (HAT.out.at.below (ro2VG.trans (Below.mono (hbr.trans (Below.mono hE hzr)) ro2VG.size)) (show o2.heap.size ≤ o5.heap.size by omega)) (ro5VG.trans (Below.mono (hbr.trans (Below.mono hE hzr)) ro5VG.size)).size hok htsm (HVV.out.below (rwVG.trans (Below.mono (hbr.trans (Below.mono hE hzr)) rwVG.size)))))
        have CA := Lib.hid (fun (E : World) (hE : Below wr.heap.size wr E) => (fun {r : Bool} (h : nodeF g (j : Int) (⟨an, av, al, ac, ad⟩ : El) = r) => nodeFits_to h (.agg #[.slice pg g.ns.length cg, .slice qg g.es.length dg]) (.agg #[.bool an, .string av, .int .i64 al.op, .string al.a, .slice p al.ks.list.length c, .int .i64 ac.op, .string ac.a, .slice p' ac.ks.list.length c', .int .i64 ad]) o5.heap.size E (HGA.out.below (ro5VG.trans (Below.mono (hbr.trans (Below.mono hE hzr)) ro5VG.size))) (HAA.out.at.below (ro1VG.trans (Below.mono (hbr.trans (Below.mono hE hzr)) ro1VG.size)) (show o1.heap.size ≤ o5.heap.size by omega)) (ro5VG.trans (Below.mono (hbr.trans (Below.mono hE hzr)) ro5VG.size)).size hok hasm (HVV.out.below (rwVG.trans (Below.mono (hbr.trans (Below.mono hE hzr)) rwVG.size)))))
        have CB := Lib.hid (fun (E : World) (hE : Below wr.heap.size wr E) => (fun {r : Bool} (h : nodeF g (j : Int) (⟨bn, bv, bl, bc, bd⟩ : El) = r) => nodeFits_to h (.agg #[.slice pg g.ns.length cg, .slice qg g.es.length dg]) (.agg #[.bool bn, .string bv, .int .i64 bl.op, .string bl.a, .slice q bl.ks.list.length d, .int .i64 bc.op, .string bc.a, .slice q' bc.ks.list.length d', .int .i64 bd]) o5.heap.size E (HGA.out.below (ro5VG.trans (Below.mono (hbr.trans (Below.mono hE hzr)) ro5VG.size))) (HBB.out.at.below (ro1VG.trans (Below.mono (hbr.trans (Below.mono hE hzr)) ro1VG.size)) (show o1.heap.size ≤ o5.heap.size by omega)) (ro5VG.trans (Below.mono (hbr.trans (Below.mono hE hzr)) ro5VG.size)).size hok hbsm (HVV.out.below (rwVG.trans (Below.mono (hbr.trans (Below.mono hE hzr)) rwVG.size)))))
        cases EA : nodeF g (j : Int) (⟨an, av, al, ac, ad⟩ : El) with
        | false =>
          rw [EA, Bool.false_and] at hmg
          go_upto_region 12 with fail
          go_cut [88] from 67 to 88 (fun s wx => s = .bool false ∧ Below wr.heap.size wr wx)
          case first =>
            refine wp_region_held_drew (S := fun w' => w'.cell? ⟨o1.heap.size, 0, none⟩ = some (.bool an) ∧ w'.cell? ⟨o1.heap.size, 1, none⟩ = some (.string av) ∧ w'.cell? ⟨o1.heap.size, 2, none⟩ = some (.int .i64 al.op) ∧ w'.cell? ⟨o1.heap.size, 3, none⟩ = some (.string al.a) ∧ w'.cell? ⟨o1.heap.size, 4, none⟩ = some (.slice p al.ks.list.length c) ∧ w'.cell? ⟨o1.heap.size, 5, none⟩ = some (.int .i64 ac.op) ∧ w'.cell? ⟨o1.heap.size, 6, none⟩ = some (.string ac.a) ∧ w'.cell? ⟨o1.heap.size, 7, none⟩ = some (.slice p' ac.ks.list.length c') ∧ w'.cell? ⟨o1.heap.size, 8, none⟩ = some (.int .i64 ad) ∧ w'.cell? ⟨o1.heap.size + 1, 0, none⟩ = some (.bool bn) ∧ w'.cell? ⟨o1.heap.size + 1, 1, none⟩ = some (.string bv) ∧ w'.cell? ⟨o1.heap.size + 1, 2, none⟩ = some (.int .i64 bl.op) ∧ w'.cell? ⟨o1.heap.size + 1, 3, none⟩ = some (.string bl.a) ∧ w'.cell? ⟨o1.heap.size + 1, 4, none⟩ = some (.slice q bl.ks.list.length d) ∧ w'.cell? ⟨o1.heap.size + 1, 5, none⟩ = some (.int .i64 bc.op) ∧ w'.cell? ⟨o1.heap.size + 1, 6, none⟩ = some (.string bc.a) ∧ w'.cell? ⟨o1.heap.size + 1, 7, none⟩ = some (.slice q' bc.ks.list.length d') ∧ w'.cell? ⟨o1.heap.size + 1, 8, none⟩ = some (.int .i64 bd) ∧ w'.cell? ⟨o2.heap.size, 0, none⟩ = some (.bool tn) ∧ w'.cell? ⟨o2.heap.size, 1, none⟩ = some (.string tv) ∧ w'.cell? ⟨o2.heap.size, 2, none⟩ = some (.int .i64 tl.op) ∧ w'.cell? ⟨o2.heap.size, 3, none⟩ = some (.string tl.a) ∧ w'.cell? ⟨o2.heap.size, 4, none⟩ = some (.slice qT tl.ks.list.length dT) ∧ w'.cell? ⟨o2.heap.size, 5, none⟩ = some (.int .i64 tc.op) ∧ w'.cell? ⟨o2.heap.size, 6, none⟩ = some (.string tc.a) ∧ w'.cell? ⟨o2.heap.size, 7, none⟩ = some (.slice rT tc.ks.list.length eT) ∧ w'.cell? ⟨o2.heap.size, 8, none⟩ = some (.int .i64 td) ∧ w'.cell? ⟨o5.heap.size, 0, none⟩ = some (.slice pg g.ns.length cg) ∧ w'.cell? ⟨o5.heap.size, 1, none⟩ = some (.slice qg g.es.length dg)) (by kernel_rfl) ?_ (fun hHeld => ?_)
            · exact KS.out _ (hbr.trans (Below.mono (show Below wr.heap.size wr _ by ((repeat (first | with_reducible assumption | with_reducible exact Below.refl _ _ | refine Below.setCell ?_ (by (first | omega | (simp; omega) | (simp; done) | fail "sml")) _ | refine Below.drew ?_ | refine Below.alloc ?_ (by (first | omega | (simp; omega) | (simp; done) | fail "sml")) _)); first | done | fail "chs")) hzr))
            (refine takeL (i := 0) (v := ?_) rfl (by kernel_rfl) (by kernel_rfl) (by kernel_rfl) (fun _ _ _ h => h) (Or.inl ⟨by kernel_rfl, ?_⟩) (by assumption) ?_; rotate_left; (focus (intro w hSw; (try dsimp only at hSw); go_simp; first | done | with_reducible rfl | fail "take")); (try simp only [Act.put, List.setIfInBounds_toArray, List.set_cons_zero, List.set_cons_succ]))
            (refine takeL (i := 1) (v := ?_) rfl (by kernel_rfl) (by kernel_rfl) (by kernel_rfl) (fun _ _ _ h => h) (Or.inl ⟨by kernel_rfl, ?_⟩) (by assumption) ?_; rotate_left; (focus (intro w hSw; (try dsimp only at hSw); go_simp; first | done | with_reducible rfl | fail "take")); (try simp only [Act.put, List.setIfInBounds_toArray, List.set_cons_zero, List.set_cons_succ]))
            (refine takeL (i := 2) (v := ?_) rfl (by kernel_rfl) (by kernel_rfl) (by kernel_rfl) (fun _ _ _ h => h) (Or.inl ⟨by kernel_rfl, ?_⟩) (by assumption) ?_; rotate_left; (focus (intro w hSw; (try dsimp only at hSw); go_simp; first | done | with_reducible rfl | fail "take")); (try simp only [Act.put, List.setIfInBounds_toArray, List.set_cons_zero, List.set_cons_succ]))
            (refine takeL (i := 4) (v := ?_) rfl (by kernel_rfl) (by kernel_rfl) (by kernel_rfl) (fun _ _ _ h => h) (Or.inl ⟨by kernel_rfl, ?_⟩) (by assumption) ?_; rotate_left; (focus (intro w hSw; (try dsimp only at hSw); go_simp; first | done | with_reducible rfl | fail "take")); (try simp only [Act.put, List.setIfInBounds_toArray, List.set_cons_zero, List.set_cons_succ]))
            (refine takeL (i := 5) (v := ?_) rfl (by kernel_rfl) (by kernel_rfl) (by kernel_rfl) (fun _ _ _ h => h) (Or.inl ⟨by kernel_rfl, ?_⟩) (by assumption) ?_; rotate_left; (focus (intro w hSw; (try dsimp only at hSw); go_simp; first | done | with_reducible rfl | fail "take")); (try simp only [Act.put, List.setIfInBounds_toArray, List.set_cons_zero, List.set_cons_succ]))
            (refine takeL (i := 6) (v := ?_) rfl (by kernel_rfl) (by kernel_rfl) (by kernel_rfl) (fun _ _ _ h => h) (Or.inl ⟨by kernel_rfl, ?_⟩) (by assumption) ?_; rotate_left; (focus (intro w hSw; (try dsimp only at hSw); go_simp; first | done | with_reducible rfl | fail "take")); (try simp only [Act.put, List.setIfInBounds_toArray, List.set_cons_zero, List.set_cons_succ]))
            (refine callL (i := 3) rfl (by kernel_rfl) (by kernel_rfl) (fun K hK => ?_); go_simp)
            go_at_call 12
            refine Calls.mono (CT.out _ (show Below wr.heap.size wr _ by ((repeat (first | with_reducible assumption | with_reducible exact Below.refl _ _ | refine Below.setCell ?_ (by (first | omega | (simp; omega) | (simp; done) | fail "sml")) _ | refine Below.drew ?_ | refine Below.alloc ?_ (by (first | omega | (simp; omega) | (simp; done) | fail "sml")) _)); first | done | fail "chs")) hmg) ?_
            rintro en wT ⟨rfl, hb⟩
            have hT := Below.trans (show Below wr.heap.size wr _ by ((repeat (first | with_reducible assumption | with_reducible exact Below.refl _ _ | refine Below.setCell ?_ (by (first | omega | (simp; omega) | (simp; done) | fail "sml")) _ | refine Below.drew ?_ | refine Below.alloc ?_ (by (first | omega | (simp; omega) | (simp; done) | fail "sml")) _)); first | done | fail "chs")) (hb.mono (by (first | omega | (simp; omega) | (simp; done) | fail "sml")))
            have yT := hT.size
            clear hb
            go_wp2_with fail
            refine hK.out _ _ (KS.out _ (hbr.trans (Below.mono (show Below wr.heap.size wr _ by ((repeat (first | with_reducible assumption | with_reducible exact Below.refl _ _ | refine Below.setCell ?_ (by (first | omega | (simp; omega) | (simp; done) | fail "sml")) _ | refine Below.drew ?_ | refine Below.alloc ?_ (by (first | omega | (simp; omega) | (simp; done) | fail "sml")) _)); first | done | fail "chs")) hzr))) (fun hHeld => ?_)
            clear hK K
            (try simp only [Act.put, List.setIfInBounds_toArray, List.set_cons_zero, List.set_cons_succ])
            (refine callL (i := 7) rfl (by kernel_rfl) (by kernel_rfl) (fun K hK => ?_); go_simp)
            go_at_call 12
            refine Calls.mono (CA.out _ (show Below wr.heap.size wr _ by ((repeat (first | with_reducible assumption | with_reducible exact Below.refl _ _ | refine Below.setCell ?_ (by (first | omega | (simp; omega) | (simp; done) | fail "sml")) _ | refine Below.drew ?_ | refine Below.alloc ?_ (by (first | omega | (simp; omega) | (simp; done) | fail "sml")) _)); first | done | fail "chs")) EA) ?_
            rintro en wA ⟨rfl, hb⟩
            have hA := Below.trans (show Below wr.heap.size wr _ by ((repeat (first | with_reducible assumption | with_reducible exact Below.refl _ _ | refine Below.setCell ?_ (by (first | omega | (simp; omega) | (simp; done) | fail "sml")) _ | refine Below.drew ?_ | refine Below.alloc ?_ (by (first | omega | (simp; omega) | (simp; done) | fail "sml")) _)); first | done | fail "chs")) (hb.mono (by (first | omega | (simp; omega) | (simp; done) | fail "sml")))
            have yA := hA.size
            clear hb
            go_wp2_with fail
            refine hK.out _ _ (KS.out _ (hbr.trans (Below.mono (show Below wr.heap.size wr _ by ((repeat (first | with_reducible assumption | with_reducible exact Below.refl _ _ | refine Below.setCell ?_ (by (first | omega | (simp; omega) | (simp; done) | fail "sml")) _ | refine Below.drew ?_ | refine Below.alloc ?_ (by (first | omega | (simp; omega) | (simp; done) | fail "sml")) _)); first | done | fail "chs")) hzr))) (fun hHeld => ?_)
            clear hK K
            (try simp only [Act.put, List.setIfInBounds_toArray, List.set_cons_zero, List.set_cons_succ])
            (refine takeL (i := 8) (v := ?_) rfl (by kernel_rfl) (by kernel_rfl) (by kernel_rfl) (fun _ _ _ h => h) (Or.inl ⟨by kernel_rfl, ?_⟩) (by assumption) ?_; rotate_left; (focus (intro w hSw; (try dsimp only at hSw); go_simp; first | done | with_reducible rfl | fail "take")); (try simp only [Act.put, List.setIfInBounds_toArray, List.set_cons_zero, List.set_cons_succ]))
            (refine takeL (i := 9) (v := undef) rfl (by kernel_rfl) (by kernel_rfl) (by kernel_rfl) (fun _ _ _ h => h) (Or.inr ⟨by kernel_rfl, rfl⟩) (by assumption) ?_; (try simp only [Act.put, List.setIfInBounds_toArray, List.set_cons_zero, List.set_cons_succ]))
            (refine takeL (i := 10) (v := undef) rfl (by kernel_rfl) (by kernel_rfl) (by kernel_rfl) (fun _ _ _ h => h) (Or.inr ⟨by kernel_rfl, rfl⟩) (by assumption) ?_; (try simp only [Act.put, List.setIfInBounds_toArray, List.set_cons_zero, List.set_cons_succ]))
            (refine takeL (i := 11) (v := undef) rfl (by kernel_rfl) (by kernel_rfl) (by kernel_rfl) (fun _ _ _ h => h) (Or.inr ⟨by kernel_rfl, rfl⟩) (by assumption) ?_; (try simp only [Act.put, List.setIfInBounds_toArray, List.set_cons_zero, List.set_cons_succ]))
            (refine takeL (i := 12) (v := undef) rfl (by kernel_rfl) (by kernel_rfl) (by kernel_rfl) (fun _ _ _ h => h) (Or.inr ⟨by kernel_rfl, rfl⟩) (by assumption) ?_; (try simp only [Act.put, List.setIfInBounds_toArray, List.set_cons_zero, List.set_cons_succ]))
            (refine takeL (i := 13) (v := ?_) rfl (by kernel_rfl) (by kernel_rfl) (by kernel_rfl) (fun _ _ _ h => h) (Or.inl ⟨by kernel_rfl, ?_⟩) (by assumption) ?_; rotate_left; (focus (intro w hSw; (try dsimp only at hSw); go_simp; first | done | with_reducible rfl | fail "take")); (try simp only [Act.put, List.setIfInBounds_toArray, List.set_cons_zero, List.set_cons_succ]))
            (refine takeL (i := 14) (v := ?_) rfl (by kernel_rfl) (by kernel_rfl) (by kernel_rfl) (fun _ _ _ h => h) (Or.inl ⟨by kernel_rfl, ?_⟩) (by assumption) ?_; rotate_left; (focus (intro w hSw; (try dsimp only at hSw); go_simp; first | done | with_reducible rfl | fail "take")); (try simp only [Act.put, List.setIfInBounds_toArray, List.set_cons_zero, List.set_cons_succ]))
            refine wpAnyH_done (by kernel_rfl) ?_ _
            go_wp2_with fail
            go_meet
            exact ⟨rfl, by ((repeat (first | with_reducible assumption | with_reducible exact Below.refl _ _ | refine Below.setCell ?_ (by (first | omega | (simp; omega) | (simp; done) | fail "sml")) _ | refine Below.drew ?_ | refine Below.alloc ?_ (by (first | omega | (simp; omega) | (simp; done) | fail "sml")) _)); first | done | fail "chs")⟩
          case rest =>
            obtain ⟨rfl, hbx⟩ := hcut
            go_wp2_with fail
            go_roundw
            case rel => exact ⟨j + 1, HLT.out, by go_num, hbr.trans (hbx.mono hzr)⟩
            case measure => have := HLT.out; simp [intOf]; omega
        | true =>
          rw [EA, Bool.true_and] at hmg
          obtain ⟨eB, EB⟩ : ∃ eB, nodeF g (j : Int) (⟨bn, bv, bl, bc, bd⟩ : El) = eB := ⟨_, rfl⟩
          rw [EB] at hmg
          cases eB
          all_goals
            go_upto_region 12 with fail
            go_cut [88] from 67 to 88 (fun s wx => s = .bool false ∧ Below wr.heap.size wr wx)
            case first =>
              first
              | go_region_held3 (fun w' => w'.cell? ⟨o1.heap.size, 0, none⟩ = some (.bool an) ∧ w'.cell? ⟨o1.heap.size, 1, none⟩ = some (.string av) ∧ w'.cell? ⟨o1.heap.size, 2, none⟩ = some (.int .i64 al.op) ∧ w'.cell? ⟨o1.heap.size, 3, none⟩ = some (.string al.a) ∧ w'.cell? ⟨o1.heap.size, 4, none⟩ = some (.slice p al.ks.list.length c) ∧ w'.cell? ⟨o1.heap.size, 5, none⟩ = some (.int .i64 ac.op) ∧ w'.cell? ⟨o1.heap.size, 6, none⟩ = some (.string ac.a) ∧ w'.cell? ⟨o1.heap.size, 7, none⟩ = some (.slice p' ac.ks.list.length c') ∧ w'.cell? ⟨o1.heap.size, 8, none⟩ = some (.int .i64 ad) ∧ w'.cell? ⟨o1.heap.size + 1, 0, none⟩ = some (.bool bn) ∧ w'.cell? ⟨o1.heap.size + 1, 1, none⟩ = some (.string bv) ∧ w'.cell? ⟨o1.heap.size + 1, 2, none⟩ = some (.int .i64 bl.op) ∧ w'.cell? ⟨o1.heap.size + 1, 3, none⟩ = some (.string bl.a) ∧ w'.cell? ⟨o1.heap.size + 1, 4, none⟩ = some (.slice q bl.ks.list.length d) ∧ w'.cell? ⟨o1.heap.size + 1, 5, none⟩ = some (.int .i64 bc.op) ∧ w'.cell? ⟨o1.heap.size + 1, 6, none⟩ = some (.string bc.a) ∧ w'.cell? ⟨o1.heap.size + 1, 7, none⟩ = some (.slice q' bc.ks.list.length d') ∧ w'.cell? ⟨o1.heap.size + 1, 8, none⟩ = some (.int .i64 bd) ∧ w'.cell? ⟨o2.heap.size, 0, none⟩ = some (.bool tn) ∧ w'.cell? ⟨o2.heap.size, 1, none⟩ = some (.string tv) ∧ w'.cell? ⟨o2.heap.size, 2, none⟩ = some (.int .i64 tl.op) ∧ w'.cell? ⟨o2.heap.size, 3, none⟩ = some (.string tl.a) ∧ w'.cell? ⟨o2.heap.size, 4, none⟩ = some (.slice qT tl.ks.list.length dT) ∧ w'.cell? ⟨o2.heap.size, 5, none⟩ = some (.int .i64 tc.op) ∧ w'.cell? ⟨o2.heap.size, 6, none⟩ = some (.string tc.a) ∧ w'.cell? ⟨o2.heap.size, 7, none⟩ = some (.slice rT tc.ks.list.length eT) ∧ w'.cell? ⟨o2.heap.size, 8, none⟩ = some (.int .i64 td) ∧ w'.cell? ⟨o5.heap.size, 0, none⟩ = some (.slice pg g.ns.length cg) ∧ w'.cell? ⟨o5.heap.size, 1, none⟩ = some (.slice qg g.es.length dg))
                (exact KS.out _ (hbr.trans (Below.mono (show Below wr.heap.size wr _ by ((repeat (first | with_reducible assumption | with_reducible exact Below.refl _ _ | refine Below.setCell ?_ (by (first | omega | (simp; omega) | (simp; done) | fail "sml")) _ | refine Below.drew ?_ | refine Below.alloc ?_ (by (first | omega | (simp; omega) | (simp; done) | fail "sml")) _)); first | done | fail "chs")) hzr)))
                (first
                  | (go_at_call 12; with_reducible refine (CT.out _ (show Below wr.heap.size wr _ by ((repeat (first | with_reducible assumption | with_reducible exact Below.refl _ _ | refine Below.setCell ?_ (by (first | omega | (simp; omega) | (simp; done) | fail "sml")) _ | refine Below.drew ?_ | refine Below.alloc ?_ (by (first | omega | (simp; omega) | (simp; done) | fail "sml")) _)); first | done | fail "chs")) hmg).mono ?_; rintro en wT ⟨rfl, hb⟩; have hT := Below.trans (show Below wr.heap.size wr _ by ((repeat (first | with_reducible assumption | with_reducible exact Below.refl _ _ | refine Below.setCell ?_ (by (first | omega | (simp; omega) | (simp; done) | fail "sml")) _ | refine Below.drew ?_ | refine Below.alloc ?_ (by (first | omega | (simp; omega) | (simp; done) | fail "sml")) _)); first | done | fail "chs")) (hb.mono (by (first | omega | (simp; omega) | (simp; done) | fail "sml"))); have yT := hT.size; clear hb)
                  | (go_at_call 12; with_reducible refine (CA.out _ (show Below wr.heap.size wr _ by ((repeat (first | with_reducible assumption | with_reducible exact Below.refl _ _ | refine Below.setCell ?_ (by (first | omega | (simp; omega) | (simp; done) | fail "sml")) _ | refine Below.drew ?_ | refine Below.alloc ?_ (by (first | omega | (simp; omega) | (simp; done) | fail "sml")) _)); first | done | fail "chs")) EA).mono ?_; rintro en wA ⟨rfl, hb⟩; have hA := Below.trans (show Below wr.heap.size wr _ by ((repeat (first | with_reducible assumption | with_reducible exact Below.refl _ _ | refine Below.setCell ?_ (by (first | omega | (simp; omega) | (simp; done) | fail "sml")) _ | refine Below.drew ?_ | refine Below.alloc ?_ (by (first | omega | (simp; omega) | (simp; done) | fail "sml")) _)); first | done | fail "chs")) (hb.mono (by (first | omega | (simp; omega) | (simp; done) | fail "sml"))); have yA := hA.size; clear hb)
                  | (go_at_call 12; with_reducible refine (CB.out _ (show Below wr.heap.size wr _ by ((repeat (first | with_reducible assumption | with_reducible exact Below.refl _ _ | refine Below.setCell ?_ (by (first | omega | (simp; omega) | (simp; done) | fail "sml")) _ | refine Below.drew ?_ | refine Below.alloc ?_ (by (first | omega | (simp; omega) | (simp; done) | fail "sml")) _)); first | done | fail "chs")) EB).mono ?_; rintro en wB ⟨rfl, hb⟩; have hB := Below.trans (show Below wr.heap.size wr _ by ((repeat (first | with_reducible assumption | with_reducible exact Below.refl _ _ | refine Below.setCell ?_ (by (first | omega | (simp; omega) | (simp; done) | fail "sml")) _ | refine Below.drew ?_ | refine Below.alloc ?_ (by (first | omega | (simp; omega) | (simp; done) | fail "sml")) _)); first | done | fail "chs")) (hb.mono (by (first | omega | (simp; omega) | (simp; done) | fail "sml"))); have yB := hB.size; clear hb)
                  | fail "no arm")
              | fail "region"
              all_goals (go_wp2_with fail; go_meet)
              all_goals exact ⟨rfl, by ((repeat (first | with_reducible assumption | with_reducible exact Below.refl _ _ | refine Below.setCell ?_ (by (first | omega | (simp; omega) | (simp; done) | fail "sml")) _ | refine Below.drew ?_ | refine Below.alloc ?_ (by (first | omega | (simp; omega) | (simp; done) | fail "sml")) _)); first | done | fail "chs")⟩
            case rest =>
              obtain ⟨rfl, hbx⟩ := hcut
              go_wp2_with fail
              go_roundw
              case rel => exact ⟨j + 1, HLT.out, by go_num, hbr.trans (hbx.mono hzr)⟩
              case measure => have := HLT.out; simp [intOf]; omega
      · have hjn : ¬ ((j : Int) < (g.ns.length : Int)) := by omega
        go_wp2_with fail
        refine (elemValid_any (⟨tn, tv, tl, tc, td⟩ : El) _ o2.heap.size _ (HAT.out.at.below (ro2VG.trans (hbr.mono ro2VG.size)) (Nat.le_refl _)) (ro2VG.trans (hbr.mono ro2VG.size)).size htsm (HVV.out.below rwr)).mono ?_
        rintro en wz ⟨rfl, hb⟩
        rw [HTV.out]
        go_wp2_with fail
        go_ret
        exact ⟨rfl, rwr.trans (hb.mono rwr.size)⟩

end Go.Proofs.YtbbemeaojmfndaaDoor
