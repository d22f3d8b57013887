/- The walk of FnMergeSame. -/
import Derived.Test.YtbbemeaojmfndaaDoorM10q1p1
import Derived.Test.YtbbemeaojmfndaaDoorM6q0p1
import Derived.Test.YtbbemeaojmfndaaDoorM0q0p1
import Derived.Test.YtbbemeaojmfndaaDoorM7q0p1
namespace Go.Proofs.YtbbemeaojmfndaaDoor
open Go.RowKit

set_option maxRecDepth 100000 in
set_option maxHeartbeats 16000000 in
theorem lawMergeSame (zs : List Int) (v : Value) (w : World) (hv : Sl 1 byCells w.heap.size w v zs) (hz : ∀ z ∈ zs, 0 ≤ z ∧ z ≤ 255) (hvars : Vars w) :
    Calls Tryd.prog 4 #[v] w fun e w' => e = .returned (.bool true) ∧ Below w.heap.size w w' := by
  have HVV := Lib.hid hvars
  clear hvars
  obtain ⟨p, cap, rfl⟩ := hv.form
  have hm := hv.max
  unfold maxLen at hm
  by_cases hbig : (1048576 : Int) < zs.length
  · go_enter Tryd.func4, Tryd.ntmps4
    go_wp2_with fail
    go_ret
    exact ⟨rfl, Below.refl _ _⟩
  go_enter Tryd.func4, Tryd.ntmps4
  go_wp2_with fail
  have rw0 := Below.refl w.heap.size w
  refine Calls.mono (drawMergeElems_any zs _ w.heap.size _ hv (Nat.le_refl _) hz) ?_
  rintro en o1 ⟨⟨an, av, al, ac, ad⟩, p, c, p', c', ⟨bn, bv, bl, bc, bd⟩, q, d, q', d', rfl, ha, hb', hb⟩
  have rwo1 := Below.trans (show Below w.heap.size w _ by assumption) (hb.mono (by omega))
  have zwo1 := rwo1.size
  have hasm := ha.sm
  have hbsm := hb'.sm
  obtain ⟨FA, hah⟩ := ha.has
  obtain ⟨FB, hbh⟩ := hb'.has
  have HAA := Lib.hid hah
  have HBB := Lib.hid hbh
  clear ha hb' hah hbh
  clear hb 
  have ro10 := Below.refl o1.heap.size o1
  go_upto_region 4 with fail
  obtain ⟨W, eW⟩ : ∃ E, E = (o1.alloc (.cells #[.bool an, .string av, .int .i64 al.op, .string al.a, .slice p al.ks.list.length c, .int .i64 ac.op, .string ac.a, .slice p' ac.ks.list.length c', .int .i64 ad] 27)).alloc (.cells #[.bool bn, .string bv, .int .i64 bl.op, .string bl.a, .slice q bl.ks.list.length d, .int .i64 bc.op, .string bc.a, .slice q' bc.ks.list.length d', .int .i64 bd] 27) := ⟨_, rfl⟩
  have kW : Below o1.heap.size o1 W := by rw [eW]; ((repeat (first | with_reducible assumption | with_reducible exact Below.refl _ _ | refine Below.setCell ?_ (by (first | omega | (simp; omega) | (simp; done) | fail "sml")) _ | refine Below.drew ?_ | refine Below.alloc ?_ (by (first | omega | (simp; omega) | (simp; done) | fail "sml")) _)); first | done | fail "chs")
  have sW : o1.heap.size + 1 < W.heap.size := by rw [eW]; simp
  have HCW := Lib.hid (show (W.cell? ⟨o1.heap.size, 0, none⟩ = some (.bool an) ∧ W.cell? ⟨o1.heap.size, 1, none⟩ = some (.string av) ∧ W.cell? ⟨o1.heap.size, 2, none⟩ = some (.int .i64 al.op) ∧ W.cell? ⟨o1.heap.size, 3, none⟩ = some (.string al.a) ∧ W.cell? ⟨o1.heap.size, 4, none⟩ = some (.slice p al.ks.list.length c) ∧ W.cell? ⟨o1.heap.size, 5, none⟩ = some (.int .i64 ac.op) ∧ W.cell? ⟨o1.heap.size, 6, none⟩ = some (.string ac.a) ∧ W.cell? ⟨o1.heap.size, 7, none⟩ = some (.slice p' ac.ks.list.length c') ∧ W.cell? ⟨o1.heap.size, 8, none⟩ = some (.int .i64 ad) ∧ W.cell? ⟨o1.heap.size + 1, 0, none⟩ = some (.bool bn) ∧ W.cell? ⟨o1.heap.size + 1, 1, none⟩ = some (.string bv) ∧ W.cell? ⟨o1.heap.size + 1, 2, none⟩ = some (.int .i64 bl.op) ∧ W.cell? ⟨o1.heap.size + 1, 3, none⟩ = some (.string bl.a) ∧ W.cell? ⟨o1.heap.size + 1, 4, none⟩ = some (.slice q bl.ks.list.length d) ∧ W.cell? ⟨o1.heap.size + 1, 5, none⟩ = some (.int .i64 bc.op) ∧ W.cell? ⟨o1.heap.size + 1, 6, none⟩ = some (.string bc.a) ∧ W.cell? ⟨o1.heap.size + 1, 7, none⟩ = some (.slice q' bc.ks.list.length d') ∧ W.cell? ⟨o1.heap.size + 1, 8, none⟩ = some (.int .i64 bd)) from by rw [eW]; exact ⟨by simp [go_sem], by simp [go_sem], by simp [go_sem], by simp [go_sem], by simp [go_sem], by simp [go_sem], by simp [go_sem], by simp [go_sem], by simp [go_sem], by simp [go_sem], by simp [go_sem], by simp [go_sem], by simp [go_sem], by simp [go_sem], by simp [go_sem], by simp [go_sem], by simp [go_sem], by simp [go_sem]⟩)
  have rwW := Below.trans (show Below w.heap.size w _ by ((repeat (first | with_reducible assumption | with_reducible exact Below.refl _ _ | refine Below.setCell ?_ (by (first | omega | (simp; omega) | (simp; done) | fail "sml")) _ | refine Below.drew ?_ | refine Below.alloc ?_ (by (first | omega | (simp; omega) | (simp; done) | fail "sml")) _)); first | done | fail "chs")) (kW.mono (by (first | omega | (simp; omega) | (simp; done) | fail "sml")))
  have ro1W := Below.trans (show Below o1.heap.size o1 _ by ((repeat (first | with_reducible assumption | with_reducible exact Below.refl _ _ | refine Below.setCell ?_ (by (first | omega | (simp; omega) | (simp; done) | fail "sml")) _ | refine Below.drew ?_ | refine Below.alloc ?_ (by (first | omega | (simp; omega) | (simp; done) | fail "sml")) _)); first | done | fail "chs")) (kW.mono (by (first | omega | (simp; omega) | (simp; done) | fail "sml")))
  rw [← eW]
  have HKW := Lib.hid (fun (E : World) (hE : Below W.heap.size W E) => (⟨keepc hE (by omega) HCW.out.1, keepc hE (by omega) HCW.out.2.1, keepc hE (by omega) HCW.out.2.2.1, keepc hE (by omega) HCW.out.2.2.2.1, keepc hE (by omega) HCW.out.2.2.2.2.1, keepc hE (by omega) HCW.out.2.2.2.2.2.1, keepc hE (by omega) HCW.out.2.2.2.2.2.2.1, keepc hE (by omega) HCW.out.2.2.2.2.2.2.2.1, keepc hE (by omega) HCW.out.2.2.2.2.2.2.2.2.1, keepc hE (by omega) HCW.out.2.2.2.2.2.2.2.2.2.1, keepc hE (by omega) HCW.out.2.2.2.2.2.2.2.2.2.2.1, keepc hE (by omega) HCW.out.2.2.2.2.2.2.2.2.2.2.2.1, keepc hE (by omega) HCW.out.2.2.2.2.2.2.2.2.2.2.2.2.1, keepc hE (by omega) HCW.out.2.2.2.2.2.2.2.2.2.2.2.2.2.1, keepc hE (by omega) HCW.out.2.2.2.2.2.2.2.2.2.2.2.2.2.2.1, keepc hE (by omega) HCW.out.2.2.2.2.2.2.2.2.2.2.2.2.2.2.2.1, keepc hE (by omega) HCW.out.2.2.2.2.2.2.2.2.2.2.2.2.2.2.2.2.1, keepc hE (by omega) HCW.out.2.2.2.2.2.2.2.2.2.2.2.2.2.2.2.2.2⟩ : E.cell? ⟨o1.heap.size, 0, none⟩ = some (.bool an) ∧ E.cell? ⟨o1.heap.size, 1, none⟩ = some (.string av) ∧ E.cell? ⟨o1.heap.size, 2, none⟩ = some (.int .i64 al.op) ∧ E.cell? ⟨o1.heap.size, 3, none⟩ = some (.string al.a) ∧ E.cell? ⟨o1.heap.size, 4, none⟩ = some (.slice p al.ks.list.length c) ∧ E.cell? ⟨o1.heap.size, 5, none⟩ = some (.int .i64 ac.op) ∧ E.cell? ⟨o1.heap.size, 6, none⟩ = some (.string ac.a) ∧ E.cell? ⟨o1.heap.size, 7, none⟩ = some (.slice p' ac.ks.list.length c') ∧ E.cell? ⟨o1.heap.size, 8, none⟩ = some (.int .i64 ad) ∧ E.cell? ⟨o1.heap.size + 1, 0, none⟩ = some (.bool bn) ∧ E.cell? ⟨o1.heap.size + 1, 1, none⟩ = some (.string bv) ∧ E.cell? ⟨o1.heap.size + 1, 2, none⟩ = some (.int .i64 bl.op) ∧ E.cell? ⟨o1.heap.size + 1, 3, none⟩ = some (.string bl.a) ∧ E.cell? ⟨o1.heap.size + 1, 4, none⟩ = some (.slice q bl.ks.list.length d) ∧ E.cell? ⟨o1.heap.size + 1, 5, none⟩ = some (.int .i64 bc.op) ∧ E.cell? ⟨o1.heap.size + 1, 6, none⟩ = some (.string bc.a) ∧ E.cell? ⟨o1.heap.size + 1, 7, none⟩ = some (.slice q' bc.ks.list.length d') ∧ E.cell? ⟨o1.heap.size + 1, 8, none⟩ = some (.int .i64 bd)))
  have rW0 := Below.refl W.heap.size W
  obtain ⟨yW0, yW1, yW2, yW3, yW4, yW5, yW6, yW7, yW8, yW9, yW10, yW11, yW12, yW13, yW14, yW15, yW16, yW17⟩ := HKW.out _ rW0
  clear eW kW
  obtain ⟨⟨tn, tv, tl, tc, td⟩, ET⟩ : ∃ T, mergeR (⟨an, av, al, ac, ad⟩ : El) (⟨bn, bv, bl, bc, bd⟩ : El) = T := ⟨_, rfl⟩
  have hts := mergeR_small (⟨an, av, al, ac, ad⟩ : El) (⟨bn, bv, bl, bc, bd⟩ : El)
  rw [ET] at hts
  cases EM : mergeB (⟨an, av, al, ac, ad⟩ : El) (⟨bn, bv, bl, bc, bd⟩ : El) with
  | false =>
    go_wp2_with fail
    refine Calls.mono (mergeElems_to ET EM _ _ _ (HAA.out.below (show Below o1.heap.size o1 _ by assumption)).liv (HBB.out.below (show Below o1.heap.size o1 _ by assumption)).liv hasm hbsm (HVV.out.below (show Below w.heap.size w _ by assumption))) ?_
    rintro en o2 ⟨vT, FT, rfl, hTT, hlT, hb⟩
    have rwo2 := Below.trans (show Below w.heap.size w _ by assumption) (hb.mono (by omega))
    have zwo2 := rwo2.size
    have ro1o2 := Below.trans (show Below o1.heap.size o1 _ by assumption) (hb.mono (by omega))
    have zo1o2 := ro1o2.size
    have rWo2 := Below.trans (show Below W.heap.size W _ by assumption) (hb.mono (by omega))
    have zWo2 := rWo2.size
    obtain ⟨qT, dT, rT, eT, rfl⟩ := hTT.form
    have HAT := Lib.hid hTT
    clear hTT hlT
    clear hb yW0 yW1 yW2 yW3 yW4 yW5 yW6 yW7 yW8 yW9 yW10 yW11 yW12 yW13 yW14 yW15 yW16 yW17
    obtain ⟨yW0, yW1, yW2, yW3, yW4, yW5, yW6, yW7, yW8, yW9, yW10, yW11, yW12, yW13, yW14, yW15, yW16, yW17⟩ := HKW.out _ rWo2
    have ro20 := Below.refl o2.heap.size o2
    go_upto_region 5 with fail
    obtain ⟨VT, eVT⟩ : ∃ E, E = o2.alloc (.cells #[.bool tn, .string tv, .int .i64 tl.op, .string tl.a, .slice qT tl.ks.list.length dT, .int .i64 tc.op, .string tc.a, .slice rT tc.ks.list.length eT, .int .i64 td] 27) := ⟨_, rfl⟩
    have sVT : o2.heap.size < VT.heap.size := by rw [eVT]; simp
    have kVT : Below o2.heap.size o2 VT := by rw [eVT]; ((repeat (first | with_reducible assumption | with_reducible exact Below.refl _ _ | refine Below.setCell ?_ (by (first | omega | (simp; omega) | (simp; done) | fail "sml")) _ | refine Below.drew ?_ | refine Below.alloc ?_ (by (first | omega | (simp; omega) | (simp; done) | fail "sml")) _)); first | done | fail "chs")
    have HCVT := Lib.hid (show VT.cell? ⟨o2.heap.size, 0, none⟩ = some (.bool tn) ∧ VT.cell? ⟨o2.heap.size, 1, none⟩ = some (.string tv) ∧ VT.cell? ⟨o2.heap.size, 2, none⟩ = some (.int .i64 tl.op) ∧ VT.cell? ⟨o2.heap.size, 3, none⟩ = some (.string tl.a) ∧ VT.cell? ⟨o2.heap.size, 4, none⟩ = some (.slice qT tl.ks.list.length dT) ∧ VT.cell? ⟨o2.heap.size, 5, none⟩ = some (.int .i64 tc.op) ∧ VT.cell? ⟨o2.heap.size, 6, none⟩ = some (.string tc.a) ∧ VT.cell? ⟨o2.heap.size, 7, none⟩ = some (.slice rT tc.ks.list.length eT) ∧ VT.cell? ⟨o2.heap.size, 8, none⟩ = some (.int .i64 td) from by rw [eVT]; exact ⟨by simp [go_sem], by simp [go_sem], by simp [go_sem], by simp [go_sem], by simp [go_sem], by simp [go_sem], by simp [go_sem], by simp [go_sem], by simp [go_sem]⟩)
    skip
    rw [← eVT]
    have rwVT := Below.trans (show Below w.heap.size w _ by ((repeat (first | with_reducible assumption | with_reducible exact Below.refl _ _ | refine Below.setCell ?_ (by (first | omega | (simp; omega) | (simp; done) | fail "sml")) _ | refine Below.drew ?_ | refine Below.alloc ?_ (by (first | omega | (simp; omega) | (simp; done) | fail "sml")) _)); first | done | fail "chs")) (kVT.mono (by (first | omega | (simp; omega) | (simp; done) | fail "sml")))
    have ro1VT := Below.trans (show Below o1.heap.size o1 _ by ((repeat (first | with_reducible assumption | with_reducible exact Below.refl _ _ | refine Below.setCell ?_ (by (first | omega | (simp; omega) | (simp; done) | fail "sml")) _ | refine Below.drew ?_ | refine Below.alloc ?_ (by (first | omega | (simp; omega) | (simp; done) | fail "sml")) _)); first | done | fail "chs")) (kVT.mono (by (first | omega | (simp; omega) | (simp; done) | fail "sml")))
    have rWVT := Below.trans (show Below W.heap.size W _ by ((repeat (first | with_reducible assumption | with_reducible exact Below.refl _ _ | refine Below.setCell ?_ (by (first | omega | (simp; omega) | (simp; done) | fail "sml")) _ | refine Below.drew ?_ | refine Below.alloc ?_ (by (first | omega | (simp; omega) | (simp; done) | fail "sml")) _)); first | done | fail "chs")) (kVT.mono (by (first | omega | (simp; omega) | (simp; done) | fail "sml")))
    have ro2VT := Below.trans (show Below o2.heap.size o2 _ by ((repeat (first | with_reducible assumption | with_reducible exact Below.refl _ _ | refine Below.setCell ?_ (by (first | omega | (simp; omega) | (simp; done) | fail "sml")) _ | refine Below.drew ?_ | refine Below.alloc ?_ (by (first | omega | (simp; omega) | (simp; done) | fail "sml")) _)); first | done | fail "chs")) (kVT.mono (by (first | omega | (simp; omega) | (simp; done) | fail "sml")))
    have HKVT := Lib.hid (fun (E : World) (hE : Below VT.heap.size VT E) => (⟨keepc hE sVT HCVT.out.1, keepc hE sVT HCVT.out.2.1, keepc hE sVT HCVT.out.2.2.1, keepc hE sVT HCVT.out.2.2.2.1, keepc hE sVT HCVT.out.2.2.2.2.1, keepc hE sVT HCVT.out.2.2.2.2.2.1, keepc hE sVT HCVT.out.2.2.2.2.2.2.1, keepc hE sVT HCVT.out.2.2.2.2.2.2.2.1, keepc hE sVT HCVT.out.2.2.2.2.2.2.2.2⟩ : E.cell? ⟨o2.heap.size, 0, none⟩ = some (.bool tn) ∧ E.cell? ⟨o2.heap.size, 1, none⟩ = some (.string tv) ∧ E.cell? ⟨o2.heap.size, 2, none⟩ = some (.int .i64 tl.op) ∧ E.cell? ⟨o2.heap.size, 3, none⟩ = some (.string tl.a) ∧ E.cell? ⟨o2.heap.size, 4, none⟩ = some (.slice qT tl.ks.list.length dT) ∧ E.cell? ⟨o2.heap.size, 5, none⟩ = some (.int .i64 tc.op) ∧ E.cell? ⟨o2.heap.size, 6, none⟩ = some (.string tc.a) ∧ E.cell? ⟨o2.heap.size, 7, none⟩ = some (.slice rT tc.ks.list.length eT) ∧ E.cell? ⟨o2.heap.size, 8, none⟩ = some (.int .i64 td)))
    have rVT0 := Below.refl VT.heap.size VT
    obtain ⟨yVT0, yVT1, yVT2, yVT3, yVT4, yVT5, yVT6, yVT7, yVT8⟩ := HKVT.out _ rVT0
    clear eVT kVT
    clear yW0 yW1 yW2 yW3 yW4 yW5 yW6 yW7 yW8 yW9 yW10 yW11 yW12 yW13 yW14 yW15 yW16 yW17
    obtain ⟨yW0, yW1, yW2, yW3, yW4, yW5, yW6, yW7, yW8, yW9, yW10, yW11, yW12, yW13, yW14, yW15, yW16, yW17⟩ := HKW.out _ rWVT
    go_wp2_with fail
    refine Calls.mono (specMergeElems_to ET EM _ _ _ (HAA.out.below (show Below o1.heap.size o1 _ by assumption)).liv (HBB.out.below (show Below o1.heap.size o1 _ by assumption)).liv hasm hbsm) ?_
    rintro en o3 ⟨vQ, FQ, rfl, hTQ, hlQ, hb⟩
    have rwo3 := Below.trans (show Below w.heap.size w _ by assumption) (hb.mono (by omega))
    have zwo3 := rwo3.size
    have ro1o3 := Below.trans (show Below o1.heap.size o1 _ by assumption) (hb.mono (by omega))
    have zo1o3 := ro1o3.size
    have rWo3 := Below.trans (show Below W.heap.size W _ by assumption) (hb.mono (by omega))
    have zWo3 := rWo3.size
    have ro2o3 := Below.trans (show Below o2.heap.size o2 _ by assumption) (hb.mono (by omega))
    have zo2o3 := ro2o3.size
    have rVTo3 := Below.trans (show Below VT.heap.size VT _ by assumption) (hb.mono (by omega))
    have zVTo3 := rVTo3.size
    obtain ⟨qQ, dQ, rQ, eQ, rfl⟩ := hTQ.form
    have HAQ := Lib.hid hTQ
    clear hTQ hlQ
    clear hb yW0 yW1 yW2 yW3 yW4 yW5 yW6 yW7 yW8 yW9 yW10 yW11 yW12 yW13 yW14 yW15 yW16 yW17 yVT0 yVT1 yVT2 yVT3 yVT4 yVT5 yVT6 yVT7 yVT8
    obtain ⟨yW0, yW1, yW2, yW3, yW4, yW5, yW6, yW7, yW8, yW9, yW10, yW11, yW12, yW13, yW14, yW15, yW16, yW17⟩ := HKW.out _ rWo3
    obtain ⟨yVT0, yVT1, yVT2, yVT3, yVT4, yVT5, yVT6, yVT7, yVT8⟩ := HKVT.out _ rVTo3
    have ro30 := Below.refl o3.heap.size o3
    go_upto_region 6 with fail
    obtain ⟨VQ, eVQ⟩ : ∃ E, E = o3.alloc (.cells #[.bool tn, .string tv, .int .i64 tl.op, .string tl.a, .slice qQ tl.ks.list.length dQ, .int .i64 tc.op, .string tc.a, .slice rQ tc.ks.list.length eQ, .int .i64 td] 27) := ⟨_, rfl⟩
    have sVQ : o3.heap.size < VQ.heap.size := by rw [eVQ]; simp
    have kVQ : Below o3.heap.size o3 VQ := by rw [eVQ]; ((repeat (first | with_reducible assumption | with_reducible exact Below.refl _ _ | refine Below.setCell ?_ (by (first | omega | (simp; omega) | (simp; done) | fail "sml")) _ | refine Below.drew ?_ | refine Below.alloc ?_ (by (first | omega | (simp; omega) | (simp; done) | fail "sml")) _)); first | done | fail "chs")
    have HCVQ := Lib.hid (show VQ.cell? ⟨o3.heap.size, 0, none⟩ = some (.bool tn) ∧ VQ.cell? ⟨o3.heap.size, 1, none⟩ = some (.string tv) ∧ VQ.cell? ⟨o3.heap.size, 2, none⟩ = some (.int .i64 tl.op) ∧ VQ.cell? ⟨o3.heap.size, 3, none⟩ = some (.string tl.a) ∧ VQ.cell? ⟨o3.heap.size, 4, none⟩ = some (.slice qQ tl.ks.list.length dQ) ∧ VQ.cell? ⟨o3.heap.size, 5, none⟩ = some (.int .i64 tc.op) ∧ VQ.cell? ⟨o3.heap.size, 6, none⟩ = some (.string tc.a) ∧ VQ.cell? ⟨o3.heap.size, 7, none⟩ = some (.slice rQ tc.ks.list.length eQ) ∧ VQ.cell? ⟨o3.heap.size, 8, none⟩ = some (.int .i64 td) from by rw [eVQ]; exact ⟨by simp [go_sem], by simp [go_sem], by simp [go_sem], by simp [go_sem], by simp [go_sem], by simp [go_sem], by simp [go_sem], by simp [go_sem], by simp [go_sem]⟩)
    skip
    rw [← eVQ]
    have rwVQ := Below.trans (show Below w.heap.size w _ by ((repeat (first | with_reducible assumption | with_reducible exact Below.refl _ _ | refine Below.setCell ?_ (by (first | omega | (simp; omega) | (simp; done) | fail "sml")) _ | refine Below.drew ?_ | refine Below.alloc ?_ (by (first | omega | (simp; omega) | (simp; done) | fail "sml")) _)); first | done | fail "chs")) (kVQ.mono (by (first | omega | (simp; omega) | (simp; done) | fail "sml")))
    have ro1VQ := Below.trans (show Below o1.heap.size o1 _ by ((repeat (first | with_reducible assumption | with_reducible exact Below.refl _ _ | refine Below.setCell ?_ (by (first | omega | (simp; omega) | (simp; done) | fail "sml")) _ | refine Below.drew ?_ | refine Below.alloc ?_ (by (first | omega | (simp; omega) | (simp; done) | fail "sml")) _)); first | done | fail "chs")) (kVQ.mono (by (first | omega | (simp; omega) | (simp; done) | fail "sml")))
    have rWVQ := Below.trans (show Below W.heap.size W _ by ((repeat (first | with_reducible assumption | with_reducible exact Below.refl _ _ | refine Below.setCell ?_ (by (first | omega | (simp; omega) | (simp; done) | fail "sml")) _ | refine Below.drew ?_ | refine Below.alloc ?_ (by (first | omega | (simp; omega) | (simp; done) | fail "sml")) _)); first | done | fail "chs")) (kVQ.mono (by (first | omega | (simp; omega) | (simp; done) | fail "sml")))
    have ro2VQ := Below.trans (show Below o2.heap.size o2 _ by ((repeat (first | with_reducible assumption | with_reducible exact Below.refl _ _ | refine Below.setCell ?_ (by (first | omega | (simp; omega) | (simp; done) | fail "sml")) _ | refine Below.drew ?_ | refine Below.alloc ?_ (by (first | omega | (simp; omega) | (simp; done) | fail "sml")) _)); first | done | fail "chs")) (kVQ.mono (by (first | omega | (simp; omega) | (simp; done) | fail "sml")))
    have rVTVQ := Below.trans (show Below VT.heap.size VT _ by ((repeat (first | with_reducible assumption | with_reducible exact Below.refl _ _ | refine Below.setCell ?_ (by (first | omega | (simp; omega) | (simp; done) | fail "sml")) _ | refine Below.drew ?_ | refine Below.alloc ?_ (by (first | omega | (simp; omega) | (simp; done) | fail "sml")) _)); first | done | fail "chs")) (kVQ.mono (by (first | omega | (simp; omega) | (simp; done) | fail "sml")))
    have ro3VQ := Below.trans (show Below o3.heap.size o3 _ by ((repeat (first | with_reducible assumption | with_reducible exact Below.refl _ _ | refine Below.setCell ?_ (by (first | omega | (simp; omega) | (simp; done) | fail "sml")) _ | refine Below.drew ?_ | refine Below.alloc ?_ (by (first | omega | (simp; omega) | (simp; done) | fail "sml")) _)); first | done | fail "chs")) (kVQ.mono (by (first | omega | (simp; omega) | (simp; done) | fail "sml")))
    have HKVQ := Lib.hid (fun (E : World) (hE : Below VQ.heap.size VQ E) => (⟨keepc hE sVQ HCVQ.out.1, keepc hE sVQ HCVQ.out.2.1, keepc hE sVQ HCVQ.out.2.2.1, keepc hE sVQ HCVQ.out.2.2.2.1, keepc hE sVQ HCVQ.out.2.2.2.2.1, keepc hE sVQ HCVQ.out.2.2.2.2.2.1, keepc hE sVQ HCVQ.out.2.2.2.2.2.2.1, keepc hE sVQ HCVQ.out.2.2.2.2.2.2.2.1, keepc hE sVQ HCVQ.out.2.2.2.2.2.2.2.2⟩ : E.cell? ⟨o3.heap.size, 0, none⟩ = some (.bool tn) ∧ E.cell? ⟨o3.heap.size, 1, none⟩ = some (.string tv) ∧ E.cell? ⟨o3.heap.size, 2, none⟩ = some (.int .i64 tl.op) ∧ E.cell? ⟨o3.heap.size, 3, none⟩ = some (.string tl.a) ∧ E.cell? ⟨o3.heap.size, 4, none⟩ = some (.slice qQ tl.ks.list.length dQ) ∧ E.cell? ⟨o3.heap.size, 5, none⟩ = some (.int .i64 tc.op) ∧ E.cell? ⟨o3.heap.size, 6, none⟩ = some (.string tc.a) ∧ E.cell? ⟨o3.heap.size, 7, none⟩ = some (.slice rQ tc.ks.list.length eQ) ∧ E.cell? ⟨o3.heap.size, 8, none⟩ = some (.int .i64 td)))
    have rVQ0 := Below.refl VQ.heap.size VQ
    obtain ⟨yVQ0, yVQ1, yVQ2, yVQ3, yVQ4, yVQ5, yVQ6, yVQ7, yVQ8⟩ := HKVQ.out _ rVQ0
    clear eVQ kVQ
    clear yW0 yW1 yW2 yW3 yW4 yW5 yW6 yW7 yW8 yW9 yW10 yW11 yW12 yW13 yW14 yW15 yW16 yW17
    obtain ⟨yW0, yW1, yW2, yW3, yW4, yW5, yW6, yW7, yW8, yW9, yW10, yW11, yW12, yW13, yW14, yW15, yW16, yW17⟩ := HKW.out _ rWVQ
    clear yVT0 yVT1 yVT2 yVT3 yVT4 yVT5 yVT6 yVT7 yVT8
    obtain ⟨yVT0, yVT1, yVT2, yVT3, yVT4, yVT5, yVT6, yVT7, yVT8⟩ := HKVT.out _ rVTVQ
    go_wp2_with fail
    refine Calls.mono (elemSame_to (HAT.out.below (show Below o2.heap.size o2 _ by assumption)).liv (HAQ.out.below (show Below o3.heap.size o3 _ by assumption)).liv (Nat.le_refl _) hts) ?_
    rintro en o4 ⟨rfl, hb⟩
    have rwo4 := Below.trans (show Below w.heap.size w _ by assumption) (hb.mono (by omega))
    have zwo4 := rwo4.size
    have ro1o4 := Below.trans (show Below o1.heap.size o1 _ by assumption) (hb.mono (by omega))
    have zo1o4 := ro1o4.size
    have rWo4 := Below.trans (show Below W.heap.size W _ by assumption) (hb.mono (by omega))
    have zWo4 := rWo4.size
    have ro2o4 := Below.trans (show Below o2.heap.size o2 _ by assumption) (hb.mono (by omega))
    have zo2o4 := ro2o4.size
    have rVTo4 := Below.trans (show Below VT.heap.size VT _ by assumption) (hb.mono (by omega))
    have zVTo4 := rVTo4.size
    have ro3o4 := Below.trans (show Below o3.heap.size o3 _ by assumption) (hb.mono (by omega))
    have zo3o4 := ro3o4.size
    have rVQo4 := Below.trans (show Below VQ.heap.size VQ _ by assumption) (hb.mono (by omega))
    have zVQo4 := rVQo4.size
    clear hb yW0 yW1 yW2 yW3 yW4 yW5 yW6 yW7 yW8 yW9 yW10 yW11 yW12 yW13 yW14 yW15 yW16 yW17 yVT0 yVT1 yVT2 yVT3 yVT4 yVT5 yVT6 yVT7 yVT8 yVQ0 yVQ1 yVQ2 yVQ3 yVQ4 yVQ5 yVQ6 yVQ7 yVQ8
    obtain ⟨yW0, yW1, yW2, yW3, yW4, yW5, yW6, yW7, yW8, yW9, yW10, yW11, yW12, yW13, yW14, yW15, yW16, yW17⟩ := HKW.out _ rWo4
    obtain ⟨yVT0, yVT1, yVT2, yVT3, yVT4, yVT5, yVT6, yVT7, yVT8⟩ := HKVT.out _ rVTo4
    obtain ⟨yVQ0, yVQ1, yVQ2, yVQ3, yVQ4, yVQ5, yVQ6, yVQ7, yVQ8⟩ := HKVQ.out _ rVQo4
    go_wp2_with fail
    refine Calls.mono (elemSame_to (HAT.out.below (show Below o2.heap.size o2 _ by assumption)).liv (HAQ.out.below (show Below o3.heap.size o3 _ by assumption)).liv (Nat.le_refl _) hts) ?_
    rintro en o5 ⟨rfl, hb⟩
    have rwo5 := Below.trans (show Below w.heap.size w _ by assumption) (hb.mono (by omega))
    have zwo5 := rwo5.size
    have ro1o5 := Below.trans (show Below o1.heap.size o1 _ by assumption) (hb.mono (by omega))
    have zo1o5 := ro1o5.size
    have rWo5 := Below.trans (show Below W.heap.size W _ by assumption) (hb.mono (by omega))
    have zWo5 := rWo5.size
    have ro2o5 := Below.trans (show Below o2.heap.size o2 _ by assumption) (hb.mono (by omega))
    have zo2o5 := ro2o5.size
    have rVTo5 := Below.trans (show Below VT.heap.size VT _ by assumption) (hb.mono (by omega))
    have zVTo5 := rVTo5.size
    have ro3o5 := Below.trans (show Below o3.heap.size o3 _ by assumption) (hb.mono (by omega))
    have zo3o5 := ro3o5.size
    have rVQo5 := Below.trans (show Below VQ.heap.size VQ _ by assumption) (hb.mono (by omega))
    have zVQo5 := rVQo5.size
    clear hb yW0 yW1 yW2 yW3 yW4 yW5 yW6 yW7 yW8 yW9 yW10 yW11 yW12 yW13 yW14 yW15 yW16 yW17 yVT0 yVT1 yVT2 yVT3 yVT4 yVT5 yVT6 yVT7 yVT8 yVQ0 yVQ1 yVQ2 yVQ3 yVQ4 yVQ5 yVQ6 yVQ7 yVQ8
    obtain ⟨yW0, yW1, yW2, yW3, yW4, yW5, yW6, yW7, yW8, yW9, yW10, yW11, yW12, yW13, yW14, yW15, yW16, yW17⟩ := HKW.out _ rWo5
    obtain ⟨yVT0, yVT1, yVT2, yVT3, yVT4, yVT5, yVT6, yVT7, yVT8⟩ := HKVT.out _ rVTo5
    obtain ⟨yVQ0, yVQ1, yVQ2, yVQ3, yVQ4, yVQ5, yVQ6, yVQ7, yVQ8⟩ := HKVQ.out _ rVQo5
    go_wp2_with fail
    go_ret
    exact ⟨rfl, by ((repeat (first | with_reducible assumption | with_reducible exact Below.refl _ _ | refine Below.setCell ?_ (by (first | omega | (simp; omega) | (simp; done) | fail "sml")) _ | refine Below.drew ?_ | refine Below.alloc ?_ (by (first | omega | (simp; omega) | (simp; done) | fail "sml")) _)); first | done | fail "chs")⟩
  | true =>
    go_wp2_with fail
    refine Calls.mono (mergeElems_to ET EM _ _ _ (HAA.out.below (show Below o1.heap.size o1 _ by assumption)).liv (HBB.out.below (show Below o1.heap.size o1 _ by assumption)).liv hasm hbsm (HVV.out.below (show Below w.heap.size w _ by assumption))) ?_
    rintro en o2 ⟨vT, FT, rfl, hTT, hlT, hb⟩
    have rwo2 := Below.trans (show Below w.heap.size w _ by assumption) (hb.mono (by omega))
    have zwo2 := rwo2.size
    have ro1o2 := Below.trans (show Below o1.heap.size o1 _ by assumption) (hb.mono (by omega))
    have zo1o2 := ro1o2.size
    have rWo2 := Below.trans (show Below W.heap.size W _ by assumption) (hb.mono (by omega))
    have zWo2 := rWo2.size
    obtain ⟨qT, dT, rT, eT, rfl⟩ := hTT.form
    have HAT := Lib.hid hTT
    clear hTT hlT
    clear hb yW0 yW1 yW2 yW3 yW4 yW5 yW6 yW7 yW8 yW9 yW10 yW11 yW12 yW13 yW14 yW15 yW16 yW17
    obtain ⟨yW0, yW1, yW2, yW3, yW4, yW5, yW6, yW7, yW8, yW9, yW10, yW11, yW12, yW13, yW14, yW15, yW16, yW17⟩ := HKW.out _ rWo2
    have ro20 := Below.refl o2.heap.size o2
    go_upto_region 5 with fail
    obtain ⟨VT, eVT⟩ : ∃ E, E = o2.alloc (.cells #[.bool tn, .string tv, .int .i64 tl.op, .string tl.a, .slice qT tl.ks.list.length dT, .int .i64 tc.op, .string tc.a, .slice rT tc.ks.list.length eT, .int .i64 td] 27) := ⟨_, rfl⟩
    have sVT : o2.heap.size < VT.heap.size := by rw [eVT]; simp
    have kVT : Below o2.heap.size o2 VT := by rw [eVT]; ((repeat (first | with_reducible assumption | with_reducible exact Below.refl _ _ | refine Below.setCell ?_ (by (first | omega | (simp; omega) | (simp; done) | fail "sml")) _ | refine Below.drew ?_ | refine Below.alloc ?_ (by (first | omega | (simp; omega) | (simp; done) | fail "sml")) _)); first | done | fail "chs")
    have HCVT := Lib.hid (show VT.cell? ⟨o2.heap.size, 0, none⟩ = some (.bool tn) ∧ VT.cell? ⟨o2.heap.size, 1, none⟩ = some (.string tv) ∧ VT.cell? ⟨o2.heap.size, 2, none⟩ = some (.int .i64 tl.op) ∧ VT.cell? ⟨o2.heap.size, 3, none⟩ = some (.string tl.a) ∧ VT.cell? ⟨o2.heap.size, 4, none⟩ = some (.slice qT tl.ks.list.length dT) ∧ VT.cell? ⟨o2.heap.size, 5, none⟩ = some (.int .i64 tc.op) ∧ VT.cell? ⟨o2.heap.size, 6, none⟩ = some (.string tc.a) ∧ VT.cell? ⟨o2.heap.size, 7, none⟩ = some (.slice rT tc.ks.list.length eT) ∧ VT.cell? ⟨o2.heap.size, 8, none⟩ = some (.int .i64 td) from by rw [eVT]; exact ⟨by simp [go_sem], by simp [go_sem], by simp [go_sem], by simp [go_sem], by simp [go_sem], by simp [go_sem], by simp [go_sem], by simp [go_sem], by simp [go_sem]⟩)
    skip
    rw [← eVT]
    have rwVT := Below.trans (show Below w.heap.size w _ by ((repeat (first | with_reducible assumption | with_reducible exact Below.refl _ _ | refine Below.setCell ?_ (by (first | omega | (simp; omega) | (simp; done) | fail "sml")) _ | refine Below.drew ?_ | refine Below.alloc ?_ (by (first | omega | (simp; omega) | (simp; done) | fail "sml")) _)); first | done | fail "chs")) (kVT.mono (by (first | omega | (simp; omega) | (simp; done) | fail "sml")))
    have ro1VT := Below.trans (show Below o1.heap.size o1 _ by ((repeat (first | with_reducible assumption | with_reducible exact Below.refl _ _ | refine Below.setCell ?_ (by (first | omega | (simp; omega) | (simp; done) | fail "sml")) _ | refine Below.drew ?_ | refine Below.alloc ?_ (by (first | omega | (simp; omega) | (simp; done) | fail "sml")) _)); first | done | fail "chs")) (kVT.mono (by (first | omega | (simp; omega) | (simp; done) | fail "sml")))
    have rWVT := Below.trans (show Below W.heap.size W _ by ((repeat (first | with_reducible assumption | with_reducible exact Below.refl _ _ | refine Below.setCell ?_ (by (first | omega | (simp; omega) | (simp; done) | fail "sml")) _ | refine Below.drew ?_ | refine Below.alloc ?_ (by (first | omega | (simp; omega) | (simp; done) | fail "sml")) _)); first | done | fail "chs")) (kVT.mono (by (first | omega | (simp; omega) | (simp; done) | fail "sml")))
    have ro2VT := Below.trans (show Below o2.heap.size o2 _ by ((repeat (first | with_reducible assumption | with_reducible exact Below.refl _ _ | refine Below.setCell ?_ (by (first | omega | (simp; omega) | (simp; done) | fail "sml")) _ | refine Below.drew ?_ | refine Below.alloc ?_ (by (first | omega | (simp; omega) | (simp; done) | fail "sml")) _)); first | done | fail "chs")) (kVT.mono (by (first | omega | (simp; omega) | (simp; done) | fail "sml")))
    have HKVT := Lib.hid (fun (E : World) (hE : Below VT.heap.size VT E) => (⟨keepc hE sVT HCVT.out.1, keepc hE sVT HCVT.out.2.1, keepc hE sVT HCVT.out.2.2.1, keepc hE sVT HCVT.out.2.2.2.1, keepc hE sVT HCVT.out.2.2.2.2.1, keepc hE sVT HCVT.out.2.2.2.2.2.1, keepc hE sVT HCVT.out.2.2.2.2.2.2.1, keepc hE sVT HCVT.out.2.2.2.2.2.2.2.1, keepc hE sVT HCVT.out.2.2.2.2.2.2.2.2⟩ : E.cell? ⟨o2.heap.size, 0, none⟩ = some (.bool tn) ∧ E.cell? ⟨o2.heap.size, 1, none⟩ = some (.string tv) ∧ E.cell? ⟨o2.heap.size, 2, none⟩ = some (.int .i64 tl.op) ∧ E.cell? ⟨o2.heap.size, 3, none⟩ = some (.string tl.a) ∧ E.cell? ⟨o2.heap.size, 4, none⟩ = some (.slice qT tl.ks.list.length dT) ∧ E.cell? ⟨o2.heap.size, 5, none⟩ = some (.int .i64 tc.op) ∧ E.cell? ⟨o2.heap.size, 6, none⟩ = some (.string tc.a) ∧ E.cell? ⟨o2.heap.size, 7, none⟩ = some (.slice rT tc.ks.list.length eT) ∧ E.cell? ⟨o2.heap.size, 8, none⟩ = some (.int .i64 td)))
    have rVT0 := Below.refl VT.heap.size VT
    obtain ⟨yVT0, yVT1, yVT2, yVT3, yVT4, yVT5, yVT6, yVT7, yVT8⟩ := HKVT.out _ rVT0
    clear eVT kVT
    clear yW0 yW1 yW2 yW3 yW4 yW5 yW6 yW7 yW8 yW9 yW10 yW11 yW12 yW13 yW14 yW15 yW16 yW17
    obtain ⟨yW0, yW1, yW2, yW3, yW4, yW5, yW6, yW7, yW8, yW9, yW10, yW11, yW12, yW13, yW14, yW15, yW16, yW17⟩ := HKW.out _ rWVT
    go_wp2_with fail
    refine Calls.mono (specMergeElems_to ET EM _ _ _ (HAA.out.below (show Below o1.heap.size o1 _ by assumption)).liv (HBB.out.below (show Below o1.heap.size o1 _ by assumption)).liv hasm hbsm) ?_
    rintro en o3 ⟨vQ, FQ, rfl, hTQ, hlQ, hb⟩
    have rwo3 := Below.trans (show Below w.heap.size w _ by assumption) (hb.mono (by omega))
    have zwo3 := rwo3.size
    have ro1o3 := Below.trans (show Below o1.heap.size o1 _ by assumption) (hb.mono (by omega))
    have zo1o3 := ro1o3.size
    have rWo3 := Below.trans (show Below W.heap.size W _ by assumption) (hb.mono (by omega))
    have zWo3 := rWo3.size
    have ro2o3 := Below.trans (show Below o2.heap.size o2 _ by assumption) (hb.mono (by omega))
    have zo2o3 := ro2o3.size
    have rVTo3 := Below.trans (show Below VT.heap.size VT _ by assumption) (hb.mono (by omega))
    have zVTo3 := rVTo3.size
    obtain ⟨qQ, dQ, rQ, eQ, rfl⟩ := hTQ.form
    have HAQ := Lib.hid hTQ
    clear hTQ hlQ
    clear hb yW0 yW1 yW2 yW3 yW4 yW5 yW6 yW7 yW8 yW9 yW10 yW11 yW12 yW13 yW14 yW15 yW16 yW17 yVT0 yVT1 yVT2 yVT3 yVT4 yVT5 yVT6 yVT7 yVT8
    obtain ⟨yW0, yW1, yW2, yW3, yW4, yW5, yW6, yW7, yW8, yW9, yW10, yW11, yW12, yW13, yW14, yW15, yW16, yW17⟩ := HKW.out _ rWo3
    obtain ⟨yVT0, yVT1, yVT2, yVT3, yVT4, yVT5, yVT6, yVT7, yVT8⟩ := HKVT.out _ rVTo3
    have ro30 := Below.refl o3.heap.size o3
    go_upto_region 6 with fail
    obtain ⟨VQ, eVQ⟩ : ∃ E, E = o3.alloc (.cells #[.bool tn, .string tv, .int .i64 tl.op, .string tl.a, .slice qQ tl.ks.list.length dQ, .int .i64 tc.op, .string tc.a, .slice rQ tc.ks.list.length eQ, .int .i64 td] 27) := ⟨_, rfl⟩
    have sVQ : o3.heap.size < VQ.heap.size := by rw [eVQ]; simp
    have kVQ : Below o3.heap.size o3 VQ := by rw [eVQ]; ((repeat (first | with_reducible assumption | with_reducible exact Below.refl _ _ | refine Below.setCell ?_ (by (first | omega | (simp; omega) | (simp; done) | fail "sml")) _ | refine Below.drew ?_ | refine Below.alloc ?_ (by (first | omega | (simp; omega) | (simp; done) | fail "sml")) _)); first | done | fail "chs")
    have HCVQ := Lib.hid (show VQ.cell? ⟨o3.heap.size, 0, none⟩ = some (.bool tn) ∧ VQ.cell? ⟨o3.heap.size, 1, none⟩ = some (.string tv) ∧ VQ.cell? ⟨o3.heap.size, 2, none⟩ = some (.int .i64 tl.op) ∧ VQ.cell? ⟨o3.heap.size, 3, none⟩ = some (.string tl.a) ∧ VQ.cell? ⟨o3.heap.size, 4, none⟩ = some (.slice qQ tl.ks.list.length dQ) ∧ VQ.cell? ⟨o3.heap.size, 5, none⟩ = some (.int .i64 tc.op) ∧ VQ.cell? ⟨o3.heap.size, 6, none⟩ = some (.string tc.a) ∧ VQ.cell? ⟨o3.heap.size, 7, none⟩ = some (.slice rQ tc.ks.list.length eQ) ∧ VQ.cell? ⟨o3.heap.size, 8, none⟩ = some (.int .i64 td) from by rw [eVQ]; exact ⟨by simp [go_sem], by simp [go_sem], by simp [go_sem], by simp [go_sem], by simp [go_sem], by simp [go_sem], by simp [go_sem], by simp [go_sem], by simp [go_sem]⟩)
    skip
    rw [← eVQ]
    have rwVQ := Below.trans (show Below w.heap.size w _ by ((repeat (first | with_reducible assumption | with_reducible exact Below.refl _ _ | refine Below.setCell ?_ (by (first | omega | (simp; omega) | (simp; done) | fail "sml")) _ | refine Below.drew ?_ | refine Below.alloc ?_ (by (first | omega | (simp; omega) | (simp; done) | fail "sml")) _)); first | done | fail "chs")) (kVQ.mono (by (first | omega | (simp; omega) | (simp; done) | fail "sml")))
    have ro1VQ := Below.trans (show Below o1.heap.size o1 _ by ((repeat (first | with_reducible assumption | with_reducible exact Below.refl _ _ | refine Below.setCell ?_ (by (first | omega | (simp; omega) | (simp; done) | fail "sml")) _ | refine Below.drew ?_ | refine Below.alloc ?_ (by (first | omega | (simp; omega) | (simp; done) | fail "sml")) _)); first | done | fail "chs")) (kVQ.mono (by (first | omega | (simp; omega) | (simp; done) | fail "sml")))
    have rWVQ := Below.trans (show Below W.heap.size W _ by ((repeat (first | with_reducible assumption | with_reducible exact Below.refl _ _ | refine Below.setCell ?_ (by (first | omega | (simp; omega) | (simp; done) | fail "sml")) _ | refine Below.drew ?_ | refine Below.alloc ?_ (by (first | omega | (simp; omega) | (simp; done) | fail "sml")) _)); first | done | fail "chs")) (kVQ.mono (by (first | omega | (simp; omega) | (simp; done) | fail "sml")))
    have ro2VQ := Below.trans (show Below o2.heap.size o2 _ by ((repeat (first | with_reducible assumption | with_reducible exact Below.refl _ _ | refine Below.setCell ?_ (by (first | omega | (simp; omega) | (simp; done) | fail "sml")) _ | refine Below.drew ?_ | refine Below.alloc ?_ (by (first | omega | (simp; omega) | (simp; done) | fail "sml")) _)); first | done | fail "chs")) (kVQ.mono (by (first | omega | (simp; omega) | (simp; done) | fail "sml")))
    have rVTVQ := Below.trans (show Below VT.heap.size VT _ by ((repeat (first | with_reducible assumption | with_reducible exact Below.refl _ _ | refine Below.setCell ?_ (by (first | omega | (simp; omega) | (simp; done) | fail "sml")) _ | refine Below.drew ?_ | refine Below.alloc ?_ (by (first | omega | (simp; omega) | (simp; done) | fail "sml")) _)); first | done | fail "chs")) (kVQ.mono (by (first | omega | (simp; omega) | (simp; done) | fail "sml")))
    have ro3VQ := Below.trans (show Below o3.heap.size o3 _ by ((repeat (first | with_reducible assumption | with_reducible exact Below.refl _ _ | refine Below.setCell ?_ (by (first | omega | (simp; omega) | (simp; done) | fail "sml")) _ | refine Below.drew ?_ | refine Below.alloc ?_ (by (first | omega | (simp; omega) | (simp; done) | fail "sml")) _)); first | done | fail "chs")) (kVQ.mono (by (first | omega | (simp; omega) | (simp; done) | fail "sml")))
    have HKVQ := Lib.hid (fun (E : World) (hE : Below VQ.heap.size VQ E) => (⟨keepc hE sVQ HCVQ.out.1, keepc hE sVQ HCVQ.out.2.1, keepc hE sVQ HCVQ.out.2.2.1, keepc hE sVQ HCVQ.out.2.2.2.1, keepc hE sVQ HCVQ.out.2.2.2.2.1, keepc hE sVQ HCVQ.out.2.2.2.2.2.1, keepc hE sVQ HCVQ.out.2.2.2.2.2.2.1, keepc hE sVQ HCVQ.out.2.2.2.2.2.2.2.1, keepc hE sVQ HCVQ.out.2.2.2.2.2.2.2.2⟩ : E.cell? ⟨o3.heap.size, 0, none⟩ = some (.bool tn) ∧ E.cell? ⟨o3.heap.size, 1, none⟩ = some (.string tv) ∧ E.cell? ⟨o3.heap.size, 2, none⟩ = some (.int .i64 tl.op) ∧ E.cell? ⟨o3.heap.size, 3, none⟩ = some (.string tl.a) ∧ E.cell? ⟨o3.heap.size, 4, none⟩ = some (.slice qQ tl.ks.list.length dQ) ∧ E.cell? ⟨o3.heap.size, 5, none⟩ = some (.int .i64 tc.op) ∧ E.cell? ⟨o3.heap.size, 6, none⟩ = some (.string tc.a) ∧ E.cell? ⟨o3.heap.size, 7, none⟩ = some (.slice rQ tc.ks.list.length eQ) ∧ E.cell? ⟨o3.heap.size, 8, none⟩ = some (.int .i64 td)))
    have rVQ0 := Below.refl VQ.heap.size VQ
    obtain ⟨yVQ0, yVQ1, yVQ2, yVQ3, yVQ4, yVQ5, yVQ6, yVQ7, yVQ8⟩ := HKVQ.out _ rVQ0
    clear eVQ kVQ
    clear yW0 yW1 yW2 yW3 yW4 yW5 yW6 yW7 yW8 yW9 yW10 yW11 yW12 yW13 yW14 yW15 yW16 yW17
    obtain ⟨yW0, yW1, yW2, yW3, yW4, yW5, yW6, yW7, yW8, yW9, yW10, yW11, yW12, yW13, yW14, yW15, yW16, yW17⟩ := HKW.out _ rWVQ
    clear yVT0 yVT1 yVT2 yVT3 yVT4 yVT5 yVT6 yVT7 yVT8
    obtain ⟨yVT0, yVT1, yVT2, yVT3, yVT4, yVT5, yVT6, yVT7, yVT8⟩ := HKVT.out _ rVTVQ
    go_wp2_with fail
    refine Calls.mono (elemSame_to (HAT.out.below (show Below o2.heap.size o2 _ by assumption)).liv (HAQ.out.below (show Below o3.heap.size o3 _ by assumption)).liv (Nat.le_refl _) hts) ?_
    rintro en o4 ⟨rfl, hb⟩
    have rwo4 := Below.trans (show Below w.heap.size w _ by assumption) (hb.mono (by omega))
    have zwo4 := rwo4.size
    have ro1o4 := Below.trans (show Below o1.heap.size o1 _ by assumption) (hb.mono (by omega))
    have zo1o4 := ro1o4.size
    have rWo4 := Below.trans (show Below W.heap.size W _ by assumption) (hb.mono (by omega))
    have zWo4 := rWo4.size
    have ro2o4 := Below.trans (show Below o2.heap.size o2 _ by assumption) (hb.mono (by omega))
    have zo2o4 := ro2o4.size
    have rVTo4 := Below.trans (show Below VT.heap.size VT _ by assumption) (hb.mono (by omega))
    have zVTo4 := rVTo4.size
    have ro3o4 := Below.trans (show Below o3.heap.size o3 _ by assumption) (hb.mono (by omega))
    have zo3o4 := ro3o4.size
    have rVQo4 := Below.trans (show Below VQ.heap.size VQ _ by assumption) (hb.mono (by omega))
    have zVQo4 := rVQo4.size
    clear hb yW0 yW1 yW2 yW3 yW4 yW5 yW6 yW7 yW8 yW9 yW10 yW11 yW12 yW13 yW14 yW15 yW16 yW17 yVT0 yVT1 yVT2 yVT3 yVT4 yVT5 yVT6 yVT7 yVT8 yVQ0 yVQ1 yVQ2 yVQ3 yVQ4 yVQ5 yVQ6 yVQ7 yVQ8
    obtain ⟨yW0, yW1, yW2, yW3, yW4, yW5, yW6, yW7, yW8, yW9, yW10, yW11, yW12, yW13, yW14, yW15, yW16, yW17⟩ := HKW.out _ rWo4
    obtain ⟨yVT0, yVT1, yVT2, yVT3, yVT4, yVT5, yVT6, yVT7, yVT8⟩ := HKVT.out _ rVTo4
    obtain ⟨yVQ0, yVQ1, yVQ2, yVQ3, yVQ4, yVQ5, yVQ6, yVQ7, yVQ8⟩ := HKVQ.out _ rVQo4
    go_wp2_with fail
    obtain ⟨hm1, he1⟩ := merge_self EM
    obtain ⟨hm2, he2⟩ := merge_right EM
    obtain ⟨hm3, he3⟩ := merge_left EM
    obtain ⟨⟨han, hav⟩, _⟩ := mergeB_parts EM
    have has := elemV_ks hav
    have hasz : (⟨an, av, al, ac, ad⟩ : El).l.ks.size ≤ 1048576 ∧ (⟨an, av, al, ac, ad⟩ : El).c.ks.size ≤ 1048576 := ⟨by omega, by omega⟩
    clear han
    refine Calls.mono (mergeElems_to he1 hm1 _ _ _ (HAA.out.below (show Below o1.heap.size o1 _ by assumption)).liv (HAA.out.below (show Below o1.heap.size o1 _ by assumption)).liv hasm hasm (HVV.out.below (show Below w.heap.size w _ by assumption))) ?_
    rintro en o5 ⟨vX, FX, rfl, hTX, hlX, hb⟩
    have rwo5 := Below.trans (show Below w.heap.size w _ by assumption) (hb.mono (by omega))
    have zwo5 := rwo5.size
    have ro1o5 := Below.trans (show Below o1.heap.size o1 _ by assumption) (hb.mono (by omega))
    have zo1o5 := ro1o5.size
    have rWo5 := Below.trans (show Below W.heap.size W _ by assumption) (hb.mono (by omega))
    have zWo5 := rWo5.size
    obtain ⟨qX, dX, rX, eX, rfl⟩ := hTX.form
    have HAX := Lib.hid hTX
    clear hTX hlX
    clear hb yW0 yW1 yW2 yW3 yW4 yW5 yW6 yW7 yW8 yW9 yW10 yW11 yW12 yW13 yW14 yW15 yW16 yW17
    obtain ⟨yW0, yW1, yW2, yW3, yW4, yW5, yW6, yW7, yW8, yW9, yW10, yW11, yW12, yW13, yW14, yW15, yW16, yW17⟩ := HKW.out _ rWo5
    have ro50 := Below.refl o5.heap.size o5
    go_upto_region 9 with fail
    obtain ⟨VX, eVX⟩ : ∃ E, E = o5.alloc (.cells #[.bool an, .string av, .int .i64 al.op, .string al.a, .slice qX al.ks.list.length dX, .int .i64 ac.op, .string ac.a, .slice rX ac.ks.list.length eX, .int .i64 ad] 27) := ⟨_, rfl⟩
    have sVX : o5.heap.size < VX.heap.size := by rw [eVX]; simp
    have kVX : Below o5.heap.size o5 VX := by rw [eVX]; ((repeat (first | with_reducible assumption | with_reducible exact Below.refl _ _ | refine Below.setCell ?_ (by (first | omega | (simp; omega) | (simp; done) | fail "sml")) _ | refine Below.drew ?_ | refine Below.alloc ?_ (by (first | omega | (simp; omega) | (simp; done) | fail "sml")) _)); first | done | fail "chs")
    have HCVX := Lib.hid (show VX.cell? ⟨o5.heap.size, 0, none⟩ = some (.bool an) ∧ VX.cell? ⟨o5.heap.size, 1, none⟩ = some (.string av) ∧ VX.cell? ⟨o5.heap.size, 2, none⟩ = some (.int .i64 al.op) ∧ VX.cell? ⟨o5.heap.size, 3, none⟩ = some (.string al.a) ∧ VX.cell? ⟨o5.heap.size, 4, none⟩ = some (.slice qX al.ks.list.length dX) ∧ VX.cell? ⟨o5.heap.size, 5, none⟩ = some (.int .i64 ac.op) ∧ VX.cell? ⟨o5.heap.size, 6, none⟩ = some (.string ac.a) ∧ VX.cell? ⟨o5.heap.size, 7, none⟩ = some (.slice rX ac.ks.list.length eX) ∧ VX.cell? ⟨o5.heap.size, 8, none⟩ = some (.int .i64 ad) from by rw [eVX]; exact ⟨by simp [go_sem], by simp [go_sem], by simp [go_sem], by simp [go_sem], by simp [go_sem], by simp [go_sem], by simp [go_sem], by simp [go_sem], by simp [go_sem]⟩)
    skip
    rw [← eVX]
    have rwVX := Below.trans (show Below w.heap.size w _ by ((repeat (first | with_reducible assumption | with_reducible exact Below.refl _ _ | refine Below.setCell ?_ (by (first | omega | (simp; omega) | (simp; done) | fail "sml")) _ | refine Below.drew ?_ | refine Below.alloc ?_ (by (first | omega | (simp; omega) | (simp; done) | fail "sml")) _)); first | done | fail "chs")) (kVX.mono (by (first | omega | (simp; omega) | (simp; done) | fail "sml")))
    have ro1VX := Below.trans (show Below o1.heap.size o1 _ by ((repeat (first | with_reducible assumption | with_reducible exact Below.refl _ _ | refine Below.setCell ?_ (by (first | omega | (simp; omega) | (simp; done) | fail "sml")) _ | refine Below.drew ?_ | refine Below.alloc ?_ (by (first | omega | (simp; omega) | (simp; done) | fail "sml")) _)); first | done | fail "chs")) (kVX.mono (by (first | omega | (simp; omega) | (simp; done) | fail "sml")))
    have rWVX := Below.trans (show Below W.heap.size W _ by ((repeat (first | with_reducible assumption | with_reducible exact Below.refl _ _ | refine Below.setCell ?_ (by (first | omega | (simp; omega) | (simp; done) | fail "sml")) _ | refine Below.drew ?_ | refine Below.alloc ?_ (by (first | omega | (simp; omega) | (simp; done) | fail "sml")) _)); first | done | fail "chs")) (kVX.mono (by (first | omega | (simp; omega) | (simp; done) | fail "sml")))
    have ro5VX := Below.trans (show Below o5.heap.size o5 _ by ((repeat (first | with_reducible assumption | with_reducible exact Below.refl _ _ | refine Below.setCell ?_ (by (first | omega | (simp; omega) | (simp; done) | fail "sml")) _ | refine Below.drew ?_ | refine Below.alloc ?_ (by (first | omega | (simp; omega) | (simp; done) | fail "sml")) _)); first | done | fail "chs")) (kVX.mono (by (first | omega | (simp; omega) | (simp; done) | fail "sml")))
    have HKVX := Lib.hid (fun (E : World) (hE : Below VX.heap.size VX E) => (⟨keepc hE sVX HCVX.out.1, keepc hE sVX HCVX.out.2.1, keepc hE sVX HCVX.out.2.2.1, keepc hE sVX HCVX.out.2.2.2.1, keepc hE sVX HCVX.out.2.2.2.2.1, keepc hE sVX HCVX.out.2.2.2.2.2.1, keepc hE sVX HCVX.out.2.2.2.2.2.2.1, keepc hE sVX HCVX.out.2.2.2.2.2.2.2.1, keepc hE sVX HCVX.out.2.2.2.2.2.2.2.2⟩ : E.cell? ⟨o5.heap.size, 0, none⟩ = some (.bool an) ∧ E.cell? ⟨o5.heap.size, 1, none⟩ = some (.string av) ∧ E.cell? ⟨o5.heap.size, 2, none⟩ = some (.int .i64 al.op) ∧ E.cell? ⟨o5.heap.size, 3, none⟩ = some (.string al.a) ∧ E.cell? ⟨o5.heap.size, 4, none⟩ = some (.slice qX al.ks.list.length dX) ∧ E.cell? ⟨o5.heap.size, 5, none⟩ = some (.int .i64 ac.op) ∧ E.cell? ⟨o5.heap.size, 6, none⟩ = some (.string ac.a) ∧ E.cell? ⟨o5.heap.size, 7, none⟩ = some (.slice rX ac.ks.list.length eX) ∧ E.cell? ⟨o5.heap.size, 8, none⟩ = some (.int .i64 ad)))
    have rVX0 := Below.refl VX.heap.size VX
    obtain ⟨yVX0, yVX1, yVX2, yVX3, yVX4, yVX5, yVX6, yVX7, yVX8⟩ := HKVX.out _ rVX0
    clear eVX kVX
    clear yW0 yW1 yW2 yW3 yW4 yW5 yW6 yW7 yW8 yW9 yW10 yW11 yW12 yW13 yW14 yW15 yW16 yW17
    obtain ⟨yW0, yW1, yW2, yW3, yW4, yW5, yW6, yW7, yW8, yW9, yW10, yW11, yW12, yW13, yW14, yW15, yW16, yW17⟩ := HKW.out _ rWVX
    go_wp2_with fail
    refine Calls.mono (mergeElems_to he2 hm2 _ _ _ (HAA.out.below (show Below o1.heap.size o1 _ by assumption)).liv (emN_liv _ _) hasm emN_sm (HVV.out.below (show Below w.heap.size w _ by assumption))) ?_
    rintro en o6 ⟨vY, FY, rfl, hTY, hlY, hb⟩
    have rwo6 := Below.trans (show Below w.heap.size w _ by assumption) (hb.mono (by omega))
    have zwo6 := rwo6.size
    have ro1o6 := Below.trans (show Below o1.heap.size o1 _ by assumption) (hb.mono (by omega))
    have zo1o6 := ro1o6.size
    have rWo6 := Below.trans (show Below W.heap.size W _ by assumption) (hb.mono (by omega))
    have zWo6 := rWo6.size
    have ro5o6 := Below.trans (show Below o5.heap.size o5 _ by assumption) (hb.mono (by omega))
    have zo5o6 := ro5o6.size
    have rVXo6 := Below.trans (show Below VX.heap.size VX _ by assumption) (hb.mono (by omega))
    have zVXo6 := rVXo6.size
    obtain ⟨qY, dY, rY, eY, rfl⟩ := hTY.form
    have HAY := Lib.hid hTY
    clear hTY hlY
    clear hb yW0 yW1 yW2 yW3 yW4 yW5 yW6 yW7 yW8 yW9 yW10 yW11 yW12 yW13 yW14 yW15 yW16 yW17 yVX0 yVX1 yVX2 yVX3 yVX4 yVX5 yVX6 yVX7 yVX8
    obtain ⟨yW0, yW1, yW2, yW3, yW4, yW5, yW6, yW7, yW8, yW9, yW10, yW11, yW12, yW13, yW14, yW15, yW16, yW17⟩ := HKW.out _ rWo6
    obtain ⟨yVX0, yVX1, yVX2, yVX3, yVX4, yVX5, yVX6, yVX7, yVX8⟩ := HKVX.out _ rVXo6
    have ro60 := Below.refl o6.heap.size o6
    go_upto_region 10 with fail
    obtain ⟨VY, eVY⟩ : ∃ E, E = o6.alloc (.cells #[.bool an, .string av, .int .i64 al.op, .string al.a, .slice qY al.ks.list.length dY, .int .i64 ac.op, .string ac.a, .slice rY ac.ks.list.length eY, .int .i64 ad] 27) := ⟨_, rfl⟩
    have sVY : o6.heap.size < VY.heap.size := by rw [eVY]; simp
    have kVY : Below o6.heap.size o6 VY := by rw [eVY]; ((repeat (first | with_reducible assumption | with_reducible exact Below.refl _ _ | refine Below.setCell ?_ (by (first | omega | (simp; omega) | (simp; done) | fail "sml")) _ | refine Below.drew ?_ | refine Below.alloc ?_ (by (first | omega | (simp; omega) | (simp; done) | fail "sml")) _)); first | done | fail "chs")
    have HCVY := Lib.hid (show VY.cell? ⟨o6.heap.size, 0, none⟩ = some (.bool an) ∧ VY.cell? ⟨o6.heap.size, 1, none⟩ = some (.string av) ∧ VY.cell? ⟨o6.heap.size, 2, none⟩ = some (.int .i64 al.op) ∧ VY.cell? ⟨o6.heap.size, 3, none⟩ = some (.string al.a) ∧ VY.cell? ⟨o6.heap.size, 4, none⟩ = some (.slice qY al.ks.list.length dY) ∧ VY.cell? ⟨o6.heap.size, 5, none⟩ = some (.int .i64 ac.op) ∧ VY.cell? ⟨o6.heap.size, 6, none⟩ = some (.string ac.a) ∧ VY.cell? ⟨o6.heap.size, 7, none⟩ = some (.slice rY ac.ks.list.length eY) ∧ VY.cell? ⟨o6.heap.size, 8, none⟩ = some (.int .i64 ad) from by rw [eVY]; exact ⟨by simp [go_sem], by simp [go_sem], by simp [go_sem], by simp [go_sem], by simp [go_sem], by simp [go_sem], by simp [go_sem], by simp [go_sem], by simp [go_sem]⟩)
    skip
    rw [← eVY]
    have rwVY := Below.trans (show Below w.heap.size w _ by ((repeat (first | with_reducible assumption | with_reducible exact Below.refl _ _ | refine Below.setCell ?_ (by (first | omega | (simp; omega) | (simp; done) | fail "sml")) _ | refine Below.drew ?_ | refine Below.alloc ?_ (by (first | omega | (simp; omega) | (simp; done) | fail "sml")) _)); first | done | fail "chs")) (kVY.mono (by (first | omega | (simp; omega) | (simp; done) | fail "sml")))
    have ro1VY := Below.trans (show Below o1.heap.size o1 _ by ((repeat (first | with_reducible assumption | with_reducible exact Below.refl _ _ | refine Below.setCell ?_ (by (first | omega | (simp; omega) | (simp; done) | fail "sml")) _ | refine Below.drew ?_ | refine Below.alloc ?_ (by (first | omega | (simp; omega) | (simp; done) | fail "sml")) _)); first | done | fail "chs")) (kVY.mono (by (first | omega | (simp; omega) | (simp; done) | fail "sml")))
    have rWVY := Below.trans (show Below W.heap.size W _ by ((repeat (first | with_reducible assumption | with_reducible exact Below.refl _ _ | refine Below.setCell ?_ (by (first | omega | (simp; omega) | (simp; done) | fail "sml")) _ | refine Below.drew ?_ | refine Below.alloc ?_ (by (first | omega | (simp; omega) | (simp; done) | fail "sml")) _)); first | done | fail "chs")) (kVY.mono (by (first | omega | (simp; omega) | (simp; done) | fail "sml")))
    have ro5VY := Below.trans (show Below o5.heap.size o5 _ by ((repeat (first | with_reducible assumption | with_reducible exact Below.refl _ _ | refine Below.setCell ?_ (by (first | omega | (simp; omega) | (simp; done) | fail "sml")) _ | refine Below.drew ?_ | refine Below.alloc ?_ (by (first | omega | (simp; omega) | (simp; done) | fail "sml")) _)); first | done | fail "chs")) (kVY.mono (by (first | omega | (simp; omega) | (simp; done) | fail "sml")))
    have rVXVY := Below.trans (show Below VX.heap.size VX _ by ((repeat (first | with_reducible assumption | with_reducible exact Below.refl _ _ | refine Below.setCell ?_ (by (first | omega | (simp; omega) | (simp; done) | fail "sml")) _ | refine Below.drew ?_ | refine Below.alloc ?_ (by (first | omega | (simp; omega) | (simp; done) | fail "sml")) _)); first | done | fail "chs")) (kVY.mono (by (first | omega | (simp; omega) | (simp; done) | fail "sml")))
    have ro6VY := Below.trans (show Below o6.heap.size o6 _ by ((repeat (first | with_reducible assumption | with_reducible exact Below.refl _ _ | refine Below.setCell ?_ (by (first | omega | (simp; omega) | (simp; done) | fail "sml")) _ | refine Below.drew ?_ | refine Below.alloc ?_ (by (first | omega | (simp; omega) | (simp; done) | fail "sml")) _)); first | done | fail "chs")) (kVY.mono (by (first | omega | (simp; omega) | (simp; done) | fail "sml")))
    have HKVY := Lib.hid (fun (E : World) (hE : Below VY.heap.size VY E) => (⟨keepc hE sVY HCVY.out.1, keepc hE sVY HCVY.out.2.1, keepc hE sVY HCVY.out.2.2.1, keepc hE sVY HCVY.out.2.2.2.1, keepc hE sVY HCVY.out.2.2.2.2.1, keepc hE sVY HCVY.out.2.2.2.2.2.1, keepc hE sVY HCVY.out.2.2.2.2.2.2.1, keepc hE sVY HCVY.out.2.2.2.2.2.2.2.1, keepc hE sVY HCVY.out.2.2.2.2.2.2.2.2⟩ : E.cell? ⟨o6.heap.size, 0, none⟩ = some (.bool an) ∧ E.cell? ⟨o6.heap.size, 1, none⟩ = some (.string av) ∧ E.cell? ⟨o6.heap.size, 2, none⟩ = some (.int .i64 al.op) ∧ E.cell? ⟨o6.heap.size, 3, none⟩ = some (.string al.a) ∧ E.cell? ⟨o6.heap.size, 4, none⟩ = some (.slice qY al.ks.list.length dY) ∧ E.cell? ⟨o6.heap.size, 5, none⟩ = some (.int .i64 ac.op) ∧ E.cell? ⟨o6.heap.size, 6, none⟩ = some (.string ac.a) ∧ E.cell? ⟨o6.heap.size, 7, none⟩ = some (.slice rY ac.ks.list.length eY) ∧ E.cell? ⟨o6.heap.size, 8, none⟩ = some (.int .i64 ad)))
    have rVY0 := Below.refl VY.heap.size VY
    obtain ⟨yVY0, yVY1, yVY2, yVY3, yVY4, yVY5, yVY6, yVY7, yVY8⟩ := HKVY.out _ rVY0
    clear eVY kVY
    clear yW0 yW1 yW2 yW3 yW4 yW5 yW6 yW7 yW8 yW9 yW10 yW11 yW12 yW13 yW14 yW15 yW16 yW17
    obtain ⟨yW0, yW1, yW2, yW3, yW4, yW5, yW6, yW7, yW8, yW9, yW10, yW11, yW12, yW13, yW14, yW15, yW16, yW17⟩ := HKW.out _ rWVY
    clear yVX0 yVX1 yVX2 yVX3 yVX4 yVX5 yVX6 yVX7 yVX8
    obtain ⟨yVX0, yVX1, yVX2, yVX3, yVX4, yVX5, yVX6, yVX7, yVX8⟩ := HKVX.out _ rVXVY
    go_wp2_with fail
    refine Calls.mono (mergeElems_to he3 hm3 _ _ _ (emN_liv _ _) (HAA.out.below (show Below o1.heap.size o1 _ by assumption)).liv emN_sm hasm (HVV.out.below (show Below w.heap.size w _ by assumption))) ?_
    rintro en o7 ⟨vZ, FZ, rfl, hTZ, hlZ, hb⟩
    have rwo7 := Below.trans (show Below w.heap.size w _ by assumption) (hb.mono (by omega))
    have zwo7 := rwo7.size
    have ro1o7 := Below.trans (show Below o1.heap.size o1 _ by assumption) (hb.mono (by omega))
    have zo1o7 := ro1o7.size
    have rWo7 := Below.trans (show Below W.heap.size W _ by assumption) (hb.mono (by omega))
    have zWo7 := rWo7.size
    have ro5o7 := Below.trans (show Below o5.heap.size o5 _ by assumption) (hb.mono (by omega))
    have zo5o7 := ro5o7.size
    have rVXo7 := Below.trans (show Below VX.heap.size VX _ by assumption) (hb.mono (by omega))
    have zVXo7 := rVXo7.size
    have ro6o7 := Below.trans (show Below o6.heap.size o6 _ by assumption) (hb.mono (by omega))
    have zo6o7 := ro6o7.size
    have rVYo7 := Below.trans (show Below VY.heap.size VY _ by assumption) (hb.mono (by omega))
    have zVYo7 := rVYo7.size
    obtain ⟨qZ, dZ, rZ, eZ, rfl⟩ := hTZ.form
    have HAZ := Lib.hid hTZ
    clear hTZ hlZ
    clear hb yW0 yW1 yW2 yW3 yW4 yW5 yW6 yW7 yW8 yW9 yW10 yW11 yW12 yW13 yW14 yW15 yW16 yW17 yVX0 yVX1 yVX2 yVX3 yVX4 yVX5 yVX6 yVX7 yVX8 yVY0 yVY1 yVY2 yVY3 yVY4 yVY5 yVY6 yVY7 yVY8
    obtain ⟨yW0, yW1, yW2, yW3, yW4, yW5, yW6, yW7, yW8, yW9, yW10, yW11, yW12, yW13, yW14, yW15, yW16, yW17⟩ := HKW.out _ rWo7
    obtain ⟨yVX0, yVX1, yVX2, yVX3, yVX4, yVX5, yVX6, yVX7, yVX8⟩ := HKVX.out _ rVXo7
    obtain ⟨yVY0, yVY1, yVY2, yVY3, yVY4, yVY5, yVY6, yVY7, yVY8⟩ := HKVY.out _ rVYo7
    have ro70 := Below.refl o7.heap.size o7
    go_upto_region 11 with fail
    obtain ⟨VZ, eVZ⟩ : ∃ E, E = o7.alloc (.cells #[.bool an, .string av, .int .i64 al.op, .string al.a, .slice qZ al.ks.list.length dZ, .int .i64 ac.op, .string ac.a, .slice rZ ac.ks.list.length eZ, .int .i64 ad] 27) := ⟨_, rfl⟩
    have sVZ : o7.heap.size < VZ.heap.size := by rw [eVZ]; simp
    have kVZ : Below o7.heap.size o7 VZ := by rw [eVZ]; ((repeat (first | with_reducible assumption | with_reducible exact Below.refl _ _ | refine Below.setCell ?_ (by (first | omega | (simp; omega) | (simp; done) | fail "sml")) _ | refine Below.drew ?_ | refine Below.alloc ?_ (by (first | omega | (simp; omega) | (simp; done) | fail "sml")) _)); first | done | fail "chs")
    have HCVZ := Lib.hid (show VZ.cell? ⟨o7.heap.size, 0, none⟩ = some (.bool an) ∧ VZ.cell? ⟨o7.heap.size, 1, none⟩ = some (.string av) ∧ VZ.cell? ⟨o7.heap.size, 2, none⟩ = some (.int .i64 al.op) ∧ VZ.cell? ⟨o7.heap.size, 3, none⟩ = some (.string al.a) ∧ VZ.cell? ⟨o7.heap.size, 4, none⟩ = some (.slice qZ al.ks.list.length dZ) ∧ VZ.cell? ⟨o7.heap.size, 5, none⟩ = some (.int .i64 ac.op) ∧ VZ.cell? ⟨o7.heap.size, 6, none⟩ = some (.string ac.a) ∧ VZ.cell? ⟨o7.heap.size, 7, none⟩ = some (.slice rZ ac.ks.list.length eZ) ∧ VZ.cell? ⟨o7.heap.size, 8, none⟩ = some (.int .i64 ad) from by rw [eVZ]; exact ⟨by simp [go_sem], by simp [go_sem], by simp [go_sem], by simp [go_sem], by simp [go_sem], by simp [go_sem], by simp [go_sem], by simp [go_sem], by simp [go_sem]⟩)
    skip
    rw [← eVZ]
    have rwVZ := Below.trans (show Below w.heap.size w _ by ((repeat (first | with_reducible assumption | with_reducible exact Below.refl _ _ | refine Below.setCell ?_ (by (first | omega | (simp; omega) | (simp; done) | fail "sml")) _ | refine Below.drew ?_ | refine Below.alloc ?_ (by (first | omega | (simp; omega) | (simp; done) | fail "sml")) _)); first | done | fail "chs")) (kVZ.mono (by (first | omega | (simp; omega) | (simp; done) | fail "sml")))
    have ro1VZ := Below.trans (show Below o1.heap.size o1 _ by ((repeat (first | with_reducible assumption | with_reducible exact Below.refl _ _ | refine Below.setCell ?_ (by (first | omega | (simp; omega) | (simp; done) | fail "sml")) _ | refine Below.drew ?_ | refine Below.alloc ?_ (by (first | omega | (simp; omega) | (simp; done) | fail "sml")) _)); first | done | fail "chs")) (kVZ.mono (by (first | omega | (simp; omega) | (simp; done) | fail "sml")))
    have rWVZ := Below.trans (show Below W.heap.size W _ by ((repeat (first | with_reducible assumption | with_reducible exact Below.refl _ _ | refine Below.setCell ?_ (by (first | omega | (simp; omega) | (simp; done) | fail "sml")) _ | refine Below.drew ?_ | refine Below.alloc ?_ (by (first | omega | (simp; omega) | (simp; done) | fail "sml")) _)); first | done | fail "chs")) (kVZ.mono (by (first | omega | (simp; omega) | (simp; done) | fail "sml")))
    have ro5VZ := Below.trans (show Below o5.heap.size o5 _ by ((repeat (first | with_reducible assumption | with_reducible exact Below.refl _ _ | refine Below.setCell ?_ (by (first | omega | (simp; omega) | (simp; done) | fail "sml")) _ | refine Below.drew ?_ | refine Below.alloc ?_ (by (first | omega | (simp; omega) | (simp; done) | fail "sml")) _)); first | done | fail "chs")) (kVZ.mono (by (first | omega | (simp; omega) | (simp; done) | fail "sml")))
    have rVXVZ := Below.trans (show Below VX.heap.size VX _ by ((repeat (first | with_reducible assumption | with_reducible exact Below.refl _ _ | refine Below.setCell ?_ (by (first | omega | (simp; omega) | (simp; done) | fail "sml")) _ | refine Below.drew ?_ | refine Below.alloc ?_ (by (first | omega | (simp; omega) | (simp; done) | fail "sml")) _)); first | done | fail "chs")) (kVZ.mono (by (first | omega | (simp; omega) | (simp; done) | fail "sml")))
    have ro6VZ := Below.trans (show Below o6.heap.size o6 _ by ((repeat (first | with_reducible assumption | with_reducible exact Below.refl _ _ | refine Below.setCell ?_ (by (first | omega | (simp; omega) | (simp; done) | fail "sml")) _ | refine Below.drew ?_ | refine Below.alloc ?_ (by (first | omega | (simp; omega) | (simp; done) | fail "sml")) _)); first | done | fail "chs")) (kVZ.mono (by (first | omega | (simp; omega) | (simp; done) | fail "sml")))
    have rVYVZ := Below.trans (show Below VY.heap.size VY _ by ((repeat (first | with_reducible assumption | with_reducible exact Below.refl _ _ | refine Below.setCell ?_ (by (first | omega | (simp; omega) | (simp; done) | fail "sml")) _ | refine Below.drew ?_ | refine Below.alloc ?_ (by (first | omega | (simp; omega) | (simp; done) | fail "sml")) _)); first | done | fail "chs")) (kVZ.mono (by (first | omega | (simp; omega) | (simp; done) | fail "sml")))
    have ro7VZ := Below.trans (show Below o7.heap.size o7 _ by ((repeat (first | with_reducible assumption | with_reducible exact Below.refl _ _ | refine Below.setCell ?_ (by (first | omega | (simp; omega) | (simp; done) | fail "sml")) _ | refine Below.drew ?_ | refine Below.alloc ?_ (by (first | omega | (simp; omega) | (simp; done) | fail "sml")) _)); first | done | fail "chs")) (kVZ.mono (by (first | omega | (simp; omega) | (simp; done) | fail "sml")))
    have HKVZ := Lib.hid (fun (E : World) (hE : Below VZ.heap.size VZ E) => (⟨keepc hE sVZ HCVZ.out.1, keepc hE sVZ HCVZ.out.2.1, keepc hE sVZ HCVZ.out.2.2.1, keepc hE sVZ HCVZ.out.2.2.2.1, keepc hE sVZ HCVZ.out.2.2.2.2.1, keepc hE sVZ HCVZ.out.2.2.2.2.2.1, keepc hE sVZ HCVZ.out.2.2.2.2.2.2.1, keepc hE sVZ HCVZ.out.2.2.2.2.2.2.2.1, keepc hE sVZ HCVZ.out.2.2.2.2.2.2.2.2⟩ : E.cell? ⟨o7.heap.size, 0, none⟩ = some (.bool an) ∧ E.cell? ⟨o7.heap.size, 1, none⟩ = some (.string av) ∧ E.cell? ⟨o7.heap.size, 2, none⟩ = some (.int .i64 al.op) ∧ E.cell? ⟨o7.heap.size, 3, none⟩ = some (.string al.a) ∧ E.cell? ⟨o7.heap.size, 4, none⟩ = some (.slice qZ al.ks.list.length dZ) ∧ E.cell? ⟨o7.heap.size, 5, none⟩ = some (.int .i64 ac.op) ∧ E.cell? ⟨o7.heap.size, 6, none⟩ = some (.string ac.a) ∧ E.cell? ⟨o7.heap.size, 7, none⟩ = some (.slice rZ ac.ks.list.length eZ) ∧ E.cell? ⟨o7.heap.size, 8, none⟩ = some (.int .i64 ad)))
    have rVZ0 := Below.refl VZ.heap.size VZ
    obtain ⟨yVZ0, yVZ1, yVZ2, yVZ3, yVZ4, yVZ5, yVZ6, yVZ7, yVZ8⟩ := HKVZ.out _ rVZ0
    clear eVZ kVZ
    clear yW0 yW1 yW2 yW3 yW4 yW5 yW6 yW7 yW8 yW9 yW10 yW11 yW12 yW13 yW14 yW15 yW16 yW17
    obtain ⟨yW0, yW1, yW2, yW3, yW4, yW5, yW6, yW7, yW8, yW9, yW10, yW11, yW12, yW13, yW14, yW15, yW16, yW17⟩ := HKW.out _ rWVZ
    clear yVX0 yVX1 yVX2 yVX3 yVX4 yVX5 yVX6 yVX7 yVX8
    obtain ⟨yVX0, yVX1, yVX2, yVX3, yVX4, yVX5, yVX6, yVX7, yVX8⟩ := HKVX.out _ rVXVZ
    clear yVY0 yVY1 yVY2 yVY3 yVY4 yVY5 yVY6 yVY7 yVY8
    obtain ⟨yVY0, yVY1, yVY2, yVY3, yVY4, yVY5, yVY6, yVY7, yVY8⟩ := HKVY.out _ rVYVZ
    go_wp2_with fail
    refine Calls.mono (elemSame_to (HAX.out.below (show Below o5.heap.size o5 _ by assumption)).liv (HAA.out.below (show Below o1.heap.size o1 _ by assumption)).liv (Nat.le_refl _) hasz) ?_
    rintro en o8 ⟨rfl, hb⟩
    have rwo8 := Below.trans (show Below w.heap.size w _ by assumption) (hb.mono (by omega))
    have zwo8 := rwo8.size
    have ro1o8 := Below.trans (show Below o1.heap.size o1 _ by assumption) (hb.mono (by omega))
    have zo1o8 := ro1o8.size
    have rWo8 := Below.trans (show Below W.heap.size W _ by assumption) (hb.mono (by omega))
    have zWo8 := rWo8.size
    have ro5o8 := Below.trans (show Below o5.heap.size o5 _ by assumption) (hb.mono (by omega))
    have zo5o8 := ro5o8.size
    have rVXo8 := Below.trans (show Below VX.heap.size VX _ by assumption) (hb.mono (by omega))
    have zVXo8 := rVXo8.size
    have ro6o8 := Below.trans (show Below o6.heap.size o6 _ by assumption) (hb.mono (by omega))
    have zo6o8 := ro6o8.size
    have rVYo8 := Below.trans (show Below VY.heap.size VY _ by assumption) (hb.mono (by omega))
    have zVYo8 := rVYo8.size
    have ro7o8 := Below.trans (show Below o7.heap.size o7 _ by assumption) (hb.mono (by omega))
    have zo7o8 := ro7o8.size
    have rVZo8 := Below.trans (show Below VZ.heap.size VZ _ by assumption) (hb.mono (by omega))
    have zVZo8 := rVZo8.size
    clear hb yW0 yW1 yW2 yW3 yW4 yW5 yW6 yW7 yW8 yW9 yW10 yW11 yW12 yW13 yW14 yW15 yW16 yW17 yVX0 yVX1 yVX2 yVX3 yVX4 yVX5 yVX6 yVX7 yVX8 yVY0 yVY1 yVY2 yVY3 yVY4 yVY5 yVY6 yVY7 yVY8 yVZ0 yVZ1 yVZ2 yVZ3 yVZ4 yVZ5 yVZ6 yVZ7 yVZ8
    obtain ⟨yW0, yW1, yW2, yW3, yW4, yW5, yW6, yW7, yW8, yW9, yW10, yW11, yW12, yW13, yW14, yW15, yW16, yW17⟩ := HKW.out _ rWo8
    obtain ⟨yVX0, yVX1, yVX2, yVX3, yVX4, yVX5, yVX6, yVX7, yVX8⟩ := HKVX.out _ rVXo8
    obtain ⟨yVY0, yVY1, yVY2, yVY3, yVY4, yVY5, yVY6, yVY7, yVY8⟩ := HKVY.out _ rVYo8
    obtain ⟨yVZ0, yVZ1, yVZ2, yVZ3, yVZ4, yVZ5, yVZ6, yVZ7, yVZ8⟩ := HKVZ.out _ rVZo8
    go_wp2_with fail
    refine Calls.mono (elemSame_to (HAY.out.below (show Below o6.heap.size o6 _ by assumption)).liv (HAA.out.below (show Below o1.heap.size o1 _ by assumption)).liv (Nat.le_refl _) hasz) ?_
    rintro en o9 ⟨rfl, hb⟩
    have rwo9 := Below.trans (show Below w.heap.size w _ by assumption) (hb.mono (by omega))
    have zwo9 := rwo9.size
    have ro1o9 := Below.trans (show Below o1.heap.size o1 _ by assumption) (hb.mono (by omega))
    have zo1o9 := ro1o9.size
    have rWo9 := Below.trans (show Below W.heap.size W _ by assumption) (hb.mono (by omega))
    have zWo9 := rWo9.size
    have ro5o9 := Below.trans (show Below o5.heap.size o5 _ by assumption) (hb.mono (by omega))
    have zo5o9 := ro5o9.size
    have rVXo9 := Below.trans (show Below VX.heap.size VX _ by assumption) (hb.mono (by omega))
    have zVXo9 := rVXo9.size
    have ro6o9 := Below.trans (show Below o6.heap.size o6 _ by assumption) (hb.mono (by omega))
    have zo6o9 := ro6o9.size
    have rVYo9 := Below.trans (show Below VY.heap.size VY _ by assumption) (hb.mono (by omega))
    have zVYo9 := rVYo9.size
    have ro7o9 := Below.trans (show Below o7.heap.size o7 _ by assumption) (hb.mono (by omega))
    have zo7o9 := ro7o9.size
    have rVZo9 := Below.trans (show Below VZ.heap.size VZ _ by assumption) (hb.mono (by omega))
    have zVZo9 := rVZo9.size
    clear hb yW0 yW1 yW2 yW3 yW4 yW5 yW6 yW7 yW8 yW9 yW10 yW11 yW12 yW13 yW14 yW15 yW16 yW17 yVX0 yVX1 yVX2 yVX3 yVX4 yVX5 yVX6 yVX7 yVX8 yVY0 yVY1 yVY2 yVY3 yVY4 yVY5 yVY6 yVY7 yVY8 yVZ0 yVZ1 yVZ2 yVZ3 yVZ4 yVZ5 yVZ6 yVZ7 yVZ8
    obtain ⟨yW0, yW1, yW2, yW3, yW4, yW5, yW6, yW7, yW8, yW9, yW10, yW11, yW12, yW13, yW14, yW15, yW16, yW17⟩ := HKW.out _ rWo9
    obtain ⟨yVX0, yVX1, yVX2, yVX3, yVX4, yVX5, yVX6, yVX7, yVX8⟩ := HKVX.out _ rVXo9
    obtain ⟨yVY0, yVY1, yVY2, yVY3, yVY4, yVY5, yVY6, yVY7, yVY8⟩ := HKVY.out _ rVYo9
    obtain ⟨yVZ0, yVZ1, yVZ2, yVZ3, yVZ4, yVZ5, yVZ6, yVZ7, yVZ8⟩ := HKVZ.out _ rVZo9
    go_wp2_with fail
    refine Calls.mono (elemSame_to (HAZ.out.below (show Below o7.heap.size o7 _ by assumption)).liv (HAA.out.below (show Below o1.heap.size o1 _ by assumption)).liv (Nat.le_refl _) hasz) ?_
    rintro en o10 ⟨rfl, hb⟩
    have rwo10 := Below.trans (show Below w.heap.size w _ by assumption) (hb.mono (by omega))
    have zwo10 := rwo10.size
    have ro1o10 := Below.trans (show Below o1.heap.size o1 _ by assumption) (hb.mono (by omega))
    have zo1o10 := ro1o10.size
    have rWo10 := Below.trans (show Below W.heap.size W _ by assumption) (hb.mono (by omega))
    have zWo10 := rWo10.size
    have ro5o10 := Below.trans (show Below o5.heap.size o5 _ by assumption) (hb.mono (by omega))
    have zo5o10 := ro5o10.size
    have rVXo10 := Below.trans (show Below VX.heap.size VX _ by assumption) (hb.mono (by omega))
    have zVXo10 := rVXo10.size
    have ro6o10 := Below.trans (show Below o6.heap.size o6 _ by assumption) (hb.mono (by omega))
    have zo6o10 := ro6o10.size
    have rVYo10 := Below.trans (show Below VY.heap.size VY _ by assumption) (hb.mono (by omega))
    have zVYo10 := rVYo10.size
    have ro7o10 := Below.trans (show Below o7.heap.size o7 _ by assumption) (hb.mono (by omega))
    have zo7o10 := ro7o10.size
    have rVZo10 := Below.trans (show Below VZ.heap.size VZ _ by assumption) (hb.mono (by omega))
    have zVZo10 := rVZo10.size
    clear hb yW0 yW1 yW2 yW3 yW4 yW5 yW6 yW7 yW8 yW9 yW10 yW11 yW12 yW13 yW14 yW15 yW16 yW17 yVX0 yVX1 yVX2 yVX3 yVX4 yVX5 yVX6 yVX7 yVX8 yVY0 yVY1 yVY2 yVY3 yVY4 yVY5 yVY6 yVY7 yVY8 yVZ0 yVZ1 yVZ2 yVZ3 yVZ4 yVZ5 yVZ6 yVZ7 yVZ8
    obtain ⟨yW0, yW1, yW2, yW3, yW4, yW5, yW6, yW7, yW8, yW9, yW10, yW11, yW12, yW13, yW14, yW15, yW16, yW17⟩ := HKW.out _ rWo10
    obtain ⟨yVX0, yVX1, yVX2, yVX3, yVX4, yVX5, yVX6, yVX7, yVX8⟩ := HKVX.out _ rVXo10
    obtain ⟨yVY0, yVY1, yVY2, yVY3, yVY4, yVY5, yVY6, yVY7, yVY8⟩ := HKVY.out _ rVYo10
    obtain ⟨yVZ0, yVZ1, yVZ2, yVZ3, yVZ4, yVZ5, yVZ6, yVZ7, yVZ8⟩ := HKVZ.out _ rVZo10
    go_wp2_with fail
    go_ret
    exact ⟨rfl, by ((repeat (first | with_reducible assumption | with_reducible exact Below.refl _ _ | refine Below.setCell ?_ (by (first | omega | (simp; omega) | (simp; done) | fail "sml")) _ | refine Below.drew ?_ | refine Below.alloc ?_ (by (first | omega | (simp; omega) | (simp; done) | fail "sml")) _)); first | done | fail "chs")⟩
end Go.Proofs.YtbbemeaojmfndaaDoor
