/- The walk of FnTurnHops. -/
import Derived.Test.YtghhabailgfelaaDoorL3E
import Derived.Test.YtghhabailgfelaaDoorM6p1
import Derived.Test.YtghhabailgfelaaDoorM0p1
import Derived.Test.YtghhabailgfelaaDoorM7p1
import Derived.Test.YtghhabailgfelaaDoorHopTZ
import Derived.Test.YtghhabailgfelaaDoorM0p2
namespace Go.Proofs.YtghhabailgfelaaDoor
open Go.RowKit

set_option maxRecDepth 100000 in
set_option maxHeartbeats 16000000 in
theorem lawTurnHops (zs : List Int) (v : Value) (w : World) (hv : Sl 1 byCells w.heap.size w v zs) (hz : ∀ z ∈ zs, 0 ≤ z ∧ z ≤ 255) (hvars : Vars w) :
    Calls Tryd.prog 8 #[v] w fun e w' => e = .returned (.bool true) ∧ Below w.heap.size w w' := by
  have HVV := Lib.hid hvars
  clear hvars
  obtain ⟨p, cap, rfl⟩ := hv.form
  have hm := hv.max
  unfold maxLen at hm
  by_cases hbig : (1048576 : Int) < zs.length
  · go_enter Tryd.func8, Tryd.ntmps8
    go_wp2_with fail
    go_ret
    exact ⟨rfl, Below.refl _ _⟩
  go_enter Tryd.func8, Tryd.ntmps8
  go_wp2_with fail
  have rw0 := Below.refl w.heap.size w
  refine Calls.mono (drawHopsFrom_any zs _ w.heap.size _ hv (Nat.le_refl _) hz) ?_
  rintro en o1 ⟨g, vg, Fg, n, ⟨yn, yv, yl, yc, yd⟩, p, c, p', c', rfl, hg, hn, hy, hb⟩
  have rwo1 := Below.trans (show Below w.heap.size w _ by assumption) (hb.mono (by omega))
  have zwo1 := rwo1.size
  obtain ⟨pg, cg, qg, dg, rfl⟩ := hg.1.form
  have hok := hg.2.2.1
  have hgl := And.intro hg.2.2.2.1 hg.2.2.2.2
  have hysm := hy.sm
  have HAU := Lib.hid (And.intro hg.1.at hy.at)
  obtain ⟨FY, hyh⟩ := hy.has
  have HYH := Lib.hid hyh
  clear hg hy hyh
  clear hb 
  have ro10 := Below.refl o1.heap.size o1
  go_upto_region 4 with fail
  obtain ⟨W, eW⟩ : ∃ E, E = (o1.alloc (.cells #[.slice pg g.ns.length cg, .slice qg g.es.length dg] 26)).alloc (.cells #[.bool yn, .string yv, .int .i64 yl.op, .string yl.a, .slice p yl.ks.list.length c, .int .i64 yc.op, .string yc.a, .slice p' yc.ks.list.length c', .int .i64 yd] 31) := ⟨_, rfl⟩
  have kW : Below o1.heap.size o1 W := by rw [eW]; ((repeat (first | with_reducible assumption | with_reducible exact Below.refl _ _ | refine Below.setCell ?_ (by (first | omega | (simp; omega) | (simp; done) | fail "sml")) _ | refine Below.drew ?_ | refine Below.alloc ?_ (by (first | omega | (simp; omega) | (simp; done) | fail "sml")) _)); first | done | fail "chs")
  have sW : o1.heap.size + 1 < W.heap.size := by rw [eW]; simp
  have HCW := Lib.hid (show (W.cell? ⟨o1.heap.size, 0, none⟩ = some (.slice pg g.ns.length cg) ∧ W.cell? ⟨o1.heap.size, 1, none⟩ = some (.slice qg g.es.length dg) ∧ W.cell? ⟨o1.heap.size + 1, 0, none⟩ = some (.bool yn) ∧ W.cell? ⟨o1.heap.size + 1, 1, none⟩ = some (.string yv) ∧ W.cell? ⟨o1.heap.size + 1, 2, none⟩ = some (.int .i64 yl.op) ∧ W.cell? ⟨o1.heap.size + 1, 3, none⟩ = some (.string yl.a) ∧ W.cell? ⟨o1.heap.size + 1, 4, none⟩ = some (.slice p yl.ks.list.length c) ∧ W.cell? ⟨o1.heap.size + 1, 5, none⟩ = some (.int .i64 yc.op) ∧ W.cell? ⟨o1.heap.size + 1, 6, none⟩ = some (.string yc.a) ∧ W.cell? ⟨o1.heap.size + 1, 7, none⟩ = some (.slice p' yc.ks.list.length c') ∧ W.cell? ⟨o1.heap.size + 1, 8, none⟩ = some (.int .i64 yd)) ∧ ∀ i, W.frozen? ⟨o1.heap.size + 1, i, none⟩ = false from by rw [eW]; exact ⟨⟨by simp [go_sem], by simp [go_sem], by simp [go_sem], by simp [go_sem], by simp [go_sem], by simp [go_sem], by simp [go_sem], by simp [go_sem], by simp [go_sem], by simp [go_sem], by simp [go_sem]⟩, fun i => by simp [go_sem]⟩)
  have rwW := Below.trans (show Below w.heap.size w _ by ((repeat (first | with_reducible assumption | with_reducible exact Below.refl _ _ | refine Below.setCell ?_ (by (first | omega | (simp; omega) | (simp; done) | fail "sml")) _ | refine Below.drew ?_ | refine Below.alloc ?_ (by (first | omega | (simp; omega) | (simp; done) | fail "sml")) _)); first | done | fail "chs")) (kW.mono (by (first | omega | (simp; omega) | (simp; done) | fail "sml")))
  have ro1W := Below.trans (show Below o1.heap.size o1 _ by ((repeat (first | with_reducible assumption | with_reducible exact Below.refl _ _ | refine Below.setCell ?_ (by (first | omega | (simp; omega) | (simp; done) | fail "sml")) _ | refine Below.drew ?_ | refine Below.alloc ?_ (by (first | omega | (simp; omega) | (simp; done) | fail "sml")) _)); first | done | fail "chs")) (kW.mono (by (first | omega | (simp; omega) | (simp; done) | fail "sml")))
  rw [← eW]
  have HKW := Lib.hid (fun (E : World) (hE : Below W.heap.size W E) => (⟨keepc hE (by omega) HCW.out.1.1, keepc hE (by omega) HCW.out.1.2.1, keepc hE (by omega) HCW.out.1.2.2.1, keepc hE (by omega) HCW.out.1.2.2.2.1, keepc hE (by omega) HCW.out.1.2.2.2.2.1, keepc hE (by omega) HCW.out.1.2.2.2.2.2.1, keepc hE (by omega) HCW.out.1.2.2.2.2.2.2.1, keepc hE (by omega) HCW.out.1.2.2.2.2.2.2.2.1, keepc hE (by omega) HCW.out.1.2.2.2.2.2.2.2.2.1, keepc hE (by omega) HCW.out.1.2.2.2.2.2.2.2.2.2.1, keepc hE (by omega) HCW.out.1.2.2.2.2.2.2.2.2.2.2⟩ : E.cell? ⟨o1.heap.size, 0, none⟩ = some (.slice pg g.ns.length cg) ∧ E.cell? ⟨o1.heap.size, 1, none⟩ = some (.slice qg g.es.length dg) ∧ E.cell? ⟨o1.heap.size + 1, 0, none⟩ = some (.bool yn) ∧ E.cell? ⟨o1.heap.size + 1, 1, none⟩ = some (.string yv) ∧ E.cell? ⟨o1.heap.size + 1, 2, none⟩ = some (.int .i64 yl.op) ∧ E.cell? ⟨o1.heap.size + 1, 3, none⟩ = some (.string yl.a) ∧ E.cell? ⟨o1.heap.size + 1, 4, none⟩ = some (.slice p yl.ks.list.length c) ∧ E.cell? ⟨o1.heap.size + 1, 5, none⟩ = some (.int .i64 yc.op) ∧ E.cell? ⟨o1.heap.size + 1, 6, none⟩ = some (.string yc.a) ∧ E.cell? ⟨o1.heap.size + 1, 7, none⟩ = some (.slice p' yc.ks.list.length c') ∧ E.cell? ⟨o1.heap.size + 1, 8, none⟩ = some (.int .i64 yd)))
  have rW0 := Below.refl W.heap.size W
  obtain ⟨yW0, yW1, yW2, yW3, yW4, yW5, yW6, yW7, yW8, yW9, yW10⟩ := HKW.out _ rW0
  clear eW kW
  obtain ⟨⟨tn, tv, tl, tc, td⟩, ET⟩ : ∃ T, turnR (⟨yn, yv, yl, yc, yd⟩ : El) = T := ⟨_, rfl⟩
  have hts := turnR_small (⟨yn, yv, yl, yc, yd⟩ : El)
  rw [ET] at hts
  cases EE : elemV (⟨yn, yv, yl, yc, yd⟩ : El) with
  | false =>
    go_wp2_with fail
    refine Calls.mono (turnElem_to ET EE _ o1.heap.size _ (HAU.out.2.below (show Below o1.heap.size o1 _ by assumption) (Nat.le_refl _)) (show Below o1.heap.size o1 _ by assumption).size hysm (HVV.out.below (show Below w.heap.size w _ by assumption))) ?_
    rintro en o2 ⟨vT, FT, rfl, hTT, hlT, hb⟩
    have rwo2 := Below.trans (show Below w.heap.size w _ by assumption) (hb.mono (by omega))
    have zwo2 := rwo2.size
    have ro1o2 := Below.trans (show Below o1.heap.size o1 _ by assumption) (hb.mono (by omega))
    have zo1o2 := ro1o2.size
    have rWo2 := Below.trans (show Below W.heap.size W _ by assumption) (hb.mono (by omega))
    have zWo2 := rWo2.size
    obtain ⟨qT, dT, rT, eT, rfl⟩ := hTT.form
    have HAT := Lib.hid hTT
    clear hTT hlT
    clear hb yW0 yW1 yW2 yW3 yW4 yW5 yW6 yW7 yW8 yW9 yW10
    obtain ⟨yW0, yW1, yW2, yW3, yW4, yW5, yW6, yW7, yW8, yW9, yW10⟩ := HKW.out _ rWo2
    have ro20 := Below.refl o2.heap.size o2
    go_upto_region 5 with fail
    obtain ⟨VT, eVT⟩ : ∃ E, E = o2.alloc (.cells #[.bool tn, .string tv, .int .i64 tl.op, .string tl.a, .slice qT tl.ks.list.length dT, .int .i64 tc.op, .string tc.a, .slice rT tc.ks.list.length eT, .int .i64 td] 31) := ⟨_, rfl⟩
    have sVT : o2.heap.size < VT.heap.size := by rw [eVT]; simp
    have kVT : Below o2.heap.size o2 VT := by rw [eVT]; ((repeat (first | with_reducible assumption | with_reducible exact Below.refl _ _ | refine Below.setCell ?_ (by (first | omega | (simp; omega) | (simp; done) | fail "sml")) _ | refine Below.drew ?_ | refine Below.alloc ?_ (by (first | omega | (simp; omega) | (simp; done) | fail "sml")) _)); first | done | fail "chs")
    have HCVT := Lib.hid (show VT.cell? ⟨o2.heap.size, 0, none⟩ = some (.bool tn) ∧ VT.cell? ⟨o2.heap.size, 1, none⟩ = some (.string tv) ∧ VT.cell? ⟨o2.heap.size, 2, none⟩ = some (.int .i64 tl.op) ∧ VT.cell? ⟨o2.heap.size, 3, none⟩ = some (.string tl.a) ∧ VT.cell? ⟨o2.heap.size, 4, none⟩ = some (.slice qT tl.ks.list.length dT) ∧ VT.cell? ⟨o2.heap.size, 5, none⟩ = some (.int .i64 tc.op) ∧ VT.cell? ⟨o2.heap.size, 6, none⟩ = some (.string tc.a) ∧ VT.cell? ⟨o2.heap.size, 7, none⟩ = some (.slice rT tc.ks.list.length eT) ∧ VT.cell? ⟨o2.heap.size, 8, none⟩ = some (.int .i64 td) from by rw [eVT]; exact ⟨by simp [go_sem], by simp [go_sem], by simp [go_sem], by simp [go_sem], by simp [go_sem], by simp [go_sem], by simp [go_sem], by simp [go_sem], by simp [go_sem]⟩)
    skip
    rw [← eVT]
    have rwVT := Below.trans (show Below w.heap.size w _ by ((repeat (first | with_reducible assumption | with_reducible exact Below.refl _ _ | refine Below.setCell ?_ (by (first | omega | (simp; omega) | (simp; done) | fail "sml")) _ | refine Below.drew ?_ | refine Below.alloc ?_ (by (first | omega | (simp; omega) | (simp; done) | fail "sml")) _)); first | done | fail "chs")) (kVT.mono (by (first | omega | (simp; omega) | (simp; done) | fail "sml")))
    have ro1VT := Below.trans (show Below o1.heap.size o1 _ by ((repeat (first | with_reducible assumption | with_reducible exact Below.refl _ _ | refine Below.setCell ?_ (by (first | omega | (simp; omega) | (simp; done) | fail "sml")) _ | refine Below.drew ?_ | refine Below.alloc ?_ (by (first | omega | (simp; omega) | (simp; done) | fail "sml")) _)); first | done | fail "chs")) (kVT.mono (by (first | omega | (simp; omega) | (simp; done) | fail "sml")))
    have rWVT := Below.trans (show Below W.heap.size W _ by ((repeat (first | with_reducible assumption | with_reducible exact Below.refl _ _ | refine Below.setCell ?_ (by (first | omega | (simp; omega) | (simp; done) | fail "sml")) _ | refine Below.drew ?_ | refine Below.alloc ?_ (by (first | omega | (simp; omega) | (simp; done) | fail "sml")) _)); first | done | fail "chs")) (kVT.mono (by (first | omega | (simp; omega) | (simp; done) | fail "sml")))
    have ro2VT := Below.trans (show Below o2.heap.size o2 _ by ((repeat (first | with_reducible assumption | with_reducible exact Below.refl _ _ | refine Below.setCell ?_ (by (first | omega | (simp; omega) | (simp; done) | fail "sml")) _ | refine Below.drew ?_ | refine Below.alloc ?_ (by (first | omega | (simp; omega) | (simp; done) | fail "sml")) _)); first | done | fail "chs")) (kVT.mono (by (first | omega | (simp; omega) | (simp; done) | fail "sml")))
    have HKVT := Lib.hid (fun (E : World) (hE : Below VT.heap.size VT E) => (⟨keepc hE sVT HCVT.out.1, keepc hE sVT HCVT.out.2.1, keepc hE sVT HCVT.out.2.2.1, keepc hE sVT HCVT.out.2.2.2.1, keepc hE sVT HCVT.out.2.2.2.2.1, keepc hE sVT HCVT.out.2.2.2.2.2.1, keepc hE sVT HCVT.out.2.2.2.2.2.2.1, keepc hE sVT HCVT.out.2.2.2.2.2.2.2.1, keepc hE sVT HCVT.out.2.2.2.2.2.2.2.2⟩ : E.cell? ⟨o2.heap.size, 0, none⟩ = some (.bool tn) ∧ E.cell? ⟨o2.heap.size, 1, none⟩ = some (.string tv) ∧ E.cell? ⟨o2.heap.size, 2, none⟩ = some (.int .i64 tl.op) ∧ E.cell? ⟨o2.heap.size, 3, none⟩ = some (.string tl.a) ∧ E.cell? ⟨o2.heap.size, 4, none⟩ = some (.slice qT tl.ks.list.length dT) ∧ E.cell? ⟨o2.heap.size, 5, none⟩ = some (.int .i64 tc.op) ∧ E.cell? ⟨o2.heap.size, 6, none⟩ = some (.string tc.a) ∧ E.cell? ⟨o2.heap.size, 7, none⟩ = some (.slice rT tc.ks.list.length eT) ∧ E.cell? ⟨o2.heap.size, 8, none⟩ = some (.int .i64 td)))
    have rVT0 := Below.refl VT.heap.size VT
    obtain ⟨yVT0, yVT1, yVT2, yVT3, yVT4, yVT5, yVT6, yVT7, yVT8⟩ := HKVT.out _ rVT0
    clear eVT kVT
    clear yW0 yW1 yW2 yW3 yW4 yW5 yW6 yW7 yW8 yW9 yW10
    obtain ⟨yW0, yW1, yW2, yW3, yW4, yW5, yW6, yW7, yW8, yW9, yW10⟩ := HKW.out _ rWVT
    go_wp2_with fail
    refine Calls.mono (specTurnElem_to ET EE _ o1.heap.size _ (HAU.out.2.below (show Below o1.heap.size o1 _ by assumption) (Nat.le_refl _)) (show Below o1.heap.size o1 _ by assumption).size hysm) ?_
    rintro en o3 ⟨vQ, FQ, rfl, hTQ, hlQ, hb⟩
    have rwo3 := Below.trans (show Below w.heap.size w _ by assumption) (hb.mono (by omega))
    have zwo3 := rwo3.size
    have ro1o3 := Below.trans (show Below o1.heap.size o1 _ by assumption) (hb.mono (by omega))
    have zo1o3 := ro1o3.size
    have rWo3 := Below.trans (show Below W.heap.size W _ by assumption) (hb.mono (by omega))
    have zWo3 := rWo3.size
    have ro2o3 := Below.trans (show Below o2.heap.size o2 _ by assumption) (hb.mono (by omega))
    have zo2o3 := ro2o3.size
    have rVTo3 := Below.trans (show Below VT.heap.size VT _ by assumption) (hb.mono (by omega))
    have zVTo3 := rVTo3.size
    obtain ⟨qQ, dQ, rQ, eQ, rfl⟩ := hTQ.form
    have HAQ := Lib.hid hTQ
    clear hTQ hlQ
    clear hb yW0 yW1 yW2 yW3 yW4 yW5 yW6 yW7 yW8 yW9 yW10 yVT0 yVT1 yVT2 yVT3 yVT4 yVT5 yVT6 yVT7 yVT8
    obtain ⟨yW0, yW1, yW2, yW3, yW4, yW5, yW6, yW7, yW8, yW9, yW10⟩ := HKW.out _ rWo3
    obtain ⟨yVT0, yVT1, yVT2, yVT3, yVT4, yVT5, yVT6, yVT7, yVT8⟩ := HKVT.out _ rVTo3
    have ro30 := Below.refl o3.heap.size o3
    go_upto_region 6 with fail
    obtain ⟨VQ, eVQ⟩ : ∃ E, E = o3.alloc (.cells #[.bool tn, .string tv, .int .i64 tl.op, .string tl.a, .slice qQ tl.ks.list.length dQ, .int .i64 tc.op, .string tc.a, .slice rQ tc.ks.list.length eQ, .int .i64 td] 31) := ⟨_, rfl⟩
    have sVQ : o3.heap.size < VQ.heap.size := by rw [eVQ]; simp
    have kVQ : Below o3.heap.size o3 VQ := by rw [eVQ]; ((repeat (first | with_reducible assumption | with_reducible exact Below.refl _ _ | refine Below.setCell ?_ (by (first | omega | (simp; omega) | (simp; done) | fail "sml")) _ | refine Below.drew ?_ | refine Below.alloc ?_ (by (first | omega | (simp; omega) | (simp; done) | fail "sml")) _)); first | done | fail "chs")
    have HCVQ := Lib.hid (show VQ.cell? ⟨o3.heap.size, 0, none⟩ = some (.bool tn) ∧ VQ.cell? ⟨o3.heap.size, 1, none⟩ = some (.string tv) ∧ VQ.cell? ⟨o3.heap.size, 2, none⟩ = some (.int .i64 tl.op) ∧ VQ.cell? ⟨o3.heap.size, 3, none⟩ = some (.string tl.a) ∧ VQ.cell? ⟨o3.heap.size, 4, none⟩ = some (.slice qQ tl.ks.list.length dQ) ∧ VQ.cell? ⟨o3.heap.size, 5, none⟩ = some (.int .i64 tc.op) ∧ VQ.cell? ⟨o3.heap.size, 6, none⟩ = some (.string tc.a) ∧ VQ.cell? ⟨o3.heap.size, 7, none⟩ = some (.slice rQ tc.ks.list.length eQ) ∧ VQ.cell? ⟨o3.heap.size, 8, none⟩ = some (.int .i64 td) from by rw [eVQ]; exact ⟨by simp [go_sem], by simp [go_sem], by simp [go_sem], by simp [go_sem], by simp [go_sem], by simp [go_sem], by simp [go_sem], by simp [go_sem], by simp [go_sem]⟩)
    skip
    rw [← eVQ]
    have rwVQ := Below.trans (show Below w.heap.size w _ by ((repeat (first | with_reducible assumption | with_reducible exact Below.refl _ _ | refine Below.setCell ?_ (by (first | omega | (simp; omega) | (simp; done) | fail "sml")) _ | refine Below.drew ?_ | refine Below.alloc ?_ (by (first | omega | (simp; omega) | (simp; done) | fail "sml")) _)); first | done | fail "chs")) (kVQ.mono (by (first | omega | (simp; omega) | (simp; done) | fail "sml")))
    have ro1VQ := Below.trans (show Below o1.heap.size o1 _ by ((repeat (first | with_reducible assumption | with_reducible exact Below.refl _ _ | refine Below.setCell ?_ (by (first | omega | (simp; omega) | (simp; done) | fail "sml")) _ | refine Below.drew ?_ | refine Below.alloc ?_ (by (first | omega | (simp; omega) | (simp; done) | fail "sml")) _)); first | done | fail "chs")) (kVQ.mono (by (first | omega | (simp; omega) | (simp; done) | fail "sml")))
    have rWVQ := Below.trans (show Below W.heap.size W _ by ((repeat (first | with_reducible assumption | with_reducible exact Below.refl _ _ | refine Below.setCell ?_ (by (first | omega | (simp; omega) | (simp; done) | fail "sml")) _ | refine Below.drew ?_ | refine Below.alloc ?_ (by (first | omega | (simp; omega) | (simp; done) | fail "sml")) _)); first | done | fail "chs")) (kVQ.mono (by (first | omega | (simp; omega) | (simp; done) | fail "sml")))
    have ro2VQ := Below.trans (show Below o2.heap.size o2 _ by ((repeat (first | with_reducible assumption | with_reducible exact Below.refl _ _ | refine Below.setCell ?_ (by (first | omega | (simp; omega) | (simp; done) | fail "sml")) _ | refine Below.drew ?_ | refine Below.alloc ?_ (by (first | omega | (simp; omega) | (simp; done) | fail "sml")) _)); first | done | fail "chs")) (kVQ.mono (by (first | omega | (simp; omega) | (simp; done) | fail "sml")))
    have rVTVQ := Below.trans (show Below VT.heap.size VT _ by ((repeat (first | with_reducible assumption | with_reducible exact Below.refl _ _ | refine Below.setCell ?_ (by (first | omega | (simp; omega) | (simp; done) | fail "sml")) _ | refine Below.drew ?_ | refine Below.alloc ?_ (by (first | omega | (simp; omega) | (simp; done) | fail "sml")) _)); first | done | fail "chs")) (kVQ.mono (by (first | omega | (simp; omega) | (simp; done) | fail "sml")))
    have ro3VQ := Below.trans (show Below o3.heap.size o3 _ by ((repeat (first | with_reducible assumption | with_reducible exact Below.refl _ _ | refine Below.setCell ?_ (by (first | omega | (simp; omega) | (simp; done) | fail "sml")) _ | refine Below.drew ?_ | refine Below.alloc ?_ (by (first | omega | (simp; omega) | (simp; done) | fail "sml")) _)); first | done | fail "chs")) (kVQ.mono (by (first | omega | (simp; omega) | (simp; done) | fail "sml")))
    have HKVQ := Lib.hid (fun (E : World) (hE : Below VQ.heap.size VQ E) => (⟨keepc hE sVQ HCVQ.out.1, keepc hE sVQ HCVQ.out.2.1, keepc hE sVQ HCVQ.out.2.2.1, keepc hE sVQ HCVQ.out.2.2.2.1, keepc hE sVQ HCVQ.out.2.2.2.2.1, keepc hE sVQ HCVQ.out.2.2.2.2.2.1, keepc hE sVQ HCVQ.out.2.2.2.2.2.2.1, keepc hE sVQ HCVQ.out.2.2.2.2.2.2.2.1, keepc hE sVQ HCVQ.out.2.2.2.2.2.2.2.2⟩ : E.cell? ⟨o3.heap.size, 0, none⟩ = some (.bool tn) ∧ E.cell? ⟨o3.heap.size, 1, none⟩ = some (.string tv) ∧ E.cell? ⟨o3.heap.size, 2, none⟩ = some (.int .i64 tl.op) ∧ E.cell? ⟨o3.heap.size, 3, none⟩ = some (.string tl.a) ∧ E.cell? ⟨o3.heap.size, 4, none⟩ = some (.slice qQ tl.ks.list.length dQ) ∧ E.cell? ⟨o3.heap.size, 5, none⟩ = some (.int .i64 tc.op) ∧ E.cell? ⟨o3.heap.size, 6, none⟩ = some (.string tc.a) ∧ E.cell? ⟨o3.heap.size, 7, none⟩ = some (.slice rQ tc.ks.list.length eQ) ∧ E.cell? ⟨o3.heap.size, 8, none⟩ = some (.int .i64 td)))
    have rVQ0 := Below.refl VQ.heap.size VQ
    obtain ⟨yVQ0, yVQ1, yVQ2, yVQ3, yVQ4, yVQ5, yVQ6, yVQ7, yVQ8⟩ := HKVQ.out _ rVQ0
    clear eVQ kVQ
    clear yW0 yW1 yW2 yW3 yW4 yW5 yW6 yW7 yW8 yW9 yW10
    obtain ⟨yW0, yW1, yW2, yW3, yW4, yW5, yW6, yW7, yW8, yW9, yW10⟩ := HKW.out _ rWVQ
    clear yVT0 yVT1 yVT2 yVT3 yVT4 yVT5 yVT6 yVT7 yVT8
    obtain ⟨yVT0, yVT1, yVT2, yVT3, yVT4, yVT5, yVT6, yVT7, yVT8⟩ := HKVT.out _ rVTVQ
    go_wp2_with fail
    refine Calls.mono (elemSame_to ((HAT.out.below (show Below o2.heap.size o2 _ by assumption)).liv) ((HAQ.out.below (show Below o3.heap.size o3 _ by assumption)).liv) (Nat.le_refl _) hts) ?_
    rintro en o4 ⟨rfl, hb⟩
    have rwo4 := Below.trans (show Below w.heap.size w _ by assumption) (hb.mono (by omega))
    have zwo4 := rwo4.size
    have ro1o4 := Below.trans (show Below o1.heap.size o1 _ by assumption) (hb.mono (by omega))
    have zo1o4 := ro1o4.size
    have rWo4 := Below.trans (show Below W.heap.size W _ by assumption) (hb.mono (by omega))
    have zWo4 := rWo4.size
    have ro2o4 := Below.trans (show Below o2.heap.size o2 _ by assumption) (hb.mono (by omega))
    have zo2o4 := ro2o4.size
    have rVTo4 := Below.trans (show Below VT.heap.size VT _ by assumption) (hb.mono (by omega))
    have zVTo4 := rVTo4.size
    have ro3o4 := Below.trans (show Below o3.heap.size o3 _ by assumption) (hb.mono (by omega))
    have zo3o4 := ro3o4.size
    have rVQo4 := Below.trans (show Below VQ.heap.size VQ _ by assumption) (hb.mono (by omega))
    have zVQo4 := rVQo4.size
    clear hb yW0 yW1 yW2 yW3 yW4 yW5 yW6 yW7 yW8 yW9 yW10 yVT0 yVT1 yVT2 yVT3 yVT4 yVT5 yVT6 yVT7 yVT8 yVQ0 yVQ1 yVQ2 yVQ3 yVQ4 yVQ5 yVQ6 yVQ7 yVQ8
    obtain ⟨yW0, yW1, yW2, yW3, yW4, yW5, yW6, yW7, yW8, yW9, yW10⟩ := HKW.out _ rWo4
    obtain ⟨yVT0, yVT1, yVT2, yVT3, yVT4, yVT5, yVT6, yVT7, yVT8⟩ := HKVT.out _ rVTo4
    obtain ⟨yVQ0, yVQ1, yVQ2, yVQ3, yVQ4, yVQ5, yVQ6, yVQ7, yVQ8⟩ := HKVQ.out _ rVQo4
    go_wp2_with fail
    refine Calls.mono (elemSame_to ((HAT.out.below (show Below o2.heap.size o2 _ by assumption)).liv) ((HAQ.out.below (show Below o3.heap.size o3 _ by assumption)).liv) (Nat.le_refl _) hts) ?_
    rintro en o5 ⟨rfl, hb⟩
    have rwo5 := Below.trans (show Below w.heap.size w _ by assumption) (hb.mono (by omega))
    have zwo5 := rwo5.size
    have ro1o5 := Below.trans (show Below o1.heap.size o1 _ by assumption) (hb.mono (by omega))
    have zo1o5 := ro1o5.size
    have rWo5 := Below.trans (show Below W.heap.size W _ by assumption) (hb.mono (by omega))
    have zWo5 := rWo5.size
    have ro2o5 := Below.trans (show Below o2.heap.size o2 _ by assumption) (hb.mono (by omega))
    have zo2o5 := ro2o5.size
    have rVTo5 := Below.trans (show Below VT.heap.size VT _ by assumption) (hb.mono (by omega))
    have zVTo5 := rVTo5.size
    have ro3o5 := Below.trans (show Below o3.heap.size o3 _ by assumption) (hb.mono (by omega))
    have zo3o5 := ro3o5.size
    have rVQo5 := Below.trans (show Below VQ.heap.size VQ _ by assumption) (hb.mono (by omega))
    have zVQo5 := rVQo5.size
    clear hb yW0 yW1 yW2 yW3 yW4 yW5 yW6 yW7 yW8 yW9 yW10 yVT0 yVT1 yVT2 yVT3 yVT4 yVT5 yVT6 yVT7 yVT8 yVQ0 yVQ1 yVQ2 yVQ3 yVQ4 yVQ5 yVQ6 yVQ7 yVQ8
    obtain ⟨yW0, yW1, yW2, yW3, yW4, yW5, yW6, yW7, yW8, yW9, yW10⟩ := HKW.out _ rWo5
    obtain ⟨yVT0, yVT1, yVT2, yVT3, yVT4, yVT5, yVT6, yVT7, yVT8⟩ := HKVT.out _ rVTo5
    obtain ⟨yVQ0, yVQ1, yVQ2, yVQ3, yVQ4, yVQ5, yVQ6, yVQ7, yVQ8⟩ := HKVQ.out _ rVQo5
    go_wp2_with fail
    go_ret
    exact ⟨rfl, by ((repeat (first | with_reducible assumption | with_reducible exact Below.refl _ _ | refine Below.setCell ?_ (by (first | omega | (simp; omega) | (simp; done) | fail "sml")) _ | refine Below.drew ?_ | refine Below.alloc ?_ (by (first | omega | (simp; omega) | (simp; done) | fail "sml")) _)); first | done | fail "chs")⟩
  | true =>
    go_wp2_with fail
    refine Calls.mono (turnElem_to ET EE _ o1.heap.size _ (HAU.out.2.below (show Below o1.heap.size o1 _ by assumption) (Nat.le_refl _)) (show Below o1.heap.size o1 _ by assumption).size hysm (HVV.out.below (show Below w.heap.size w _ by assumption))) ?_
    rintro en o2 ⟨vT, FT, rfl, hTT, hlT, hb⟩
    have rwo2 := Below.trans (show Below w.heap.size w _ by assumption) (hb.mono (by omega))
    have zwo2 := rwo2.size
    have ro1o2 := Below.trans (show Below o1.heap.size o1 _ by assumption) (hb.mono (by omega))
    have zo1o2 := ro1o2.size
    have rWo2 := Below.trans (show Below W.heap.size W _ by assumption) (hb.mono (by omega))
    have zWo2 := rWo2.size
    obtain ⟨qT, dT, rT, eT, rfl⟩ := hTT.form
    have HAT := Lib.hid hTT
    clear hTT hlT
    clear hb yW0 yW1 yW2 yW3 yW4 yW5 yW6 yW7 yW8 yW9 yW10
    obtain ⟨yW0, yW1, yW2, yW3, yW4, yW5, yW6, yW7, yW8, yW9, yW10⟩ := HKW.out _ rWo2
    have ro20 := Below.refl o2.heap.size o2
    go_upto_region 5 with fail
    obtain ⟨VT, eVT⟩ : ∃ E, E = o2.alloc (.cells #[.bool tn, .string tv, .int .i64 tl.op, .string tl.a, .slice qT tl.ks.list.length dT, .int .i64 tc.op, .string tc.a, .slice rT tc.ks.list.length eT, .int .i64 td] 31) := ⟨_, rfl⟩
    have sVT : o2.heap.size < VT.heap.size := by rw [eVT]; simp
    have kVT : Below o2.heap.size o2 VT := by rw [eVT]; ((repeat (first | with_reducible assumption | with_reducible exact Below.refl _ _ | refine Below.setCell ?_ (by (first | omega | (simp; omega) | (simp; done) | fail "sml")) _ | refine Below.drew ?_ | refine Below.alloc ?_ (by (first | omega | (simp; omega) | (simp; done) | fail "sml")) _)); first | done | fail "chs")
    have HCVT := Lib.hid (show VT.cell? ⟨o2.heap.size, 0, none⟩ = some (.bool tn) ∧ VT.cell? ⟨o2.heap.size, 1, none⟩ = some (.string tv) ∧ VT.cell? ⟨o2.heap.size, 2, none⟩ = some (.int .i64 tl.op) ∧ VT.cell? ⟨o2.heap.size, 3, none⟩ = some (.string tl.a) ∧ VT.cell? ⟨o2.heap.size, 4, none⟩ = some (.slice qT tl.ks.list.length dT) ∧ VT.cell? ⟨o2.heap.size, 5, none⟩ = some (.int .i64 tc.op) ∧ VT.cell? ⟨o2.heap.size, 6, none⟩ = some (.string tc.a) ∧ VT.cell? ⟨o2.heap.size, 7, none⟩ = some (.slice rT tc.ks.list.length eT) ∧ VT.cell? ⟨o2.heap.size, 8, none⟩ = some (.int .i64 td) from by rw [eVT]; exact ⟨by simp [go_sem], by simp [go_sem], by simp [go_sem], by simp [go_sem], by simp [go_sem], by simp [go_sem], by simp [go_sem], by simp [go_sem], by simp [go_sem]⟩)
    skip
    rw [← eVT]
    have rwVT := Below.trans (show Below w.heap.size w _ by ((repeat (first | with_reducible assumption | with_reducible exact Below.refl _ _ | refine Below.setCell ?_ (by (first | omega | (simp; omega) | (simp; done) | fail "sml")) _ | refine Below.drew ?_ | refine Below.alloc ?_ (by (first | omega | (simp; omega) | (simp; done) | fail "sml")) _)); first | done | fail "chs")) (kVT.mono (by (first | omega | (simp; omega) | (simp; done) | fail "sml")))
    have ro1VT := Below.trans (show Below o1.heap.size o1 _ by ((repeat (first | with_reducible assumption | with_reducible exact Below.refl _ _ | refine Below.setCell ?_ (by (first | omega | (simp; omega) | (simp; done) | fail "sml")) _ | refine Below.drew ?_ | refine Below.alloc ?_ (by (first | omega | (simp; omega) | (simp; done) | fail "sml")) _)); first | done | fail "chs")) (kVT.mono (by (first | omega | (simp; omega) | (simp; done) | fail "sml")))
    have rWVT := Below.trans (show Below W.heap.size W _ by ((repeat (first | with_reducible assumption | with_reducible exact Below.refl _ _ | refine Below.setCell ?_ (by (first | omega | (simp; omega) | (simp; done) | fail "sml")) _ | refine Below.drew ?_ | refine Below.alloc ?_ (by (first | omega | (simp; omega) | (simp; done) | fail "sml")) _)); first | done | fail "chs")) (kVT.mono (by (first | omega | (simp; omega) | (simp; done) | fail "sml")))
    have ro2VT := Below.trans (show Below o2.heap.size o2 _ by ((repeat (first | with_reducible assumption | with_reducible exact Below.refl _ _ | refine Below.setCell ?_ (by (first | omega | (simp; omega) | (simp; done) | fail "sml")) _ | refine Below.drew ?_ | refine Below.alloc ?_ (by (first | omega | (simp; omega) | (simp; done) | fail "sml")) _)); first | done | fail "chs")) (kVT.mono (by (first | omega | (simp; omega) | (simp; done) | fail "sml")))
    have HKVT := Lib.hid (fun (E : World) (hE : Below VT.heap.size VT E) => (⟨keepc hE sVT HCVT.out.1, keepc hE sVT HCVT.out.2.1, keepc hE sVT HCVT.out.2.2.1, keepc hE sVT HCVT.out.2.2.2.1, keepc hE sVT HCVT.out.2.2.2.2.1, keepc hE sVT HCVT.out.2.2.2.2.2.1, keepc hE sVT HCVT.out.2.2.2.2.2.2.1, keepc hE sVT HCVT.out.2.2.2.2.2.2.2.1, keepc hE sVT HCVT.out.2.2.2.2.2.2.2.2⟩ : E.cell? ⟨o2.heap.size, 0, none⟩ = some (.bool tn) ∧ E.cell? ⟨o2.heap.size, 1, none⟩ = some (.string tv) ∧ E.cell? ⟨o2.heap.size, 2, none⟩ = some (.int .i64 tl.op) ∧ E.cell? ⟨o2.heap.size, 3, none⟩ = some (.string tl.a) ∧ E.cell? ⟨o2.heap.size, 4, none⟩ = some (.slice qT tl.ks.list.length dT) ∧ E.cell? ⟨o2.heap.size, 5, none⟩ = some (.int .i64 tc.op) ∧ E.cell? ⟨o2.heap.size, 6, none⟩ = some (.string tc.a) ∧ E.cell? ⟨o2.heap.size, 7, none⟩ = some (.slice rT tc.ks.list.length eT) ∧ E.cell? ⟨o2.heap.size, 8, none⟩ = some (.int .i64 td)))
    have rVT0 := Below.refl VT.heap.size VT
    obtain ⟨yVT0, yVT1, yVT2, yVT3, yVT4, yVT5, yVT6, yVT7, yVT8⟩ := HKVT.out _ rVT0
    clear eVT kVT
    clear yW0 yW1 yW2 yW3 yW4 yW5 yW6 yW7 yW8 yW9 yW10
    obtain ⟨yW0, yW1, yW2, yW3, yW4, yW5, yW6, yW7, yW8, yW9, yW10⟩ := HKW.out _ rWVT
    go_wp2_with fail
    refine Calls.mono (specTurnElem_to ET EE _ o1.heap.size _ (HAU.out.2.below (show Below o1.heap.size o1 _ by assumption) (Nat.le_refl _)) (show Below o1.heap.size o1 _ by assumption).size hysm) ?_
    rintro en o3 ⟨vQ, FQ, rfl, hTQ, hlQ, hb⟩
    have rwo3 := Below.trans (show Below w.heap.size w _ by assumption) (hb.mono (by omega))
    have zwo3 := rwo3.size
    have ro1o3 := Below.trans (show Below o1.heap.size o1 _ by assumption) (hb.mono (by omega))
    have zo1o3 := ro1o3.size
    have rWo3 := Below.trans (show Below W.heap.size W _ by assumption) (hb.mono (by omega))
    have zWo3 := rWo3.size
    have ro2o3 := Below.trans (show Below o2.heap.size o2 _ by assumption) (hb.mono (by omega))
    have zo2o3 := ro2o3.size
    have rVTo3 := Below.trans (show Below VT.heap.size VT _ by assumption) (hb.mono (by omega))
    have zVTo3 := rVTo3.size
    obtain ⟨qQ, dQ, rQ, eQ, rfl⟩ := hTQ.form
    have HAQ := Lib.hid hTQ
    clear hTQ hlQ
    clear hb yW0 yW1 yW2 yW3 yW4 yW5 yW6 yW7 yW8 yW9 yW10 yVT0 yVT1 yVT2 yVT3 yVT4 yVT5 yVT6 yVT7 yVT8
    obtain ⟨yW0, yW1, yW2, yW3, yW4, yW5, yW6, yW7, yW8, yW9, yW10⟩ := HKW.out _ rWo3
    obtain ⟨yVT0, yVT1, yVT2, yVT3, yVT4, yVT5, yVT6, yVT7, yVT8⟩ := HKVT.out _ rVTo3
    have ro30 := Below.refl o3.heap.size o3
    go_upto_region 6 with fail
    obtain ⟨VQ, eVQ⟩ : ∃ E, E = o3.alloc (.cells #[.bool tn, .string tv, .int .i64 tl.op, .string tl.a, .slice qQ tl.ks.list.length dQ, .int .i64 tc.op, .string tc.a, .slice rQ tc.ks.list.length eQ, .int .i64 td] 31) := ⟨_, rfl⟩
    have sVQ : o3.heap.size < VQ.heap.size := by rw [eVQ]; simp
    have kVQ : Below o3.heap.size o3 VQ := by rw [eVQ]; ((repeat (first | with_reducible assumption | with_reducible exact Below.refl _ _ | refine Below.setCell ?_ (by (first | omega | (simp; omega) | (simp; done) | fail "sml")) _ | refine Below.drew ?_ | refine Below.alloc ?_ (by (first | omega | (simp; omega) | (simp; done) | fail "sml")) _)); first | done | fail "chs")
    have HCVQ := Lib.hid (show VQ.cell? ⟨o3.heap.size, 0, none⟩ = some (.bool tn) ∧ VQ.cell? ⟨o3.heap.size, 1, none⟩ = some (.string tv) ∧ VQ.cell? ⟨o3.heap.size, 2, none⟩ = some (.int .i64 tl.op) ∧ VQ.cell? ⟨o3.heap.size, 3, none⟩ = some (.string tl.a) ∧ VQ.cell? ⟨o3.heap.size, 4, none⟩ = some (.slice qQ tl.ks.list.length dQ) ∧ VQ.cell? ⟨o3.heap.size, 5, none⟩ = some (.int .i64 tc.op) ∧ VQ.cell? ⟨o3.heap.size, 6, none⟩ = some (.string tc.a) ∧ VQ.cell? ⟨o3.heap.size, 7, none⟩ = some (.slice rQ tc.ks.list.length eQ) ∧ VQ.cell? ⟨o3.heap.size, 8, none⟩ = some (.int .i64 td) from by rw [eVQ]; exact ⟨by simp [go_sem], by simp [go_sem], by simp [go_sem], by simp [go_sem], by simp [go_sem], by simp [go_sem], by simp [go_sem], by simp [go_sem], by simp [go_sem]⟩)
    skip
    rw [← eVQ]
    have rwVQ := Below.trans (show Below w.heap.size w _ by ((repeat (first | with_reducible assumption | with_reducible exact Below.refl _ _ | refine Below.setCell ?_ (by (first | omega | (simp; omega) | (simp; done) | fail "sml")) _ | refine Below.drew ?_ | refine Below.alloc ?_ (by (first | omega | (simp; omega) | (simp; done) | fail "sml")) _)); first | done | fail "chs")) (kVQ.mono (by (first | omega | (simp; omega) | (simp; done) | fail "sml")))
    have ro1VQ := Below.trans (show Below o1.heap.size o1 _ by ((repeat (first | with_reducible assumption | with_reducible exact Below.refl _ _ | refine Below.setCell ?_ (by (first | omega | (simp; omega) | (simp; done) | fail "sml")) _ | refine Below.drew ?_ | refine Below.alloc ?_ (by (first | omega | (simp; omega) | (simp; done) | fail "sml")) _)); first | done | fail "chs")) (kVQ.mono (by (first | omega | (simp; omega) | (simp; done) | fail "sml")))
    have rWVQ := Below.trans (show Below W.heap.size W _ by ((repeat (first | with_reducible assumption | with_reducible exact Below.refl _ _ | refine Below.setCell ?_ (by (first | omega | (simp; omega) | (simp; done) | fail "sml")) _ | refine Below.drew ?_ | refine Below.alloc ?_ (by (first | omega | (simp; omega) | (simp; done) | fail "sml")) _)); first | done | fail "chs")) (kVQ.mono (by (first | omega | (simp; omega) | (simp; done) | fail "sml")))
    have ro2VQ := Below.trans (show Below o2.heap.size o2 _ by ((repeat (first | with_reducible assumption | with_reducible exact Below.refl _ _ | refine Below.setCell ?_ (by (first | omega | (simp; omega) | (simp; done) | fail "sml")) _ | refine Below.drew ?_ | refine Below.alloc ?_ (by (first | omega | (simp; omega) | (simp; done) | fail "sml")) _)); first | done | fail "chs")) (kVQ.mono (by (first | omega | (simp; omega) | (simp; done) | fail "sml")))
    have rVTVQ := Below.trans (show Below VT.heap.size VT _ by ((repeat (first | with_reducible assumption | with_reducible exact Below.refl _ _ | refine Below.setCell ?_ (by (first | omega | (simp; omega) | (simp; done) | fail "sml")) _ | refine Below.drew ?_ | refine Below.alloc ?_ (by (first | omega | (simp; omega) | (simp; done) | fail "sml")) _)); first | done | fail "chs")) (kVQ.mono (by (first | omega | (simp; omega) | (simp; done) | fail "sml")))
    have ro3VQ := Below.trans (show Below o3.heap.size o3 _ by ((repeat (first | with_reducible assumption | with_reducible exact Below.refl _ _ | refine Below.setCell ?_ (by (first | omega | (simp; omega) | (simp; done) | fail "sml")) _ | refine Below.drew ?_ | refine Below.alloc ?_ (by (first | omega | (simp; omega) | (simp; done) | fail "sml")) _)); first | done | fail "chs")) (kVQ.mono (by (first | omega | (simp; omega) | (simp; done) | fail "sml")))
    have HKVQ := Lib.hid (fun (E : World) (hE : Below VQ.heap.size VQ E) => (⟨keepc hE sVQ HCVQ.out.1, keepc hE sVQ HCVQ.out.2.1, keepc hE sVQ HCVQ.out.2.2.1, keepc hE sVQ HCVQ.out.2.2.2.1, keepc hE sVQ HCVQ.out.2.2.2.2.1, keepc hE sVQ HCVQ.out.2.2.2.2.2.1, keepc hE sVQ HCVQ.out.2.2.2.2.2.2.1, keepc hE sVQ HCVQ.out.2.2.2.2.2.2.2.1, keepc hE sVQ HCVQ.out.2.2.2.2.2.2.2.2⟩ : E.cell? ⟨o3.heap.size, 0, none⟩ = some (.bool tn) ∧ E.cell? ⟨o3.heap.size, 1, none⟩ = some (.string tv) ∧ E.cell? ⟨o3.heap.size, 2, none⟩ = some (.int .i64 tl.op) ∧ E.cell? ⟨o3.heap.size, 3, none⟩ = some (.string tl.a) ∧ E.cell? ⟨o3.heap.size, 4, none⟩ = some (.slice qQ tl.ks.list.length dQ) ∧ E.cell? ⟨o3.heap.size, 5, none⟩ = some (.int .i64 tc.op) ∧ E.cell? ⟨o3.heap.size, 6, none⟩ = some (.string tc.a) ∧ E.cell? ⟨o3.heap.size, 7, none⟩ = some (.slice rQ tc.ks.list.length eQ) ∧ E.cell? ⟨o3.heap.size, 8, none⟩ = some (.int .i64 td)))
    have rVQ0 := Below.refl VQ.heap.size VQ
    obtain ⟨yVQ0, yVQ1, yVQ2, yVQ3, yVQ4, yVQ5, yVQ6, yVQ7, yVQ8⟩ := HKVQ.out _ rVQ0
    clear eVQ kVQ
    clear yW0 yW1 yW2 yW3 yW4 yW5 yW6 yW7 yW8 yW9 yW10
    obtain ⟨yW0, yW1, yW2, yW3, yW4, yW5, yW6, yW7, yW8, yW9, yW10⟩ := HKW.out _ rWVQ
    clear yVT0 yVT1 yVT2 yVT3 yVT4 yVT5 yVT6 yVT7 yVT8
    obtain ⟨yVT0, yVT1, yVT2, yVT3, yVT4, yVT5, yVT6, yVT7, yVT8⟩ := HKVT.out _ rVTVQ
    go_wp2_with fail
    refine Calls.mono (elemSame_to ((HAT.out.below (show Below o2.heap.size o2 _ by assumption)).liv) ((HAQ.out.below (show Below o3.heap.size o3 _ by assumption)).liv) (Nat.le_refl _) hts) ?_
    rintro en o4 ⟨rfl, hb⟩
    have rwo4 := Below.trans (show Below w.heap.size w _ by assumption) (hb.mono (by omega))
    have zwo4 := rwo4.size
    have ro1o4 := Below.trans (show Below o1.heap.size o1 _ by assumption) (hb.mono (by omega))
    have zo1o4 := ro1o4.size
    have rWo4 := Below.trans (show Below W.heap.size W _ by assumption) (hb.mono (by omega))
    have zWo4 := rWo4.size
    have ro2o4 := Below.trans (show Below o2.heap.size o2 _ by assumption) (hb.mono (by omega))
    have zo2o4 := ro2o4.size
    have rVTo4 := Below.trans (show Below VT.heap.size VT _ by assumption) (hb.mono (by omega))
    have zVTo4 := rVTo4.size
    have ro3o4 := Below.trans (show Below o3.heap.size o3 _ by assumption) (hb.mono (by omega))
    have zo3o4 := ro3o4.size
    have rVQo4 := Below.trans (show Below VQ.heap.size VQ _ by assumption) (hb.mono (by omega))
    have zVQo4 := rVQo4.size
    clear hb yW0 yW1 yW2 yW3 yW4 yW5 yW6 yW7 yW8 yW9 yW10 yVT0 yVT1 yVT2 yVT3 yVT4 yVT5 yVT6 yVT7 yVT8 yVQ0 yVQ1 yVQ2 yVQ3 yVQ4 yVQ5 yVQ6 yVQ7 yVQ8
    obtain ⟨yW0, yW1, yW2, yW3, yW4, yW5, yW6, yW7, yW8, yW9, yW10⟩ := HKW.out _ rWo4
    obtain ⟨yVT0, yVT1, yVT2, yVT3, yVT4, yVT5, yVT6, yVT7, yVT8⟩ := HKVT.out _ rVTo4
    obtain ⟨yVQ0, yVQ1, yVQ2, yVQ3, yVQ4, yVQ5, yVQ6, yVQ7, yVQ8⟩ := HKVQ.out _ rVQo4
    go_wp2_with fail
    cases EG : gv g with
    | false =>
      refine Calls.mono ((turnGraph_any g _ o1.heap.size _ (HAU.out.1.below (show Below o1.heap.size o1 _ by assumption)) (show Below o1.heap.size o1 _ by assumption).size hok)) ?_
      rintro en o5 ⟨vX, FX, GX, hxe, hX, hb⟩
      have rwo5 := Below.trans (show Below w.heap.size w _ by assumption) (hb.mono (by omega))
      have zwo5 := rwo5.size
      have ro1o5 := Below.trans (show Below o1.heap.size o1 _ by assumption) (hb.mono (by omega))
      have zo1o5 := ro1o5.size
      have rWo5 := Below.trans (show Below W.heap.size W _ by assumption) (hb.mono (by omega))
      have zWo5 := rWo5.size
      have ro2o5 := Below.trans (show Below o2.heap.size o2 _ by assumption) (hb.mono (by omega))
      have zo2o5 := ro2o5.size
      have rVTo5 := Below.trans (show Below VT.heap.size VT _ by assumption) (hb.mono (by omega))
      have zVTo5 := rVTo5.size
      have ro3o5 := Below.trans (show Below o3.heap.size o3 _ by assumption) (hb.mono (by omega))
      have zo3o5 := ro3o5.size
      have rVQo5 := Below.trans (show Below VQ.heap.size VQ _ by assumption) (hb.mono (by omega))
      have zVQo5 := rVQo5.size
      rw [EG] at hxe
      subst hxe
      obtain ⟨pX, cX, qX, dX, rfl⟩ := Gr.At.form' hX.at
      have HX := Lib.hid hX.at
      have HXO := Lib.hid hX
      clear hX
      clear hb yW0 yW1 yW2 yW3 yW4 yW5 yW6 yW7 yW8 yW9 yW10 yVT0 yVT1 yVT2 yVT3 yVT4 yVT5 yVT6 yVT7 yVT8 yVQ0 yVQ1 yVQ2 yVQ3 yVQ4 yVQ5 yVQ6 yVQ7 yVQ8
      obtain ⟨yW0, yW1, yW2, yW3, yW4, yW5, yW6, yW7, yW8, yW9, yW10⟩ := HKW.out _ rWo5
      obtain ⟨yVT0, yVT1, yVT2, yVT3, yVT4, yVT5, yVT6, yVT7, yVT8⟩ := HKVT.out _ rVTo5
      obtain ⟨yVQ0, yVQ1, yVQ2, yVQ3, yVQ4, yVQ5, yVQ6, yVQ7, yVQ8⟩ := HKVQ.out _ rVQo5
      have ro50 := Below.refl o5.heap.size o5
      obtain ⟨X, EX⟩ : ∃ X, tgr g = X := ⟨_, rfl⟩
      rw [EX] at HX HXO ⊢
      go_upto_region 9 with fail
      obtain ⟨VX, eVX⟩ : ∃ E, E = o5.alloc (.cells #[.slice pX X.ns.length cX, .slice qX X.es.length dX] 26) := ⟨_, rfl⟩
      have sVX : o5.heap.size < VX.heap.size := by rw [eVX]; simp
      have kVX : Below o5.heap.size o5 VX := by rw [eVX]; ((repeat (first | with_reducible assumption | with_reducible exact Below.refl _ _ | refine Below.setCell ?_ (by (first | omega | (simp; omega) | (simp; done) | fail "sml")) _ | refine Below.drew ?_ | refine Below.alloc ?_ (by (first | omega | (simp; omega) | (simp; done) | fail "sml")) _)); first | done | fail "chs")
      have HCVX := Lib.hid (show VX.cell? ⟨o5.heap.size, 0, none⟩ = some (.slice pX X.ns.length cX) ∧ VX.cell? ⟨o5.heap.size, 1, none⟩ = some (.slice qX X.es.length dX) from by rw [eVX]; exact ⟨by simp [go_sem], by simp [go_sem]⟩)
      skip
      rw [← eVX]
      have rwVX := Below.trans (show Below w.heap.size w _ by ((repeat (first | with_reducible assumption | with_reducible exact Below.refl _ _ | refine Below.setCell ?_ (by (first | omega | (simp; omega) | (simp; done) | fail "sml")) _ | refine Below.drew ?_ | refine Below.alloc ?_ (by (first | omega | (simp; omega) | (simp; done) | fail "sml")) _)); first | done | fail "chs")) (kVX.mono (by (first | omega | (simp; omega) | (simp; done) | fail "sml")))
      have ro1VX := Below.trans (show Below o1.heap.size o1 _ by ((repeat (first | with_reducible assumption | with_reducible exact Below.refl _ _ | refine Below.setCell ?_ (by (first | omega | (simp; omega) | (simp; done) | fail "sml")) _ | refine Below.drew ?_ | refine Below.alloc ?_ (by (first | omega | (simp; omega) | (simp; done) | fail "sml")) _)); first | done | fail "chs")) (kVX.mono (by (first | omega | (simp; omega) | (simp; done) | fail "sml")))
      have rWVX := Below.trans (show Below W.heap.size W _ by ((repeat (first | with_reducible assumption | with_reducible exact Below.refl _ _ | refine Below.setCell ?_ (by (first | omega | (simp; omega) | (simp; done) | fail "sml")) _ | refine Below.drew ?_ | refine Below.alloc ?_ (by (first | omega | (simp; omega) | (simp; done) | fail "sml")) _)); first | done | fail "chs")) (kVX.mono (by (first | omega | (simp; omega) | (simp; done) | fail "sml")))
      have ro2VX := Below.trans (show Below o2.heap.size o2 _ by ((repeat (first | with_reducible assumption | with_reducible exact Below.refl _ _ | refine Below.setCell ?_ (by (first | omega | (simp; omega) | (simp; done) | fail "sml")) _ | refine Below.drew ?_ | refine Below.alloc ?_ (by (first | omega | (simp; omega) | (simp; done) | fail "sml")) _)); first | done | fail "chs")) (kVX.mono (by (first | omega | (simp; omega) | (simp; done) | fail "sml")))
      have rVTVX := Below.trans (show Below VT.heap.size VT _ by ((repeat (first | with_reducible assumption | with_reducible exact Below.refl _ _ | refine Below.setCell ?_ (by (first | omega | (simp; omega) | (simp; done) | fail "sml")) _ | refine Below.drew ?_ | refine Below.alloc ?_ (by (first | omega | (simp; omega) | (simp; done) | fail "sml")) _)); first | done | fail "chs")) (kVX.mono (by (first | omega | (simp; omega) | (simp; done) | fail "sml")))
      have ro3VX := Below.trans (show Below o3.heap.size o3 _ by ((repeat (first | with_reducible assumption | with_reducible exact Below.refl _ _ | refine Below.setCell ?_ (by (first | omega | (simp; omega) | (simp; done) | fail "sml")) _ | refine Below.drew ?_ | refine Below.alloc ?_ (by (first | omega | (simp; omega) | (simp; done) | fail "sml")) _)); first | done | fail "chs")) (kVX.mono (by (first | omega | (simp; omega) | (simp; done) | fail "sml")))
      have rVQVX := Below.trans (show Below VQ.heap.size VQ _ by ((repeat (first | with_reducible assumption | with_reducible exact Below.refl _ _ | refine Below.setCell ?_ (by (first | omega | (simp; omega) | (simp; done) | fail "sml")) _ | refine Below.drew ?_ | refine Below.alloc ?_ (by (first | omega | (simp; omega) | (simp; done) | fail "sml")) _)); first | done | fail "chs")) (kVX.mono (by (first | omega | (simp; omega) | (simp; done) | fail "sml")))
      have ro5VX := Below.trans (show Below o5.heap.size o5 _ by ((repeat (first | with_reducible assumption | with_reducible exact Below.refl _ _ | refine Below.setCell ?_ (by (first | omega | (simp; omega) | (simp; done) | fail "sml")) _ | refine Below.drew ?_ | refine Below.alloc ?_ (by (first | omega | (simp; omega) | (simp; done) | fail "sml")) _)); first | done | fail "chs")) (kVX.mono (by (first | omega | (simp; omega) | (simp; done) | fail "sml")))
      have HKVX := Lib.hid (fun (E : World) (hE : Below VX.heap.size VX E) => (⟨keepc hE sVX HCVX.out.1, keepc hE sVX HCVX.out.2⟩ : E.cell? ⟨o5.heap.size, 0, none⟩ = some (.slice pX X.ns.length cX) ∧ E.cell? ⟨o5.heap.size, 1, none⟩ = some (.slice qX X.es.length dX)))
      have rVX0 := Below.refl VX.heap.size VX
      obtain ⟨yVX0, yVX1⟩ := HKVX.out _ rVX0
      clear eVX kVX
      clear yW0 yW1 yW2 yW3 yW4 yW5 yW6 yW7 yW8 yW9 yW10
      obtain ⟨yW0, yW1, yW2, yW3, yW4, yW5, yW6, yW7, yW8, yW9, yW10⟩ := HKW.out _ rWVX
      clear yVT0 yVT1 yVT2 yVT3 yVT4 yVT5 yVT6 yVT7 yVT8
      obtain ⟨yVT0, yVT1, yVT2, yVT3, yVT4, yVT5, yVT6, yVT7, yVT8⟩ := HKVT.out _ rVTVX
      clear yVQ0 yVQ1 yVQ2 yVQ3 yVQ4 yVQ5 yVQ6 yVQ7 yVQ8
      obtain ⟨yVQ0, yVQ1, yVQ2, yVQ3, yVQ4, yVQ5, yVQ6, yVQ7, yVQ8⟩ := HKVQ.out _ rVQVX
      have KS := Lib.hid (fun (E : World) (hE : Below VX.heap.size VX E) => (⟨(HKW.out _ (rWVX.trans (hE.mono rWVX.size))).1, (HKW.out _ (rWVX.trans (hE.mono rWVX.size))).2.1, (HKW.out _ (rWVX.trans (hE.mono rWVX.size))).2.2.1, (HKW.out _ (rWVX.trans (hE.mono rWVX.size))).2.2.2.1, (HKW.out _ (rWVX.trans (hE.mono rWVX.size))).2.2.2.2.1, (HKW.out _ (rWVX.trans (hE.mono rWVX.size))).2.2.2.2.2.1, (HKW.out _ (rWVX.trans (hE.mono rWVX.size))).2.2.2.2.2.2.1, (HKW.out _ (rWVX.trans (hE.mono rWVX.size))).2.2.2.2.2.2.2.1, (HKW.out _ (rWVX.trans (hE.mono rWVX.size))).2.2.2.2.2.2.2.2.1, (HKW.out _ (rWVX.trans (hE.mono rWVX.size))).2.2.2.2.2.2.2.2.2.1, (HKW.out _ (rWVX.trans (hE.mono rWVX.size))).2.2.2.2.2.2.2.2.2.2, (HKVT.out _ (rVTVX.trans (hE.mono rVTVX.size))).1, (HKVT.out _ (rVTVX.trans (hE.mono rVTVX.size))).2.1, (HKVT.out _ (rVTVX.trans (hE.mono rVTVX.size))).2.2.1, (HKVT.out _ (rVTVX.trans (hE.mono rVTVX.size))).2.2.2.1, (HKVT.out _ (rVTVX.trans (hE.mono rVTVX.size))).2.2.2.2.1, (HKVT.out _ (rVTVX.trans (hE.mono rVTVX.size))).2.2.2.2.2.1, (HKVT.out _ (rVTVX.trans (hE.mono rVTVX.size))).2.2.2.2.2.2.1, (HKVT.out _ (rVTVX.trans (hE.mono rVTVX.size))).2.2.2.2.2.2.2.1, (HKVT.out _ (rVTVX.trans (hE.mono rVTVX.size))).2.2.2.2.2.2.2.2, (HKVX.out _ hE).1, (HKVX.out _ hE).2⟩ : E.cell? ⟨o1.heap.size, 0, none⟩ = some (.slice pg g.ns.length cg) ∧ E.cell? ⟨o1.heap.size, 1, none⟩ = some (.slice qg g.es.length dg) ∧ E.cell? ⟨o1.heap.size + 1, 0, none⟩ = some (.bool yn) ∧ E.cell? ⟨o1.heap.size + 1, 1, none⟩ = some (.string yv) ∧ E.cell? ⟨o1.heap.size + 1, 2, none⟩ = some (.int .i64 yl.op) ∧ E.cell? ⟨o1.heap.size + 1, 3, none⟩ = some (.string yl.a) ∧ E.cell? ⟨o1.heap.size + 1, 4, none⟩ = some (.slice p yl.ks.list.length c) ∧ E.cell? ⟨o1.heap.size + 1, 5, none⟩ = some (.int .i64 yc.op) ∧ E.cell? ⟨o1.heap.size + 1, 6, none⟩ = some (.string yc.a) ∧ E.cell? ⟨o1.heap.size + 1, 7, none⟩ = some (.slice p' yc.ks.list.length c') ∧ E.cell? ⟨o1.heap.size + 1, 8, none⟩ = some (.int .i64 yd) ∧ E.cell? ⟨o2.heap.size, 0, none⟩ = some (.bool tn) ∧ E.cell? ⟨o2.heap.size, 1, none⟩ = some (.string tv) ∧ E.cell? ⟨o2.heap.size, 2, none⟩ = some (.int .i64 tl.op) ∧ E.cell? ⟨o2.heap.size, 3, none⟩ = some (.string tl.a) ∧ E.cell? ⟨o2.heap.size, 4, none⟩ = some (.slice qT tl.ks.list.length dT) ∧ E.cell? ⟨o2.heap.size, 5, none⟩ = some (.int .i64 tc.op) ∧ E.cell? ⟨o2.heap.size, 6, none⟩ = some (.string tc.a) ∧ E.cell? ⟨o2.heap.size, 7, none⟩ = some (.slice rT tc.ks.list.length eT) ∧ E.cell? ⟨o2.heap.size, 8, none⟩ = some (.int .i64 td) ∧ E.cell? ⟨o5.heap.size, 0, none⟩ = some (.slice pX X.ns.length cX) ∧ E.cell? ⟨o5.heap.size, 1, none⟩ = some (.slice qX X.es.length dX)))
      go_upto_region 9 with fail
      refine wp_region_held_drew (S := fun w' => w'.cell? ⟨o1.heap.size, 0, none⟩ = some (.slice pg g.ns.length cg) ∧ w'.cell? ⟨o1.heap.size, 1, none⟩ = some (.slice qg g.es.length dg) ∧ w'.cell? ⟨o1.heap.size + 1, 0, none⟩ = some (.bool yn) ∧ w'.cell? ⟨o1.heap.size + 1, 1, none⟩ = some (.string yv) ∧ w'.cell? ⟨o1.heap.size + 1, 2, none⟩ = some (.int .i64 yl.op) ∧ w'.cell? ⟨o1.heap.size + 1, 3, none⟩ = some (.string yl.a) ∧ w'.cell? ⟨o1.heap.size + 1, 4, none⟩ = some (.slice p yl.ks.list.length c) ∧ w'.cell? ⟨o1.heap.size + 1, 5, none⟩ = some (.int .i64 yc.op) ∧ w'.cell? ⟨o1.heap.size + 1, 6, none⟩ = some (.string yc.a) ∧ w'.cell? ⟨o1.heap.size + 1, 7, none⟩ = some (.slice p' yc.ks.list.length c') ∧ w'.cell? ⟨o1.heap.size + 1, 8, none⟩ = some (.int .i64 yd) ∧ w'.cell? ⟨o2.heap.size, 0, none⟩ = some (.bool tn) ∧ w'.cell? ⟨o2.heap.size, 1, none⟩ = some (.string tv) ∧ w'.cell? ⟨o2.heap.size, 2, none⟩ = some (.int .i64 tl.op) ∧ w'.cell? ⟨o2.heap.size, 3, none⟩ = some (.string tl.a) ∧ w'.cell? ⟨o2.heap.size, 4, none⟩ = some (.slice qT tl.ks.list.length dT) ∧ w'.cell? ⟨o2.heap.size, 5, none⟩ = some (.int .i64 tc.op) ∧ w'.cell? ⟨o2.heap.size, 6, none⟩ = some (.string tc.a) ∧ w'.cell? ⟨o2.heap.size, 7, none⟩ = some (.slice rT tc.ks.list.length eT) ∧ w'.cell? ⟨o2.heap.size, 8, none⟩ = some (.int .i64 td) ∧ w'.cell? ⟨o5.heap.size, 0, none⟩ = some (.slice pX X.ns.length cX) ∧ w'.cell? ⟨o5.heap.size, 1, none⟩ = some (.slice qX X.es.length dX)) (by kernel_rfl) ?_ (fun hHeld => ?_)
      · exact KS.out _ (show Below VX.heap.size VX _ by ((repeat (first | with_reducible assumption | with_reducible exact Below.refl _ _ | refine Below.setCell ?_ (by (first | omega | (simp; omega) | (simp; done) | fail "sml")) _ | refine Below.drew ?_ | refine Below.alloc ?_ (by (first | omega | (simp; omega) | (simp; done) | fail "sml")) _)); first | done | fail "chs"))
      (refine takeL (i := 0) (v := ?_) rfl (by kernel_rfl) (by kernel_rfl) (by kernel_rfl) (fun _ _ _ h => h) (Or.inl ⟨by kernel_rfl, ?_⟩) (by assumption) ?_; rotate_left; (focus (intro w hSw; (try dsimp only at hSw); go_simp; first | done | with_reducible rfl | fail "take")); (try simp only [Act.put, List.setIfInBounds_toArray, List.set_cons_zero, List.set_cons_succ]))
      (refine takeL (i := 1) (v := ?_) rfl (by kernel_rfl) (by kernel_rfl) (by kernel_rfl) (fun _ _ _ h => h) (Or.inl ⟨by kernel_rfl, ?_⟩) (by assumption) ?_; rotate_left; (focus (intro w hSw; (try dsimp only at hSw); go_simp; first | done | with_reducible rfl | fail "take")); (try simp only [Act.put, List.setIfInBounds_toArray, List.set_cons_zero, List.set_cons_succ]))
      (refine takeL (i := 2) (v := ?_) rfl (by kernel_rfl) (by kernel_rfl) (by kernel_rfl) (fun _ _ _ h => h) (Or.inl ⟨by kernel_rfl, ?_⟩) (by assumption) ?_; rotate_left; (focus (intro w hSw; (try dsimp only at hSw); go_simp; first | done | with_reducible rfl | fail "take")); (try simp only [Act.put, List.setIfInBounds_toArray, List.set_cons_zero, List.set_cons_succ]))
      (refine takeL (i := 3) (v := undef) rfl (by kernel_rfl) (by kernel_rfl) (by kernel_rfl) (fun _ _ _ h => h) (Or.inr ⟨by kernel_rfl, rfl⟩) (by assumption) ?_; (try simp only [Act.put, List.setIfInBounds_toArray, List.set_cons_zero, List.set_cons_succ]))
      (refine takeL (i := 4) (v := undef) rfl (by kernel_rfl) (by kernel_rfl) (by kernel_rfl) (fun _ _ _ h => h) (Or.inr ⟨by kernel_rfl, rfl⟩) (by assumption) ?_; (try simp only [Act.put, List.setIfInBounds_toArray, List.set_cons_zero, List.set_cons_succ]))
      (refine takeL (i := 5) (v := undef) rfl (by kernel_rfl) (by kernel_rfl) (by kernel_rfl) (fun _ _ _ h => h) (Or.inr ⟨by kernel_rfl, rfl⟩) (by assumption) ?_; (try simp only [Act.put, List.setIfInBounds_toArray, List.set_cons_zero, List.set_cons_succ]))
      (refine takeL (i := 6) (v := undef) rfl (by kernel_rfl) (by kernel_rfl) (by kernel_rfl) (fun _ _ _ h => h) (Or.inr ⟨by kernel_rfl, rfl⟩) (by assumption) ?_; (try simp only [Act.put, List.setIfInBounds_toArray, List.set_cons_zero, List.set_cons_succ]))
      (refine takeL (i := 7) (v := undef) rfl (by kernel_rfl) (by kernel_rfl) (by kernel_rfl) (fun _ _ _ h => h) (Or.inr ⟨by kernel_rfl, rfl⟩) (by assumption) ?_; (try simp only [Act.put, List.setIfInBounds_toArray, List.set_cons_zero, List.set_cons_succ]))
      (refine takeL (i := 8) (v := undef) rfl (by kernel_rfl) (by kernel_rfl) (by kernel_rfl) (fun _ _ _ h => h) (Or.inr ⟨by kernel_rfl, rfl⟩) (by assumption) ?_; (try simp only [Act.put, List.setIfInBounds_toArray, List.set_cons_zero, List.set_cons_succ]))
      (refine takeL (i := 9) (v := undef) rfl (by kernel_rfl) (by kernel_rfl) (by kernel_rfl) (fun _ _ _ h => h) (Or.inr ⟨by kernel_rfl, rfl⟩) (by assumption) ?_; (try simp only [Act.put, List.setIfInBounds_toArray, List.set_cons_zero, List.set_cons_succ]))
      (refine takeL (i := 10) (v := undef) rfl (by kernel_rfl) (by kernel_rfl) (by kernel_rfl) (fun _ _ _ h => h) (Or.inr ⟨by kernel_rfl, rfl⟩) (by assumption) ?_; (try simp only [Act.put, List.setIfInBounds_toArray, List.set_cons_zero, List.set_cons_succ]))
      (refine takeL (i := 11) (v := undef) rfl (by kernel_rfl) (by kernel_rfl) (by kernel_rfl) (fun _ _ _ h => h) (Or.inr ⟨by kernel_rfl, rfl⟩) (by assumption) ?_; (try simp only [Act.put, List.setIfInBounds_toArray, List.set_cons_zero, List.set_cons_succ]))
      (refine takeL (i := 12) (v := ?_) rfl (by kernel_rfl) (by kernel_rfl) (by kernel_rfl) (fun _ _ _ h => h) (Or.inl ⟨by kernel_rfl, ?_⟩) (by assumption) ?_; rotate_left; (focus (intro w hSw; (try dsimp only at hSw); go_simp; first | done | with_reducible rfl | fail "take")); (try simp only [Act.put, List.setIfInBounds_toArray, List.set_cons_zero, List.set_cons_succ]))
      (refine takeL (i := 13) (v := ?_) rfl (by kernel_rfl) (by kernel_rfl) (by kernel_rfl) (fun _ _ _ h => h) (Or.inl ⟨by kernel_rfl, ?_⟩) (by assumption) ?_; rotate_left; (focus (intro w hSw; (try dsimp only at hSw); go_simp; first | done | with_reducible rfl | fail "take")); (try simp only [Act.put, List.setIfInBounds_toArray, List.set_cons_zero, List.set_cons_succ]))
      refine wpAnyH_done (by kernel_rfl) ?_ _
      go_wp2_with fail
      go_ret
      exact ⟨rfl, rwVX.trans ((show Below VX.heap.size VX _ by ((repeat (first | with_reducible assumption | with_reducible exact Below.refl _ _ | refine Below.setCell ?_ (by (first | omega | (simp; omega) | (simp; done) | fail "sml")) _ | refine Below.drew ?_ | refine Below.alloc ?_ (by (first | omega | (simp; omega) | (simp; done) | fail "sml")) _)); first | done | fail "chs")).mono rwVX.size)⟩
    | true =>
      refine Calls.mono ((turnGraph_any g _ o1.heap.size _ (HAU.out.1.below (show Below o1.heap.size o1 _ by assumption)) (show Below o1.heap.size o1 _ by assumption).size hok)) ?_
      rintro en o5 ⟨vX, FX, GX, hxe, hX, hb⟩
      have rwo5 := Below.trans (show Below w.heap.size w _ by assumption) (hb.mono (by omega))
      have zwo5 := rwo5.size
      have ro1o5 := Below.trans (show Below o1.heap.size o1 _ by assumption) (hb.mono (by omega))
      have zo1o5 := ro1o5.size
      have rWo5 := Below.trans (show Below W.heap.size W _ by assumption) (hb.mono (by omega))
      have zWo5 := rWo5.size
      have ro2o5 := Below.trans (show Below o2.heap.size o2 _ by assumption) (hb.mono (by omega))
      have zo2o5 := ro2o5.size
      have rVTo5 := Below.trans (show Below VT.heap.size VT _ by assumption) (hb.mono (by omega))
      have zVTo5 := rVTo5.size
      have ro3o5 := Below.trans (show Below o3.heap.size o3 _ by assumption) (hb.mono (by omega))
      have zo3o5 := ro3o5.size
      have rVQo5 := Below.trans (show Below VQ.heap.size VQ _ by assumption) (hb.mono (by omega))
      have zVQo5 := rVQo5.size
      rw [EG] at hxe
      subst hxe
      obtain ⟨pX, cX, qX, dX, rfl⟩ := Gr.At.form' hX.at
      have HX := Lib.hid hX.at
      have HXO := Lib.hid hX
      clear hX
      clear hb yW0 yW1 yW2 yW3 yW4 yW5 yW6 yW7 yW8 yW9 yW10 yVT0 yVT1 yVT2 yVT3 yVT4 yVT5 yVT6 yVT7 yVT8 yVQ0 yVQ1 yVQ2 yVQ3 yVQ4 yVQ5 yVQ6 yVQ7 yVQ8
      obtain ⟨yW0, yW1, yW2, yW3, yW4, yW5, yW6, yW7, yW8, yW9, yW10⟩ := HKW.out _ rWo5
      obtain ⟨yVT0, yVT1, yVT2, yVT3, yVT4, yVT5, yVT6, yVT7, yVT8⟩ := HKVT.out _ rVTo5
      obtain ⟨yVQ0, yVQ1, yVQ2, yVQ3, yVQ4, yVQ5, yVQ6, yVQ7, yVQ8⟩ := HKVQ.out _ rVQo5
      have ro50 := Below.refl o5.heap.size o5
      obtain ⟨X, EX⟩ : ∃ X, tgr g = X := ⟨_, rfl⟩
      rw [EX] at HX HXO ⊢
      go_upto_region 9 with fail
      obtain ⟨VX, eVX⟩ : ∃ E, E = o5.alloc (.cells #[.slice pX X.ns.length cX, .slice qX X.es.length dX] 26) := ⟨_, rfl⟩
      have sVX : o5.heap.size < VX.heap.size := by rw [eVX]; simp
      have kVX : Below o5.heap.size o5 VX := by rw [eVX]; ((repeat (first | with_reducible assumption | with_reducible exact Below.refl _ _ | refine Below.setCell ?_ (by (first | omega | (simp; omega) | (simp; done) | fail "sml")) _ | refine Below.drew ?_ | refine Below.alloc ?_ (by (first | omega | (simp; omega) | (simp; done) | fail "sml")) _)); first | done | fail "chs")
      have HCVX := Lib.hid (show VX.cell? ⟨o5.heap.size, 0, none⟩ = some (.slice pX X.ns.length cX) ∧ VX.cell? ⟨o5.heap.size, 1, none⟩ = some (.slice qX X.es.length dX) from by rw [eVX]; exact ⟨by simp [go_sem], by simp [go_sem]⟩)
      skip
      rw [← eVX]
      have rwVX := Below.trans (show Below w.heap.size w _ by ((repeat (first | with_reducible assumption | with_reducible exact Below.refl _ _ | refine Below.setCell ?_ (by (first | omega | (simp; omega) | (simp; done) | fail "sml")) _ | refine Below.drew ?_ | refine Below.alloc ?_ (by (first | omega | (simp; omega) | (simp; done) | fail "sml")) _)); first | done | fail "chs")) (kVX.mono (by (first | omega | (simp; omega) | (simp; done) | fail "sml")))
      have ro1VX := Below.trans (show Below o1.heap.size o1 _ by ((repeat (first | with_reducible assumption | with_reducible exact Below.refl _ _ | refine Below.setCell ?_ (by (first | omega | (simp; omega) | (simp; done) | fail "sml")) _ | refine Below.drew ?_ | refine Below.alloc ?_ (by (first | omega | (simp; omega) | (simp; done) | fail "sml")) _)); first | done | fail "chs")) (kVX.mono (by (first | omega | (simp; omega) | (simp; done) | fail "sml")))
      have rWVX := Below.trans (show Below W.heap.size W _ by ((repeat (first | with_reducible assumption | with_reducible exact Below.refl _ _ | refine Below.setCell ?_ (by (first | omega | (simp; omega) | (simp; done) | fail "sml")) _ | refine Below.drew ?_ | refine Below.alloc ?_ (by (first | omega | (simp; omega) | (simp; done) | fail "sml")) _)); first | done | fail "chs")) (kVX.mono (by (first | omega | (simp; omega) | (simp; done) | fail "sml")))
      have ro2VX := Below.trans (show Below o2.heap.size o2 _ by ((repeat (first | with_reducible assumption | with_reducible exact Below.refl _ _ | refine Below.setCell ?_ (by (first | omega | (simp; omega) | (simp; done) | fail "sml")) _ | refine Below.drew ?_ | refine Below.alloc ?_ (by (first | omega | (simp; omega) | (simp; done) | fail "sml")) _)); first | done | fail "chs")) (kVX.mono (by (first | omega | (simp; omega) | (simp; done) | fail "sml")))
      have rVTVX := Below.trans (show Below VT.heap.size VT _ by ((repeat (first | with_reducible assumption | with_reducible exact Below.refl _ _ | refine Below.setCell ?_ (by (first | omega | (simp; omega) | (simp; done) | fail "sml")) _ | refine Below.drew ?_ | refine Below.alloc ?_ (by (first | omega | (simp; omega) | (simp; done) | fail "sml")) _)); first | done | fail "chs")) (kVX.mono (by (first | omega | (simp; omega) | (simp; done) | fail "sml")))
      have ro3VX := Below.trans (show Below o3.heap.size o3 _ by ((repeat (first | with_reducible assumption | with_reducible exact Below.refl _ _ | refine Below.setCell ?_ (by (first | omega | (simp; omega) | (simp; done) | fail "sml")) _ | refine Below.drew ?_ | refine Below.alloc ?_ (by (first | omega | (simp; omega) | (simp; done) | fail "sml")) _)); first | done | fail "chs")) (kVX.mono (by (first | omega | (simp; omega) | (simp; done) | fail "sml")))
      have rVQVX := Below.trans (show Below VQ.heap.size VQ _ by ((repeat (first | with_reducible assumption | with_reducible exact Below.refl _ _ | refine Below.setCell ?_ (by (first | omega | (simp; omega) | (simp; done) | fail "sml")) _ | refine Below.drew ?_ | refine Below.alloc ?_ (by (first | omega | (simp; omega) | (simp; done) | fail "sml")) _)); first | done | fail "chs")) (kVX.mono (by (first | omega | (simp; omega) | (simp; done) | fail "sml")))
      have ro5VX := Below.trans (show Below o5.heap.size o5 _ by ((repeat (first | with_reducible assumption | with_reducible exact Below.refl _ _ | refine Below.setCell ?_ (by (first | omega | (simp; omega) | (simp; done) | fail "sml")) _ | refine Below.drew ?_ | refine Below.alloc ?_ (by (first | omega | (simp; omega) | (simp; done) | fail "sml")) _)); first | done | fail "chs")) (kVX.mono (by (first | omega | (simp; omega) | (simp; done) | fail "sml")))
      have HKVX := Lib.hid (fun (E : World) (hE : Below VX.heap.size VX E) => (⟨keepc hE sVX HCVX.out.1, keepc hE sVX HCVX.out.2⟩ : E.cell? ⟨o5.heap.size, 0, none⟩ = some (.slice pX X.ns.length cX) ∧ E.cell? ⟨o5.heap.size, 1, none⟩ = some (.slice qX X.es.length dX)))
      have rVX0 := Below.refl VX.heap.size VX
      obtain ⟨yVX0, yVX1⟩ := HKVX.out _ rVX0
      clear eVX kVX
      clear yW0 yW1 yW2 yW3 yW4 yW5 yW6 yW7 yW8 yW9 yW10
      obtain ⟨yW0, yW1, yW2, yW3, yW4, yW5, yW6, yW7, yW8, yW9, yW10⟩ := HKW.out _ rWVX
      clear yVT0 yVT1 yVT2 yVT3 yVT4 yVT5 yVT6 yVT7 yVT8
      obtain ⟨yVT0, yVT1, yVT2, yVT3, yVT4, yVT5, yVT6, yVT7, yVT8⟩ := HKVT.out _ rVTVX
      clear yVQ0 yVQ1 yVQ2 yVQ3 yVQ4 yVQ5 yVQ6 yVQ7 yVQ8
      obtain ⟨yVQ0, yVQ1, yVQ2, yVQ3, yVQ4, yVQ5, yVQ6, yVQ7, yVQ8⟩ := HKVQ.out _ rVQVX
      have KS := Lib.hid (fun (E : World) (hE : Below VX.heap.size VX E) => (⟨(HKW.out _ (rWVX.trans (hE.mono rWVX.size))).1, (HKW.out _ (rWVX.trans (hE.mono rWVX.size))).2.1, (HKW.out _ (rWVX.trans (hE.mono rWVX.size))).2.2.1, (HKW.out _ (rWVX.trans (hE.mono rWVX.size))).2.2.2.1, (HKW.out _ (rWVX.trans (hE.mono rWVX.size))).2.2.2.2.1, (HKW.out _ (rWVX.trans (hE.mono rWVX.size))).2.2.2.2.2.1, (HKW.out _ (rWVX.trans (hE.mono rWVX.size))).2.2.2.2.2.2.1, (HKW.out _ (rWVX.trans (hE.mono rWVX.size))).2.2.2.2.2.2.2.1, (HKW.out _ (rWVX.trans (hE.mono rWVX.size))).2.2.2.2.2.2.2.2.1, (HKW.out _ (rWVX.trans (hE.mono rWVX.size))).2.2.2.2.2.2.2.2.2.1, (HKW.out _ (rWVX.trans (hE.mono rWVX.size))).2.2.2.2.2.2.2.2.2.2, (HKVT.out _ (rVTVX.trans (hE.mono rVTVX.size))).1, (HKVT.out _ (rVTVX.trans (hE.mono rVTVX.size))).2.1, (HKVT.out _ (rVTVX.trans (hE.mono rVTVX.size))).2.2.1, (HKVT.out _ (rVTVX.trans (hE.mono rVTVX.size))).2.2.2.1, (HKVT.out _ (rVTVX.trans (hE.mono rVTVX.size))).2.2.2.2.1, (HKVT.out _ (rVTVX.trans (hE.mono rVTVX.size))).2.2.2.2.2.1, (HKVT.out _ (rVTVX.trans (hE.mono rVTVX.size))).2.2.2.2.2.2.1, (HKVT.out _ (rVTVX.trans (hE.mono rVTVX.size))).2.2.2.2.2.2.2.1, (HKVT.out _ (rVTVX.trans (hE.mono rVTVX.size))).2.2.2.2.2.2.2.2, (HKVX.out _ hE).1, (HKVX.out _ hE).2⟩ : E.cell? ⟨o1.heap.size, 0, none⟩ = some (.slice pg g.ns.length cg) ∧ E.cell? ⟨o1.heap.size, 1, none⟩ = some (.slice qg g.es.length dg) ∧ E.cell? ⟨o1.heap.size + 1, 0, none⟩ = some (.bool yn) ∧ E.cell? ⟨o1.heap.size + 1, 1, none⟩ = some (.string yv) ∧ E.cell? ⟨o1.heap.size + 1, 2, none⟩ = some (.int .i64 yl.op) ∧ E.cell? ⟨o1.heap.size + 1, 3, none⟩ = some (.string yl.a) ∧ E.cell? ⟨o1.heap.size + 1, 4, none⟩ = some (.slice p yl.ks.list.length c) ∧ E.cell? ⟨o1.heap.size + 1, 5, none⟩ = some (.int .i64 yc.op) ∧ E.cell? ⟨o1.heap.size + 1, 6, none⟩ = some (.string yc.a) ∧ E.cell? ⟨o1.heap.size + 1, 7, none⟩ = some (.slice p' yc.ks.list.length c') ∧ E.cell? ⟨o1.heap.size + 1, 8, none⟩ = some (.int .i64 yd) ∧ E.cell? ⟨o2.heap.size, 0, none⟩ = some (.bool tn) ∧ E.cell? ⟨o2.heap.size, 1, none⟩ = some (.string tv) ∧ E.cell? ⟨o2.heap.size, 2, none⟩ = some (.int .i64 tl.op) ∧ E.cell? ⟨o2.heap.size, 3, none⟩ = some (.string tl.a) ∧ E.cell? ⟨o2.heap.size, 4, none⟩ = some (.slice qT tl.ks.list.length dT) ∧ E.cell? ⟨o2.heap.size, 5, none⟩ = some (.int .i64 tc.op) ∧ E.cell? ⟨o2.heap.size, 6, none⟩ = some (.string tc.a) ∧ E.cell? ⟨o2.heap.size, 7, none⟩ = some (.slice rT tc.ks.list.length eT) ∧ E.cell? ⟨o2.heap.size, 8, none⟩ = some (.int .i64 td) ∧ E.cell? ⟨o5.heap.size, 0, none⟩ = some (.slice pX X.ns.length cX) ∧ E.cell? ⟨o5.heap.size, 1, none⟩ = some (.slice qX X.es.length dX)))
      obtain ⟨R, ER⟩ : ∃ R, hopsR g n (⟨tn, tv, tl, tc, td⟩ : El) = R := ⟨_, rfl⟩
      have ER2 : hopsR X n (⟨yn, yv, yl, yc, yd⟩ : El) = R := by rw [← EX, ← hopsR_turn EG EE, ET]; exact ER
      have hXok : X.Ok := by rw [← EX]; exact tgr_ok EG hok
      have htsm : (⟨tn, tv, tl, tc, td⟩ : El).Sm := by rw [← ET]; exact turnR_sm EE hysm
      go_upto_region 9 with fail
      refine wp_region_held_drew (S := fun w' => w'.cell? ⟨o1.heap.size, 0, none⟩ = some (.slice pg g.ns.length cg) ∧ w'.cell? ⟨o1.heap.size, 1, none⟩ = some (.slice qg g.es.length dg) ∧ w'.cell? ⟨o1.heap.size + 1, 0, none⟩ = some (.bool yn) ∧ w'.cell? ⟨o1.heap.size + 1, 1, none⟩ = some (.string yv) ∧ w'.cell? ⟨o1.heap.size + 1, 2, none⟩ = some (.int .i64 yl.op) ∧ w'.cell? ⟨o1.heap.size + 1, 3, none⟩ = some (.string yl.a) ∧ w'.cell? ⟨o1.heap.size + 1, 4, none⟩ = some (.slice p yl.ks.list.length c) ∧ w'.cell? ⟨o1.heap.size + 1, 5, none⟩ = some (.int .i64 yc.op) ∧ w'.cell? ⟨o1.heap.size + 1, 6, none⟩ = some (.string yc.a) ∧ w'.cell? ⟨o1.heap.size + 1, 7, none⟩ = some (.slice p' yc.ks.list.length c') ∧ w'.cell? ⟨o1.heap.size + 1, 8, none⟩ = some (.int .i64 yd) ∧ w'.cell? ⟨o2.heap.size, 0, none⟩ = some (.bool tn) ∧ w'.cell? ⟨o2.heap.size, 1, none⟩ = some (.string tv) ∧ w'.cell? ⟨o2.heap.size, 2, none⟩ = some (.int .i64 tl.op) ∧ w'.cell? ⟨o2.heap.size, 3, none⟩ = some (.string tl.a) ∧ w'.cell? ⟨o2.heap.size, 4, none⟩ = some (.slice qT tl.ks.list.length dT) ∧ w'.cell? ⟨o2.heap.size, 5, none⟩ = some (.int .i64 tc.op) ∧ w'.cell? ⟨o2.heap.size, 6, none⟩ = some (.string tc.a) ∧ w'.cell? ⟨o2.heap.size, 7, none⟩ = some (.slice rT tc.ks.list.length eT) ∧ w'.cell? ⟨o2.heap.size, 8, none⟩ = some (.int .i64 td) ∧ w'.cell? ⟨o5.heap.size, 0, none⟩ = some (.slice pX X.ns.length cX) ∧ w'.cell? ⟨o5.heap.size, 1, none⟩ = some (.slice qX X.es.length dX)) (by kernel_rfl) ?_ (fun hHeld => ?_)
      · exact KS.out _ (show Below VX.heap.size VX _ by ((repeat (first | with_reducible assumption | with_reducible exact Below.refl _ _ | refine Below.setCell ?_ (by (first | omega | (simp; omega) | (simp; done) | fail "sml")) _ | refine Below.drew ?_ | refine Below.alloc ?_ (by (first | omega | (simp; omega) | (simp; done) | fail "sml")) _)); first | done | fail "chs"))
      (refine takeL (i := 0) (v := ?_) rfl (by kernel_rfl) (by kernel_rfl) (by kernel_rfl) (fun _ _ _ h => h) (Or.inl ⟨by kernel_rfl, ?_⟩) (by assumption) ?_; rotate_left; (focus (intro w hSw; (try dsimp only at hSw); go_simp; first | done | with_reducible rfl | fail "take")); (try simp only [Act.put, List.setIfInBounds_toArray, List.set_cons_zero, List.set_cons_succ]))
      (refine takeL (i := 1) (v := ?_) rfl (by kernel_rfl) (by kernel_rfl) (by kernel_rfl) (fun _ _ _ h => h) (Or.inl ⟨by kernel_rfl, ?_⟩) (by assumption) ?_; rotate_left; (focus (intro w hSw; (try dsimp only at hSw); go_simp; first | done | with_reducible rfl | fail "take")); (try simp only [Act.put, List.setIfInBounds_toArray, List.set_cons_zero, List.set_cons_succ]))
      (refine takeL (i := 2) (v := ?_) rfl (by kernel_rfl) (by kernel_rfl) (by kernel_rfl) (fun _ _ _ h => h) (Or.inl ⟨by kernel_rfl, ?_⟩) (by assumption) ?_; rotate_left; (focus (intro w hSw; (try dsimp only at hSw); go_simp; first | done | with_reducible rfl | fail "take")); (try simp only [Act.put, List.setIfInBounds_toArray, List.set_cons_zero, List.set_cons_succ]))
      (refine takeL (i := 3) (v := ?_) rfl (by kernel_rfl) (by kernel_rfl) (by kernel_rfl) (fun _ _ _ h => h) (Or.inl ⟨by kernel_rfl, ?_⟩) (by assumption) ?_; rotate_left; (focus (intro w hSw; (try dsimp only at hSw); go_simp; first | done | with_reducible rfl | fail "take")); (try simp only [Act.put, List.setIfInBounds_toArray, List.set_cons_zero, List.set_cons_succ]))
      (refine takeL (i := 4) (v := ?_) rfl (by kernel_rfl) (by kernel_rfl) (by kernel_rfl) (fun _ _ _ h => h) (Or.inl ⟨by kernel_rfl, ?_⟩) (by assumption) ?_; rotate_left; (focus (intro w hSw; (try dsimp only at hSw); go_simp; first | done | with_reducible rfl | fail "take")); (try simp only [Act.put, List.setIfInBounds_toArray, List.set_cons_zero, List.set_cons_succ]))
      (refine takeL (i := 5) (v := ?_) rfl (by kernel_rfl) (by kernel_rfl) (by kernel_rfl) (fun _ _ _ h => h) (Or.inl ⟨by kernel_rfl, ?_⟩) (by assumption) ?_; rotate_left; (focus (intro w hSw; (try dsimp only at hSw); go_simp; first | done | with_reducible rfl | fail "take")); (try simp only [Act.put, List.setIfInBounds_toArray, List.set_cons_zero, List.set_cons_succ]))
      (refine takeL (i := 7) (v := ?_) rfl (by kernel_rfl) (by kernel_rfl) (by kernel_rfl) (fun _ _ _ h => h) (Or.inl ⟨by kernel_rfl, ?_⟩) (by assumption) ?_; rotate_left; (focus (intro w hSw; (try dsimp only at hSw); go_simp; first | done | with_reducible rfl | fail "take")); (try simp only [Act.put, List.setIfInBounds_toArray, List.set_cons_zero, List.set_cons_succ]))
      (refine takeL (i := 8) (v := ?_) rfl (by kernel_rfl) (by kernel_rfl) (by kernel_rfl) (fun _ _ _ h => h) (Or.inl ⟨by kernel_rfl, ?_⟩) (by assumption) ?_; rotate_left; (focus (intro w hSw; (try dsimp only at hSw); go_simp; first | done | with_reducible rfl | fail "take")); (try simp only [Act.put, List.setIfInBounds_toArray, List.set_cons_zero, List.set_cons_succ]))
      (refine takeL (i := 9) (v := ?_) rfl (by kernel_rfl) (by kernel_rfl) (by kernel_rfl) (fun _ _ _ h => h) (Or.inl ⟨by kernel_rfl, ?_⟩) (by assumption) ?_; rotate_left; (focus (intro w hSw; (try dsimp only at hSw); go_simp; first | done | with_reducible rfl | fail "take")); (try simp only [Act.put, List.setIfInBounds_toArray, List.set_cons_zero, List.set_cons_succ]))
      (refine callL (i := 6) rfl (by kernel_rfl) (by kernel_rfl) (fun K hK => ?_); go_simp)
      go_at_call 10
      refine Calls.mono (ER ▸ hopsFrom_any g (⟨tn, tv, tl, tc, td⟩ : El) _ _ n o2.heap.size _ (HAU.out.1.to (ro1VX.trans (Below.mono (show Below VX.heap.size VX _ by ((repeat (first | with_reducible assumption | with_reducible exact Below.refl _ _ | refine Below.setCell ?_ (by (first | omega | (simp; omega) | (simp; done) | fail "sml")) _ | refine Below.drew ?_ | refine Below.alloc ?_ (by (first | omega | (simp; omega) | (simp; done) | fail "sml")) _)); first | done | fail "chs")) ro1VX.size)) (Nat.le_trans ro1o2.size (Nat.le_refl _))) (HAT.out.at.below (ro2VX.trans (Below.mono (show Below VX.heap.size VX _ by ((repeat (first | with_reducible assumption | with_reducible exact Below.refl _ _ | refine Below.setCell ?_ (by (first | omega | (simp; omega) | (simp; done) | fail "sml")) _ | refine Below.drew ?_ | refine Below.alloc ?_ (by (first | omega | (simp; omega) | (simp; done) | fail "sml")) _)); first | done | fail "chs")) ro2VX.size)) (Nat.le_refl _)) (ro2VX.trans (Below.mono (show Below VX.heap.size VX _ by ((repeat (first | with_reducible assumption | with_reducible exact Below.refl _ _ | refine Below.setCell ?_ (by (first | omega | (simp; omega) | (simp; done) | fail "sml")) _ | refine Below.drew ?_ | refine Below.alloc ?_ (by (first | omega | (simp; omega) | (simp; done) | fail "sml")) _)); first | done | fail "chs")) ro2VX.size)).size hok htsm (HVV.out.below (rwVX.trans (Below.mono (show Below VX.heap.size VX _ by ((repeat (first | with_reducible assumption | with_reducible exact Below.refl _ _ | refine Below.setCell ?_ (by (first | omega | (simp; omega) | (simp; done) | fail "sml")) _ | refine Below.drew ?_ | refine Below.alloc ?_ (by (first | omega | (simp; omega) | (simp; done) | fail "sml")) _)); first | done | fail "chs")) rwVX.size)))) ?_
      rintro en waA ⟨vA, FA, rfl, hoA, hlA, hb⟩
      have rwaA := Below.trans (show Below VX.heap.size VX _ by ((repeat (first | with_reducible assumption | with_reducible exact Below.refl _ _ | refine Below.setCell ?_ (by (first | omega | (simp; omega) | (simp; done) | fail "sml")) _ | refine Below.drew ?_ | refine Below.alloc ?_ (by (first | omega | (simp; omega) | (simp; done) | fail "sml")) _)); first | done | fail "chs")) (hb.mono (by (first | omega | (simp; omega) | (simp; done) | fail "sml")))
      have zwaA := rwaA.size
      obtain ⟨pA, cA, rfl⟩ := hoA.sl.form
      have hmA := hoA.sl.max
      unfold maxLen at hmA
      have HSA := Lib.hid (fun (E : World) (hE : Below waA.heap.size waA E) => hoA.sl.below hE)
      have rA9 := Below.refl waA.heap.size waA
      clear hoA hlA
      clear hb
      go_wp2_with fail
      refine hK.out _ _ (KS.out _ (show Below VX.heap.size VX _ by ((repeat (first | with_reducible assumption | with_reducible exact Below.refl _ _ | refine Below.setCell ?_ (by (first | omega | (simp; omega) | (simp; done) | fail "sml")) _ | refine Below.drew ?_ | refine Below.alloc ?_ (by (first | omega | (simp; omega) | (simp; done) | fail "sml")) _)); first | done | fail "chs"))) (fun hHeld => ?_)
      clear hK K
      (try simp only [Act.put, List.setIfInBounds_toArray, List.set_cons_zero, List.set_cons_succ])
      (refine callL (i := 10) rfl (by kernel_rfl) (by kernel_rfl) (fun K hK => ?_); go_simp)
      go_at_call 10
      refine Calls.mono (ER2 ▸ hopsFrom_any X (⟨yn, yv, yl, yc, yd⟩ : El) _ _ n o5.heap.size _ (HX.out.below (ro5VX.trans (Below.mono (show Below VX.heap.size VX _ by ((repeat (first | with_reducible assumption | with_reducible exact Below.refl _ _ | refine Below.setCell ?_ (by (first | omega | (simp; omega) | (simp; done) | fail "sml")) _ | refine Below.drew ?_ | refine Below.alloc ?_ (by (first | omega | (simp; omega) | (simp; done) | fail "sml")) _)); first | done | fail "chs")) ro5VX.size))) ((HAU.out.2.below (ro1VX.trans (Below.mono (show Below VX.heap.size VX _ by ((repeat (first | with_reducible assumption | with_reducible exact Below.refl _ _ | refine Below.setCell ?_ (by (first | omega | (simp; omega) | (simp; done) | fail "sml")) _ | refine Below.drew ?_ | refine Below.alloc ?_ (by (first | omega | (simp; omega) | (simp; done) | fail "sml")) _)); first | done | fail "chs")) ro1VX.size)) (Nat.le_refl _)).below (Below.refl _ _) ro1o5.size) (ro5VX.trans (Below.mono (show Below VX.heap.size VX _ by ((repeat (first | with_reducible assumption | with_reducible exact Below.refl _ _ | refine Below.setCell ?_ (by (first | omega | (simp; omega) | (simp; done) | fail "sml")) _ | refine Below.drew ?_ | refine Below.alloc ?_ (by (first | omega | (simp; omega) | (simp; done) | fail "sml")) _)); first | done | fail "chs")) ro5VX.size)).size hXok hysm (HVV.out.below (rwVX.trans (Below.mono (show Below VX.heap.size VX _ by ((repeat (first | with_reducible assumption | with_reducible exact Below.refl _ _ | refine Below.setCell ?_ (by (first | omega | (simp; omega) | (simp; done) | fail "sml")) _ | refine Below.drew ?_ | refine Below.alloc ?_ (by (first | omega | (simp; omega) | (simp; done) | fail "sml")) _)); first | done | fail "chs")) rwVX.size)))) ?_
      rintro en waB ⟨vB, FB, rfl, hoB, hlB, hb⟩
      have rwaB := Below.trans (show Below VX.heap.size VX _ by ((repeat (first | with_reducible assumption | with_reducible exact Below.refl _ _ | refine Below.setCell ?_ (by (first | omega | (simp; omega) | (simp; done) | fail "sml")) _ | refine Below.drew ?_ | refine Below.alloc ?_ (by (first | omega | (simp; omega) | (simp; done) | fail "sml")) _)); first | done | fail "chs")) (hb.mono (by (first | omega | (simp; omega) | (simp; done) | fail "sml")))
      have zwaB := rwaB.size
      have rAB := Below.trans (show Below waA.heap.size waA _ by ((repeat (first | with_reducible assumption | with_reducible exact Below.refl _ _ | refine Below.setCell ?_ (by (first | omega | (simp; omega) | (simp; done) | fail "sml")) _ | refine Below.drew ?_ | refine Below.alloc ?_ (by (first | omega | (simp; omega) | (simp; done) | fail "sml")) _)); first | done | fail "chs")) (hb.mono (by (first | omega | (simp; omega) | (simp; done) | fail "sml")))
      obtain ⟨pB, cB, rfl⟩ := hoB.sl.form
      have hmB := hoB.sl.max
      unfold maxLen at hmB
      have HSB := Lib.hid (fun (E : World) (hE : Below waB.heap.size waB E) => hoB.sl.below hE)
      have rB9 := Below.refl waB.heap.size waB
      clear hoB hlB
      clear hb
      go_wp2_with fail
      refine hK.out _ _ (KS.out _ (show Below VX.heap.size VX _ by ((repeat (first | with_reducible assumption | with_reducible exact Below.refl _ _ | refine Below.setCell ?_ (by (first | omega | (simp; omega) | (simp; done) | fail "sml")) _ | refine Below.drew ?_ | refine Below.alloc ?_ (by (first | omega | (simp; omega) | (simp; done) | fail "sml")) _)); first | done | fail "chs"))) (fun hHeld => ?_)
      clear hK K
      (try simp only [Act.put, List.setIfInBounds_toArray, List.set_cons_zero, List.set_cons_succ])
      (refine callL (i := 11) rfl (by kernel_rfl) (by kernel_rfl) (fun K hK => ?_); go_simp)
      go_at_call 11
      refine Calls.mono (gpHops_any R _ _ waB.heap.size _ ((HSA.out _ (rAB.trans (Below.mono (show Below waB.heap.size waB _ by ((repeat (first | with_reducible assumption | with_reducible exact Below.refl _ _ | refine Below.setCell ?_ (by (first | omega | (simp; omega) | (simp; done) | fail "sml")) _ | refine Below.drew ?_ | refine Below.alloc ?_ (by (first | omega | (simp; omega) | (simp; done) | fail "sml")) _)); first | done | fail "chs")) rAB.size))).mono rAB.size) (HSB.out _ (show Below waB.heap.size waB _ by ((repeat (first | with_reducible assumption | with_reducible exact Below.refl _ _ | refine Below.setCell ?_ (by (first | omega | (simp; omega) | (simp; done) | fail "sml")) _ | refine Below.drew ?_ | refine Below.alloc ?_ (by (first | omega | (simp; omega) | (simp; done) | fail "sml")) _)); first | done | fail "chs"))) (show Below waB.heap.size waB _ by ((repeat (first | with_reducible assumption | with_reducible exact Below.refl _ _ | refine Below.setCell ?_ (by (first | omega | (simp; omega) | (simp; done) | fail "sml")) _ | refine Below.drew ?_ | refine Below.alloc ?_ (by (first | omega | (simp; omega) | (simp; done) | fail "sml")) _)); first | done | fail "chs")).size) ?_
      rintro en waC ⟨rfl, hb⟩
      have rwaC := Below.trans (show Below VX.heap.size VX _ by ((repeat (first | with_reducible assumption | with_reducible exact Below.refl _ _ | refine Below.setCell ?_ (by (first | omega | (simp; omega) | (simp; done) | fail "sml")) _ | refine Below.drew ?_ | refine Below.alloc ?_ (by (first | omega | (simp; omega) | (simp; done) | fail "sml")) _)); first | done | fail "chs")) (hb.mono (by (first | omega | (simp; omega) | (simp; done) | fail "sml")))
      have zwaC := rwaC.size
      clear hb
      go_wp2_with fail
      refine hK.out _ _ (KS.out _ (show Below VX.heap.size VX _ by ((repeat (first | with_reducible assumption | with_reducible exact Below.refl _ _ | refine Below.setCell ?_ (by (first | omega | (simp; omega) | (simp; done) | fail "sml")) _ | refine Below.drew ?_ | refine Below.alloc ?_ (by (first | omega | (simp; omega) | (simp; done) | fail "sml")) _)); first | done | fail "chs"))) (fun hHeld => ?_)
      clear hK K
      (try simp only [Act.put, List.setIfInBounds_toArray, List.set_cons_zero, List.set_cons_succ])
      (refine takeL (i := 12) (v := ?_) rfl (by kernel_rfl) (by kernel_rfl) (by kernel_rfl) (fun _ _ _ h => h) (Or.inl ⟨by kernel_rfl, ?_⟩) (by assumption) ?_; rotate_left; (focus (intro w hSw; (try dsimp only at hSw); go_simp; first | done | with_reducible rfl | fail "take")); (try simp only [Act.put, List.setIfInBounds_toArray, List.set_cons_zero, List.set_cons_succ]))
      (refine takeL (i := 13) (v := ?_) rfl (by kernel_rfl) (by kernel_rfl) (by kernel_rfl) (fun _ _ _ h => h) (Or.inl ⟨by kernel_rfl, ?_⟩) (by assumption) ?_; rotate_left; (focus (intro w hSw; (try dsimp only at hSw); go_simp; first | done | with_reducible rfl | fail "take")); (try simp only [Act.put, List.setIfInBounds_toArray, List.set_cons_zero, List.set_cons_succ]))
      refine wpAnyH_done (by kernel_rfl) ?_ _
      go_wp2_with fail
      go_ret
      exact ⟨rfl, rwVX.trans (rwaC.mono rwVX.size)⟩
end Go.Proofs.YtghhabailgfelaaDoor
