/- The walk of FnPushText. -/
import Derived.Test.YtckkebjpkcfmnaaDoorL2K
import Derived.Test.YtckkebjpkcfmnaaDoorXLaw
import Derived.Test.YtckkebjpkcfmnaaDoorReg
import Derived.Test.YtckkebjpkcfmnaaDoorFmtI
import Derived.Test.YtckkebjpkcfmnaaDoorPushT
import Derived.Test.YtckkebjpkcfmnaaDoorExSame
namespace Go.Proofs.YtckkebjpkcfmnaaDoor
open Go.RowKit

set_option maxRecDepth 100000 in
set_option maxHeartbeats 16000000 in
theorem lawPushText (zs : List Int) (v : Value) (w : World) (hv : Sl 1 byCells w.heap.size w v zs) (hz : ∀ z ∈ zs, 0 ≤ z ∧ z ≤ 255) (hvars : Vars w) :
    Calls Tryd.prog 10 #[v] w fun e w' => e = .returned (.bool true) ∧ Below w.heap.size w w' := by
  have HVV := Lib.hid hvars
  clear hvars
  obtain ⟨p, cap, rfl⟩ := hv.form
  have hm := hv.max
  unfold maxLen at hm
  by_cases hbig : (1048576 : Int) < zs.length
  · go_enter Tryd.func10, Tryd.ntmps10
    go_wp2_with fail
    go_ret
    exact ⟨rfl, Below.refl _ _⟩
  go_enter Tryd.func10, Tryd.ntmps10
  go_wp2_with fail
  have rw0 := Below.refl w.heap.size w
  refine Calls.mono (drawPushNots_any zs _ w.heap.size _ hv (show Below w.heap.size w _ by ((repeat (first | with_reducible assumption | with_reducible exact Below.refl _ _ | refine Below.setCell ?_ (by (first | omega | (simp; omega) | (simp; done) | fail "sml")) _ | refine Below.drew ?_ | refine Below.alloc ?_ (by (first | omega | (simp; omega) | (simp; done) | fail "sml")) _)); first | done | fail "chs")).size hz) ?_
  rintro en u1 ⟨x0, p0', c0', F0, _, rfl, ⟨kd, rfl, hkd⟩, hx, hb⟩
  have rwu1 := Below.trans (show Below w.heap.size w _ by ((repeat (first | with_reducible assumption | with_reducible exact Below.refl _ _ | refine Below.setCell ?_ (by (first | omega | (simp; omega) | (simp; done) | fail "sml")) _ | refine Below.drew ?_ | refine Below.alloc ?_ (by (first | omega | (simp; omega) | (simp; done) | fail "sml")) _)); first | done | fail "chs")) (hb.mono (by (first | omega | (simp; omega) | (simp; done) | fail "sml")))
  have zwu1 := rwu1.size
  have hsm0 : x0.Sml := hx.sm
  have hat0 := hx.at
  have hdn0 := hx.2.2
  clear hx
  clear hb 
  go_wp2_with fail
  obtain ⟨W, eW⟩ : ∃ E, E = u1.alloc (.cells #[.int .i64 x0.op, .string x0.a, .slice p0' x0.ks.list.length c0'] 25) := ⟨_, rfl⟩
  have sW : u1.heap.size < W.heap.size := by rw [eW]; simp
  have kW : Below u1.heap.size u1 W := by rw [eW]; ((repeat (first | with_reducible assumption | with_reducible exact Below.refl _ _ | refine Below.setCell ?_ (by (first | omega | (simp; omega) | (simp; done) | fail "sml")) _ | refine Below.drew ?_ | refine Below.alloc ?_ (by (first | omega | (simp; omega) | (simp; done) | fail "sml")) _)); first | done | fail "chs")
  have HCW := Lib.hid (show W.cell? ⟨u1.heap.size, 0, none⟩ = some (.int .i64 x0.op) ∧ W.cell? ⟨u1.heap.size, 1, none⟩ = some (.string x0.a) ∧ W.cell? ⟨u1.heap.size, 2, none⟩ = some (.slice p0' x0.ks.list.length c0') from by rw [eW]; exact ⟨by simp [go_sem], by simp [go_sem], by simp [go_sem]⟩)
  have HAW := Lib.hid (show x0.At W.heap.size W (.agg #[.int .i64 x0.op, .string x0.a, .slice p0' x0.ks.list.length c0']) from by rw [eW]; exact hat0.below ((Below.refl _ _).alloc (Nat.le_refl _) _) (by simp))
  rw [← eW]
  have rwW := Below.trans (show Below w.heap.size w _ by ((repeat (first | with_reducible assumption | with_reducible exact Below.refl _ _ | refine Below.setCell ?_ (by (first | omega | (simp; omega) | (simp; done) | fail "sml")) _ | refine Below.drew ?_ | refine Below.alloc ?_ (by (first | omega | (simp; omega) | (simp; done) | fail "sml")) _)); first | done | fail "chs")) (kW.mono (by (first | omega | (simp; omega) | (simp; done) | fail "sml")))
  have HKW := Lib.hid (fun (E : World) (hE : Below W.heap.size W E) => (⟨keepc hE sW HCW.out.1, keepc hE sW HCW.out.2.1, keepc hE sW HCW.out.2.2⟩ : E.cell? ⟨u1.heap.size, 0, none⟩ = some (.int .i64 x0.op) ∧ E.cell? ⟨u1.heap.size, 1, none⟩ = some (.string x0.a) ∧ E.cell? ⟨u1.heap.size, 2, none⟩ = some (.slice p0' x0.ks.list.length c0')))
  have rW0 := Below.refl W.heap.size W
  obtain ⟨yW0, yW1, yW2⟩ := HKW.out _ rW0
  clear eW kW
  refine Calls.mono (pushNots_any x0 _ kd W.heap.size _ (HAW.out.below (show Below W.heap.size W _ by ((repeat (first | with_reducible assumption | with_reducible exact Below.refl _ _ | refine Below.setCell ?_ (by (first | omega | (simp; omega) | (simp; done) | fail "sml")) _ | refine Below.drew ?_ | refine Below.alloc ?_ (by (first | omega | (simp; omega) | (simp; done) | fail "sml")) _)); first | done | fail "chs")) (Nat.le_refl _)) (show Below W.heap.size W _ by ((repeat (first | with_reducible assumption | with_reducible exact Below.refl _ _ | refine Below.setCell ?_ (by (first | omega | (simp; omega) | (simp; done) | fail "sml")) _ | refine Below.drew ?_ | refine Below.alloc ?_ (by (first | omega | (simp; omega) | (simp; done) | fail "sml")) _)); first | done | fail "chs")).size hsm0.1 hsm0.2 (HVV.out.below (show Below w.heap.size w _ by ((repeat (first | with_reducible assumption | with_reducible exact Below.refl _ _ | refine Below.setCell ?_ (by (first | omega | (simp; omega) | (simp; done) | fail "sml")) _ | refine Below.drew ?_ | refine Below.alloc ?_ (by (first | omega | (simp; omega) | (simp; done) | fail "sml")) _)); first | done | fail "chs")))) ?_
  rintro en u2 ⟨vP, FP, rfl, hpu, hpl, hb⟩
  have rwu2 := Below.trans (show Below w.heap.size w _ by ((repeat (first | with_reducible assumption | with_reducible exact Below.refl _ _ | refine Below.setCell ?_ (by (first | omega | (simp; omega) | (simp; done) | fail "sml")) _ | refine Below.drew ?_ | refine Below.alloc ?_ (by (first | omega | (simp; omega) | (simp; done) | fail "sml")) _)); first | done | fail "chs")) (hb.mono (by (first | omega | (simp; omega) | (simp; done) | fail "sml")))
  have zwu2 := rwu2.size
  have rWu2 := Below.trans (show Below W.heap.size W _ by ((repeat (first | with_reducible assumption | with_reducible exact Below.refl _ _ | refine Below.setCell ?_ (by (first | omega | (simp; omega) | (simp; done) | fail "sml")) _ | refine Below.drew ?_ | refine Below.alloc ?_ (by (first | omega | (simp; omega) | (simp; done) | fail "sml")) _)); first | done | fail "chs")) (hb.mono (by (first | omega | (simp; omega) | (simp; done) | fail "sml")))
  have zWu2 := rWu2.size
  obtain ⟨kP, rfl, hkp⟩ := hpu
  obtain ⟨pP, cP, rfl⟩ := hkp.in.form
  clear hpl
  clear hb yW0 yW1 yW2
  obtain ⟨yW0, yW1, yW2⟩ := HKW.out _ rWu2
  have HHP := Lib.hid (show ∀ E, Below u2.heap.size u2 E → (pushR kd x0).Has (.agg #[.int .i64 (pushR kd x0).op, .string (pushR kd x0).a, .slice pP (pushR kd x0).ks.list.length cP]) FP E from fun E hE => ⟨_, rfl, hkp.below hE⟩)
  clear hkp
  go_upto_region 5 with fail
  obtain ⟨P, eP⟩ : ∃ E, E = u2.alloc (.cells #[.int .i64 (pushR kd x0).op, .string (pushR kd x0).a, .slice pP (pushR kd x0).ks.list.length cP] 25) := ⟨_, rfl⟩
  have sP : u2.heap.size < P.heap.size := by rw [eP]; simp
  have kP : Below u2.heap.size u2 P := by rw [eP]; ((repeat (first | with_reducible assumption | with_reducible exact Below.refl _ _ | refine Below.setCell ?_ (by (first | omega | (simp; omega) | (simp; done) | fail "sml")) _ | refine Below.drew ?_ | refine Below.alloc ?_ (by (first | omega | (simp; omega) | (simp; done) | fail "sml")) _)); first | done | fail "chs")
  have HCP := Lib.hid (show P.cell? ⟨u2.heap.size, 0, none⟩ = some (.int .i64 (pushR kd x0).op) ∧ P.cell? ⟨u2.heap.size, 1, none⟩ = some (.string (pushR kd x0).a) ∧ P.cell? ⟨u2.heap.size, 2, none⟩ = some (.slice pP (pushR kd x0).ks.list.length cP) from by rw [eP]; exact ⟨by simp [go_sem], by simp [go_sem], by simp [go_sem]⟩)
  skip
  rw [← eP]
  have rwP := Below.trans (show Below w.heap.size w _ by ((repeat (first | with_reducible assumption | with_reducible exact Below.refl _ _ | refine Below.setCell ?_ (by (first | omega | (simp; omega) | (simp; done) | fail "sml")) _ | refine Below.drew ?_ | refine Below.alloc ?_ (by (first | omega | (simp; omega) | (simp; done) | fail "sml")) _)); first | done | fail "chs")) (kP.mono (by (first | omega | (simp; omega) | (simp; done) | fail "sml")))
  have rWP := Below.trans (show Below W.heap.size W _ by ((repeat (first | with_reducible assumption | with_reducible exact Below.refl _ _ | refine Below.setCell ?_ (by (first | omega | (simp; omega) | (simp; done) | fail "sml")) _ | refine Below.drew ?_ | refine Below.alloc ?_ (by (first | omega | (simp; omega) | (simp; done) | fail "sml")) _)); first | done | fail "chs")) (kP.mono (by (first | omega | (simp; omega) | (simp; done) | fail "sml")))
  have HKP := Lib.hid (fun (E : World) (hE : Below P.heap.size P E) => (⟨keepc hE sP HCP.out.1, keepc hE sP HCP.out.2.1, keepc hE sP HCP.out.2.2⟩ : E.cell? ⟨u2.heap.size, 0, none⟩ = some (.int .i64 (pushR kd x0).op) ∧ E.cell? ⟨u2.heap.size, 1, none⟩ = some (.string (pushR kd x0).a) ∧ E.cell? ⟨u2.heap.size, 2, none⟩ = some (.slice pP (pushR kd x0).ks.list.length cP)))
  have rP0 := Below.refl P.heap.size P
  obtain ⟨yP0, yP1, yP2⟩ := HKP.out _ rP0
  have KBP := Lib.hid kP
  have KSP := Lib.hid (Nat.le_of_lt sP)
  clear eP kP
  clear yW0 yW1 yW2
  obtain ⟨yW0, yW1, yW2⟩ := HKW.out _ rWP
  have HJP := Lib.hid (show ∀ E, Below P.heap.size P E → (pushR kd x0).Has (.agg #[.int .i64 (pushR kd x0).op, .string (pushR kd x0).a, .slice pP (pushR kd x0).ks.list.length cP]) FP E from fun E hE => HHP.out E (((Below.refl _ _).trans KBP.out).trans (hE.mono KSP.out)))
  go_wp2_with fail
  refine Calls.mono (specPushNots_any x0 _ kd W.heap.size _ (HAW.out.below (show Below W.heap.size W _ by ((repeat (first | with_reducible assumption | with_reducible exact Below.refl _ _ | refine Below.setCell ?_ (by (first | omega | (simp; omega) | (simp; done) | fail "sml")) _ | refine Below.drew ?_ | refine Below.alloc ?_ (by (first | omega | (simp; omega) | (simp; done) | fail "sml")) _)); first | done | fail "chs")) (Nat.le_refl _)) (show Below W.heap.size W _ by ((repeat (first | with_reducible assumption | with_reducible exact Below.refl _ _ | refine Below.setCell ?_ (by (first | omega | (simp; omega) | (simp; done) | fail "sml")) _ | refine Below.drew ?_ | refine Below.alloc ?_ (by (first | omega | (simp; omega) | (simp; done) | fail "sml")) _)); first | done | fail "chs")).size hsm0.1 hsm0.2) ?_
  rintro en u3 ⟨vQ, FQ, rfl, hpu, hpl, hb⟩
  have rwu3 := Below.trans (show Below w.heap.size w _ by ((repeat (first | with_reducible assumption | with_reducible exact Below.refl _ _ | refine Below.setCell ?_ (by (first | omega | (simp; omega) | (simp; done) | fail "sml")) _ | refine Below.drew ?_ | refine Below.alloc ?_ (by (first | omega | (simp; omega) | (simp; done) | fail "sml")) _)); first | done | fail "chs")) (hb.mono (by (first | omega | (simp; omega) | (simp; done) | fail "sml")))
  have zwu3 := rwu3.size
  have rWu3 := Below.trans (show Below W.heap.size W _ by ((repeat (first | with_reducible assumption | with_reducible exact Below.refl _ _ | refine Below.setCell ?_ (by (first | omega | (simp; omega) | (simp; done) | fail "sml")) _ | refine Below.drew ?_ | refine Below.alloc ?_ (by (first | omega | (simp; omega) | (simp; done) | fail "sml")) _)); first | done | fail "chs")) (hb.mono (by (first | omega | (simp; omega) | (simp; done) | fail "sml")))
  have zWu3 := rWu3.size
  have rPu3 := Below.trans (show Below P.heap.size P _ by ((repeat (first | with_reducible assumption | with_reducible exact Below.refl _ _ | refine Below.setCell ?_ (by (first | omega | (simp; omega) | (simp; done) | fail "sml")) _ | refine Below.drew ?_ | refine Below.alloc ?_ (by (first | omega | (simp; omega) | (simp; done) | fail "sml")) _)); first | done | fail "chs")) (hb.mono (by (first | omega | (simp; omega) | (simp; done) | fail "sml")))
  have zPu3 := rPu3.size
  obtain ⟨kQ, rfl, hkp⟩ := hpu
  obtain ⟨pQ, cQ, rfl⟩ := hkp.in.form
  clear hpl
  clear hb yW0 yW1 yW2 yP0 yP1 yP2
  obtain ⟨yW0, yW1, yW2⟩ := HKW.out _ rWu3
  obtain ⟨yP0, yP1, yP2⟩ := HKP.out _ rPu3
  have HHQ := Lib.hid (show ∀ E, Below u3.heap.size u3 E → (pushR kd x0).Has (.agg #[.int .i64 (pushR kd x0).op, .string (pushR kd x0).a, .slice pQ (pushR kd x0).ks.list.length cQ]) FQ E from fun E hE => ⟨_, rfl, hkp.below hE⟩)
  clear hkp
  go_upto_region 6 with fail
  obtain ⟨Q, eQ⟩ : ∃ E, E = u3.alloc (.cells #[.int .i64 (pushR kd x0).op, .string (pushR kd x0).a, .slice pQ (pushR kd x0).ks.list.length cQ] 25) := ⟨_, rfl⟩
  have sQ : u3.heap.size < Q.heap.size := by rw [eQ]; simp
  have kQ : Below u3.heap.size u3 Q := by rw [eQ]; ((repeat (first | with_reducible assumption | with_reducible exact Below.refl _ _ | refine Below.setCell ?_ (by (first | omega | (simp; omega) | (simp; done) | fail "sml")) _ | refine Below.drew ?_ | refine Below.alloc ?_ (by (first | omega | (simp; omega) | (simp; done) | fail "sml")) _)); first | done | fail "chs")
  have HCQ := Lib.hid (show Q.cell? ⟨u3.heap.size, 0, none⟩ = some (.int .i64 (pushR kd x0).op) ∧ Q.cell? ⟨u3.heap.size, 1, none⟩ = some (.string (pushR kd x0).a) ∧ Q.cell? ⟨u3.heap.size, 2, none⟩ = some (.slice pQ (pushR kd x0).ks.list.length cQ) from by rw [eQ]; exact ⟨by simp [go_sem], by simp [go_sem], by simp [go_sem]⟩)
  skip
  rw [← eQ]
  have rwQ := Below.trans (show Below w.heap.size w _ by ((repeat (first | with_reducible assumption | with_reducible exact Below.refl _ _ | refine Below.setCell ?_ (by (first | omega | (simp; omega) | (simp; done) | fail "sml")) _ | refine Below.drew ?_ | refine Below.alloc ?_ (by (first | omega | (simp; omega) | (simp; done) | fail "sml")) _)); first | done | fail "chs")) (kQ.mono (by (first | omega | (simp; omega) | (simp; done) | fail "sml")))
  have rWQ := Below.trans (show Below W.heap.size W _ by ((repeat (first | with_reducible assumption | with_reducible exact Below.refl _ _ | refine Below.setCell ?_ (by (first | omega | (simp; omega) | (simp; done) | fail "sml")) _ | refine Below.drew ?_ | refine Below.alloc ?_ (by (first | omega | (simp; omega) | (simp; done) | fail "sml")) _)); first | done | fail "chs")) (kQ.mono (by (first | omega | (simp; omega) | (simp; done) | fail "sml")))
  have rPQ := Below.trans (show Below P.heap.size P _ by ((repeat (first | with_reducible assumption | with_reducible exact Below.refl _ _ | refine Below.setCell ?_ (by (first | omega | (simp; omega) | (simp; done) | fail "sml")) _ | refine Below.drew ?_ | refine Below.alloc ?_ (by (first | omega | (simp; omega) | (simp; done) | fail "sml")) _)); first | done | fail "chs")) (kQ.mono (by (first | omega | (simp; omega) | (simp; done) | fail "sml")))
  have HKQ := Lib.hid (fun (E : World) (hE : Below Q.heap.size Q E) => (⟨keepc hE sQ HCQ.out.1, keepc hE sQ HCQ.out.2.1, keepc hE sQ HCQ.out.2.2⟩ : E.cell? ⟨u3.heap.size, 0, none⟩ = some (.int .i64 (pushR kd x0).op) ∧ E.cell? ⟨u3.heap.size, 1, none⟩ = some (.string (pushR kd x0).a) ∧ E.cell? ⟨u3.heap.size, 2, none⟩ = some (.slice pQ (pushR kd x0).ks.list.length cQ)))
  have rQ0 := Below.refl Q.heap.size Q
  obtain ⟨yQ0, yQ1, yQ2⟩ := HKQ.out _ rQ0
  have KBQ := Lib.hid kQ
  have KSQ := Lib.hid (Nat.le_of_lt sQ)
  clear eQ kQ
  clear yW0 yW1 yW2
  obtain ⟨yW0, yW1, yW2⟩ := HKW.out _ rWQ
  clear yP0 yP1 yP2
  obtain ⟨yP0, yP1, yP2⟩ := HKP.out _ rPQ
  have HJQ := Lib.hid (show ∀ E, Below Q.heap.size Q E → (pushR kd x0).Has (.agg #[.int .i64 (pushR kd x0).op, .string (pushR kd x0).a, .slice pQ (pushR kd x0).ks.list.length cQ]) FQ E from fun E hE => HHQ.out E (((Below.refl _ _).trans KBQ.out).trans (hE.mono KSQ.out)))
  have HSZ := Lib.hid (show (pushR kd x0).ks.size ≤ 1048576 from pushR_small kd x0)
  cases PO : pushOk kd x0 with
  | false =>
    go_wp2_with fail
    refine Calls.mono ((exEq_true (rfl : (pushR kd x0) = (pushR kd x0))) ▸ exprSame_any (pushR kd x0) (pushR kd x0) _ _ FP FQ _ (HJP.out _ (show Below P.heap.size P _ by ((repeat (first | with_reducible assumption | with_reducible exact Below.refl _ _ | refine Below.setCell ?_ (by (first | omega | (simp; omega) | (simp; done) | fail "sml")) _ | refine Below.drew ?_ | refine Below.alloc ?_ (by (first | omega | (simp; omega) | (simp; done) | fail "sml")) _)); first | done | fail "chs"))) (HJQ.out _ (show Below Q.heap.size Q _ by ((repeat (first | with_reducible assumption | with_reducible exact Below.refl _ _ | refine Below.setCell ?_ (by (first | omega | (simp; omega) | (simp; done) | fail "sml")) _ | refine Below.drew ?_ | refine Below.alloc ?_ (by (first | omega | (simp; omega) | (simp; done) | fail "sml")) _)); first | done | fail "chs"))) HSZ.out) ?_
    rintro en u4 ⟨rfl, hb⟩
    have rwu4 := Below.trans (show Below w.heap.size w _ by ((repeat (first | with_reducible assumption | with_reducible exact Below.refl _ _ | refine Below.setCell ?_ (by (first | omega | (simp; omega) | (simp; done) | fail "sml")) _ | refine Below.drew ?_ | refine Below.alloc ?_ (by (first | omega | (simp; omega) | (simp; done) | fail "sml")) _)); first | done | fail "chs")) (hb.mono (by (first | omega | (simp; omega) | (simp; done) | fail "sml")))
    have zwu4 := rwu4.size
    have rWu4 := Below.trans (show Below W.heap.size W _ by ((repeat (first | with_reducible assumption | with_reducible exact Below.refl _ _ | refine Below.setCell ?_ (by (first | omega | (simp; omega) | (simp; done) | fail "sml")) _ | refine Below.drew ?_ | refine Below.alloc ?_ (by (first | omega | (simp; omega) | (simp; done) | fail "sml")) _)); first | done | fail "chs")) (hb.mono (by (first | omega | (simp; omega) | (simp; done) | fail "sml")))
    have zWu4 := rWu4.size
    have rPu4 := Below.trans (show Below P.heap.size P _ by ((repeat (first | with_reducible assumption | with_reducible exact Below.refl _ _ | refine Below.setCell ?_ (by (first | omega | (simp; omega) | (simp; done) | fail "sml")) _ | refine Below.drew ?_ | refine Below.alloc ?_ (by (first | omega | (simp; omega) | (simp; done) | fail "sml")) _)); first | done | fail "chs")) (hb.mono (by (first | omega | (simp; omega) | (simp; done) | fail "sml")))
    have zPu4 := rPu4.size
    have rQu4 := Below.trans (show Below Q.heap.size Q _ by ((repeat (first | with_reducible assumption | with_reducible exact Below.refl _ _ | refine Below.setCell ?_ (by (first | omega | (simp; omega) | (simp; done) | fail "sml")) _ | refine Below.drew ?_ | refine Below.alloc ?_ (by (first | omega | (simp; omega) | (simp; done) | fail "sml")) _)); first | done | fail "chs")) (hb.mono (by (first | omega | (simp; omega) | (simp; done) | fail "sml")))
    have zQu4 := rQu4.size
    clear hb yW0 yW1 yW2 yP0 yP1 yP2 yQ0 yQ1 yQ2
    obtain ⟨yW0, yW1, yW2⟩ := HKW.out _ rWu4
    obtain ⟨yP0, yP1, yP2⟩ := HKP.out _ rPu4
    obtain ⟨yQ0, yQ1, yQ2⟩ := HKQ.out _ rQu4
    go_wp2_with fail
    refine Calls.mono ((exEq_true (rfl : (pushR kd x0) = (pushR kd x0))) ▸ exprSame_any (pushR kd x0) (pushR kd x0) _ _ FP FQ _ (HJP.out _ (show Below P.heap.size P _ by ((repeat (first | with_reducible assumption | with_reducible exact Below.refl _ _ | refine Below.setCell ?_ (by (first | omega | (simp; omega) | (simp; done) | fail "sml")) _ | refine Below.drew ?_ | refine Below.alloc ?_ (by (first | omega | (simp; omega) | (simp; done) | fail "sml")) _)); first | done | fail "chs"))) (HJQ.out _ (show Below Q.heap.size Q _ by ((repeat (first | with_reducible assumption | with_reducible exact Below.refl _ _ | refine Below.setCell ?_ (by (first | omega | (simp; omega) | (simp; done) | fail "sml")) _ | refine Below.drew ?_ | refine Below.alloc ?_ (by (first | omega | (simp; omega) | (simp; done) | fail "sml")) _)); first | done | fail "chs"))) HSZ.out) ?_
    rintro en u5 ⟨rfl, hb⟩
    have rwu5 := Below.trans (show Below w.heap.size w _ by ((repeat (first | with_reducible assumption | with_reducible exact Below.refl _ _ | refine Below.setCell ?_ (by (first | omega | (simp; omega) | (simp; done) | fail "sml")) _ | refine Below.drew ?_ | refine Below.alloc ?_ (by (first | omega | (simp; omega) | (simp; done) | fail "sml")) _)); first | done | fail "chs")) (hb.mono (by (first | omega | (simp; omega) | (simp; done) | fail "sml")))
    have zwu5 := rwu5.size
    have rWu5 := Below.trans (show Below W.heap.size W _ by ((repeat (first | with_reducible assumption | with_reducible exact Below.refl _ _ | refine Below.setCell ?_ (by (first | omega | (simp; omega) | (simp; done) | fail "sml")) _ | refine Below.drew ?_ | refine Below.alloc ?_ (by (first | omega | (simp; omega) | (simp; done) | fail "sml")) _)); first | done | fail "chs")) (hb.mono (by (first | omega | (simp; omega) | (simp; done) | fail "sml")))
    have zWu5 := rWu5.size
    have rPu5 := Below.trans (show Below P.heap.size P _ by ((repeat (first | with_reducible assumption | with_reducible exact Below.refl _ _ | refine Below.setCell ?_ (by (first | omega | (simp; omega) | (simp; done) | fail "sml")) _ | refine Below.drew ?_ | refine Below.alloc ?_ (by (first | omega | (simp; omega) | (simp; done) | fail "sml")) _)); first | done | fail "chs")) (hb.mono (by (first | omega | (simp; omega) | (simp; done) | fail "sml")))
    have zPu5 := rPu5.size
    have rQu5 := Below.trans (show Below Q.heap.size Q _ by ((repeat (first | with_reducible assumption | with_reducible exact Below.refl _ _ | refine Below.setCell ?_ (by (first | omega | (simp; omega) | (simp; done) | fail "sml")) _ | refine Below.drew ?_ | refine Below.alloc ?_ (by (first | omega | (simp; omega) | (simp; done) | fail "sml")) _)); first | done | fail "chs")) (hb.mono (by (first | omega | (simp; omega) | (simp; done) | fail "sml")))
    have zQu5 := rQu5.size
    clear hb yW0 yW1 yW2 yP0 yP1 yP2 yQ0 yQ1 yQ2
    obtain ⟨yW0, yW1, yW2⟩ := HKW.out _ rWu5
    obtain ⟨yP0, yP1, yP2⟩ := HKP.out _ rPu5
    obtain ⟨yQ0, yQ1, yQ2⟩ := HKQ.out _ rQu5
    go_wp2_with fail
    go_ret
    exact ⟨rfl, by ((repeat (first | with_reducible assumption | with_reducible exact Below.refl _ _ | refine Below.setCell ?_ (by (first | omega | (simp; omega) | (simp; done) | fail "sml")) _ | refine Below.drew ?_ | refine Below.alloc ?_ (by (first | omega | (simp; omega) | (simp; done) | fail "sml")) _)); first | done | fail "chs")⟩
  | true =>
    obtain ⟨ETX, HQP⟩ := push_text PO
    obtain ⟨tx, HTX⟩ : ∃ tx, fmtE kd (pushR kd x0) = tx := ⟨_, rfl⟩
    rw [← ETX, HTX] at HQP
    have HQT := Lib.hid HQP
    have hpos : 0 < tx.size := HQP.2.2
    have hmx : tx.size ≤ 1000000 := by rw [← HTX]; exact fmtE_small kd _
    clear HQP
    have hpsm : (pushR kd x0).Sml := by
      have h1 := pushOk_parts PO
      have h2 := Ex.push_sm 12 x0 false (exV_parts h1.1).2.1
      rw [h1.2.2]
      exact ⟨by omega, h2.2⟩
    go_wp2_with fail
    refine Calls.mono ((exEq_true (rfl : (pushR kd x0) = (pushR kd x0))) ▸ exprSame_any (pushR kd x0) (pushR kd x0) _ _ FP FQ _ (HJP.out _ (show Below P.heap.size P _ by ((repeat (first | with_reducible assumption | with_reducible exact Below.refl _ _ | refine Below.setCell ?_ (by (first | omega | (simp; omega) | (simp; done) | fail "sml")) _ | refine Below.drew ?_ | refine Below.alloc ?_ (by (first | omega | (simp; omega) | (simp; done) | fail "sml")) _)); first | done | fail "chs"))) (HJQ.out _ (show Below Q.heap.size Q _ by ((repeat (first | with_reducible assumption | with_reducible exact Below.refl _ _ | refine Below.setCell ?_ (by (first | omega | (simp; omega) | (simp; done) | fail "sml")) _ | refine Below.drew ?_ | refine Below.alloc ?_ (by (first | omega | (simp; omega) | (simp; done) | fail "sml")) _)); first | done | fail "chs"))) HSZ.out) ?_
    rintro en u4 ⟨rfl, hb⟩
    have rwu4 := Below.trans (show Below w.heap.size w _ by ((repeat (first | with_reducible assumption | with_reducible exact Below.refl _ _ | refine Below.setCell ?_ (by (first | omega | (simp; omega) | (simp; done) | fail "sml")) _ | refine Below.drew ?_ | refine Below.alloc ?_ (by (first | omega | (simp; omega) | (simp; done) | fail "sml")) _)); first | done | fail "chs")) (hb.mono (by (first | omega | (simp; omega) | (simp; done) | fail "sml")))
    have zwu4 := rwu4.size
    have rWu4 := Below.trans (show Below W.heap.size W _ by ((repeat (first | with_reducible assumption | with_reducible exact Below.refl _ _ | refine Below.setCell ?_ (by (first | omega | (simp; omega) | (simp; done) | fail "sml")) _ | refine Below.drew ?_ | refine Below.alloc ?_ (by (first | omega | (simp; omega) | (simp; done) | fail "sml")) _)); first | done | fail "chs")) (hb.mono (by (first | omega | (simp; omega) | (simp; done) | fail "sml")))
    have zWu4 := rWu4.size
    have rPu4 := Below.trans (show Below P.heap.size P _ by ((repeat (first | with_reducible assumption | with_reducible exact Below.refl _ _ | refine Below.setCell ?_ (by (first | omega | (simp; omega) | (simp; done) | fail "sml")) _ | refine Below.drew ?_ | refine Below.alloc ?_ (by (first | omega | (simp; omega) | (simp; done) | fail "sml")) _)); first | done | fail "chs")) (hb.mono (by (first | omega | (simp; omega) | (simp; done) | fail "sml")))
    have zPu4 := rPu4.size
    have rQu4 := Below.trans (show Below Q.heap.size Q _ by ((repeat (first | with_reducible assumption | with_reducible exact Below.refl _ _ | refine Below.setCell ?_ (by (first | omega | (simp; omega) | (simp; done) | fail "sml")) _ | refine Below.drew ?_ | refine Below.alloc ?_ (by (first | omega | (simp; omega) | (simp; done) | fail "sml")) _)); first | done | fail "chs")) (hb.mono (by (first | omega | (simp; omega) | (simp; done) | fail "sml")))
    have zQu4 := rQu4.size
    clear hb yW0 yW1 yW2 yP0 yP1 yP2 yQ0 yQ1 yQ2
    obtain ⟨yW0, yW1, yW2⟩ := HKW.out _ rWu4
    obtain ⟨yP0, yP1, yP2⟩ := HKP.out _ rPu4
    obtain ⟨yQ0, yQ1, yQ2⟩ := HKQ.out _ rQu4
    go_wp2_with fail
    refine Calls.mono (HTX ▸ formatExpr_any (pushR kd x0) _ kd P.heap.size _ ((HJP.out _ (Below.refl _ _)).at.below (show Below P.heap.size P _ by ((repeat (first | with_reducible assumption | with_reducible exact Below.refl _ _ | refine Below.setCell ?_ (by (first | omega | (simp; omega) | (simp; done) | fail "sml")) _ | refine Below.drew ?_ | refine Below.alloc ?_ (by (first | omega | (simp; omega) | (simp; done) | fail "sml")) _)); first | done | fail "chs")) (Nat.le_refl _)) (show Below P.heap.size P _ by ((repeat (first | with_reducible assumption | with_reducible exact Below.refl _ _ | refine Below.setCell ?_ (by (first | omega | (simp; omega) | (simp; done) | fail "sml")) _ | refine Below.drew ?_ | refine Below.alloc ?_ (by (first | omega | (simp; omega) | (simp; done) | fail "sml")) _)); first | done | fail "chs")).size hpsm.1 hpsm.2 (HVV.out.below (show Below w.heap.size w _ by ((repeat (first | with_reducible assumption | with_reducible exact Below.refl _ _ | refine Below.setCell ?_ (by (first | omega | (simp; omega) | (simp; done) | fail "sml")) _ | refine Below.drew ?_ | refine Below.alloc ?_ (by (first | omega | (simp; omega) | (simp; done) | fail "sml")) _)); first | done | fail "chs")))) ?_
    rintro en u5 ⟨rfl, hb⟩
    have rwu5 := Below.trans (show Below w.heap.size w _ by ((repeat (first | with_reducible assumption | with_reducible exact Below.refl _ _ | refine Below.setCell ?_ (by (first | omega | (simp; omega) | (simp; done) | fail "sml")) _ | refine Below.drew ?_ | refine Below.alloc ?_ (by (first | omega | (simp; omega) | (simp; done) | fail "sml")) _)); first | done | fail "chs")) (hb.mono (by (first | omega | (simp; omega) | (simp; done) | fail "sml")))
    have zwu5 := rwu5.size
    have rWu5 := Below.trans (show Below W.heap.size W _ by ((repeat (first | with_reducible assumption | with_reducible exact Below.refl _ _ | refine Below.setCell ?_ (by (first | omega | (simp; omega) | (simp; done) | fail "sml")) _ | refine Below.drew ?_ | refine Below.alloc ?_ (by (first | omega | (simp; omega) | (simp; done) | fail "sml")) _)); first | done | fail "chs")) (hb.mono (by (first | omega | (simp; omega) | (simp; done) | fail "sml")))
    have zWu5 := rWu5.size
    have rPu5 := Below.trans (show Below P.heap.size P _ by ((repeat (first | with_reducible assumption | with_reducible exact Below.refl _ _ | refine Below.setCell ?_ (by (first | omega | (simp; omega) | (simp; done) | fail "sml")) _ | refine Below.drew ?_ | refine Below.alloc ?_ (by (first | omega | (simp; omega) | (simp; done) | fail "sml")) _)); first | done | fail "chs")) (hb.mono (by (first | omega | (simp; omega) | (simp; done) | fail "sml")))
    have zPu5 := rPu5.size
    have rQu5 := Below.trans (show Below Q.heap.size Q _ by ((repeat (first | with_reducible assumption | with_reducible exact Below.refl _ _ | refine Below.setCell ?_ (by (first | omega | (simp; omega) | (simp; done) | fail "sml")) _ | refine Below.drew ?_ | refine Below.alloc ?_ (by (first | omega | (simp; omega) | (simp; done) | fail "sml")) _)); first | done | fail "chs")) (hb.mono (by (first | omega | (simp; omega) | (simp; done) | fail "sml")))
    have zQu5 := rQu5.size
    clear hb yW0 yW1 yW2 yP0 yP1 yP2 yQ0 yQ1 yQ2
    obtain ⟨yW0, yW1, yW2⟩ := HKW.out _ rWu5
    obtain ⟨yP0, yP1, yP2⟩ := HKP.out _ rPu5
    obtain ⟨yQ0, yQ1, yQ2⟩ := HKQ.out _ rQu5
    go_wp2_with fail
    have hne := str_nonempty' hpos
    have hne2 := str_nonempty hpos
    have hne3 : tx.toList.isEmpty = false := by simpa using hne
    go_loopw [10] (fun i wr => ∃ k : Nat, k ≤ tx.size ∧ i = .int .i64 (k : Int) ∧ Below u5.heap.size u5 wr) (fun i _ => tx.size - (intOf i).toNat)
    case atStart => exact ⟨0, Nat.zero_le _, rfl, by ((repeat (first | with_reducible assumption | with_reducible exact Below.refl _ _ | refine Below.setCell ?_ (by (first | omega | (simp; omega) | (simp; done) | fail "sml")) _ | refine Below.drew ?_ | refine Below.alloc ?_ (by (first | omega | (simp; omega) | (simp; done) | fail "sml")) _)); first | done | fail "chs")⟩
    case round =>
      obtain ⟨k, hk, rfl, hbr⟩ := hrel
      have hw1 : IntKind.i64.wrap ((k : Int) + 1) = (k : Int) + 1 := by rw [IntKind.wrap_i64]; omega
      by_cases hlt : k + 1 < tx.size
      · have q1 : ((k : Int) + 1 < (tx.size : Int)) = True := eq_true (by omega)
        have q2 : (k : Int) < (tx.size : Int) := by omega
        have hk0 : k < tx.size := by omega
        by_cases hc : (tx[k]'hk0).toNat = 33
        · obtain ⟨n1, n2⟩ := HQT.out.at k hlt hc
          have b0 : (((tx[k]'hk0).toNat : Int) == 33) = true := beq_iff_eq.2 (by omega)
          have b1 : (((tx[k + 1]'hlt).toNat : Int) == 33) = false := beq_eq_false_iff_ne.2 (by omega)
          have b2 : (((tx[k + 1]'hlt).toNat : Int) == 40) = false := beq_eq_false_iff_ne.2 (by omega)
          clear hc n1 n2
          go_wp2_with fail
          go_roundw
          case rel => exact ⟨k + 1, by omega, by go_num, hbr⟩
          case measure => simp [intOf]; omega
        · have b0 : (((tx[k]'hk0).toNat : Int) == 33) = false := beq_eq_false_iff_ne.2 (by omega)
          clear hc
          go_wp2_with fail
          go_roundw
          case rel => exact ⟨k + 1, by omega, by go_num, hbr⟩
          case measure => simp [intOf]; omega
      · have q1 : ((k : Int) + 1 < (tx.size : Int)) = False := eq_false (by omega)
        go_wp2_with fail
        go_ret
        exact ⟨rfl, rwu5.trans (hbr.mono zwu5)⟩
end Go.Proofs.YtckkebjpkcfmnaaDoor
