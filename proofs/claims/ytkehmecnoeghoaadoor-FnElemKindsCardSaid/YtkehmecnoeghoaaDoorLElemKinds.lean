/- The walk of FnElemKinds. -/
import Derived.Test.YtkehmecnoeghoaaDoorL3E
import Derived.Test.YtkehmecnoeghoaaDoorM6p1
import Derived.Test.YtkehmecnoeghoaaDoorM0p1
namespace Go.Proofs.YtkehmecnoeghoaaDoor
open Go.RowKit

set_option maxRecDepth 100000 in
set_option maxHeartbeats 16000000 in
theorem lawElemKinds (zs : List Int) (v : Value) (w : World) (hv : Sl 1 byCells w.heap.size w v zs) (hz : ∀ z ∈ zs, 0 ≤ z ∧ z ≤ 255) (hvars : VarsF w) :
    Calls Tryd.prog 3 #[v] w fun e w' => e = .returned (.bool true) ∧ Below w.heap.size w w' := by
  have HVV := Lib.hid hvars
  clear hvars
  obtain ⟨p, cap, rfl⟩ := hv.form
  have hm := hv.max
  unfold maxLen at hm
  by_cases hbig : (1048576 : Int) < zs.length
  · go_enter Tryd.func3, Tryd.ntmps3
    go_wp2_with fail
    go_ret
    exact ⟨rfl, Below.refl _ _⟩
  go_enter Tryd.func3, Tryd.ntmps3
  go_wp2_with fail
  have rw0 := Below.refl w.heap.size w
  refine Calls.mono (drawElemValid_any zs _ w.heap.size _ hv (Nat.le_refl _) hz) ?_
  rintro en u1 ⟨⟨yn, yv, yl, yc, yd⟩, p, c, p', c', rfl, hy, hb⟩
  have rwu1 := Below.trans (show Below w.heap.size w _ by assumption) (hb.mono (by omega))
  have zwu1 := rwu1.size
  have hysm := hy.sm
  have HAU := Lib.hid hy.at
  clear hy
  clear hb 
  have ru10 := Below.refl u1.heap.size u1
  go_upto_region 4 with fail
  obtain ⟨W, eW⟩ : ∃ E, E = u1.alloc (.cells #[.bool yn, .string yv, .int .i64 yl.op, .string yl.a, .slice p yl.ks.list.length c, .int .i64 yc.op, .string yc.a, .slice p' yc.ks.list.length c', .int .i64 yd] 27) := ⟨_, rfl⟩
  have sW : u1.heap.size < W.heap.size := by rw [eW]; simp
  have kW : Below u1.heap.size u1 W := by rw [eW]; ((repeat (first | with_reducible assumption | with_reducible exact Below.refl _ _ | refine Below.setCell ?_ (by (first | omega | (simp; omega) | (simp; done) | fail "sml")) _ | refine Below.drew ?_ | refine Below.alloc ?_ (by (first | omega | (simp; omega) | (simp; done) | fail "sml")) _)); first | done | fail "chs")
  have HCW := Lib.hid (show W.cell? ⟨u1.heap.size, 0, none⟩ = some (.bool yn) ∧ W.cell? ⟨u1.heap.size, 1, none⟩ = some (.string yv) ∧ W.cell? ⟨u1.heap.size, 2, none⟩ = some (.int .i64 yl.op) ∧ W.cell? ⟨u1.heap.size, 3, none⟩ = some (.string yl.a) ∧ W.cell? ⟨u1.heap.size, 4, none⟩ = some (.slice p yl.ks.list.length c) ∧ W.cell? ⟨u1.heap.size, 5, none⟩ = some (.int .i64 yc.op) ∧ W.cell? ⟨u1.heap.size, 6, none⟩ = some (.string yc.a) ∧ W.cell? ⟨u1.heap.size, 7, none⟩ = some (.slice p' yc.ks.list.length c') ∧ W.cell? ⟨u1.heap.size, 8, none⟩ = some (.int .i64 yd) from by rw [eW]; exact ⟨by simp [go_sem], by simp [go_sem], by simp [go_sem], by simp [go_sem], by simp [go_sem], by simp [go_sem], by simp [go_sem], by simp [go_sem], by simp [go_sem]⟩)
  skip
  rw [← eW]
  have rwW := Below.trans (show Below w.heap.size w _ by ((repeat (first | with_reducible assumption | with_reducible exact Below.refl _ _ | refine Below.setCell ?_ (by (first | omega | (simp; omega) | (simp; done) | fail "sml")) _ | refine Below.drew ?_ | refine Below.alloc ?_ (by (first | omega | (simp; omega) | (simp; done) | fail "sml")) _)); first | done | fail "chs")) (kW.mono (by (first | omega | (simp; omega) | (simp; done) | fail "sml")))
  have ru1W := Below.trans (show Below u1.heap.size u1 _ by ((repeat (first | with_reducible assumption | with_reducible exact Below.refl _ _ | refine Below.setCell ?_ (by (first | omega | (simp; omega) | (simp; done) | fail "sml")) _ | refine Below.drew ?_ | refine Below.alloc ?_ (by (first | omega | (simp; omega) | (simp; done) | fail "sml")) _)); first | done | fail "chs")) (kW.mono (by (first | omega | (simp; omega) | (simp; done) | fail "sml")))
  have HKW := Lib.hid (fun (E : World) (hE : Below W.heap.size W E) => (⟨keepc hE sW HCW.out.1, keepc hE sW HCW.out.2.1, keepc hE sW HCW.out.2.2.1, keepc hE sW HCW.out.2.2.2.1, keepc hE sW HCW.out.2.2.2.2.1, keepc hE sW HCW.out.2.2.2.2.2.1, keepc hE sW HCW.out.2.2.2.2.2.2.1, keepc hE sW HCW.out.2.2.2.2.2.2.2.1, keepc hE sW HCW.out.2.2.2.2.2.2.2.2⟩ : E.cell? ⟨u1.heap.size, 0, none⟩ = some (.bool yn) ∧ E.cell? ⟨u1.heap.size, 1, none⟩ = some (.string yv) ∧ E.cell? ⟨u1.heap.size, 2, none⟩ = some (.int .i64 yl.op) ∧ E.cell? ⟨u1.heap.size, 3, none⟩ = some (.string yl.a) ∧ E.cell? ⟨u1.heap.size, 4, none⟩ = some (.slice p yl.ks.list.length c) ∧ E.cell? ⟨u1.heap.size, 5, none⟩ = some (.int .i64 yc.op) ∧ E.cell? ⟨u1.heap.size, 6, none⟩ = some (.string yc.a) ∧ E.cell? ⟨u1.heap.size, 7, none⟩ = some (.slice p' yc.ks.list.length c') ∧ E.cell? ⟨u1.heap.size, 8, none⟩ = some (.int .i64 yd)))
  have rW0 := Below.refl W.heap.size W
  obtain ⟨yW0, yW1, yW2, yW3, yW4, yW5, yW6, yW7, yW8⟩ := HKW.out _ rW0
  clear eW kW
  cases EE : elemV (⟨yn, yv, yl, yc, yd⟩ : El) with
  | false =>
    go_wp2_with fail
    refine Calls.mono (EE ▸ elemValid_any (⟨yn, yv, yl, yc, yd⟩ : El) _ u1.heap.size _ (HAU.out.below (show Below u1.heap.size u1 _ by assumption) (Nat.le_refl _)) (show Below u1.heap.size u1 _ by assumption).size hysm (HVV.out.below (show Below w.heap.size w _ by assumption)).1) ?_
    rintro en u2 ⟨rfl, hb⟩
    have rwu2 := Below.trans (show Below w.heap.size w _ by assumption) (hb.mono (by omega))
    have zwu2 := rwu2.size
    have ru1u2 := Below.trans (show Below u1.heap.size u1 _ by assumption) (hb.mono (by omega))
    have zu1u2 := ru1u2.size
    have rWu2 := Below.trans (show Below W.heap.size W _ by assumption) (hb.mono (by omega))
    have zWu2 := rWu2.size
    clear hb yW0 yW1 yW2 yW3 yW4 yW5 yW6 yW7 yW8
    obtain ⟨yW0, yW1, yW2, yW3, yW4, yW5, yW6, yW7, yW8⟩ := HKW.out _ rWu2
    go_wp2_with fail
    refine Calls.mono (EE ▸ specElemValid_any (⟨yn, yv, yl, yc, yd⟩ : El) _ u1.heap.size _ (HAU.out.below (show Below u1.heap.size u1 _ by assumption) (Nat.le_refl _)) (show Below u1.heap.size u1 _ by assumption).size hysm) ?_
    rintro en u3 ⟨rfl, hb⟩
    have rwu3 := Below.trans (show Below w.heap.size w _ by assumption) (hb.mono (by omega))
    have zwu3 := rwu3.size
    have ru1u3 := Below.trans (show Below u1.heap.size u1 _ by assumption) (hb.mono (by omega))
    have zu1u3 := ru1u3.size
    have rWu3 := Below.trans (show Below W.heap.size W _ by assumption) (hb.mono (by omega))
    have zWu3 := rWu3.size
    clear hb yW0 yW1 yW2 yW3 yW4 yW5 yW6 yW7 yW8
    obtain ⟨yW0, yW1, yW2, yW3, yW4, yW5, yW6, yW7, yW8⟩ := HKW.out _ rWu3
    go_wp2_with fail
    refine Calls.mono (EE ▸ specElemValid_any (⟨yn, yv, yl, yc, yd⟩ : El) _ u1.heap.size _ (HAU.out.below (show Below u1.heap.size u1 _ by assumption) (Nat.le_refl _)) (show Below u1.heap.size u1 _ by assumption).size hysm) ?_
    rintro en u4 ⟨rfl, hb⟩
    have rwu4 := Below.trans (show Below w.heap.size w _ by assumption) (hb.mono (by omega))
    have zwu4 := rwu4.size
    have ru1u4 := Below.trans (show Below u1.heap.size u1 _ by assumption) (hb.mono (by omega))
    have zu1u4 := ru1u4.size
    have rWu4 := Below.trans (show Below W.heap.size W _ by assumption) (hb.mono (by omega))
    have zWu4 := rWu4.size
    clear hb yW0 yW1 yW2 yW3 yW4 yW5 yW6 yW7 yW8
    obtain ⟨yW0, yW1, yW2, yW3, yW4, yW5, yW6, yW7, yW8⟩ := HKW.out _ rWu4
    go_wp2_with fail
    go_ret
    exact ⟨rfl, by ((repeat (first | with_reducible assumption | with_reducible exact Below.refl _ _ | refine Below.setCell ?_ (by (first | omega | (simp; omega) | (simp; done) | fail "sml")) _ | refine Below.drew ?_ | refine Below.alloc ?_ (by (first | omega | (simp; omega) | (simp; done) | fail "sml")) _)); first | done | fail "chs")⟩
  | true =>
    go_wp2_with fail
    refine Calls.mono (EE ▸ elemValid_any (⟨yn, yv, yl, yc, yd⟩ : El) _ u1.heap.size _ (HAU.out.below (show Below u1.heap.size u1 _ by assumption) (Nat.le_refl _)) (show Below u1.heap.size u1 _ by assumption).size hysm (HVV.out.below (show Below w.heap.size w _ by assumption)).1) ?_
    rintro en u2 ⟨rfl, hb⟩
    have rwu2 := Below.trans (show Below w.heap.size w _ by assumption) (hb.mono (by omega))
    have zwu2 := rwu2.size
    have ru1u2 := Below.trans (show Below u1.heap.size u1 _ by assumption) (hb.mono (by omega))
    have zu1u2 := ru1u2.size
    have rWu2 := Below.trans (show Below W.heap.size W _ by assumption) (hb.mono (by omega))
    have zWu2 := rWu2.size
    clear hb yW0 yW1 yW2 yW3 yW4 yW5 yW6 yW7 yW8
    obtain ⟨yW0, yW1, yW2, yW3, yW4, yW5, yW6, yW7, yW8⟩ := HKW.out _ rWu2
    go_wp2_with fail
    refine Calls.mono (EE ▸ specElemValid_any (⟨yn, yv, yl, yc, yd⟩ : El) _ u1.heap.size _ (HAU.out.below (show Below u1.heap.size u1 _ by assumption) (Nat.le_refl _)) (show Below u1.heap.size u1 _ by assumption).size hysm) ?_
    rintro en u3 ⟨rfl, hb⟩
    have rwu3 := Below.trans (show Below w.heap.size w _ by assumption) (hb.mono (by omega))
    have zwu3 := rwu3.size
    have ru1u3 := Below.trans (show Below u1.heap.size u1 _ by assumption) (hb.mono (by omega))
    have zu1u3 := ru1u3.size
    have rWu3 := Below.trans (show Below W.heap.size W _ by assumption) (hb.mono (by omega))
    have zWu3 := rWu3.size
    clear hb yW0 yW1 yW2 yW3 yW4 yW5 yW6 yW7 yW8
    obtain ⟨yW0, yW1, yW2, yW3, yW4, yW5, yW6, yW7, yW8⟩ := HKW.out _ rWu3
    obtain ⟨tx, ETX⟩ : ∃ tx, fmtEl (⟨yn, yv, yl, yc, yd⟩ : El) = tx := ⟨_, rfl⟩
    obtain ⟨h0, hfirst⟩ : ∃ h0 : 0 < tx.size, ((tx[0]'h0).toNat = 40 ↔ yn = true) := by
      have h1 := elTxt_first EE
      have h2 : fmtEl (⟨yn, yv, yl, yc, yd⟩ : El) = elTxt (⟨yn, yv, yl, yc, yd⟩ : El) := by unfold fmtEl; rw [EE]; rfl
      rw [← h2, ETX] at h1
      exact h1
    have EX := elemV_flip EE
    have h0i : (0 : Int) < (tx.size : Int) := by omega
    have ltU : u1.heap.size < u3.heap.size := by omega
    go_upto_region 9 with fail
    obtain ⟨Xv, eXv⟩ : ∃ E, E = u3.alloc (.cells #[.bool (!yn), .string yv, .int .i64 yl.op, .string yl.a, .slice p yl.ks.list.length c, .int .i64 yc.op, .string yc.a, .slice p' yc.ks.list.length c', .int .i64 yd] 27) := ⟨_, rfl⟩
    have sXv : u3.heap.size < Xv.heap.size := by rw [eXv]; simp
    have kXv : Below u3.heap.size u3 Xv := by rw [eXv]; ((repeat (first | with_reducible assumption | with_reducible exact Below.refl _ _ | refine Below.setCell ?_ (by (first | omega | (simp; omega) | (simp; done) | fail "sml")) _ | refine Below.drew ?_ | refine Below.alloc ?_ (by (first | omega | (simp; omega) | (simp; done) | fail "sml")) _)); first | done | fail "chs")
    have HCXv := Lib.hid (show Xv.cell? ⟨u3.heap.size, 0, none⟩ = some (.bool (!yn)) ∧ Xv.cell? ⟨u3.heap.size, 1, none⟩ = some (.string yv) ∧ Xv.cell? ⟨u3.heap.size, 2, none⟩ = some (.int .i64 yl.op) ∧ Xv.cell? ⟨u3.heap.size, 3, none⟩ = some (.string yl.a) ∧ Xv.cell? ⟨u3.heap.size, 4, none⟩ = some (.slice p yl.ks.list.length c) ∧ Xv.cell? ⟨u3.heap.size, 5, none⟩ = some (.int .i64 yc.op) ∧ Xv.cell? ⟨u3.heap.size, 6, none⟩ = some (.string yc.a) ∧ Xv.cell? ⟨u3.heap.size, 7, none⟩ = some (.slice p' yc.ks.list.length c') ∧ Xv.cell? ⟨u3.heap.size, 8, none⟩ = some (.int .i64 yd) from by rw [eXv]; exact ⟨by simp [go_sem], by simp [go_sem], by simp [go_sem], by simp [go_sem], by simp [go_sem], by simp [go_sem], by simp [go_sem], by simp [go_sem], by simp [go_sem]⟩)
    skip
    rw [← eXv]
    have rwXv := Below.trans (show Below w.heap.size w _ by ((repeat (first | with_reducible assumption | with_reducible exact Below.refl _ _ | refine Below.setCell ?_ (by (first | omega | (simp; omega) | (simp; done) | fail "sml")) _ | refine Below.drew ?_ | refine Below.alloc ?_ (by (first | omega | (simp; omega) | (simp; done) | fail "sml")) _)); first | done | fail "chs")) (kXv.mono (by (first | omega | (simp; omega) | (simp; done) | fail "sml")))
    have ru1Xv := Below.trans (show Below u1.heap.size u1 _ by ((repeat (first | with_reducible assumption | with_reducible exact Below.refl _ _ | refine Below.setCell ?_ (by (first | omega | (simp; omega) | (simp; done) | fail "sml")) _ | refine Below.drew ?_ | refine Below.alloc ?_ (by (first | omega | (simp; omega) | (simp; done) | fail "sml")) _)); first | done | fail "chs")) (kXv.mono (by (first | omega | (simp; omega) | (simp; done) | fail "sml")))
    have rWXv := Below.trans (show Below W.heap.size W _ by ((repeat (first | with_reducible assumption | with_reducible exact Below.refl _ _ | refine Below.setCell ?_ (by (first | omega | (simp; omega) | (simp; done) | fail "sml")) _ | refine Below.drew ?_ | refine Below.alloc ?_ (by (first | omega | (simp; omega) | (simp; done) | fail "sml")) _)); first | done | fail "chs")) (kXv.mono (by (first | omega | (simp; omega) | (simp; done) | fail "sml")))
    have HKXv := Lib.hid (fun (E : World) (hE : Below Xv.heap.size Xv E) => (⟨keepc hE sXv HCXv.out.1, keepc hE sXv HCXv.out.2.1, keepc hE sXv HCXv.out.2.2.1, keepc hE sXv HCXv.out.2.2.2.1, keepc hE sXv HCXv.out.2.2.2.2.1, keepc hE sXv HCXv.out.2.2.2.2.2.1, keepc hE sXv HCXv.out.2.2.2.2.2.2.1, keepc hE sXv HCXv.out.2.2.2.2.2.2.2.1, keepc hE sXv HCXv.out.2.2.2.2.2.2.2.2⟩ : E.cell? ⟨u3.heap.size, 0, none⟩ = some (.bool (!yn)) ∧ E.cell? ⟨u3.heap.size, 1, none⟩ = some (.string yv) ∧ E.cell? ⟨u3.heap.size, 2, none⟩ = some (.int .i64 yl.op) ∧ E.cell? ⟨u3.heap.size, 3, none⟩ = some (.string yl.a) ∧ E.cell? ⟨u3.heap.size, 4, none⟩ = some (.slice p yl.ks.list.length c) ∧ E.cell? ⟨u3.heap.size, 5, none⟩ = some (.int .i64 yc.op) ∧ E.cell? ⟨u3.heap.size, 6, none⟩ = some (.string yc.a) ∧ E.cell? ⟨u3.heap.size, 7, none⟩ = some (.slice p' yc.ks.list.length c') ∧ E.cell? ⟨u3.heap.size, 8, none⟩ = some (.int .i64 yd)))
    have rXv0 := Below.refl Xv.heap.size Xv
    obtain ⟨yXv0, yXv1, yXv2, yXv3, yXv4, yXv5, yXv6, yXv7, yXv8⟩ := HKXv.out _ rXv0
    clear eXv kXv
    clear yW0 yW1 yW2 yW3 yW4 yW5 yW6 yW7 yW8
    obtain ⟨yW0, yW1, yW2, yW3, yW4, yW5, yW6, yW7, yW8⟩ := HKW.out _ rWXv
    go_wp2_with fail
    refine Calls.mono (ETX ▸ formatElem_any (⟨yn, yv, yl, yc, yd⟩ : El) _ u1.heap.size _ (HAU.out.below (show Below u1.heap.size u1 _ by assumption) (Nat.le_refl _)) (show Below u1.heap.size u1 _ by assumption).size hysm (HVV.out.below (show Below w.heap.size w _ by assumption))) ?_
    rintro en u4 ⟨rfl, hb⟩
    have rwu4 := Below.trans (show Below w.heap.size w _ by assumption) (hb.mono (by omega))
    have zwu4 := rwu4.size
    have ru1u4 := Below.trans (show Below u1.heap.size u1 _ by assumption) (hb.mono (by omega))
    have zu1u4 := ru1u4.size
    have rWu4 := Below.trans (show Below W.heap.size W _ by assumption) (hb.mono (by omega))
    have zWu4 := rWu4.size
    have rXvu4 := Below.trans (show Below Xv.heap.size Xv _ by assumption) (hb.mono (by omega))
    have zXvu4 := rXvu4.size
    clear hb yW0 yW1 yW2 yW3 yW4 yW5 yW6 yW7 yW8 yXv0 yXv1 yXv2 yXv3 yXv4 yXv5 yXv6 yXv7 yXv8
    obtain ⟨yW0, yW1, yW2, yW3, yW4, yW5, yW6, yW7, yW8⟩ := HKW.out _ rWu4
    obtain ⟨yXv0, yXv1, yXv2, yXv3, yXv4, yXv5, yXv6, yXv7, yXv8⟩ := HKXv.out _ rXvu4
    have HKK := Lib.hid (fun (E : World) (hE : Below u4.heap.size u4 E) => And.intro (HKXv.out _ (rXvu4.trans (hE.mono zXvu4))) (HKW.out _ (rWu4.trans (hE.mono zWu4))).1)
    have HTX := Lib.hid (fun (E : World) (hE : Below u4.heap.size u4 E) => And.intro (show (⟨!yn, yv, yl, yc, yd⟩ : El).At u1.heap.size E (.agg #[.bool (!yn), .string yv, .int .i64 yl.op, .string yl.a, .slice p yl.ks.list.length c, .int .i64 yc.op, .string yc.a, .slice p' yc.ks.list.length c', .int .i64 yd]) from by obtain ⟨k1, k2, e1, e2, e3⟩ := HAU.out.below (ru1u4.trans (hE.mono zu1u4)) (Nat.le_refl _); cases e1; exact ⟨_, _, rfl, e2, e3⟩) (And.intro (HVV.out.below (rwu4.trans (hE.mono zwu4))).1 (Nat.le_trans zu1u4 hE.size)))
    cases yn with
    | true =>
      have hf : ((tx[0]'h0).toNat : Int) = 40 := by have := hfirst.2 rfl; omega
      have ru40 := Below.refl u4.heap.size u4
      go_upto_region 10 with fail
      refine wp_region_held_drew (S := fun w' => (w'.cell? ⟨u3.heap.size, 0, none⟩ = some (.bool (!true)) ∧ w'.cell? ⟨u3.heap.size, 1, none⟩ = some (.string yv) ∧ w'.cell? ⟨u3.heap.size, 2, none⟩ = some (.int .i64 yl.op) ∧ w'.cell? ⟨u3.heap.size, 3, none⟩ = some (.string yl.a) ∧ w'.cell? ⟨u3.heap.size, 4, none⟩ = some (.slice p yl.ks.list.length c) ∧ w'.cell? ⟨u3.heap.size, 5, none⟩ = some (.int .i64 yc.op) ∧ w'.cell? ⟨u3.heap.size, 6, none⟩ = some (.string yc.a) ∧ w'.cell? ⟨u3.heap.size, 7, none⟩ = some (.slice p' yc.ks.list.length c') ∧ w'.cell? ⟨u3.heap.size, 8, none⟩ = some (.int .i64 yd)) ∧ w'.cell? ⟨u1.heap.size, 0, none⟩ = some (.bool true)) (by kernel_rfl) ?_ (fun hHeld => ?_)
      · exact HKK.out _ (show Below u4.heap.size u4 _ by ((repeat (first | with_reducible assumption | with_reducible exact Below.refl _ _ | refine Below.setCell ?_ (by (first | omega | (simp; omega) | (simp; done) | fail "sml")) _ | refine Below.drew ?_ | refine Below.alloc ?_ (by (first | omega | (simp; omega) | (simp; done) | fail "sml")) _)); first | done | fail "chs"))
      (refine takeL (i := 0) (v := ?_) rfl (by kernel_rfl) (by kernel_rfl) (by kernel_rfl) (fun _ _ _ h => h) (Or.inl ⟨by kernel_rfl, ?_⟩) (by assumption) ?_; rotate_left; (focus (intro w hSw; (try dsimp only at hSw); go_simp; first | done | with_reducible rfl | fail "take")); (try simp only [Act.put, List.setIfInBounds_toArray, List.set_cons_zero, List.set_cons_succ]))
      (refine callL (i := 1) rfl (by kernel_rfl) (by kernel_rfl) (fun K hK => ?_); go_simp)
      go_at_call 8
      refine Calls.mono (EX ▸ elemValid_any (⟨!true, yv, yl, yc, yd⟩ : El) _ u1.heap.size _ (HTX.out _ (show Below u4.heap.size u4 _ by ((repeat (first | with_reducible assumption | with_reducible exact Below.refl _ _ | refine Below.setCell ?_ (by (first | omega | (simp; omega) | (simp; done) | fail "sml")) _ | refine Below.drew ?_ | refine Below.alloc ?_ (by (first | omega | (simp; omega) | (simp; done) | fail "sml")) _)); first | done | fail "chs"))).1 (HTX.out _ (show Below u4.heap.size u4 _ by ((repeat (first | with_reducible assumption | with_reducible exact Below.refl _ _ | refine Below.setCell ?_ (by (first | omega | (simp; omega) | (simp; done) | fail "sml")) _ | refine Below.drew ?_ | refine Below.alloc ?_ (by (first | omega | (simp; omega) | (simp; done) | fail "sml")) _)); first | done | fail "chs"))).2.2 (show (⟨!true, yv, yl, yc, yd⟩ : El).Sm from hysm) (HTX.out _ (show Below u4.heap.size u4 _ by ((repeat (first | with_reducible assumption | with_reducible exact Below.refl _ _ | refine Below.setCell ?_ (by (first | omega | (simp; omega) | (simp; done) | fail "sml")) _ | refine Below.drew ?_ | refine Below.alloc ?_ (by (first | omega | (simp; omega) | (simp; done) | fail "sml")) _)); first | done | fail "chs"))).2.1) ?_
      rintro en wa ⟨rfl, hb⟩
      have rwa := Below.trans (show Below u4.heap.size u4 _ by ((repeat (first | with_reducible assumption | with_reducible exact Below.refl _ _ | refine Below.setCell ?_ (by (first | omega | (simp; omega) | (simp; done) | fail "sml")) _ | refine Below.drew ?_ | refine Below.alloc ?_ (by (first | omega | (simp; omega) | (simp; done) | fail "sml")) _)); first | done | fail "chs")) (hb.mono (by (first | omega | (simp; omega) | (simp; done) | fail "sml")))
      have zwa := rwa.size
      clear hb
      go_wp2_with fail
      refine hK.out _ _ (HKK.out _ (show Below u4.heap.size u4 _ by ((repeat (first | with_reducible assumption | with_reducible exact Below.refl _ _ | refine Below.setCell ?_ (by (first | omega | (simp; omega) | (simp; done) | fail "sml")) _ | refine Below.drew ?_ | refine Below.alloc ?_ (by (first | omega | (simp; omega) | (simp; done) | fail "sml")) _)); first | done | fail "chs"))) (fun hHeld => ?_)
      clear hK K
      (try simp only [Act.put, List.setIfInBounds_toArray, List.set_cons_zero, List.set_cons_succ])
      (refine takeL (i := 2) (v := ?_) rfl (by kernel_rfl) (by kernel_rfl) (by kernel_rfl) (fun _ _ _ h => h) (Or.inl ⟨by kernel_rfl, ?_⟩) (by assumption) ?_; rotate_left; (focus (intro w hSw; (try dsimp only at hSw); go_simp; first | done | with_reducible rfl | fail "take")); (try simp only [Act.put, List.setIfInBounds_toArray, List.set_cons_zero, List.set_cons_succ]))
      (refine takeL (i := 3) (v := ?_) rfl (by kernel_rfl) (by kernel_rfl) (by kernel_rfl) (fun _ _ _ h => h) (Or.inl ⟨by kernel_rfl, ?_⟩) (by assumption) ?_; rotate_left; (focus (intro w hSw; (try dsimp only at hSw); go_simp; first | done | with_reducible rfl | fail "take")); (try simp only [Act.put, List.setIfInBounds_toArray, List.set_cons_zero, List.set_cons_succ]))
      (refine takeL (i := 4) (v := ?_) rfl (by kernel_rfl) (by kernel_rfl) (by kernel_rfl) (fun _ _ _ h => h) (Or.inl ⟨by kernel_rfl, ?_⟩) (by assumption) ?_; rotate_left; (focus (intro w hSw; (try dsimp only at hSw); go_simp; first | done | with_reducible rfl | fail "take")); (try simp only [Act.put, List.setIfInBounds_toArray, List.set_cons_zero, List.set_cons_succ]))
      (refine takeL (i := 5) (v := ?_) rfl (by kernel_rfl) (by kernel_rfl) (by kernel_rfl) (fun _ _ _ h => h) (Or.inl ⟨by kernel_rfl, ?_⟩) (by assumption) ?_; rotate_left; (focus (intro w hSw; (try dsimp only at hSw); go_simp; first | done | with_reducible rfl | fail "take")); (try simp only [Act.put, List.setIfInBounds_toArray, List.set_cons_zero, List.set_cons_succ]))
      (refine takeL (i := 6) (v := ?_) rfl (by kernel_rfl) (by kernel_rfl) (by kernel_rfl) (fun _ _ _ h => h) (Or.inl ⟨by kernel_rfl, ?_⟩) (by assumption) ?_; rotate_left; (focus (intro w hSw; (try dsimp only at hSw); go_simp; first | done | with_reducible rfl | fail "take")); (try simp only [Act.put, List.setIfInBounds_toArray, List.set_cons_zero, List.set_cons_succ]))
      (refine takeL (i := 7) (v := ?_) rfl (by kernel_rfl) (by kernel_rfl) (by kernel_rfl) (fun _ _ _ h => h) (Or.inl ⟨by kernel_rfl, ?_⟩) (by assumption) ?_; rotate_left; (focus (intro w hSw; (try dsimp only at hSw); go_simp; first | done | with_reducible rfl | fail "take")); (try simp only [Act.put, List.setIfInBounds_toArray, List.set_cons_zero, List.set_cons_succ]))
      (refine takeL (i := 8) (v := ?_) rfl (by kernel_rfl) (by kernel_rfl) (by kernel_rfl) (fun _ _ _ h => h) (Or.inl ⟨by kernel_rfl, ?_⟩) (by assumption) ?_; rotate_left; (focus (intro w hSw; (try dsimp only at hSw); go_simp; first | done | with_reducible rfl | fail "take")); (try simp only [Act.put, List.setIfInBounds_toArray, List.set_cons_zero, List.set_cons_succ]))
      (refine takeL (i := 9) (v := ?_) rfl (by kernel_rfl) (by kernel_rfl) (by kernel_rfl) (fun _ _ _ h => h) (Or.inl ⟨by kernel_rfl, ?_⟩) (by assumption) ?_; rotate_left; (focus (intro w hSw; (try dsimp only at hSw); go_simp; first | done | with_reducible rfl | fail "take")); (try simp only [Act.put, List.setIfInBounds_toArray, List.set_cons_zero, List.set_cons_succ]))
      (refine takeL (i := 10) (v := ?_) rfl (by kernel_rfl) (by kernel_rfl) (by kernel_rfl) (fun _ _ _ h => h) (Or.inl ⟨by kernel_rfl, ?_⟩) (by assumption) ?_; rotate_left; (focus (intro w hSw; (try dsimp only at hSw); go_simp; first | done | with_reducible rfl | fail "take")); (try simp only [Act.put, List.setIfInBounds_toArray, List.set_cons_zero, List.set_cons_succ]))
      (refine takeL (i := 11) (v := ?_) rfl (by kernel_rfl) (by kernel_rfl) (by kernel_rfl) (fun _ _ _ h => h) (Or.inl ⟨by kernel_rfl, ?_⟩) (by assumption) ?_; rotate_left; (focus (intro w hSw; (try dsimp only at hSw); go_simp; first | done | with_reducible rfl | fail "take")); (try simp only [Act.put, List.setIfInBounds_toArray, List.set_cons_zero, List.set_cons_succ]))
      refine wpAnyH_done (by kernel_rfl) ?_ _
      go_wp2_with fail
      go_ret
      exact ⟨rfl, rwu4.trans (rwa.mono zwu4)⟩
    | false =>
      have hf : (((tx[0]'h0).toNat : Int) == 40) = false := beq_eq_false_iff_ne.2 (by have := fun h => hfirst.1 h; simp at this; omega)
      have ru40 := Below.refl u4.heap.size u4
      go_upto_region 10 with fail
      refine wp_region_held_drew (S := fun w' => (w'.cell? ⟨u3.heap.size, 0, none⟩ = some (.bool (!false)) ∧ w'.cell? ⟨u3.heap.size, 1, none⟩ = some (.string yv) ∧ w'.cell? ⟨u3.heap.size, 2, none⟩ = some (.int .i64 yl.op) ∧ w'.cell? ⟨u3.heap.size, 3, none⟩ = some (.string yl.a) ∧ w'.cell? ⟨u3.heap.size, 4, none⟩ = some (.slice p yl.ks.list.length c) ∧ w'.cell? ⟨u3.heap.size, 5, none⟩ = some (.int .i64 yc.op) ∧ w'.cell? ⟨u3.heap.size, 6, none⟩ = some (.string yc.a) ∧ w'.cell? ⟨u3.heap.size, 7, none⟩ = some (.slice p' yc.ks.list.length c') ∧ w'.cell? ⟨u3.heap.size, 8, none⟩ = some (.int .i64 yd)) ∧ w'.cell? ⟨u1.heap.size, 0, none⟩ = some (.bool false)) (by kernel_rfl) ?_ (fun hHeld => ?_)
      · exact HKK.out _ (show Below u4.heap.size u4 _ by ((repeat (first | with_reducible assumption | with_reducible exact Below.refl _ _ | refine Below.setCell ?_ (by (first | omega | (simp; omega) | (simp; done) | fail "sml")) _ | refine Below.drew ?_ | refine Below.alloc ?_ (by (first | omega | (simp; omega) | (simp; done) | fail "sml")) _)); first | done | fail "chs"))
      (refine takeL (i := 0) (v := ?_) rfl (by kernel_rfl) (by kernel_rfl) (by kernel_rfl) (fun _ _ _ h => h) (Or.inl ⟨by kernel_rfl, ?_⟩) (by assumption) ?_; rotate_left; (focus (intro w hSw; (try dsimp only at hSw); go_simp; first | done | with_reducible rfl | fail "take")); (try simp only [Act.put, List.setIfInBounds_toArray, List.set_cons_zero, List.set_cons_succ]))
      (refine callL (i := 1) rfl (by kernel_rfl) (by kernel_rfl) (fun K hK => ?_); go_simp)
      go_at_call 8
      refine Calls.mono (EX ▸ elemValid_any (⟨!false, yv, yl, yc, yd⟩ : El) _ u1.heap.size _ (HTX.out _ (show Below u4.heap.size u4 _ by ((repeat (first | with_reducible assumption | with_reducible exact Below.refl _ _ | refine Below.setCell ?_ (by (first | omega | (simp; omega) | (simp; done) | fail "sml")) _ | refine Below.drew ?_ | refine Below.alloc ?_ (by (first | omega | (simp; omega) | (simp; done) | fail "sml")) _)); first | done | fail "chs"))).1 (HTX.out _ (show Below u4.heap.size u4 _ by ((repeat (first | with_reducible assumption | with_reducible exact Below.refl _ _ | refine Below.setCell ?_ (by (first | omega | (simp; omega) | (simp; done) | fail "sml")) _ | refine Below.drew ?_ | refine Below.alloc ?_ (by (first | omega | (simp; omega) | (simp; done) | fail "sml")) _)); first | done | fail "chs"))).2.2 (show (⟨!false, yv, yl, yc, yd⟩ : El).Sm from hysm) (HTX.out _ (show Below u4.heap.size u4 _ by ((repeat (first | with_reducible assumption | with_reducible exact Below.refl _ _ | refine Below.setCell ?_ (by (first | omega | (simp; omega) | (simp; done) | fail "sml")) _ | refine Below.drew ?_ | refine Below.alloc ?_ (by (first | omega | (simp; omega) | (simp; done) | fail "sml")) _)); first | done | fail "chs"))).2.1) ?_
      rintro en wa ⟨rfl, hb⟩
      have rwa := Below.trans (show Below u4.heap.size u4 _ by ((repeat (first | with_reducible assumption | with_reducible exact Below.refl _ _ | refine Below.setCell ?_ (by (first | omega | (simp; omega) | (simp; done) | fail "sml")) _ | refine Below.drew ?_ | refine Below.alloc ?_ (by (first | omega | (simp; omega) | (simp; done) | fail "sml")) _)); first | done | fail "chs")) (hb.mono (by (first | omega | (simp; omega) | (simp; done) | fail "sml")))
      have zwa := rwa.size
      clear hb
      go_wp2_with fail
      refine hK.out _ _ (HKK.out _ (show Below u4.heap.size u4 _ by ((repeat (first | with_reducible assumption | with_reducible exact Below.refl _ _ | refine Below.setCell ?_ (by (first | omega | (simp; omega) | (simp; done) | fail "sml")) _ | refine Below.drew ?_ | refine Below.alloc ?_ (by (first | omega | (simp; omega) | (simp; done) | fail "sml")) _)); first | done | fail "chs"))) (fun hHeld => ?_)
      clear hK K
      (try simp only [Act.put, List.setIfInBounds_toArray, List.set_cons_zero, List.set_cons_succ])
      (refine takeL (i := 2) (v := ?_) rfl (by kernel_rfl) (by kernel_rfl) (by kernel_rfl) (fun _ _ _ h => h) (Or.inl ⟨by kernel_rfl, ?_⟩) (by assumption) ?_; rotate_left; (focus (intro w hSw; (try dsimp only at hSw); go_simp; first | done | with_reducible rfl | fail "take")); (try simp only [Act.put, List.setIfInBounds_toArray, List.set_cons_zero, List.set_cons_succ]))
      (refine takeL (i := 3) (v := ?_) rfl (by kernel_rfl) (by kernel_rfl) (by kernel_rfl) (fun _ _ _ h => h) (Or.inl ⟨by kernel_rfl, ?_⟩) (by assumption) ?_; rotate_left; (focus (intro w hSw; (try dsimp only at hSw); go_simp; first | done | with_reducible rfl | fail "take")); (try simp only [Act.put, List.setIfInBounds_toArray, List.set_cons_zero, List.set_cons_succ]))
      (refine takeL (i := 4) (v := ?_) rfl (by kernel_rfl) (by kernel_rfl) (by kernel_rfl) (fun _ _ _ h => h) (Or.inl ⟨by kernel_rfl, ?_⟩) (by assumption) ?_; rotate_left; (focus (intro w hSw; (try dsimp only at hSw); go_simp; first | done | with_reducible rfl | fail "take")); (try simp only [Act.put, List.setIfInBounds_toArray, List.set_cons_zero, List.set_cons_succ]))
      (refine takeL (i := 5) (v := ?_) rfl (by kernel_rfl) (by kernel_rfl) (by kernel_rfl) (fun _ _ _ h => h) (Or.inl ⟨by kernel_rfl, ?_⟩) (by assumption) ?_; rotate_left; (focus (intro w hSw; (try dsimp only at hSw); go_simp; first | done | with_reducible rfl | fail "take")); (try simp only [Act.put, List.setIfInBounds_toArray, List.set_cons_zero, List.set_cons_succ]))
      (refine takeL (i := 6) (v := ?_) rfl (by kernel_rfl) (by kernel_rfl) (by kernel_rfl) (fun _ _ _ h => h) (Or.inl ⟨by kernel_rfl, ?_⟩) (by assumption) ?_; rotate_left; (focus (intro w hSw; (try dsimp only at hSw); go_simp; first | done | with_reducible rfl | fail "take")); (try simp only [Act.put, List.setIfInBounds_toArray, List.set_cons_zero, List.set_cons_succ]))
      (refine takeL (i := 7) (v := ?_) rfl (by kernel_rfl) (by kernel_rfl) (by kernel_rfl) (fun _ _ _ h => h) (Or.inl ⟨by kernel_rfl, ?_⟩) (by assumption) ?_; rotate_left; (focus (intro w hSw; (try dsimp only at hSw); go_simp; first | done | with_reducible rfl | fail "take")); (try simp only [Act.put, List.setIfInBounds_toArray, List.set_cons_zero, List.set_cons_succ]))
      (refine takeL (i := 8) (v := ?_) rfl (by kernel_rfl) (by kernel_rfl) (by kernel_rfl) (fun _ _ _ h => h) (Or.inl ⟨by kernel_rfl, ?_⟩) (by assumption) ?_; rotate_left; (focus (intro w hSw; (try dsimp only at hSw); go_simp; first | done | with_reducible rfl | fail "take")); (try simp only [Act.put, List.setIfInBounds_toArray, List.set_cons_zero, List.set_cons_succ]))
      (refine takeL (i := 9) (v := ?_) rfl (by kernel_rfl) (by kernel_rfl) (by kernel_rfl) (fun _ _ _ h => h) (Or.inl ⟨by kernel_rfl, ?_⟩) (by assumption) ?_; rotate_left; (focus (intro w hSw; (try dsimp only at hSw); go_simp; first | done | with_reducible rfl | fail "take")); (try simp only [Act.put, List.setIfInBounds_toArray, List.set_cons_zero, List.set_cons_succ]))
      (refine takeL (i := 10) (v := ?_) rfl (by kernel_rfl) (by kernel_rfl) (by kernel_rfl) (fun _ _ _ h => h) (Or.inl ⟨by kernel_rfl, ?_⟩) (by assumption) ?_; rotate_left; (focus (intro w hSw; (try dsimp only at hSw); go_simp; first | done | with_reducible rfl | fail "take")); (try simp only [Act.put, List.setIfInBounds_toArray, List.set_cons_zero, List.set_cons_succ]))
      (refine takeL (i := 11) (v := ?_) rfl (by kernel_rfl) (by kernel_rfl) (by kernel_rfl) (fun _ _ _ h => h) (Or.inl ⟨by kernel_rfl, ?_⟩) (by assumption) ?_; rotate_left; (focus (intro w hSw; (try dsimp only at hSw); go_simp; first | done | with_reducible rfl | fail "take")); (try simp only [Act.put, List.setIfInBounds_toArray, List.set_cons_zero, List.set_cons_succ]))
      refine wpAnyH_done (by kernel_rfl) ?_ _
      go_wp2_with fail
      go_ret
      exact ⟨rfl, rwu4.trans (rwa.mono zwu4)⟩

end Go.Proofs.YtkehmecnoeghoaaDoor
