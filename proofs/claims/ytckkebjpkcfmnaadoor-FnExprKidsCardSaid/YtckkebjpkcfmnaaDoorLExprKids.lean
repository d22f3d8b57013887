/- The walk of FnExprKids. -/
import Derived.Test.YtckkebjpkcfmnaaDoorL2K
import Derived.Test.YtckkebjpkcfmnaaDoorXLaw
import Derived.Test.YtckkebjpkcfmnaaDoorReg
import Derived.Test.YtckkebjpkcfmnaaDoorFmtI
namespace Go.Proofs.YtckkebjpkcfmnaaDoor
open Go.RowKit

set_option maxRecDepth 100000 in
set_option maxHeartbeats 16000000 in
theorem lawExprKids (zs : List Int) (v : Value) (w : World) (hv : Sl 1 byCells w.heap.size w v zs) (hz : ∀ z ∈ zs, 0 ≤ z ∧ z ≤ 255) (hvars : Vars w) :
    Calls Tryd.prog 3 #[v] w fun e w' => e = .returned (.bool true) ∧ Below w.heap.size w w' := by
  have HVV := Lib.hid hvars
  clear hvars
  obtain ⟨p, cap, rfl⟩ := hv.form
  have hm := hv.max
  unfold maxLen at hm
  by_cases hbig : (1048576 : Int) < zs.length
  · go_enter Tryd.func3, Tryd.ntmps3
    go_wp2_with fail
    go_ret
    exact ⟨rfl, Below.refl _ _⟩
  go_enter Tryd.func3, Tryd.ntmps3
  go_wp2_with fail
  have rw0 := Below.refl w.heap.size w
  refine Calls.mono (drawExprValid_any zs _ w.heap.size _ hv (show Below w.heap.size w _ by ((repeat (first | with_reducible assumption | with_reducible exact Below.refl _ _ | refine Below.setCell ?_ (by (first | omega | (simp; omega) | (simp; done) | fail "sml")) _ | refine Below.drew ?_ | refine Below.alloc ?_ (by (first | omega | (simp; omega) | (simp; done) | fail "sml")) _)); first | done | fail "chs")).size hz) ?_
  rintro en u1 ⟨x0, p0', c0', F0, _, rfl, ⟨kd, rfl, hkd⟩, hx, hb⟩
  have rwu1 := Below.trans (show Below w.heap.size w _ by ((repeat (first | with_reducible assumption | with_reducible exact Below.refl _ _ | refine Below.setCell ?_ (by (first | omega | (simp; omega) | (simp; done) | fail "sml")) _ | refine Below.drew ?_ | refine Below.alloc ?_ (by (first | omega | (simp; omega) | (simp; done) | fail "sml")) _)); first | done | fail "chs")) (hb.mono (by (first | omega | (simp; omega) | (simp; done) | fail "sml")))
  have zwu1 := rwu1.size
  have hsm0 : x0.Sml := hx.sm
  have hat0 := hx.at
  have hdn0 := hx.2.2
  clear hx
  clear hb 
  go_wp2_with fail
  obtain ⟨W, eW⟩ : ∃ E, E = u1.alloc (.cells #[.int .i64 x0.op, .string x0.a, .slice p0' x0.ks.list.length c0'] 25) := ⟨_, rfl⟩
  have sW : u1.heap.size < W.heap.size := by rw [eW]; simp
  have kW : Below u1.heap.size u1 W := by rw [eW]; ((repeat (first | with_reducible assumption | with_reducible exact Below.refl _ _ | refine Below.setCell ?_ (by (first | omega | (simp; omega) | (simp; done) | fail "sml")) _ | refine Below.drew ?_ | refine Below.alloc ?_ (by (first | omega | (simp; omega) | (simp; done) | fail "sml")) _)); first | done | fail "chs")
  have HCW := Lib.hid (show W.cell? ⟨u1.heap.size, 0, none⟩ = some (.int .i64 x0.op) ∧ W.cell? ⟨u1.heap.size, 1, none⟩ = some (.string x0.a) ∧ W.cell? ⟨u1.heap.size, 2, none⟩ = some (.slice p0' x0.ks.list.length c0') from by rw [eW]; exact ⟨by simp [go_sem], by simp [go_sem], by simp [go_sem]⟩)
  have HAW := Lib.hid (show x0.At W.heap.size W (.agg #[.int .i64 x0.op, .string x0.a, .slice p0' x0.ks.list.length c0']) from by rw [eW]; exact hat0.below ((Below.refl _ _).alloc (Nat.le_refl _) _) (by simp))
  rw [← eW]
  have rwW := Below.trans (show Below w.heap.size w _ by ((repeat (first | with_reducible assumption | with_reducible exact Below.refl _ _ | refine Below.setCell ?_ (by (first | omega | (simp; omega) | (simp; done) | fail "sml")) _ | refine Below.drew ?_ | refine Below.alloc ?_ (by (first | omega | (simp; omega) | (simp; done) | fail "sml")) _)); first | done | fail "chs")) (kW.mono (by (first | omega | (simp; omega) | (simp; done) | fail "sml")))
  have HKW := Lib.hid (fun (E : World) (hE : Below W.heap.size W E) => (⟨keepc hE sW HCW.out.1, keepc hE sW HCW.out.2.1, keepc hE sW HCW.out.2.2⟩ : E.cell? ⟨u1.heap.size, 0, none⟩ = some (.int .i64 x0.op) ∧ E.cell? ⟨u1.heap.size, 1, none⟩ = some (.string x0.a) ∧ E.cell? ⟨u1.heap.size, 2, none⟩ = some (.slice p0' x0.ks.list.length c0')))
  have rW0 := Below.refl W.heap.size W
  obtain ⟨yW0, yW1, yW2⟩ := HKW.out _ rW0
  clear eW kW
  cases EV : exV kd x0 with
  | false =>
    refine Calls.mono (EV ▸ exprValid_any x0 _ kd W.heap.size _ (HAW.out.below (show Below W.heap.size W _ by ((repeat (first | with_reducible assumption | with_reducible exact Below.refl _ _ | refine Below.setCell ?_ (by (first | omega | (simp; omega) | (simp; done) | fail "sml")) _ | refine Below.drew ?_ | refine Below.alloc ?_ (by (first | omega | (simp; omega) | (simp; done) | fail "sml")) _)); first | done | fail "chs")) (Nat.le_refl _)) (show Below W.heap.size W _ by ((repeat (first | with_reducible assumption | with_reducible exact Below.refl _ _ | refine Below.setCell ?_ (by (first | omega | (simp; omega) | (simp; done) | fail "sml")) _ | refine Below.drew ?_ | refine Below.alloc ?_ (by (first | omega | (simp; omega) | (simp; done) | fail "sml")) _)); first | done | fail "chs")).size hsm0.1 hsm0.2 (HVV.out.below (show Below w.heap.size w _ by ((repeat (first | with_reducible assumption | with_reducible exact Below.refl _ _ | refine Below.setCell ?_ (by (first | omega | (simp; omega) | (simp; done) | fail "sml")) _ | refine Below.drew ?_ | refine Below.alloc ?_ (by (first | omega | (simp; omega) | (simp; done) | fail "sml")) _)); first | done | fail "chs")))) ?_
    rintro en u2 ⟨rfl, hb⟩
    have rwu2 := Below.trans (show Below w.heap.size w _ by ((repeat (first | with_reducible assumption | with_reducible exact Below.refl _ _ | refine Below.setCell ?_ (by (first | omega | (simp; omega) | (simp; done) | fail "sml")) _ | refine Below.drew ?_ | refine Below.alloc ?_ (by (first | omega | (simp; omega) | (simp; done) | fail "sml")) _)); first | done | fail "chs")) (hb.mono (by (first | omega | (simp; omega) | (simp; done) | fail "sml")))
    have zwu2 := rwu2.size
    have rWu2 := Below.trans (show Below W.heap.size W _ by ((repeat (first | with_reducible assumption | with_reducible exact Below.refl _ _ | refine Below.setCell ?_ (by (first | omega | (simp; omega) | (simp; done) | fail "sml")) _ | refine Below.drew ?_ | refine Below.alloc ?_ (by (first | omega | (simp; omega) | (simp; done) | fail "sml")) _)); first | done | fail "chs")) (hb.mono (by (first | omega | (simp; omega) | (simp; done) | fail "sml")))
    have zWu2 := rWu2.size
    clear hb yW0 yW1 yW2
    obtain ⟨yW0, yW1, yW2⟩ := HKW.out _ rWu2
    go_wp2_with fail
    refine Calls.mono (EV ▸ specExprValid_any x0 _ kd W.heap.size _ (HAW.out.below (show Below W.heap.size W _ by ((repeat (first | with_reducible assumption | with_reducible exact Below.refl _ _ | refine Below.setCell ?_ (by (first | omega | (simp; omega) | (simp; done) | fail "sml")) _ | refine Below.drew ?_ | refine Below.alloc ?_ (by (first | omega | (simp; omega) | (simp; done) | fail "sml")) _)); first | done | fail "chs")) (Nat.le_refl _)) (show Below W.heap.size W _ by ((repeat (first | with_reducible assumption | with_reducible exact Below.refl _ _ | refine Below.setCell ?_ (by (first | omega | (simp; omega) | (simp; done) | fail "sml")) _ | refine Below.drew ?_ | refine Below.alloc ?_ (by (first | omega | (simp; omega) | (simp; done) | fail "sml")) _)); first | done | fail "chs")).size hsm0.1 hsm0.2) ?_
    rintro en u3 ⟨rfl, hb⟩
    have rwu3 := Below.trans (show Below w.heap.size w _ by ((repeat (first | with_reducible assumption | with_reducible exact Below.refl _ _ | refine Below.setCell ?_ (by (first | omega | (simp; omega) | (simp; done) | fail "sml")) _ | refine Below.drew ?_ | refine Below.alloc ?_ (by (first | omega | (simp; omega) | (simp; done) | fail "sml")) _)); first | done | fail "chs")) (hb.mono (by (first | omega | (simp; omega) | (simp; done) | fail "sml")))
    have zwu3 := rwu3.size
    have rWu3 := Below.trans (show Below W.heap.size W _ by ((repeat (first | with_reducible assumption | with_reducible exact Below.refl _ _ | refine Below.setCell ?_ (by (first | omega | (simp; omega) | (simp; done) | fail "sml")) _ | refine Below.drew ?_ | refine Below.alloc ?_ (by (first | omega | (simp; omega) | (simp; done) | fail "sml")) _)); first | done | fail "chs")) (hb.mono (by (first | omega | (simp; omega) | (simp; done) | fail "sml")))
    have zWu3 := rWu3.size
    clear hb yW0 yW1 yW2
    obtain ⟨yW0, yW1, yW2⟩ := HKW.out _ rWu3
    go_wp2_with fail
    refine Calls.mono (EV ▸ specExprValid_any x0 _ kd W.heap.size _ (HAW.out.below (show Below W.heap.size W _ by ((repeat (first | with_reducible assumption | with_reducible exact Below.refl _ _ | refine Below.setCell ?_ (by (first | omega | (simp; omega) | (simp; done) | fail "sml")) _ | refine Below.drew ?_ | refine Below.alloc ?_ (by (first | omega | (simp; omega) | (simp; done) | fail "sml")) _)); first | done | fail "chs")) (Nat.le_refl _)) (show Below W.heap.size W _ by ((repeat (first | with_reducible assumption | with_reducible exact Below.refl _ _ | refine Below.setCell ?_ (by (first | omega | (simp; omega) | (simp; done) | fail "sml")) _ | refine Below.drew ?_ | refine Below.alloc ?_ (by (first | omega | (simp; omega) | (simp; done) | fail "sml")) _)); first | done | fail "chs")).size hsm0.1 hsm0.2) ?_
    rintro en u4 ⟨rfl, hb⟩
    have rwu4 := Below.trans (show Below w.heap.size w _ by ((repeat (first | with_reducible assumption | with_reducible exact Below.refl _ _ | refine Below.setCell ?_ (by (first | omega | (simp; omega) | (simp; done) | fail "sml")) _ | refine Below.drew ?_ | refine Below.alloc ?_ (by (first | omega | (simp; omega) | (simp; done) | fail "sml")) _)); first | done | fail "chs")) (hb.mono (by (first | omega | (simp; omega) | (simp; done) | fail "sml")))
    have zwu4 := rwu4.size
    have rWu4 := Below.trans (show Below W.heap.size W _ by ((repeat (first | with_reducible assumption | with_reducible exact Below.refl _ _ | refine Below.setCell ?_ (by (first | omega | (simp; omega) | (simp; done) | fail "sml")) _ | refine Below.drew ?_ | refine Below.alloc ?_ (by (first | omega | (simp; omega) | (simp; done) | fail "sml")) _)); first | done | fail "chs")) (hb.mono (by (first | omega | (simp; omega) | (simp; done) | fail "sml")))
    have zWu4 := rWu4.size
    clear hb yW0 yW1 yW2
    obtain ⟨yW0, yW1, yW2⟩ := HKW.out _ rWu4
    go_wp2_with fail
    go_ret
    exact ⟨rfl, by ((repeat (first | with_reducible assumption | with_reducible exact Below.refl _ _ | refine Below.setCell ?_ (by (first | omega | (simp; omega) | (simp; done) | fail "sml")) _ | refine Below.drew ?_ | refine Below.alloc ?_ (by (first | omega | (simp; omega) | (simp; done) | fail "sml")) _)); first | done | fail "chs")⟩
  | true =>
    have hln : x0.ks.list.length ≤ 16 := Nat.le_trans x0.ks.len_le hdn0.2.2
    have HKV := Lib.hid (fun k hk => exV_kid EV k hk)
    have HFE := Lib.hid (show fmtE kd x0 = x0.txt by unfold fmtE; rw [EV]; rfl)
    have hpos := txt_pos EV
    obtain ⟨tx, HTX⟩ : ∃ tx, x0.txt = tx := ⟨_, rfl⟩
    rw [HTX] at hpos
    obtain ⟨ks0, eks, hks⟩ := HAW.out
    cases eks
    have HKS := Lib.hid hks
    clear hks
    refine Calls.mono (EV ▸ exprValid_any x0 _ kd W.heap.size _ (HAW.out.below (show Below W.heap.size W _ by ((repeat (first | with_reducible assumption | with_reducible exact Below.refl _ _ | refine Below.setCell ?_ (by (first | omega | (simp; omega) | (simp; done) | fail "sml")) _ | refine Below.drew ?_ | refine Below.alloc ?_ (by (first | omega | (simp; omega) | (simp; done) | fail "sml")) _)); first | done | fail "chs")) (Nat.le_refl _)) (show Below W.heap.size W _ by ((repeat (first | with_reducible assumption | with_reducible exact Below.refl _ _ | refine Below.setCell ?_ (by (first | omega | (simp; omega) | (simp; done) | fail "sml")) _ | refine Below.drew ?_ | refine Below.alloc ?_ (by (first | omega | (simp; omega) | (simp; done) | fail "sml")) _)); first | done | fail "chs")).size hsm0.1 hsm0.2 (HVV.out.below (show Below w.heap.size w _ by ((repeat (first | with_reducible assumption | with_reducible exact Below.refl _ _ | refine Below.setCell ?_ (by (first | omega | (simp; omega) | (simp; done) | fail "sml")) _ | refine Below.drew ?_ | refine Below.alloc ?_ (by (first | omega | (simp; omega) | (simp; done) | fail "sml")) _)); first | done | fail "chs")))) ?_
    rintro en u2 ⟨rfl, hb⟩
    have rwu2 := Below.trans (show Below w.heap.size w _ by ((repeat (first | with_reducible assumption | with_reducible exact Below.refl _ _ | refine Below.setCell ?_ (by (first | omega | (simp; omega) | (simp; done) | fail "sml")) _ | refine Below.drew ?_ | refine Below.alloc ?_ (by (first | omega | (simp; omega) | (simp; done) | fail "sml")) _)); first | done | fail "chs")) (hb.mono (by (first | omega | (simp; omega) | (simp; done) | fail "sml")))
    have zwu2 := rwu2.size
    have rWu2 := Below.trans (show Below W.heap.size W _ by ((repeat (first | with_reducible assumption | with_reducible exact Below.refl _ _ | refine Below.setCell ?_ (by (first | omega | (simp; omega) | (simp; done) | fail "sml")) _ | refine Below.drew ?_ | refine Below.alloc ?_ (by (first | omega | (simp; omega) | (simp; done) | fail "sml")) _)); first | done | fail "chs")) (hb.mono (by (first | omega | (simp; omega) | (simp; done) | fail "sml")))
    have zWu2 := rWu2.size
    clear hb yW0 yW1 yW2
    obtain ⟨yW0, yW1, yW2⟩ := HKW.out _ rWu2
    go_wp2_with fail
    refine Calls.mono (EV ▸ specExprValid_any x0 _ kd W.heap.size _ (HAW.out.below (show Below W.heap.size W _ by ((repeat (first | with_reducible assumption | with_reducible exact Below.refl _ _ | refine Below.setCell ?_ (by (first | omega | (simp; omega) | (simp; done) | fail "sml")) _ | refine Below.drew ?_ | refine Below.alloc ?_ (by (first | omega | (simp; omega) | (simp; done) | fail "sml")) _)); first | done | fail "chs")) (Nat.le_refl _)) (show Below W.heap.size W _ by ((repeat (first | with_reducible assumption | with_reducible exact Below.refl _ _ | refine Below.setCell ?_ (by (first | omega | (simp; omega) | (simp; done) | fail "sml")) _ | refine Below.drew ?_ | refine Below.alloc ?_ (by (first | omega | (simp; omega) | (simp; done) | fail "sml")) _)); first | done | fail "chs")).size hsm0.1 hsm0.2) ?_
    rintro en u3 ⟨rfl, hb⟩
    have rwu3 := Below.trans (show Below w.heap.size w _ by ((repeat (first | with_reducible assumption | with_reducible exact Below.refl _ _ | refine Below.setCell ?_ (by (first | omega | (simp; omega) | (simp; done) | fail "sml")) _ | refine Below.drew ?_ | refine Below.alloc ?_ (by (first | omega | (simp; omega) | (simp; done) | fail "sml")) _)); first | done | fail "chs")) (hb.mono (by (first | omega | (simp; omega) | (simp; done) | fail "sml")))
    have zwu3 := rwu3.size
    have rWu3 := Below.trans (show Below W.heap.size W _ by ((repeat (first | with_reducible assumption | with_reducible exact Below.refl _ _ | refine Below.setCell ?_ (by (first | omega | (simp; omega) | (simp; done) | fail "sml")) _ | refine Below.drew ?_ | refine Below.alloc ?_ (by (first | omega | (simp; omega) | (simp; done) | fail "sml")) _)); first | done | fail "chs")) (hb.mono (by (first | omega | (simp; omega) | (simp; done) | fail "sml")))
    have zWu3 := rWu3.size
    clear hb yW0 yW1 yW2
    obtain ⟨yW0, yW1, yW2⟩ := HKW.out _ rWu3
    go_wp2_with fail
    go_loopw [6] (fun i wr => ∃ k : Nat, k ≤ x0.ks.list.length ∧ i = .int .i64 (k : Int) ∧ Below u3.heap.size u3 wr) (fun i _ => x0.ks.list.length - (intOf i).toNat)
    case atStart => exact ⟨0, Nat.zero_le _, rfl, by ((repeat (first | with_reducible assumption | with_reducible exact Below.refl _ _ | refine Below.setCell ?_ (by (first | omega | (simp; omega) | (simp; done) | fail "sml")) _ | refine Below.drew ?_ | refine Below.alloc ?_ (by (first | omega | (simp; omega) | (simp; done) | fail "sml")) _)); first | done | fail "chs")⟩
    case round =>
      obtain ⟨k, hk, rfl, hbr⟩ := hrel
      have rWr := rWu3.trans (hbr.mono zWu3)
      have rwr := rwu3.trans (hbr.mono zwu3)
      have zwr := rWr.size
      have zwr' := rwr.size
      clear yW0 yW1 yW2
      obtain ⟨yW0, yW1, yW2⟩ := HKW.out _ rWr
      by_cases hlt : k < x0.ks.list.length
      · obtain ⟨bb, off, q, m, cc, e1, hbb, d0, d1, d2, hin⟩ := (HKS.out.below rWr (Nat.le_refl _)).get k hlt
        have hyv := HKV.out k hlt
        have hys := hsm0.2.get k hlt
        subst e1
        obtain ⟨y, ey⟩ : ∃ y, y = x0.ks.list[k] := ⟨_, rfl⟩
        rw [← ey] at d0 d1 hin hyv hys
        have HYV := Lib.hid hyv
        clear ey hyv
        go_wp2_with fail
        refine Calls.mono (HYV.out ▸ exprValid_any y _ kd W.heap.size _ ⟨_, rfl, hin.below (Below.refl _ _) (Nat.le_refl _)⟩ rWr.size hys.1 hys.2 (HVV.out.below rwr)) ?_
        rintro en u9 ⟨rfl, hb⟩
        have r9 := hbr.trans (hb.mono (by have := hbr.size; omega))
        clear hb
        go_wp2_with fail
        go_roundw
        case rel => exact ⟨k + 1, by omega, by go_num, r9⟩
        case measure => simp [intOf]; omega
      · obtain rfl : k = x0.ks.list.length := by omega
        have hne := str_nonempty' hpos
        have hne2 := str_nonempty hpos
        have hne3 : tx.toList.isEmpty = false := by simpa using hne
        go_wp2_with fail
        refine Calls.mono ((HFE.out.trans HTX) ▸ formatExpr_any x0 _ kd W.heap.size _ (HAW.out.below rWr (Nat.le_refl _)) rWr.size hsm0.1 hsm0.2 (HVV.out.below rwr)) ?_
        rintro en u9 ⟨rfl, hb⟩
        have r9 := rwr.trans (hb.mono (by omega))
        clear hb
        go_wp2_with fail
        go_ret
        exact ⟨rfl, r9⟩
end Go.Proofs.YtckkebjpkcfmnaaDoor
