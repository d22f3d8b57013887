/- The walk of FnLabelHolds. -/
import Derived.Test.YtckkebjpkcfmnaaDoorL2K
import Derived.Test.YtckkebjpkcfmnaaDoorXLaw
import Derived.Test.YtckkebjpkcfmnaaDoorReg
namespace Go.Proofs.YtckkebjpkcfmnaaDoor
open Go.RowKit

set_option maxRecDepth 100000 in
set_option maxHeartbeats 16000000 in
theorem lawLabelHolds (zs : List Int) (v : Value) (w : World) (hv : Sl 1 byCells w.heap.size w v zs) (hz : ∀ z ∈ zs, 0 ≤ z ∧ z ≤ 255) (hvars : Vars w) :
    Calls Tryd.prog 6 #[v] w fun e w' => e = .returned (.bool true) ∧ Below w.heap.size w w' := by
  have HVV := Lib.hid hvars
  clear hvars
  obtain ⟨p, cap, rfl⟩ := hv.form
  have hm := hv.max
  unfold maxLen at hm
  by_cases hbig : (1048576 : Int) < zs.length
  · go_enter Tryd.func6, Tryd.ntmps6
    go_wp2_with fail
    go_ret
    exact ⟨rfl, Below.refl _ _⟩
  go_enter Tryd.func6, Tryd.ntmps6
  go_wp2_with fail
  have rw0 := Below.refl w.heap.size w
  refine Calls.mono (drawLabelHolds_any zs _ w.heap.size _ hv (show Below w.heap.size w _ by ((repeat (first | with_reducible assumption | with_reducible exact Below.refl _ _ | refine Below.setCell ?_ (by (first | omega | (simp; omega) | (simp; done) | fail "sml")) _ | refine Below.drew ?_ | refine Below.alloc ?_ (by (first | omega | (simp; omega) | (simp; done) | fail "sml")) _)); first | done | fail "chs")).size hz) ?_
  rintro en u1 ⟨x0, p0', c0', F0, _, rfl, ⟨s, rfl, hs⟩, hx, hb⟩
  have rwu1 := Below.trans (show Below w.heap.size w _ by ((repeat (first | with_reducible assumption | with_reducible exact Below.refl _ _ | refine Below.setCell ?_ (by (first | omega | (simp; omega) | (simp; done) | fail "sml")) _ | refine Below.drew ?_ | refine Below.alloc ?_ (by (first | omega | (simp; omega) | (simp; done) | fail "sml")) _)); first | done | fail "chs")) (hb.mono (by (first | omega | (simp; omega) | (simp; done) | fail "sml")))
  have zwu1 := rwu1.size
  have hsm0 : x0.Sml := hx.sm
  have hat0 := hx.at
  have hdn0 := hx.2.2
  clear hx
  clear hb 
  go_wp2_with fail
  obtain ⟨W, eW⟩ : ∃ E, E = u1.alloc (.cells #[.int .i64 x0.op, .string x0.a, .slice p0' x0.ks.list.length c0'] 25) := ⟨_, rfl⟩
  have sW : u1.heap.size < W.heap.size := by rw [eW]; simp
  have kW : Below u1.heap.size u1 W := by rw [eW]; ((repeat (first | with_reducible assumption | with_reducible exact Below.refl _ _ | refine Below.setCell ?_ (by (first | omega | (simp; omega) | (simp; done) | fail "sml")) _ | refine Below.drew ?_ | refine Below.alloc ?_ (by (first | omega | (simp; omega) | (simp; done) | fail "sml")) _)); first | done | fail "chs")
  have HCW := Lib.hid (show W.cell? ⟨u1.heap.size, 0, none⟩ = some (.int .i64 x0.op) ∧ W.cell? ⟨u1.heap.size, 1, none⟩ = some (.string x0.a) ∧ W.cell? ⟨u1.heap.size, 2, none⟩ = some (.slice p0' x0.ks.list.length c0') from by rw [eW]; exact ⟨by simp [go_sem], by simp [go_sem], by simp [go_sem]⟩)
  have HAW := Lib.hid (show x0.At W.heap.size W (.agg #[.int .i64 x0.op, .string x0.a, .slice p0' x0.ks.list.length c0']) from by rw [eW]; exact hat0.below ((Below.refl _ _).alloc (Nat.le_refl _) _) (by simp))
  rw [← eW]
  have rwW := Below.trans (show Below w.heap.size w _ by ((repeat (first | with_reducible assumption | with_reducible exact Below.refl _ _ | refine Below.setCell ?_ (by (first | omega | (simp; omega) | (simp; done) | fail "sml")) _ | refine Below.drew ?_ | refine Below.alloc ?_ (by (first | omega | (simp; omega) | (simp; done) | fail "sml")) _)); first | done | fail "chs")) (kW.mono (by (first | omega | (simp; omega) | (simp; done) | fail "sml")))
  have HKW := Lib.hid (fun (E : World) (hE : Below W.heap.size W E) => (⟨keepc hE sW HCW.out.1, keepc hE sW HCW.out.2.1, keepc hE sW HCW.out.2.2⟩ : E.cell? ⟨u1.heap.size, 0, none⟩ = some (.int .i64 x0.op) ∧ E.cell? ⟨u1.heap.size, 1, none⟩ = some (.string x0.a) ∧ E.cell? ⟨u1.heap.size, 2, none⟩ = some (.slice p0' x0.ks.list.length c0')))
  have rW0 := Below.refl W.heap.size W
  obtain ⟨yW0, yW1, yW2⟩ := HKW.out _ rW0
  clear eW kW
  cases EV : exV 1 x0 with
  | false =>
    have EL : lholds x0 s = false := lholdsF (.inl EV)
    refine Calls.mono (EL ▸ labelHolds_any x0 _ s W.heap.size _ (HAW.out.below (show Below W.heap.size W _ by ((repeat (first | with_reducible assumption | with_reducible exact Below.refl _ _ | refine Below.setCell ?_ (by (first | omega | (simp; omega) | (simp; done) | fail "sml")) _ | refine Below.drew ?_ | refine Below.alloc ?_ (by (first | omega | (simp; omega) | (simp; done) | fail "sml")) _)); first | done | fail "chs")) (Nat.le_refl _)) (show Below W.heap.size W _ by ((repeat (first | with_reducible assumption | with_reducible exact Below.refl _ _ | refine Below.setCell ?_ (by (first | omega | (simp; omega) | (simp; done) | fail "sml")) _ | refine Below.drew ?_ | refine Below.alloc ?_ (by (first | omega | (simp; omega) | (simp; done) | fail "sml")) _)); first | done | fail "chs")).size hsm0.1 hsm0.2 (by omega) (HVV.out.below (show Below w.heap.size w _ by ((repeat (first | with_reducible assumption | with_reducible exact Below.refl _ _ | refine Below.setCell ?_ (by (first | omega | (simp; omega) | (simp; done) | fail "sml")) _ | refine Below.drew ?_ | refine Below.alloc ?_ (by (first | omega | (simp; omega) | (simp; done) | fail "sml")) _)); first | done | fail "chs")))) ?_
    rintro en u2 ⟨rfl, hb⟩
    have rwu2 := Below.trans (show Below w.heap.size w _ by ((repeat (first | with_reducible assumption | with_reducible exact Below.refl _ _ | refine Below.setCell ?_ (by (first | omega | (simp; omega) | (simp; done) | fail "sml")) _ | refine Below.drew ?_ | refine Below.alloc ?_ (by (first | omega | (simp; omega) | (simp; done) | fail "sml")) _)); first | done | fail "chs")) (hb.mono (by (first | omega | (simp; omega) | (simp; done) | fail "sml")))
    have zwu2 := rwu2.size
    have rWu2 := Below.trans (show Below W.heap.size W _ by ((repeat (first | with_reducible assumption | with_reducible exact Below.refl _ _ | refine Below.setCell ?_ (by (first | omega | (simp; omega) | (simp; done) | fail "sml")) _ | refine Below.drew ?_ | refine Below.alloc ?_ (by (first | omega | (simp; omega) | (simp; done) | fail "sml")) _)); first | done | fail "chs")) (hb.mono (by (first | omega | (simp; omega) | (simp; done) | fail "sml")))
    have zWu2 := rWu2.size
    clear hb yW0 yW1 yW2
    obtain ⟨yW0, yW1, yW2⟩ := HKW.out _ rWu2
    go_wp2_with fail
    refine Calls.mono (EL ▸ specLabelHolds_any x0 _ s W.heap.size _ (HAW.out.below (show Below W.heap.size W _ by ((repeat (first | with_reducible assumption | with_reducible exact Below.refl _ _ | refine Below.setCell ?_ (by (first | omega | (simp; omega) | (simp; done) | fail "sml")) _ | refine Below.drew ?_ | refine Below.alloc ?_ (by (first | omega | (simp; omega) | (simp; done) | fail "sml")) _)); first | done | fail "chs")) (Nat.le_refl _)) (show Below W.heap.size W _ by ((repeat (first | with_reducible assumption | with_reducible exact Below.refl _ _ | refine Below.setCell ?_ (by (first | omega | (simp; omega) | (simp; done) | fail "sml")) _ | refine Below.drew ?_ | refine Below.alloc ?_ (by (first | omega | (simp; omega) | (simp; done) | fail "sml")) _)); first | done | fail "chs")).size hsm0.1 hsm0.2 (by omega)) ?_
    rintro en u3 ⟨rfl, hb⟩
    have rwu3 := Below.trans (show Below w.heap.size w _ by ((repeat (first | with_reducible assumption | with_reducible exact Below.refl _ _ | refine Below.setCell ?_ (by (first | omega | (simp; omega) | (simp; done) | fail "sml")) _ | refine Below.drew ?_ | refine Below.alloc ?_ (by (first | omega | (simp; omega) | (simp; done) | fail "sml")) _)); first | done | fail "chs")) (hb.mono (by (first | omega | (simp; omega) | (simp; done) | fail "sml")))
    have zwu3 := rwu3.size
    have rWu3 := Below.trans (show Below W.heap.size W _ by ((repeat (first | with_reducible assumption | with_reducible exact Below.refl _ _ | refine Below.setCell ?_ (by (first | omega | (simp; omega) | (simp; done) | fail "sml")) _ | refine Below.drew ?_ | refine Below.alloc ?_ (by (first | omega | (simp; omega) | (simp; done) | fail "sml")) _)); first | done | fail "chs")) (hb.mono (by (first | omega | (simp; omega) | (simp; done) | fail "sml")))
    have zWu3 := rWu3.size
    clear hb yW0 yW1 yW2
    obtain ⟨yW0, yW1, yW2⟩ := HKW.out _ rWu3
    go_wp2_with fail
    refine Calls.mono (EV ▸ exprValid_any x0 _ 1 W.heap.size _ (HAW.out.below (show Below W.heap.size W _ by ((repeat (first | with_reducible assumption | with_reducible exact Below.refl _ _ | refine Below.setCell ?_ (by (first | omega | (simp; omega) | (simp; done) | fail "sml")) _ | refine Below.drew ?_ | refine Below.alloc ?_ (by (first | omega | (simp; omega) | (simp; done) | fail "sml")) _)); first | done | fail "chs")) (Nat.le_refl _)) (show Below W.heap.size W _ by ((repeat (first | with_reducible assumption | with_reducible exact Below.refl _ _ | refine Below.setCell ?_ (by (first | omega | (simp; omega) | (simp; done) | fail "sml")) _ | refine Below.drew ?_ | refine Below.alloc ?_ (by (first | omega | (simp; omega) | (simp; done) | fail "sml")) _)); first | done | fail "chs")).size hsm0.1 hsm0.2 (HVV.out.below (show Below w.heap.size w _ by ((repeat (first | with_reducible assumption | with_reducible exact Below.refl _ _ | refine Below.setCell ?_ (by (first | omega | (simp; omega) | (simp; done) | fail "sml")) _ | refine Below.drew ?_ | refine Below.alloc ?_ (by (first | omega | (simp; omega) | (simp; done) | fail "sml")) _)); first | done | fail "chs")))) ?_
    rintro en u4 ⟨rfl, hb⟩
    have rwu4 := Below.trans (show Below w.heap.size w _ by ((repeat (first | with_reducible assumption | with_reducible exact Below.refl _ _ | refine Below.setCell ?_ (by (first | omega | (simp; omega) | (simp; done) | fail "sml")) _ | refine Below.drew ?_ | refine Below.alloc ?_ (by (first | omega | (simp; omega) | (simp; done) | fail "sml")) _)); first | done | fail "chs")) (hb.mono (by (first | omega | (simp; omega) | (simp; done) | fail "sml")))
    have zwu4 := rwu4.size
    have rWu4 := Below.trans (show Below W.heap.size W _ by ((repeat (first | with_reducible assumption | with_reducible exact Below.refl _ _ | refine Below.setCell ?_ (by (first | omega | (simp; omega) | (simp; done) | fail "sml")) _ | refine Below.drew ?_ | refine Below.alloc ?_ (by (first | omega | (simp; omega) | (simp; done) | fail "sml")) _)); first | done | fail "chs")) (hb.mono (by (first | omega | (simp; omega) | (simp; done) | fail "sml")))
    have zWu4 := rWu4.size
    clear hb yW0 yW1 yW2
    obtain ⟨yW0, yW1, yW2⟩ := HKW.out _ rWu4
    go_wp2_with fail
    refine Calls.mono (EL ▸ specLabelHolds_any x0 _ s W.heap.size _ (HAW.out.below (show Below W.heap.size W _ by ((repeat (first | with_reducible assumption | with_reducible exact Below.refl _ _ | refine Below.setCell ?_ (by (first | omega | (simp; omega) | (simp; done) | fail "sml")) _ | refine Below.drew ?_ | refine Below.alloc ?_ (by (first | omega | (simp; omega) | (simp; done) | fail "sml")) _)); first | done | fail "chs")) (Nat.le_refl _)) (show Below W.heap.size W _ by ((repeat (first | with_reducible assumption | with_reducible exact Below.refl _ _ | refine Below.setCell ?_ (by (first | omega | (simp; omega) | (simp; done) | fail "sml")) _ | refine Below.drew ?_ | refine Below.alloc ?_ (by (first | omega | (simp; omega) | (simp; done) | fail "sml")) _)); first | done | fail "chs")).size hsm0.1 hsm0.2 (by omega)) ?_
    rintro en u5 ⟨rfl, hb⟩
    have rwu5 := Below.trans (show Below w.heap.size w _ by ((repeat (first | with_reducible assumption | with_reducible exact Below.refl _ _ | refine Below.setCell ?_ (by (first | omega | (simp; omega) | (simp; done) | fail "sml")) _ | refine Below.drew ?_ | refine Below.alloc ?_ (by (first | omega | (simp; omega) | (simp; done) | fail "sml")) _)); first | done | fail "chs")) (hb.mono (by (first | omega | (simp; omega) | (simp; done) | fail "sml")))
    have zwu5 := rwu5.size
    have rWu5 := Below.trans (show Below W.heap.size W _ by ((repeat (first | with_reducible assumption | with_reducible exact Below.refl _ _ | refine Below.setCell ?_ (by (first | omega | (simp; omega) | (simp; done) | fail "sml")) _ | refine Below.drew ?_ | refine Below.alloc ?_ (by (first | omega | (simp; omega) | (simp; done) | fail "sml")) _)); first | done | fail "chs")) (hb.mono (by (first | omega | (simp; omega) | (simp; done) | fail "sml")))
    have zWu5 := rWu5.size
    clear hb yW0 yW1 yW2
    obtain ⟨yW0, yW1, yW2⟩ := HKW.out _ rWu5
    go_wp2_with fail
    go_ret
    exact ⟨rfl, by ((repeat (first | with_reducible assumption | with_reducible exact Below.refl _ _ | refine Below.setCell ?_ (by (first | omega | (simp; omega) | (simp; done) | fail "sml")) _ | refine Below.drew ?_ | refine Below.alloc ?_ (by (first | omega | (simp; omega) | (simp; done) | fail "sml")) _)); first | done | fail "chs")⟩
  | true =>
    by_cases hs0 : s.size = 0
    · have hse : s.toList.isEmpty = true := str_empty' hs0
      have hlb : lbl s = true := by unfold lbl; simp [hs0]
      cases EL : lholds x0 s with
      | false =>
        refine Calls.mono (EL ▸ labelHolds_any x0 _ s W.heap.size _ (HAW.out.below (show Below W.heap.size W _ by ((repeat (first | with_reducible assumption | with_reducible exact Below.refl _ _ | refine Below.setCell ?_ (by (first | omega | (simp; omega) | (simp; done) | fail "sml")) _ | refine Below.drew ?_ | refine Below.alloc ?_ (by (first | omega | (simp; omega) | (simp; done) | fail "sml")) _)); first | done | fail "chs")) (Nat.le_refl _)) (show Below W.heap.size W _ by ((repeat (first | with_reducible assumption | with_reducible exact Below.refl _ _ | refine Below.setCell ?_ (by (first | omega | (simp; omega) | (simp; done) | fail "sml")) _ | refine Below.drew ?_ | refine Below.alloc ?_ (by (first | omega | (simp; omega) | (simp; done) | fail "sml")) _)); first | done | fail "chs")).size hsm0.1 hsm0.2 (by omega) (HVV.out.below (show Below w.heap.size w _ by ((repeat (first | with_reducible assumption | with_reducible exact Below.refl _ _ | refine Below.setCell ?_ (by (first | omega | (simp; omega) | (simp; done) | fail "sml")) _ | refine Below.drew ?_ | refine Below.alloc ?_ (by (first | omega | (simp; omega) | (simp; done) | fail "sml")) _)); first | done | fail "chs")))) ?_
        rintro en u2 ⟨rfl, hb⟩
        have rwu2 := Below.trans (show Below w.heap.size w _ by ((repeat (first | with_reducible assumption | with_reducible exact Below.refl _ _ | refine Below.setCell ?_ (by (first | omega | (simp; omega) | (simp; done) | fail "sml")) _ | refine Below.drew ?_ | refine Below.alloc ?_ (by (first | omega | (simp; omega) | (simp; done) | fail "sml")) _)); first | done | fail "chs")) (hb.mono (by (first | omega | (simp; omega) | (simp; done) | fail "sml")))
        have zwu2 := rwu2.size
        have rWu2 := Below.trans (show Below W.heap.size W _ by ((repeat (first | with_reducible assumption | with_reducible exact Below.refl _ _ | refine Below.setCell ?_ (by (first | omega | (simp; omega) | (simp; done) | fail "sml")) _ | refine Below.drew ?_ | refine Below.alloc ?_ (by (first | omega | (simp; omega) | (simp; done) | fail "sml")) _)); first | done | fail "chs")) (hb.mono (by (first | omega | (simp; omega) | (simp; done) | fail "sml")))
        have zWu2 := rWu2.size
        clear hb yW0 yW1 yW2
        obtain ⟨yW0, yW1, yW2⟩ := HKW.out _ rWu2
        go_wp2_with fail
        refine Calls.mono (EL ▸ specLabelHolds_any x0 _ s W.heap.size _ (HAW.out.below (show Below W.heap.size W _ by ((repeat (first | with_reducible assumption | with_reducible exact Below.refl _ _ | refine Below.setCell ?_ (by (first | omega | (simp; omega) | (simp; done) | fail "sml")) _ | refine Below.drew ?_ | refine Below.alloc ?_ (by (first | omega | (simp; omega) | (simp; done) | fail "sml")) _)); first | done | fail "chs")) (Nat.le_refl _)) (show Below W.heap.size W _ by ((repeat (first | with_reducible assumption | with_reducible exact Below.refl _ _ | refine Below.setCell ?_ (by (first | omega | (simp; omega) | (simp; done) | fail "sml")) _ | refine Below.drew ?_ | refine Below.alloc ?_ (by (first | omega | (simp; omega) | (simp; done) | fail "sml")) _)); first | done | fail "chs")).size hsm0.1 hsm0.2 (by omega)) ?_
        rintro en u3 ⟨rfl, hb⟩
        have rwu3 := Below.trans (show Below w.heap.size w _ by ((repeat (first | with_reducible assumption | with_reducible exact Below.refl _ _ | refine Below.setCell ?_ (by (first | omega | (simp; omega) | (simp; done) | fail "sml")) _ | refine Below.drew ?_ | refine Below.alloc ?_ (by (first | omega | (simp; omega) | (simp; done) | fail "sml")) _)); first | done | fail "chs")) (hb.mono (by (first | omega | (simp; omega) | (simp; done) | fail "sml")))
        have zwu3 := rwu3.size
        have rWu3 := Below.trans (show Below W.heap.size W _ by ((repeat (first | with_reducible assumption | with_reducible exact Below.refl _ _ | refine Below.setCell ?_ (by (first | omega | (simp; omega) | (simp; done) | fail "sml")) _ | refine Below.drew ?_ | refine Below.alloc ?_ (by (first | omega | (simp; omega) | (simp; done) | fail "sml")) _)); first | done | fail "chs")) (hb.mono (by (first | omega | (simp; omega) | (simp; done) | fail "sml")))
        have zWu3 := rWu3.size
        clear hb yW0 yW1 yW2
        obtain ⟨yW0, yW1, yW2⟩ := HKW.out _ rWu3
        go_wp2_with fail
        refine Calls.mono (EV ▸ exprValid_any x0 _ 1 W.heap.size _ (HAW.out.below (show Below W.heap.size W _ by ((repeat (first | with_reducible assumption | with_reducible exact Below.refl _ _ | refine Below.setCell ?_ (by (first | omega | (simp; omega) | (simp; done) | fail "sml")) _ | refine Below.drew ?_ | refine Below.alloc ?_ (by (first | omega | (simp; omega) | (simp; done) | fail "sml")) _)); first | done | fail "chs")) (Nat.le_refl _)) (show Below W.heap.size W _ by ((repeat (first | with_reducible assumption | with_reducible exact Below.refl _ _ | refine Below.setCell ?_ (by (first | omega | (simp; omega) | (simp; done) | fail "sml")) _ | refine Below.drew ?_ | refine Below.alloc ?_ (by (first | omega | (simp; omega) | (simp; done) | fail "sml")) _)); first | done | fail "chs")).size hsm0.1 hsm0.2 (HVV.out.below (show Below w.heap.size w _ by ((repeat (first | with_reducible assumption | with_reducible exact Below.refl _ _ | refine Below.setCell ?_ (by (first | omega | (simp; omega) | (simp; done) | fail "sml")) _ | refine Below.drew ?_ | refine Below.alloc ?_ (by (first | omega | (simp; omega) | (simp; done) | fail "sml")) _)); first | done | fail "chs")))) ?_
        rintro en u4 ⟨rfl, hb⟩
        have rwu4 := Below.trans (show Below w.heap.size w _ by ((repeat (first | with_reducible assumption | with_reducible exact Below.refl _ _ | refine Below.setCell ?_ (by (first | omega | (simp; omega) | (simp; done) | fail "sml")) _ | refine Below.drew ?_ | refine Below.alloc ?_ (by (first | omega | (simp; omega) | (simp; done) | fail "sml")) _)); first | done | fail "chs")) (hb.mono (by (first | omega | (simp; omega) | (simp; done) | fail "sml")))
        have zwu4 := rwu4.size
        have rWu4 := Below.trans (show Below W.heap.size W _ by ((repeat (first | with_reducible assumption | with_reducible exact Below.refl _ _ | refine Below.setCell ?_ (by (first | omega | (simp; omega) | (simp; done) | fail "sml")) _ | refine Below.drew ?_ | refine Below.alloc ?_ (by (first | omega | (simp; omega) | (simp; done) | fail "sml")) _)); first | done | fail "chs")) (hb.mono (by (first | omega | (simp; omega) | (simp; done) | fail "sml")))
        have zWu4 := rWu4.size
        clear hb yW0 yW1 yW2
        obtain ⟨yW0, yW1, yW2⟩ := HKW.out _ rWu4
        go_wp2_with fail
        obtain ⟨ks0, eks, hks⟩ := HAW.out
        cases eks
        obtain ⟨A, eA⟩ : ∃ E, E = (u4.alloc (.cells #[.int .i64 x0.op, .string x0.a, .slice p0' x0.ks.list.length c0'] 25)).alloc (.cells #[.int .i64 3, .string ⟨#[]⟩, .slice (some ⟨u4.heap.size, 0, none⟩) 1 1] 25) := ⟨_, rfl⟩
        have sA : u4.heap.size + 1 < A.heap.size := by rw [eA]; simp
        have kA : Below u4.heap.size u4 A := by rw [eA]; ((repeat (first | with_reducible assumption | with_reducible exact Below.refl _ _ | refine Below.setCell ?_ (by (first | omega | (simp; omega) | (simp; done) | fail "sml")) _ | refine Below.drew ?_ | refine Below.alloc ?_ (by (first | omega | (simp; omega) | (simp; done) | fail "sml")) _)); first | done | fail "chs")
        have HCA := Lib.hid (show A.cell? ⟨u4.heap.size + 1, 0, none⟩ = some (.int .i64 3) ∧ A.cell? ⟨u4.heap.size + 1, 1, none⟩ = some (.string ⟨#[]⟩) ∧ A.cell? ⟨u4.heap.size + 1, 2, none⟩ = some (.slice (some ⟨u4.heap.size, 0, none⟩) 1 1) from by rw [eA]; exact ⟨by simp [go_sem], by simp [go_sem], by simp [go_sem]⟩)
        have HAA := Lib.hid (show (notE x0).At A.heap.size A (.agg #[.int .i64 3, .string ⟨#[]⟩, .slice (some ⟨u4.heap.size, 0, none⟩) 1 1]) from by rw [eA]; exact (notE_at (hks.below rWu4 (Nat.le_refl _)) rWu4.size).below ((Below.refl _ _).alloc (by simp) _) (by simp))
        rw [← eA]
        have rwA := Below.trans (show Below w.heap.size w _ by ((repeat (first | with_reducible assumption | with_reducible exact Below.refl _ _ | refine Below.setCell ?_ (by (first | omega | (simp; omega) | (simp; done) | fail "sml")) _ | refine Below.drew ?_ | refine Below.alloc ?_ (by (first | omega | (simp; omega) | (simp; done) | fail "sml")) _)); first | done | fail "chs")) (kA.mono (by (first | omega | (simp; omega) | (simp; done) | fail "sml")))
        have rWA := Below.trans (show Below W.heap.size W _ by ((repeat (first | with_reducible assumption | with_reducible exact Below.refl _ _ | refine Below.setCell ?_ (by (first | omega | (simp; omega) | (simp; done) | fail "sml")) _ | refine Below.drew ?_ | refine Below.alloc ?_ (by (first | omega | (simp; omega) | (simp; done) | fail "sml")) _)); first | done | fail "chs")) (kA.mono (by (first | omega | (simp; omega) | (simp; done) | fail "sml")))
        have HKA := Lib.hid (fun (E : World) (hE : Below A.heap.size A E) => (⟨keepc hE sA HCA.out.1, keepc hE sA HCA.out.2.1, keepc hE sA HCA.out.2.2⟩ : E.cell? ⟨u4.heap.size + 1, 0, none⟩ = some (.int .i64 3) ∧ E.cell? ⟨u4.heap.size + 1, 1, none⟩ = some (.string ⟨#[]⟩) ∧ E.cell? ⟨u4.heap.size + 1, 2, none⟩ = some (.slice (some ⟨u4.heap.size, 0, none⟩) 1 1)))
        have rA0 := Below.refl A.heap.size A
        obtain ⟨yA0, yA1, yA2⟩ := HKA.out _ rA0
        clear eA kA
        clear yW0 yW1 yW2
        obtain ⟨yW0, yW1, yW2⟩ := HKW.out _ rWA
        cases EN : exV 1 (notE x0) with
        | false =>
          refine Calls.mono (EN ▸ exprValid_any (notE x0) _ 1 A.heap.size _ (HAA.out.below (show Below A.heap.size A _ by ((repeat (first | with_reducible assumption | with_reducible exact Below.refl _ _ | refine Below.setCell ?_ (by (first | omega | (simp; omega) | (simp; done) | fail "sml")) _ | refine Below.drew ?_ | refine Below.alloc ?_ (by (first | omega | (simp; omega) | (simp; done) | fail "sml")) _)); first | done | fail "chs")) (Nat.le_refl _)) (show Below A.heap.size A _ by ((repeat (first | with_reducible assumption | with_reducible exact Below.refl _ _ | refine Below.setCell ?_ (by (first | omega | (simp; omega) | (simp; done) | fail "sml")) _ | refine Below.drew ?_ | refine Below.alloc ?_ (by (first | omega | (simp; omega) | (simp; done) | fail "sml")) _)); first | done | fail "chs")).size (notE_sml hsm0).1 (notE_sml hsm0).2 (HVV.out.below (show Below w.heap.size w _ by ((repeat (first | with_reducible assumption | with_reducible exact Below.refl _ _ | refine Below.setCell ?_ (by (first | omega | (simp; omega) | (simp; done) | fail "sml")) _ | refine Below.drew ?_ | refine Below.alloc ?_ (by (first | omega | (simp; omega) | (simp; done) | fail "sml")) _)); first | done | fail "chs")))) ?_
          rintro en u5 ⟨rfl, hb⟩
          have rwu5 := Below.trans (show Below w.heap.size w _ by ((repeat (first | with_reducible assumption | with_reducible exact Below.refl _ _ | refine Below.setCell ?_ (by (first | omega | (simp; omega) | (simp; done) | fail "sml")) _ | refine Below.drew ?_ | refine Below.alloc ?_ (by (first | omega | (simp; omega) | (simp; done) | fail "sml")) _)); first | done | fail "chs")) (hb.mono (by (first | omega | (simp; omega) | (simp; done) | fail "sml")))
          have zwu5 := rwu5.size
          have rWu5 := Below.trans (show Below W.heap.size W _ by ((repeat (first | with_reducible assumption | with_reducible exact Below.refl _ _ | refine Below.setCell ?_ (by (first | omega | (simp; omega) | (simp; done) | fail "sml")) _ | refine Below.drew ?_ | refine Below.alloc ?_ (by (first | omega | (simp; omega) | (simp; done) | fail "sml")) _)); first | done | fail "chs")) (hb.mono (by (first | omega | (simp; omega) | (simp; done) | fail "sml")))
          have zWu5 := rWu5.size
          have rAu5 := Below.trans (show Below A.heap.size A _ by ((repeat (first | with_reducible assumption | with_reducible exact Below.refl _ _ | refine Below.setCell ?_ (by (first | omega | (simp; omega) | (simp; done) | fail "sml")) _ | refine Below.drew ?_ | refine Below.alloc ?_ (by (first | omega | (simp; omega) | (simp; done) | fail "sml")) _)); first | done | fail "chs")) (hb.mono (by (first | omega | (simp; omega) | (simp; done) | fail "sml")))
          have zAu5 := rAu5.size
          clear hb yW0 yW1 yW2 yA0 yA1 yA2
          obtain ⟨yW0, yW1, yW2⟩ := HKW.out _ rWu5
          obtain ⟨yA0, yA1, yA2⟩ := HKA.out _ rAu5
          go_wp2_with fail
          cases EP : pushOk 1 x0 with
          | false =>
            refine Calls.mono (EP ▸ pushNots_any x0 _ 1 W.heap.size _ (HAW.out.below (show Below W.heap.size W _ by ((repeat (first | with_reducible assumption | with_reducible exact Below.refl _ _ | refine Below.setCell ?_ (by (first | omega | (simp; omega) | (simp; done) | fail "sml")) _ | refine Below.drew ?_ | refine Below.alloc ?_ (by (first | omega | (simp; omega) | (simp; done) | fail "sml")) _)); first | done | fail "chs")) (Nat.le_refl _)) (show Below W.heap.size W _ by ((repeat (first | with_reducible assumption | with_reducible exact Below.refl _ _ | refine Below.setCell ?_ (by (first | omega | (simp; omega) | (simp; done) | fail "sml")) _ | refine Below.drew ?_ | refine Below.alloc ?_ (by (first | omega | (simp; omega) | (simp; done) | fail "sml")) _)); first | done | fail "chs")).size hsm0.1 hsm0.2 (HVV.out.below (show Below w.heap.size w _ by ((repeat (first | with_reducible assumption | with_reducible exact Below.refl _ _ | refine Below.setCell ?_ (by (first | omega | (simp; omega) | (simp; done) | fail "sml")) _ | refine Below.drew ?_ | refine Below.alloc ?_ (by (first | omega | (simp; omega) | (simp; done) | fail "sml")) _)); first | done | fail "chs")))) ?_
            rintro en u6 ⟨v', F', rfl, hpu, hpl, hb⟩
            have rwu6 := Below.trans (show Below w.heap.size w _ by ((repeat (first | with_reducible assumption | with_reducible exact Below.refl _ _ | refine Below.setCell ?_ (by (first | omega | (simp; omega) | (simp; done) | fail "sml")) _ | refine Below.drew ?_ | refine Below.alloc ?_ (by (first | omega | (simp; omega) | (simp; done) | fail "sml")) _)); first | done | fail "chs")) (hb.mono (by (first | omega | (simp; omega) | (simp; done) | fail "sml")))
            have zwu6 := rwu6.size
            have rWu6 := Below.trans (show Below W.heap.size W _ by ((repeat (first | with_reducible assumption | with_reducible exact Below.refl _ _ | refine Below.setCell ?_ (by (first | omega | (simp; omega) | (simp; done) | fail "sml")) _ | refine Below.drew ?_ | refine Below.alloc ?_ (by (first | omega | (simp; omega) | (simp; done) | fail "sml")) _)); first | done | fail "chs")) (hb.mono (by (first | omega | (simp; omega) | (simp; done) | fail "sml")))
            have zWu6 := rWu6.size
            have rAu6 := Below.trans (show Below A.heap.size A _ by ((repeat (first | with_reducible assumption | with_reducible exact Below.refl _ _ | refine Below.setCell ?_ (by (first | omega | (simp; omega) | (simp; done) | fail "sml")) _ | refine Below.drew ?_ | refine Below.alloc ?_ (by (first | omega | (simp; omega) | (simp; done) | fail "sml")) _)); first | done | fail "chs")) (hb.mono (by (first | omega | (simp; omega) | (simp; done) | fail "sml")))
            have zAu6 := rAu6.size
            obtain ⟨kp, rfl, hkp⟩ := hpu
            obtain ⟨pp, cp, rfl⟩ := hkp.in.form
            have hpa : (pushR 1 x0).At u6.heap.size u6 _ := ⟨_, rfl, hkp.in⟩
            clear hkp hpl
            clear hb yW0 yW1 yW2 yA0 yA1 yA2
            obtain ⟨yW0, yW1, yW2⟩ := HKW.out _ rWu6
            obtain ⟨yA0, yA1, yA2⟩ := HKA.out _ rAu6
            go_wp2_with fail
            go_ret
            exact ⟨rfl, by ((repeat (first | with_reducible assumption | with_reducible exact Below.refl _ _ | refine Below.setCell ?_ (by (first | omega | (simp; omega) | (simp; done) | fail "sml")) _ | refine Below.drew ?_ | refine Below.alloc ?_ (by (first | omega | (simp; omega) | (simp; done) | fail "sml")) _)); first | done | fail "chs")⟩
          | true =>
            refine Calls.mono (EP ▸ pushNots_any x0 _ 1 W.heap.size _ (HAW.out.below (show Below W.heap.size W _ by ((repeat (first | with_reducible assumption | with_reducible exact Below.refl _ _ | refine Below.setCell ?_ (by (first | omega | (simp; omega) | (simp; done) | fail "sml")) _ | refine Below.drew ?_ | refine Below.alloc ?_ (by (first | omega | (simp; omega) | (simp; done) | fail "sml")) _)); first | done | fail "chs")) (Nat.le_refl _)) (show Below W.heap.size W _ by ((repeat (first | with_reducible assumption | with_reducible exact Below.refl _ _ | refine Below.setCell ?_ (by (first | omega | (simp; omega) | (simp; done) | fail "sml")) _ | refine Below.drew ?_ | refine Below.alloc ?_ (by (first | omega | (simp; omega) | (simp; done) | fail "sml")) _)); first | done | fail "chs")).size hsm0.1 hsm0.2 (HVV.out.below (show Below w.heap.size w _ by ((repeat (first | with_reducible assumption | with_reducible exact Below.refl _ _ | refine Below.setCell ?_ (by (first | omega | (simp; omega) | (simp; done) | fail "sml")) _ | refine Below.drew ?_ | refine Below.alloc ?_ (by (first | omega | (simp; omega) | (simp; done) | fail "sml")) _)); first | done | fail "chs")))) ?_
            rintro en u6 ⟨v', F', rfl, hpu, hpl, hb⟩
            have rwu6 := Below.trans (show Below w.heap.size w _ by ((repeat (first | with_reducible assumption | with_reducible exact Below.refl _ _ | refine Below.setCell ?_ (by (first | omega | (simp; omega) | (simp; done) | fail "sml")) _ | refine Below.drew ?_ | refine Below.alloc ?_ (by (first | omega | (simp; omega) | (simp; done) | fail "sml")) _)); first | done | fail "chs")) (hb.mono (by (first | omega | (simp; omega) | (simp; done) | fail "sml")))
            have zwu6 := rwu6.size
            have rWu6 := Below.trans (show Below W.heap.size W _ by ((repeat (first | with_reducible assumption | with_reducible exact Below.refl _ _ | refine Below.setCell ?_ (by (first | omega | (simp; omega) | (simp; done) | fail "sml")) _ | refine Below.drew ?_ | refine Below.alloc ?_ (by (first | omega | (simp; omega) | (simp; done) | fail "sml")) _)); first | done | fail "chs")) (hb.mono (by (first | omega | (simp; omega) | (simp; done) | fail "sml")))
            have zWu6 := rWu6.size
            have rAu6 := Below.trans (show Below A.heap.size A _ by ((repeat (first | with_reducible assumption | with_reducible exact Below.refl _ _ | refine Below.setCell ?_ (by (first | omega | (simp; omega) | (simp; done) | fail "sml")) _ | refine Below.drew ?_ | refine Below.alloc ?_ (by (first | omega | (simp; omega) | (simp; done) | fail "sml")) _)); first | done | fail "chs")) (hb.mono (by (first | omega | (simp; omega) | (simp; done) | fail "sml")))
            have zAu6 := rAu6.size
            obtain ⟨kp, rfl, hkp⟩ := hpu
            obtain ⟨pp, cp, rfl⟩ := hkp.in.form
            have hpa : (pushR 1 x0).At u6.heap.size u6 _ := ⟨_, rfl, hkp.in⟩
            clear hkp hpl
            clear hb yW0 yW1 yW2 yA0 yA1 yA2
            obtain ⟨yW0, yW1, yW2⟩ := HKW.out _ rWu6
            obtain ⟨yA0, yA1, yA2⟩ := HKA.out _ rAu6
            have hps : (pushR 1 x0).Sml := by
              have h1 := pushOk_parts EP
              have h2 := Ex.push_sm 12 x0 false (exV_parts h1.1).2.1
              rw [h1.2.2]
              exact ⟨by omega, h2.2⟩
            go_wp2_with fail
            obtain ⟨C, eC⟩ : ∃ E, E = u6.alloc (.cells #[.int .i64 (pushR 1 x0).op, .string (pushR 1 x0).a, .slice pp (pushR 1 x0).ks.list.length cp] 25) := ⟨_, rfl⟩
            have sC : u6.heap.size < C.heap.size := by rw [eC]; simp
            have kC : Below u6.heap.size u6 C := by rw [eC]; ((repeat (first | with_reducible assumption | with_reducible exact Below.refl _ _ | refine Below.setCell ?_ (by (first | omega | (simp; omega) | (simp; done) | fail "sml")) _ | refine Below.drew ?_ | refine Below.alloc ?_ (by (first | omega | (simp; omega) | (simp; done) | fail "sml")) _)); first | done | fail "chs")
            have HCC := Lib.hid (show C.cell? ⟨u6.heap.size, 0, none⟩ = some (.int .i64 (pushR 1 x0).op) ∧ C.cell? ⟨u6.heap.size, 1, none⟩ = some (.string (pushR 1 x0).a) ∧ C.cell? ⟨u6.heap.size, 2, none⟩ = some (.slice pp (pushR 1 x0).ks.list.length cp) from by rw [eC]; exact ⟨by simp [go_sem], by simp [go_sem], by simp [go_sem]⟩)
            have HAC := Lib.hid (show (pushR 1 x0).At C.heap.size C (.agg #[.int .i64 (pushR 1 x0).op, .string (pushR 1 x0).a, .slice pp (pushR 1 x0).ks.list.length cp]) from by rw [eC]; exact hpa.below ((Below.refl _ _).alloc (Nat.le_refl _) _) (by simp))
            rw [← eC]
            have rwC := Below.trans (show Below w.heap.size w _ by ((repeat (first | with_reducible assumption | with_reducible exact Below.refl _ _ | refine Below.setCell ?_ (by (first | omega | (simp; omega) | (simp; done) | fail "sml")) _ | refine Below.drew ?_ | refine Below.alloc ?_ (by (first | omega | (simp; omega) | (simp; done) | fail "sml")) _)); first | done | fail "chs")) (kC.mono (by (first | omega | (simp; omega) | (simp; done) | fail "sml")))
            have rWC := Below.trans (show Below W.heap.size W _ by ((repeat (first | with_reducible assumption | with_reducible exact Below.refl _ _ | refine Below.setCell ?_ (by (first | omega | (simp; omega) | (simp; done) | fail "sml")) _ | refine Below.drew ?_ | refine Below.alloc ?_ (by (first | omega | (simp; omega) | (simp; done) | fail "sml")) _)); first | done | fail "chs")) (kC.mono (by (first | omega | (simp; omega) | (simp; done) | fail "sml")))
            have rAC := Below.trans (show Below A.heap.size A _ by ((repeat (first | with_reducible assumption | with_reducible exact Below.refl _ _ | refine Below.setCell ?_ (by (first | omega | (simp; omega) | (simp; done) | fail "sml")) _ | refine Below.drew ?_ | refine Below.alloc ?_ (by (first | omega | (simp; omega) | (simp; done) | fail "sml")) _)); first | done | fail "chs")) (kC.mono (by (first | omega | (simp; omega) | (simp; done) | fail "sml")))
            have HKC := Lib.hid (fun (E : World) (hE : Below C.heap.size C E) => (⟨keepc hE sC HCC.out.1, keepc hE sC HCC.out.2.1, keepc hE sC HCC.out.2.2⟩ : E.cell? ⟨u6.heap.size, 0, none⟩ = some (.int .i64 (pushR 1 x0).op) ∧ E.cell? ⟨u6.heap.size, 1, none⟩ = some (.string (pushR 1 x0).a) ∧ E.cell? ⟨u6.heap.size, 2, none⟩ = some (.slice pp (pushR 1 x0).ks.list.length cp)))
            have rC0 := Below.refl C.heap.size C
            obtain ⟨yC0, yC1, yC2⟩ := HKC.out _ rC0
            clear eC kC
            clear yW0 yW1 yW2
            obtain ⟨yW0, yW1, yW2⟩ := HKW.out _ rWC
            clear yA0 yA1 yA2
            obtain ⟨yA0, yA1, yA2⟩ := HKA.out _ rAC
            refine Calls.mono (((lholds_push (s := s) EP).trans EL) ▸ labelHolds_any (pushR 1 x0) _ s C.heap.size _ (HAC.out.below (show Below C.heap.size C _ by ((repeat (first | with_reducible assumption | with_reducible exact Below.refl _ _ | refine Below.setCell ?_ (by (first | omega | (simp; omega) | (simp; done) | fail "sml")) _ | refine Below.drew ?_ | refine Below.alloc ?_ (by (first | omega | (simp; omega) | (simp; done) | fail "sml")) _)); first | done | fail "chs")) (Nat.le_refl _)) (show Below C.heap.size C _ by ((repeat (first | with_reducible assumption | with_reducible exact Below.refl _ _ | refine Below.setCell ?_ (by (first | omega | (simp; omega) | (simp; done) | fail "sml")) _ | refine Below.drew ?_ | refine Below.alloc ?_ (by (first | omega | (simp; omega) | (simp; done) | fail "sml")) _)); first | done | fail "chs")).size hps.1 hps.2 (by omega) (HVV.out.below (show Below w.heap.size w _ by ((repeat (first | with_reducible assumption | with_reducible exact Below.refl _ _ | refine Below.setCell ?_ (by (first | omega | (simp; omega) | (simp; done) | fail "sml")) _ | refine Below.drew ?_ | refine Below.alloc ?_ (by (first | omega | (simp; omega) | (simp; done) | fail "sml")) _)); first | done | fail "chs")))) ?_
            rintro en u7 ⟨rfl, hb⟩
            have rwu7 := Below.trans (show Below w.heap.size w _ by ((repeat (first | with_reducible assumption | with_reducible exact Below.refl _ _ | refine Below.setCell ?_ (by (first | omega | (simp; omega) | (simp; done) | fail "sml")) _ | refine Below.drew ?_ | refine Below.alloc ?_ (by (first | omega | (simp; omega) | (simp; done) | fail "sml")) _)); first | done | fail "chs")) (hb.mono (by (first | omega | (simp; omega) | (simp; done) | fail "sml")))
            have zwu7 := rwu7.size
            have rWu7 := Below.trans (show Below W.heap.size W _ by ((repeat (first | with_reducible assumption | with_reducible exact Below.refl _ _ | refine Below.setCell ?_ (by (first | omega | (simp; omega) | (simp; done) | fail "sml")) _ | refine Below.drew ?_ | refine Below.alloc ?_ (by (first | omega | (simp; omega) | (simp; done) | fail "sml")) _)); first | done | fail "chs")) (hb.mono (by (first | omega | (simp; omega) | (simp; done) | fail "sml")))
            have zWu7 := rWu7.size
            have rAu7 := Below.trans (show Below A.heap.size A _ by ((repeat (first | with_reducible assumption | with_reducible exact Below.refl _ _ | refine Below.setCell ?_ (by (first | omega | (simp; omega) | (simp; done) | fail "sml")) _ | refine Below.drew ?_ | refine Below.alloc ?_ (by (first | omega | (simp; omega) | (simp; done) | fail "sml")) _)); first | done | fail "chs")) (hb.mono (by (first | omega | (simp; omega) | (simp; done) | fail "sml")))
            have zAu7 := rAu7.size
            have rCu7 := Below.trans (show Below C.heap.size C _ by ((repeat (first | with_reducible assumption | with_reducible exact Below.refl _ _ | refine Below.setCell ?_ (by (first | omega | (simp; omega) | (simp; done) | fail "sml")) _ | refine Below.drew ?_ | refine Below.alloc ?_ (by (first | omega | (simp; omega) | (simp; done) | fail "sml")) _)); first | done | fail "chs")) (hb.mono (by (first | omega | (simp; omega) | (simp; done) | fail "sml")))
            have zCu7 := rCu7.size
            clear hb yW0 yW1 yW2 yA0 yA1 yA2 yC0 yC1 yC2
            obtain ⟨yW0, yW1, yW2⟩ := HKW.out _ rWu7
            obtain ⟨yA0, yA1, yA2⟩ := HKA.out _ rAu7
            obtain ⟨yC0, yC1, yC2⟩ := HKC.out _ rCu7
            go_wp2_with fail
            go_ret
            exact ⟨rfl, by ((repeat (first | with_reducible assumption | with_reducible exact Below.refl _ _ | refine Below.setCell ?_ (by (first | omega | (simp; omega) | (simp; done) | fail "sml")) _ | refine Below.drew ?_ | refine Below.alloc ?_ (by (first | omega | (simp; omega) | (simp; done) | fail "sml")) _)); first | done | fail "chs")⟩
        | true =>
          refine Calls.mono (EN ▸ exprValid_any (notE x0) _ 1 A.heap.size _ (HAA.out.below (show Below A.heap.size A _ by ((repeat (first | with_reducible assumption | with_reducible exact Below.refl _ _ | refine Below.setCell ?_ (by (first | omega | (simp; omega) | (simp; done) | fail "sml")) _ | refine Below.drew ?_ | refine Below.alloc ?_ (by (first | omega | (simp; omega) | (simp; done) | fail "sml")) _)); first | done | fail "chs")) (Nat.le_refl _)) (show Below A.heap.size A _ by ((repeat (first | with_reducible assumption | with_reducible exact Below.refl _ _ | refine Below.setCell ?_ (by (first | omega | (simp; omega) | (simp; done) | fail "sml")) _ | refine Below.drew ?_ | refine Below.alloc ?_ (by (first | omega | (simp; omega) | (simp; done) | fail "sml")) _)); first | done | fail "chs")).size (notE_sml hsm0).1 (notE_sml hsm0).2 (HVV.out.below (show Below w.heap.size w _ by ((repeat (first | with_reducible assumption | with_reducible exact Below.refl _ _ | refine Below.setCell ?_ (by (first | omega | (simp; omega) | (simp; done) | fail "sml")) _ | refine Below.drew ?_ | refine Below.alloc ?_ (by (first | omega | (simp; omega) | (simp; done) | fail "sml")) _)); first | done | fail "chs")))) ?_
          rintro en u5 ⟨rfl, hb⟩
          have rwu5 := Below.trans (show Below w.heap.size w _ by ((repeat (first | with_reducible assumption | with_reducible exact Below.refl _ _ | refine Below.setCell ?_ (by (first | omega | (simp; omega) | (simp; done) | fail "sml")) _ | refine Below.drew ?_ | refine Below.alloc ?_ (by (first | omega | (simp; omega) | (simp; done) | fail "sml")) _)); first | done | fail "chs")) (hb.mono (by (first | omega | (simp; omega) | (simp; done) | fail "sml")))
          have zwu5 := rwu5.size
          have rWu5 := Below.trans (show Below W.heap.size W _ by ((repeat (first | with_reducible assumption | with_reducible exact Below.refl _ _ | refine Below.setCell ?_ (by (first | omega | (simp; omega) | (simp; done) | fail "sml")) _ | refine Below.drew ?_ | refine Below.alloc ?_ (by (first | omega | (simp; omega) | (simp; done) | fail "sml")) _)); first | done | fail "chs")) (hb.mono (by (first | omega | (simp; omega) | (simp; done) | fail "sml")))
          have zWu5 := rWu5.size
          have rAu5 := Below.trans (show Below A.heap.size A _ by ((repeat (first | with_reducible assumption | with_reducible exact Below.refl _ _ | refine Below.setCell ?_ (by (first | omega | (simp; omega) | (simp; done) | fail "sml")) _ | refine Below.drew ?_ | refine Below.alloc ?_ (by (first | omega | (simp; omega) | (simp; done) | fail "sml")) _)); first | done | fail "chs")) (hb.mono (by (first | omega | (simp; omega) | (simp; done) | fail "sml")))
          have zAu5 := rAu5.size
          clear hb yW0 yW1 yW2 yA0 yA1 yA2
          obtain ⟨yW0, yW1, yW2⟩ := HKW.out _ rWu5
          obtain ⟨yA0, yA1, yA2⟩ := HKA.out _ rAu5
          go_wp2_with fail
          refine Calls.mono ((((lholds_not (s := s) EN hlb).trans (congrArg (!·) EL)).trans (show (!false) = true from rfl)) ▸ labelHolds_any (notE x0) _ s A.heap.size _ (HAA.out.below (show Below A.heap.size A _ by ((repeat (first | with_reducible assumption | with_reducible exact Below.refl _ _ | refine Below.setCell ?_ (by (first | omega | (simp; omega) | (simp; done) | fail "sml")) _ | refine Below.drew ?_ | refine Below.alloc ?_ (by (first | omega | (simp; omega) | (simp; done) | fail "sml")) _)); first | done | fail "chs")) (Nat.le_refl _)) (show Below A.heap.size A _ by ((repeat (first | with_reducible assumption | with_reducible exact Below.refl _ _ | refine Below.setCell ?_ (by (first | omega | (simp; omega) | (simp; done) | fail "sml")) _ | refine Below.drew ?_ | refine Below.alloc ?_ (by (first | omega | (simp; omega) | (simp; done) | fail "sml")) _)); first | done | fail "chs")).size (notE_sml hsm0).1 (notE_sml hsm0).2 (by omega) (HVV.out.below (show Below w.heap.size w _ by ((repeat (first | with_reducible assumption | with_reducible exact Below.refl _ _ | refine Below.setCell ?_ (by (first | omega | (simp; omega) | (simp; done) | fail "sml")) _ | refine Below.drew ?_ | refine Below.alloc ?_ (by (first | omega | (simp; omega) | (simp; done) | fail "sml")) _)); first | done | fail "chs")))) ?_
          rintro en u6 ⟨rfl, hb⟩
          have rwu6 := Below.trans (show Below w.heap.size w _ by ((repeat (first | with_reducible assumption | with_reducible exact Below.refl _ _ | refine Below.setCell ?_ (by (first | omega | (simp; omega) | (simp; done) | fail "sml")) _ | refine Below.drew ?_ | refine Below.alloc ?_ (by (first | omega | (simp; omega) | (simp; done) | fail "sml")) _)); first | done | fail "chs")) (hb.mono (by (first | omega | (simp; omega) | (simp; done) | fail "sml")))
          have zwu6 := rwu6.size
          have rWu6 := Below.trans (show Below W.heap.size W _ by ((repeat (first | with_reducible assumption | with_reducible exact Below.refl _ _ | refine Below.setCell ?_ (by (first | omega | (simp; omega) | (simp; done) | fail "sml")) _ | refine Below.drew ?_ | refine Below.alloc ?_ (by (first | omega | (simp; omega) | (simp; done) | fail "sml")) _)); first | done | fail "chs")) (hb.mono (by (first | omega | (simp; omega) | (simp; done) | fail "sml")))
          have zWu6 := rWu6.size
          have rAu6 := Below.trans (show Below A.heap.size A _ by ((repeat (first | with_reducible assumption | with_reducible exact Below.refl _ _ | refine Below.setCell ?_ (by (first | omega | (simp; omega) | (simp; done) | fail "sml")) _ | refine Below.drew ?_ | refine Below.alloc ?_ (by (first | omega | (simp; omega) | (simp; done) | fail "sml")) _)); first | done | fail "chs")) (hb.mono (by (first | omega | (simp; omega) | (simp; done) | fail "sml")))
          have zAu6 := rAu6.size
          clear hb yW0 yW1 yW2 yA0 yA1 yA2
          obtain ⟨yW0, yW1, yW2⟩ := HKW.out _ rWu6
          obtain ⟨yA0, yA1, yA2⟩ := HKA.out _ rAu6
          go_wp2_with fail
          cases EP : pushOk 1 x0 with
          | false =>
            refine Calls.mono (EP ▸ pushNots_any x0 _ 1 W.heap.size _ (HAW.out.below (show Below W.heap.size W _ by ((repeat (first | with_reducible assumption | with_reducible exact Below.refl _ _ | refine Below.setCell ?_ (by (first | omega | (simp; omega) | (simp; done) | fail "sml")) _ | refine Below.drew ?_ | refine Below.alloc ?_ (by (first | omega | (simp; omega) | (simp; done) | fail "sml")) _)); first | done | fail "chs")) (Nat.le_refl _)) (show Below W.heap.size W _ by ((repeat (first | with_reducible assumption | with_reducible exact Below.refl _ _ | refine Below.setCell ?_ (by (first | omega | (simp; omega) | (simp; done) | fail "sml")) _ | refine Below.drew ?_ | refine Below.alloc ?_ (by (first | omega | (simp; omega) | (simp; done) | fail "sml")) _)); first | done | fail "chs")).size hsm0.1 hsm0.2 (HVV.out.below (show Below w.heap.size w _ by ((repeat (first | with_reducible assumption | with_reducible exact Below.refl _ _ | refine Below.setCell ?_ (by (first | omega | (simp; omega) | (simp; done) | fail "sml")) _ | refine Below.drew ?_ | refine Below.alloc ?_ (by (first | omega | (simp; omega) | (simp; done) | fail "sml")) _)); first | done | fail "chs")))) ?_
            rintro en u7 ⟨v', F', rfl, hpu, hpl, hb⟩
            have rwu7 := Below.trans (show Below w.heap.size w _ by ((repeat (first | with_reducible assumption | with_reducible exact Below.refl _ _ | refine Below.setCell ?_ (by (first | omega | (simp; omega) | (simp; done) | fail "sml")) _ | refine Below.drew ?_ | refine Below.alloc ?_ (by (first | omega | (simp; omega) | (simp; done) | fail "sml")) _)); first | done | fail "chs")) (hb.mono (by (first | omega | (simp; omega) | (simp; done) | fail "sml")))
            have zwu7 := rwu7.size
            have rWu7 := Below.trans (show Below W.heap.size W _ by ((repeat (first | with_reducible assumption | with_reducible exact Below.refl _ _ | refine Below.setCell ?_ (by (first | omega | (simp; omega) | (simp; done) | fail "sml")) _ | refine Below.drew ?_ | refine Below.alloc ?_ (by (first | omega | (simp; omega) | (simp; done) | fail "sml")) _)); first | done | fail "chs")) (hb.mono (by (first | omega | (simp; omega) | (simp; done) | fail "sml")))
            have zWu7 := rWu7.size
            have rAu7 := Below.trans (show Below A.heap.size A _ by ((repeat (first | with_reducible assumption | with_reducible exact Below.refl _ _ | refine Below.setCell ?_ (by (first | omega | (simp; omega) | (simp; done) | fail "sml")) _ | refine Below.drew ?_ | refine Below.alloc ?_ (by (first | omega | (simp; omega) | (simp; done) | fail "sml")) _)); first | done | fail "chs")) (hb.mono (by (first | omega | (simp; omega) | (simp; done) | fail "sml")))
            have zAu7 := rAu7.size
            obtain ⟨kp, rfl, hkp⟩ := hpu
            obtain ⟨pp, cp, rfl⟩ := hkp.in.form
            have hpa : (pushR 1 x0).At u7.heap.size u7 _ := ⟨_, rfl, hkp.in⟩
            clear hkp hpl
            clear hb yW0 yW1 yW2 yA0 yA1 yA2
            obtain ⟨yW0, yW1, yW2⟩ := HKW.out _ rWu7
            obtain ⟨yA0, yA1, yA2⟩ := HKA.out _ rAu7
            go_wp2_with fail
            go_ret
            exact ⟨rfl, by ((repeat (first | with_reducible assumption | with_reducible exact Below.refl _ _ | refine Below.setCell ?_ (by (first | omega | (simp; omega) | (simp; done) | fail "sml")) _ | refine Below.drew ?_ | refine Below.alloc ?_ (by (first | omega | (simp; omega) | (simp; done) | fail "sml")) _)); first | done | fail "chs")⟩
          | true =>
            refine Calls.mono (EP ▸ pushNots_any x0 _ 1 W.heap.size _ (HAW.out.below (show Below W.heap.size W _ by ((repeat (first | with_reducible assumption | with_reducible exact Below.refl _ _ | refine Below.setCell ?_ (by (first | omega | (simp; omega) | (simp; done) | fail "sml")) _ | refine Below.drew ?_ | refine Below.alloc ?_ (by (first | omega | (simp; omega) | (simp; done) | fail "sml")) _)); first | done | fail "chs")) (Nat.le_refl _)) (show Below W.heap.size W _ by ((repeat (first | with_reducible assumption | with_reducible exact Below.refl _ _ | refine Below.setCell ?_ (by (first | omega | (simp; omega) | (simp; done) | fail "sml")) _ | refine Below.drew ?_ | refine Below.alloc ?_ (by (first | omega | (simp; omega) | (simp; done) | fail "sml")) _)); first | done | fail "chs")).size hsm0.1 hsm0.2 (HVV.out.below (show Below w.heap.size w _ by ((repeat (first | with_reducible assumption | with_reducible exact Below.refl _ _ | refine Below.setCell ?_ (by (first | omega | (simp; omega) | (simp; done) | fail "sml")) _ | refine Below.drew ?_ | refine Below.alloc ?_ (by (first | omega | (simp; omega) | (simp; done) | fail "sml")) _)); first | done | fail "chs")))) ?_
            rintro en u7 ⟨v', F', rfl, hpu, hpl, hb⟩
            have rwu7 := Below.trans (show Below w.heap.size w _ by ((repeat (first | with_reducible assumption | with_reducible exact Below.refl _ _ | refine Below.setCell ?_ (by (first | omega | (simp; omega) | (simp; done) | fail "sml")) _ | refine Below.drew ?_ | refine Below.alloc ?_ (by (first | omega | (simp; omega) | (simp; done) | fail "sml")) _)); first | done | fail "chs")) (hb.mono (by (first | omega | (simp; omega) | (simp; done) | fail "sml")))
            have zwu7 := rwu7.size
            have rWu7 := Below.trans (show Below W.heap.size W _ by ((repeat (first | with_reducible assumption | with_reducible exact Below.refl _ _ | refine Below.setCell ?_ (by (first | omega | (simp; omega) | (simp; done) | fail "sml")) _ | refine Below.drew ?_ | refine Below.alloc ?_ (by (first | omega | (simp; omega) | (simp; done) | fail "sml")) _)); first | done | fail "chs")) (hb.mono (by (first | omega | (simp; omega) | (simp; done) | fail "sml")))
            have zWu7 := rWu7.size
            have rAu7 := Below.trans (show Below A.heap.size A _ by ((repeat (first | with_reducible assumption | with_reducible exact Below.refl _ _ | refine Below.setCell ?_ (by (first | omega | (simp; omega) | (simp; done) | fail "sml")) _ | refine Below.drew ?_ | refine Below.alloc ?_ (by (first | omega | (simp; omega) | (simp; done) | fail "sml")) _)); first | done | fail "chs")) (hb.mono (by (first | omega | (simp; omega) | (simp; done) | fail "sml")))
            have zAu7 := rAu7.size
            obtain ⟨kp, rfl, hkp⟩ := hpu
            obtain ⟨pp, cp, rfl⟩ := hkp.in.form
            have hpa : (pushR 1 x0).At u7.heap.size u7 _ := ⟨_, rfl, hkp.in⟩
            clear hkp hpl
            clear hb yW0 yW1 yW2 yA0 yA1 yA2
            obtain ⟨yW0, yW1, yW2⟩ := HKW.out _ rWu7
            obtain ⟨yA0, yA1, yA2⟩ := HKA.out _ rAu7
            have hps : (pushR 1 x0).Sml := by
              have h1 := pushOk_parts EP
              have h2 := Ex.push_sm 12 x0 false (exV_parts h1.1).2.1
              rw [h1.2.2]
              exact ⟨by omega, h2.2⟩
            go_wp2_with fail
            obtain ⟨C, eC⟩ : ∃ E, E = u7.alloc (.cells #[.int .i64 (pushR 1 x0).op, .string (pushR 1 x0).a, .slice pp (pushR 1 x0).ks.list.length cp] 25) := ⟨_, rfl⟩
            have sC : u7.heap.size < C.heap.size := by rw [eC]; simp
            have kC : Below u7.heap.size u7 C := by rw [eC]; ((repeat (first | with_reducible assumption | with_reducible exact Below.refl _ _ | refine Below.setCell ?_ (by (first | omega | (simp; omega) | (simp; done) | fail "sml")) _ | refine Below.drew ?_ | refine Below.alloc ?_ (by (first | omega | (simp; omega) | (simp; done) | fail "sml")) _)); first | done | fail "chs")
            have HCC := Lib.hid (show C.cell? ⟨u7.heap.size, 0, none⟩ = some (.int .i64 (pushR 1 x0).op) ∧ C.cell? ⟨u7.heap.size, 1, none⟩ = some (.string (pushR 1 x0).a) ∧ C.cell? ⟨u7.heap.size, 2, none⟩ = some (.slice pp (pushR 1 x0).ks.list.length cp) from by rw [eC]; exact ⟨by simp [go_sem], by simp [go_sem], by simp [go_sem]⟩)
            have HAC := Lib.hid (show (pushR 1 x0).At C.heap.size C (.agg #[.int .i64 (pushR 1 x0).op, .string (pushR 1 x0).a, .slice pp (pushR 1 x0).ks.list.length cp]) from by rw [eC]; exact hpa.below ((Below.refl _ _).alloc (Nat.le_refl _) _) (by simp))
            rw [← eC]
            have rwC := Below.trans (show Below w.heap.size w _ by ((repeat (first | with_reducible assumption | with_reducible exact Below.refl _ _ | refine Below.setCell ?_ (by (first | omega | (simp; omega) | (simp; done) | fail "sml")) _ | refine Below.drew ?_ | refine Below.alloc ?_ (by (first | omega | (simp; omega) | (simp; done) | fail "sml")) _)); first | done | fail "chs")) (kC.mono (by (first | omega | (simp; omega) | (simp; done) | fail "sml")))
            have rWC := Below.trans (show Below W.heap.size W _ by ((repeat (first | with_reducible assumption | with_reducible exact Below.refl _ _ | refine Below.setCell ?_ (by (first | omega | (simp; omega) | (simp; done) | fail "sml")) _ | refine Below.drew ?_ | refine Below.alloc ?_ (by (first | omega | (simp; omega) | (simp; done) | fail "sml")) _)); first | done | fail "chs")) (kC.mono (by (first | omega | (simp; omega) | (simp; done) | fail "sml")))
            have rAC := Below.trans (show Below A.heap.size A _ by ((repeat (first | with_reducible assumption | with_reducible exact Below.refl _ _ | refine Below.setCell ?_ (by (first | omega | (simp; omega) | (simp; done) | fail "sml")) _ | refine Below.drew ?_ | refine Below.alloc ?_ (by (first | omega | (simp; omega) | (simp; done) | fail "sml")) _)); first | done | fail "chs")) (kC.mono (by (first | omega | (simp; omega) | (simp; done) | fail "sml")))
            have HKC := Lib.hid (fun (E : World) (hE : Below C.heap.size C E) => (⟨keepc hE sC HCC.out.1, keepc hE sC HCC.out.2.1, keepc hE sC HCC.out.2.2⟩ : E.cell? ⟨u7.heap.size, 0, none⟩ = some (.int .i64 (pushR 1 x0).op) ∧ E.cell? ⟨u7.heap.size, 1, none⟩ = some (.string (pushR 1 x0).a) ∧ E.cell? ⟨u7.heap.size, 2, none⟩ = some (.slice pp (pushR 1 x0).ks.list.length cp)))
            have rC0 := Below.refl C.heap.size C
            obtain ⟨yC0, yC1, yC2⟩ := HKC.out _ rC0
            clear eC kC
            clear yW0 yW1 yW2
            obtain ⟨yW0, yW1, yW2⟩ := HKW.out _ rWC
            clear yA0 yA1 yA2
            obtain ⟨yA0, yA1, yA2⟩ := HKA.out _ rAC
            refine Calls.mono (((lholds_push (s := s) EP).trans EL) ▸ labelHolds_any (pushR 1 x0) _ s C.heap.size _ (HAC.out.below (show Below C.heap.size C _ by ((repeat (first | with_reducible assumption | with_reducible exact Below.refl _ _ | refine Below.setCell ?_ (by (first | omega | (simp; omega) | (simp; done) | fail "sml")) _ | refine Below.drew ?_ | refine Below.alloc ?_ (by (first | omega | (simp; omega) | (simp; done) | fail "sml")) _)); first | done | fail "chs")) (Nat.le_refl _)) (show Below C.heap.size C _ by ((repeat (first | with_reducible assumption | with_reducible exact Below.refl _ _ | refine Below.setCell ?_ (by (first | omega | (simp; omega) | (simp; done) | fail "sml")) _ | refine Below.drew ?_ | refine Below.alloc ?_ (by (first | omega | (simp; omega) | (simp; done) | fail "sml")) _)); first | done | fail "chs")).size hps.1 hps.2 (by omega) (HVV.out.below (show Below w.heap.size w _ by ((repeat (first | with_reducible assumption | with_reducible exact Below.refl _ _ | refine Below.setCell ?_ (by (first | omega | (simp; omega) | (simp; done) | fail "sml")) _ | refine Below.drew ?_ | refine Below.alloc ?_ (by (first | omega | (simp; omega) | (simp; done) | fail "sml")) _)); first | done | fail "chs")))) ?_
            rintro en u8 ⟨rfl, hb⟩
            have rwu8 := Below.trans (show Below w.heap.size w _ by ((repeat (first | with_reducible assumption | with_reducible exact Below.refl _ _ | refine Below.setCell ?_ (by (first | omega | (simp; omega) | (simp; done) | fail "sml")) _ | refine Below.drew ?_ | refine Below.alloc ?_ (by (first | omega | (simp; omega) | (simp; done) | fail "sml")) _)); first | done | fail "chs")) (hb.mono (by (first | omega | (simp; omega) | (simp; done) | fail "sml")))
            have zwu8 := rwu8.size
            have rWu8 := Below.trans (show Below W.heap.size W _ by ((repeat (first | with_reducible assumption | with_reducible exact Below.refl _ _ | refine Below.setCell ?_ (by (first | omega | (simp; omega) | (simp; done) | fail "sml")) _ | refine Below.drew ?_ | refine Below.alloc ?_ (by (first | omega | (simp; omega) | (simp; done) | fail "sml")) _)); first | done | fail "chs")) (hb.mono (by (first | omega | (simp; omega) | (simp; done) | fail "sml")))
            have zWu8 := rWu8.size
            have rAu8 := Below.trans (show Below A.heap.size A _ by ((repeat (first | with_reducible assumption | with_reducible exact Below.refl _ _ | refine Below.setCell ?_ (by (first | omega | (simp; omega) | (simp; done) | fail "sml")) _ | refine Below.drew ?_ | refine Below.alloc ?_ (by (first | omega | (simp; omega) | (simp; done) | fail "sml")) _)); first | done | fail "chs")) (hb.mono (by (first | omega | (simp; omega) | (simp; done) | fail "sml")))
            have zAu8 := rAu8.size
            have rCu8 := Below.trans (show Below C.heap.size C _ by ((repeat (first | with_reducible assumption | with_reducible exact Below.refl _ _ | refine Below.setCell ?_ (by (first | omega | (simp; omega) | (simp; done) | fail "sml")) _ | refine Below.drew ?_ | refine Below.alloc ?_ (by (first | omega | (simp; omega) | (simp; done) | fail "sml")) _)); first | done | fail "chs")) (hb.mono (by (first | omega | (simp; omega) | (simp; done) | fail "sml")))
            have zCu8 := rCu8.size
            clear hb yW0 yW1 yW2 yA0 yA1 yA2 yC0 yC1 yC2
            obtain ⟨yW0, yW1, yW2⟩ := HKW.out _ rWu8
            obtain ⟨yA0, yA1, yA2⟩ := HKA.out _ rAu8
            obtain ⟨yC0, yC1, yC2⟩ := HKC.out _ rCu8
            go_wp2_with fail
            go_ret
            exact ⟨rfl, by ((repeat (first | with_reducible assumption | with_reducible exact Below.refl _ _ | refine Below.setCell ?_ (by (first | omega | (simp; omega) | (simp; done) | fail "sml")) _ | refine Below.drew ?_ | refine Below.alloc ?_ (by (first | omega | (simp; omega) | (simp; done) | fail "sml")) _)); first | done | fail "chs")⟩
      | true =>
        refine Calls.mono (EL ▸ labelHolds_any x0 _ s W.heap.size _ (HAW.out.below (show Below W.heap.size W _ by ((repeat (first | with_reducible assumption | with_reducible exact Below.refl _ _ | refine Below.setCell ?_ (by (first | omega | (simp; omega) | (simp; done) | fail "sml")) _ | refine Below.drew ?_ | refine Below.alloc ?_ (by (first | omega | (simp; omega) | (simp; done) | fail "sml")) _)); first | done | fail "chs")) (Nat.le_refl _)) (show Below W.heap.size W _ by ((repeat (first | with_reducible assumption | with_reducible exact Below.refl _ _ | refine Below.setCell ?_ (by (first | omega | (simp; omega) | (simp; done) | fail "sml")) _ | refine Below.drew ?_ | refine Below.alloc ?_ (by (first | omega | (simp; omega) | (simp; done) | fail "sml")) _)); first | done | fail "chs")).size hsm0.1 hsm0.2 (by omega) (HVV.out.below (show Below w.heap.size w _ by ((repeat (first | with_reducible assumption | with_reducible exact Below.refl _ _ | refine Below.setCell ?_ (by (first | omega | (simp; omega) | (simp; done) | fail "sml")) _ | refine Below.drew ?_ | refine Below.alloc ?_ (by (first | omega | (simp; omega) | (simp; done) | fail "sml")) _)); first | done | fail "chs")))) ?_
        rintro en u2 ⟨rfl, hb⟩
        have rwu2 := Below.trans (show Below w.heap.size w _ by ((repeat (first | with_reducible assumption | with_reducible exact Below.refl _ _ | refine Below.setCell ?_ (by (first | omega | (simp; omega) | (simp; done) | fail "sml")) _ | refine Below.drew ?_ | refine Below.alloc ?_ (by (first | omega | (simp; omega) | (simp; done) | fail "sml")) _)); first | done | fail "chs")) (hb.mono (by (first | omega | (simp; omega) | (simp; done) | fail "sml")))
        have zwu2 := rwu2.size
        have rWu2 := Below.trans (show Below W.heap.size W _ by ((repeat (first | with_reducible assumption | with_reducible exact Below.refl _ _ | refine Below.setCell ?_ (by (first | omega | (simp; omega) | (simp; done) | fail "sml")) _ | refine Below.drew ?_ | refine Below.alloc ?_ (by (first | omega | (simp; omega) | (simp; done) | fail "sml")) _)); first | done | fail "chs")) (hb.mono (by (first | omega | (simp; omega) | (simp; done) | fail "sml")))
        have zWu2 := rWu2.size
        clear hb yW0 yW1 yW2
        obtain ⟨yW0, yW1, yW2⟩ := HKW.out _ rWu2
        go_wp2_with fail
        refine Calls.mono (EL ▸ specLabelHolds_any x0 _ s W.heap.size _ (HAW.out.below (show Below W.heap.size W _ by ((repeat (first | with_reducible assumption | with_reducible exact Below.refl _ _ | refine Below.setCell ?_ (by (first | omega | (simp; omega) | (simp; done) | fail "sml")) _ | refine Below.drew ?_ | refine Below.alloc ?_ (by (first | omega | (simp; omega) | (simp; done) | fail "sml")) _)); first | done | fail "chs")) (Nat.le_refl _)) (show Below W.heap.size W _ by ((repeat (first | with_reducible assumption | with_reducible exact Below.refl _ _ | refine Below.setCell ?_ (by (first | omega | (simp; omega) | (simp; done) | fail "sml")) _ | refine Below.drew ?_ | refine Below.alloc ?_ (by (first | omega | (simp; omega) | (simp; done) | fail "sml")) _)); first | done | fail "chs")).size hsm0.1 hsm0.2 (by omega)) ?_
        rintro en u3 ⟨rfl, hb⟩
        have rwu3 := Below.trans (show Below w.heap.size w _ by ((repeat (first | with_reducible assumption | with_reducible exact Below.refl _ _ | refine Below.setCell ?_ (by (first | omega | (simp; omega) | (simp; done) | fail "sml")) _ | refine Below.drew ?_ | refine Below.alloc ?_ (by (first | omega | (simp; omega) | (simp; done) | fail "sml")) _)); first | done | fail "chs")) (hb.mono (by (first | omega | (simp; omega) | (simp; done) | fail "sml")))
        have zwu3 := rwu3.size
        have rWu3 := Below.trans (show Below W.heap.size W _ by ((repeat (first | with_reducible assumption | with_reducible exact Below.refl _ _ | refine Below.setCell ?_ (by (first | omega | (simp; omega) | (simp; done) | fail "sml")) _ | refine Below.drew ?_ | refine Below.alloc ?_ (by (first | omega | (simp; omega) | (simp; done) | fail "sml")) _)); first | done | fail "chs")) (hb.mono (by (first | omega | (simp; omega) | (simp; done) | fail "sml")))
        have zWu3 := rWu3.size
        clear hb yW0 yW1 yW2
        obtain ⟨yW0, yW1, yW2⟩ := HKW.out _ rWu3
        go_wp2_with fail
        refine Calls.mono (EV ▸ exprValid_any x0 _ 1 W.heap.size _ (HAW.out.below (show Below W.heap.size W _ by ((repeat (first | with_reducible assumption | with_reducible exact Below.refl _ _ | refine Below.setCell ?_ (by (first | omega | (simp; omega) | (simp; done) | fail "sml")) _ | refine Below.drew ?_ | refine Below.alloc ?_ (by (first | omega | (simp; omega) | (simp; done) | fail "sml")) _)); first | done | fail "chs")) (Nat.le_refl _)) (show Below W.heap.size W _ by ((repeat (first | with_reducible assumption | with_reducible exact Below.refl _ _ | refine Below.setCell ?_ (by (first | omega | (simp; omega) | (simp; done) | fail "sml")) _ | refine Below.drew ?_ | refine Below.alloc ?_ (by (first | omega | (simp; omega) | (simp; done) | fail "sml")) _)); first | done | fail "chs")).size hsm0.1 hsm0.2 (HVV.out.below (show Below w.heap.size w _ by ((repeat (first | with_reducible assumption | with_reducible exact Below.refl _ _ | refine Below.setCell ?_ (by (first | omega | (simp; omega) | (simp; done) | fail "sml")) _ | refine Below.drew ?_ | refine Below.alloc ?_ (by (first | omega | (simp; omega) | (simp; done) | fail "sml")) _)); first | done | fail "chs")))) ?_
        rintro en u4 ⟨rfl, hb⟩
        have rwu4 := Below.trans (show Below w.heap.size w _ by ((repeat (first | with_reducible assumption | with_reducible exact Below.refl _ _ | refine Below.setCell ?_ (by (first | omega | (simp; omega) | (simp; done) | fail "sml")) _ | refine Below.drew ?_ | refine Below.alloc ?_ (by (first | omega | (simp; omega) | (simp; done) | fail "sml")) _)); first | done | fail "chs")) (hb.mono (by (first | omega | (simp; omega) | (simp; done) | fail "sml")))
        have zwu4 := rwu4.size
        have rWu4 := Below.trans (show Below W.heap.size W _ by ((repeat (first | with_reducible assumption | with_reducible exact Below.refl _ _ | refine Below.setCell ?_ (by (first | omega | (simp; omega) | (simp; done) | fail "sml")) _ | refine Below.drew ?_ | refine Below.alloc ?_ (by (first | omega | (simp; omega) | (simp; done) | fail "sml")) _)); first | done | fail "chs")) (hb.mono (by (first | omega | (simp; omega) | (simp; done) | fail "sml")))
        have zWu4 := rWu4.size
        clear hb yW0 yW1 yW2
        obtain ⟨yW0, yW1, yW2⟩ := HKW.out _ rWu4
        go_wp2_with fail
        obtain ⟨ks0, eks, hks⟩ := HAW.out
        cases eks
        obtain ⟨A, eA⟩ : ∃ E, E = (u4.alloc (.cells #[.int .i64 x0.op, .string x0.a, .slice p0' x0.ks.list.length c0'] 25)).alloc (.cells #[.int .i64 3, .string ⟨#[]⟩, .slice (some ⟨u4.heap.size, 0, none⟩) 1 1] 25) := ⟨_, rfl⟩
        have sA : u4.heap.size + 1 < A.heap.size := by rw [eA]; simp
        have kA : Below u4.heap.size u4 A := by rw [eA]; ((repeat (first | with_reducible assumption | with_reducible exact Below.refl _ _ | refine Below.setCell ?_ (by (first | omega | (simp; omega) | (simp; done) | fail "sml")) _ | refine Below.drew ?_ | refine Below.alloc ?_ (by (first | omega | (simp; omega) | (simp; done) | fail "sml")) _)); first | done | fail "chs")
        have HCA := Lib.hid (show A.cell? ⟨u4.heap.size + 1, 0, none⟩ = some (.int .i64 3) ∧ A.cell? ⟨u4.heap.size + 1, 1, none⟩ = some (.string ⟨#[]⟩) ∧ A.cell? ⟨u4.heap.size + 1, 2, none⟩ = some (.slice (some ⟨u4.heap.size, 0, none⟩) 1 1) from by rw [eA]; exact ⟨by simp [go_sem], by simp [go_sem], by simp [go_sem]⟩)
        have HAA := Lib.hid (show (notE x0).At A.heap.size A (.agg #[.int .i64 3, .string ⟨#[]⟩, .slice (some ⟨u4.heap.size, 0, none⟩) 1 1]) from by rw [eA]; exact (notE_at (hks.below rWu4 (Nat.le_refl _)) rWu4.size).below ((Below.refl _ _).alloc (by simp) _) (by simp))
        rw [← eA]
        have rwA := Below.trans (show Below w.heap.size w _ by ((repeat (first | with_reducible assumption | with_reducible exact Below.refl _ _ | refine Below.setCell ?_ (by (first | omega | (simp; omega) | (simp; done) | fail "sml")) _ | refine Below.drew ?_ | refine Below.alloc ?_ (by (first | omega | (simp; omega) | (simp; done) | fail "sml")) _)); first | done | fail "chs")) (kA.mono (by (first | omega | (simp; omega) | (simp; done) | fail "sml")))
        have rWA := Below.trans (show Below W.heap.size W _ by ((repeat (first | with_reducible assumption | with_reducible exact Below.refl _ _ | refine Below.setCell ?_ (by (first | omega | (simp; omega) | (simp; done) | fail "sml")) _ | refine Below.drew ?_ | refine Below.alloc ?_ (by (first | omega | (simp; omega) | (simp; done) | fail "sml")) _)); first | done | fail "chs")) (kA.mono (by (first | omega | (simp; omega) | (simp; done) | fail "sml")))
        have HKA := Lib.hid (fun (E : World) (hE : Below A.heap.size A E) => (⟨keepc hE sA HCA.out.1, keepc hE sA HCA.out.2.1, keepc hE sA HCA.out.2.2⟩ : E.cell? ⟨u4.heap.size + 1, 0, none⟩ = some (.int .i64 3) ∧ E.cell? ⟨u4.heap.size + 1, 1, none⟩ = some (.string ⟨#[]⟩) ∧ E.cell? ⟨u4.heap.size + 1, 2, none⟩ = some (.slice (some ⟨u4.heap.size, 0, none⟩) 1 1)))
        have rA0 := Below.refl A.heap.size A
        obtain ⟨yA0, yA1, yA2⟩ := HKA.out _ rA0
        clear eA kA
        clear yW0 yW1 yW2
        obtain ⟨yW0, yW1, yW2⟩ := HKW.out _ rWA
        cases EN : exV 1 (notE x0) with
        | false =>
          refine Calls.mono (EN ▸ exprValid_any (notE x0) _ 1 A.heap.size _ (HAA.out.below (show Below A.heap.size A _ by ((repeat (first | with_reducible assumption | with_reducible exact Below.refl _ _ | refine Below.setCell ?_ (by (first | omega | (simp; omega) | (simp; done) | fail "sml")) _ | refine Below.drew ?_ | refine Below.alloc ?_ (by (first | omega | (simp; omega) | (simp; done) | fail "sml")) _)); first | done | fail "chs")) (Nat.le_refl _)) (show Below A.heap.size A _ by ((repeat (first | with_reducible assumption | with_reducible exact Below.refl _ _ | refine Below.setCell ?_ (by (first | omega | (simp; omega) | (simp; done) | fail "sml")) _ | refine Below.drew ?_ | refine Below.alloc ?_ (by (first | omega | (simp; omega) | (simp; done) | fail "sml")) _)); first | done | fail "chs")).size (notE_sml hsm0).1 (notE_sml hsm0).2 (HVV.out.below (show Below w.heap.size w _ by ((repeat (first | with_reducible assumption | with_reducible exact Below.refl _ _ | refine Below.setCell ?_ (by (first | omega | (simp; omega) | (simp; done) | fail "sml")) _ | refine Below.drew ?_ | refine Below.alloc ?_ (by (first | omega | (simp; omega) | (simp; done) | fail "sml")) _)); first | done | fail "chs")))) ?_
          rintro en u5 ⟨rfl, hb⟩
          have rwu5 := Below.trans (show Below w.heap.size w _ by ((repeat (first | with_reducible assumption | with_reducible exact Below.refl _ _ | refine Below.setCell ?_ (by (first | omega | (simp; omega) | (simp; done) | fail "sml")) _ | refine Below.drew ?_ | refine Below.alloc ?_ (by (first | omega | (simp; omega) | (simp; done) | fail "sml")) _)); first | done | fail "chs")) (hb.mono (by (first | omega | (simp; omega) | (simp; done) | fail "sml")))
          have zwu5 := rwu5.size
          have rWu5 := Below.trans (show Below W.heap.size W _ by ((repeat (first | with_reducible assumption | with_reducible exact Below.refl _ _ | refine Below.setCell ?_ (by (first | omega | (simp; omega) | (simp; done) | fail "sml")) _ | refine Below.drew ?_ | refine Below.alloc ?_ (by (first | omega | (simp; omega) | (simp; done) | fail "sml")) _)); first | done | fail "chs")) (hb.mono (by (first | omega | (simp; omega) | (simp; done) | fail "sml")))
          have zWu5 := rWu5.size
          have rAu5 := Below.trans (show Below A.heap.size A _ by ((repeat (first | with_reducible assumption | with_reducible exact Below.refl _ _ | refine Below.setCell ?_ (by (first | omega | (simp; omega) | (simp; done) | fail "sml")) _ | refine Below.drew ?_ | refine Below.alloc ?_ (by (first | omega | (simp; omega) | (simp; done) | fail "sml")) _)); first | done | fail "chs")) (hb.mono (by (first | omega | (simp; omega) | (simp; done) | fail "sml")))
          have zAu5 := rAu5.size
          clear hb yW0 yW1 yW2 yA0 yA1 yA2
          obtain ⟨yW0, yW1, yW2⟩ := HKW.out _ rWu5
          obtain ⟨yA0, yA1, yA2⟩ := HKA.out _ rAu5
          go_wp2_with fail
          cases EP : pushOk 1 x0 with
          | false =>
            refine Calls.mono (EP ▸ pushNots_any x0 _ 1 W.heap.size _ (HAW.out.below (show Below W.heap.size W _ by ((repeat (first | with_reducible assumption | with_reducible exact Below.refl _ _ | refine Below.setCell ?_ (by (first | omega | (simp; omega) | (simp; done) | fail "sml")) _ | refine Below.drew ?_ | refine Below.alloc ?_ (by (first | omega | (simp; omega) | (simp; done) | fail "sml")) _)); first | done | fail "chs")) (Nat.le_refl _)) (show Below W.heap.size W _ by ((repeat (first | with_reducible assumption | with_reducible exact Below.refl _ _ | refine Below.setCell ?_ (by (first | omega | (simp; omega) | (simp; done) | fail "sml")) _ | refine Below.drew ?_ | refine Below.alloc ?_ (by (first | omega | (simp; omega) | (simp; done) | fail "sml")) _)); first | done | fail "chs")).size hsm0.1 hsm0.2 (HVV.out.below (show Below w.heap.size w _ by ((repeat (first | with_reducible assumption | with_reducible exact Below.refl _ _ | refine Below.setCell ?_ (by (first | omega | (simp; omega) | (simp; done) | fail "sml")) _ | refine Below.drew ?_ | refine Below.alloc ?_ (by (first | omega | (simp; omega) | (simp; done) | fail "sml")) _)); first | done | fail "chs")))) ?_
            rintro en u6 ⟨v', F', rfl, hpu, hpl, hb⟩
            have rwu6 := Below.trans (show Below w.heap.size w _ by ((repeat (first | with_reducible assumption | with_reducible exact Below.refl _ _ | refine Below.setCell ?_ (by (first | omega | (simp; omega) | (simp; done) | fail "sml")) _ | refine Below.drew ?_ | refine Below.alloc ?_ (by (first | omega | (simp; omega) | (simp; done) | fail "sml")) _)); first | done | fail "chs")) (hb.mono (by (first | omega | (simp; omega) | (simp; done) | fail "sml")))
            have zwu6 := rwu6.size
            have rWu6 := Below.trans (show Below W.heap.size W _ by ((repeat (first | with_reducible assumption | with_reducible exact Below.refl _ _ | refine Below.setCell ?_ (by (first | omega | (simp; omega) | (simp; done) | fail "sml")) _ | refine Below.drew ?_ | refine Below.alloc ?_ (by (first | omega | (simp; omega) | (simp; done) | fail "sml")) _)); first | done | fail "chs")) (hb.mono (by (first | omega | (simp; omega) | (simp; done) | fail "sml")))
            have zWu6 := rWu6.size
            have rAu6 := Below.trans (show Below A.heap.size A _ by ((repeat (first | with_reducible assumption | with_reducible exact Below.refl _ _ | refine Below.setCell ?_ (by (first | omega | (simp; omega) | (simp; done) | fail "sml")) _ | refine Below.drew ?_ | refine Below.alloc ?_ (by (first | omega | (simp; omega) | (simp; done) | fail "sml")) _)); first | done | fail "chs")) (hb.mono (by (first | omega | (simp; omega) | (simp; done) | fail "sml")))
            have zAu6 := rAu6.size
            obtain ⟨kp, rfl, hkp⟩ := hpu
            obtain ⟨pp, cp, rfl⟩ := hkp.in.form
            have hpa : (pushR 1 x0).At u6.heap.size u6 _ := ⟨_, rfl, hkp.in⟩
            clear hkp hpl
            clear hb yW0 yW1 yW2 yA0 yA1 yA2
            obtain ⟨yW0, yW1, yW2⟩ := HKW.out _ rWu6
            obtain ⟨yA0, yA1, yA2⟩ := HKA.out _ rAu6
            go_wp2_with fail
            go_ret
            exact ⟨rfl, by ((repeat (first | with_reducible assumption | with_reducible exact Below.refl _ _ | refine Below.setCell ?_ (by (first | omega | (simp; omega) | (simp; done) | fail "sml")) _ | refine Below.drew ?_ | refine Below.alloc ?_ (by (first | omega | (simp; omega) | (simp; done) | fail "sml")) _)); first | done | fail "chs")⟩
          | true =>
            refine Calls.mono (EP ▸ pushNots_any x0 _ 1 W.heap.size _ (HAW.out.below (show Below W.heap.size W _ by ((repeat (first | with_reducible assumption | with_reducible exact Below.refl _ _ | refine Below.setCell ?_ (by (first | omega | (simp; omega) | (simp; done) | fail "sml")) _ | refine Below.drew ?_ | refine Below.alloc ?_ (by (first | omega | (simp; omega) | (simp; done) | fail "sml")) _)); first | done | fail "chs")) (Nat.le_refl _)) (show Below W.heap.size W _ by ((repeat (first | with_reducible assumption | with_reducible exact Below.refl _ _ | refine Below.setCell ?_ (by (first | omega | (simp; omega) | (simp; done) | fail "sml")) _ | refine Below.drew ?_ | refine Below.alloc ?_ (by (first | omega | (simp; omega) | (simp; done) | fail "sml")) _)); first | done | fail "chs")).size hsm0.1 hsm0.2 (HVV.out.below (show Below w.heap.size w _ by ((repeat (first | with_reducible assumption | with_reducible exact Below.refl _ _ | refine Below.setCell ?_ (by (first | omega | (simp; omega) | (simp; done) | fail "sml")) _ | refine Below.drew ?_ | refine Below.alloc ?_ (by (first | omega | (simp; omega) | (simp; done) | fail "sml")) _)); first | done | fail "chs")))) ?_
            rintro en u6 ⟨v', F', rfl, hpu, hpl, hb⟩
            have rwu6 := Below.trans (show Below w.heap.size w _ by ((repeat (first | with_reducible assumption | with_reducible exact Below.refl _ _ | refine Below.setCell ?_ (by (first | omega | (simp; omega) | (simp; done) | fail "sml")) _ | refine Below.drew ?_ | refine Below.alloc ?_ (by (first | omega | (simp; omega) | (simp; done) | fail "sml")) _)); first | done | fail "chs")) (hb.mono (by (first | omega | (simp; omega) | (simp; done) | fail "sml")))
            have zwu6 := rwu6.size
            have rWu6 := Below.trans (show Below W.heap.size W _ by ((repeat (first | with_reducible assumption | with_reducible exact Below.refl _ _ | refine Below.setCell ?_ (by (first | omega | (simp; omega) | (simp; done) | fail "sml")) _ | refine Below.drew ?_ | refine Below.alloc ?_ (by (first | omega | (simp; omega) | (simp; done) | fail "sml")) _)); first | done | fail "chs")) (hb.mono (by (first | omega | (simp; omega) | (simp; done) | fail "sml")))
            have zWu6 := rWu6.size
            have rAu6 := Below.trans (show Below A.heap.size A _ by ((repeat (first | with_reducible assumption | with_reducible exact Below.refl _ _ | refine Below.setCell ?_ (by (first | omega | (simp; omega) | (simp; done) | fail "sml")) _ | refine Below.drew ?_ | refine Below.alloc ?_ (by (first | omega | (simp; omega) | (simp; done) | fail "sml")) _)); first | done | fail "chs")) (hb.mono (by (first | omega | (simp; omega) | (simp; done) | fail "sml")))
            have zAu6 := rAu6.size
            obtain ⟨kp, rfl, hkp⟩ := hpu
            obtain ⟨pp, cp, rfl⟩ := hkp.in.form
            have hpa : (pushR 1 x0).At u6.heap.size u6 _ := ⟨_, rfl, hkp.in⟩
            clear hkp hpl
            clear hb yW0 yW1 yW2 yA0 yA1 yA2
            obtain ⟨yW0, yW1, yW2⟩ := HKW.out _ rWu6
            obtain ⟨yA0, yA1, yA2⟩ := HKA.out _ rAu6
            have hps : (pushR 1 x0).Sml := by
              have h1 := pushOk_parts EP
              have h2 := Ex.push_sm 12 x0 false (exV_parts h1.1).2.1
              rw [h1.2.2]
              exact ⟨by omega, h2.2⟩
            go_wp2_with fail
            obtain ⟨C, eC⟩ : ∃ E, E = u6.alloc (.cells #[.int .i64 (pushR 1 x0).op, .string (pushR 1 x0).a, .slice pp (pushR 1 x0).ks.list.length cp] 25) := ⟨_, rfl⟩
            have sC : u6.heap.size < C.heap.size := by rw [eC]; simp
            have kC : Below u6.heap.size u6 C := by rw [eC]; ((repeat (first | with_reducible assumption | with_reducible exact Below.refl _ _ | refine Below.setCell ?_ (by (first | omega | (simp; omega) | (simp; done) | fail "sml")) _ | refine Below.drew ?_ | refine Below.alloc ?_ (by (first | omega | (simp; omega) | (simp; done) | fail "sml")) _)); first | done | fail "chs")
            have HCC := Lib.hid (show C.cell? ⟨u6.heap.size, 0, none⟩ = some (.int .i64 (pushR 1 x0).op) ∧ C.cell? ⟨u6.heap.size, 1, none⟩ = some (.string (pushR 1 x0).a) ∧ C.cell? ⟨u6.heap.size, 2, none⟩ = some (.slice pp (pushR 1 x0).ks.list.length cp) from by rw [eC]; exact ⟨by simp [go_sem], by simp [go_sem], by simp [go_sem]⟩)
            have HAC := Lib.hid (show (pushR 1 x0).At C.heap.size C (.agg #[.int .i64 (pushR 1 x0).op, .string (pushR 1 x0).a, .slice pp (pushR 1 x0).ks.list.length cp]) from by rw [eC]; exact hpa.below ((Below.refl _ _).alloc (Nat.le_refl _) _) (by simp))
            rw [← eC]
            have rwC := Below.trans (show Below w.heap.size w _ by ((repeat (first | with_reducible assumption | with_reducible exact Below.refl _ _ | refine Below.setCell ?_ (by (first | omega | (simp; omega) | (simp; done) | fail "sml")) _ | refine Below.drew ?_ | refine Below.alloc ?_ (by (first | omega | (simp; omega) | (simp; done) | fail "sml")) _)); first | done | fail "chs")) (kC.mono (by (first | omega | (simp; omega) | (simp; done) | fail "sml")))
            have rWC := Below.trans (show Below W.heap.size W _ by ((repeat (first | with_reducible assumption | with_reducible exact Below.refl _ _ | refine Below.setCell ?_ (by (first | omega | (simp; omega) | (simp; done) | fail "sml")) _ | refine Below.drew ?_ | refine Below.alloc ?_ (by (first | omega | (simp; omega) | (simp; done) | fail "sml")) _)); first | done | fail "chs")) (kC.mono (by (first | omega | (simp; omega) | (simp; done) | fail "sml")))
            have rAC := Below.trans (show Below A.heap.size A _ by ((repeat (first | with_reducible assumption | with_reducible exact Below.refl _ _ | refine Below.setCell ?_ (by (first | omega | (simp; omega) | (simp; done) | fail "sml")) _ | refine Below.drew ?_ | refine Below.alloc ?_ (by (first | omega | (simp; omega) | (simp; done) | fail "sml")) _)); first | done | fail "chs")) (kC.mono (by (first | omega | (simp; omega) | (simp; done) | fail "sml")))
            have HKC := Lib.hid (fun (E : World) (hE : Below C.heap.size C E) => (⟨keepc hE sC HCC.out.1, keepc hE sC HCC.out.2.1, keepc hE sC HCC.out.2.2⟩ : E.cell? ⟨u6.heap.size, 0, none⟩ = some (.int .i64 (pushR 1 x0).op) ∧ E.cell? ⟨u6.heap.size, 1, none⟩ = some (.string (pushR 1 x0).a) ∧ E.cell? ⟨u6.heap.size, 2, none⟩ = some (.slice pp (pushR 1 x0).ks.list.length cp)))
            have rC0 := Below.refl C.heap.size C
            obtain ⟨yC0, yC1, yC2⟩ := HKC.out _ rC0
            clear eC kC
            clear yW0 yW1 yW2
            obtain ⟨yW0, yW1, yW2⟩ := HKW.out _ rWC
            clear yA0 yA1 yA2
            obtain ⟨yA0, yA1, yA2⟩ := HKA.out _ rAC
            refine Calls.mono (((lholds_push (s := s) EP).trans EL) ▸ labelHolds_any (pushR 1 x0) _ s C.heap.size _ (HAC.out.below (show Below C.heap.size C _ by ((repeat (first | with_reducible assumption | with_reducible exact Below.refl _ _ | refine Below.setCell ?_ (by (first | omega | (simp; omega) | (simp; done) | fail "sml")) _ | refine Below.drew ?_ | refine Below.alloc ?_ (by (first | omega | (simp; omega) | (simp; done) | fail "sml")) _)); first | done | fail "chs")) (Nat.le_refl _)) (show Below C.heap.size C _ by ((repeat (first | with_reducible assumption | with_reducible exact Below.refl _ _ | refine Below.setCell ?_ (by (first | omega | (simp; omega) | (simp; done) | fail "sml")) _ | refine Below.drew ?_ | refine Below.alloc ?_ (by (first | omega | (simp; omega) | (simp; done) | fail "sml")) _)); first | done | fail "chs")).size hps.1 hps.2 (by omega) (HVV.out.below (show Below w.heap.size w _ by ((repeat (first | with_reducible assumption | with_reducible exact Below.refl _ _ | refine Below.setCell ?_ (by (first | omega | (simp; omega) | (simp; done) | fail "sml")) _ | refine Below.drew ?_ | refine Below.alloc ?_ (by (first | omega | (simp; omega) | (simp; done) | fail "sml")) _)); first | done | fail "chs")))) ?_
            rintro en u7 ⟨rfl, hb⟩
            have rwu7 := Below.trans (show Below w.heap.size w _ by ((repeat (first | with_reducible assumption | with_reducible exact Below.refl _ _ | refine Below.setCell ?_ (by (first | omega | (simp; omega) | (simp; done) | fail "sml")) _ | refine Below.drew ?_ | refine Below.alloc ?_ (by (first | omega | (simp; omega) | (simp; done) | fail "sml")) _)); first | done | fail "chs")) (hb.mono (by (first | omega | (simp; omega) | (simp; done) | fail "sml")))
            have zwu7 := rwu7.size
            have rWu7 := Below.trans (show Below W.heap.size W _ by ((repeat (first | with_reducible assumption | with_reducible exact Below.refl _ _ | refine Below.setCell ?_ (by (first | omega | (simp; omega) | (simp; done) | fail "sml")) _ | refine Below.drew ?_ | refine Below.alloc ?_ (by (first | omega | (simp; omega) | (simp; done) | fail "sml")) _)); first | done | fail "chs")) (hb.mono (by (first | omega | (simp; omega) | (simp; done) | fail "sml")))
            have zWu7 := rWu7.size
            have rAu7 := Below.trans (show Below A.heap.size A _ by ((repeat (first | with_reducible assumption | with_reducible exact Below.refl _ _ | refine Below.setCell ?_ (by (first | omega | (simp; omega) | (simp; done) | fail "sml")) _ | refine Below.drew ?_ | refine Below.alloc ?_ (by (first | omega | (simp; omega) | (simp; done) | fail "sml")) _)); first | done | fail "chs")) (hb.mono (by (first | omega | (simp; omega) | (simp; done) | fail "sml")))
            have zAu7 := rAu7.size
            have rCu7 := Below.trans (show Below C.heap.size C _ by ((repeat (first | with_reducible assumption | with_reducible exact Below.refl _ _ | refine Below.setCell ?_ (by (first | omega | (simp; omega) | (simp; done) | fail "sml")) _ | refine Below.drew ?_ | refine Below.alloc ?_ (by (first | omega | (simp; omega) | (simp; done) | fail "sml")) _)); first | done | fail "chs")) (hb.mono (by (first | omega | (simp; omega) | (simp; done) | fail "sml")))
            have zCu7 := rCu7.size
            clear hb yW0 yW1 yW2 yA0 yA1 yA2 yC0 yC1 yC2
            obtain ⟨yW0, yW1, yW2⟩ := HKW.out _ rWu7
            obtain ⟨yA0, yA1, yA2⟩ := HKA.out _ rAu7
            obtain ⟨yC0, yC1, yC2⟩ := HKC.out _ rCu7
            go_wp2_with fail
            go_ret
            exact ⟨rfl, by ((repeat (first | with_reducible assumption | with_reducible exact Below.refl _ _ | refine Below.setCell ?_ (by (first | omega | (simp; omega) | (simp; done) | fail "sml")) _ | refine Below.drew ?_ | refine Below.alloc ?_ (by (first | omega | (simp; omega) | (simp; done) | fail "sml")) _)); first | done | fail "chs")⟩
        | true =>
          refine Calls.mono (EN ▸ exprValid_any (notE x0) _ 1 A.heap.size _ (HAA.out.below (show Below A.heap.size A _ by ((repeat (first | with_reducible assumption | with_reducible exact Below.refl _ _ | refine Below.setCell ?_ (by (first | omega | (simp; omega) | (simp; done) | fail "sml")) _ | refine Below.drew ?_ | refine Below.alloc ?_ (by (first | omega | (simp; omega) | (simp; done) | fail "sml")) _)); first | done | fail "chs")) (Nat.le_refl _)) (show Below A.heap.size A _ by ((repeat (first | with_reducible assumption | with_reducible exact Below.refl _ _ | refine Below.setCell ?_ (by (first | omega | (simp; omega) | (simp; done) | fail "sml")) _ | refine Below.drew ?_ | refine Below.alloc ?_ (by (first | omega | (simp; omega) | (simp; done) | fail "sml")) _)); first | done | fail "chs")).size (notE_sml hsm0).1 (notE_sml hsm0).2 (HVV.out.below (show Below w.heap.size w _ by ((repeat (first | with_reducible assumption | with_reducible exact Below.refl _ _ | refine Below.setCell ?_ (by (first | omega | (simp; omega) | (simp; done) | fail "sml")) _ | refine Below.drew ?_ | refine Below.alloc ?_ (by (first | omega | (simp; omega) | (simp; done) | fail "sml")) _)); first | done | fail "chs")))) ?_
          rintro en u5 ⟨rfl, hb⟩
          have rwu5 := Below.trans (show Below w.heap.size w _ by ((repeat (first | with_reducible assumption | with_reducible exact Below.refl _ _ | refine Below.setCell ?_ (by (first | omega | (simp; omega) | (simp; done) | fail "sml")) _ | refine Below.drew ?_ | refine Below.alloc ?_ (by (first | omega | (simp; omega) | (simp; done) | fail "sml")) _)); first | done | fail "chs")) (hb.mono (by (first | omega | (simp; omega) | (simp; done) | fail "sml")))
          have zwu5 := rwu5.size
          have rWu5 := Below.trans (show Below W.heap.size W _ by ((repeat (first | with_reducible assumption | with_reducible exact Below.refl _ _ | refine Below.setCell ?_ (by (first | omega | (simp; omega) | (simp; done) | fail "sml")) _ | refine Below.drew ?_ | refine Below.alloc ?_ (by (first | omega | (simp; omega) | (simp; done) | fail "sml")) _)); first | done | fail "chs")) (hb.mono (by (first | omega | (simp; omega) | (simp; done) | fail "sml")))
          have zWu5 := rWu5.size
          have rAu5 := Below.trans (show Below A.heap.size A _ by ((repeat (first | with_reducible assumption | with_reducible exact Below.refl _ _ | refine Below.setCell ?_ (by (first | omega | (simp; omega) | (simp; done) | fail "sml")) _ | refine Below.drew ?_ | refine Below.alloc ?_ (by (first | omega | (simp; omega) | (simp; done) | fail "sml")) _)); first | done | fail "chs")) (hb.mono (by (first | omega | (simp; omega) | (simp; done) | fail "sml")))
          have zAu5 := rAu5.size
          clear hb yW0 yW1 yW2 yA0 yA1 yA2
          obtain ⟨yW0, yW1, yW2⟩ := HKW.out _ rWu5
          obtain ⟨yA0, yA1, yA2⟩ := HKA.out _ rAu5
          go_wp2_with fail
          refine Calls.mono ((((lholds_not (s := s) EN hlb).trans (congrArg (!·) EL)).trans (show (!true) = false from rfl)) ▸ labelHolds_any (notE x0) _ s A.heap.size _ (HAA.out.below (show Below A.heap.size A _ by ((repeat (first | with_reducible assumption | with_reducible exact Below.refl _ _ | refine Below.setCell ?_ (by (first | omega | (simp; omega) | (simp; done) | fail "sml")) _ | refine Below.drew ?_ | refine Below.alloc ?_ (by (first | omega | (simp; omega) | (simp; done) | fail "sml")) _)); first | done | fail "chs")) (Nat.le_refl _)) (show Below A.heap.size A _ by ((repeat (first | with_reducible assumption | with_reducible exact Below.refl _ _ | refine Below.setCell ?_ (by (first | omega | (simp; omega) | (simp; done) | fail "sml")) _ | refine Below.drew ?_ | refine Below.alloc ?_ (by (first | omega | (simp; omega) | (simp; done) | fail "sml")) _)); first | done | fail "chs")).size (notE_sml hsm0).1 (notE_sml hsm0).2 (by omega) (HVV.out.below (show Below w.heap.size w _ by ((repeat (first | with_reducible assumption | with_reducible exact Below.refl _ _ | refine Below.setCell ?_ (by (first | omega | (simp; omega) | (simp; done) | fail "sml")) _ | refine Below.drew ?_ | refine Below.alloc ?_ (by (first | omega | (simp; omega) | (simp; done) | fail "sml")) _)); first | done | fail "chs")))) ?_
          rintro en u6 ⟨rfl, hb⟩
          have rwu6 := Below.trans (show Below w.heap.size w _ by ((repeat (first | with_reducible assumption | with_reducible exact Below.refl _ _ | refine Below.setCell ?_ (by (first | omega | (simp; omega) | (simp; done) | fail "sml")) _ | refine Below.drew ?_ | refine Below.alloc ?_ (by (first | omega | (simp; omega) | (simp; done) | fail "sml")) _)); first | done | fail "chs")) (hb.mono (by (first | omega | (simp; omega) | (simp; done) | fail "sml")))
          have zwu6 := rwu6.size
          have rWu6 := Below.trans (show Below W.heap.size W _ by ((repeat (first | with_reducible assumption | with_reducible exact Below.refl _ _ | refine Below.setCell ?_ (by (first | omega | (simp; omega) | (simp; done) | fail "sml")) _ | refine Below.drew ?_ | refine Below.alloc ?_ (by (first | omega | (simp; omega) | (simp; done) | fail "sml")) _)); first | done | fail "chs")) (hb.mono (by (first | omega | (simp; omega) | (simp; done) | fail "sml")))
          have zWu6 := rWu6.size
          have rAu6 := Below.trans (show Below A.heap.size A _ by ((repeat (first | with_reducible assumption | with_reducible exact Below.refl _ _ | refine Below.setCell ?_ (by (first | omega | (simp; omega) | (simp; done) | fail "sml")) _ | refine Below.drew ?_ | refine Below.alloc ?_ (by (first | omega | (simp; omega) | (simp; done) | fail "sml")) _)); first | done | fail "chs")) (hb.mono (by (first | omega | (simp; omega) | (simp; done) | fail "sml")))
          have zAu6 := rAu6.size
          clear hb yW0 yW1 yW2 yA0 yA1 yA2
          obtain ⟨yW0, yW1, yW2⟩ := HKW.out _ rWu6
          obtain ⟨yA0, yA1, yA2⟩ := HKA.out _ rAu6
          go_wp2_with fail
          cases EP : pushOk 1 x0 with
          | false =>
            refine Calls.mono (EP ▸ pushNots_any x0 _ 1 W.heap.size _ (HAW.out.below (show Below W.heap.size W _ by ((repeat (first | with_reducible assumption | with_reducible exact Below.refl _ _ | refine Below.setCell ?_ (by (first | omega | (simp; omega) | (simp; done) | fail "sml")) _ | refine Below.drew ?_ | refine Below.alloc ?_ (by (first | omega | (simp; omega) | (simp; done) | fail "sml")) _)); first | done | fail "chs")) (Nat.le_refl _)) (show Below W.heap.size W _ by ((repeat (first | with_reducible assumption | with_reducible exact Below.refl _ _ | refine Below.setCell ?_ (by (first | omega | (simp; omega) | (simp; done) | fail "sml")) _ | refine Below.drew ?_ | refine Below.alloc ?_ (by (first | omega | (simp; omega) | (simp; done) | fail "sml")) _)); first | done | fail "chs")).size hsm0.1 hsm0.2 (HVV.out.below (show Below w.heap.size w _ by ((repeat (first | with_reducible assumption | with_reducible exact Below.refl _ _ | refine Below.setCell ?_ (by (first | omega | (simp; omega) | (simp; done) | fail "sml")) _ | refine Below.drew ?_ | refine Below.alloc ?_ (by (first | omega | (simp; omega) | (simp; done) | fail "sml")) _)); first | done | fail "chs")))) ?_
            rintro en u7 ⟨v', F', rfl, hpu, hpl, hb⟩
            have rwu7 := Below.trans (show Below w.heap.size w _ by ((repeat (first | with_reducible assumption | with_reducible exact Below.refl _ _ | refine Below.setCell ?_ (by (first | omega | (simp; omega) | (simp; done) | fail "sml")) _ | refine Below.drew ?_ | refine Below.alloc ?_ (by (first | omega | (simp; omega) | (simp; done) | fail "sml")) _)); first | done | fail "chs")) (hb.mono (by (first | omega | (simp; omega) | (simp; done) | fail "sml")))
            have zwu7 := rwu7.size
            have rWu7 := Below.trans (show Below W.heap.size W _ by ((repeat (first | with_reducible assumption | with_reducible exact Below.refl _ _ | refine Below.setCell ?_ (by (first | omega | (simp; omega) | (simp; done) | fail "sml")) _ | refine Below.drew ?_ | refine Below.alloc ?_ (by (first | omega | (simp; omega) | (simp; done) | fail "sml")) _)); first | done | fail "chs")) (hb.mono (by (first | omega | (simp; omega) | (simp; done) | fail "sml")))
            have zWu7 := rWu7.size
            have rAu7 := Below.trans (show Below A.heap.size A _ by ((repeat (first | with_reducible assumption | with_reducible exact Below.refl _ _ | refine Below.setCell ?_ (by (first | omega | (simp; omega) | (simp; done) | fail "sml")) _ | refine Below.drew ?_ | refine Below.alloc ?_ (by (first | omega | (simp; omega) | (simp; done) | fail "sml")) _)); first | done | fail "chs")) (hb.mono (by (first | omega | (simp; omega) | (simp; done) | fail "sml")))
            have zAu7 := rAu7.size
            obtain ⟨kp, rfl, hkp⟩ := hpu
            obtain ⟨pp, cp, rfl⟩ := hkp.in.form
            have hpa : (pushR 1 x0).At u7.heap.size u7 _ := ⟨_, rfl, hkp.in⟩
            clear hkp hpl
            clear hb yW0 yW1 yW2 yA0 yA1 yA2
            obtain ⟨yW0, yW1, yW2⟩ := HKW.out _ rWu7
            obtain ⟨yA0, yA1, yA2⟩ := HKA.out _ rAu7
            go_wp2_with fail
            go_ret
            exact ⟨rfl, by ((repeat (first | with_reducible assumption | with_reducible exact Below.refl _ _ | refine Below.setCell ?_ (by (first | omega | (simp; omega) | (simp; done) | fail "sml")) _ | refine Below.drew ?_ | refine Below.alloc ?_ (by (first | omega | (simp; omega) | (simp; done) | fail "sml")) _)); first | done | fail "chs")⟩
          | true =>
            refine Calls.mono (EP ▸ pushNots_any x0 _ 1 W.heap.size _ (HAW.out.below (show Below W.heap.size W _ by ((repeat (first | with_reducible assumption | with_reducible exact Below.refl _ _ | refine Below.setCell ?_ (by (first | omega | (simp; omega) | (simp; done) | fail "sml")) _ | refine Below.drew ?_ | refine Below.alloc ?_ (by (first | omega | (simp; omega) | (simp; done) | fail "sml")) _)); first | done | fail "chs")) (Nat.le_refl _)) (show Below W.heap.size W _ by ((repeat (first | with_reducible assumption | with_reducible exact Below.refl _ _ | refine Below.setCell ?_ (by (first | omega | (simp; omega) | (simp; done) | fail "sml")) _ | refine Below.drew ?_ | refine Below.alloc ?_ (by (first | omega | (simp; omega) | (simp; done) | fail "sml")) _)); first | done | fail "chs")).size hsm0.1 hsm0.2 (HVV.out.below (show Below w.heap.size w _ by ((repeat (first | with_reducible assumption | with_reducible exact Below.refl _ _ | refine Below.setCell ?_ (by (first | omega | (simp; omega) | (simp; done) | fail "sml")) _ | refine Below.drew ?_ | refine Below.alloc ?_ (by (first | omega | (simp; omega) | (simp; done) | fail "sml")) _)); first | done | fail "chs")))) ?_
            rintro en u7 ⟨v', F', rfl, hpu, hpl, hb⟩
            have rwu7 := Below.trans (show Below w.heap.size w _ by ((repeat (first | with_reducible assumption | with_reducible exact Below.refl _ _ | refine Below.setCell ?_ (by (first | omega | (simp; omega) | (simp; done) | fail "sml")) _ | refine Below.drew ?_ | refine Below.alloc ?_ (by (first | omega | (simp; omega) | (simp; done) | fail "sml")) _)); first | done | fail "chs")) (hb.mono (by (first | omega | (simp; omega) | (simp; done) | fail "sml")))
            have zwu7 := rwu7.size
            have rWu7 := Below.trans (show Below W.heap.size W _ by ((repeat (first | with_reducible assumption | with_reducible exact Below.refl _ _ | refine Below.setCell ?_ (by (first | omega | (simp; omega) | (simp; done) | fail "sml")) _ | refine Below.drew ?_ | refine Below.alloc ?_ (by (first | omega | (simp; omega) | (simp; done) | fail "sml")) _)); first | done | fail "chs")) (hb.mono (by (first | omega | (simp; omega) | (simp; done) | fail "sml")))
            have zWu7 := rWu7.size
            have rAu7 := Below.trans (show Below A.heap.size A _ by ((repeat (first | with_reducible assumption | with_reducible exact Below.refl _ _ | refine Below.setCell ?_ (by (first | omega | (simp; omega) | (simp; done) | fail "sml")) _ | refine Below.drew ?_ | refine Below.alloc ?_ (by (first | omega | (simp; omega) | (simp; done) | fail "sml")) _)); first | done | fail "chs")) (hb.mono (by (first | omega | (simp; omega) | (simp; done) | fail "sml")))
            have zAu7 := rAu7.size
            obtain ⟨kp, rfl, hkp⟩ := hpu
            obtain ⟨pp, cp, rfl⟩ := hkp.in.form
            have hpa : (pushR 1 x0).At u7.heap.size u7 _ := ⟨_, rfl, hkp.in⟩
            clear hkp hpl
            clear hb yW0 yW1 yW2 yA0 yA1 yA2
            obtain ⟨yW0, yW1, yW2⟩ := HKW.out _ rWu7
            obtain ⟨yA0, yA1, yA2⟩ := HKA.out _ rAu7
            have hps : (pushR 1 x0).Sml := by
              have h1 := pushOk_parts EP
              have h2 := Ex.push_sm 12 x0 false (exV_parts h1.1).2.1
              rw [h1.2.2]
              exact ⟨by omega, h2.2⟩
            go_wp2_with fail
            obtain ⟨C, eC⟩ : ∃ E, E = u7.alloc (.cells #[.int .i64 (pushR 1 x0).op, .string (pushR 1 x0).a, .slice pp (pushR 1 x0).ks.list.length cp] 25) := ⟨_, rfl⟩
            have sC : u7.heap.size < C.heap.size := by rw [eC]; simp
            have kC : Below u7.heap.size u7 C := by rw [eC]; ((repeat (first | with_reducible assumption | with_reducible exact Below.refl _ _ | refine Below.setCell ?_ (by (first | omega | (simp; omega) | (simp; done) | fail "sml")) _ | refine Below.drew ?_ | refine Below.alloc ?_ (by (first | omega | (simp; omega) | (simp; done) | fail "sml")) _)); first | done | fail "chs")
            have HCC := Lib.hid (show C.cell? ⟨u7.heap.size, 0, none⟩ = some (.int .i64 (pushR 1 x0).op) ∧ C.cell? ⟨u7.heap.size, 1, none⟩ = some (.string (pushR 1 x0).a) ∧ C.cell? ⟨u7.heap.size, 2, none⟩ = some (.slice pp (pushR 1 x0).ks.list.length cp) from by rw [eC]; exact ⟨by simp [go_sem], by simp [go_sem], by simp [go_sem]⟩)
            have HAC := Lib.hid (show (pushR 1 x0).At C.heap.size C (.agg #[.int .i64 (pushR 1 x0).op, .string (pushR 1 x0).a, .slice pp (pushR 1 x0).ks.list.length cp]) from by rw [eC]; exact hpa.below ((Below.refl _ _).alloc (Nat.le_refl _) _) (by simp))
            rw [← eC]
            have rwC := Below.trans (show Below w.heap.size w _ by ((repeat (first | with_reducible assumption | with_reducible exact Below.refl _ _ | refine Below.setCell ?_ (by (first | omega | (simp; omega) | (simp; done) | fail "sml")) _ | refine Below.drew ?_ | refine Below.alloc ?_ (by (first | omega | (simp; omega) | (simp; done) | fail "sml")) _)); first | done | fail "chs")) (kC.mono (by (first | omega | (simp; omega) | (simp; done) | fail "sml")))
            have rWC := Below.trans (show Below W.heap.size W _ by ((repeat (first | with_reducible assumption | with_reducible exact Below.refl _ _ | refine Below.setCell ?_ (by (first | omega | (simp; omega) | (simp; done) | fail "sml")) _ | refine Below.drew ?_ | refine Below.alloc ?_ (by (first | omega | (simp; omega) | (simp; done) | fail "sml")) _)); first | done | fail "chs")) (kC.mono (by (first | omega | (simp; omega) | (simp; done) | fail "sml")))
            have rAC := Below.trans (show Below A.heap.size A _ by ((repeat (first | with_reducible assumption | with_reducible exact Below.refl _ _ | refine Below.setCell ?_ (by (first | omega | (simp; omega) | (simp; done) | fail "sml")) _ | refine Below.drew ?_ | refine Below.alloc ?_ (by (first | omega | (simp; omega) | (simp; done) | fail "sml")) _)); first | done | fail "chs")) (kC.mono (by (first | omega | (simp; omega) | (simp; done) | fail "sml")))
            have HKC := Lib.hid (fun (E : World) (hE : Below C.heap.size C E) => (⟨keepc hE sC HCC.out.1, keepc hE sC HCC.out.2.1, keepc hE sC HCC.out.2.2⟩ : E.cell? ⟨u7.heap.size, 0, none⟩ = some (.int .i64 (pushR 1 x0).op) ∧ E.cell? ⟨u7.heap.size, 1, none⟩ = some (.string (pushR 1 x0).a) ∧ E.cell? ⟨u7.heap.size, 2, none⟩ = some (.slice pp (pushR 1 x0).ks.list.length cp)))
            have rC0 := Below.refl C.heap.size C
            obtain ⟨yC0, yC1, yC2⟩ := HKC.out _ rC0
            clear eC kC
            clear yW0 yW1 yW2
            obtain ⟨yW0, yW1, yW2⟩ := HKW.out _ rWC
            clear yA0 yA1 yA2
            obtain ⟨yA0, yA1, yA2⟩ := HKA.out _ rAC
            refine Calls.mono (((lholds_push (s := s) EP).trans EL) ▸ labelHolds_any (pushR 1 x0) _ s C.heap.size _ (HAC.out.below (show Below C.heap.size C _ by ((repeat (first | with_reducible assumption | with_reducible exact Below.refl _ _ | refine Below.setCell ?_ (by (first | omega | (simp; omega) | (simp; done) | fail "sml")) _ | refine Below.drew ?_ | refine Below.alloc ?_ (by (first | omega | (simp; omega) | (simp; done) | fail "sml")) _)); first | done | fail "chs")) (Nat.le_refl _)) (show Below C.heap.size C _ by ((repeat (first | with_reducible assumption | with_reducible exact Below.refl _ _ | refine Below.setCell ?_ (by (first | omega | (simp; omega) | (simp; done) | fail "sml")) _ | refine Below.drew ?_ | refine Below.alloc ?_ (by (first | omega | (simp; omega) | (simp; done) | fail "sml")) _)); first | done | fail "chs")).size hps.1 hps.2 (by omega) (HVV.out.below (show Below w.heap.size w _ by ((repeat (first | with_reducible assumption | with_reducible exact Below.refl _ _ | refine Below.setCell ?_ (by (first | omega | (simp; omega) | (simp; done) | fail "sml")) _ | refine Below.drew ?_ | refine Below.alloc ?_ (by (first | omega | (simp; omega) | (simp; done) | fail "sml")) _)); first | done | fail "chs")))) ?_
            rintro en u8 ⟨rfl, hb⟩
            have rwu8 := Below.trans (show Below w.heap.size w _ by ((repeat (first | with_reducible assumption | with_reducible exact Below.refl _ _ | refine Below.setCell ?_ (by (first | omega | (simp; omega) | (simp; done) | fail "sml")) _ | refine Below.drew ?_ | refine Below.alloc ?_ (by (first | omega | (simp; omega) | (simp; done) | fail "sml")) _)); first | done | fail "chs")) (hb.mono (by (first | omega | (simp; omega) | (simp; done) | fail "sml")))
            have zwu8 := rwu8.size
            have rWu8 := Below.trans (show Below W.heap.size W _ by ((repeat (first | with_reducible assumption | with_reducible exact Below.refl _ _ | refine Below.setCell ?_ (by (first | omega | (simp; omega) | (simp; done) | fail "sml")) _ | refine Below.drew ?_ | refine Below.alloc ?_ (by (first | omega | (simp; omega) | (simp; done) | fail "sml")) _)); first | done | fail "chs")) (hb.mono (by (first | omega | (simp; omega) | (simp; done) | fail "sml")))
            have zWu8 := rWu8.size
            have rAu8 := Below.trans (show Below A.heap.size A _ by ((repeat (first | with_reducible assumption | with_reducible exact Below.refl _ _ | refine Below.setCell ?_ (by (first | omega | (simp; omega) | (simp; done) | fail "sml")) _ | refine Below.drew ?_ | refine Below.alloc ?_ (by (first | omega | (simp; omega) | (simp; done) | fail "sml")) _)); first | done | fail "chs")) (hb.mono (by (first | omega | (simp; omega) | (simp; done) | fail "sml")))
            have zAu8 := rAu8.size
            have rCu8 := Below.trans (show Below C.heap.size C _ by ((repeat (first | with_reducible assumption | with_reducible exact Below.refl _ _ | refine Below.setCell ?_ (by (first | omega | (simp; omega) | (simp; done) | fail "sml")) _ | refine Below.drew ?_ | refine Below.alloc ?_ (by (first | omega | (simp; omega) | (simp; done) | fail "sml")) _)); first | done | fail "chs")) (hb.mono (by (first | omega | (simp; omega) | (simp; done) | fail "sml")))
            have zCu8 := rCu8.size
            clear hb yW0 yW1 yW2 yA0 yA1 yA2 yC0 yC1 yC2
            obtain ⟨yW0, yW1, yW2⟩ := HKW.out _ rWu8
            obtain ⟨yA0, yA1, yA2⟩ := HKA.out _ rAu8
            obtain ⟨yC0, yC1, yC2⟩ := HKC.out _ rCu8
            go_wp2_with fail
            go_ret
            exact ⟨rfl, by ((repeat (first | with_reducible assumption | with_reducible exact Below.refl _ _ | refine Below.setCell ?_ (by (first | omega | (simp; omega) | (simp; done) | fail "sml")) _ | refine Below.drew ?_ | refine Below.alloc ?_ (by (first | omega | (simp; omega) | (simp; done) | fail "sml")) _)); first | done | fail "chs")⟩
    · have hse : s.toList.isEmpty = false := str_nonempty'' (by omega)
      cases EC : lv s with
      | true =>
        have hlb : lbl s = true := by unfold lbl; simp [EC]
        cases EL : lholds x0 s with
        | false =>
          refine Calls.mono (EL ▸ labelHolds_any x0 _ s W.heap.size _ (HAW.out.below (show Below W.heap.size W _ by ((repeat (first | with_reducible assumption | with_reducible exact Below.refl _ _ | refine Below.setCell ?_ (by (first | omega | (simp; omega) | (simp; done) | fail "sml")) _ | refine Below.drew ?_ | refine Below.alloc ?_ (by (first | omega | (simp; omega) | (simp; done) | fail "sml")) _)); first | done | fail "chs")) (Nat.le_refl _)) (show Below W.heap.size W _ by ((repeat (first | with_reducible assumption | with_reducible exact Below.refl _ _ | refine Below.setCell ?_ (by (first | omega | (simp; omega) | (simp; done) | fail "sml")) _ | refine Below.drew ?_ | refine Below.alloc ?_ (by (first | omega | (simp; omega) | (simp; done) | fail "sml")) _)); first | done | fail "chs")).size hsm0.1 hsm0.2 (by omega) (HVV.out.below (show Below w.heap.size w _ by ((repeat (first | with_reducible assumption | with_reducible exact Below.refl _ _ | refine Below.setCell ?_ (by (first | omega | (simp; omega) | (simp; done) | fail "sml")) _ | refine Below.drew ?_ | refine Below.alloc ?_ (by (first | omega | (simp; omega) | (simp; done) | fail "sml")) _)); first | done | fail "chs")))) ?_
          rintro en u2 ⟨rfl, hb⟩
          have rwu2 := Below.trans (show Below w.heap.size w _ by ((repeat (first | with_reducible assumption | with_reducible exact Below.refl _ _ | refine Below.setCell ?_ (by (first | omega | (simp; omega) | (simp; done) | fail "sml")) _ | refine Below.drew ?_ | refine Below.alloc ?_ (by (first | omega | (simp; omega) | (simp; done) | fail "sml")) _)); first | done | fail "chs")) (hb.mono (by (first | omega | (simp; omega) | (simp; done) | fail "sml")))
          have zwu2 := rwu2.size
          have rWu2 := Below.trans (show Below W.heap.size W _ by ((repeat (first | with_reducible assumption | with_reducible exact Below.refl _ _ | refine Below.setCell ?_ (by (first | omega | (simp; omega) | (simp; done) | fail "sml")) _ | refine Below.drew ?_ | refine Below.alloc ?_ (by (first | omega | (simp; omega) | (simp; done) | fail "sml")) _)); first | done | fail "chs")) (hb.mono (by (first | omega | (simp; omega) | (simp; done) | fail "sml")))
          have zWu2 := rWu2.size
          clear hb yW0 yW1 yW2
          obtain ⟨yW0, yW1, yW2⟩ := HKW.out _ rWu2
          go_wp2_with fail
          refine Calls.mono (EL ▸ specLabelHolds_any x0 _ s W.heap.size _ (HAW.out.below (show Below W.heap.size W _ by ((repeat (first | with_reducible assumption | with_reducible exact Below.refl _ _ | refine Below.setCell ?_ (by (first | omega | (simp; omega) | (simp; done) | fail "sml")) _ | refine Below.drew ?_ | refine Below.alloc ?_ (by (first | omega | (simp; omega) | (simp; done) | fail "sml")) _)); first | done | fail "chs")) (Nat.le_refl _)) (show Below W.heap.size W _ by ((repeat (first | with_reducible assumption | with_reducible exact Below.refl _ _ | refine Below.setCell ?_ (by (first | omega | (simp; omega) | (simp; done) | fail "sml")) _ | refine Below.drew ?_ | refine Below.alloc ?_ (by (first | omega | (simp; omega) | (simp; done) | fail "sml")) _)); first | done | fail "chs")).size hsm0.1 hsm0.2 (by omega)) ?_
          rintro en u3 ⟨rfl, hb⟩
          have rwu3 := Below.trans (show Below w.heap.size w _ by ((repeat (first | with_reducible assumption | with_reducible exact Below.refl _ _ | refine Below.setCell ?_ (by (first | omega | (simp; omega) | (simp; done) | fail "sml")) _ | refine Below.drew ?_ | refine Below.alloc ?_ (by (first | omega | (simp; omega) | (simp; done) | fail "sml")) _)); first | done | fail "chs")) (hb.mono (by (first | omega | (simp; omega) | (simp; done) | fail "sml")))
          have zwu3 := rwu3.size
          have rWu3 := Below.trans (show Below W.heap.size W _ by ((repeat (first | with_reducible assumption | with_reducible exact Below.refl _ _ | refine Below.setCell ?_ (by (first | omega | (simp; omega) | (simp; done) | fail "sml")) _ | refine Below.drew ?_ | refine Below.alloc ?_ (by (first | omega | (simp; omega) | (simp; done) | fail "sml")) _)); first | done | fail "chs")) (hb.mono (by (first | omega | (simp; omega) | (simp; done) | fail "sml")))
          have zWu3 := rWu3.size
          clear hb yW0 yW1 yW2
          obtain ⟨yW0, yW1, yW2⟩ := HKW.out _ rWu3
          go_wp2_with fail
          refine Calls.mono (EV ▸ exprValid_any x0 _ 1 W.heap.size _ (HAW.out.below (show Below W.heap.size W _ by ((repeat (first | with_reducible assumption | with_reducible exact Below.refl _ _ | refine Below.setCell ?_ (by (first | omega | (simp; omega) | (simp; done) | fail "sml")) _ | refine Below.drew ?_ | refine Below.alloc ?_ (by (first | omega | (simp; omega) | (simp; done) | fail "sml")) _)); first | done | fail "chs")) (Nat.le_refl _)) (show Below W.heap.size W _ by ((repeat (first | with_reducible assumption | with_reducible exact Below.refl _ _ | refine Below.setCell ?_ (by (first | omega | (simp; omega) | (simp; done) | fail "sml")) _ | refine Below.drew ?_ | refine Below.alloc ?_ (by (first | omega | (simp; omega) | (simp; done) | fail "sml")) _)); first | done | fail "chs")).size hsm0.1 hsm0.2 (HVV.out.below (show Below w.heap.size w _ by ((repeat (first | with_reducible assumption | with_reducible exact Below.refl _ _ | refine Below.setCell ?_ (by (first | omega | (simp; omega) | (simp; done) | fail "sml")) _ | refine Below.drew ?_ | refine Below.alloc ?_ (by (first | omega | (simp; omega) | (simp; done) | fail "sml")) _)); first | done | fail "chs")))) ?_
          rintro en u4 ⟨rfl, hb⟩
          have rwu4 := Below.trans (show Below w.heap.size w _ by ((repeat (first | with_reducible assumption | with_reducible exact Below.refl _ _ | refine Below.setCell ?_ (by (first | omega | (simp; omega) | (simp; done) | fail "sml")) _ | refine Below.drew ?_ | refine Below.alloc ?_ (by (first | omega | (simp; omega) | (simp; done) | fail "sml")) _)); first | done | fail "chs")) (hb.mono (by (first | omega | (simp; omega) | (simp; done) | fail "sml")))
          have zwu4 := rwu4.size
          have rWu4 := Below.trans (show Below W.heap.size W _ by ((repeat (first | with_reducible assumption | with_reducible exact Below.refl _ _ | refine Below.setCell ?_ (by (first | omega | (simp; omega) | (simp; done) | fail "sml")) _ | refine Below.drew ?_ | refine Below.alloc ?_ (by (first | omega | (simp; omega) | (simp; done) | fail "sml")) _)); first | done | fail "chs")) (hb.mono (by (first | omega | (simp; omega) | (simp; done) | fail "sml")))
          have zWu4 := rWu4.size
          clear hb yW0 yW1 yW2
          obtain ⟨yW0, yW1, yW2⟩ := HKW.out _ rWu4
          go_wp2_with fail
          refine Calls.mono (labelValid_b (s := s) (by unfold maxLen; omega) EC) ?_
          rintro en u5 ⟨rfl, hb⟩
          have rwu5 := Below.trans (show Below w.heap.size w _ by ((repeat (first | with_reducible assumption | with_reducible exact Below.refl _ _ | refine Below.setCell ?_ (by (first | omega | (simp; omega) | (simp; done) | fail "sml")) _ | refine Below.drew ?_ | refine Below.alloc ?_ (by (first | omega | (simp; omega) | (simp; done) | fail "sml")) _)); first | done | fail "chs")) (hb.mono (by (first | omega | (simp; omega) | (simp; done) | fail "sml")))
          have zwu5 := rwu5.size
          have rWu5 := Below.trans (show Below W.heap.size W _ by ((repeat (first | with_reducible assumption | with_reducible exact Below.refl _ _ | refine Below.setCell ?_ (by (first | omega | (simp; omega) | (simp; done) | fail "sml")) _ | refine Below.drew ?_ | refine Below.alloc ?_ (by (first | omega | (simp; omega) | (simp; done) | fail "sml")) _)); first | done | fail "chs")) (hb.mono (by (first | omega | (simp; omega) | (simp; done) | fail "sml")))
          have zWu5 := rWu5.size
          clear hb yW0 yW1 yW2
          obtain ⟨yW0, yW1, yW2⟩ := HKW.out _ rWu5
          go_wp2_with fail
          obtain ⟨ks0, eks, hks⟩ := HAW.out
          cases eks
          obtain ⟨A, eA⟩ : ∃ E, E = (u5.alloc (.cells #[.int .i64 x0.op, .string x0.a, .slice p0' x0.ks.list.length c0'] 25)).alloc (.cells #[.int .i64 3, .string ⟨#[]⟩, .slice (some ⟨u5.heap.size, 0, none⟩) 1 1] 25) := ⟨_, rfl⟩
          have sA : u5.heap.size + 1 < A.heap.size := by rw [eA]; simp
          have kA : Below u5.heap.size u5 A := by rw [eA]; ((repeat (first | with_reducible assumption | with_reducible exact Below.refl _ _ | refine Below.setCell ?_ (by (first | omega | (simp; omega) | (simp; done) | fail "sml")) _ | refine Below.drew ?_ | refine Below.alloc ?_ (by (first | omega | (simp; omega) | (simp; done) | fail "sml")) _)); first | done | fail "chs")
          have HCA := Lib.hid (show A.cell? ⟨u5.heap.size + 1, 0, none⟩ = some (.int .i64 3) ∧ A.cell? ⟨u5.heap.size + 1, 1, none⟩ = some (.string ⟨#[]⟩) ∧ A.cell? ⟨u5.heap.size + 1, 2, none⟩ = some (.slice (some ⟨u5.heap.size, 0, none⟩) 1 1) from by rw [eA]; exact ⟨by simp [go_sem], by simp [go_sem], by simp [go_sem]⟩)
          have HAA := Lib.hid (show (notE x0).At A.heap.size A (.agg #[.int .i64 3, .string ⟨#[]⟩, .slice (some ⟨u5.heap.size, 0, none⟩) 1 1]) from by rw [eA]; exact (notE_at (hks.below rWu5 (Nat.le_refl _)) rWu5.size).below ((Below.refl _ _).alloc (by simp) _) (by simp))
          rw [← eA]
          have rwA := Below.trans (show Below w.heap.size w _ by ((repeat (first | with_reducible assumption | with_reducible exact Below.refl _ _ | refine Below.setCell ?_ (by (first | omega | (simp; omega) | (simp; done) | fail "sml")) _ | refine Below.drew ?_ | refine Below.alloc ?_ (by (first | omega | (simp; omega) | (simp; done) | fail "sml")) _)); first | done | fail "chs")) (kA.mono (by (first | omega | (simp; omega) | (simp; done) | fail "sml")))
          have rWA := Below.trans (show Below W.heap.size W _ by ((repeat (first | with_reducible assumption | with_reducible exact Below.refl _ _ | refine Below.setCell ?_ (by (first | omega | (simp; omega) | (simp; done) | fail "sml")) _ | refine Below.drew ?_ | refine Below.alloc ?_ (by (first | omega | (simp; omega) | (simp; done) | fail "sml")) _)); first | done | fail "chs")) (kA.mono (by (first | omega | (simp; omega) | (simp; done) | fail "sml")))
          have HKA := Lib.hid (fun (E : World) (hE : Below A.heap.size A E) => (⟨keepc hE sA HCA.out.1, keepc hE sA HCA.out.2.1, keepc hE sA HCA.out.2.2⟩ : E.cell? ⟨u5.heap.size + 1, 0, none⟩ = some (.int .i64 3) ∧ E.cell? ⟨u5.heap.size + 1, 1, none⟩ = some (.string ⟨#[]⟩) ∧ E.cell? ⟨u5.heap.size + 1, 2, none⟩ = some (.slice (some ⟨u5.heap.size, 0, none⟩) 1 1)))
          have rA0 := Below.refl A.heap.size A
          obtain ⟨yA0, yA1, yA2⟩ := HKA.out _ rA0
          clear eA kA
          clear yW0 yW1 yW2
          obtain ⟨yW0, yW1, yW2⟩ := HKW.out _ rWA
          cases EN : exV 1 (notE x0) with
          | false =>
            refine Calls.mono (EN ▸ exprValid_any (notE x0) _ 1 A.heap.size _ (HAA.out.below (show Below A.heap.size A _ by ((repeat (first | with_reducible assumption | with_reducible exact Below.refl _ _ | refine Below.setCell ?_ (by (first | omega | (simp; omega) | (simp; done) | fail "sml")) _ | refine Below.drew ?_ | refine Below.alloc ?_ (by (first | omega | (simp; omega) | (simp; done) | fail "sml")) _)); first | done | fail "chs")) (Nat.le_refl _)) (show Below A.heap.size A _ by ((repeat (first | with_reducible assumption | with_reducible exact Below.refl _ _ | refine Below.setCell ?_ (by (first | omega | (simp; omega) | (simp; done) | fail "sml")) _ | refine Below.drew ?_ | refine Below.alloc ?_ (by (first | omega | (simp; omega) | (simp; done) | fail "sml")) _)); first | done | fail "chs")).size (notE_sml hsm0).1 (notE_sml hsm0).2 (HVV.out.below (show Below w.heap.size w _ by ((repeat (first | with_reducible assumption | with_reducible exact Below.refl _ _ | refine Below.setCell ?_ (by (first | omega | (simp; omega) | (simp; done) | fail "sml")) _ | refine Below.drew ?_ | refine Below.alloc ?_ (by (first | omega | (simp; omega) | (simp; done) | fail "sml")) _)); first | done | fail "chs")))) ?_
            rintro en u6 ⟨rfl, hb⟩
            have rwu6 := Below.trans (show Below w.heap.size w _ by ((repeat (first | with_reducible assumption | with_reducible exact Below.refl _ _ | refine Below.setCell ?_ (by (first | omega | (simp; omega) | (simp; done) | fail "sml")) _ | refine Below.drew ?_ | refine Below.alloc ?_ (by (first | omega | (simp; omega) | (simp; done) | fail "sml")) _)); first | done | fail "chs")) (hb.mono (by (first | omega | (simp; omega) | (simp; done) | fail "sml")))
            have zwu6 := rwu6.size
            have rWu6 := Below.trans (show Below W.heap.size W _ by ((repeat (first | with_reducible assumption | with_reducible exact Below.refl _ _ | refine Below.setCell ?_ (by (first | omega | (simp; omega) | (simp; done) | fail "sml")) _ | refine Below.drew ?_ | refine Below.alloc ?_ (by (first | omega | (simp; omega) | (simp; done) | fail "sml")) _)); first | done | fail "chs")) (hb.mono (by (first | omega | (simp; omega) | (simp; done) | fail "sml")))
            have zWu6 := rWu6.size
            have rAu6 := Below.trans (show Below A.heap.size A _ by ((repeat (first | with_reducible assumption | with_reducible exact Below.refl _ _ | refine Below.setCell ?_ (by (first | omega | (simp; omega) | (simp; done) | fail "sml")) _ | refine Below.drew ?_ | refine Below.alloc ?_ (by (first | omega | (simp; omega) | (simp; done) | fail "sml")) _)); first | done | fail "chs")) (hb.mono (by (first | omega | (simp; omega) | (simp; done) | fail "sml")))
            have zAu6 := rAu6.size
            clear hb yW0 yW1 yW2 yA0 yA1 yA2
            obtain ⟨yW0, yW1, yW2⟩ := HKW.out _ rWu6
            obtain ⟨yA0, yA1, yA2⟩ := HKA.out _ rAu6
            go_wp2_with fail
            cases EP : pushOk 1 x0 with
            | false =>
              refine Calls.mono (EP ▸ pushNots_any x0 _ 1 W.heap.size _ (HAW.out.below (show Below W.heap.size W _ by ((repeat (first | with_reducible assumption | with_reducible exact Below.refl _ _ | refine Below.setCell ?_ (by (first | omega | (simp; omega) | (simp; done) | fail "sml")) _ | refine Below.drew ?_ | refine Below.alloc ?_ (by (first | omega | (simp; omega) | (simp; done) | fail "sml")) _)); first | done | fail "chs")) (Nat.le_refl _)) (show Below W.heap.size W _ by ((repeat (first | with_reducible assumption | with_reducible exact Below.refl _ _ | refine Below.setCell ?_ (by (first | omega | (simp; omega) | (simp; done) | fail "sml")) _ | refine Below.drew ?_ | refine Below.alloc ?_ (by (first | omega | (simp; omega) | (simp; done) | fail "sml")) _)); first | done | fail "chs")).size hsm0.1 hsm0.2 (HVV.out.below (show Below w.heap.size w _ by ((repeat (first | with_reducible assumption | with_reducible exact Below.refl _ _ | refine Below.setCell ?_ (by (first | omega | (simp; omega) | (simp; done) | fail "sml")) _ | refine Below.drew ?_ | refine Below.alloc ?_ (by (first | omega | (simp; omega) | (simp; done) | fail "sml")) _)); first | done | fail "chs")))) ?_
              rintro en u7 ⟨v', F', rfl, hpu, hpl, hb⟩
              have rwu7 := Below.trans (show Below w.heap.size w _ by ((repeat (first | with_reducible assumption | with_reducible exact Below.refl _ _ | refine Below.setCell ?_ (by (first | omega | (simp; omega) | (simp; done) | fail "sml")) _ | refine Below.drew ?_ | refine Below.alloc ?_ (by (first | omega | (simp; omega) | (simp; done) | fail "sml")) _)); first | done | fail "chs")) (hb.mono (by (first | omega | (simp; omega) | (simp; done) | fail "sml")))
              have zwu7 := rwu7.size
              have rWu7 := Below.trans (show Below W.heap.size W _ by ((repeat (first | with_reducible assumption | with_reducible exact Below.refl _ _ | refine Below.setCell ?_ (by (first | omega | (simp; omega) | (simp; done) | fail "sml")) _ | refine Below.drew ?_ | refine Below.alloc ?_ (by (first | omega | (simp; omega) | (simp; done) | fail "sml")) _)); first | done | fail "chs")) (hb.mono (by (first | omega | (simp; omega) | (simp; done) | fail "sml")))
              have zWu7 := rWu7.size
              have rAu7 := Below.trans (show Below A.heap.size A _ by ((repeat (first | with_reducible assumption | with_reducible exact Below.refl _ _ | refine Below.setCell ?_ (by (first | omega | (simp; omega) | (simp; done) | fail "sml")) _ | refine Below.drew ?_ | refine Below.alloc ?_ (by (first | omega | (simp; omega) | (simp; done) | fail "sml")) _)); first | done | fail "chs")) (hb.mono (by (first | omega | (simp; omega) | (simp; done) | fail "sml")))
              have zAu7 := rAu7.size
              obtain ⟨kp, rfl, hkp⟩ := hpu
              obtain ⟨pp, cp, rfl⟩ := hkp.in.form
              have hpa : (pushR 1 x0).At u7.heap.size u7 _ := ⟨_, rfl, hkp.in⟩
              clear hkp hpl
              clear hb yW0 yW1 yW2 yA0 yA1 yA2
              obtain ⟨yW0, yW1, yW2⟩ := HKW.out _ rWu7
              obtain ⟨yA0, yA1, yA2⟩ := HKA.out _ rAu7
              go_wp2_with fail
              go_ret
              exact ⟨rfl, by ((repeat (first | with_reducible assumption | with_reducible exact Below.refl _ _ | refine Below.setCell ?_ (by (first | omega | (simp; omega) | (simp; done) | fail "sml")) _ | refine Below.drew ?_ | refine Below.alloc ?_ (by (first | omega | (simp; omega) | (simp; done) | fail "sml")) _)); first | done | fail "chs")⟩
            | true =>
              refine Calls.mono (EP ▸ pushNots_any x0 _ 1 W.heap.size _ (HAW.out.below (show Below W.heap.size W _ by ((repeat (first | with_reducible assumption | with_reducible exact Below.refl _ _ | refine Below.setCell ?_ (by (first | omega | (simp; omega) | (simp; done) | fail "sml")) _ | refine Below.drew ?_ | refine Below.alloc ?_ (by (first | omega | (simp; omega) | (simp; done) | fail "sml")) _)); first | done | fail "chs")) (Nat.le_refl _)) (show Below W.heap.size W _ by ((repeat (first | with_reducible assumption | with_reducible exact Below.refl _ _ | refine Below.setCell ?_ (by (first | omega | (simp; omega) | (simp; done) | fail "sml")) _ | refine Below.drew ?_ | refine Below.alloc ?_ (by (first | omega | (simp; omega) | (simp; done) | fail "sml")) _)); first | done | fail "chs")).size hsm0.1 hsm0.2 (HVV.out.below (show Below w.heap.size w _ by ((repeat (first | with_reducible assumption | with_reducible exact Below.refl _ _ | refine Below.setCell ?_ (by (first | omega | (simp; omega) | (simp; done) | fail "sml")) _ | refine Below.drew ?_ | refine Below.alloc ?_ (by (first | omega | (simp; omega) | (simp; done) | fail "sml")) _)); first | done | fail "chs")))) ?_
              rintro en u7 ⟨v', F', rfl, hpu, hpl, hb⟩
              have rwu7 := Below.trans (show Below w.heap.size w _ by ((repeat (first | with_reducible assumption | with_reducible exact Below.refl _ _ | refine Below.setCell ?_ (by (first | omega | (simp; omega) | (simp; done) | fail "sml")) _ | refine Below.drew ?_ | refine Below.alloc ?_ (by (first | omega | (simp; omega) | (simp; done) | fail "sml")) _)); first | done | fail "chs")) (hb.mono (by (first | omega | (simp; omega) | (simp; done) | fail "sml")))
              have zwu7 := rwu7.size
              have rWu7 := Below.trans (show Below W.heap.size W _ by ((repeat (first | with_reducible assumption | with_reducible exact Below.refl _ _ | refine Below.setCell ?_ (by (first | omega | (simp; omega) | (simp; done) | fail "sml")) _ | refine Below.drew ?_ | refine Below.alloc ?_ (by (first | omega | (simp; omega) | (simp; done) | fail "sml")) _)); first | done | fail "chs")) (hb.mono (by (first | omega | (simp; omega) | (simp; done) | fail "sml")))
              have zWu7 := rWu7.size
              have rAu7 := Below.trans (show Below A.heap.size A _ by ((repeat (first | with_reducible assumption | with_reducible exact Below.refl _ _ | refine Below.setCell ?_ (by (first | omega | (simp; omega) | (simp; done) | fail "sml")) _ | refine Below.drew ?_ | refine Below.alloc ?_ (by (first | omega | (simp; omega) | (simp; done) | fail "sml")) _)); first | done | fail "chs")) (hb.mono (by (first | omega | (simp; omega) | (simp; done) | fail "sml")))
              have zAu7 := rAu7.size
              obtain ⟨kp, rfl, hkp⟩ := hpu
              obtain ⟨pp, cp, rfl⟩ := hkp.in.form
              have hpa : (pushR 1 x0).At u7.heap.size u7 _ := ⟨_, rfl, hkp.in⟩
              clear hkp hpl
              clear hb yW0 yW1 yW2 yA0 yA1 yA2
              obtain ⟨yW0, yW1, yW2⟩ := HKW.out _ rWu7
              obtain ⟨yA0, yA1, yA2⟩ := HKA.out _ rAu7
              have hps : (pushR 1 x0).Sml := by
                have h1 := pushOk_parts EP
                have h2 := Ex.push_sm 12 x0 false (exV_parts h1.1).2.1
                rw [h1.2.2]
                exact ⟨by omega, h2.2⟩
              go_wp2_with fail
              obtain ⟨C, eC⟩ : ∃ E, E = u7.alloc (.cells #[.int .i64 (pushR 1 x0).op, .string (pushR 1 x0).a, .slice pp (pushR 1 x0).ks.list.length cp] 25) := ⟨_, rfl⟩
              have sC : u7.heap.size < C.heap.size := by rw [eC]; simp
              have kC : Below u7.heap.size u7 C := by rw [eC]; ((repeat (first | with_reducible assumption | with_reducible exact Below.refl _ _ | refine Below.setCell ?_ (by (first | omega | (simp; omega) | (simp; done) | fail "sml")) _ | refine Below.drew ?_ | refine Below.alloc ?_ (by (first | omega | (simp; omega) | (simp; done) | fail "sml")) _)); first | done | fail "chs")
              have HCC := Lib.hid (show C.cell? ⟨u7.heap.size, 0, none⟩ = some (.int .i64 (pushR 1 x0).op) ∧ C.cell? ⟨u7.heap.size, 1, none⟩ = some (.string (pushR 1 x0).a) ∧ C.cell? ⟨u7.heap.size, 2, none⟩ = some (.slice pp (pushR 1 x0).ks.list.length cp) from by rw [eC]; exact ⟨by simp [go_sem], by simp [go_sem], by simp [go_sem]⟩)
              have HAC := Lib.hid (show (pushR 1 x0).At C.heap.size C (.agg #[.int .i64 (pushR 1 x0).op, .string (pushR 1 x0).a, .slice pp (pushR 1 x0).ks.list.length cp]) from by rw [eC]; exact hpa.below ((Below.refl _ _).alloc (Nat.le_refl _) _) (by simp))
              rw [← eC]
              have rwC := Below.trans (show Below w.heap.size w _ by ((repeat (first | with_reducible assumption | with_reducible exact Below.refl _ _ | refine Below.setCell ?_ (by (first | omega | (simp; omega) | (simp; done) | fail "sml")) _ | refine Below.drew ?_ | refine Below.alloc ?_ (by (first | omega | (simp; omega) | (simp; done) | fail "sml")) _)); first | done | fail "chs")) (kC.mono (by (first | omega | (simp; omega) | (simp; done) | fail "sml")))
              have rWC := Below.trans (show Below W.heap.size W _ by ((repeat (first | with_reducible assumption | with_reducible exact Below.refl _ _ | refine Below.setCell ?_ (by (first | omega | (simp; omega) | (simp; done) | fail "sml")) _ | refine Below.drew ?_ | refine Below.alloc ?_ (by (first | omega | (simp; omega) | (simp; done) | fail "sml")) _)); first | done | fail "chs")) (kC.mono (by (first | omega | (simp; omega) | (simp; done) | fail "sml")))
              have rAC := Below.trans (show Below A.heap.size A _ by ((repeat (first | with_reducible assumption | with_reducible exact Below.refl _ _ | refine Below.setCell ?_ (by (first | omega | (simp; omega) | (simp; done) | fail "sml")) _ | refine Below.drew ?_ | refine Below.alloc ?_ (by (first | omega | (simp; omega) | (simp; done) | fail "sml")) _)); first | done | fail "chs")) (kC.mono (by (first | omega | (simp; omega) | (simp; done) | fail "sml")))
              have HKC := Lib.hid (fun (E : World) (hE : Below C.heap.size C E) => (⟨keepc hE sC HCC.out.1, keepc hE sC HCC.out.2.1, keepc hE sC HCC.out.2.2⟩ : E.cell? ⟨u7.heap.size, 0, none⟩ = some (.int .i64 (pushR 1 x0).op) ∧ E.cell? ⟨u7.heap.size, 1, none⟩ = some (.string (pushR 1 x0).a) ∧ E.cell? ⟨u7.heap.size, 2, none⟩ = some (.slice pp (pushR 1 x0).ks.list.length cp)))
              have rC0 := Below.refl C.heap.size C
              obtain ⟨yC0, yC1, yC2⟩ := HKC.out _ rC0
              clear eC kC
              clear yW0 yW1 yW2
              obtain ⟨yW0, yW1, yW2⟩ := HKW.out _ rWC
              clear yA0 yA1 yA2
              obtain ⟨yA0, yA1, yA2⟩ := HKA.out _ rAC
              refine Calls.mono (((lholds_push (s := s) EP).trans EL) ▸ labelHolds_any (pushR 1 x0) _ s C.heap.size _ (HAC.out.below (show Below C.heap.size C _ by ((repeat (first | with_reducible assumption | with_reducible exact Below.refl _ _ | refine Below.setCell ?_ (by (first | omega | (simp; omega) | (simp; done) | fail "sml")) _ | refine Below.drew ?_ | refine Below.alloc ?_ (by (first | omega | (simp; omega) | (simp; done) | fail "sml")) _)); first | done | fail "chs")) (Nat.le_refl _)) (show Below C.heap.size C _ by ((repeat (first | with_reducible assumption | with_reducible exact Below.refl _ _ | refine Below.setCell ?_ (by (first | omega | (simp; omega) | (simp; done) | fail "sml")) _ | refine Below.drew ?_ | refine Below.alloc ?_ (by (first | omega | (simp; omega) | (simp; done) | fail "sml")) _)); first | done | fail "chs")).size hps.1 hps.2 (by omega) (HVV.out.below (show Below w.heap.size w _ by ((repeat (first | with_reducible assumption | with_reducible exact Below.refl _ _ | refine Below.setCell ?_ (by (first | omega | (simp; omega) | (simp; done) | fail "sml")) _ | refine Below.drew ?_ | refine Below.alloc ?_ (by (first | omega | (simp; omega) | (simp; done) | fail "sml")) _)); first | done | fail "chs")))) ?_
              rintro en u8 ⟨rfl, hb⟩
              have rwu8 := Below.trans (show Below w.heap.size w _ by ((repeat (first | with_reducible assumption | with_reducible exact Below.refl _ _ | refine Below.setCell ?_ (by (first | omega | (simp; omega) | (simp; done) | fail "sml")) _ | refine Below.drew ?_ | refine Below.alloc ?_ (by (first | omega | (simp; omega) | (simp; done) | fail "sml")) _)); first | done | fail "chs")) (hb.mono (by (first | omega | (simp; omega) | (simp; done) | fail "sml")))
              have zwu8 := rwu8.size
              have rWu8 := Below.trans (show Below W.heap.size W _ by ((repeat (first | with_reducible assumption | with_reducible exact Below.refl _ _ | refine Below.setCell ?_ (by (first | omega | (simp; omega) | (simp; done) | fail "sml")) _ | refine Below.drew ?_ | refine Below.alloc ?_ (by (first | omega | (simp; omega) | (simp; done) | fail "sml")) _)); first | done | fail "chs")) (hb.mono (by (first | omega | (simp; omega) | (simp; done) | fail "sml")))
              have zWu8 := rWu8.size
              have rAu8 := Below.trans (show Below A.heap.size A _ by ((repeat (first | with_reducible assumption | with_reducible exact Below.refl _ _ | refine Below.setCell ?_ (by (first | omega | (simp; omega) | (simp; done) | fail "sml")) _ | refine Below.drew ?_ | refine Below.alloc ?_ (by (first | omega | (simp; omega) | (simp; done) | fail "sml")) _)); first | done | fail "chs")) (hb.mono (by (first | omega | (simp; omega) | (simp; done) | fail "sml")))
              have zAu8 := rAu8.size
              have rCu8 := Below.trans (show Below C.heap.size C _ by ((repeat (first | with_reducible assumption | with_reducible exact Below.refl _ _ | refine Below.setCell ?_ (by (first | omega | (simp; omega) | (simp; done) | fail "sml")) _ | refine Below.drew ?_ | refine Below.alloc ?_ (by (first | omega | (simp; omega) | (simp; done) | fail "sml")) _)); first | done | fail "chs")) (hb.mono (by (first | omega | (simp; omega) | (simp; done) | fail "sml")))
              have zCu8 := rCu8.size
              clear hb yW0 yW1 yW2 yA0 yA1 yA2 yC0 yC1 yC2
              obtain ⟨yW0, yW1, yW2⟩ := HKW.out _ rWu8
              obtain ⟨yA0, yA1, yA2⟩ := HKA.out _ rAu8
              obtain ⟨yC0, yC1, yC2⟩ := HKC.out _ rCu8
              go_wp2_with fail
              go_ret
              exact ⟨rfl, by ((repeat (first | with_reducible assumption | with_reducible exact Below.refl _ _ | refine Below.setCell ?_ (by (first | omega | (simp; omega) | (simp; done) | fail "sml")) _ | refine Below.drew ?_ | refine Below.alloc ?_ (by (first | omega | (simp; omega) | (simp; done) | fail "sml")) _)); first | done | fail "chs")⟩
          | true =>
            refine Calls.mono (EN ▸ exprValid_any (notE x0) _ 1 A.heap.size _ (HAA.out.below (show Below A.heap.size A _ by ((repeat (first | with_reducible assumption | with_reducible exact Below.refl _ _ | refine Below.setCell ?_ (by (first | omega | (simp; omega) | (simp; done) | fail "sml")) _ | refine Below.drew ?_ | refine Below.alloc ?_ (by (first | omega | (simp; omega) | (simp; done) | fail "sml")) _)); first | done | fail "chs")) (Nat.le_refl _)) (show Below A.heap.size A _ by ((repeat (first | with_reducible assumption | with_reducible exact Below.refl _ _ | refine Below.setCell ?_ (by (first | omega | (simp; omega) | (simp; done) | fail "sml")) _ | refine Below.drew ?_ | refine Below.alloc ?_ (by (first | omega | (simp; omega) | (simp; done) | fail "sml")) _)); first | done | fail "chs")).size (notE_sml hsm0).1 (notE_sml hsm0).2 (HVV.out.below (show Below w.heap.size w _ by ((repeat (first | with_reducible assumption | with_reducible exact Below.refl _ _ | refine Below.setCell ?_ (by (first | omega | (simp; omega) | (simp; done) | fail "sml")) _ | refine Below.drew ?_ | refine Below.alloc ?_ (by (first | omega | (simp; omega) | (simp; done) | fail "sml")) _)); first | done | fail "chs")))) ?_
            rintro en u6 ⟨rfl, hb⟩
            have rwu6 := Below.trans (show Below w.heap.size w _ by ((repeat (first | with_reducible assumption | with_reducible exact Below.refl _ _ | refine Below.setCell ?_ (by (first | omega | (simp; omega) | (simp; done) | fail "sml")) _ | refine Below.drew ?_ | refine Below.alloc ?_ (by (first | omega | (simp; omega) | (simp; done) | fail "sml")) _)); first | done | fail "chs")) (hb.mono (by (first | omega | (simp; omega) | (simp; done) | fail "sml")))
            have zwu6 := rwu6.size
            have rWu6 := Below.trans (show Below W.heap.size W _ by ((repeat (first | with_reducible assumption | with_reducible exact Below.refl _ _ | refine Below.setCell ?_ (by (first | omega | (simp; omega) | (simp; done) | fail "sml")) _ | refine Below.drew ?_ | refine Below.alloc ?_ (by (first | omega | (simp; omega) | (simp; done) | fail "sml")) _)); first | done | fail "chs")) (hb.mono (by (first | omega | (simp; omega) | (simp; done) | fail "sml")))
            have zWu6 := rWu6.size
            have rAu6 := Below.trans (show Below A.heap.size A _ by ((repeat (first | with_reducible assumption | with_reducible exact Below.refl _ _ | refine Below.setCell ?_ (by (first | omega | (simp; omega) | (simp; done) | fail "sml")) _ | refine Below.drew ?_ | refine Below.alloc ?_ (by (first | omega | (simp; omega) | (simp; done) | fail "sml")) _)); first | done | fail "chs")) (hb.mono (by (first | omega | (simp; omega) | (simp; done) | fail "sml")))
            have zAu6 := rAu6.size
            clear hb yW0 yW1 yW2 yA0 yA1 yA2
            obtain ⟨yW0, yW1, yW2⟩ := HKW.out _ rWu6
            obtain ⟨yA0, yA1, yA2⟩ := HKA.out _ rAu6
            go_wp2_with fail
            refine Calls.mono ((((lholds_not (s := s) EN hlb).trans (congrArg (!·) EL)).trans (show (!false) = true from rfl)) ▸ labelHolds_any (notE x0) _ s A.heap.size _ (HAA.out.below (show Below A.heap.size A _ by ((repeat (first | with_reducible assumption | with_reducible exact Below.refl _ _ | refine Below.setCell ?_ (by (first | omega | (simp; omega) | (simp; done) | fail "sml")) _ | refine Below.drew ?_ | refine Below.alloc ?_ (by (first | omega | (simp; omega) | (simp; done) | fail "sml")) _)); first | done | fail "chs")) (Nat.le_refl _)) (show Below A.heap.size A _ by ((repeat (first | with_reducible assumption | with_reducible exact Below.refl _ _ | refine Below.setCell ?_ (by (first | omega | (simp; omega) | (simp; done) | fail "sml")) _ | refine Below.drew ?_ | refine Below.alloc ?_ (by (first | omega | (simp; omega) | (simp; done) | fail "sml")) _)); first | done | fail "chs")).size (notE_sml hsm0).1 (notE_sml hsm0).2 (by omega) (HVV.out.below (show Below w.heap.size w _ by ((repeat (first | with_reducible assumption | with_reducible exact Below.refl _ _ | refine Below.setCell ?_ (by (first | omega | (simp; omega) | (simp; done) | fail "sml")) _ | refine Below.drew ?_ | refine Below.alloc ?_ (by (first | omega | (simp; omega) | (simp; done) | fail "sml")) _)); first | done | fail "chs")))) ?_
            rintro en u7 ⟨rfl, hb⟩
            have rwu7 := Below.trans (show Below w.heap.size w _ by ((repeat (first | with_reducible assumption | with_reducible exact Below.refl _ _ | refine Below.setCell ?_ (by (first | omega | (simp; omega) | (simp; done) | fail "sml")) _ | refine Below.drew ?_ | refine Below.alloc ?_ (by (first | omega | (simp; omega) | (simp; done) | fail "sml")) _)); first | done | fail "chs")) (hb.mono (by (first | omega | (simp; omega) | (simp; done) | fail "sml")))
            have zwu7 := rwu7.size
            have rWu7 := Below.trans (show Below W.heap.size W _ by ((repeat (first | with_reducible assumption | with_reducible exact Below.refl _ _ | refine Below.setCell ?_ (by (first | omega | (simp; omega) | (simp; done) | fail "sml")) _ | refine Below.drew ?_ | refine Below.alloc ?_ (by (first | omega | (simp; omega) | (simp; done) | fail "sml")) _)); first | done | fail "chs")) (hb.mono (by (first | omega | (simp; omega) | (simp; done) | fail "sml")))
            have zWu7 := rWu7.size
            have rAu7 := Below.trans (show Below A.heap.size A _ by ((repeat (first | with_reducible assumption | with_reducible exact Below.refl _ _ | refine Below.setCell ?_ (by (first | omega | (simp; omega) | (simp; done) | fail "sml")) _ | refine Below.drew ?_ | refine Below.alloc ?_ (by (first | omega | (simp; omega) | (simp; done) | fail "sml")) _)); first | done | fail "chs")) (hb.mono (by (first | omega | (simp; omega) | (simp; done) | fail "sml")))
            have zAu7 := rAu7.size
            clear hb yW0 yW1 yW2 yA0 yA1 yA2
            obtain ⟨yW0, yW1, yW2⟩ := HKW.out _ rWu7
            obtain ⟨yA0, yA1, yA2⟩ := HKA.out _ rAu7
            go_wp2_with fail
            cases EP : pushOk 1 x0 with
            | false =>
              refine Calls.mono (EP ▸ pushNots_any x0 _ 1 W.heap.size _ (HAW.out.below (show Below W.heap.size W _ by ((repeat (first | with_reducible assumption | with_reducible exact Below.refl _ _ | refine Below.setCell ?_ (by (first | omega | (simp; omega) | (simp; done) | fail "sml")) _ | refine Below.drew ?_ | refine Below.alloc ?_ (by (first | omega | (simp; omega) | (simp; done) | fail "sml")) _)); first | done | fail "chs")) (Nat.le_refl _)) (show Below W.heap.size W _ by ((repeat (first | with_reducible assumption | with_reducible exact Below.refl _ _ | refine Below.setCell ?_ (by (first | omega | (simp; omega) | (simp; done) | fail "sml")) _ | refine Below.drew ?_ | refine Below.alloc ?_ (by (first | omega | (simp; omega) | (simp; done) | fail "sml")) _)); first | done | fail "chs")).size hsm0.1 hsm0.2 (HVV.out.below (show Below w.heap.size w _ by ((repeat (first | with_reducible assumption | with_reducible exact Below.refl _ _ | refine Below.setCell ?_ (by (first | omega | (simp; omega) | (simp; done) | fail "sml")) _ | refine Below.drew ?_ | refine Below.alloc ?_ (by (first | omega | (simp; omega) | (simp; done) | fail "sml")) _)); first | done | fail "chs")))) ?_
              rintro en u8 ⟨v', F', rfl, hpu, hpl, hb⟩
              have rwu8 := Below.trans (show Below w.heap.size w _ by ((repeat (first | with_reducible assumption | with_reducible exact Below.refl _ _ | refine Below.setCell ?_ (by (first | omega | (simp; omega) | (simp; done) | fail "sml")) _ | refine Below.drew ?_ | refine Below.alloc ?_ (by (first | omega | (simp; omega) | (simp; done) | fail "sml")) _)); first | done | fail "chs")) (hb.mono (by (first | omega | (simp; omega) | (simp; done) | fail "sml")))
              have zwu8 := rwu8.size
              have rWu8 := Below.trans (show Below W.heap.size W _ by ((repeat (first | with_reducible assumption | with_reducible exact Below.refl _ _ | refine Below.setCell ?_ (by (first | omega | (simp; omega) | (simp; done) | fail "sml")) _ | refine Below.drew ?_ | refine Below.alloc ?_ (by (first | omega | (simp; omega) | (simp; done) | fail "sml")) _)); first | done | fail "chs")) (hb.mono (by (first | omega | (simp; omega) | (simp; done) | fail "sml")))
              have zWu8 := rWu8.size
              have rAu8 := Below.trans (show Below A.heap.size A _ by ((repeat (first | with_reducible assumption | with_reducible exact Below.refl _ _ | refine Below.setCell ?_ (by (first | omega | (simp; omega) | (simp; done) | fail "sml")) _ | refine Below.drew ?_ | refine Below.alloc ?_ (by (first | omega | (simp; omega) | (simp; done) | fail "sml")) _)); first | done | fail "chs")) (hb.mono (by (first | omega | (simp; omega) | (simp; done) | fail "sml")))
              have zAu8 := rAu8.size
              obtain ⟨kp, rfl, hkp⟩ := hpu
              obtain ⟨pp, cp, rfl⟩ := hkp.in.form
              have hpa : (pushR 1 x0).At u8.heap.size u8 _ := ⟨_, rfl, hkp.in⟩
              clear hkp hpl
              clear hb yW0 yW1 yW2 yA0 yA1 yA2
              obtain ⟨yW0, yW1, yW2⟩ := HKW.out _ rWu8
              obtain ⟨yA0, yA1, yA2⟩ := HKA.out _ rAu8
              go_wp2_with fail
              go_ret
              exact ⟨rfl, by ((repeat (first | with_reducible assumption | with_reducible exact Below.refl _ _ | refine Below.setCell ?_ (by (first | omega | (simp; omega) | (simp; done) | fail "sml")) _ | refine Below.drew ?_ | refine Below.alloc ?_ (by (first | omega | (simp; omega) | (simp; done) | fail "sml")) _)); first | done | fail "chs")⟩
            | true =>
              refine Calls.mono (EP ▸ pushNots_any x0 _ 1 W.heap.size _ (HAW.out.below (show Below W.heap.size W _ by ((repeat (first | with_reducible assumption | with_reducible exact Below.refl _ _ | refine Below.setCell ?_ (by (first | omega | (simp; omega) | (simp; done) | fail "sml")) _ | refine Below.drew ?_ | refine Below.alloc ?_ (by (first | omega | (simp; omega) | (simp; done) | fail "sml")) _)); first | done | fail "chs")) (Nat.le_refl _)) (show Below W.heap.size W _ by ((repeat (first | with_reducible assumption | with_reducible exact Below.refl _ _ | refine Below.setCell ?_ (by (first | omega | (simp; omega) | (simp; done) | fail "sml")) _ | refine Below.drew ?_ | refine Below.alloc ?_ (by (first | omega | (simp; omega) | (simp; done) | fail "sml")) _)); first | done | fail "chs")).size hsm0.1 hsm0.2 (HVV.out.below (show Below w.heap.size w _ by ((repeat (first | with_reducible assumption | with_reducible exact Below.refl _ _ | refine Below.setCell ?_ (by (first | omega | (simp; omega) | (simp; done) | fail "sml")) _ | refine Below.drew ?_ | refine Below.alloc ?_ (by (first | omega | (simp; omega) | (simp; done) | fail "sml")) _)); first | done | fail "chs")))) ?_
              rintro en u8 ⟨v', F', rfl, hpu, hpl, hb⟩
              have rwu8 := Below.trans (show Below w.heap.size w _ by ((repeat (first | with_reducible assumption | with_reducible exact Below.refl _ _ | refine Below.setCell ?_ (by (first | omega | (simp; omega) | (simp; done) | fail "sml")) _ | refine Below.drew ?_ | refine Below.alloc ?_ (by (first | omega | (simp; omega) | (simp; done) | fail "sml")) _)); first | done | fail "chs")) (hb.mono (by (first | omega | (simp; omega) | (simp; done) | fail "sml")))
              have zwu8 := rwu8.size
              have rWu8 := Below.trans (show Below W.heap.size W _ by ((repeat (first | with_reducible assumption | with_reducible exact Below.refl _ _ | refine Below.setCell ?_ (by (first | omega | (simp; omega) | (simp; done) | fail "sml")) _ | refine Below.drew ?_ | refine Below.alloc ?_ (by (first | omega | (simp; omega) | (simp; done) | fail "sml")) _)); first | done | fail "chs")) (hb.mono (by (first | omega | (simp; omega) | (simp; done) | fail "sml")))
              have zWu8 := rWu8.size
              have rAu8 := Below.trans (show Below A.heap.size A _ by ((repeat (first | with_reducible assumption | with_reducible exact Below.refl _ _ | refine Below.setCell ?_ (by (first | omega | (simp; omega) | (simp; done) | fail "sml")) _ | refine Below.drew ?_ | refine Below.alloc ?_ (by (first | omega | (simp; omega) | (simp; done) | fail "sml")) _)); first | done | fail "chs")) (hb.mono (by (first | omega | (simp; omega) | (simp; done) | fail "sml")))
              have zAu8 := rAu8.size
              obtain ⟨kp, rfl, hkp⟩ := hpu
              obtain ⟨pp, cp, rfl⟩ := hkp.in.form
              have hpa : (pushR 1 x0).At u8.heap.size u8 _ := ⟨_, rfl, hkp.in⟩
              clear hkp hpl
              clear hb yW0 yW1 yW2 yA0 yA1 yA2
              obtain ⟨yW0, yW1, yW2⟩ := HKW.out _ rWu8
              obtain ⟨yA0, yA1, yA2⟩ := HKA.out _ rAu8
              have hps : (pushR 1 x0).Sml := by
                have h1 := pushOk_parts EP
                have h2 := Ex.push_sm 12 x0 false (exV_parts h1.1).2.1
                rw [h1.2.2]
                exact ⟨by omega, h2.2⟩
              go_wp2_with fail
              obtain ⟨C, eC⟩ : ∃ E, E = u8.alloc (.cells #[.int .i64 (pushR 1 x0).op, .string (pushR 1 x0).a, .slice pp (pushR 1 x0).ks.list.length cp] 25) := ⟨_, rfl⟩
              have sC : u8.heap.size < C.heap.size := by rw [eC]; simp
              have kC : Below u8.heap.size u8 C := by rw [eC]; ((repeat (first | with_reducible assumption | with_reducible exact Below.refl _ _ | refine Below.setCell ?_ (by (first | omega | (simp; omega) | (simp; done) | fail "sml")) _ | refine Below.drew ?_ | refine Below.alloc ?_ (by (first | omega | (simp; omega) | (simp; done) | fail "sml")) _)); first | done | fail "chs")
              have HCC := Lib.hid (show C.cell? ⟨u8.heap.size, 0, none⟩ = some (.int .i64 (pushR 1 x0).op) ∧ C.cell? ⟨u8.heap.size, 1, none⟩ = some (.string (pushR 1 x0).a) ∧ C.cell? ⟨u8.heap.size, 2, none⟩ = some (.slice pp (pushR 1 x0).ks.list.length cp) from by rw [eC]; exact ⟨by simp [go_sem], by simp [go_sem], by simp [go_sem]⟩)
              have HAC := Lib.hid (show (pushR 1 x0).At C.heap.size C (.agg #[.int .i64 (pushR 1 x0).op, .string (pushR 1 x0).a, .slice pp (pushR 1 x0).ks.list.length cp]) from by rw [eC]; exact hpa.below ((Below.refl _ _).alloc (Nat.le_refl _) _) (by simp))
              rw [← eC]
              have rwC := Below.trans (show Below w.heap.size w _ by ((repeat (first | with_reducible assumption | with_reducible exact Below.refl _ _ | refine Below.setCell ?_ (by (first | omega | (simp; omega) | (simp; done) | fail "sml")) _ | refine Below.drew ?_ | refine Below.alloc ?_ (by (first | omega | (simp; omega) | (simp; done) | fail "sml")) _)); first | done | fail "chs")) (kC.mono (by (first | omega | (simp; omega) | (simp; done) | fail "sml")))
              have rWC := Below.trans (show Below W.heap.size W _ by ((repeat (first | with_reducible assumption | with_reducible exact Below.refl _ _ | refine Below.setCell ?_ (by (first | omega | (simp; omega) | (simp; done) | fail "sml")) _ | refine Below.drew ?_ | refine Below.alloc ?_ (by (first | omega | (simp; omega) | (simp; done) | fail "sml")) _)); first | done | fail "chs")) (kC.mono (by (first | omega | (simp; omega) | (simp; done) | fail "sml")))
              have rAC := Below.trans (show Below A.heap.size A _ by ((repeat (first | with_reducible assumption | with_reducible exact Below.refl _ _ | refine Below.setCell ?_ (by (first | omega | (simp; omega) | (simp; done) | fail "sml")) _ | refine Below.drew ?_ | refine Below.alloc ?_ (by (first | omega | (simp; omega) | (simp; done) | fail "sml")) _)); first | done | fail "chs")) (kC.mono (by (first | omega | (simp; omega) | (simp; done) | fail "sml")))
              have HKC := Lib.hid (fun (E : World) (hE : Below C.heap.size C E) => (⟨keepc hE sC HCC.out.1, keepc hE sC HCC.out.2.1, keepc hE sC HCC.out.2.2⟩ : E.cell? ⟨u8.heap.size, 0, none⟩ = some (.int .i64 (pushR 1 x0).op) ∧ E.cell? ⟨u8.heap.size, 1, none⟩ = some (.string (pushR 1 x0).a) ∧ E.cell? ⟨u8.heap.size, 2, none⟩ = some (.slice pp (pushR 1 x0).ks.list.length cp)))
              have rC0 := Below.refl C.heap.size C
              obtain ⟨yC0, yC1, yC2⟩ := HKC.out _ rC0
              clear eC kC
              clear yW0 yW1 yW2
              obtain ⟨yW0, yW1, yW2⟩ := HKW.out _ rWC
              clear yA0 yA1 yA2
              obtain ⟨yA0, yA1, yA2⟩ := HKA.out _ rAC
              refine Calls.mono (((lholds_push (s := s) EP).trans EL) ▸ labelHolds_any (pushR 1 x0) _ s C.heap.size _ (HAC.out.below (show Below C.heap.size C _ by ((repeat (first | with_reducible assumption | with_reducible exact Below.refl _ _ | refine Below.setCell ?_ (by (first | omega | (simp; omega) | (simp; done) | fail "sml")) _ | refine Below.drew ?_ | refine Below.alloc ?_ (by (first | omega | (simp; omega) | (simp; done) | fail "sml")) _)); first | done | fail "chs")) (Nat.le_refl _)) (show Below C.heap.size C _ by ((repeat (first | with_reducible assumption | with_reducible exact Below.refl _ _ | refine Below.setCell ?_ (by (first | omega | (simp; omega) | (simp; done) | fail "sml")) _ | refine Below.drew ?_ | refine Below.alloc ?_ (by (first | omega | (simp; omega) | (simp; done) | fail "sml")) _)); first | done | fail "chs")).size hps.1 hps.2 (by omega) (HVV.out.below (show Below w.heap.size w _ by ((repeat (first | with_reducible assumption | with_reducible exact Below.refl _ _ | refine Below.setCell ?_ (by (first | omega | (simp; omega) | (simp; done) | fail "sml")) _ | refine Below.drew ?_ | refine Below.alloc ?_ (by (first | omega | (simp; omega) | (simp; done) | fail "sml")) _)); first | done | fail "chs")))) ?_
              rintro en u9 ⟨rfl, hb⟩
              have rwu9 := Below.trans (show Below w.heap.size w _ by ((repeat (first | with_reducible assumption | with_reducible exact Below.refl _ _ | refine Below.setCell ?_ (by (first | omega | (simp; omega) | (simp; done) | fail "sml")) _ | refine Below.drew ?_ | refine Below.alloc ?_ (by (first | omega | (simp; omega) | (simp; done) | fail "sml")) _)); first | done | fail "chs")) (hb.mono (by (first | omega | (simp; omega) | (simp; done) | fail "sml")))
              have zwu9 := rwu9.size
              have rWu9 := Below.trans (show Below W.heap.size W _ by ((repeat (first | with_reducible assumption | with_reducible exact Below.refl _ _ | refine Below.setCell ?_ (by (first | omega | (simp; omega) | (simp; done) | fail "sml")) _ | refine Below.drew ?_ | refine Below.alloc ?_ (by (first | omega | (simp; omega) | (simp; done) | fail "sml")) _)); first | done | fail "chs")) (hb.mono (by (first | omega | (simp; omega) | (simp; done) | fail "sml")))
              have zWu9 := rWu9.size
              have rAu9 := Below.trans (show Below A.heap.size A _ by ((repeat (first | with_reducible assumption | with_reducible exact Below.refl _ _ | refine Below.setCell ?_ (by (first | omega | (simp; omega) | (simp; done) | fail "sml")) _ | refine Below.drew ?_ | refine Below.alloc ?_ (by (first | omega | (simp; omega) | (simp; done) | fail "sml")) _)); first | done | fail "chs")) (hb.mono (by (first | omega | (simp; omega) | (simp; done) | fail "sml")))
              have zAu9 := rAu9.size
              have rCu9 := Below.trans (show Below C.heap.size C _ by ((repeat (first | with_reducible assumption | with_reducible exact Below.refl _ _ | refine Below.setCell ?_ (by (first | omega | (simp; omega) | (simp; done) | fail "sml")) _ | refine Below.drew ?_ | refine Below.alloc ?_ (by (first | omega | (simp; omega) | (simp; done) | fail "sml")) _)); first | done | fail "chs")) (hb.mono (by (first | omega | (simp; omega) | (simp; done) | fail "sml")))
              have zCu9 := rCu9.size
              clear hb yW0 yW1 yW2 yA0 yA1 yA2 yC0 yC1 yC2
              obtain ⟨yW0, yW1, yW2⟩ := HKW.out _ rWu9
              obtain ⟨yA0, yA1, yA2⟩ := HKA.out _ rAu9
              obtain ⟨yC0, yC1, yC2⟩ := HKC.out _ rCu9
              go_wp2_with fail
              go_ret
              exact ⟨rfl, by ((repeat (first | with_reducible assumption | with_reducible exact Below.refl _ _ | refine Below.setCell ?_ (by (first | omega | (simp; omega) | (simp; done) | fail "sml")) _ | refine Below.drew ?_ | refine Below.alloc ?_ (by (first | omega | (simp; omega) | (simp; done) | fail "sml")) _)); first | done | fail "chs")⟩
        | true =>
          refine Calls.mono (EL ▸ labelHolds_any x0 _ s W.heap.size _ (HAW.out.below (show Below W.heap.size W _ by ((repeat (first | with_reducible assumption | with_reducible exact Below.refl _ _ | refine Below.setCell ?_ (by (first | omega | (simp; omega) | (simp; done) | fail "sml")) _ | refine Below.drew ?_ | refine Below.alloc ?_ (by (first | omega | (simp; omega) | (simp; done) | fail "sml")) _)); first | done | fail "chs")) (Nat.le_refl _)) (show Below W.heap.size W _ by ((repeat (first | with_reducible assumption | with_reducible exact Below.refl _ _ | refine Below.setCell ?_ (by (first | omega | (simp; omega) | (simp; done) | fail "sml")) _ | refine Below.drew ?_ | refine Below.alloc ?_ (by (first | omega | (simp; omega) | (simp; done) | fail "sml")) _)); first | done | fail "chs")).size hsm0.1 hsm0.2 (by omega) (HVV.out.below (show Below w.heap.size w _ by ((repeat (first | with_reducible assumption | with_reducible exact Below.refl _ _ | refine Below.setCell ?_ (by (first | omega | (simp; omega) | (simp; done) | fail "sml")) _ | refine Below.drew ?_ | refine Below.alloc ?_ (by (first | omega | (simp; omega) | (simp; done) | fail "sml")) _)); first | done | fail "chs")))) ?_
          rintro en u2 ⟨rfl, hb⟩
          have rwu2 := Below.trans (show Below w.heap.size w _ by ((repeat (first | with_reducible assumption | with_reducible exact Below.refl _ _ | refine Below.setCell ?_ (by (first | omega | (simp; omega) | (simp; done) | fail "sml")) _ | refine Below.drew ?_ | refine Below.alloc ?_ (by (first | omega | (simp; omega) | (simp; done) | fail "sml")) _)); first | done | fail "chs")) (hb.mono (by (first | omega | (simp; omega) | (simp; done) | fail "sml")))
          have zwu2 := rwu2.size
          have rWu2 := Below.trans (show Below W.heap.size W _ by ((repeat (first | with_reducible assumption | with_reducible exact Below.refl _ _ | refine Below.setCell ?_ (by (first | omega | (simp; omega) | (simp; done) | fail "sml")) _ | refine Below.drew ?_ | refine Below.alloc ?_ (by (first | omega | (simp; omega) | (simp; done) | fail "sml")) _)); first | done | fail "chs")) (hb.mono (by (first | omega | (simp; omega) | (simp; done) | fail "sml")))
          have zWu2 := rWu2.size
          clear hb yW0 yW1 yW2
          obtain ⟨yW0, yW1, yW2⟩ := HKW.out _ rWu2
          go_wp2_with fail
          refine Calls.mono (EL ▸ specLabelHolds_any x0 _ s W.heap.size _ (HAW.out.below (show Below W.heap.size W _ by ((repeat (first | with_reducible assumption | with_reducible exact Below.refl _ _ | refine Below.setCell ?_ (by (first | omega | (simp; omega) | (simp; done) | fail "sml")) _ | refine Below.drew ?_ | refine Below.alloc ?_ (by (first | omega | (simp; omega) | (simp; done) | fail "sml")) _)); first | done | fail "chs")) (Nat.le_refl _)) (show Below W.heap.size W _ by ((repeat (first | with_reducible assumption | with_reducible exact Below.refl _ _ | refine Below.setCell ?_ (by (first | omega | (simp; omega) | (simp; done) | fail "sml")) _ | refine Below.drew ?_ | refine Below.alloc ?_ (by (first | omega | (simp; omega) | (simp; done) | fail "sml")) _)); first | done | fail "chs")).size hsm0.1 hsm0.2 (by omega)) ?_
          rintro en u3 ⟨rfl, hb⟩
          have rwu3 := Below.trans (show Below w.heap.size w _ by ((repeat (first | with_reducible assumption | with_reducible exact Below.refl _ _ | refine Below.setCell ?_ (by (first | omega | (simp; omega) | (simp; done) | fail "sml")) _ | refine Below.drew ?_ | refine Below.alloc ?_ (by (first | omega | (simp; omega) | (simp; done) | fail "sml")) _)); first | done | fail "chs")) (hb.mono (by (first | omega | (simp; omega) | (simp; done) | fail "sml")))
          have zwu3 := rwu3.size
          have rWu3 := Below.trans (show Below W.heap.size W _ by ((repeat (first | with_reducible assumption | with_reducible exact Below.refl _ _ | refine Below.setCell ?_ (by (first | omega | (simp; omega) | (simp; done) | fail "sml")) _ | refine Below.drew ?_ | refine Below.alloc ?_ (by (first | omega | (simp; omega) | (simp; done) | fail "sml")) _)); first | done | fail "chs")) (hb.mono (by (first | omega | (simp; omega) | (simp; done) | fail "sml")))
          have zWu3 := rWu3.size
          clear hb yW0 yW1 yW2
          obtain ⟨yW0, yW1, yW2⟩ := HKW.out _ rWu3
          go_wp2_with fail
          refine Calls.mono (EV ▸ exprValid_any x0 _ 1 W.heap.size _ (HAW.out.below (show Below W.heap.size W _ by ((repeat (first | with_reducible assumption | with_reducible exact Below.refl _ _ | refine Below.setCell ?_ (by (first | omega | (simp; omega) | (simp; done) | fail "sml")) _ | refine Below.drew ?_ | refine Below.alloc ?_ (by (first | omega | (simp; omega) | (simp; done) | fail "sml")) _)); first | done | fail "chs")) (Nat.le_refl _)) (show Below W.heap.size W _ by ((repeat (first | with_reducible assumption | with_reducible exact Below.refl _ _ | refine Below.setCell ?_ (by (first | omega | (simp; omega) | (simp; done) | fail "sml")) _ | refine Below.drew ?_ | refine Below.alloc ?_ (by (first | omega | (simp; omega) | (simp; done) | fail "sml")) _)); first | done | fail "chs")).size hsm0.1 hsm0.2 (HVV.out.below (show Below w.heap.size w _ by ((repeat (first | with_reducible assumption | with_reducible exact Below.refl _ _ | refine Below.setCell ?_ (by (first | omega | (simp; omega) | (simp; done) | fail "sml")) _ | refine Below.drew ?_ | refine Below.alloc ?_ (by (first | omega | (simp; omega) | (simp; done) | fail "sml")) _)); first | done | fail "chs")))) ?_
          rintro en u4 ⟨rfl, hb⟩
          have rwu4 := Below.trans (show Below w.heap.size w _ by ((repeat (first | with_reducible assumption | with_reducible exact Below.refl _ _ | refine Below.setCell ?_ (by (first | omega | (simp; omega) | (simp; done) | fail "sml")) _ | refine Below.drew ?_ | refine Below.alloc ?_ (by (first | omega | (simp; omega) | (simp; done) | fail "sml")) _)); first | done | fail "chs")) (hb.mono (by (first | omega | (simp; omega) | (simp; done) | fail "sml")))
          have zwu4 := rwu4.size
          have rWu4 := Below.trans (show Below W.heap.size W _ by ((repeat (first | with_reducible assumption | with_reducible exact Below.refl _ _ | refine Below.setCell ?_ (by (first | omega | (simp; omega) | (simp; done) | fail "sml")) _ | refine Below.drew ?_ | refine Below.alloc ?_ (by (first | omega | (simp; omega) | (simp; done) | fail "sml")) _)); first | done | fail "chs")) (hb.mono (by (first | omega | (simp; omega) | (simp; done) | fail "sml")))
          have zWu4 := rWu4.size
          clear hb yW0 yW1 yW2
          obtain ⟨yW0, yW1, yW2⟩ := HKW.out _ rWu4
          go_wp2_with fail
          refine Calls.mono (labelValid_b (s := s) (by unfold maxLen; omega) EC) ?_
          rintro en u5 ⟨rfl, hb⟩
          have rwu5 := Below.trans (show Below w.heap.size w _ by ((repeat (first | with_reducible assumption | with_reducible exact Below.refl _ _ | refine Below.setCell ?_ (by (first | omega | (simp; omega) | (simp; done) | fail "sml")) _ | refine Below.drew ?_ | refine Below.alloc ?_ (by (first | omega | (simp; omega) | (simp; done) | fail "sml")) _)); first | done | fail "chs")) (hb.mono (by (first | omega | (simp; omega) | (simp; done) | fail "sml")))
          have zwu5 := rwu5.size
          have rWu5 := Below.trans (show Below W.heap.size W _ by ((repeat (first | with_reducible assumption | with_reducible exact Below.refl _ _ | refine Below.setCell ?_ (by (first | omega | (simp; omega) | (simp; done) | fail "sml")) _ | refine Below.drew ?_ | refine Below.alloc ?_ (by (first | omega | (simp; omega) | (simp; done) | fail "sml")) _)); first | done | fail "chs")) (hb.mono (by (first | omega | (simp; omega) | (simp; done) | fail "sml")))
          have zWu5 := rWu5.size
          clear hb yW0 yW1 yW2
          obtain ⟨yW0, yW1, yW2⟩ := HKW.out _ rWu5
          go_wp2_with fail
          obtain ⟨ks0, eks, hks⟩ := HAW.out
          cases eks
          obtain ⟨A, eA⟩ : ∃ E, E = (u5.alloc (.cells #[.int .i64 x0.op, .string x0.a, .slice p0' x0.ks.list.length c0'] 25)).alloc (.cells #[.int .i64 3, .string ⟨#[]⟩, .slice (some ⟨u5.heap.size, 0, none⟩) 1 1] 25) := ⟨_, rfl⟩
          have sA : u5.heap.size + 1 < A.heap.size := by rw [eA]; simp
          have kA : Below u5.heap.size u5 A := by rw [eA]; ((repeat (first | with_reducible assumption | with_reducible exact Below.refl _ _ | refine Below.setCell ?_ (by (first | omega | (simp; omega) | (simp; done) | fail "sml")) _ | refine Below.drew ?_ | refine Below.alloc ?_ (by (first | omega | (simp; omega) | (simp; done) | fail "sml")) _)); first | done | fail "chs")
          have HCA := Lib.hid (show A.cell? ⟨u5.heap.size + 1, 0, none⟩ = some (.int .i64 3) ∧ A.cell? ⟨u5.heap.size + 1, 1, none⟩ = some (.string ⟨#[]⟩) ∧ A.cell? ⟨u5.heap.size + 1, 2, none⟩ = some (.slice (some ⟨u5.heap.size, 0, none⟩) 1 1) from by rw [eA]; exact ⟨by simp [go_sem], by simp [go_sem], by simp [go_sem]⟩)
          have HAA := Lib.hid (show (notE x0).At A.heap.size A (.agg #[.int .i64 3, .string ⟨#[]⟩, .slice (some ⟨u5.heap.size, 0, none⟩) 1 1]) from by rw [eA]; exact (notE_at (hks.below rWu5 (Nat.le_refl _)) rWu5.size).below ((Below.refl _ _).alloc (by simp) _) (by simp))
          rw [← eA]
          have rwA := Below.trans (show Below w.heap.size w _ by ((repeat (first | with_reducible assumption | with_reducible exact Below.refl _ _ | refine Below.setCell ?_ (by (first | omega | (simp; omega) | (simp; done) | fail "sml")) _ | refine Below.drew ?_ | refine Below.alloc ?_ (by (first | omega | (simp; omega) | (simp; done) | fail "sml")) _)); first | done | fail "chs")) (kA.mono (by (first | omega | (simp; omega) | (simp; done) | fail "sml")))
          have rWA := Below.trans (show Below W.heap.size W _ by ((repeat (first | with_reducible assumption | with_reducible exact Below.refl _ _ | refine Below.setCell ?_ (by (first | omega | (simp; omega) | (simp; done) | fail "sml")) _ | refine Below.drew ?_ | refine Below.alloc ?_ (by (first | omega | (simp; omega) | (simp; done) | fail "sml")) _)); first | done | fail "chs")) (kA.mono (by (first | omega | (simp; omega) | (simp; done) | fail "sml")))
          have HKA := Lib.hid (fun (E : World) (hE : Below A.heap.size A E) => (⟨keepc hE sA HCA.out.1, keepc hE sA HCA.out.2.1, keepc hE sA HCA.out.2.2⟩ : E.cell? ⟨u5.heap.size + 1, 0, none⟩ = some (.int .i64 3) ∧ E.cell? ⟨u5.heap.size + 1, 1, none⟩ = some (.string ⟨#[]⟩) ∧ E.cell? ⟨u5.heap.size + 1, 2, none⟩ = some (.slice (some ⟨u5.heap.size, 0, none⟩) 1 1)))
          have rA0 := Below.refl A.heap.size A
          obtain ⟨yA0, yA1, yA2⟩ := HKA.out _ rA0
          clear eA kA
          clear yW0 yW1 yW2
          obtain ⟨yW0, yW1, yW2⟩ := HKW.out _ rWA
          cases EN : exV 1 (notE x0) with
          | false =>
            refine Calls.mono (EN ▸ exprValid_any (notE x0) _ 1 A.heap.size _ (HAA.out.below (show Below A.heap.size A _ by ((repeat (first | with_reducible assumption | with_reducible exact Below.refl _ _ | refine Below.setCell ?_ (by (first | omega | (simp; omega) | (simp; done) | fail "sml")) _ | refine Below.drew ?_ | refine Below.alloc ?_ (by (first | omega | (simp; omega) | (simp; done) | fail "sml")) _)); first | done | fail "chs")) (Nat.le_refl _)) (show Below A.heap.size A _ by ((repeat (first | with_reducible assumption | with_reducible exact Below.refl _ _ | refine Below.setCell ?_ (by (first | omega | (simp; omega) | (simp; done) | fail "sml")) _ | refine Below.drew ?_ | refine Below.alloc ?_ (by (first | omega | (simp; omega) | (simp; done) | fail "sml")) _)); first | done | fail "chs")).size (notE_sml hsm0).1 (notE_sml hsm0).2 (HVV.out.below (show Below w.heap.size w _ by ((repeat (first | with_reducible assumption | with_reducible exact Below.refl _ _ | refine Below.setCell ?_ (by (first | omega | (simp; omega) | (simp; done) | fail "sml")) _ | refine Below.drew ?_ | refine Below.alloc ?_ (by (first | omega | (simp; omega) | (simp; done) | fail "sml")) _)); first | done | fail "chs")))) ?_
            rintro en u6 ⟨rfl, hb⟩
            have rwu6 := Below.trans (show Below w.heap.size w _ by ((repeat (first | with_reducible assumption | with_reducible exact Below.refl _ _ | refine Below.setCell ?_ (by (first | omega | (simp; omega) | (simp; done) | fail "sml")) _ | refine Below.drew ?_ | refine Below.alloc ?_ (by (first | omega | (simp; omega) | (simp; done) | fail "sml")) _)); first | done | fail "chs")) (hb.mono (by (first | omega | (simp; omega) | (simp; done) | fail "sml")))
            have zwu6 := rwu6.size
            have rWu6 := Below.trans (show Below W.heap.size W _ by ((repeat (first | with_reducible assumption | with_reducible exact Below.refl _ _ | refine Below.setCell ?_ (by (first | omega | (simp; omega) | (simp; done) | fail "sml")) _ | refine Below.drew ?_ | refine Below.alloc ?_ (by (first | omega | (simp; omega) | (simp; done) | fail "sml")) _)); first | done | fail "chs")) (hb.mono (by (first | omega | (simp; omega) | (simp; done) | fail "sml")))
            have zWu6 := rWu6.size
            have rAu6 := Below.trans (show Below A.heap.size A _ by ((repeat (first | with_reducible assumption | with_reducible exact Below.refl _ _ | refine Below.setCell ?_ (by (first | omega | (simp; omega) | (simp; done) | fail "sml")) _ | refine Below.drew ?_ | refine Below.alloc ?_ (by (first | omega | (simp; omega) | (simp; done) | fail "sml")) _)); first | done | fail "chs")) (hb.mono (by (first | omega | (simp; omega) | (simp; done) | fail "sml")))
            have zAu6 := rAu6.size
            clear hb yW0 yW1 yW2 yA0 yA1 yA2
            obtain ⟨yW0, yW1, yW2⟩ := HKW.out _ rWu6
            obtain ⟨yA0, yA1, yA2⟩ := HKA.out _ rAu6
            go_wp2_with fail
            cases EP : pushOk 1 x0 with
            | false =>
              refine Calls.mono (EP ▸ pushNots_any x0 _ 1 W.heap.size _ (HAW.out.below (show Below W.heap.size W _ by ((repeat (first | with_reducible assumption | with_reducible exact Below.refl _ _ | refine Below.setCell ?_ (by (first | omega | (simp; omega) | (simp; done) | fail "sml")) _ | refine Below.drew ?_ | refine Below.alloc ?_ (by (first | omega | (simp; omega) | (simp; done) | fail "sml")) _)); first | done | fail "chs")) (Nat.le_refl _)) (show Below W.heap.size W _ by ((repeat (first | with_reducible assumption | with_reducible exact Below.refl _ _ | refine Below.setCell ?_ (by (first | omega | (simp; omega) | (simp; done) | fail "sml")) _ | refine Below.drew ?_ | refine Below.alloc ?_ (by (first | omega | (simp; omega) | (simp; done) | fail "sml")) _)); first | done | fail "chs")).size hsm0.1 hsm0.2 (HVV.out.below (show Below w.heap.size w _ by ((repeat (first | with_reducible assumption | with_reducible exact Below.refl _ _ | refine Below.setCell ?_ (by (first | omega | (simp; omega) | (simp; done) | fail "sml")) _ | refine Below.drew ?_ | refine Below.alloc ?_ (by (first | omega | (simp; omega) | (simp; done) | fail "sml")) _)); first | done | fail "chs")))) ?_
              rintro en u7 ⟨v', F', rfl, hpu, hpl, hb⟩
              have rwu7 := Below.trans (show Below w.heap.size w _ by ((repeat (first | with_reducible assumption | with_reducible exact Below.refl _ _ | refine Below.setCell ?_ (by (first | omega | (simp; omega) | (simp; done) | fail "sml")) _ | refine Below.drew ?_ | refine Below.alloc ?_ (by (first | omega | (simp; omega) | (simp; done) | fail "sml")) _)); first | done | fail "chs")) (hb.mono (by (first | omega | (simp; omega) | (simp; done) | fail "sml")))
              have zwu7 := rwu7.size
              have rWu7 := Below.trans (show Below W.heap.size W _ by ((repeat (first | with_reducible assumption | with_reducible exact Below.refl _ _ | refine Below.setCell ?_ (by (first | omega | (simp; omega) | (simp; done) | fail "sml")) _ | refine Below.drew ?_ | refine Below.alloc ?_ (by (first | omega | (simp; omega) | (simp; done) | fail "sml")) _)); first | done | fail "chs")) (hb.mono (by (first | omega | (simp; omega) | (simp; done) | fail "sml")))
              have zWu7 := rWu7.size
              have rAu7 := Below.trans (show Below A.heap.size A _ by ((repeat (first | with_reducible assumption | with_reducible exact Below.refl _ _ | refine Below.setCell ?_ (by (first | omega | (simp; omega) | (simp; done) | fail "sml")) _ | refine Below.drew ?_ | refine Below.alloc ?_ (by (first | omega | (simp; omega) | (simp; done) | fail "sml")) _)); first | done | fail "chs")) (hb.mono (by (first | omega | (simp; omega) | (simp; done) | fail "sml")))
              have zAu7 := rAu7.size
              obtain ⟨kp, rfl, hkp⟩ := hpu
              obtain ⟨pp, cp, rfl⟩ := hkp.in.form
              have hpa : (pushR 1 x0).At u7.heap.size u7 _ := ⟨_, rfl, hkp.in⟩
              clear hkp hpl
              clear hb yW0 yW1 yW2 yA0 yA1 yA2
              obtain ⟨yW0, yW1, yW2⟩ := HKW.out _ rWu7
              obtain ⟨yA0, yA1, yA2⟩ := HKA.out _ rAu7
              go_wp2_with fail
              go_ret
              exact ⟨rfl, by ((repeat (first | with_reducible assumption | with_reducible exact Below.refl _ _ | refine Below.setCell ?_ (by (first | omega | (simp; omega) | (simp; done) | fail "sml")) _ | refine Below.drew ?_ | refine Below.alloc ?_ (by (first | omega | (simp; omega) | (simp; done) | fail "sml")) _)); first | done | fail "chs")⟩
            | true =>
              refine Calls.mono (EP ▸ pushNots_any x0 _ 1 W.heap.size _ (HAW.out.below (show Below W.heap.size W _ by ((repeat (first | with_reducible assumption | with_reducible exact Below.refl _ _ | refine Below.setCell ?_ (by (first | omega | (simp; omega) | (simp; done) | fail "sml")) _ | refine Below.drew ?_ | refine Below.alloc ?_ (by (first | omega | (simp; omega) | (simp; done) | fail "sml")) _)); first | done | fail "chs")) (Nat.le_refl _)) (show Below W.heap.size W _ by ((repeat (first | with_reducible assumption | with_reducible exact Below.refl _ _ | refine Below.setCell ?_ (by (first | omega | (simp; omega) | (simp; done) | fail "sml")) _ | refine Below.drew ?_ | refine Below.alloc ?_ (by (first | omega | (simp; omega) | (simp; done) | fail "sml")) _)); first | done | fail "chs")).size hsm0.1 hsm0.2 (HVV.out.below (show Below w.heap.size w _ by ((repeat (first | with_reducible assumption | with_reducible exact Below.refl _ _ | refine Below.setCell ?_ (by (first | omega | (simp; omega) | (simp; done) | fail "sml")) _ | refine Below.drew ?_ | refine Below.alloc ?_ (by (first | omega | (simp; omega) | (simp; done) | fail "sml")) _)); first | done | fail "chs")))) ?_
              rintro en u7 ⟨v', F', rfl, hpu, hpl, hb⟩
              have rwu7 := Below.trans (show Below w.heap.size w _ by ((repeat (first | with_reducible assumption | with_reducible exact Below.refl _ _ | refine Below.setCell ?_ (by (first | omega | (simp; omega) | (simp; done) | fail "sml")) _ | refine Below.drew ?_ | refine Below.alloc ?_ (by (first | omega | (simp; omega) | (simp; done) | fail "sml")) _)); first | done | fail "chs")) (hb.mono (by (first | omega | (simp; omega) | (simp; done) | fail "sml")))
              have zwu7 := rwu7.size
              have rWu7 := Below.trans (show Below W.heap.size W _ by ((repeat (first | with_reducible assumption | with_reducible exact Below.refl _ _ | refine Below.setCell ?_ (by (first | omega | (simp; omega) | (simp; done) | fail "sml")) _ | refine Below.drew ?_ | refine Below.alloc ?_ (by (first | omega | (simp; omega) | (simp; done) | fail "sml")) _)); first | done | fail "chs")) (hb.mono (by (first | omega | (simp; omega) | (simp; done) | fail "sml")))
              have zWu7 := rWu7.size
              have rAu7 := Below.trans (show Below A.heap.size A _ by ((repeat (first | with_reducible assumption | with_reducible exact Below.refl _ _ | refine Below.setCell ?_ (by (first | omega | (simp; omega) | (simp; done) | fail "sml")) _ | refine Below.drew ?_ | refine Below.alloc ?_ (by (first | omega | (simp; omega) | (simp; done) | fail "sml")) _)); first | done | fail "chs")) (hb.mono (by (first | omega | (simp; omega) | (simp; done) | fail "sml")))
              have zAu7 := rAu7.size
              obtain ⟨kp, rfl, hkp⟩ := hpu
              obtain ⟨pp, cp, rfl⟩ := hkp.in.form
              have hpa : (pushR 1 x0).At u7.heap.size u7 _ := ⟨_, rfl, hkp.in⟩
              clear hkp hpl
              clear hb yW0 yW1 yW2 yA0 yA1 yA2
              obtain ⟨yW0, yW1, yW2⟩ := HKW.out _ rWu7
              obtain ⟨yA0, yA1, yA2⟩ := HKA.out _ rAu7
              have hps : (pushR 1 x0).Sml := by
                have h1 := pushOk_parts EP
                have h2 := Ex.push_sm 12 x0 false (exV_parts h1.1).2.1
                rw [h1.2.2]
                exact ⟨by omega, h2.2⟩
              go_wp2_with fail
              obtain ⟨C, eC⟩ : ∃ E, E = u7.alloc (.cells #[.int .i64 (pushR 1 x0).op, .string (pushR 1 x0).a, .slice pp (pushR 1 x0).ks.list.length cp] 25) := ⟨_, rfl⟩
              have sC : u7.heap.size < C.heap.size := by rw [eC]; simp
              have kC : Below u7.heap.size u7 C := by rw [eC]; ((repeat (first | with_reducible assumption | with_reducible exact Below.refl _ _ | refine Below.setCell ?_ (by (first | omega | (simp; omega) | (simp; done) | fail "sml")) _ | refine Below.drew ?_ | refine Below.alloc ?_ (by (first | omega | (simp; omega) | (simp; done) | fail "sml")) _)); first | done | fail "chs")
              have HCC := Lib.hid (show C.cell? ⟨u7.heap.size, 0, none⟩ = some (.int .i64 (pushR 1 x0).op) ∧ C.cell? ⟨u7.heap.size, 1, none⟩ = some (.string (pushR 1 x0).a) ∧ C.cell? ⟨u7.heap.size, 2, none⟩ = some (.slice pp (pushR 1 x0).ks.list.length cp) from by rw [eC]; exact ⟨by simp [go_sem], by simp [go_sem], by simp [go_sem]⟩)
              have HAC := Lib.hid (show (pushR 1 x0).At C.heap.size C (.agg #[.int .i64 (pushR 1 x0).op, .string (pushR 1 x0).a, .slice pp (pushR 1 x0).ks.list.length cp]) from by rw [eC]; exact hpa.below ((Below.refl _ _).alloc (Nat.le_refl _) _) (by simp))
              rw [← eC]
              have rwC := Below.trans (show Below w.heap.size w _ by ((repeat (first | with_reducible assumption | with_reducible exact Below.refl _ _ | refine Below.setCell ?_ (by (first | omega | (simp; omega) | (simp; done) | fail "sml")) _ | refine Below.drew ?_ | refine Below.alloc ?_ (by (first | omega | (simp; omega) | (simp; done) | fail "sml")) _)); first | done | fail "chs")) (kC.mono (by (first | omega | (simp; omega) | (simp; done) | fail "sml")))
              have rWC := Below.trans (show Below W.heap.size W _ by ((repeat (first | with_reducible assumption | with_reducible exact Below.refl _ _ | refine Below.setCell ?_ (by (first | omega | (simp; omega) | (simp; done) | fail "sml")) _ | refine Below.drew ?_ | refine Below.alloc ?_ (by (first | omega | (simp; omega) | (simp; done) | fail "sml")) _)); first | done | fail "chs")) (kC.mono (by (first | omega | (simp; omega) | (simp; done) | fail "sml")))
              have rAC := Below.trans (show Below A.heap.size A _ by ((repeat (first | with_reducible assumption | with_reducible exact Below.refl _ _ | refine Below.setCell ?_ (by (first | omega | (simp; omega) | (simp; done) | fail "sml")) _ | refine Below.drew ?_ | refine Below.alloc ?_ (by (first | omega | (simp; omega) | (simp; done) | fail "sml")) _)); first | done | fail "chs")) (kC.mono (by (first | omega | (simp; omega) | (simp; done) | fail "sml")))
              have HKC := Lib.hid (fun (E : World) (hE : Below C.heap.size C E) => (⟨keepc hE sC HCC.out.1, keepc hE sC HCC.out.2.1, keepc hE sC HCC.out.2.2⟩ : E.cell? ⟨u7.heap.size, 0, none⟩ = some (.int .i64 (pushR 1 x0).op) ∧ E.cell? ⟨u7.heap.size, 1, none⟩ = some (.string (pushR 1 x0).a) ∧ E.cell? ⟨u7.heap.size, 2, none⟩ = some (.slice pp (pushR 1 x0).ks.list.length cp)))
              have rC0 := Below.refl C.heap.size C
              obtain ⟨yC0, yC1, yC2⟩ := HKC.out _ rC0
              clear eC kC
              clear yW0 yW1 yW2
              obtain ⟨yW0, yW1, yW2⟩ := HKW.out _ rWC
              clear yA0 yA1 yA2
              obtain ⟨yA0, yA1, yA2⟩ := HKA.out _ rAC
              refine Calls.mono (((lholds_push (s := s) EP).trans EL) ▸ labelHolds_any (pushR 1 x0) _ s C.heap.size _ (HAC.out.below (show Below C.heap.size C _ by ((repeat (first | with_reducible assumption | with_reducible exact Below.refl _ _ | refine Below.setCell ?_ (by (first | omega | (simp; omega) | (simp; done) | fail "sml")) _ | refine Below.drew ?_ | refine Below.alloc ?_ (by (first | omega | (simp; omega) | (simp; done) | fail "sml")) _)); first | done | fail "chs")) (Nat.le_refl _)) (show Below C.heap.size C _ by ((repeat (first | with_reducible assumption | with_reducible exact Below.refl _ _ | refine Below.setCell ?_ (by (first | omega | (simp; omega) | (simp; done) | fail "sml")) _ | refine Below.drew ?_ | refine Below.alloc ?_ (by (first | omega | (simp; omega) | (simp; done) | fail "sml")) _)); first | done | fail "chs")).size hps.1 hps.2 (by omega) (HVV.out.below (show Below w.heap.size w _ by ((repeat (first | with_reducible assumption | with_reducible exact Below.refl _ _ | refine Below.setCell ?_ (by (first | omega | (simp; omega) | (simp; done) | fail "sml")) _ | refine Below.drew ?_ | refine Below.alloc ?_ (by (first | omega | (simp; omega) | (simp; done) | fail "sml")) _)); first | done | fail "chs")))) ?_
              rintro en u8 ⟨rfl, hb⟩
              have rwu8 := Below.trans (show Below w.heap.size w _ by ((repeat (first | with_reducible assumption | with_reducible exact Below.refl _ _ | refine Below.setCell ?_ (by (first | omega | (simp; omega) | (simp; done) | fail "sml")) _ | refine Below.drew ?_ | refine Below.alloc ?_ (by (first | omega | (simp; omega) | (simp; done) | fail "sml")) _)); first | done | fail "chs")) (hb.mono (by (first | omega | (simp; omega) | (simp; done) | fail "sml")))
              have zwu8 := rwu8.size
              have rWu8 := Below.trans (show Below W.heap.size W _ by ((repeat (first | with_reducible assumption | with_reducible exact Below.refl _ _ | refine Below.setCell ?_ (by (first | omega | (simp; omega) | (simp; done) | fail "sml")) _ | refine Below.drew ?_ | refine Below.alloc ?_ (by (first | omega | (simp; omega) | (simp; done) | fail "sml")) _)); first | done | fail "chs")) (hb.mono (by (first | omega | (simp; omega) | (simp; done) | fail "sml")))
              have zWu8 := rWu8.size
              have rAu8 := Below.trans (show Below A.heap.size A _ by ((repeat (first | with_reducible assumption | with_reducible exact Below.refl _ _ | refine Below.setCell ?_ (by (first | omega | (simp; omega) | (simp; done) | fail "sml")) _ | refine Below.drew ?_ | refine Below.alloc ?_ (by (first | omega | (simp; omega) | (simp; done) | fail "sml")) _)); first | done | fail "chs")) (hb.mono (by (first | omega | (simp; omega) | (simp; done) | fail "sml")))
              have zAu8 := rAu8.size
              have rCu8 := Below.trans (show Below C.heap.size C _ by ((repeat (first | with_reducible assumption | with_reducible exact Below.refl _ _ | refine Below.setCell ?_ (by (first | omega | (simp; omega) | (simp; done) | fail "sml")) _ | refine Below.drew ?_ | refine Below.alloc ?_ (by (first | omega | (simp; omega) | (simp; done) | fail "sml")) _)); first | done | fail "chs")) (hb.mono (by (first | omega | (simp; omega) | (simp; done) | fail "sml")))
              have zCu8 := rCu8.size
              clear hb yW0 yW1 yW2 yA0 yA1 yA2 yC0 yC1 yC2
              obtain ⟨yW0, yW1, yW2⟩ := HKW.out _ rWu8
              obtain ⟨yA0, yA1, yA2⟩ := HKA.out _ rAu8
              obtain ⟨yC0, yC1, yC2⟩ := HKC.out _ rCu8
              go_wp2_with fail
              go_ret
              exact ⟨rfl, by ((repeat (first | with_reducible assumption | with_reducible exact Below.refl _ _ | refine Below.setCell ?_ (by (first | omega | (simp; omega) | (simp; done) | fail "sml")) _ | refine Below.drew ?_ | refine Below.alloc ?_ (by (first | omega | (simp; omega) | (simp; done) | fail "sml")) _)); first | done | fail "chs")⟩
          | true =>
            refine Calls.mono (EN ▸ exprValid_any (notE x0) _ 1 A.heap.size _ (HAA.out.below (show Below A.heap.size A _ by ((repeat (first | with_reducible assumption | with_reducible exact Below.refl _ _ | refine Below.setCell ?_ (by (first | omega | (simp; omega) | (simp; done) | fail "sml")) _ | refine Below.drew ?_ | refine Below.alloc ?_ (by (first | omega | (simp; omega) | (simp; done) | fail "sml")) _)); first | done | fail "chs")) (Nat.le_refl _)) (show Below A.heap.size A _ by ((repeat (first | with_reducible assumption | with_reducible exact Below.refl _ _ | refine Below.setCell ?_ (by (first | omega | (simp; omega) | (simp; done) | fail "sml")) _ | refine Below.drew ?_ | refine Below.alloc ?_ (by (first | omega | (simp; omega) | (simp; done) | fail "sml")) _)); first | done | fail "chs")).size (notE_sml hsm0).1 (notE_sml hsm0).2 (HVV.out.below (show Below w.heap.size w _ by ((repeat (first | with_reducible assumption | with_reducible exact Below.refl _ _ | refine Below.setCell ?_ (by (first | omega | (simp; omega) | (simp; done) | fail "sml")) _ | refine Below.drew ?_ | refine Below.alloc ?_ (by (first | omega | (simp; omega) | (simp; done) | fail "sml")) _)); first | done | fail "chs")))) ?_
            rintro en u6 ⟨rfl, hb⟩
            have rwu6 := Below.trans (show Below w.heap.size w _ by ((repeat (first | with_reducible assumption | with_reducible exact Below.refl _ _ | refine Below.setCell ?_ (by (first | omega | (simp; omega) | (simp; done) | fail "sml")) _ | refine Below.drew ?_ | refine Below.alloc ?_ (by (first | omega | (simp; omega) | (simp; done) | fail "sml")) _)); first | done | fail "chs")) (hb.mono (by (first | omega | (simp; omega) | (simp; done) | fail "sml")))
            have zwu6 := rwu6.size
            have rWu6 := Below.trans (show Below W.heap.size W _ by ((repeat (first | with_reducible assumption | with_reducible exact Below.refl _ _ | refine Below.setCell ?_ (by (first | omega | (simp; omega) | (simp; done) | fail "sml")) _ | refine Below.drew ?_ | refine Below.alloc ?_ (by (first | omega | (simp; omega) | (simp; done) | fail "sml")) _)); first | done | fail "chs")) (hb.mono (by (first | omega | (simp; omega) | (simp; done) | fail "sml")))
            have zWu6 := rWu6.size
            have rAu6 := Below.trans (show Below A.heap.size A _ by ((repeat (first | with_reducible assumption | with_reducible exact Below.refl _ _ | refine Below.setCell ?_ (by (first | omega | (simp; omega) | (simp; done) | fail "sml")) _ | refine Below.drew ?_ | refine Below.alloc ?_ (by (first | omega | (simp; omega) | (simp; done) | fail "sml")) _)); first | done | fail "chs")) (hb.mono (by (first | omega | (simp; omega) | (simp; done) | fail "sml")))
            have zAu6 := rAu6.size
            clear hb yW0 yW1 yW2 yA0 yA1 yA2
            obtain ⟨yW0, yW1, yW2⟩ := HKW.out _ rWu6
            obtain ⟨yA0, yA1, yA2⟩ := HKA.out _ rAu6
            go_wp2_with fail
            refine Calls.mono ((((lholds_not (s := s) EN hlb).trans (congrArg (!·) EL)).trans (show (!true) = false from rfl)) ▸ labelHolds_any (notE x0) _ s A.heap.size _ (HAA.out.below (show Below A.heap.size A _ by ((repeat (first | with_reducible assumption | with_reducible exact Below.refl _ _ | refine Below.setCell ?_ (by (first | omega | (simp; omega) | (simp; done) | fail "sml")) _ | refine Below.drew ?_ | refine Below.alloc ?_ (by (first | omega | (simp; omega) | (simp; done) | fail "sml")) _)); first | done | fail "chs")) (Nat.le_refl _)) (show Below A.heap.size A _ by ((repeat (first | with_reducible assumption | with_reducible exact Below.refl _ _ | refine Below.setCell ?_ (by (first | omega | (simp; omega) | (simp; done) | fail "sml")) _ | refine Below.drew ?_ | refine Below.alloc ?_ (by (first | omega | (simp; omega) | (simp; done) | fail "sml")) _)); first | done | fail "chs")).size (notE_sml hsm0).1 (notE_sml hsm0).2 (by omega) (HVV.out.below (show Below w.heap.size w _ by ((repeat (first | with_reducible assumption | with_reducible exact Below.refl _ _ | refine Below.setCell ?_ (by (first | omega | (simp; omega) | (simp; done) | fail "sml")) _ | refine Below.drew ?_ | refine Below.alloc ?_ (by (first | omega | (simp; omega) | (simp; done) | fail "sml")) _)); first | done | fail "chs")))) ?_
            rintro en u7 ⟨rfl, hb⟩
            have rwu7 := Below.trans (show Below w.heap.size w _ by ((repeat (first | with_reducible assumption | with_reducible exact Below.refl _ _ | refine Below.setCell ?_ (by (first | omega | (simp; omega) | (simp; done) | fail "sml")) _ | refine Below.drew ?_ | refine Below.alloc ?_ (by (first | omega | (simp; omega) | (simp; done) | fail "sml")) _)); first | done | fail "chs")) (hb.mono (by (first | omega | (simp; omega) | (simp; done) | fail "sml")))
            have zwu7 := rwu7.size
            have rWu7 := Below.trans (show Below W.heap.size W _ by ((repeat (first | with_reducible assumption | with_reducible exact Below.refl _ _ | refine Below.setCell ?_ (by (first | omega | (simp; omega) | (simp; done) | fail "sml")) _ | refine Below.drew ?_ | refine Below.alloc ?_ (by (first | omega | (simp; omega) | (simp; done) | fail "sml")) _)); first | done | fail "chs")) (hb.mono (by (first | omega | (simp; omega) | (simp; done) | fail "sml")))
            have zWu7 := rWu7.size
            have rAu7 := Below.trans (show Below A.heap.size A _ by ((repeat (first | with_reducible assumption | with_reducible exact Below.refl _ _ | refine Below.setCell ?_ (by (first | omega | (simp; omega) | (simp; done) | fail "sml")) _ | refine Below.drew ?_ | refine Below.alloc ?_ (by (first | omega | (simp; omega) | (simp; done) | fail "sml")) _)); first | done | fail "chs")) (hb.mono (by (first | omega | (simp; omega) | (simp; done) | fail "sml")))
            have zAu7 := rAu7.size
            clear hb yW0 yW1 yW2 yA0 yA1 yA2
            obtain ⟨yW0, yW1, yW2⟩ := HKW.out _ rWu7
            obtain ⟨yA0, yA1, yA2⟩ := HKA.out _ rAu7
            go_wp2_with fail
            cases EP : pushOk 1 x0 with
            | false =>
              refine Calls.mono (EP ▸ pushNots_any x0 _ 1 W.heap.size _ (HAW.out.below (show Below W.heap.size W _ by ((repeat (first | with_reducible assumption | with_reducible exact Below.refl _ _ | refine Below.setCell ?_ (by (first | omega | (simp; omega) | (simp; done) | fail "sml")) _ | refine Below.drew ?_ | refine Below.alloc ?_ (by (first | omega | (simp; omega) | (simp; done) | fail "sml")) _)); first | done | fail "chs")) (Nat.le_refl _)) (show Below W.heap.size W _ by ((repeat (first | with_reducible assumption | with_reducible exact Below.refl _ _ | refine Below.setCell ?_ (by (first | omega | (simp; omega) | (simp; done) | fail "sml")) _ | refine Below.drew ?_ | refine Below.alloc ?_ (by (first | omega | (simp; omega) | (simp; done) | fail "sml")) _)); first | done | fail "chs")).size hsm0.1 hsm0.2 (HVV.out.below (show Below w.heap.size w _ by ((repeat (first | with_reducible assumption | with_reducible exact Below.refl _ _ | refine Below.setCell ?_ (by (first | omega | (simp; omega) | (simp; done) | fail "sml")) _ | refine Below.drew ?_ | refine Below.alloc ?_ (by (first | omega | (simp; omega) | (simp; done) | fail "sml")) _)); first | done | fail "chs")))) ?_
              rintro en u8 ⟨v', F', rfl, hpu, hpl, hb⟩
              have rwu8 := Below.trans (show Below w.heap.size w _ by ((repeat (first | with_reducible assumption | with_reducible exact Below.refl _ _ | refine Below.setCell ?_ (by (first | omega | (simp; omega) | (simp; done) | fail "sml")) _ | refine Below.drew ?_ | refine Below.alloc ?_ (by (first | omega | (simp; omega) | (simp; done) | fail "sml")) _)); first | done | fail "chs")) (hb.mono (by (first | omega | (simp; omega) | (simp; done) | fail "sml")))
              have zwu8 := rwu8.size
              have rWu8 := Below.trans (show Below W.heap.size W _ by ((repeat (first | with_reducible assumption | with_reducible exact Below.refl _ _ | refine Below.setCell ?_ (by (first | omega | (simp; omega) | (simp; done) | fail "sml")) _ | refine Below.drew ?_ | refine Below.alloc ?_ (by (first | omega | (simp; omega) | (simp; done) | fail "sml")) _)); first | done | fail "chs")) (hb.mono (by (first | omega | (simp; omega) | (simp; done) | fail "sml")))
              have zWu8 := rWu8.size
              have rAu8 := Below.trans (show Below A.heap.size A _ by ((repeat (first | with_reducible assumption | with_reducible exact Below.refl _ _ | refine Below.setCell ?_ (by (first | omega | (simp; omega) | (simp; done) | fail "sml")) _ | refine Below.drew ?_ | refine Below.alloc ?_ (by (first | omega | (simp; omega) | (simp; done) | fail "sml")) _)); first | done | fail "chs")) (hb.mono (by (first | omega | (simp; omega) | (simp; done) | fail "sml")))
              have zAu8 := rAu8.size
              obtain ⟨kp, rfl, hkp⟩ := hpu
              obtain ⟨pp, cp, rfl⟩ := hkp.in.form
              have hpa : (pushR 1 x0).At u8.heap.size u8 _ := ⟨_, rfl, hkp.in⟩
              clear hkp hpl
              clear hb yW0 yW1 yW2 yA0 yA1 yA2
              obtain ⟨yW0, yW1, yW2⟩ := HKW.out _ rWu8
              obtain ⟨yA0, yA1, yA2⟩ := HKA.out _ rAu8
              go_wp2_with fail
              go_ret
              exact ⟨rfl, by ((repeat (first | with_reducible assumption | with_reducible exact Below.refl _ _ | refine Below.setCell ?_ (by (first | omega | (simp; omega) | (simp; done) | fail "sml")) _ | refine Below.drew ?_ | refine Below.alloc ?_ (by (first | omega | (simp; omega) | (simp; done) | fail "sml")) _)); first | done | fail "chs")⟩
            | true =>
              refine Calls.mono (EP ▸ pushNots_any x0 _ 1 W.heap.size _ (HAW.out.below (show Below W.heap.size W _ by ((repeat (first | with_reducible assumption | with_reducible exact Below.refl _ _ | refine Below.setCell ?_ (by (first | omega | (simp; omega) | (simp; done) | fail "sml")) _ | refine Below.drew ?_ | refine Below.alloc ?_ (by (first | omega | (simp; omega) | (simp; done) | fail "sml")) _)); first | done | fail "chs")) (Nat.le_refl _)) (show Below W.heap.size W _ by ((repeat (first | with_reducible assumption | with_reducible exact Below.refl _ _ | refine Below.setCell ?_ (by (first | omega | (simp; omega) | (simp; done) | fail "sml")) _ | refine Below.drew ?_ | refine Below.alloc ?_ (by (first | omega | (simp; omega) | (simp; done) | fail "sml")) _)); first | done | fail "chs")).size hsm0.1 hsm0.2 (HVV.out.below (show Below w.heap.size w _ by ((repeat (first | with_reducible assumption | with_reducible exact Below.refl _ _ | refine Below.setCell ?_ (by (first | omega | (simp; omega) | (simp; done) | fail "sml")) _ | refine Below.drew ?_ | refine Below.alloc ?_ (by (first | omega | (simp; omega) | (simp; done) | fail "sml")) _)); first | done | fail "chs")))) ?_
              rintro en u8 ⟨v', F', rfl, hpu, hpl, hb⟩
              have rwu8 := Below.trans (show Below w.heap.size w _ by ((repeat (first | with_reducible assumption | with_reducible exact Below.refl _ _ | refine Below.setCell ?_ (by (first | omega | (simp; omega) | (simp; done) | fail "sml")) _ | refine Below.drew ?_ | refine Below.alloc ?_ (by (first | omega | (simp; omega) | (simp; done) | fail "sml")) _)); first | done | fail "chs")) (hb.mono (by (first | omega | (simp; omega) | (simp; done) | fail "sml")))
              have zwu8 := rwu8.size
              have rWu8 := Below.trans (show Below W.heap.size W _ by ((repeat (first | with_reducible assumption | with_reducible exact Below.refl _ _ | refine Below.setCell ?_ (by (first | omega | (simp; omega) | (simp; done) | fail "sml")) _ | refine Below.drew ?_ | refine Below.alloc ?_ (by (first | omega | (simp; omega) | (simp; done) | fail "sml")) _)); first | done | fail "chs")) (hb.mono (by (first | omega | (simp; omega) | (simp; done) | fail "sml")))
              have zWu8 := rWu8.size
              have rAu8 := Below.trans (show Below A.heap.size A _ by ((repeat (first | with_reducible assumption | with_reducible exact Below.refl _ _ | refine Below.setCell ?_ (by (first | omega | (simp; omega) | (simp; done) | fail "sml")) _ | refine Below.drew ?_ | refine Below.alloc ?_ (by (first | omega | (simp; omega) | (simp; done) | fail "sml")) _)); first | done | fail "chs")) (hb.mono (by (first | omega | (simp; omega) | (simp; done) | fail "sml")))
              have zAu8 := rAu8.size
              obtain ⟨kp, rfl, hkp⟩ := hpu
              obtain ⟨pp, cp, rfl⟩ := hkp.in.form
              have hpa : (pushR 1 x0).At u8.heap.size u8 _ := ⟨_, rfl, hkp.in⟩
              clear hkp hpl
              clear hb yW0 yW1 yW2 yA0 yA1 yA2
              obtain ⟨yW0, yW1, yW2⟩ := HKW.out _ rWu8
              obtain ⟨yA0, yA1, yA2⟩ := HKA.out _ rAu8
              have hps : (pushR 1 x0).Sml := by
                have h1 := pushOk_parts EP
                have h2 := Ex.push_sm 12 x0 false (exV_parts h1.1).2.1
                rw [h1.2.2]
                exact ⟨by omega, h2.2⟩
              go_wp2_with fail
              obtain ⟨C, eC⟩ : ∃ E, E = u8.alloc (.cells #[.int .i64 (pushR 1 x0).op, .string (pushR 1 x0).a, .slice pp (pushR 1 x0).ks.list.length cp] 25) := ⟨_, rfl⟩
              have sC : u8.heap.size < C.heap.size := by rw [eC]; simp
              have kC : Below u8.heap.size u8 C := by rw [eC]; ((repeat (first | with_reducible assumption | with_reducible exact Below.refl _ _ | refine Below.setCell ?_ (by (first | omega | (simp; omega) | (simp; done) | fail "sml")) _ | refine Below.drew ?_ | refine Below.alloc ?_ (by (first | omega | (simp; omega) | (simp; done) | fail "sml")) _)); first | done | fail "chs")
              have HCC := Lib.hid (show C.cell? ⟨u8.heap.size, 0, none⟩ = some (.int .i64 (pushR 1 x0).op) ∧ C.cell? ⟨u8.heap.size, 1, none⟩ = some (.string (pushR 1 x0).a) ∧ C.cell? ⟨u8.heap.size, 2, none⟩ = some (.slice pp (pushR 1 x0).ks.list.length cp) from by rw [eC]; exact ⟨by simp [go_sem], by simp [go_sem], by simp [go_sem]⟩)
              have HAC := Lib.hid (show (pushR 1 x0).At C.heap.size C (.agg #[.int .i64 (pushR 1 x0).op, .string (pushR 1 x0).a, .slice pp (pushR 1 x0).ks.list.length cp]) from by rw [eC]; exact hpa.below ((Below.refl _ _).alloc (Nat.le_refl _) _) (by simp))
              rw [← eC]
              have rwC := Below.trans (show Below w.heap.size w _ by ((repeat (first | with_reducible assumption | with_reducible exact Below.refl _ _ | refine Below.setCell ?_ (by (first | omega | (simp; omega) | (simp; done) | fail "sml")) _ | refine Below.drew ?_ | refine Below.alloc ?_ (by (first | omega | (simp; omega) | (simp; done) | fail "sml")) _)); first | done | fail "chs")) (kC.mono (by (first | omega | (simp; omega) | (simp; done) | fail "sml")))
              have rWC := Below.trans (show Below W.heap.size W _ by ((repeat (first | with_reducible assumption | with_reducible exact Below.refl _ _ | refine Below.setCell ?_ (by (first | omega | (simp; omega) | (simp; done) | fail "sml")) _ | refine Below.drew ?_ | refine Below.alloc ?_ (by (first | omega | (simp; omega) | (simp; done) | fail "sml")) _)); first | done | fail "chs")) (kC.mono (by (first | omega | (simp; omega) | (simp; done) | fail "sml")))
              have rAC := Below.trans (show Below A.heap.size A _ by ((repeat (first | with_reducible assumption | with_reducible exact Below.refl _ _ | refine Below.setCell ?_ (by (first | omega | (simp; omega) | (simp; done) | fail "sml")) _ | refine Below.drew ?_ | refine Below.alloc ?_ (by (first | omega | (simp; omega) | (simp; done) | fail "sml")) _)); first | done | fail "chs")) (kC.mono (by (first | omega | (simp; omega) | (simp; done) | fail "sml")))
              have HKC := Lib.hid (fun (E : World) (hE : Below C.heap.size C E) => (⟨keepc hE sC HCC.out.1, keepc hE sC HCC.out.2.1, keepc hE sC HCC.out.2.2⟩ : E.cell? ⟨u8.heap.size, 0, none⟩ = some (.int .i64 (pushR 1 x0).op) ∧ E.cell? ⟨u8.heap.size, 1, none⟩ = some (.string (pushR 1 x0).a) ∧ E.cell? ⟨u8.heap.size, 2, none⟩ = some (.slice pp (pushR 1 x0).ks.list.length cp)))
              have rC0 := Below.refl C.heap.size C
              obtain ⟨yC0, yC1, yC2⟩ := HKC.out _ rC0
              clear eC kC
              clear yW0 yW1 yW2
              obtain ⟨yW0, yW1, yW2⟩ := HKW.out _ rWC
              clear yA0 yA1 yA2
              obtain ⟨yA0, yA1, yA2⟩ := HKA.out _ rAC
              refine Calls.mono (((lholds_push (s := s) EP).trans EL) ▸ labelHolds_any (pushR 1 x0) _ s C.heap.size _ (HAC.out.below (show Below C.heap.size C _ by ((repeat (first | with_reducible assumption | with_reducible exact Below.refl _ _ | refine Below.setCell ?_ (by (first | omega | (simp; omega) | (simp; done) | fail "sml")) _ | refine Below.drew ?_ | refine Below.alloc ?_ (by (first | omega | (simp; omega) | (simp; done) | fail "sml")) _)); first | done | fail "chs")) (Nat.le_refl _)) (show Below C.heap.size C _ by ((repeat (first | with_reducible assumption | with_reducible exact Below.refl _ _ | refine Below.setCell ?_ (by (first | omega | (simp; omega) | (simp; done) | fail "sml")) _ | refine Below.drew ?_ | refine Below.alloc ?_ (by (first | omega | (simp; omega) | (simp; done) | fail "sml")) _)); first | done | fail "chs")).size hps.1 hps.2 (by omega) (HVV.out.below (show Below w.heap.size w _ by ((repeat (first | with_reducible assumption | with_reducible exact Below.refl _ _ | refine Below.setCell ?_ (by (first | omega | (simp; omega) | (simp; done) | fail "sml")) _ | refine Below.drew ?_ | refine Below.alloc ?_ (by (first | omega | (simp; omega) | (simp; done) | fail "sml")) _)); first | done | fail "chs")))) ?_
              rintro en u9 ⟨rfl, hb⟩
              have rwu9 := Below.trans (show Below w.heap.size w _ by ((repeat (first | with_reducible assumption | with_reducible exact Below.refl _ _ | refine Below.setCell ?_ (by (first | omega | (simp; omega) | (simp; done) | fail "sml")) _ | refine Below.drew ?_ | refine Below.alloc ?_ (by (first | omega | (simp; omega) | (simp; done) | fail "sml")) _)); first | done | fail "chs")) (hb.mono (by (first | omega | (simp; omega) | (simp; done) | fail "sml")))
              have zwu9 := rwu9.size
              have rWu9 := Below.trans (show Below W.heap.size W _ by ((repeat (first | with_reducible assumption | with_reducible exact Below.refl _ _ | refine Below.setCell ?_ (by (first | omega | (simp; omega) | (simp; done) | fail "sml")) _ | refine Below.drew ?_ | refine Below.alloc ?_ (by (first | omega | (simp; omega) | (simp; done) | fail "sml")) _)); first | done | fail "chs")) (hb.mono (by (first | omega | (simp; omega) | (simp; done) | fail "sml")))
              have zWu9 := rWu9.size
              have rAu9 := Below.trans (show Below A.heap.size A _ by ((repeat (first | with_reducible assumption | with_reducible exact Below.refl _ _ | refine Below.setCell ?_ (by (first | omega | (simp; omega) | (simp; done) | fail "sml")) _ | refine Below.drew ?_ | refine Below.alloc ?_ (by (first | omega | (simp; omega) | (simp; done) | fail "sml")) _)); first | done | fail "chs")) (hb.mono (by (first | omega | (simp; omega) | (simp; done) | fail "sml")))
              have zAu9 := rAu9.size
              have rCu9 := Below.trans (show Below C.heap.size C _ by ((repeat (first | with_reducible assumption | with_reducible exact Below.refl _ _ | refine Below.setCell ?_ (by (first | omega | (simp; omega) | (simp; done) | fail "sml")) _ | refine Below.drew ?_ | refine Below.alloc ?_ (by (first | omega | (simp; omega) | (simp; done) | fail "sml")) _)); first | done | fail "chs")) (hb.mono (by (first | omega | (simp; omega) | (simp; done) | fail "sml")))
              have zCu9 := rCu9.size
              clear hb yW0 yW1 yW2 yA0 yA1 yA2 yC0 yC1 yC2
              obtain ⟨yW0, yW1, yW2⟩ := HKW.out _ rWu9
              obtain ⟨yA0, yA1, yA2⟩ := HKA.out _ rAu9
              obtain ⟨yC0, yC1, yC2⟩ := HKC.out _ rCu9
              go_wp2_with fail
              go_ret
              exact ⟨rfl, by ((repeat (first | with_reducible assumption | with_reducible exact Below.refl _ _ | refine Below.setCell ?_ (by (first | omega | (simp; omega) | (simp; done) | fail "sml")) _ | refine Below.drew ?_ | refine Below.alloc ?_ (by (first | omega | (simp; omega) | (simp; done) | fail "sml")) _)); first | done | fail "chs")⟩
      | false =>
        have hlb : lbl s = false := by unfold lbl; simp [EC, hs0]
        have EL : lholds x0 s = false := lholdsF (.inr hlb)
        refine Calls.mono (EL ▸ labelHolds_any x0 _ s W.heap.size _ (HAW.out.below (show Below W.heap.size W _ by ((repeat (first | with_reducible assumption | with_reducible exact Below.refl _ _ | refine Below.setCell ?_ (by (first | omega | (simp; omega) | (simp; done) | fail "sml")) _ | refine Below.drew ?_ | refine Below.alloc ?_ (by (first | omega | (simp; omega) | (simp; done) | fail "sml")) _)); first | done | fail "chs")) (Nat.le_refl _)) (show Below W.heap.size W _ by ((repeat (first | with_reducible assumption | with_reducible exact Below.refl _ _ | refine Below.setCell ?_ (by (first | omega | (simp; omega) | (simp; done) | fail "sml")) _ | refine Below.drew ?_ | refine Below.alloc ?_ (by (first | omega | (simp; omega) | (simp; done) | fail "sml")) _)); first | done | fail "chs")).size hsm0.1 hsm0.2 (by omega) (HVV.out.below (show Below w.heap.size w _ by ((repeat (first | with_reducible assumption | with_reducible exact Below.refl _ _ | refine Below.setCell ?_ (by (first | omega | (simp; omega) | (simp; done) | fail "sml")) _ | refine Below.drew ?_ | refine Below.alloc ?_ (by (first | omega | (simp; omega) | (simp; done) | fail "sml")) _)); first | done | fail "chs")))) ?_
        rintro en u2 ⟨rfl, hb⟩
        have rwu2 := Below.trans (show Below w.heap.size w _ by ((repeat (first | with_reducible assumption | with_reducible exact Below.refl _ _ | refine Below.setCell ?_ (by (first | omega | (simp; omega) | (simp; done) | fail "sml")) _ | refine Below.drew ?_ | refine Below.alloc ?_ (by (first | omega | (simp; omega) | (simp; done) | fail "sml")) _)); first | done | fail "chs")) (hb.mono (by (first | omega | (simp; omega) | (simp; done) | fail "sml")))
        have zwu2 := rwu2.size
        have rWu2 := Below.trans (show Below W.heap.size W _ by ((repeat (first | with_reducible assumption | with_reducible exact Below.refl _ _ | refine Below.setCell ?_ (by (first | omega | (simp; omega) | (simp; done) | fail "sml")) _ | refine Below.drew ?_ | refine Below.alloc ?_ (by (first | omega | (simp; omega) | (simp; done) | fail "sml")) _)); first | done | fail "chs")) (hb.mono (by (first | omega | (simp; omega) | (simp; done) | fail "sml")))
        have zWu2 := rWu2.size
        clear hb yW0 yW1 yW2
        obtain ⟨yW0, yW1, yW2⟩ := HKW.out _ rWu2
        go_wp2_with fail
        refine Calls.mono (EL ▸ specLabelHolds_any x0 _ s W.heap.size _ (HAW.out.below (show Below W.heap.size W _ by ((repeat (first | with_reducible assumption | with_reducible exact Below.refl _ _ | refine Below.setCell ?_ (by (first | omega | (simp; omega) | (simp; done) | fail "sml")) _ | refine Below.drew ?_ | refine Below.alloc ?_ (by (first | omega | (simp; omega) | (simp; done) | fail "sml")) _)); first | done | fail "chs")) (Nat.le_refl _)) (show Below W.heap.size W _ by ((repeat (first | with_reducible assumption | with_reducible exact Below.refl _ _ | refine Below.setCell ?_ (by (first | omega | (simp; omega) | (simp; done) | fail "sml")) _ | refine Below.drew ?_ | refine Below.alloc ?_ (by (first | omega | (simp; omega) | (simp; done) | fail "sml")) _)); first | done | fail "chs")).size hsm0.1 hsm0.2 (by omega)) ?_
        rintro en u3 ⟨rfl, hb⟩
        have rwu3 := Below.trans (show Below w.heap.size w _ by ((repeat (first | with_reducible assumption | with_reducible exact Below.refl _ _ | refine Below.setCell ?_ (by (first | omega | (simp; omega) | (simp; done) | fail "sml")) _ | refine Below.drew ?_ | refine Below.alloc ?_ (by (first | omega | (simp; omega) | (simp; done) | fail "sml")) _)); first | done | fail "chs")) (hb.mono (by (first | omega | (simp; omega) | (simp; done) | fail "sml")))
        have zwu3 := rwu3.size
        have rWu3 := Below.trans (show Below W.heap.size W _ by ((repeat (first | with_reducible assumption | with_reducible exact Below.refl _ _ | refine Below.setCell ?_ (by (first | omega | (simp; omega) | (simp; done) | fail "sml")) _ | refine Below.drew ?_ | refine Below.alloc ?_ (by (first | omega | (simp; omega) | (simp; done) | fail "sml")) _)); first | done | fail "chs")) (hb.mono (by (first | omega | (simp; omega) | (simp; done) | fail "sml")))
        have zWu3 := rWu3.size
        clear hb yW0 yW1 yW2
        obtain ⟨yW0, yW1, yW2⟩ := HKW.out _ rWu3
        go_wp2_with fail
        refine Calls.mono (EV ▸ exprValid_any x0 _ 1 W.heap.size _ (HAW.out.below (show Below W.heap.size W _ by ((repeat (first | with_reducible assumption | with_reducible exact Below.refl _ _ | refine Below.setCell ?_ (by (first | omega | (simp; omega) | (simp; done) | fail "sml")) _ | refine Below.drew ?_ | refine Below.alloc ?_ (by (first | omega | (simp; omega) | (simp; done) | fail "sml")) _)); first | done | fail "chs")) (Nat.le_refl _)) (show Below W.heap.size W _ by ((repeat (first | with_reducible assumption | with_reducible exact Below.refl _ _ | refine Below.setCell ?_ (by (first | omega | (simp; omega) | (simp; done) | fail "sml")) _ | refine Below.drew ?_ | refine Below.alloc ?_ (by (first | omega | (simp; omega) | (simp; done) | fail "sml")) _)); first | done | fail "chs")).size hsm0.1 hsm0.2 (HVV.out.below (show Below w.heap.size w _ by ((repeat (first | with_reducible assumption | with_reducible exact Below.refl _ _ | refine Below.setCell ?_ (by (first | omega | (simp; omega) | (simp; done) | fail "sml")) _ | refine Below.drew ?_ | refine Below.alloc ?_ (by (first | omega | (simp; omega) | (simp; done) | fail "sml")) _)); first | done | fail "chs")))) ?_
        rintro en u4 ⟨rfl, hb⟩
        have rwu4 := Below.trans (show Below w.heap.size w _ by ((repeat (first | with_reducible assumption | with_reducible exact Below.refl _ _ | refine Below.setCell ?_ (by (first | omega | (simp; omega) | (simp; done) | fail "sml")) _ | refine Below.drew ?_ | refine Below.alloc ?_ (by (first | omega | (simp; omega) | (simp; done) | fail "sml")) _)); first | done | fail "chs")) (hb.mono (by (first | omega | (simp; omega) | (simp; done) | fail "sml")))
        have zwu4 := rwu4.size
        have rWu4 := Below.trans (show Below W.heap.size W _ by ((repeat (first | with_reducible assumption | with_reducible exact Below.refl _ _ | refine Below.setCell ?_ (by (first | omega | (simp; omega) | (simp; done) | fail "sml")) _ | refine Below.drew ?_ | refine Below.alloc ?_ (by (first | omega | (simp; omega) | (simp; done) | fail "sml")) _)); first | done | fail "chs")) (hb.mono (by (first | omega | (simp; omega) | (simp; done) | fail "sml")))
        have zWu4 := rWu4.size
        clear hb yW0 yW1 yW2
        obtain ⟨yW0, yW1, yW2⟩ := HKW.out _ rWu4
        go_wp2_with fail
        refine Calls.mono (labelValid_b (s := s) (by unfold maxLen; omega) EC) ?_
        rintro en u5 ⟨rfl, hb⟩
        have rwu5 := Below.trans (show Below w.heap.size w _ by ((repeat (first | with_reducible assumption | with_reducible exact Below.refl _ _ | refine Below.setCell ?_ (by (first | omega | (simp; omega) | (simp; done) | fail "sml")) _ | refine Below.drew ?_ | refine Below.alloc ?_ (by (first | omega | (simp; omega) | (simp; done) | fail "sml")) _)); first | done | fail "chs")) (hb.mono (by (first | omega | (simp; omega) | (simp; done) | fail "sml")))
        have zwu5 := rwu5.size
        have rWu5 := Below.trans (show Below W.heap.size W _ by ((repeat (first | with_reducible assumption | with_reducible exact Below.refl _ _ | refine Below.setCell ?_ (by (first | omega | (simp; omega) | (simp; done) | fail "sml")) _ | refine Below.drew ?_ | refine Below.alloc ?_ (by (first | omega | (simp; omega) | (simp; done) | fail "sml")) _)); first | done | fail "chs")) (hb.mono (by (first | omega | (simp; omega) | (simp; done) | fail "sml")))
        have zWu5 := rWu5.size
        clear hb yW0 yW1 yW2
        obtain ⟨yW0, yW1, yW2⟩ := HKW.out _ rWu5
        go_wp2_with fail
        refine Calls.mono (EL ▸ specLabelHolds_any x0 _ s W.heap.size _ (HAW.out.below (show Below W.heap.size W _ by ((repeat (first | with_reducible assumption | with_reducible exact Below.refl _ _ | refine Below.setCell ?_ (by (first | omega | (simp; omega) | (simp; done) | fail "sml")) _ | refine Below.drew ?_ | refine Below.alloc ?_ (by (first | omega | (simp; omega) | (simp; done) | fail "sml")) _)); first | done | fail "chs")) (Nat.le_refl _)) (show Below W.heap.size W _ by ((repeat (first | with_reducible assumption | with_reducible exact Below.refl _ _ | refine Below.setCell ?_ (by (first | omega | (simp; omega) | (simp; done) | fail "sml")) _ | refine Below.drew ?_ | refine Below.alloc ?_ (by (first | omega | (simp; omega) | (simp; done) | fail "sml")) _)); first | done | fail "chs")).size hsm0.1 hsm0.2 (by omega)) ?_
        rintro en u6 ⟨rfl, hb⟩
        have rwu6 := Below.trans (show Below w.heap.size w _ by ((repeat (first | with_reducible assumption | with_reducible exact Below.refl _ _ | refine Below.setCell ?_ (by (first | omega | (simp; omega) | (simp; done) | fail "sml")) _ | refine Below.drew ?_ | refine Below.alloc ?_ (by (first | omega | (simp; omega) | (simp; done) | fail "sml")) _)); first | done | fail "chs")) (hb.mono (by (first | omega | (simp; omega) | (simp; done) | fail "sml")))
        have zwu6 := rwu6.size
        have rWu6 := Below.trans (show Below W.heap.size W _ by ((repeat (first | with_reducible assumption | with_reducible exact Below.refl _ _ | refine Below.setCell ?_ (by (first | omega | (simp; omega) | (simp; done) | fail "sml")) _ | refine Below.drew ?_ | refine Below.alloc ?_ (by (first | omega | (simp; omega) | (simp; done) | fail "sml")) _)); first | done | fail "chs")) (hb.mono (by (first | omega | (simp; omega) | (simp; done) | fail "sml")))
        have zWu6 := rWu6.size
        clear hb yW0 yW1 yW2
        obtain ⟨yW0, yW1, yW2⟩ := HKW.out _ rWu6
        go_wp2_with fail
        go_ret
        exact ⟨rfl, by ((repeat (first | with_reducible assumption | with_reducible exact Below.refl _ _ | refine Below.setCell ?_ (by (first | omega | (simp; omega) | (simp; done) | fail "sml")) _ | refine Below.drew ?_ | refine Below.alloc ?_ (by (first | omega | (simp; omega) | (simp; done) | fail "sml")) _)); first | done | fail "chs")⟩
end Go.Proofs.YtckkebjpkcfmnaaDoor
