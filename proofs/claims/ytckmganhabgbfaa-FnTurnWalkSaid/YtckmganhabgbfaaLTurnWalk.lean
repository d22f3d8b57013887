/- The walk of FnTurnWalk. -/
import Derived.Test.YtckmganhabgbfaaL5K
import Derived.Test.YtckmganhabgbfaaWkLaw
import Derived.Test.YtckmganhabgbfaaWkT2
import Derived.Test.YtckmganhabgbfaaWkM2
import Derived.Test.YtckmganhabgbfaaReg
namespace Go.Proofs.Ytckmganhabgbfaa
open Go.RowKit

set_option maxRecDepth 100000 in
set_option maxHeartbeats 8000000 in
theorem lawTurnWalk (zs : List Int) (v : Value) (w : World) (hv : Sl 1 byCells w.heap.size w v zs) (hz : ∀ z ∈ zs, 0 ≤ z ∧ z ≤ 255) :
    Calls Try.prog 4 #[v] w fun e w' => e = .returned (.bool true) ∧ Below w.heap.size w w' := by
  obtain ⟨p, cap, rfl⟩ := hv.form
  have hm := hv.max
  unfold maxLen at hm
  by_cases hb : (1048576 : Int) < zs.length
  · go_enter Try.func4, Try.ntmps4
    go_wp2_with fail
    go_ret
    exact ⟨rfl, Below.refl _ _⟩
  · go_enter Try.func4, Try.ntmps4
    go_wp2_with fail
    refine (drawTurnWalk_any zs _ w.heap.size _ hv (Nat.le_refl _) hz).mono ?_
    rintro e wx ⟨x, vx, Fx, rfl, hx, hb1⟩
    obtain ⟨px, cx, qx, dx, rfl⟩ := hx.1.form
    have HX := Lib.hid hx
    have HB1 := Lib.hid hb1
    have HN := Lib.hid (show x.need ≤ 1048576 by have := hx.2.2; omega)
    have s1 := hb1.size
    clear hx hb1 hv
    go_wp2_with fail
    have hbt : Below wx.heap.size wx (wx.alloc (.cells #[.slice px x.ns.length cx, .slice qx x.es.length dx] 25)) := (Below.refl _ _).alloc (Nat.le_refl _) _
    refine (turnWalk_any x _ wx.heap.size _ (HX.out.1.at.to hbt (Nat.le_refl _)) (by simp) HN.out).mono ?_
    rintro e wt ⟨vt, Ft, rfl, ht, _, hb2⟩
    obtain ⟨pt, ct, qt, dt, rfl⟩ := ht.form
    have hlt1 : (wkTurn x).ns.length = x.ns.length := by simp [wkTurn]
    have hlt2 : (wkTurn x).es.length = x.es.length := by simp [wkTurn]
    rw [hlt1, hlt2] at ht ⊢
    clear hlt1 hlt2
    have s2 : wx.heap.size < wt.heap.size := by have := hb2.size; simp at this; omega
    have HC1 := Lib.hid (And.intro (keepc hb2 (b := wx.heap.size) (o := 0) (x := .slice px x.ns.length cx) (by simp) (by simp [go_sem])) (keepc hb2 (b := wx.heap.size) (o := 1) (x := .slice qx x.es.length dx) (by simp) (by simp [go_sem])))
    have HB2 := Lib.hid (hbt.trans (hb2.mono (by simp)))
    have HT := Lib.hid ht
    clear ht hb2 hbt
    go_upto_region 5 with fail
    obtain ⟨W, eW⟩ : ∃ E, E = wt.alloc (.cells #[.slice pt x.ns.length ct, .slice qt x.es.length dt] 25) := ⟨_, rfl⟩
    have s3 : wt.heap.size < W.heap.size := by rw [eW]; simp
    have hbW : Below wt.heap.size wt W := by rw [eW]; exact (Below.refl _ _).alloc (Nat.le_refl _) _
    have HC2 := Lib.hid (show W.cell? ⟨wt.heap.size, 0, none⟩ = some (.slice pt x.ns.length ct) ∧ W.cell? ⟨wt.heap.size, 1, none⟩ = some (.slice qt x.es.length dt) by rw [eW]; exact ⟨by simp [go_sem], by simp [go_sem]⟩)
    rw [← eW]
    clear eW
    have HK := Lib.hid (fun (E : World) (hE : Below W.heap.size W E) => And.intro (And.intro (keepc (b := wx.heap.size) hE (by omega) (keepc hbW s2 HC1.out.1)) (keepc (b := wx.heap.size) hE (by omega) (keepc hbW s2 HC1.out.2))) (And.intro (keepc hE s3 HC2.out.1) (keepc hE s3 HC2.out.2)))
    have HA := Lib.hid (fun (E : World) (hE : Below W.heap.size W E) => (show x.At W.heap.size E (.agg #[.slice px x.ns.length cx, .slice qx x.es.length dx]) ∧ (wkTurn x).At W.heap.size E (.agg #[.slice pt x.ns.length ct, .slice qt x.es.length dt]) from
      ⟨((HX.out.1.at.to HB2.out (Nat.le_refl _)).to (hbW.mono (by omega)) (Nat.le_refl _)).to (hE.mono (by omega)) (by omega), (HT.out.at.to hbW (Nat.le_refl _)).to (hE.mono (by omega)) (by omega)⟩))
    have HBW := Lib.hid (((HB1.out.trans (HB2.out.mono s1)).trans (hbW.mono (by omega))) : Below w.heap.size w W)
    clear hbW
    have r0 := Below.refl W.heap.size W
    go_upto_region 5 with fail
    refine wp_region_held_drew (S := fun w' => (w'.cell? ⟨wx.heap.size, 0, none⟩ = some (.slice px x.ns.length cx) ∧ w'.cell? ⟨wx.heap.size, 1, none⟩ = some (.slice qx x.es.length dx)) ∧ w'.cell? ⟨wt.heap.size, 0, none⟩ = some (.slice pt x.ns.length ct) ∧ w'.cell? ⟨wt.heap.size, 1, none⟩ = some (.slice qt x.es.length dt)) (by kernel_rfl) ?_ (fun hHeld => ?_)
    · exact HK.out _ (show Below W.heap.size W _ by ((repeat (first | with_reducible assumption | with_reducible exact Below.refl _ _ | refine Below.setCell ?_ (by (first | omega | (simp; omega) | (simp; done) | fail "sml")) _ | refine Below.drew ?_ | refine Below.alloc ?_ (by (first | omega | (simp; omega) | (simp; done) | fail "sml")) _)); first | done | fail "chs"))
    (refine takeL (i := 0) (v := ?_) rfl (by kernel_rfl) (by kernel_rfl) (by kernel_rfl) (fun _ _ _ h => h) (Or.inl ⟨by kernel_rfl, ?_⟩) (by assumption) ?_; rotate_left; (focus (intro w hSw; (try dsimp only at hSw); go_simp; first | done | with_reducible rfl | fail "take")); (try simp only [Act.put, List.setIfInBounds_toArray, List.set_cons_zero, List.set_cons_succ]))
    (refine takeL (i := 1) (v := ?_) rfl (by kernel_rfl) (by kernel_rfl) (by kernel_rfl) (fun _ _ _ h => h) (Or.inl ⟨by kernel_rfl, ?_⟩) (by assumption) ?_; rotate_left; (focus (intro w hSw; (try dsimp only at hSw); go_simp; first | done | with_reducible rfl | fail "take")); (try simp only [Act.put, List.setIfInBounds_toArray, List.set_cons_zero, List.set_cons_succ]))
    (refine callL (i := 2) rfl (by kernel_rfl) (by kernel_rfl) (fun K hK => ?_); go_simp)
    go_at_call 21
    refine Calls.mono (specTurnWalk_any x _ W.heap.size _ (HA.out _ (show Below W.heap.size W _ by ((repeat (first | with_reducible assumption | with_reducible exact Below.refl _ _ | refine Below.setCell ?_ (by (first | omega | (simp; omega) | (simp; done) | fail "sml")) _ | refine Below.drew ?_ | refine Below.alloc ?_ (by (first | omega | (simp; omega) | (simp; done) | fail "sml")) _)); first | done | fail "chs"))).1 ((show Below W.heap.size W _ by ((repeat (first | with_reducible assumption | with_reducible exact Below.refl _ _ | refine Below.setCell ?_ (by (first | omega | (simp; omega) | (simp; done) | fail "sml")) _ | refine Below.drew ?_ | refine Below.alloc ?_ (by (first | omega | (simp; omega) | (simp; done) | fail "sml")) _)); first | done | fail "chs"))).size HN.out) ?_
    rintro en wa ⟨vs, Fs, rfl, hs, _, hb⟩
    have rwa := Below.trans (show Below W.heap.size W _ by ((repeat (first | with_reducible assumption | with_reducible exact Below.refl _ _ | refine Below.setCell ?_ (by (first | omega | (simp; omega) | (simp; done) | fail "sml")) _ | refine Below.drew ?_ | refine Below.alloc ?_ (by (first | omega | (simp; omega) | (simp; done) | fail "sml")) _)); first | done | fail "chs")) (hb.mono (by (first | omega | (simp; omega) | (simp; done) | fail "sml")))
    have zwa := rwa.size
    obtain ⟨ps, cs, qs, ds, rfl⟩ := hs.form
    have HS := Lib.hid hs
    clear hs
    clear hb
    go_wp2_with fail
    refine hK.out _ _ (HK.out _ (show Below W.heap.size W _ by ((repeat (first | with_reducible assumption | with_reducible exact Below.refl _ _ | refine Below.setCell ?_ (by (first | omega | (simp; omega) | (simp; done) | fail "sml")) _ | refine Below.drew ?_ | refine Below.alloc ?_ (by (first | omega | (simp; omega) | (simp; done) | fail "sml")) _)); first | done | fail "chs"))) (fun hHeld => ?_)
    clear hK K
    (try simp only [Act.put, List.setIfInBounds_toArray, List.set_cons_zero, List.set_cons_succ])
    (refine callL (i := 3) rfl (by kernel_rfl) (by kernel_rfl) (fun K hK => ?_); go_simp)
    go_at_call 18
    refine Calls.mono (walkSame_any (wkTurn x) (wkTurn x) _ _ wa.heap.size _ ((HA.out _ (show Below W.heap.size W _ by ((repeat (first | with_reducible assumption | with_reducible exact Below.refl _ _ | refine Below.setCell ?_ (by (first | omega | (simp; omega) | (simp; done) | fail "sml")) _ | refine Below.drew ?_ | refine Below.alloc ?_ (by (first | omega | (simp; omega) | (simp; done) | fail "sml")) _)); first | done | fail "chs"))).2.to (Below.refl _ _) zwa) HS.out.at (Nat.le_refl _)) ?_
    rintro en wb ⟨rfl, hb⟩
    have rwb := Below.trans (show Below W.heap.size W _ by ((repeat (first | with_reducible assumption | with_reducible exact Below.refl _ _ | refine Below.setCell ?_ (by (first | omega | (simp; omega) | (simp; done) | fail "sml")) _ | refine Below.drew ?_ | refine Below.alloc ?_ (by (first | omega | (simp; omega) | (simp; done) | fail "sml")) _)); first | done | fail "chs")) (hb.mono (by (first | omega | (simp; omega) | (simp; done) | fail "sml")))
    have zwb := rwb.size
    rw [wkEq_refl]
    clear hb
    go_wp2_with fail
    refine hK.out _ _ (HK.out _ (show Below W.heap.size W _ by ((repeat (first | with_reducible assumption | with_reducible exact Below.refl _ _ | refine Below.setCell ?_ (by (first | omega | (simp; omega) | (simp; done) | fail "sml")) _ | refine Below.drew ?_ | refine Below.alloc ?_ (by (first | omega | (simp; omega) | (simp; done) | fail "sml")) _)); first | done | fail "chs"))) (fun hHeld => ?_)
    clear hK K
    (try simp only [Act.put, List.setIfInBounds_toArray, List.set_cons_zero, List.set_cons_succ])
    (refine takeL (i := 4) (v := ?_) rfl (by kernel_rfl) (by kernel_rfl) (by kernel_rfl) (fun _ _ _ h => h) (Or.inl ⟨by kernel_rfl, ?_⟩) (by assumption) ?_; rotate_left; (focus (intro w hSw; (try dsimp only at hSw); go_simp; first | done | with_reducible rfl | fail "take")); (try simp only [Act.put, List.setIfInBounds_toArray, List.set_cons_zero, List.set_cons_succ]))
    (refine takeL (i := 5) (v := ?_) rfl (by kernel_rfl) (by kernel_rfl) (by kernel_rfl) (fun _ _ _ h => h) (Or.inl ⟨by kernel_rfl, ?_⟩) (by assumption) ?_; rotate_left; (focus (intro w hSw; (try dsimp only at hSw); go_simp; first | done | with_reducible rfl | fail "take")); (try simp only [Act.put, List.setIfInBounds_toArray, List.set_cons_zero, List.set_cons_succ]))
    (refine takeL (i := 6) (v := ?_) rfl (by kernel_rfl) (by kernel_rfl) (by kernel_rfl) (fun _ _ _ h => h) (Or.inl ⟨by kernel_rfl, ?_⟩) (by assumption) ?_; rotate_left; (focus (intro w hSw; (try dsimp only at hSw); go_simp; first | done | with_reducible rfl | fail "take")); (try simp only [Act.put, List.setIfInBounds_toArray, List.set_cons_zero, List.set_cons_succ]))
    (refine takeL (i := 8) (v := ?_) rfl (by kernel_rfl) (by kernel_rfl) (by kernel_rfl) (fun _ _ _ h => h) (Or.inl ⟨by kernel_rfl, ?_⟩) (by assumption) ?_; rotate_left; (focus (intro w hSw; (try dsimp only at hSw); go_simp; first | done | with_reducible rfl | fail "take")); (try simp only [Act.put, List.setIfInBounds_toArray, List.set_cons_zero, List.set_cons_succ]))
    (refine callL (i := 7) rfl (by kernel_rfl) (by kernel_rfl) (fun K hK => ?_); go_simp)
    go_at_call 19
    refine Calls.mono (turnWalk_any (wkTurn x) _ W.heap.size _ (HA.out _ (show Below W.heap.size W _ by ((repeat (first | with_reducible assumption | with_reducible exact Below.refl _ _ | refine Below.setCell ?_ (by (first | omega | (simp; omega) | (simp; done) | fail "sml")) _ | refine Below.drew ?_ | refine Below.alloc ?_ (by (first | omega | (simp; omega) | (simp; done) | fail "sml")) _)); first | done | fail "chs"))).2 ((show Below W.heap.size W _ by ((repeat (first | with_reducible assumption | with_reducible exact Below.refl _ _ | refine Below.setCell ?_ (by (first | omega | (simp; omega) | (simp; done) | fail "sml")) _ | refine Below.drew ?_ | refine Below.alloc ?_ (by (first | omega | (simp; omega) | (simp; done) | fail "sml")) _)); first | done | fail "chs"))).size (by rw [wkTurn_need]; exact HN.out)) ?_
    rintro en wc1 ⟨vq, Fq, rfl, hs, _, hb⟩
    have rwc1 := Below.trans (show Below W.heap.size W _ by ((repeat (first | with_reducible assumption | with_reducible exact Below.refl _ _ | refine Below.setCell ?_ (by (first | omega | (simp; omega) | (simp; done) | fail "sml")) _ | refine Below.drew ?_ | refine Below.alloc ?_ (by (first | omega | (simp; omega) | (simp; done) | fail "sml")) _)); first | done | fail "chs")) (hb.mono (by (first | omega | (simp; omega) | (simp; done) | fail "sml")))
    have zwc1 := rwc1.size
    obtain ⟨pq, cq, qq, dq, rfl⟩ := hs.form
    have HQ := Lib.hid hs
    clear hs
    clear hb
    go_wp2_with fail
    refine hK.out _ _ (HK.out _ (show Below W.heap.size W _ by ((repeat (first | with_reducible assumption | with_reducible exact Below.refl _ _ | refine Below.setCell ?_ (by (first | omega | (simp; omega) | (simp; done) | fail "sml")) _ | refine Below.drew ?_ | refine Below.alloc ?_ (by (first | omega | (simp; omega) | (simp; done) | fail "sml")) _)); first | done | fail "chs"))) (fun hHeld => ?_)
    clear hK K
    (try simp only [Act.put, List.setIfInBounds_toArray, List.set_cons_zero, List.set_cons_succ])
    (refine callL (i := 9) rfl (by kernel_rfl) (by kernel_rfl) (fun K hK => ?_); go_simp)
    go_at_call 18
    refine Calls.mono (walkSame_any (wkTurn (wkTurn x)) x _ _ wc1.heap.size _ HQ.out.at ((HA.out _ (show Below W.heap.size W _ by ((repeat (first | with_reducible assumption | with_reducible exact Below.refl _ _ | refine Below.setCell ?_ (by (first | omega | (simp; omega) | (simp; done) | fail "sml")) _ | refine Below.drew ?_ | refine Below.alloc ?_ (by (first | omega | (simp; omega) | (simp; done) | fail "sml")) _)); first | done | fail "chs"))).1.to (Below.refl _ _) zwc1) (Nat.le_refl _)) ?_
    rintro en wd ⟨rfl, hb⟩
    have rwd := Below.trans (show Below W.heap.size W _ by ((repeat (first | with_reducible assumption | with_reducible exact Below.refl _ _ | refine Below.setCell ?_ (by (first | omega | (simp; omega) | (simp; done) | fail "sml")) _ | refine Below.drew ?_ | refine Below.alloc ?_ (by (first | omega | (simp; omega) | (simp; done) | fail "sml")) _)); first | done | fail "chs")) (hb.mono (by (first | omega | (simp; omega) | (simp; done) | fail "sml")))
    have zwd := rwd.size
    rw [wkTurn_turn, wkEq_refl]
    clear hb
    go_wp2_with fail
    refine hK.out _ _ (HK.out _ (show Below W.heap.size W _ by ((repeat (first | with_reducible assumption | with_reducible exact Below.refl _ _ | refine Below.setCell ?_ (by (first | omega | (simp; omega) | (simp; done) | fail "sml")) _ | refine Below.drew ?_ | refine Below.alloc ?_ (by (first | omega | (simp; omega) | (simp; done) | fail "sml")) _)); first | done | fail "chs"))) (fun hHeld => ?_)
    clear hK K
    (try simp only [Act.put, List.setIfInBounds_toArray, List.set_cons_zero, List.set_cons_succ])
    (refine takeL (i := 10) (v := ?_) rfl (by kernel_rfl) (by kernel_rfl) (by kernel_rfl) (fun _ _ _ h => h) (Or.inl ⟨by kernel_rfl, ?_⟩) (by assumption) ?_; rotate_left; (focus (intro w hSw; (try dsimp only at hSw); go_simp; first | done | with_reducible rfl | fail "take")); (try simp only [Act.put, List.setIfInBounds_toArray, List.set_cons_zero, List.set_cons_succ]))
    (refine takeL (i := 11) (v := ?_) rfl (by kernel_rfl) (by kernel_rfl) (by kernel_rfl) (fun _ _ _ h => h) (Or.inl ⟨by kernel_rfl, ?_⟩) (by assumption) ?_; rotate_left; (focus (intro w hSw; (try dsimp only at hSw); go_simp; first | done | with_reducible rfl | fail "take")); (try simp only [Act.put, List.setIfInBounds_toArray, List.set_cons_zero, List.set_cons_succ]))
    refine wpAnyH_done (by kernel_rfl) ?_ _
    go_wp2_with fail

    go_loopw [5] (fun i wr => ∃ k : Nat, 1 ≤ k ∧ k ≤ 5 ∧ i = .int .i64 k ∧ Below W.heap.size W wr) (fun i _ => 5 - (intOf i).toNat)
    case atStart => exact ⟨1, Nat.le_refl _, by decide, rfl, by ((repeat (first | with_reducible assumption | with_reducible exact Below.refl _ _ | refine Below.setCell ?_ (by (first | omega | (simp; omega) | (simp; done) | fail "sml")) _ | refine Below.drew ?_ | refine Below.alloc ?_ (by (first | omega | (simp; omega) | (simp; done) | fail "sml")) _)); first | done | fail "chs")⟩
    case round =>
      obtain ⟨k, hk1, hk5, rfl, hbr⟩ := hrel
      have zwr := hbr.size
      by_cases hk : k ≤ 4
      · have q0 : decide ((k : Int) ≤ 4) = true := decide_eq_true (by omega)
        go_upto_region 10 with fail
        refine wp_region_held_drew (S := fun w' => (w'.cell? ⟨wx.heap.size, 0, none⟩ = some (.slice px x.ns.length cx) ∧ w'.cell? ⟨wx.heap.size, 1, none⟩ = some (.slice qx x.es.length dx)) ∧ w'.cell? ⟨wt.heap.size, 0, none⟩ = some (.slice pt x.ns.length ct) ∧ w'.cell? ⟨wt.heap.size, 1, none⟩ = some (.slice qt x.es.length dt)) (by kernel_rfl) ?_ (fun hHeld => ?_)
        · exact HK.out _ (show Below W.heap.size W _ by ((repeat (first | with_reducible assumption | with_reducible exact Below.refl _ _ | refine Below.setCell ?_ (by (first | omega | (simp; omega) | (simp; done) | fail "sml")) _ | refine Below.drew ?_ | refine Below.alloc ?_ (by (first | omega | (simp; omega) | (simp; done) | fail "sml")) _)); first | done | fail "chs"))
        (refine takeL (i := 0) (v := ?_) rfl (by kernel_rfl) (by kernel_rfl) (by kernel_rfl) (fun _ _ _ h => h) (Or.inl ⟨by kernel_rfl, ?_⟩) (by assumption) ?_; rotate_left; (focus (intro w hSw; (try dsimp only at hSw); go_simp; first | done | with_reducible rfl | fail "take")); (try simp only [Act.put, List.setIfInBounds_toArray, List.set_cons_zero, List.set_cons_succ]))
        (refine takeL (i := 1) (v := ?_) rfl (by kernel_rfl) (by kernel_rfl) (by kernel_rfl) (fun _ _ _ h => h) (Or.inl ⟨by kernel_rfl, ?_⟩) (by assumption) ?_; rotate_left; (focus (intro w hSw; (try dsimp only at hSw); go_simp; first | done | with_reducible rfl | fail "take")); (try simp only [Act.put, List.setIfInBounds_toArray, List.set_cons_zero, List.set_cons_succ]))
        (refine takeL (i := 3) (v := ?_) rfl (by kernel_rfl) (by kernel_rfl) (by kernel_rfl) (fun _ _ _ h => h) (Or.inl ⟨by kernel_rfl, ?_⟩) (by assumption) ?_; rotate_left; (focus (intro w hSw; (try dsimp only at hSw); go_simp; first | done | with_reducible rfl | fail "take")); (try simp only [Act.put, List.setIfInBounds_toArray, List.set_cons_zero, List.set_cons_succ]))
        (refine takeL (i := 4) (v := ?_) rfl (by kernel_rfl) (by kernel_rfl) (by kernel_rfl) (fun _ _ _ h => h) (Or.inl ⟨by kernel_rfl, ?_⟩) (by assumption) ?_; rotate_left; (focus (intro w hSw; (try dsimp only at hSw); go_simp; first | done | with_reducible rfl | fail "take")); (try simp only [Act.put, List.setIfInBounds_toArray, List.set_cons_zero, List.set_cons_succ]))
        (refine callL (i := 2) rfl (by kernel_rfl) (by kernel_rfl) (fun K hK => ?_); go_simp)
        go_at_call 22
        refine Calls.mono (walkMode_any x _ _ W.heap.size _ (HA.out _ (show Below W.heap.size W _ by ((repeat (first | with_reducible assumption | with_reducible exact Below.refl _ _ | refine Below.setCell ?_ (by (first | omega | (simp; omega) | (simp; done) | fail "sml")) _ | refine Below.drew ?_ | refine Below.alloc ?_ (by (first | omega | (simp; omega) | (simp; done) | fail "sml")) _)); first | done | fail "chs"))).1 ((show Below W.heap.size W _ by ((repeat (first | with_reducible assumption | with_reducible exact Below.refl _ _ | refine Below.setCell ?_ (by (first | omega | (simp; omega) | (simp; done) | fail "sml")) _ | refine Below.drew ?_ | refine Below.alloc ?_ (by (first | omega | (simp; omega) | (simp; done) | fail "sml")) _)); first | done | fail "chs"))).size HN.out) ?_
        rintro en we ⟨rfl, hb⟩
        have rwe := Below.trans (show Below W.heap.size W _ by ((repeat (first | with_reducible assumption | with_reducible exact Below.refl _ _ | refine Below.setCell ?_ (by (first | omega | (simp; omega) | (simp; done) | fail "sml")) _ | refine Below.drew ?_ | refine Below.alloc ?_ (by (first | omega | (simp; omega) | (simp; done) | fail "sml")) _)); first | done | fail "chs")) (hb.mono (by (first | omega | (simp; omega) | (simp; done) | fail "sml")))
        have zwe := rwe.size
        clear hb
        go_wp2_with fail
        refine hK.out _ _ (HK.out _ (show Below W.heap.size W _ by ((repeat (first | with_reducible assumption | with_reducible exact Below.refl _ _ | refine Below.setCell ?_ (by (first | omega | (simp; omega) | (simp; done) | fail "sml")) _ | refine Below.drew ?_ | refine Below.alloc ?_ (by (first | omega | (simp; omega) | (simp; done) | fail "sml")) _)); first | done | fail "chs"))) (fun hHeld => ?_)
        clear hK K
        (try simp only [Act.put, List.setIfInBounds_toArray, List.set_cons_zero, List.set_cons_succ])
        (refine callL (i := 5) rfl (by kernel_rfl) (by kernel_rfl) (fun K hK => ?_); go_simp)
        go_at_call 22
        refine Calls.mono (walkMode_any (wkTurn x) _ _ W.heap.size _ (HA.out _ (show Below W.heap.size W _ by ((repeat (first | with_reducible assumption | with_reducible exact Below.refl _ _ | refine Below.setCell ?_ (by (first | omega | (simp; omega) | (simp; done) | fail "sml")) _ | refine Below.drew ?_ | refine Below.alloc ?_ (by (first | omega | (simp; omega) | (simp; done) | fail "sml")) _)); first | done | fail "chs"))).2 ((show Below W.heap.size W _ by ((repeat (first | with_reducible assumption | with_reducible exact Below.refl _ _ | refine Below.setCell ?_ (by (first | omega | (simp; omega) | (simp; done) | fail "sml")) _ | refine Below.drew ?_ | refine Below.alloc ?_ (by (first | omega | (simp; omega) | (simp; done) | fail "sml")) _)); first | done | fail "chs"))).size (by rw [wkTurn_need]; exact HN.out)) ?_
        rintro en wf ⟨rfl, hb⟩
        have rwf := Below.trans (show Below W.heap.size W _ by ((repeat (first | with_reducible assumption | with_reducible exact Below.refl _ _ | refine Below.setCell ?_ (by (first | omega | (simp; omega) | (simp; done) | fail "sml")) _ | refine Below.drew ?_ | refine Below.alloc ?_ (by (first | omega | (simp; omega) | (simp; done) | fail "sml")) _)); first | done | fail "chs")) (hb.mono (by (first | omega | (simp; omega) | (simp; done) | fail "sml")))
        have zwf := rwf.size
        rw [wkMode_turn]
        clear hb
        go_wp2_with fail
        refine hK.out _ _ (HK.out _ (show Below W.heap.size W _ by ((repeat (first | with_reducible assumption | with_reducible exact Below.refl _ _ | refine Below.setCell ?_ (by (first | omega | (simp; omega) | (simp; done) | fail "sml")) _ | refine Below.drew ?_ | refine Below.alloc ?_ (by (first | omega | (simp; omega) | (simp; done) | fail "sml")) _)); first | done | fail "chs"))) (fun hHeld => ?_)
        clear hK K
        (try simp only [Act.put, List.setIfInBounds_toArray, List.set_cons_zero, List.set_cons_succ])
        (refine takeL (i := 6) (v := ?_) rfl (by kernel_rfl) (by kernel_rfl) (by kernel_rfl) (fun _ _ _ h => h) (Or.inl ⟨by kernel_rfl, ?_⟩) (by assumption) ?_; rotate_left; (focus (intro w hSw; (try dsimp only at hSw); go_simp; first | done | with_reducible rfl | fail "take")); (try simp only [Act.put, List.setIfInBounds_toArray, List.set_cons_zero, List.set_cons_succ]))
        refine wpAnyH_done (by kernel_rfl) ?_ _
        go_wp2_with fail

        go_roundw
        case rel => exact ⟨k + 1, by omega, by omega, by go_num, by ((repeat (first | with_reducible assumption | with_reducible exact Below.refl _ _ | refine Below.setCell ?_ (by (first | omega | (simp; omega) | (simp; done) | fail "sml")) _ | refine Below.drew ?_ | refine Below.alloc ?_ (by (first | omega | (simp; omega) | (simp; done) | fail "sml")) _)); first | done | fail "chs")⟩
        case measure => simp [intOf]; omega
      · have q0 : decide ((k : Int) ≤ 4) = false := decide_eq_false (by omega)
        go_wp2_with fail
        go_ret
        exact ⟨rfl, HBW.out.trans (hbr.mono (by omega))⟩
end Go.Proofs.Ytckmganhabgbfaa
