/- The walk of FnWalkValid. -/
import Derived.Test.YtckmganhabgbfaaL5V
import Derived.Test.YtckmganhabgbfaaLModeParts
import Derived.Test.YtckmganhabgbfaaWkLawV
import Derived.Test.YtckmganhabgbfaaWkV2
import Derived.Test.YtckmganhabgbfaaWkJ
import Derived.Test.YtckmganhabgbfaaWkT2
namespace Go.Proofs.Ytckmganhabgbfaa
open Go.RowKit

set_option maxRecDepth 100000 in
set_option maxHeartbeats 16000000 in
theorem lawWalkValid (zs : List Int) (v : Value) (w : World) (hv : Sl 1 byCells w.heap.size w v zs) (hz : ∀ z ∈ zs, 0 ≤ z ∧ z ≤ 255) :
    Calls Try.prog 5 #[v] w fun e w' => e = .returned (.bool true) ∧ Below w.heap.size w w' := by
  obtain ⟨p, cap, rfl⟩ := hv.form
  have hm := hv.max
  unfold maxLen at hm
  by_cases hb : (1048576 : Int) < zs.length
  · go_enter Try.func5, Try.ntmps5
    go_wp2_with fail
    go_ret
    exact ⟨rfl, Below.refl _ _⟩
  · go_enter Try.func5, Try.ntmps5
    go_wp2_with fail
    refine (drawWalkValid_any zs _ w.heap.size _ hv (Nat.le_refl _) hz).mono ?_
    rintro e wx ⟨g, vg, Fg, x, vx, Fx, rfl, hg, hx, hb1⟩
    obtain ⟨pg, cg, qg, dg, rfl⟩ := hg.1.form
    obtain ⟨px, cx, qx, dx, rfl⟩ := hx.1.form
    have HX := Lib.hid hx.1.at
    have HG := Lib.hid hg.1.at
    have HOK := Lib.hid hg.2.2.1
    have HB1 := Lib.hid hb1
    have HN := Lib.hid (show x.need ≤ 1048576 by have := hx.2.2; omega)
    have s1 := hb1.size
    clear hg hx hb1 hv
    go_upto_region 4 with fail
    obtain ⟨W, eW⟩ : ∃ E, E = (wx.alloc (.cells #[.slice pg g.ns.length cg, .slice qg g.es.length dg] 38)).alloc (.cells #[.slice px x.ns.length cx, .slice qx x.es.length dx] 25) := ⟨_, rfl⟩
    have s3 : wx.heap.size + 1 < W.heap.size := by rw [eW]; simp
    have hbW : Below wx.heap.size wx W := by rw [eW]; exact ((Below.refl _ _).alloc (Nat.le_refl _) _).alloc (by simp) _
    have HC := Lib.hid (show (W.cell? ⟨wx.heap.size, 0, none⟩ = some (.slice pg g.ns.length cg) ∧ W.cell? ⟨wx.heap.size, 1, none⟩ = some (.slice qg g.es.length dg)) ∧ W.cell? ⟨wx.heap.size + 1, 0, none⟩ = some (.slice px x.ns.length cx) ∧ W.cell? ⟨wx.heap.size + 1, 1, none⟩ = some (.slice qx x.es.length dx) by rw [eW]; exact ⟨⟨by simp [go_sem], by simp [go_sem]⟩, by simp [go_sem], by simp [go_sem]⟩)
    rw [← eW]
    clear eW
    have HK := Lib.hid (fun (E : World) (hE : Below W.heap.size W E) => And.intro (And.intro (keepc (b := wx.heap.size) hE (by omega) HC.out.1.1) (keepc (b := wx.heap.size) hE (by omega) HC.out.1.2)) (And.intro (keepc hE s3 HC.out.2.1) (keepc hE s3 HC.out.2.2)))
    have HKX := Lib.hid (fun (E : World) (hE : Below W.heap.size W E) => (HK.out E hE).2)
    have HA := Lib.hid (fun (E : World) (hE : Below W.heap.size W E) => (show g.At W.heap.size E (.agg #[.slice pg g.ns.length cg, .slice qg g.es.length dg]) ∧ x.At W.heap.size E (.agg #[.slice px x.ns.length cx, .slice qx x.es.length dx]) from ⟨((HG.out.below hbW).below (hE.mono (by omega))).mono (by omega), (HX.out.to hbW (Nat.le_refl _)).to (hE.mono (by omega)) (by omega)⟩))
    have HBW := Lib.hid ((HB1.out.trans (hbW.mono s1)) : Below w.heap.size w W)
    clear hbW
    have r0 := Below.refl W.heap.size W
    obtain ⟨⟨y0, y1⟩, y2, y3⟩ := HK.out _ r0
    go_wp2_with fail
    refine Calls.mono (walkValid_any g x _ _ W.heap.size _ (HA.out _ (show Below W.heap.size W _ by ((repeat (first | with_reducible assumption | with_reducible exact Below.refl _ _ | refine Below.setCell ?_ (by (first | omega | (simp; omega) | (simp; done) | fail "sml")) _ | refine Below.drew ?_ | refine Below.alloc ?_ (by (first | omega | (simp; omega) | (simp; done) | fail "sml")) _)); first | done | fail "chs"))).1 (HA.out _ (show Below W.heap.size W _ by ((repeat (first | with_reducible assumption | with_reducible exact Below.refl _ _ | refine Below.setCell ?_ (by (first | omega | (simp; omega) | (simp; done) | fail "sml")) _ | refine Below.drew ?_ | refine Below.alloc ?_ (by (first | omega | (simp; omega) | (simp; done) | fail "sml")) _)); first | done | fail "chs"))).2 (show Below W.heap.size W _ by ((repeat (first | with_reducible assumption | with_reducible exact Below.refl _ _ | refine Below.setCell ?_ (by (first | omega | (simp; omega) | (simp; done) | fail "sml")) _ | refine Below.drew ?_ | refine Below.alloc ?_ (by (first | omega | (simp; omega) | (simp; done) | fail "sml")) _)); first | done | fail "chs")).size HOK.out HN.out) ?_
    rintro e wa ⟨rfl, hb⟩
    have rwa := Below.trans (show Below W.heap.size W _ by ((repeat (first | with_reducible assumption | with_reducible exact Below.refl _ _ | refine Below.setCell ?_ (by (first | omega | (simp; omega) | (simp; done) | fail "sml")) _ | refine Below.drew ?_ | refine Below.alloc ?_ (by (first | omega | (simp; omega) | (simp; done) | fail "sml")) _)); first | done | fail "chs")) (hb.mono (by (first | omega | (simp; omega) | (simp; done) | fail "sml")))
    have zwa := rwa.size
    clear hb y0 y1 y2 y3
    obtain ⟨⟨y0, y1⟩, y2, y3⟩ := HK.out _ rwa
    cases hmo : wkValid g x with
    | false =>
      go_wp2_with fail
      refine Calls.mono (specWalkValid_any g x _ _ W.heap.size _ (HA.out _ (show Below W.heap.size W _ by ((repeat (first | with_reducible assumption | with_reducible exact Below.refl _ _ | refine Below.setCell ?_ (by (first | omega | (simp; omega) | (simp; done) | fail "sml")) _ | refine Below.drew ?_ | refine Below.alloc ?_ (by (first | omega | (simp; omega) | (simp; done) | fail "sml")) _)); first | done | fail "chs"))).1 (HA.out _ (show Below W.heap.size W _ by ((repeat (first | with_reducible assumption | with_reducible exact Below.refl _ _ | refine Below.setCell ?_ (by (first | omega | (simp; omega) | (simp; done) | fail "sml")) _ | refine Below.drew ?_ | refine Below.alloc ?_ (by (first | omega | (simp; omega) | (simp; done) | fail "sml")) _)); first | done | fail "chs"))).2 (show Below W.heap.size W _ by ((repeat (first | with_reducible assumption | with_reducible exact Below.refl _ _ | refine Below.setCell ?_ (by (first | omega | (simp; omega) | (simp; done) | fail "sml")) _ | refine Below.drew ?_ | refine Below.alloc ?_ (by (first | omega | (simp; omega) | (simp; done) | fail "sml")) _)); first | done | fail "chs")).size HOK.out HN.out) ?_
      rintro e wb ⟨rfl, hb⟩
      have rwb := Below.trans (show Below W.heap.size W _ by ((repeat (first | with_reducible assumption | with_reducible exact Below.refl _ _ | refine Below.setCell ?_ (by (first | omega | (simp; omega) | (simp; done) | fail "sml")) _ | refine Below.drew ?_ | refine Below.alloc ?_ (by (first | omega | (simp; omega) | (simp; done) | fail "sml")) _)); first | done | fail "chs")) (hb.mono (by (first | omega | (simp; omega) | (simp; done) | fail "sml")))
      have zwb := rwb.size
      clear hb y0 y1 y2 y3
      obtain ⟨⟨y0, y1⟩, y2, y3⟩ := HK.out _ rwb
      rw [hmo]
      go_wp2_with fail

      refine Calls.mono (specWalkValid_any g x _ _ W.heap.size _ (HA.out _ (show Below W.heap.size W _ by ((repeat (first | with_reducible assumption | with_reducible exact Below.refl _ _ | refine Below.setCell ?_ (by (first | omega | (simp; omega) | (simp; done) | fail "sml")) _ | refine Below.drew ?_ | refine Below.alloc ?_ (by (first | omega | (simp; omega) | (simp; done) | fail "sml")) _)); first | done | fail "chs"))).1 (HA.out _ (show Below W.heap.size W _ by ((repeat (first | with_reducible assumption | with_reducible exact Below.refl _ _ | refine Below.setCell ?_ (by (first | omega | (simp; omega) | (simp; done) | fail "sml")) _ | refine Below.drew ?_ | refine Below.alloc ?_ (by (first | omega | (simp; omega) | (simp; done) | fail "sml")) _)); first | done | fail "chs"))).2 (show Below W.heap.size W _ by ((repeat (first | with_reducible assumption | with_reducible exact Below.refl _ _ | refine Below.setCell ?_ (by (first | omega | (simp; omega) | (simp; done) | fail "sml")) _ | refine Below.drew ?_ | refine Below.alloc ?_ (by (first | omega | (simp; omega) | (simp; done) | fail "sml")) _)); first | done | fail "chs")).size HOK.out HN.out) ?_
      rintro e wc1 ⟨rfl, hb⟩
      have rwc1 := Below.trans (show Below W.heap.size W _ by ((repeat (first | with_reducible assumption | with_reducible exact Below.refl _ _ | refine Below.setCell ?_ (by (first | omega | (simp; omega) | (simp; done) | fail "sml")) _ | refine Below.drew ?_ | refine Below.alloc ?_ (by (first | omega | (simp; omega) | (simp; done) | fail "sml")) _)); first | done | fail "chs")) (hb.mono (by (first | omega | (simp; omega) | (simp; done) | fail "sml")))
      have zwc1 := rwc1.size
      clear hb y0 y1 y2 y3
      obtain ⟨⟨y0, y1⟩, y2, y3⟩ := HK.out _ rwc1
      rw [hmo]
      go_wp2_with fail
      go_ret
      exact ⟨rfl, HBW.out.trans ((show Below W.heap.size W _ by ((repeat (first | with_reducible assumption | with_reducible exact Below.refl _ _ | refine Below.setCell ?_ (by (first | omega | (simp; omega) | (simp; done) | fail "sml")) _ | refine Below.drew ?_ | refine Below.alloc ?_ (by (first | omega | (simp; omega) | (simp; done) | fail "sml")) _)); first | done | fail "chs")).mono (by omega))⟩
    | true =>
      have HS := Lib.hid (wkShape_iff.1 (wkValid_iff.1 hmo).2.1)
      have HV := Lib.hid hmo
      go_wp2_with fail
      refine Calls.mono (specWalkValid_any g x _ _ W.heap.size _ (HA.out _ (show Below W.heap.size W _ by ((repeat (first | with_reducible assumption | with_reducible exact Below.refl _ _ | refine Below.setCell ?_ (by (first | omega | (simp; omega) | (simp; done) | fail "sml")) _ | refine Below.drew ?_ | refine Below.alloc ?_ (by (first | omega | (simp; omega) | (simp; done) | fail "sml")) _)); first | done | fail "chs"))).1 (HA.out _ (show Below W.heap.size W _ by ((repeat (first | with_reducible assumption | with_reducible exact Below.refl _ _ | refine Below.setCell ?_ (by (first | omega | (simp; omega) | (simp; done) | fail "sml")) _ | refine Below.drew ?_ | refine Below.alloc ?_ (by (first | omega | (simp; omega) | (simp; done) | fail "sml")) _)); first | done | fail "chs"))).2 (show Below W.heap.size W _ by ((repeat (first | with_reducible assumption | with_reducible exact Below.refl _ _ | refine Below.setCell ?_ (by (first | omega | (simp; omega) | (simp; done) | fail "sml")) _ | refine Below.drew ?_ | refine Below.alloc ?_ (by (first | omega | (simp; omega) | (simp; done) | fail "sml")) _)); first | done | fail "chs")).size HOK.out HN.out) ?_
      rintro e wb ⟨rfl, hb⟩
      have rwb := Below.trans (show Below W.heap.size W _ by ((repeat (first | with_reducible assumption | with_reducible exact Below.refl _ _ | refine Below.setCell ?_ (by (first | omega | (simp; omega) | (simp; done) | fail "sml")) _ | refine Below.drew ?_ | refine Below.alloc ?_ (by (first | omega | (simp; omega) | (simp; done) | fail "sml")) _)); first | done | fail "chs")) (hb.mono (by (first | omega | (simp; omega) | (simp; done) | fail "sml")))
      have zwb := rwb.size
      clear hb y0 y1 y2 y3
      obtain ⟨⟨y0, y1⟩, y2, y3⟩ := HK.out _ rwb
      rw [hmo]
      go_wp2_with fail

      clear hmo
      go_loopw [6] (fun i wr => ∃ k : Nat, k ≤ x.ns.length ∧ i = .int .i64 k ∧ Below W.heap.size W wr) (fun i _ => x.ns.length - (intOf i).toNat)
      case atStart => exact ⟨0, Nat.zero_le _, rfl, by ((repeat (first | with_reducible assumption | with_reducible exact Below.refl _ _ | refine Below.setCell ?_ (by (first | omega | (simp; omega) | (simp; done) | fail "sml")) _ | refine Below.drew ?_ | refine Below.alloc ?_ (by (first | omega | (simp; omega) | (simp; done) | fail "sml")) _)); first | done | fail "chs")⟩
      case round =>
        clear y0 y1 y2 y3 rwa zwa rwb zwb
        obtain ⟨k, hk, rfl, hbr⟩ := hrel
        have zwr := hbr.size
        obtain ⟨⟨y0, y1⟩, y2, y3⟩ := HK.out _ hbr
        by_cases hlt : k < x.ns.length
        · have HPA := Lib.hid (partA_valid HV.out hlt)
          have HPB := Lib.hid (partB_valid HV.out hlt)
          have HPJ := Lib.hid (part_join (wkShape_iff.2 HS.out) hlt)
          have hke : k ≤ x.es.length := by have := HS.out.1; omega
          obtain ⟨v0, v1, e1, a1, a2⟩ := (HA.out _ hbr).2
          cases e1
          obtain ⟨b, off, rfl, hbb, _⟩ := a1.it hlt
          have hmx := a1.max
          have hmy := a2.max
          unfold maxLen at hmx hmy
          have g1 : (k : Int) + 1 ≤ (cx : Int) := by omega
          have g2 : (k : Int) ≤ (dx : Int) := by omega
          have g3 : (k : Int) ≤ (x.ns.length : Int) := by omega
          have g4 : (k : Int) ≤ (x.es.length : Int) := by omega
          have g5 : k ≤ x.ns.length := by omega
          have g6 : k + 1 ≤ cx := by omega
          have g7 : k ≤ dx := by omega
          have g8 : (0 : Int) ≤ (k : Int) + 1 := by omega
          have g9 : IntKind.i64.wrap ((k : Int) + 1) = (k : Int) + 1 := by rw [IntKind.wrap_i64]; omega
          have q0 : (cx = k) = False := eq_false (by omega)
          have q1 : (cx - k = 0) = False := eq_false (by omega)
          clear a1 a2
          go_upto_region 10 with fail
          refine wp_region_held_drew (S := fun w' => w'.cell? ⟨wx.heap.size + 1, 0, none⟩ = some (.slice (some ⟨b, off, none⟩) x.ns.length cx) ∧ w'.cell? ⟨wx.heap.size + 1, 1, none⟩ = some (.slice qx x.es.length dx)) (by kernel_rfl) ?_ (fun hHeld => ?_)
          · exact HKX.out _ (show Below W.heap.size W _ by ((repeat (first | with_reducible assumption | with_reducible exact Below.refl _ _ | refine Below.setCell ?_ (by (first | omega | (simp; omega) | (simp; done) | fail "sml")) _ | refine Below.drew ?_ | refine Below.alloc ?_ (by (first | omega | (simp; omega) | (simp; done) | fail "sml")) _)); first | done | fail "chs"))
          (refine takeL (i := 0) (v := ?_) rfl (by kernel_rfl) (by kernel_rfl) (by kernel_rfl) (fun _ _ _ h => h) (Or.inl ⟨by kernel_rfl, ?_⟩) (by assumption) ?_; rotate_left; (focus (intro w hSw; (try dsimp only at hSw); go_simp; first | done | with_reducible rfl | fail "take")); (try simp only [Act.put, List.setIfInBounds_toArray, List.set_cons_zero, List.set_cons_succ]))
          (refine takeL (i := 1) (v := ?_) rfl (by kernel_rfl) (by kernel_rfl) (by kernel_rfl) (fun _ _ _ h => h) (Or.inl ⟨by kernel_rfl, ?_⟩) (by assumption) ?_; rotate_left; (focus (intro w hSw; (try dsimp only at hSw); go_simp; first | done | with_reducible rfl | fail "take")); (try simp only [Act.put, List.setIfInBounds_toArray, List.set_cons_zero, List.set_cons_succ]))
          (refine takeL (i := 2) (v := ?_) rfl (by kernel_rfl) (by kernel_rfl) (by kernel_rfl) (fun _ _ _ h => h) (Or.inl ⟨by kernel_rfl, ?_⟩) (by assumption) ?_; rotate_left; (focus (intro w hSw; (try dsimp only at hSw); go_simp; first | done | with_reducible rfl | fail "take")); (try simp only [Act.put, List.setIfInBounds_toArray, List.set_cons_zero, List.set_cons_succ]))
          (refine takeL (i := 3) (v := ?_) rfl (by kernel_rfl) (by kernel_rfl) (by kernel_rfl) (fun _ _ _ h => h) (Or.inl ⟨by kernel_rfl, ?_⟩) (by assumption) ?_; rotate_left; (focus (intro w hSw; (try dsimp only at hSw); go_simp; first | done | with_reducible rfl | fail "take")); (try simp only [Act.put, List.setIfInBounds_toArray, List.set_cons_zero, List.set_cons_succ]))
          (refine takeL (i := 4) (v := ?_) rfl (by kernel_rfl) (by kernel_rfl) (by kernel_rfl) (fun _ _ _ h => h) (Or.inl ⟨by kernel_rfl, ?_⟩) (by assumption) ?_; rotate_left; (focus (intro w hSw; (try dsimp only at hSw); go_simp; first | done | with_reducible rfl | fail "take")); (try simp only [Act.put, List.setIfInBounds_toArray, List.set_cons_zero, List.set_cons_succ]))
          (refine takeL (i := 5) (v := ?_) rfl (by kernel_rfl) (by kernel_rfl) (by kernel_rfl) (fun _ _ _ h => h) (Or.inl ⟨by kernel_rfl, ?_⟩) (by assumption) ?_; rotate_left; (focus (intro w hSw; (try dsimp only at hSw); go_simp; first | done | with_reducible rfl | fail "take")); (try simp only [Act.put, List.setIfInBounds_toArray, List.set_cons_zero, List.set_cons_succ]))
          (refine takeL (i := 6) (v := ?_) rfl (by kernel_rfl) (by kernel_rfl) (by kernel_rfl) (fun _ _ _ h => h) (Or.inl ⟨by kernel_rfl, ?_⟩) (by assumption) ?_; rotate_left; (focus (intro w hSw; (try dsimp only at hSw); go_simp; first | done | with_reducible rfl | fail "take")); (try simp only [Act.put, List.setIfInBounds_toArray, List.set_cons_zero, List.set_cons_succ]))
          (refine takeL (i := 7) (v := ?_) rfl (by kernel_rfl) (by kernel_rfl) (by kernel_rfl) (fun _ _ _ h => h) (Or.inl ⟨by kernel_rfl, ?_⟩) (by assumption) ?_; rotate_left; (focus (intro w hSw; (try dsimp only at hSw); go_simp; first | done | with_reducible rfl | fail "take")); (try simp only [Act.put, List.setIfInBounds_toArray, List.set_cons_zero, List.set_cons_succ]))
          (refine takeL (i := 8) (v := ?_) rfl (by kernel_rfl) (by kernel_rfl) (by kernel_rfl) (fun _ _ _ h => h) (Or.inl ⟨by kernel_rfl, ?_⟩) (by assumption) ?_; rotate_left; (focus (intro w hSw; (try dsimp only at hSw); go_simp; first | done | with_reducible rfl | fail "take")); (try simp only [Act.put, List.setIfInBounds_toArray, List.set_cons_zero, List.set_cons_succ]))
          (refine takeL (i := 9) (v := ?_) rfl (by kernel_rfl) (by kernel_rfl) (by kernel_rfl) (fun _ _ _ h => h) (Or.inl ⟨by kernel_rfl, ?_⟩) (by assumption) ?_; rotate_left; (focus (intro w hSw; (try dsimp only at hSw); go_simp; first | done | with_reducible rfl | fail "take")); (try simp only [Act.put, List.setIfInBounds_toArray, List.set_cons_zero, List.set_cons_succ]))
          (refine callL (i := 10) rfl (by kernel_rfl) (by kernel_rfl) (fun K hK => ?_); go_simp)
          refine hK.out _ _ (HKX.out _ (show Below W.heap.size W _ by ((repeat (first | with_reducible assumption | with_reducible exact Below.refl _ _ | refine Below.setCell ?_ (by (first | omega | (simp; omega) | (simp; done) | fail "sml")) _ | refine Below.drew ?_ | refine Below.alloc ?_ (by (first | omega | (simp; omega) | (simp; done) | fail "sml")) _)); first | done | fail "chs"))) (fun hHeld => ?_)
          clear hK K
          (try simp only [Act.put, List.setIfInBounds_toArray, List.set_cons_zero, List.set_cons_succ])
          (refine callL (i := 11) rfl (by kernel_rfl) (by kernel_rfl) (fun K hK => ?_); go_simp)
          refine hK.out _ _ (HKX.out _ (show Below W.heap.size W _ by ((repeat (first | with_reducible assumption | with_reducible exact Below.refl _ _ | refine Below.setCell ?_ (by (first | omega | (simp; omega) | (simp; done) | fail "sml")) _ | refine Below.drew ?_ | refine Below.alloc ?_ (by (first | omega | (simp; omega) | (simp; done) | fail "sml")) _)); first | done | fail "chs"))) (fun hHeld => ?_)
          clear hK K
          (try simp only [Act.put, List.setIfInBounds_toArray, List.set_cons_zero, List.set_cons_succ])
          refine wpAnyH_done (by kernel_rfl) ?_ _

          obtain ⟨WA, eWA⟩ : ∃ E, E = (wr.alloc (.cells #[.slice (some ⟨b, off, none⟩) (k + 1) cx, .slice qx k dx] 25)).drew := ⟨_, rfl⟩
          have rA : Below wr.heap.size wr WA := by rw [eWA]; exact ((Below.refl _ _).alloc (Nat.le_refl _) _).drew
          have zA : wr.heap.size < WA.heap.size := by rw [eWA]; show wr.heap.size < (wr.alloc _).heap.size; simp
          have HCA := Lib.hid (show WA.cell? ⟨wr.heap.size, 0, none⟩ = some (.slice (some ⟨b, off, none⟩) (k + 1) cx) ∧ WA.cell? ⟨wr.heap.size, 1, none⟩ = some (.slice qx k dx) by rw [eWA]; exact ⟨by simp [go_sem], by simp [go_sem]⟩)
          go_upto_region 11 with fail
          rw [← eWA]
          clear eWA y0 y1 y2 y3
          have rwA := Below.trans hbr (rA.mono zwr)
          obtain ⟨⟨y0, y1⟩, y2, y3⟩ := HK.out _ rwA
          by_cases hd : dx = k
          · subst hd
            go_upto_region 11 with fail
            refine wp_region_held_drew (S := fun w' => w'.cell? ⟨wx.heap.size + 1, 0, none⟩ = some (.slice (some ⟨b, off, none⟩) x.ns.length cx) ∧ w'.cell? ⟨wx.heap.size + 1, 1, none⟩ = some (.slice qx x.es.length dx)) (by kernel_rfl) ?_ (fun hHeld => ?_)
            · exact HKX.out _ (show Below W.heap.size W _ by ((repeat (first | with_reducible assumption | with_reducible exact Below.refl _ _ | refine Below.setCell ?_ (by (first | omega | (simp; omega) | (simp; done) | fail "sml")) _ | refine Below.drew ?_ | refine Below.alloc ?_ (by (first | omega | (simp; omega) | (simp; done) | fail "sml")) _)); first | done | fail "chs"))
            (refine takeL (i := 0) (v := ?_) rfl (by kernel_rfl) (by kernel_rfl) (by kernel_rfl) (fun _ _ _ h => h) (Or.inl ⟨by kernel_rfl, ?_⟩) (by assumption) ?_; rotate_left; (focus (intro w hSw; (try dsimp only at hSw); go_simp; first | done | with_reducible rfl | fail "take")); (try simp only [Act.put, List.setIfInBounds_toArray, List.set_cons_zero, List.set_cons_succ]))
            (refine takeL (i := 1) (v := ?_) rfl (by kernel_rfl) (by kernel_rfl) (by kernel_rfl) (fun _ _ _ h => h) (Or.inl ⟨by kernel_rfl, ?_⟩) (by assumption) ?_; rotate_left; (focus (intro w hSw; (try dsimp only at hSw); go_simp; first | done | with_reducible rfl | fail "take")); (try simp only [Act.put, List.setIfInBounds_toArray, List.set_cons_zero, List.set_cons_succ]))
            (refine takeL (i := 2) (v := ?_) rfl (by kernel_rfl) (by kernel_rfl) (by kernel_rfl) (fun _ _ _ h => h) (Or.inl ⟨by kernel_rfl, ?_⟩) (by assumption) ?_; rotate_left; (focus (intro w hSw; (try dsimp only at hSw); go_simp; first | done | with_reducible rfl | fail "take")); (try simp only [Act.put, List.setIfInBounds_toArray, List.set_cons_zero, List.set_cons_succ]))
            (refine takeL (i := 3) (v := ?_) rfl (by kernel_rfl) (by kernel_rfl) (by kernel_rfl) (fun _ _ _ h => h) (Or.inl ⟨by kernel_rfl, ?_⟩) (by assumption) ?_; rotate_left; (focus (intro w hSw; (try dsimp only at hSw); go_simp; first | done | with_reducible rfl | fail "take")); (try simp only [Act.put, List.setIfInBounds_toArray, List.set_cons_zero, List.set_cons_succ]))
            (refine takeL (i := 4) (v := ?_) rfl (by kernel_rfl) (by kernel_rfl) (by kernel_rfl) (fun _ _ _ h => h) (Or.inl ⟨by kernel_rfl, ?_⟩) (by assumption) ?_; rotate_left; (focus (intro w hSw; (try dsimp only at hSw); go_simp; first | done | with_reducible rfl | fail "take")); (try simp only [Act.put, List.setIfInBounds_toArray, List.set_cons_zero, List.set_cons_succ]))
            (refine takeL (i := 5) (v := ?_) rfl (by kernel_rfl) (by kernel_rfl) (by kernel_rfl) (fun _ _ _ h => h) (Or.inl ⟨by kernel_rfl, ?_⟩) (by assumption) ?_; rotate_left; (focus (intro w hSw; (try dsimp only at hSw); go_simp; first | done | with_reducible rfl | fail "take")); (try simp only [Act.put, List.setIfInBounds_toArray, List.set_cons_zero, List.set_cons_succ]))
            (refine takeL (i := 6) (v := ?_) rfl (by kernel_rfl) (by kernel_rfl) (by kernel_rfl) (fun _ _ _ h => h) (Or.inl ⟨by kernel_rfl, ?_⟩) (by assumption) ?_; rotate_left; (focus (intro w hSw; (try dsimp only at hSw); go_simp; first | done | with_reducible rfl | fail "take")); (try simp only [Act.put, List.setIfInBounds_toArray, List.set_cons_zero, List.set_cons_succ]))
            (refine takeL (i := 7) (v := ?_) rfl (by kernel_rfl) (by kernel_rfl) (by kernel_rfl) (fun _ _ _ h => h) (Or.inl ⟨by kernel_rfl, ?_⟩) (by assumption) ?_; rotate_left; (focus (intro w hSw; (try dsimp only at hSw); go_simp; first | done | with_reducible rfl | fail "take")); (try simp only [Act.put, List.setIfInBounds_toArray, List.set_cons_zero, List.set_cons_succ]))
            (refine takeL (i := 8) (v := ?_) rfl (by kernel_rfl) (by kernel_rfl) (by kernel_rfl) (fun _ _ _ h => h) (Or.inl ⟨by kernel_rfl, ?_⟩) (by assumption) ?_; rotate_left; (focus (intro w hSw; (try dsimp only at hSw); go_simp; first | done | with_reducible rfl | fail "take")); (try simp only [Act.put, List.setIfInBounds_toArray, List.set_cons_zero, List.set_cons_succ]))
            (refine callL (i := 9) rfl (by kernel_rfl) (by kernel_rfl) (fun K hK => ?_); go_simp)
            refine hK.out _ _ (HKX.out _ (show Below W.heap.size W _ by ((repeat (first | with_reducible assumption | with_reducible exact Below.refl _ _ | refine Below.setCell ?_ (by (first | omega | (simp; omega) | (simp; done) | fail "sml")) _ | refine Below.drew ?_ | refine Below.alloc ?_ (by (first | omega | (simp; omega) | (simp; done) | fail "sml")) _)); first | done | fail "chs"))) (fun hHeld => ?_)
            clear hK K
            (try simp only [Act.put, List.setIfInBounds_toArray, List.set_cons_zero, List.set_cons_succ])
            (refine callL (i := 10) rfl (by kernel_rfl) (by kernel_rfl) (fun K hK => ?_); go_simp)
            refine hK.out _ _ (HKX.out _ (show Below W.heap.size W _ by ((repeat (first | with_reducible assumption | with_reducible exact Below.refl _ _ | refine Below.setCell ?_ (by (first | omega | (simp; omega) | (simp; done) | fail "sml")) _ | refine Below.drew ?_ | refine Below.alloc ?_ (by (first | omega | (simp; omega) | (simp; done) | fail "sml")) _)); first | done | fail "chs"))) (fun hHeld => ?_)
            clear hK K
            (try simp only [Act.put, List.setIfInBounds_toArray, List.set_cons_zero, List.set_cons_succ])
            refine wpAnyH_done (by kernel_rfl) ?_ _
            obtain ⟨WB, eWB⟩ : ∃ E, E = (WA.alloc (.cells #[.slice (some ⟨b, off + dx, none⟩) (x.ns.length - dx) (cx - dx), .slice qx 0 0] 25)).drew := ⟨_, rfl⟩
            have rAB : Below WA.heap.size WA WB := by rw [eWB]; exact ((Below.refl _ _).alloc (Nat.le_refl _) _).drew
            have zB : WA.heap.size < WB.heap.size := by rw [eWB]; show WA.heap.size < (WA.alloc _).heap.size; simp
            have HCB := Lib.hid (show WB.cell? ⟨WA.heap.size, 0, none⟩ = some (.slice (some ⟨b, off + dx, none⟩) (x.ns.length - dx) (cx - dx)) ∧ WB.cell? ⟨WA.heap.size, 1, none⟩ = some (.slice qx 0 0) by rw [eWB]; exact ⟨by simp [go_sem], by simp [go_sem]⟩)
            rw [← eWB]
            clear eWB y0 y1 y2 y3 hHeld
            have rB : Below W.heap.size W WB := rwA.trans (rAB.mono (by omega))
            have HQ := Lib.hid (fun (E : World) (hE : Below WB.heap.size WB E) => (show (E.cell? ⟨wr.heap.size, 0, none⟩ = some (.slice (some ⟨b, off, none⟩) (dx + 1) cx) ∧ E.cell? ⟨wr.heap.size, 1, none⟩ = some (.slice qx dx dx)) ∧ (E.cell? ⟨WA.heap.size, 0, none⟩ = some (.slice (some ⟨b, off + dx, none⟩) (x.ns.length - dx) (cx - dx)) ∧ E.cell? ⟨WA.heap.size, 1, none⟩ = some (.slice qx 0 0)) ∧ (partA x dx).At W.heap.size E (.agg #[.slice (some ⟨b, off, none⟩) (dx + 1) cx, .slice qx dx dx]) ∧ (partB x dx).At W.heap.size E (.agg #[.slice (some ⟨b, off + dx, none⟩) (x.ns.length - dx) (cx - dx), .slice qx 0 0]) from
              ⟨⟨keepc (b := wr.heap.size) hE (by omega) (keepc rAB zA HCA.out.1), keepc (b := wr.heap.size) hE (by omega) (keepc rAB zA HCA.out.2)⟩, ⟨keepc hE zB HCB.out.1, keepc hE zB HCB.out.2⟩, partA_at (HA.out E (rB.trans (hE.mono (by omega)))).2 (by omega) hke, (by have hh := partB_at0 (k := dx) (HA.out E (rB.trans (hE.mono (by omega)))).2 g5 (by omega); rw [map_add] at hh; exact hh)⟩))
            have rWB := Below.refl WB.heap.size WB
            have sB := rB.size
            have HPN := Lib.hid (show (partA x dx).need ≤ 1048576 ∧ (partB x dx).need ≤ 1048576 by have := HN.out; unfold partA partB; unfold Wk.need at *; simp only [List.length_take, List.length_drop]; omega)
            obtain ⟨⟨b0, b1⟩, ⟨b2, b3⟩, _, _⟩ := HQ.out _ rWB
            obtain ⟨⟨y0, y1⟩, y2, y3⟩ := HK.out _ rB
            go_wp2_with fail
            refine Calls.mono (joinWalks_any (partA x dx) (partB x dx) _ _ W.heap.size WB (HQ.out _ rWB).2.2.1 (HQ.out _ rWB).2.2.2 sB HPN.out.1 HPN.out.2) ?_
            rw [HPJ.out.1, HPJ.out.2]
            rintro e wj ⟨vj, Fj, rfl, hj, _, hb⟩
            obtain ⟨pj, cj, qj, dj, rfl⟩ := hj.form
            have HJ := Lib.hid hj
            have rwj : Below WB.heap.size WB wj := hb
            have swj := hb.size
            clear hj hb b0 b1 b2 b3 y0 y1 y2 y3
            go_upto_region 13 with fail
            obtain ⟨WJ, eWJ⟩ : ∃ E, E = wj.alloc (.cells #[.slice pj x.ns.length cj, .slice qj x.es.length dj] 25) := ⟨_, rfl⟩
            have rjJ : Below wj.heap.size wj WJ := by rw [eWJ]; exact (Below.refl _ _).alloc (Nat.le_refl _) _
            have zJ : wj.heap.size < WJ.heap.size := by rw [eWJ]; simp
            have HCJ := Lib.hid (show WJ.cell? ⟨wj.heap.size, 0, none⟩ = some (.slice pj x.ns.length cj) ∧ WJ.cell? ⟨wj.heap.size, 1, none⟩ = some (.slice qj x.es.length dj) by rw [eWJ]; exact ⟨by simp [go_sem], by simp [go_sem]⟩)
            rw [← eWJ]
            clear eWJ
            have rWJ : Below WB.heap.size WB WJ := rwj.trans (rjJ.mono swj)
            have HJJ := Lib.hid (fun (E : World) (hE : Below WJ.heap.size WJ E) => (show (E.cell? ⟨wj.heap.size, 0, none⟩ = some (.slice pj x.ns.length cj) ∧ E.cell? ⟨wj.heap.size, 1, none⟩ = some (.slice qj x.es.length dj)) ∧ x.At WJ.heap.size E (.agg #[.slice pj x.ns.length cj, .slice qj x.es.length dj]) from ⟨⟨keepc hE zJ HCJ.out.1, keepc hE zJ HCJ.out.2⟩, (HJ.out.at.to rjJ (Nat.le_refl _)).to (hE.mono (by omega)) (by omega)⟩))
            have jJ := Below.refl WJ.heap.size WJ
            obtain ⟨⟨b0, b1⟩, ⟨b2, b3⟩, _, _⟩ := HQ.out _ rWJ
            obtain ⟨⟨y0, y1⟩, y2, y3⟩ := HK.out _ (rB.trans (rWJ.mono (by omega)))
            have sJ := rWJ.size
            go_wp2_with fail
            refine Calls.mono (walkValid_any g (partA x dx) _ _ W.heap.size WJ (HA.out _ (rB.trans (rWJ.mono (by omega)))).1 (HQ.out _ rWJ).2.2.1 (by omega) HOK.out HPN.out.1) ?_
            rw [HPA.out]
            rintro e wd ⟨rfl, hb⟩
            have jd : Below WJ.heap.size WJ wd := hb
            have hbwd := hb
            have zwd := hb.size
            have rwd : Below WB.heap.size WB wd := rWJ.trans (hb.mono rWJ.size)
            clear hb b0 b1 b2 b3 y0 y1 y2 y3
            obtain ⟨⟨b0, b1⟩, ⟨b2, b3⟩, _, _⟩ := HQ.out _ rwd
            obtain ⟨⟨y0, y1⟩, y2, y3⟩ := HK.out _ (rB.trans (rwd.mono (by omega)))
            go_wp2_with fail
            refine Calls.mono (walkValid_any g (partB x dx) _ _ W.heap.size wd (HA.out _ (rB.trans (rwd.mono (by omega)))).1 (HQ.out _ rwd).2.2.2 (by omega) HOK.out HPN.out.2) ?_
            rw [HPB.out]
            rintro e we ⟨rfl, hb⟩
            have je : Below WJ.heap.size WJ we := jd.trans (hb.mono jd.size)
            obtain ⟨⟨j0, j1⟩, _⟩ := HJJ.out _ je
            have hbwe := hb
            have zwe := hb.size
            have rwe : Below WB.heap.size WB we := rwd.trans (hb.mono rwd.size)
            clear hb b0 b1 b2 b3 y0 y1 y2 y3
            obtain ⟨⟨b0, b1⟩, ⟨b2, b3⟩, _, _⟩ := HQ.out _ rwe
            obtain ⟨⟨y0, y1⟩, y2, y3⟩ := HK.out _ (rB.trans (rwe.mono (by omega)))
            go_wp2_with fail
            refine Calls.mono (walkSame_any x x _ _ we.heap.size we ((HJJ.out _ je).2.to (Below.refl _ _) je.size) ((HA.out _ (rB.trans (rwe.mono (by omega)))).2.to (Below.refl _ _) (by omega)) (Nat.le_refl _)) ?_
            rw [wkEq_refl]
            rintro e wf ⟨rfl, hb⟩
            have rwf : Below W.heap.size W wf := (rB.trans (rwe.mono (by omega))).trans (hb.mono (by omega))
            clear hb
            go_wp2_with fail
            go_roundw
            case rel => exact ⟨dx + 1, by omega, by go_num, rwf⟩
            case measure => simp [intOf]; omega

          · have q2 : (dx = k) = False := eq_false hd
            go_upto_region 11 with fail
            refine wp_region_held_drew (S := fun w' => w'.cell? ⟨wx.heap.size + 1, 0, none⟩ = some (.slice (some ⟨b, off, none⟩) x.ns.length cx) ∧ w'.cell? ⟨wx.heap.size + 1, 1, none⟩ = some (.slice qx x.es.length dx)) (by kernel_rfl) ?_ (fun hHeld => ?_)
            · exact HKX.out _ (show Below W.heap.size W _ by ((repeat (first | with_reducible assumption | with_reducible exact Below.refl _ _ | refine Below.setCell ?_ (by (first | omega | (simp; omega) | (simp; done) | fail "sml")) _ | refine Below.drew ?_ | refine Below.alloc ?_ (by (first | omega | (simp; omega) | (simp; done) | fail "sml")) _)); first | done | fail "chs"))
            (refine takeL (i := 0) (v := ?_) rfl (by kernel_rfl) (by kernel_rfl) (by kernel_rfl) (fun _ _ _ h => h) (Or.inl ⟨by kernel_rfl, ?_⟩) (by assumption) ?_; rotate_left; (focus (intro w hSw; (try dsimp only at hSw); go_simp; first | done | with_reducible rfl | fail "take")); (try simp only [Act.put, List.setIfInBounds_toArray, List.set_cons_zero, List.set_cons_succ]))
            (refine takeL (i := 1) (v := ?_) rfl (by kernel_rfl) (by kernel_rfl) (by kernel_rfl) (fun _ _ _ h => h) (Or.inl ⟨by kernel_rfl, ?_⟩) (by assumption) ?_; rotate_left; (focus (intro w hSw; (try dsimp only at hSw); go_simp; first | done | with_reducible rfl | fail "take")); (try simp only [Act.put, List.setIfInBounds_toArray, List.set_cons_zero, List.set_cons_succ]))
            (refine takeL (i := 2) (v := ?_) rfl (by kernel_rfl) (by kernel_rfl) (by kernel_rfl) (fun _ _ _ h => h) (Or.inl ⟨by kernel_rfl, ?_⟩) (by assumption) ?_; rotate_left; (focus (intro w hSw; (try dsimp only at hSw); go_simp; first | done | with_reducible rfl | fail "take")); (try simp only [Act.put, List.setIfInBounds_toArray, List.set_cons_zero, List.set_cons_succ]))
            (refine takeL (i := 3) (v := ?_) rfl (by kernel_rfl) (by kernel_rfl) (by kernel_rfl) (fun _ _ _ h => h) (Or.inl ⟨by kernel_rfl, ?_⟩) (by assumption) ?_; rotate_left; (focus (intro w hSw; (try dsimp only at hSw); go_simp; first | done | with_reducible rfl | fail "take")); (try simp only [Act.put, List.setIfInBounds_toArray, List.set_cons_zero, List.set_cons_succ]))
            (refine takeL (i := 4) (v := ?_) rfl (by kernel_rfl) (by kernel_rfl) (by kernel_rfl) (fun _ _ _ h => h) (Or.inl ⟨by kernel_rfl, ?_⟩) (by assumption) ?_; rotate_left; (focus (intro w hSw; (try dsimp only at hSw); go_simp; first | done | with_reducible rfl | fail "take")); (try simp only [Act.put, List.setIfInBounds_toArray, List.set_cons_zero, List.set_cons_succ]))
            (refine takeL (i := 5) (v := ?_) rfl (by kernel_rfl) (by kernel_rfl) (by kernel_rfl) (fun _ _ _ h => h) (Or.inl ⟨by kernel_rfl, ?_⟩) (by assumption) ?_; rotate_left; (focus (intro w hSw; (try dsimp only at hSw); go_simp; first | done | with_reducible rfl | fail "take")); (try simp only [Act.put, List.setIfInBounds_toArray, List.set_cons_zero, List.set_cons_succ]))
            (refine takeL (i := 6) (v := ?_) rfl (by kernel_rfl) (by kernel_rfl) (by kernel_rfl) (fun _ _ _ h => h) (Or.inl ⟨by kernel_rfl, ?_⟩) (by assumption) ?_; rotate_left; (focus (intro w hSw; (try dsimp only at hSw); go_simp; first | done | with_reducible rfl | fail "take")); (try simp only [Act.put, List.setIfInBounds_toArray, List.set_cons_zero, List.set_cons_succ]))
            (refine takeL (i := 7) (v := ?_) rfl (by kernel_rfl) (by kernel_rfl) (by kernel_rfl) (fun _ _ _ h => h) (Or.inl ⟨by kernel_rfl, ?_⟩) (by assumption) ?_; rotate_left; (focus (intro w hSw; (try dsimp only at hSw); go_simp; first | done | with_reducible rfl | fail "take")); (try simp only [Act.put, List.setIfInBounds_toArray, List.set_cons_zero, List.set_cons_succ]))
            (refine takeL (i := 8) (v := ?_) rfl (by kernel_rfl) (by kernel_rfl) (by kernel_rfl) (fun _ _ _ h => h) (Or.inl ⟨by kernel_rfl, ?_⟩) (by assumption) ?_; rotate_left; (focus (intro w hSw; (try dsimp only at hSw); go_simp; first | done | with_reducible rfl | fail "take")); (try simp only [Act.put, List.setIfInBounds_toArray, List.set_cons_zero, List.set_cons_succ]))
            (refine callL (i := 9) rfl (by kernel_rfl) (by kernel_rfl) (fun K hK => ?_); go_simp)
            refine hK.out _ _ (HKX.out _ (show Below W.heap.size W _ by ((repeat (first | with_reducible assumption | with_reducible exact Below.refl _ _ | refine Below.setCell ?_ (by (first | omega | (simp; omega) | (simp; done) | fail "sml")) _ | refine Below.drew ?_ | refine Below.alloc ?_ (by (first | omega | (simp; omega) | (simp; done) | fail "sml")) _)); first | done | fail "chs"))) (fun hHeld => ?_)
            clear hK K
            (try simp only [Act.put, List.setIfInBounds_toArray, List.set_cons_zero, List.set_cons_succ])
            (refine callL (i := 10) rfl (by kernel_rfl) (by kernel_rfl) (fun K hK => ?_); go_simp)
            refine hK.out _ _ (HKX.out _ (show Below W.heap.size W _ by ((repeat (first | with_reducible assumption | with_reducible exact Below.refl _ _ | refine Below.setCell ?_ (by (first | omega | (simp; omega) | (simp; done) | fail "sml")) _ | refine Below.drew ?_ | refine Below.alloc ?_ (by (first | omega | (simp; omega) | (simp; done) | fail "sml")) _)); first | done | fail "chs"))) (fun hHeld => ?_)
            clear hK K
            (try simp only [Act.put, List.setIfInBounds_toArray, List.set_cons_zero, List.set_cons_succ])
            refine wpAnyH_done (by kernel_rfl) ?_ _
            obtain ⟨WB, eWB⟩ : ∃ E, E = (WA.alloc (.cells #[.slice (some ⟨b, off + k, none⟩) (x.ns.length - k) (cx - k), .slice (qx.map (fun a => a.add k)) (x.es.length - k) (dx - k)] 25)).drew := ⟨_, rfl⟩
            have rAB : Below WA.heap.size WA WB := by rw [eWB]; exact ((Below.refl _ _).alloc (Nat.le_refl _) _).drew
            have zB : WA.heap.size < WB.heap.size := by rw [eWB]; show WA.heap.size < (WA.alloc _).heap.size; simp
            have HCB := Lib.hid (show WB.cell? ⟨WA.heap.size, 0, none⟩ = some (.slice (some ⟨b, off + k, none⟩) (x.ns.length - k) (cx - k)) ∧ WB.cell? ⟨WA.heap.size, 1, none⟩ = some (.slice (qx.map (fun a => a.add k)) (x.es.length - k) (dx - k)) by rw [eWB]; exact ⟨by simp [go_sem], by simp [go_sem]⟩)
            rw [← eWB]
            clear eWB y0 y1 y2 y3 hHeld
            have rB : Below W.heap.size W WB := rwA.trans (rAB.mono (by omega))
            have HQ := Lib.hid (fun (E : World) (hE : Below WB.heap.size WB E) => (show (E.cell? ⟨wr.heap.size, 0, none⟩ = some (.slice (some ⟨b, off, none⟩) (k + 1) cx) ∧ E.cell? ⟨wr.heap.size, 1, none⟩ = some (.slice qx k dx)) ∧ (E.cell? ⟨WA.heap.size, 0, none⟩ = some (.slice (some ⟨b, off + k, none⟩) (x.ns.length - k) (cx - k)) ∧ E.cell? ⟨WA.heap.size, 1, none⟩ = some (.slice (qx.map (fun a => a.add k)) (x.es.length - k) (dx - k))) ∧ (partA x k).At W.heap.size E (.agg #[.slice (some ⟨b, off, none⟩) (k + 1) cx, .slice qx k dx]) ∧ (partB x k).At W.heap.size E (.agg #[.slice (some ⟨b, off + k, none⟩) (x.ns.length - k) (cx - k), .slice (qx.map (fun a => a.add k)) (x.es.length - k) (dx - k)]) from
              ⟨⟨keepc (b := wr.heap.size) hE (by omega) (keepc rAB zA HCA.out.1), keepc (b := wr.heap.size) hE (by omega) (keepc rAB zA HCA.out.2)⟩, ⟨keepc hE zB HCB.out.1, keepc hE zB HCB.out.2⟩, partA_at (HA.out E (rB.trans (hE.mono (by omega)))).2 (by omega) hke, (by have hh := partB_at (k := k) (HA.out E (rB.trans (hE.mono (by omega)))).2 g5 hke; rw [map_add] at hh; exact hh)⟩))
            have rWB := Below.refl WB.heap.size WB
            have sB := rB.size
            have HPN := Lib.hid (show (partA x k).need ≤ 1048576 ∧ (partB x k).need ≤ 1048576 by have := HN.out; unfold partA partB; unfold Wk.need at *; simp only [List.length_take, List.length_drop]; omega)
            obtain ⟨⟨b0, b1⟩, ⟨b2, b3⟩, _, _⟩ := HQ.out _ rWB
            obtain ⟨⟨y0, y1⟩, y2, y3⟩ := HK.out _ rB
            go_wp2_with fail
            refine Calls.mono (joinWalks_any (partA x k) (partB x k) _ _ W.heap.size WB (HQ.out _ rWB).2.2.1 (HQ.out _ rWB).2.2.2 sB HPN.out.1 HPN.out.2) ?_
            rw [HPJ.out.1, HPJ.out.2]
            rintro e wj ⟨vj, Fj, rfl, hj, _, hb⟩
            obtain ⟨pj, cj, qj, dj, rfl⟩ := hj.form
            have HJ := Lib.hid hj
            have rwj : Below WB.heap.size WB wj := hb
            have swj := hb.size
            clear hj hb b0 b1 b2 b3 y0 y1 y2 y3
            go_upto_region 13 with fail
            obtain ⟨WJ, eWJ⟩ : ∃ E, E = wj.alloc (.cells #[.slice pj x.ns.length cj, .slice qj x.es.length dj] 25) := ⟨_, rfl⟩
            have rjJ : Below wj.heap.size wj WJ := by rw [eWJ]; exact (Below.refl _ _).alloc (Nat.le_refl _) _
            have zJ : wj.heap.size < WJ.heap.size := by rw [eWJ]; simp
            have HCJ := Lib.hid (show WJ.cell? ⟨wj.heap.size, 0, none⟩ = some (.slice pj x.ns.length cj) ∧ WJ.cell? ⟨wj.heap.size, 1, none⟩ = some (.slice qj x.es.length dj) by rw [eWJ]; exact ⟨by simp [go_sem], by simp [go_sem]⟩)
            rw [← eWJ]
            clear eWJ
            have rWJ : Below WB.heap.size WB WJ := rwj.trans (rjJ.mono swj)
            have HJJ := Lib.hid (fun (E : World) (hE : Below WJ.heap.size WJ E) => (show (E.cell? ⟨wj.heap.size, 0, none⟩ = some (.slice pj x.ns.length cj) ∧ E.cell? ⟨wj.heap.size, 1, none⟩ = some (.slice qj x.es.length dj)) ∧ x.At WJ.heap.size E (.agg #[.slice pj x.ns.length cj, .slice qj x.es.length dj]) from ⟨⟨keepc hE zJ HCJ.out.1, keepc hE zJ HCJ.out.2⟩, (HJ.out.at.to rjJ (Nat.le_refl _)).to (hE.mono (by omega)) (by omega)⟩))
            have jJ := Below.refl WJ.heap.size WJ
            obtain ⟨⟨b0, b1⟩, ⟨b2, b3⟩, _, _⟩ := HQ.out _ rWJ
            obtain ⟨⟨y0, y1⟩, y2, y3⟩ := HK.out _ (rB.trans (rWJ.mono (by omega)))
            have sJ := rWJ.size
            go_wp2_with fail
            refine Calls.mono (walkValid_any g (partA x k) _ _ W.heap.size WJ (HA.out _ (rB.trans (rWJ.mono (by omega)))).1 (HQ.out _ rWJ).2.2.1 (by omega) HOK.out HPN.out.1) ?_
            rw [HPA.out]
            rintro e wd ⟨rfl, hb⟩
            have jd : Below WJ.heap.size WJ wd := hb
            have hbwd := hb
            have zwd := hb.size
            have rwd : Below WB.heap.size WB wd := rWJ.trans (hb.mono rWJ.size)
            clear hb b0 b1 b2 b3 y0 y1 y2 y3
            obtain ⟨⟨b0, b1⟩, ⟨b2, b3⟩, _, _⟩ := HQ.out _ rwd
            obtain ⟨⟨y0, y1⟩, y2, y3⟩ := HK.out _ (rB.trans (rwd.mono (by omega)))
            go_wp2_with fail
            refine Calls.mono (walkValid_any g (partB x k) _ _ W.heap.size wd (HA.out _ (rB.trans (rwd.mono (by omega)))).1 (HQ.out _ rwd).2.2.2 (by omega) HOK.out HPN.out.2) ?_
            rw [HPB.out]
            rintro e we ⟨rfl, hb⟩
            have je : Below WJ.heap.size WJ we := jd.trans (hb.mono jd.size)
            obtain ⟨⟨j0, j1⟩, _⟩ := HJJ.out _ je
            have hbwe := hb
            have zwe := hb.size
            have rwe : Below WB.heap.size WB we := rwd.trans (hb.mono rwd.size)
            clear hb b0 b1 b2 b3 y0 y1 y2 y3
            obtain ⟨⟨b0, b1⟩, ⟨b2, b3⟩, _, _⟩ := HQ.out _ rwe
            obtain ⟨⟨y0, y1⟩, y2, y3⟩ := HK.out _ (rB.trans (rwe.mono (by omega)))
            go_wp2_with fail
            refine Calls.mono (walkSame_any x x _ _ we.heap.size we ((HJJ.out _ je).2.to (Below.refl _ _) je.size) ((HA.out _ (rB.trans (rwe.mono (by omega)))).2.to (Below.refl _ _) (by omega)) (Nat.le_refl _)) ?_
            rw [wkEq_refl]
            rintro e wf ⟨rfl, hb⟩
            have rwf : Below W.heap.size W wf := (rB.trans (rwe.mono (by omega))).trans (hb.mono (by omega))
            clear hb
            go_wp2_with fail
            go_roundw
            case rel => exact ⟨k + 1, by omega, by go_num, rwf⟩
            case measure => simp [intOf]; omega

        · have q0 : decide ((k : Int) < (x.ns.length : Int)) = false := decide_eq_false (by omega)
          go_upto_region 15 with fail
          refine wp_region_held_drew (S := fun w' => (w'.cell? ⟨wx.heap.size, 0, none⟩ = some (.slice pg g.ns.length cg) ∧ w'.cell? ⟨wx.heap.size, 1, none⟩ = some (.slice qg g.es.length dg)) ∧ w'.cell? ⟨wx.heap.size + 1, 0, none⟩ = some (.slice px x.ns.length cx) ∧ w'.cell? ⟨wx.heap.size + 1, 1, none⟩ = some (.slice qx x.es.length dx)) (by kernel_rfl) ?_ (fun hHeld => ?_)
          · exact HK.out _ (show Below W.heap.size W _ by ((repeat (first | with_reducible assumption | with_reducible exact Below.refl _ _ | refine Below.setCell ?_ (by (first | omega | (simp; omega) | (simp; done) | fail "sml")) _ | refine Below.drew ?_ | refine Below.alloc ?_ (by (first | omega | (simp; omega) | (simp; done) | fail "sml")) _)); first | done | fail "chs"))
          (refine takeL (i := 0) (v := ?_) rfl (by kernel_rfl) (by kernel_rfl) (by kernel_rfl) (fun _ _ _ h => h) (Or.inl ⟨by kernel_rfl, ?_⟩) (by assumption) ?_; rotate_left; (focus (intro w hSw; (try dsimp only at hSw); go_simp; first | done | with_reducible rfl | fail "take")); (try simp only [Act.put, List.setIfInBounds_toArray, List.set_cons_zero, List.set_cons_succ]))
          (refine takeL (i := 1) (v := ?_) rfl (by kernel_rfl) (by kernel_rfl) (by kernel_rfl) (fun _ _ _ h => h) (Or.inl ⟨by kernel_rfl, ?_⟩) (by assumption) ?_; rotate_left; (focus (intro w hSw; (try dsimp only at hSw); go_simp; first | done | with_reducible rfl | fail "take")); (try simp only [Act.put, List.setIfInBounds_toArray, List.set_cons_zero, List.set_cons_succ]))
          (refine callL (i := 2) rfl (by kernel_rfl) (by kernel_rfl) (fun K hK => ?_); go_simp)
          go_at_call 19
          refine Calls.mono (turnWalk_any x _ W.heap.size _ (HA.out _ (show Below W.heap.size W _ by ((repeat (first | with_reducible assumption | with_reducible exact Below.refl _ _ | refine Below.setCell ?_ (by (first | omega | (simp; omega) | (simp; done) | fail "sml")) _ | refine Below.drew ?_ | refine Below.alloc ?_ (by (first | omega | (simp; omega) | (simp; done) | fail "sml")) _)); first | done | fail "chs"))).2 ((show Below W.heap.size W _ by ((repeat (first | with_reducible assumption | with_reducible exact Below.refl _ _ | refine Below.setCell ?_ (by (first | omega | (simp; omega) | (simp; done) | fail "sml")) _ | refine Below.drew ?_ | refine Below.alloc ?_ (by (first | omega | (simp; omega) | (simp; done) | fail "sml")) _)); first | done | fail "chs"))).size HN.out) ?_
          rintro en wd ⟨vs, Fs, rfl, hs, _, hb⟩
          have rwd := Below.trans (show Below W.heap.size W _ by ((repeat (first | with_reducible assumption | with_reducible exact Below.refl _ _ | refine Below.setCell ?_ (by (first | omega | (simp; omega) | (simp; done) | fail "sml")) _ | refine Below.drew ?_ | refine Below.alloc ?_ (by (first | omega | (simp; omega) | (simp; done) | fail "sml")) _)); first | done | fail "chs")) (hb.mono (by (first | omega | (simp; omega) | (simp; done) | fail "sml")))
          have zwd := rwd.size
          obtain ⟨ps, cs, qs, ds, rfl⟩ := hs.form
          have HT := Lib.hid hs
          clear hs
          clear hb
          go_wp2_with fail
          refine hK.out _ _ (HK.out _ (show Below W.heap.size W _ by ((repeat (first | with_reducible assumption | with_reducible exact Below.refl _ _ | refine Below.setCell ?_ (by (first | omega | (simp; omega) | (simp; done) | fail "sml")) _ | refine Below.drew ?_ | refine Below.alloc ?_ (by (first | omega | (simp; omega) | (simp; done) | fail "sml")) _)); first | done | fail "chs"))) (fun hHeld => ?_)
          clear hK K
          (try simp only [Act.put, List.setIfInBounds_toArray, List.set_cons_zero, List.set_cons_succ])
          (refine callL (i := 3) rfl (by kernel_rfl) (by kernel_rfl) (fun K hK => ?_); go_simp)
          go_at_call 24
          refine Calls.mono (walkValid_any g (wkTurn x) _ _ wd.heap.size wd (((HA.out _ (show Below W.heap.size W _ by ((repeat (first | with_reducible assumption | with_reducible exact Below.refl _ _ | refine Below.setCell ?_ (by (first | omega | (simp; omega) | (simp; done) | fail "sml")) _ | refine Below.drew ?_ | refine Below.alloc ?_ (by (first | omega | (simp; omega) | (simp; done) | fail "sml")) _)); first | done | fail "chs"))).1).mono zwd) HT.out.at (Nat.le_refl _) HOK.out (by rw [wkTurn_need]; exact HN.out)) ?_
          rintro en we ⟨rfl, hb⟩
          have rwe := Below.trans (show Below W.heap.size W _ by ((repeat (first | with_reducible assumption | with_reducible exact Below.refl _ _ | refine Below.setCell ?_ (by (first | omega | (simp; omega) | (simp; done) | fail "sml")) _ | refine Below.drew ?_ | refine Below.alloc ?_ (by (first | omega | (simp; omega) | (simp; done) | fail "sml")) _)); first | done | fail "chs")) (hb.mono (by (first | omega | (simp; omega) | (simp; done) | fail "sml")))
          have zwe := rwe.size
          rw [turn_valid HV.out]
          clear hb
          go_wp2_with fail
          refine hK.out _ _ (HK.out _ (show Below W.heap.size W _ by ((repeat (first | with_reducible assumption | with_reducible exact Below.refl _ _ | refine Below.setCell ?_ (by (first | omega | (simp; omega) | (simp; done) | fail "sml")) _ | refine Below.drew ?_ | refine Below.alloc ?_ (by (first | omega | (simp; omega) | (simp; done) | fail "sml")) _)); first | done | fail "chs"))) (fun hHeld => ?_)
          clear hK K
          (try simp only [Act.put, List.setIfInBounds_toArray, List.set_cons_zero, List.set_cons_succ])
          (refine takeL (i := 4) (v := ?_) rfl (by kernel_rfl) (by kernel_rfl) (by kernel_rfl) (fun _ _ _ h => h) (Or.inl ⟨by kernel_rfl, ?_⟩) (by assumption) ?_; rotate_left; (focus (intro w hSw; (try dsimp only at hSw); go_simp; first | done | with_reducible rfl | fail "take")); (try simp only [Act.put, List.setIfInBounds_toArray, List.set_cons_zero, List.set_cons_succ]))
          refine wpAnyH_done (by kernel_rfl) ?_ _
          go_wp2_with fail
          go_ret
          exact ⟨rfl, HBW.out.trans ((show Below W.heap.size W _ by ((repeat (first | with_reducible assumption | with_reducible exact Below.refl _ _ | refine Below.setCell ?_ (by (first | omega | (simp; omega) | (simp; done) | fail "sml")) _ | refine Below.drew ?_ | refine Below.alloc ?_ (by (first | omega | (simp; omega) | (simp; done) | fail "sml")) _)); first | done | fail "chs")).mono (by omega))⟩
end Go.Proofs.Ytckmganhabgbfaa
