/- The walk of FnModeParts. -/
import Derived.Test.YtfdkmngkpihpbaaL5M
import Derived.Test.YtfdkmngkpihpbaaWkLaw
import Derived.Test.YtfdkmngkpihpbaaWkM3
import Derived.Test.YtfdkmngkpihpbaaWkM2
import Derived.Test.YtfdkmngkpihpbaaReg
namespace Go.Proofs.Ytfdkmngkpihpbaa
open Go.RowKit

theorem map_add (b off k : Nat) : (some (⟨b, off, none⟩ : Addr)).map (fun a => a.add k) = some ⟨b, off + k, none⟩ := by simp [Addr.add]
theorem Sl.dropm {α : Type} {enc : α → List Value} {B : Nat} {w : World} {p : Option Addr} {len cap : Nat} {xs : List α} (h : Sl 1 enc B w (.slice p len cap) xs) {k : Nat} (hk : k ≤ xs.length) : Sl 1 enc B w (.slice (p.map (fun a => a.add k)) (xs.length - k) (cap - k)) (xs.drop k) := by
  obtain ⟨p', len', cap', h1, h2, h3, h4, h5⟩ := h
  cases h1
  refine ⟨_, _, _, rfl, by simp, by omega, by omega, fun i hi => ?_⟩
  have hi' : k + i < xs.length := by simp at hi; omega
  obtain ⟨b', off', rfl, e2, e3⟩ := h5 (k + i) hi'
  refine ⟨b', off' + k, map_add _ _ _, e2, fun j y hy => ?_⟩
  rw [List.getElem_drop] at hy
  have := e3 j y hy
  rw [Nat.mul_one] at this ⊢
  rw [show off' + k + i + j = off' + (k + i) + j by omega]
  exact this
theorem partA_at {x : Wk} {B k n c l d : Nat} {E : World} {p q : Option Addr} (h : x.At B E (.agg #[.slice p n c, .slice q l d])) (h1 : k + 1 ≤ x.ns.length) (h2 : k ≤ x.es.length) : (partA x k).At B E (.agg #[.slice p (k + 1) c, .slice q k d]) := by
  obtain ⟨v0, v1, e, a1, a2⟩ := h
  cases e
  exact ⟨_, _, rfl, Sl.take a1 h1, Sl.take a2 h2⟩
theorem partB_at {x : Wk} {B k n c l d : Nat} {E : World} {p q : Option Addr} (h : x.At B E (.agg #[.slice p n c, .slice q l d])) (h1 : k ≤ x.ns.length) (h2 : k ≤ x.es.length) : (partB x k).At B E (.agg #[.slice (p.map (fun a => a.add k)) (x.ns.length - k) (c - k), .slice (q.map (fun a => a.add k)) (x.es.length - k) (d - k)]) := by
  obtain ⟨v0, v1, e, a1, a2⟩ := h
  cases e
  exact ⟨_, _, rfl, Sl.dropm a1 h1, Sl.dropm a2 h2⟩
theorem partB_at0 {x : Wk} {B k n c l d : Nat} {E : World} {p q : Option Addr} (h : x.At B E (.agg #[.slice p n c, .slice q l d])) (h1 : k ≤ x.ns.length) (h2 : x.es.length ≤ k) : (partB x k).At B E (.agg #[.slice (p.map (fun a => a.add k)) (x.ns.length - k) (c - k), .slice q 0 0]) := by
  obtain ⟨v0, v1, e, a1, a2⟩ := h
  cases e
  refine ⟨_, _, rfl, Sl.dropm a1 h1, ?_⟩
  show Sl 1 intCells B E (.slice q 0 0) (x.es.drop k)
  rw [List.drop_of_length_le h2]
  exact ⟨q, 0, 0, rfl, rfl, Nat.le_refl _, Nat.zero_le _, fun i hi => by simp at hi⟩

set_option maxRecDepth 100000 in
set_option maxHeartbeats 8000000 in
theorem lawModeParts (zs : List Int) (v : Value) (w : World) (hv : Sl 1 byCells w.heap.size w v zs) (hz : ∀ z ∈ zs, 0 ≤ z ∧ z ≤ 255) :
    Calls Try.prog 4 #[v] w fun e w' => e = .returned (.bool true) ∧ Below w.heap.size w w' := by
  obtain ⟨p, cap, rfl⟩ := hv.form
  have hm := hv.max
  unfold maxLen at hm
  by_cases hb : (1048576 : Int) < zs.length
  · go_enter Try.func4, Try.ntmps4
    go_wp2_with fail
    go_ret
    exact ⟨rfl, Below.refl _ _⟩
  · go_enter Try.func4, Try.ntmps4
    go_wp2_with fail
    refine (drawWalkMode_any zs _ w.heap.size _ hv (Nat.le_refl _) hz).mono ?_
    rintro e wx ⟨x, vx, Fx, m, rfl, hx, hb1⟩
    obtain ⟨px, cx, qx, dx, rfl⟩ := hx.1.form
    have HX := Lib.hid hx.1.at
    have HB1 := Lib.hid hb1
    have HN := Lib.hid (show x.need ≤ 1048576 by have := hx.2.2; omega)
    have HN2 := Lib.hid hx.2.2
    have s1 := hb1.size
    clear hx hb1 hv
    go_upto_region 4 with fail
    obtain ⟨W, eW⟩ : ∃ E, E = wx.alloc (.cells #[.slice px x.ns.length cx, .slice qx x.es.length dx] 25) := ⟨_, rfl⟩
    have s3 : wx.heap.size < W.heap.size := by rw [eW]; simp
    have hbW : Below wx.heap.size wx W := by rw [eW]; exact (Below.refl _ _).alloc (Nat.le_refl _) _
    have HC := Lib.hid (show W.cell? ⟨wx.heap.size, 0, none⟩ = some (.slice px x.ns.length cx) ∧ W.cell? ⟨wx.heap.size, 1, none⟩ = some (.slice qx x.es.length dx) by rw [eW]; exact ⟨by simp [go_sem], by simp [go_sem]⟩)
    rw [← eW]
    clear eW
    have HK := Lib.hid (fun (E : World) (hE : Below W.heap.size W E) => And.intro (keepc hE s3 HC.out.1) (keepc hE s3 HC.out.2))
    have HA := Lib.hid (fun (E : World) (hE : Below W.heap.size W E) => (show x.At W.heap.size E (.agg #[.slice px x.ns.length cx, .slice qx x.es.length dx]) from (HX.out.to hbW (Nat.le_refl _)).to (hE.mono (by omega)) (by omega)))
    have HBW := Lib.hid ((HB1.out.trans (hbW.mono s1)) : Below w.heap.size w W)
    clear hbW
    have r0 := Below.refl W.heap.size W
    obtain ⟨y0, y1⟩ := HK.out _ r0
    go_wp2_with fail
    refine Calls.mono (walkMode_any x m _ W.heap.size _ (HA.out _ (show Below W.heap.size W _ by ((repeat (first | with_reducible assumption | with_reducible exact Below.refl _ _ | refine Below.setCell ?_ (by (first | omega | (simp; omega) | (simp; done) | fail "sml")) _ | refine Below.drew ?_ | refine Below.alloc ?_ (by (first | omega | (simp; omega) | (simp; done) | fail "sml")) _)); first | done | fail "chs"))) (show Below W.heap.size W _ by ((repeat (first | with_reducible assumption | with_reducible exact Below.refl _ _ | refine Below.setCell ?_ (by (first | omega | (simp; omega) | (simp; done) | fail "sml")) _ | refine Below.drew ?_ | refine Below.alloc ?_ (by (first | omega | (simp; omega) | (simp; done) | fail "sml")) _)); first | done | fail "chs")).size HN.out) ?_
    rintro e wa ⟨rfl, hb⟩
    have rwa := Below.trans (show Below W.heap.size W _ by ((repeat (first | with_reducible assumption | with_reducible exact Below.refl _ _ | refine Below.setCell ?_ (by (first | omega | (simp; omega) | (simp; done) | fail "sml")) _ | refine Below.drew ?_ | refine Below.alloc ?_ (by (first | omega | (simp; omega) | (simp; done) | fail "sml")) _)); first | done | fail "chs")) (hb.mono (by (first | omega | (simp; omega) | (simp; done) | fail "sml")))
    have zwa := rwa.size
    clear hb y0 y1
    obtain ⟨y0, y1⟩ := HK.out _ rwa
    cases hmo : wkMode x m with
    | false =>
      go_wp2_with fail
      refine Calls.mono (specWalkMode_any x m _ W.heap.size _ (HA.out _ (show Below W.heap.size W _ by ((repeat (first | with_reducible assumption | with_reducible exact Below.refl _ _ | refine Below.setCell ?_ (by (first | omega | (simp; omega) | (simp; done) | fail "sml")) _ | refine Below.drew ?_ | refine Below.alloc ?_ (by (first | omega | (simp; omega) | (simp; done) | fail "sml")) _)); first | done | fail "chs"))) (show Below W.heap.size W _ by ((repeat (first | with_reducible assumption | with_reducible exact Below.refl _ _ | refine Below.setCell ?_ (by (first | omega | (simp; omega) | (simp; done) | fail "sml")) _ | refine Below.drew ?_ | refine Below.alloc ?_ (by (first | omega | (simp; omega) | (simp; done) | fail "sml")) _)); first | done | fail "chs")).size HN.out) ?_
      rintro e wb ⟨rfl, hb⟩
      have rwb := Below.trans (show Below W.heap.size W _ by ((repeat (first | with_reducible assumption | with_reducible exact Below.refl _ _ | refine Below.setCell ?_ (by (first | omega | (simp; omega) | (simp; done) | fail "sml")) _ | refine Below.drew ?_ | refine Below.alloc ?_ (by (first | omega | (simp; omega) | (simp; done) | fail "sml")) _)); first | done | fail "chs")) (hb.mono (by (first | omega | (simp; omega) | (simp; done) | fail "sml")))
      have zwb := rwb.size
      clear hb y0 y1
      obtain ⟨y0, y1⟩ := HK.out _ rwb
      rw [hmo]
      go_wp2_with fail

      refine Calls.mono (specWalkMode_any x m _ W.heap.size _ (HA.out _ (show Below W.heap.size W _ by ((repeat (first | with_reducible assumption | with_reducible exact Below.refl _ _ | refine Below.setCell ?_ (by (first | omega | (simp; omega) | (simp; done) | fail "sml")) _ | refine Below.drew ?_ | refine Below.alloc ?_ (by (first | omega | (simp; omega) | (simp; done) | fail "sml")) _)); first | done | fail "chs"))) (show Below W.heap.size W _ by ((repeat (first | with_reducible assumption | with_reducible exact Below.refl _ _ | refine Below.setCell ?_ (by (first | omega | (simp; omega) | (simp; done) | fail "sml")) _ | refine Below.drew ?_ | refine Below.alloc ?_ (by (first | omega | (simp; omega) | (simp; done) | fail "sml")) _)); first | done | fail "chs")).size HN.out) ?_
      rintro e wc1 ⟨rfl, hb⟩
      have rwc1 := Below.trans (show Below W.heap.size W _ by ((repeat (first | with_reducible assumption | with_reducible exact Below.refl _ _ | refine Below.setCell ?_ (by (first | omega | (simp; omega) | (simp; done) | fail "sml")) _ | refine Below.drew ?_ | refine Below.alloc ?_ (by (first | omega | (simp; omega) | (simp; done) | fail "sml")) _)); first | done | fail "chs")) (hb.mono (by (first | omega | (simp; omega) | (simp; done) | fail "sml")))
      have zwc1 := rwc1.size
      clear hb y0 y1
      obtain ⟨y0, y1⟩ := HK.out _ rwc1
      rw [hmo]
      go_wp2_with fail
      go_ret
      exact ⟨rfl, HBW.out.trans ((show Below W.heap.size W _ by ((repeat (first | with_reducible assumption | with_reducible exact Below.refl _ _ | refine Below.setCell ?_ (by (first | omega | (simp; omega) | (simp; done) | fail "sml")) _ | refine Below.drew ?_ | refine Below.alloc ?_ (by (first | omega | (simp; omega) | (simp; done) | fail "sml")) _)); first | done | fail "chs")).mono (by omega))⟩
    | true =>
      have HS := Lib.hid (wkShape_iff.1 (wkMode_iff.1 hmo).1)
      have HM := Lib.hid (fun k hk => part_modes (k := k) hmo hk)
      go_wp2_with fail
      refine Calls.mono (specWalkMode_any x m _ W.heap.size _ (HA.out _ (show Below W.heap.size W _ by ((repeat (first | with_reducible assumption | with_reducible exact Below.refl _ _ | refine Below.setCell ?_ (by (first | omega | (simp; omega) | (simp; done) | fail "sml")) _ | refine Below.drew ?_ | refine Below.alloc ?_ (by (first | omega | (simp; omega) | (simp; done) | fail "sml")) _)); first | done | fail "chs"))) (show Below W.heap.size W _ by ((repeat (first | with_reducible assumption | with_reducible exact Below.refl _ _ | refine Below.setCell ?_ (by (first | omega | (simp; omega) | (simp; done) | fail "sml")) _ | refine Below.drew ?_ | refine Below.alloc ?_ (by (first | omega | (simp; omega) | (simp; done) | fail "sml")) _)); first | done | fail "chs")).size HN.out) ?_
      rintro e wb ⟨rfl, hb⟩
      have rwb := Below.trans (show Below W.heap.size W _ by ((repeat (first | with_reducible assumption | with_reducible exact Below.refl _ _ | refine Below.setCell ?_ (by (first | omega | (simp; omega) | (simp; done) | fail "sml")) _ | refine Below.drew ?_ | refine Below.alloc ?_ (by (first | omega | (simp; omega) | (simp; done) | fail "sml")) _)); first | done | fail "chs")) (hb.mono (by (first | omega | (simp; omega) | (simp; done) | fail "sml")))
      have zwb := rwb.size
      clear hb y0 y1
      obtain ⟨y0, y1⟩ := HK.out _ rwb
      rw [hmo]
      go_wp2_with fail

      clear hmo
      go_loopw [6] (fun i wr => ∃ k : Nat, k ≤ x.ns.length ∧ i = .int .i64 k ∧ Below W.heap.size W wr) (fun i _ => x.ns.length - (intOf i).toNat)
      case atStart => exact ⟨0, Nat.zero_le _, rfl, by ((repeat (first | with_reducible assumption | with_reducible exact Below.refl _ _ | refine Below.setCell ?_ (by (first | omega | (simp; omega) | (simp; done) | fail "sml")) _ | refine Below.drew ?_ | refine Below.alloc ?_ (by (first | omega | (simp; omega) | (simp; done) | fail "sml")) _)); first | done | fail "chs")⟩
      case round =>
        clear y0 y1 rwa zwa rwb zwb
        obtain ⟨k, hk, rfl, hbr⟩ := hrel
        have zwr := hbr.size
        obtain ⟨y0, y1⟩ := HK.out _ hbr
        by_cases hlt : k < x.ns.length
        · have HP := Lib.hid (HM.out k hlt)
          have hke : k ≤ x.es.length := by have := HS.out.1; omega
          obtain ⟨v0, v1, e1, a1, a2⟩ := HA.out _ hbr
          cases e1
          obtain ⟨b, off, rfl, hbb, _⟩ := a1.it hlt
          have hmx := a1.max
          have hmy := a2.max
          unfold maxLen at hmx hmy
          have g1 : (k : Int) + 1 ≤ (cx : Int) := by omega
          have g2 : (k : Int) ≤ (dx : Int) := by omega
          have g3 : (k : Int) ≤ (x.ns.length : Int) := by omega
          have g4 : (k : Int) ≤ (x.es.length : Int) := by omega
          have g5 : k ≤ x.ns.length := by omega
          have g6 : k + 1 ≤ cx := by omega
          have g7 : k ≤ dx := by omega
          have g8 : (0 : Int) ≤ (k : Int) + 1 := by omega
          have g9 : IntKind.i64.wrap ((k : Int) + 1) = (k : Int) + 1 := by rw [IntKind.wrap_i64]; omega
          have q0 : (cx = k) = False := eq_false (by omega)
          have q1 : (cx - k = 0) = False := eq_false (by omega)
          clear a1 a2
          go_upto_region 10 with fail
          refine wp_region_held_drew (S := fun w' => w'.cell? ⟨wx.heap.size, 0, none⟩ = some (.slice (some ⟨b, off, none⟩) x.ns.length cx) ∧ w'.cell? ⟨wx.heap.size, 1, none⟩ = some (.slice qx x.es.length dx)) (by kernel_rfl) ?_ (fun hHeld => ?_)
          · exact HK.out _ (show Below W.heap.size W _ by ((repeat (first | with_reducible assumption | with_reducible exact Below.refl _ _ | refine Below.setCell ?_ (by (first | omega | (simp; omega) | (simp; done) | fail "sml")) _ | refine Below.drew ?_ | refine Below.alloc ?_ (by (first | omega | (simp; omega) | (simp; done) | fail "sml")) _)); first | done | fail "chs"))
          (refine takeL (i := 0) (v := ?_) rfl (by kernel_rfl) (by kernel_rfl) (by kernel_rfl) (fun _ _ _ h => h) (Or.inl ⟨by kernel_rfl, ?_⟩) (by assumption) ?_; rotate_left; (focus (intro w hSw; (try dsimp only at hSw); go_simp; first | done | with_reducible rfl | fail "take")); (try simp only [Act.put, List.setIfInBounds_toArray, List.set_cons_zero, List.set_cons_succ]))
          (refine takeL (i := 1) (v := ?_) rfl (by kernel_rfl) (by kernel_rfl) (by kernel_rfl) (fun _ _ _ h => h) (Or.inl ⟨by kernel_rfl, ?_⟩) (by assumption) ?_; rotate_left; (focus (intro w hSw; (try dsimp only at hSw); go_simp; first | done | with_reducible rfl | fail "take")); (try simp only [Act.put, List.setIfInBounds_toArray, List.set_cons_zero, List.set_cons_succ]))
          (refine takeL (i := 2) (v := ?_) rfl (by kernel_rfl) (by kernel_rfl) (by kernel_rfl) (fun _ _ _ h => h) (Or.inl ⟨by kernel_rfl, ?_⟩) (by assumption) ?_; rotate_left; (focus (intro w hSw; (try dsimp only at hSw); go_simp; first | done | with_reducible rfl | fail "take")); (try simp only [Act.put, List.setIfInBounds_toArray, List.set_cons_zero, List.set_cons_succ]))
          (refine takeL (i := 3) (v := ?_) rfl (by kernel_rfl) (by kernel_rfl) (by kernel_rfl) (fun _ _ _ h => h) (Or.inl ⟨by kernel_rfl, ?_⟩) (by assumption) ?_; rotate_left; (focus (intro w hSw; (try dsimp only at hSw); go_simp; first | done | with_reducible rfl | fail "take")); (try simp only [Act.put, List.setIfInBounds_toArray, List.set_cons_zero, List.set_cons_succ]))
          (refine takeL (i := 4) (v := ?_) rfl (by kernel_rfl) (by kernel_rfl) (by kernel_rfl) (fun _ _ _ h => h) (Or.inl ⟨by kernel_rfl, ?_⟩) (by assumption) ?_; rotate_left; (focus (intro w hSw; (try dsimp only at hSw); go_simp; first | done | with_reducible rfl | fail "take")); (try simp only [Act.put, List.setIfInBounds_toArray, List.set_cons_zero, List.set_cons_succ]))
          (refine takeL (i := 5) (v := ?_) rfl (by kernel_rfl) (by kernel_rfl) (by kernel_rfl) (fun _ _ _ h => h) (Or.inl ⟨by kernel_rfl, ?_⟩) (by assumption) ?_; rotate_left; (focus (intro w hSw; (try dsimp only at hSw); go_simp; first | done | with_reducible rfl | fail "take")); (try simp only [Act.put, List.setIfInBounds_toArray, List.set_cons_zero, List.set_cons_succ]))
          (refine takeL (i := 6) (v := ?_) rfl (by kernel_rfl) (by kernel_rfl) (by kernel_rfl) (fun _ _ _ h => h) (Or.inl ⟨by kernel_rfl, ?_⟩) (by assumption) ?_; rotate_left; (focus (intro w hSw; (try dsimp only at hSw); go_simp; first | done | with_reducible rfl | fail "take")); (try simp only [Act.put, List.setIfInBounds_toArray, List.set_cons_zero, List.set_cons_succ]))
          (refine takeL (i := 7) (v := ?_) rfl (by kernel_rfl) (by kernel_rfl) (by kernel_rfl) (fun _ _ _ h => h) (Or.inl ⟨by kernel_rfl, ?_⟩) (by assumption) ?_; rotate_left; (focus (intro w hSw; (try dsimp only at hSw); go_simp; first | done | with_reducible rfl | fail "take")); (try simp only [Act.put, List.setIfInBounds_toArray, List.set_cons_zero, List.set_cons_succ]))
          (refine takeL (i := 8) (v := ?_) rfl (by kernel_rfl) (by kernel_rfl) (by kernel_rfl) (fun _ _ _ h => h) (Or.inl ⟨by kernel_rfl, ?_⟩) (by assumption) ?_; rotate_left; (focus (intro w hSw; (try dsimp only at hSw); go_simp; first | done | with_reducible rfl | fail "take")); (try simp only [Act.put, List.setIfInBounds_toArray, List.set_cons_zero, List.set_cons_succ]))
          (refine takeL (i := 9) (v := ?_) rfl (by kernel_rfl) (by kernel_rfl) (by kernel_rfl) (fun _ _ _ h => h) (Or.inl ⟨by kernel_rfl, ?_⟩) (by assumption) ?_; rotate_left; (focus (intro w hSw; (try dsimp only at hSw); go_simp; first | done | with_reducible rfl | fail "take")); (try simp only [Act.put, List.setIfInBounds_toArray, List.set_cons_zero, List.set_cons_succ]))
          (refine callL (i := 10) rfl (by kernel_rfl) (by kernel_rfl) (fun K hK => ?_); go_simp)
          refine hK.out _ _ (HK.out _ (show Below W.heap.size W _ by ((repeat (first | with_reducible assumption | with_reducible exact Below.refl _ _ | refine Below.setCell ?_ (by (first | omega | (simp; omega) | (simp; done) | fail "sml")) _ | refine Below.drew ?_ | refine Below.alloc ?_ (by (first | omega | (simp; omega) | (simp; done) | fail "sml")) _)); first | done | fail "chs"))) (fun hHeld => ?_)
          clear hK K
          (try simp only [Act.put, List.setIfInBounds_toArray, List.set_cons_zero, List.set_cons_succ])
          (refine callL (i := 11) rfl (by kernel_rfl) (by kernel_rfl) (fun K hK => ?_); go_simp)
          refine hK.out _ _ (HK.out _ (show Below W.heap.size W _ by ((repeat (first | with_reducible assumption | with_reducible exact Below.refl _ _ | refine Below.setCell ?_ (by (first | omega | (simp; omega) | (simp; done) | fail "sml")) _ | refine Below.drew ?_ | refine Below.alloc ?_ (by (first | omega | (simp; omega) | (simp; done) | fail "sml")) _)); first | done | fail "chs"))) (fun hHeld => ?_)
          clear hK K
          (try simp only [Act.put, List.setIfInBounds_toArray, List.set_cons_zero, List.set_cons_succ])
          refine wpAnyH_done (by kernel_rfl) ?_ _

          obtain ⟨WA, eWA⟩ : ∃ E, E = (wr.alloc (.cells #[.slice (some ⟨b, off, none⟩) (k + 1) cx, .slice qx k dx] 25)).drew := ⟨_, rfl⟩
          have rA : Below wr.heap.size wr WA := by rw [eWA]; exact ((Below.refl _ _).alloc (Nat.le_refl _) _).drew
          have zA : wr.heap.size < WA.heap.size := by rw [eWA]; show wr.heap.size < (wr.alloc _).heap.size; simp
          have HCA := Lib.hid (show WA.cell? ⟨wr.heap.size, 0, none⟩ = some (.slice (some ⟨b, off, none⟩) (k + 1) cx) ∧ WA.cell? ⟨wr.heap.size, 1, none⟩ = some (.slice qx k dx) by rw [eWA]; exact ⟨by simp [go_sem], by simp [go_sem]⟩)
          go_upto_region 11 with fail
          rw [← eWA]
          clear eWA y0 y1
          have rwA := Below.trans hbr (rA.mono zwr)
          obtain ⟨y0, y1⟩ := HK.out _ rwA
          by_cases hd : dx = k
          · subst hd
            go_upto_region 11 with fail
            refine wp_region_held_drew (S := fun w' => w'.cell? ⟨wx.heap.size, 0, none⟩ = some (.slice (some ⟨b, off, none⟩) x.ns.length cx) ∧ w'.cell? ⟨wx.heap.size, 1, none⟩ = some (.slice qx x.es.length dx)) (by kernel_rfl) ?_ (fun hHeld => ?_)
            · exact HK.out _ (show Below W.heap.size W _ by ((repeat (first | with_reducible assumption | with_reducible exact Below.refl _ _ | refine Below.setCell ?_ (by (first | omega | (simp; omega) | (simp; done) | fail "sml")) _ | refine Below.drew ?_ | refine Below.alloc ?_ (by (first | omega | (simp; omega) | (simp; done) | fail "sml")) _)); first | done | fail "chs"))
            (refine takeL (i := 0) (v := ?_) rfl (by kernel_rfl) (by kernel_rfl) (by kernel_rfl) (fun _ _ _ h => h) (Or.inl ⟨by kernel_rfl, ?_⟩) (by assumption) ?_; rotate_left; (focus (intro w hSw; (try dsimp only at hSw); go_simp; first | done | with_reducible rfl | fail "take")); (try simp only [Act.put, List.setIfInBounds_toArray, List.set_cons_zero, List.set_cons_succ]))
            (refine takeL (i := 1) (v := ?_) rfl (by kernel_rfl) (by kernel_rfl) (by kernel_rfl) (fun _ _ _ h => h) (Or.inl ⟨by kernel_rfl, ?_⟩) (by assumption) ?_; rotate_left; (focus (intro w hSw; (try dsimp only at hSw); go_simp; first | done | with_reducible rfl | fail "take")); (try simp only [Act.put, List.setIfInBounds_toArray, List.set_cons_zero, List.set_cons_succ]))
            (refine takeL (i := 2) (v := ?_) rfl (by kernel_rfl) (by kernel_rfl) (by kernel_rfl) (fun _ _ _ h => h) (Or.inl ⟨by kernel_rfl, ?_⟩) (by assumption) ?_; rotate_left; (focus (intro w hSw; (try dsimp only at hSw); go_simp; first | done | with_reducible rfl | fail "take")); (try simp only [Act.put, List.setIfInBounds_toArray, List.set_cons_zero, List.set_cons_succ]))
            (refine takeL (i := 3) (v := ?_) rfl (by kernel_rfl) (by kernel_rfl) (by kernel_rfl) (fun _ _ _ h => h) (Or.inl ⟨by kernel_rfl, ?_⟩) (by assumption) ?_; rotate_left; (focus (intro w hSw; (try dsimp only at hSw); go_simp; first | done | with_reducible rfl | fail "take")); (try simp only [Act.put, List.setIfInBounds_toArray, List.set_cons_zero, List.set_cons_succ]))
            (refine takeL (i := 4) (v := ?_) rfl (by kernel_rfl) (by kernel_rfl) (by kernel_rfl) (fun _ _ _ h => h) (Or.inl ⟨by kernel_rfl, ?_⟩) (by assumption) ?_; rotate_left; (focus (intro w hSw; (try dsimp only at hSw); go_simp; first | done | with_reducible rfl | fail "take")); (try simp only [Act.put, List.setIfInBounds_toArray, List.set_cons_zero, List.set_cons_succ]))
            (refine takeL (i := 5) (v := ?_) rfl (by kernel_rfl) (by kernel_rfl) (by kernel_rfl) (fun _ _ _ h => h) (Or.inl ⟨by kernel_rfl, ?_⟩) (by assumption) ?_; rotate_left; (focus (intro w hSw; (try dsimp only at hSw); go_simp; first | done | with_reducible rfl | fail "take")); (try simp only [Act.put, List.setIfInBounds_toArray, List.set_cons_zero, List.set_cons_succ]))
            (refine takeL (i := 6) (v := ?_) rfl (by kernel_rfl) (by kernel_rfl) (by kernel_rfl) (fun _ _ _ h => h) (Or.inl ⟨by kernel_rfl, ?_⟩) (by assumption) ?_; rotate_left; (focus (intro w hSw; (try dsimp only at hSw); go_simp; first | done | with_reducible rfl | fail "take")); (try simp only [Act.put, List.setIfInBounds_toArray, List.set_cons_zero, List.set_cons_succ]))
            (refine takeL (i := 7) (v := ?_) rfl (by kernel_rfl) (by kernel_rfl) (by kernel_rfl) (fun _ _ _ h => h) (Or.inl ⟨by kernel_rfl, ?_⟩) (by assumption) ?_; rotate_left; (focus (intro w hSw; (try dsimp only at hSw); go_simp; first | done | with_reducible rfl | fail "take")); (try simp only [Act.put, List.setIfInBounds_toArray, List.set_cons_zero, List.set_cons_succ]))
            (refine takeL (i := 8) (v := ?_) rfl (by kernel_rfl) (by kernel_rfl) (by kernel_rfl) (fun _ _ _ h => h) (Or.inl ⟨by kernel_rfl, ?_⟩) (by assumption) ?_; rotate_left; (focus (intro w hSw; (try dsimp only at hSw); go_simp; first | done | with_reducible rfl | fail "take")); (try simp only [Act.put, List.setIfInBounds_toArray, List.set_cons_zero, List.set_cons_succ]))
            (refine callL (i := 9) rfl (by kernel_rfl) (by kernel_rfl) (fun K hK => ?_); go_simp)
            refine hK.out _ _ (HK.out _ (show Below W.heap.size W _ by ((repeat (first | with_reducible assumption | with_reducible exact Below.refl _ _ | refine Below.setCell ?_ (by (first | omega | (simp; omega) | (simp; done) | fail "sml")) _ | refine Below.drew ?_ | refine Below.alloc ?_ (by (first | omega | (simp; omega) | (simp; done) | fail "sml")) _)); first | done | fail "chs"))) (fun hHeld => ?_)
            clear hK K
            (try simp only [Act.put, List.setIfInBounds_toArray, List.set_cons_zero, List.set_cons_succ])
            (refine callL (i := 10) rfl (by kernel_rfl) (by kernel_rfl) (fun K hK => ?_); go_simp)
            refine hK.out _ _ (HK.out _ (show Below W.heap.size W _ by ((repeat (first | with_reducible assumption | with_reducible exact Below.refl _ _ | refine Below.setCell ?_ (by (first | omega | (simp; omega) | (simp; done) | fail "sml")) _ | refine Below.drew ?_ | refine Below.alloc ?_ (by (first | omega | (simp; omega) | (simp; done) | fail "sml")) _)); first | done | fail "chs"))) (fun hHeld => ?_)
            clear hK K
            (try simp only [Act.put, List.setIfInBounds_toArray, List.set_cons_zero, List.set_cons_succ])
            refine wpAnyH_done (by kernel_rfl) ?_ _

            obtain ⟨WB, eWB⟩ : ∃ E, E = (WA.alloc (.cells #[.slice (some ⟨b, off + dx, none⟩) (x.ns.length - dx) (cx - dx), .slice qx 0 0] 25)).drew := ⟨_, rfl⟩
            have rAB : Below WA.heap.size WA WB := by rw [eWB]; exact ((Below.refl _ _).alloc (Nat.le_refl _) _).drew
            have zB : WA.heap.size < WB.heap.size := by rw [eWB]; show WA.heap.size < (WA.alloc _).heap.size; simp
            have HCB := Lib.hid (show WB.cell? ⟨WA.heap.size, 0, none⟩ = some (.slice (some ⟨b, off + dx, none⟩) (x.ns.length - dx) (cx - dx)) ∧ WB.cell? ⟨WA.heap.size, 1, none⟩ = some (.slice qx 0 0) by rw [eWB]; exact ⟨by simp [go_sem], by simp [go_sem]⟩)
            rw [← eWB]
            clear eWB y0 y1 hHeld
            have rB : Below W.heap.size W WB := rwA.trans (rAB.mono (by omega))
            have HQ := Lib.hid (fun (E : World) (hE : Below WB.heap.size WB E) => (show (E.cell? ⟨wr.heap.size, 0, none⟩ = some (.slice (some ⟨b, off, none⟩) (dx + 1) cx) ∧ E.cell? ⟨wr.heap.size, 1, none⟩ = some (.slice qx dx dx)) ∧ (E.cell? ⟨WA.heap.size, 0, none⟩ = some (.slice (some ⟨b, off + dx, none⟩) (x.ns.length - dx) (cx - dx)) ∧ E.cell? ⟨WA.heap.size, 1, none⟩ = some (.slice qx 0 0)) ∧ (partA x dx).At W.heap.size E (.agg #[.slice (some ⟨b, off, none⟩) (dx + 1) cx, .slice qx dx dx]) ∧ (partB x dx).At W.heap.size E (.agg #[.slice (some ⟨b, off + dx, none⟩) (x.ns.length - dx) (cx - dx), .slice qx 0 0]) from
              ⟨⟨keepc (b := wr.heap.size) hE (by omega) (keepc rAB zA HCA.out.1), keepc (b := wr.heap.size) hE (by omega) (keepc rAB zA HCA.out.2)⟩, ⟨keepc hE zB HCB.out.1, keepc hE zB HCB.out.2⟩, partA_at (HA.out E (rB.trans (hE.mono (by omega)))) (by omega) hke, (by have hh := partB_at0 (k := dx) (HA.out E (rB.trans (hE.mono (by omega)))) g5 (by omega); rw [map_add] at hh; exact hh)⟩))
            have rB0 := Below.refl WB.heap.size WB
            have HPN := Lib.hid (show (partA x dx).need ≤ 1048576 ∧ (partB x dx).need ≤ 1048576 by have := HN.out; unfold partA partB; unfold Wk.need at *; simp only [List.length_take, List.length_drop]; omega)
            obtain ⟨⟨b0, b1⟩, ⟨b2, b3⟩, _, _⟩ := HQ.out _ rB0
            go_wp2_with fail
            refine Calls.mono (walkMode_any (partA x dx) m _ W.heap.size WB (HQ.out _ rB0).2.2.1 rB.size HPN.out.1) ?_
            rintro e wd ⟨rfl, hb⟩
            have hbd := hb.size
            have rwd : Below WB.heap.size WB wd := hb
            clear hb b0 b1 b2 b3
            obtain ⟨⟨b0, b1⟩, ⟨b2, b3⟩, _, _⟩ := HQ.out _ rwd
            rw [HP.out.1]
            go_wp2_with fail
            refine Calls.mono (walkMode_any (partB x dx) m _ W.heap.size wd (HQ.out _ rwd).2.2.2 (by have := rB.size; omega) HPN.out.2) ?_
            rintro e we ⟨rfl, hb⟩
            have rwe : Below W.heap.size W we := (rB.trans (rwd.mono (by omega))).trans (hb.mono (by have := rB.size; omega))
            rw [HP.out.2]
            clear hb
            go_wp2_with fail
            go_roundw
            case rel => exact ⟨dx + 1, by omega, by go_num, rwe⟩
            case measure => simp [intOf]; omega
          · have q2 : (dx = k) = False := eq_false hd
            go_upto_region 11 with fail
            refine wp_region_held_drew (S := fun w' => w'.cell? ⟨wx.heap.size, 0, none⟩ = some (.slice (some ⟨b, off, none⟩) x.ns.length cx) ∧ w'.cell? ⟨wx.heap.size, 1, none⟩ = some (.slice qx x.es.length dx)) (by kernel_rfl) ?_ (fun hHeld => ?_)
            · exact HK.out _ (show Below W.heap.size W _ by ((repeat (first | with_reducible assumption | with_reducible exact Below.refl _ _ | refine Below.setCell ?_ (by (first | omega | (simp; omega) | (simp; done) | fail "sml")) _ | refine Below.drew ?_ | refine Below.alloc ?_ (by (first | omega | (simp; omega) | (simp; done) | fail "sml")) _)); first | done | fail "chs"))
            (refine takeL (i := 0) (v := ?_) rfl (by kernel_rfl) (by kernel_rfl) (by kernel_rfl) (fun _ _ _ h => h) (Or.inl ⟨by kernel_rfl, ?_⟩) (by assumption) ?_; rotate_left; (focus (intro w hSw; (try dsimp only at hSw); go_simp; first | done | with_reducible rfl | fail "take")); (try simp only [Act.put, List.setIfInBounds_toArray, List.set_cons_zero, List.set_cons_succ]))
            (refine takeL (i := 1) (v := ?_) rfl (by kernel_rfl) (by kernel_rfl) (by kernel_rfl) (fun _ _ _ h => h) (Or.inl ⟨by kernel_rfl, ?_⟩) (by assumption) ?_; rotate_left; (focus (intro w hSw; (try dsimp only at hSw); go_simp; first | done | with_reducible rfl | fail "take")); (try simp only [Act.put, List.setIfInBounds_toArray, List.set_cons_zero, List.set_cons_succ]))
            (refine takeL (i := 2) (v := ?_) rfl (by kernel_rfl) (by kernel_rfl) (by kernel_rfl) (fun _ _ _ h => h) (Or.inl ⟨by kernel_rfl, ?_⟩) (by assumption) ?_; rotate_left; (focus (intro w hSw; (try dsimp only at hSw); go_simp; first | done | with_reducible rfl | fail "take")); (try simp only [Act.put, List.setIfInBounds_toArray, List.set_cons_zero, List.set_cons_succ]))
            (refine takeL (i := 3) (v := ?_) rfl (by kernel_rfl) (by kernel_rfl) (by kernel_rfl) (fun _ _ _ h => h) (Or.inl ⟨by kernel_rfl, ?_⟩) (by assumption) ?_; rotate_left; (focus (intro w hSw; (try dsimp only at hSw); go_simp; first | done | with_reducible rfl | fail "take")); (try simp only [Act.put, List.setIfInBounds_toArray, List.set_cons_zero, List.set_cons_succ]))
            (refine takeL (i := 4) (v := ?_) rfl (by kernel_rfl) (by kernel_rfl) (by kernel_rfl) (fun _ _ _ h => h) (Or.inl ⟨by kernel_rfl, ?_⟩) (by assumption) ?_; rotate_left; (focus (intro w hSw; (try dsimp only at hSw); go_simp; first | done | with_reducible rfl | fail "take")); (try simp only [Act.put, List.setIfInBounds_toArray, List.set_cons_zero, List.set_cons_succ]))
            (refine takeL (i := 5) (v := ?_) rfl (by kernel_rfl) (by kernel_rfl) (by kernel_rfl) (fun _ _ _ h => h) (Or.inl ⟨by kernel_rfl, ?_⟩) (by assumption) ?_; rotate_left; (focus (intro w hSw; (try dsimp only at hSw); go_simp; first | done | with_reducible rfl | fail "take")); (try simp only [Act.put, List.setIfInBounds_toArray, List.set_cons_zero, List.set_cons_succ]))
            (refine takeL (i := 6) (v := ?_) rfl (by kernel_rfl) (by kernel_rfl) (by kernel_rfl) (fun _ _ _ h => h) (Or.inl ⟨by kernel_rfl, ?_⟩) (by assumption) ?_; rotate_left; (focus (intro w hSw; (try dsimp only at hSw); go_simp; first | done | with_reducible rfl | fail "take")); (try simp only [Act.put, List.setIfInBounds_toArray, List.set_cons_zero, List.set_cons_succ]))
            (refine takeL (i := 7) (v := ?_) rfl (by kernel_rfl) (by kernel_rfl) (by kernel_rfl) (fun _ _ _ h => h) (Or.inl ⟨by kernel_rfl, ?_⟩) (by assumption) ?_; rotate_left; (focus (intro w hSw; (try dsimp only at hSw); go_simp; first | done | with_reducible rfl | fail "take")); (try simp only [Act.put, List.setIfInBounds_toArray, List.set_cons_zero, List.set_cons_succ]))
            (refine takeL (i := 8) (v := ?_) rfl (by kernel_rfl) (by kernel_rfl) (by kernel_rfl) (fun _ _ _ h => h) (Or.inl ⟨by kernel_rfl, ?_⟩) (by assumption) ?_; rotate_left; (focus (intro w hSw; (try dsimp only at hSw); go_simp; first | done | with_reducible rfl | fail "take")); (try simp only [Act.put, List.setIfInBounds_toArray, List.set_cons_zero, List.set_cons_succ]))
            (refine callL (i := 9) rfl (by kernel_rfl) (by kernel_rfl) (fun K hK => ?_); go_simp)
            refine hK.out _ _ (HK.out _ (show Below W.heap.size W _ by ((repeat (first | with_reducible assumption | with_reducible exact Below.refl _ _ | refine Below.setCell ?_ (by (first | omega | (simp; omega) | (simp; done) | fail "sml")) _ | refine Below.drew ?_ | refine Below.alloc ?_ (by (first | omega | (simp; omega) | (simp; done) | fail "sml")) _)); first | done | fail "chs"))) (fun hHeld => ?_)
            clear hK K
            (try simp only [Act.put, List.setIfInBounds_toArray, List.set_cons_zero, List.set_cons_succ])
            (refine callL (i := 10) rfl (by kernel_rfl) (by kernel_rfl) (fun K hK => ?_); go_simp)
            refine hK.out _ _ (HK.out _ (show Below W.heap.size W _ by ((repeat (first | with_reducible assumption | with_reducible exact Below.refl _ _ | refine Below.setCell ?_ (by (first | omega | (simp; omega) | (simp; done) | fail "sml")) _ | refine Below.drew ?_ | refine Below.alloc ?_ (by (first | omega | (simp; omega) | (simp; done) | fail "sml")) _)); first | done | fail "chs"))) (fun hHeld => ?_)
            clear hK K
            (try simp only [Act.put, List.setIfInBounds_toArray, List.set_cons_zero, List.set_cons_succ])
            refine wpAnyH_done (by kernel_rfl) ?_ _

            obtain ⟨WB, eWB⟩ : ∃ E, E = (WA.alloc (.cells #[.slice (some ⟨b, off + k, none⟩) (x.ns.length - k) (cx - k), .slice (qx.map (fun a => a.add k)) (x.es.length - k) (dx - k)] 25)).drew := ⟨_, rfl⟩
            have rAB : Below WA.heap.size WA WB := by rw [eWB]; exact ((Below.refl _ _).alloc (Nat.le_refl _) _).drew
            have zB : WA.heap.size < WB.heap.size := by rw [eWB]; show WA.heap.size < (WA.alloc _).heap.size; simp
            have HCB := Lib.hid (show WB.cell? ⟨WA.heap.size, 0, none⟩ = some (.slice (some ⟨b, off + k, none⟩) (x.ns.length - k) (cx - k)) ∧ WB.cell? ⟨WA.heap.size, 1, none⟩ = some (.slice (qx.map (fun a => a.add k)) (x.es.length - k) (dx - k)) by rw [eWB]; exact ⟨by simp [go_sem], by simp [go_sem]⟩)
            rw [← eWB]
            clear eWB y0 y1 hHeld
            have rB : Below W.heap.size W WB := rwA.trans (rAB.mono (by omega))
            have HQ := Lib.hid (fun (E : World) (hE : Below WB.heap.size WB E) => (show (E.cell? ⟨wr.heap.size, 0, none⟩ = some (.slice (some ⟨b, off, none⟩) (k + 1) cx) ∧ E.cell? ⟨wr.heap.size, 1, none⟩ = some (.slice qx k dx)) ∧ (E.cell? ⟨WA.heap.size, 0, none⟩ = some (.slice (some ⟨b, off + k, none⟩) (x.ns.length - k) (cx - k)) ∧ E.cell? ⟨WA.heap.size, 1, none⟩ = some (.slice (qx.map (fun a => a.add k)) (x.es.length - k) (dx - k))) ∧ (partA x k).At W.heap.size E (.agg #[.slice (some ⟨b, off, none⟩) (k + 1) cx, .slice qx k dx]) ∧ (partB x k).At W.heap.size E (.agg #[.slice (some ⟨b, off + k, none⟩) (x.ns.length - k) (cx - k), .slice (qx.map (fun a => a.add k)) (x.es.length - k) (dx - k)]) from
              ⟨⟨keepc (b := wr.heap.size) hE (by omega) (keepc rAB zA HCA.out.1), keepc (b := wr.heap.size) hE (by omega) (keepc rAB zA HCA.out.2)⟩, ⟨keepc hE zB HCB.out.1, keepc hE zB HCB.out.2⟩, partA_at (HA.out E (rB.trans (hE.mono (by omega)))) (by omega) hke, (by have hh := partB_at (k := k) (HA.out E (rB.trans (hE.mono (by omega)))) g5 hke; rw [map_add] at hh; exact hh)⟩))
            have rB0 := Below.refl WB.heap.size WB
            have HPN := Lib.hid (show (partA x k).need ≤ 1048576 ∧ (partB x k).need ≤ 1048576 by have := HN.out; unfold partA partB; unfold Wk.need at *; simp only [List.length_take, List.length_drop]; omega)
            obtain ⟨⟨b0, b1⟩, ⟨b2, b3⟩, _, _⟩ := HQ.out _ rB0
            go_wp2_with fail
            refine Calls.mono (walkMode_any (partA x k) m _ W.heap.size WB (HQ.out _ rB0).2.2.1 rB.size HPN.out.1) ?_
            rintro e wd ⟨rfl, hb⟩
            have hbd := hb.size
            have rwd : Below WB.heap.size WB wd := hb
            clear hb b0 b1 b2 b3
            obtain ⟨⟨b0, b1⟩, ⟨b2, b3⟩, _, _⟩ := HQ.out _ rwd
            rw [HP.out.1]
            go_wp2_with fail
            refine Calls.mono (walkMode_any (partB x k) m _ W.heap.size wd (HQ.out _ rwd).2.2.2 (by have := rB.size; omega) HPN.out.2) ?_
            rintro e we ⟨rfl, hb⟩
            have rwe : Below W.heap.size W we := (rB.trans (rwd.mono (by omega))).trans (hb.mono (by have := rB.size; omega))
            rw [HP.out.2]
            clear hb
            go_wp2_with fail
            go_roundw
            case rel => exact ⟨k + 1, by omega, by go_num, rwe⟩
            case measure => simp [intOf]; omega
        · go_wp2_with fail
          go_ret
          exact ⟨rfl, HBW.out.trans (hbr.mono (by omega))⟩
end Go.Proofs.Ytfdkmngkpihpbaa
