/- The walk of FnJoinWalks. -/
import Derived.Test.YtchhobphockhhaaL5J
import Derived.Test.YtchhobphockhhaaWkLaw
import Derived.Test.YtchhobphockhhaaWkJ
import Derived.Test.YtchhobphockhhaaWkJ3
import Derived.Test.YtchhobphockhhaaWkB
import Derived.Test.YtchhobphockhhaaWkT2
import Derived.Test.YtchhobphockhhaaReg
namespace Go.Proofs.Ytchhobphockhhaa
open Go.RowKit
theorem join_need (a b : Wk) : (wkJoin a b).need ≤ a.need + b.need := by
  unfold wkJoin
  split
  · unfold Wk.need; simp; omega
  · unfold Wk.need; simp
/-- A variable that holds a walk that reads as y. -/
def Var2 (y : Wk) (b lo : Nat) (w : World) : Prop :=
  ∃ p c q d, (w.cell? ⟨b, 0, none⟩ = some (.slice p y.ns.length c) ∧ w.cell? ⟨b, 1, none⟩ = some (.slice q y.es.length d)) ∧ y.At w.heap.size w (.agg #[.slice p y.ns.length c, .slice q y.es.length d]) ∧ lo ≤ b ∧ b < w.heap.size
theorem Var2.mk {y : Wk} {b lo : Nat} {c d : Nat} {U : World} {p q : Option Addr} {F : List Nat} (nv : NewVar b U) (o : y.Has (.agg #[.slice p y.ns.length c, .slice q y.es.length d]) F U) (n : ∀ z ∈ F, z ≠ b) (hb : lo ≤ b) :
    Var2 y b lo ((U.setCell ⟨b, 0, none⟩ (.slice p y.ns.length c)).setCell ⟨b, 1, none⟩ (.slice q y.es.length d)) := by
  have hs : Chg [b] U ((U.setCell ⟨b, 0, none⟩ (.slice p y.ns.length c)).setCell ⟨b, 1, none⟩ (.slice q y.es.length d)) := ((Chg.refl _ _).setCell (by simp) _).setCell (by simp) _
  refine ⟨p, c, q, d, ⟨?_, ?_⟩, (o.chg hs (fun z hz hm => n z hz (by simpa using hm))).at, hb, by simpa using nv.1⟩
  · rw [set_near _ _ _ _ _ (by omega)]; exact set_same _ _ _ _ _ nv.2.1
  · exact set_same _ _ _ (.slice none 0 0) _ ((set_near _ _ _ _ _ (by omega)).trans nv.2.2.1)

set_option maxRecDepth 100000 in
set_option maxHeartbeats 16000000 in
theorem lawJoinWalks (zs : List Int) (v : Value) (w : World) (hv : Sl 1 byCells w.heap.size w v zs) (hz : ∀ z ∈ zs, 0 ≤ z ∧ z ≤ 255) :
    Calls Try.prog 3 #[v] w fun e w' => e = .returned (.bool true) ∧ Below w.heap.size w w' := by
  obtain ⟨p, cap, rfl⟩ := hv.form
  have hm := hv.max
  unfold maxLen at hm
  by_cases hb : (1048576 : Int) < zs.length
  · go_enter Try.func3, Try.ntmps3
    go_wp2_with fail
    go_ret
    exact ⟨rfl, Below.refl _ _⟩
  · go_enter Try.func3, Try.ntmps3
    go_wp2_with fail
    refine (drawJoinWalks_any zs _ w.heap.size _ hv (Nat.le_refl _) hz).mono ?_
    rintro e wx ⟨x, vx, Fx, y, vy, Fy, rfl, hx, hy, hb1⟩
    clear hv
    obtain ⟨px, cx, qx, dx, rfl⟩ := hx.1.form
    obtain ⟨py, cy, qy, dy, rfl⟩ := hy.1.form
    have HX := Lib.hid hx.1.at
    have HY := Lib.hid hy.1.at
    have HB1 := Lib.hid hb1
    have HN40 := Lib.hid (show x.need ≤ 40 ∧ y.need ≤ 40 from ⟨hx.2.2, hy.2.2⟩)
    have HNx := Lib.hid (show x.need ≤ 1048576 by have := hx.2.2; omega)
    have HNy := Lib.hid (show y.need ≤ 1048576 by have := hy.2.2; omega)
    have s1 := hb1.size
    clear hx hy hb1
    go_upto_region 4 with fail
    obtain ⟨W, eW⟩ : ∃ E, E = (wx.alloc (.cells #[.slice px x.ns.length cx, .slice qx x.es.length dx] 25)).alloc (.cells #[.slice py y.ns.length cy, .slice qy y.es.length dy] 25) := ⟨_, rfl⟩
    have s3 : wx.heap.size + 1 < W.heap.size := by rw [eW]; simp
    have hbW : Below wx.heap.size wx W := by rw [eW]; exact ((Below.refl _ _).alloc (Nat.le_refl _) _).alloc (by simp) _
    have HC := Lib.hid (show (W.cell? ⟨wx.heap.size, 0, none⟩ = some (.slice px x.ns.length cx) ∧ W.cell? ⟨wx.heap.size, 1, none⟩ = some (.slice qx x.es.length dx)) ∧ (W.cell? ⟨wx.heap.size + 1, 0, none⟩ = some (.slice py y.ns.length cy) ∧ W.cell? ⟨wx.heap.size + 1, 1, none⟩ = some (.slice qy y.es.length dy)) by rw [eW]; exact ⟨⟨by simp [go_sem], by simp [go_sem]⟩, by simp [go_sem], by simp [go_sem]⟩)
    rw [← eW]
    clear eW
    have HK := Lib.hid (fun (E : World) (hE : Below W.heap.size W E) => And.intro (And.intro (And.intro (keepc (b := wx.heap.size) hE (by omega) HC.out.1.1) (keepc (b := wx.heap.size) hE (by omega) HC.out.1.2)) (show x.At W.heap.size E (.agg #[.slice px x.ns.length cx, .slice qx x.es.length dx]) from (HX.out.to hbW (Nat.le_refl _)).to (hE.mono (by omega)) (by omega))) (And.intro (And.intro (keepc hE s3 HC.out.2.1) (keepc hE s3 HC.out.2.2)) (show y.At W.heap.size E (.agg #[.slice py y.ns.length cy, .slice qy y.es.length dy]) from (HY.out.to hbW (Nat.le_refl _)).to (hE.mono (by omega)) (by omega))))
    have HBW := Lib.hid ((HB1.out.trans (hbW.mono s1)) : Below w.heap.size w W)
    clear hbW HC HX HY HB1
    have r0 := Below.refl W.heap.size W
    obtain ⟨⟨⟨y0a, y0b⟩, _⟩, ⟨y1a, y1b⟩, _⟩ := HK.out W (r0)
    obtain ⟨J, hJ⟩ : ∃ J, RowKit.Hid (J = wkJoin x y) := ⟨_, Lib.hid rfl⟩
    obtain ⟨O, hO⟩ : ∃ O, RowKit.Hid (O = joinOk x y) := ⟨_, Lib.hid rfl⟩
    go_wp2_with fail
    refine Calls.mono (joinWalks_any x y _ _ W.heap.size W (((HK.out W (r0)).1.2).to (Below.refl _ _) (by have := (r0).size; omega)) (((HK.out W (r0)).2.2).to (Below.refl _ _) (by have := (r0).size; omega)) (Nat.le_refl _) HNx.out HNy.out) ?_
    rw [← hJ.out, ← hO.out]
    rintro e wj ⟨vwj, Fwj, rfl, hwj, _, hb⟩
    obtain ⟨pwj, cwj, qwj, dwj, rfl⟩ := hwj.form
    have Hwj := Lib.hid hwj.at
    have rwj : Below W.heap.size W wj := (r0).trans (hb.mono (r0).size)
    have swj := rwj.size
    clear hwj hb
    clear y0a y0b y1a y1b
    go_upto_region 5 with fail
    obtain ⟨W5, eW5⟩ : ∃ E, E = wj.alloc (.cells #[.slice pwj J.ns.length cwj, .slice qwj J.es.length dwj] 25) := ⟨_, rfl⟩
    have lW5 : Below wj.heap.size wj W5 := by rw [eW5]; exact (Below.refl _ _).alloc (Nat.le_refl _) _
    have zW5 : wj.heap.size < W5.heap.size := by rw [eW5]; simp
    have CW5 := Lib.hid (show (W5.cell? ⟨wj.heap.size, 0, none⟩ = some (.slice pwj J.ns.length cwj) ∧ W5.cell? ⟨wj.heap.size, 1, none⟩ = some (.slice qwj J.es.length dwj)) by rw [eW5]; exact ⟨by simp [go_sem], by simp [go_sem]⟩)
    rw [← eW5]
    clear eW5
    have rW5 : Below W.heap.size W W5 := rwj.trans (lW5.mono swj)
    have sW5 := rW5.size
    have KW5 := Lib.hid (fun (E : World) (hE : Below W5.heap.size W5 E) => And.intro (HK.out E (rW5.trans (hE.mono sW5))) (show (E.cell? ⟨wj.heap.size, 0, none⟩ = some (.slice pwj J.ns.length cwj) ∧ E.cell? ⟨wj.heap.size, 1, none⟩ = some (.slice qwj J.es.length dwj)) ∧ (J : Wk).At W5.heap.size E (.agg #[.slice pwj J.ns.length cwj, .slice qwj J.es.length dwj]) from ⟨⟨keepc hE zW5 CW5.out.1, keepc hE zW5 CW5.out.2⟩, (Hwj.out.to lW5 (Nat.le_refl _)).to (hE.mono (by omega)) (by omega)⟩))
    have BW5 := Lib.hid ((HBW.out.trans (rW5.mono HBW.out.size)) : Below w.heap.size w W5)
    clear CW5 Hwj HBW rW5 lW5 rwj swj r0 HK
    have HBW := BW5
    clear BW5
    have r0 := Below.refl W5.heap.size W5
    obtain ⟨⟨⟨⟨y0a, y0b⟩, _⟩, ⟨y1a, y1b⟩, _⟩, ⟨y2a, y2b⟩, _⟩ := KW5.out W5 (r0)
    go_wp2_with fail
    refine Calls.mono (specJoinWalks_any x y _ _ W5.heap.size W5 (((KW5.out W5 (r0)).1.1.2).to (Below.refl _ _) (by have := (r0).size; omega)) (((KW5.out W5 (r0)).1.2.2).to (Below.refl _ _) (by have := (r0).size; omega)) (Nat.le_refl _) HNx.out HNy.out) ?_
    rw [← hJ.out, ← hO.out]
    rintro e wk ⟨vwk, Fwk, rfl, hwk, _, hb⟩
    obtain ⟨pwk, cwk, qwk, dwk, rfl⟩ := hwk.form
    have Hwk := Lib.hid hwk.at
    have rwk : Below W5.heap.size W5 wk := (r0).trans (hb.mono (r0).size)
    have swk := rwk.size
    clear hwk hb
    clear y0a y0b y1a y1b y2a y2b
    go_upto_region 6 with fail
    obtain ⟨W6, eW6⟩ : ∃ E, E = wk.alloc (.cells #[.slice pwk J.ns.length cwk, .slice qwk J.es.length dwk] 25) := ⟨_, rfl⟩
    have lW6 : Below wk.heap.size wk W6 := by rw [eW6]; exact (Below.refl _ _).alloc (Nat.le_refl _) _
    have zW6 : wk.heap.size < W6.heap.size := by rw [eW6]; simp
    have CW6 := Lib.hid (show (W6.cell? ⟨wk.heap.size, 0, none⟩ = some (.slice pwk J.ns.length cwk) ∧ W6.cell? ⟨wk.heap.size, 1, none⟩ = some (.slice qwk J.es.length dwk)) by rw [eW6]; exact ⟨by simp [go_sem], by simp [go_sem]⟩)
    rw [← eW6]
    clear eW6
    have rW6 : Below W5.heap.size W5 W6 := rwk.trans (lW6.mono swk)
    have sW6 := rW6.size
    have KW6 := Lib.hid (fun (E : World) (hE : Below W6.heap.size W6 E) => And.intro (KW5.out E (rW6.trans (hE.mono sW6))) (show (E.cell? ⟨wk.heap.size, 0, none⟩ = some (.slice pwk J.ns.length cwk) ∧ E.cell? ⟨wk.heap.size, 1, none⟩ = some (.slice qwk J.es.length dwk)) ∧ (J : Wk).At W6.heap.size E (.agg #[.slice pwk J.ns.length cwk, .slice qwk J.es.length dwk]) from ⟨⟨keepc hE zW6 CW6.out.1, keepc hE zW6 CW6.out.2⟩, (Hwk.out.to lW6 (Nat.le_refl _)).to (hE.mono (by omega)) (by omega)⟩))
    have BW6 := Lib.hid ((HBW.out.trans (rW6.mono HBW.out.size)) : Below w.heap.size w W6)
    clear CW6 Hwk HBW rW6 lW6 rwk swk r0 KW5
    have HBW := BW6
    clear BW6
    have r0 := Below.refl W6.heap.size W6
    obtain ⟨⟨⟨⟨⟨y0a, y0b⟩, _⟩, ⟨y1a, y1b⟩, _⟩, ⟨y2a, y2b⟩, _⟩, ⟨y3a, y3b⟩, _⟩ := KW6.out W6 (r0)
    cases O with
    | false =>
      clear hO
      go_wp2_with fail
      refine Calls.mono (walkSame_any J J _ _ W6.heap.size W6 (((KW6.out W6 (r0)).1.2.2).to (Below.refl _ _) (by have := (r0).size; omega)) (((KW6.out W6 (r0)).2.2).to (Below.refl _ _) (by have := (r0).size; omega)) (Nat.le_refl _)) ?_
      rw [wkEq_refl]
      rintro e wa ⟨rfl, hb⟩
      have rwa : Below W6.heap.size W6 wa := (r0).trans (hb.mono (r0).size)
      have swa := rwa.size
      clear hb
      clear y0a y0b y1a y1b y2a y2b y3a y3b
      obtain ⟨⟨⟨⟨⟨y0a, y0b⟩, _⟩, ⟨y1a, y1b⟩, _⟩, ⟨y2a, y2b⟩, _⟩, ⟨y3a, y3b⟩, _⟩ := KW6.out wa (rwa)
      go_wp2_with fail
      refine Calls.mono (walkSame_any J J _ _ wa.heap.size wa (((KW6.out wa (rwa)).1.2.2).to (Below.refl _ _) (by have := (rwa).size; omega)) (((KW6.out wa (rwa)).2.2).to (Below.refl _ _) (by have := (rwa).size; omega)) (Nat.le_refl _)) ?_
      rw [wkEq_refl]
      rintro e wb ⟨rfl, hb⟩
      have rwb : Below W6.heap.size W6 wb := (rwa).trans (hb.mono (rwa).size)
      have swb := rwb.size
      clear hb
      clear y0a y0b y1a y1b y2a y2b y3a y3b
      obtain ⟨⟨⟨⟨⟨y0a, y0b⟩, _⟩, ⟨y1a, y1b⟩, _⟩, ⟨y2a, y2b⟩, _⟩, ⟨y3a, y3b⟩, _⟩ := KW6.out wb (rwb)
      go_wp2_with fail
      go_ret
      exact ⟨rfl, HBW.out.trans ((rwb).mono HBW.out.size)⟩

    | true =>
      have HO := Lib.hid hO.out.symm
      have HJ := hJ
      clear hO hJ
      go_wp2_with fail
      refine Calls.mono (walkSame_any J J _ _ W6.heap.size W6 (((KW6.out W6 (r0)).1.2.2).to (Below.refl _ _) (by have := (r0).size; omega)) (((KW6.out W6 (r0)).2.2).to (Below.refl _ _) (by have := (r0).size; omega)) (Nat.le_refl _)) ?_
      rw [wkEq_refl]
      rintro e wa ⟨rfl, hb⟩
      have rwa : Below W6.heap.size W6 wa := (r0).trans (hb.mono (r0).size)
      have swa := rwa.size
      clear hb
      clear y0a y0b y1a y1b y2a y2b y3a y3b
      obtain ⟨g1, g2⟩ := wkShape_iff.1 (joinOk_iff.1 HO.out).1
      have hpx : 0 < x.ns.length := by omega
      obtain ⟨g3, g4⟩ := join_len HO.out
      rw [← HJ.out] at g3 g4
      have hpj : 0 < J.ns.length := by omega
      have HF := Lib.hid (show J.ns[0]'hpj = x.ns[0]'hpx by have := join_first HO.out (by rw [← HJ.out]; exact hpj) hpx; simp only [HJ.out]; exact this)
      have HT := Lib.hid (join_turn HO.out)
      rw [← HJ.out] at HT
      have hpx2 : (0 : Int) < (x.ns.length : Int) := by omega
      have hpj2 : (0 : Int) < (J.ns.length : Int) := by omega
      have hm1 := (joinOk_iff.1 HO.out).2.2.2
      have g5 : IntKind.i64.wrap ((x.es.length : Int) + (y.es.length : Int)) = (x.es.length : Int) + (y.es.length : Int) := by rw [IntKind.wrap_i64]; omega
      have g6 : ((J.es.length : Int) == (x.es.length : Int) + (y.es.length : Int)) = true := beq_iff_eq.2 (by omega)
      clear g1 g2 g3 g4 hm1
      obtain ⟨v0, v1, e1, a1, a2⟩ := (KW6.out wa (rwa)).1.1.1.2
      cases e1
      obtain ⟨bx, ox, ex, hbx, czx⟩ := a1.it (k := 0) hpx
      clear a1 a2
      obtain ⟨v0, v1, e1, a1, a2⟩ := (KW6.out wa (rwa)).1.2.2
      cases e1
      obtain ⟨bj, oj, ej, hbj, czj⟩ := a1.it (k := 0) hpj
      clear a1 a2
      rw [HF.out] at czj
      obtain ⟨z, ez⟩ : ∃ z, z = x.ns[0]'hpx := ⟨_, rfl⟩
      rw [← ez] at czj czx
      rw [Nat.add_zero] at czj czx
      clear ez
      subst ex ej
      have g7 : (z == z) = true := beq_self_eq_true z
      have HZ := Lib.hid (fun (E : World) (hE : Below wa.heap.size wa E) => And.intro (keepc hE (by omega) czx) (keepc hE (by omega) czj))
      clear czx czj
      have KS := Lib.hid (fun (E : World) (hE : Below wa.heap.size wa E) => And.intro ((KW6.out E (rwa.trans (hE.mono swa))).1.1.1.1) ((KW6.out E (rwa.trans (hE.mono swa))).1.1.2.1))
      have r1 := Below.refl wa.heap.size wa
      have sW0 : W.heap.size ≤ wa.heap.size := by omega
      have HAx := Lib.hid (fun (E : World) (hE : Below wa.heap.size wa E) => (KW6.out E (rwa.trans (hE.mono swa))).1.1.1.2)
      have HAy := Lib.hid (fun (E : World) (hE : Below wa.heap.size wa E) => (KW6.out E (rwa.trans (hE.mono swa))).1.1.2.2)
      go_upto_region 8 with fail
      go_cut [9, 10] (fun t fine wx => fine = .bool true ∧ ∃ ba, t = .pointer (some ⟨ba, 0, none⟩) ∧ Var2 (wkTurn J) ba wa.heap.size wx ∧ Below wa.heap.size wa wx)
      case first =>
        refine wp_region_E (last := 10) (S := fun w' => (w'.cell? ⟨wx.heap.size, 0, none⟩ = some (.slice (some ⟨bx, ox, none⟩) x.ns.length cx) ∧ w'.cell? ⟨wx.heap.size, 1, none⟩ = some (.slice qx x.es.length dx)) ∧ (w'.cell? ⟨wx.heap.size + 1, 0, none⟩ = some (.slice py y.ns.length cy) ∧ w'.cell? ⟨wx.heap.size + 1, 1, none⟩ = some (.slice qy y.es.length dy))) (by kernel_rfl) ?_ (fun hHeld => ?_)
        · exact KS.out _ ((Below.refl _ _).drew)
        have cW0 : Below wa.heap.size wa wa.drew := (Below.refl _ _).drew
        generalize wa.drew = W0 at cW0 hHeld ⊢
        have yW0 := cW0.size
        (refine takeE (i := 0) (v := ?_) [] rfl (by kernel_rfl) (by kernel_rfl) (fun _ _ _ h => h) (Or.inl ⟨by kernel_rfl, ?_⟩) (by assumption) ?_; rotate_left; (focus (intro w hSw; (try dsimp only at hSw); go_simp; first | done | with_reducible rfl | fail "takeE")); (try simp only [Act.put, List.setIfInBounds_toArray, List.set_cons_zero, List.set_cons_succ]))
        (refine takeE (i := 2) (v := ?_) [] rfl (by kernel_rfl) (by kernel_rfl) (fun _ _ _ h => h) (Or.inl ⟨by kernel_rfl, ?_⟩) (by assumption) ?_; rotate_left; (focus (intro w hSw; (try dsimp only at hSw); go_simp; first | done | with_reducible rfl | fail "takeE")); (try simp only [Act.put, List.setIfInBounds_toArray, List.set_cons_zero, List.set_cons_succ]))
        refine upE (rs := [1, 8]) (by kernel_rfl) (by simp) (AllE'.cons (i := 1) rfl (by kernel_rfl) (fun K hK => ?_) (AllE'.cons (i := 8) rfl (by kernel_rfl) (fun K hK => ?_) AllE'.nil))
        · go_simp
          go_at_call 19
          refine Calls.mono (turnWalk_any y _ W.heap.size W0 (HAy.out W0 cW0) (Nat.le_trans sW0 cW0.size) HNy.out) ?_
          rintro en U1 ⟨voY, FoY, rfl, hs, _, kU1⟩
          obtain ⟨poY, coY, qoY, doY, rfl⟩ := hs.form
          have cU1 : Below wa.heap.size wa U1 := cW0.trans (kU1.mono cW0.size)
          have yU1 := kU1.size
          have oY := hs.at
          clear hs
          go_wp2_with fail
          refine hK.out _ _ (KS.out _ cU1) (fun hHeld => ?_)
          clear hK K
          (try simp only [Act.put, List.setIfInBounds_toArray, List.set_cons_zero, List.set_cons_succ])
          refine upE (rs := [3, 8]) (by kernel_rfl) (by simp) (AllE'.cons (i := 3) rfl (by kernel_rfl) (fun K hK => ?_) (AllE'.cons (i := 8) rfl (by kernel_rfl) (fun K hK => ?_) AllE'.nil))
          · go_simp
            go_at_call 19
            refine Calls.mono (turnWalk_any x _ W.heap.size U1 (HAx.out U1 cU1) (Nat.le_trans sW0 cU1.size) HNx.out) ?_
            rintro en U2 ⟨voX, FoX, rfl, hs, _, kU2⟩
            obtain ⟨poX, coX, qoX, doX, rfl⟩ := hs.form
            have cU2 : Below wa.heap.size wa U2 := cU1.trans (kU2.mono cU1.size)
            have yU2 := kU2.size
            replace oY := Wk.At.to oY kU2 kU2.size
            have oX := hs.at
            clear hs
            go_wp2_with fail
            refine hK.out _ _ (KS.out _ cU2) (fun hHeld => ?_)
            clear hK K
            (try simp only [Act.put, List.setIfInBounds_toArray, List.set_cons_zero, List.set_cons_succ])
            refine upE (rs := [4, 8]) (by kernel_rfl) (by simp) (AllE'.cons (i := 4) rfl (by kernel_rfl) (fun K hK => ?_) (AllE'.cons (i := 8) rfl (by kernel_rfl) (fun K hK => ?_) AllE'.nil))
            · go_simp
              go_at_call 16
              refine Calls.mono (joinWalks_any (wkTurn y) (wkTurn x) _ _ U2.heap.size U2 oY oX (Nat.le_refl _) (by rw [wkTurn_need]; exact HNy.out) (by rw [wkTurn_need]; exact HNx.out)) ?_
              rw [HT.out.1, HT.out.2]
              rintro en U3 ⟨vJ, FJ, rfl, hs, hJl, kU3⟩
              obtain ⟨pt, ct, qt, dt, rfl⟩ := hs.form
              have cU3 : Below wa.heap.size wa U3 := cU2.trans (kU3.mono cU2.size)
              have yU3 := kU3.size
              replace oY := Wk.At.to oY kU3 kU3.size
              replace oX := Wk.At.to oX kU3 kU3.size
              have oJ := hs
              clear hs oX oY
              go_wp2_with fail
              refine hK.out _ _ (KS.out _ cU3) (fun hHeld => ?_)
              clear hK K
              (try simp only [Act.put, List.setIfInBounds_toArray, List.set_cons_zero, List.set_cons_succ])
              (refine takeE (i := 5) (v := ?_) [] rfl (by kernel_rfl) (by kernel_rfl) (fun _ _ _ h => h) (Or.inl ⟨by kernel_rfl, ?_⟩) (by assumption) ?_; rotate_left; (focus (intro w hSw; (try dsimp only at hSw); go_simp; first | done | with_reducible rfl | fail "takeE")); (try simp only [Act.put, List.setIfInBounds_toArray, List.set_cons_zero, List.set_cons_succ]))
              (refine takeE (i := 6) (v := ?_) [] rfl (by kernel_rfl) (by kernel_rfl) (fun _ _ _ h => h) (Or.inl ⟨by kernel_rfl, ?_⟩) (by assumption) ?_; rotate_left; (focus (intro w hSw; (try dsimp only at hSw); go_simp; first | done | with_reducible rfl | fail "takeE")); (try simp only [Act.put, List.setIfInBounds_toArray, List.set_cons_zero, List.set_cons_succ]))
              (refine takeE (i := 7) (v := ?_) [] rfl (by kernel_rfl) (by kernel_rfl) (fun _ _ _ h => h) (Or.inl ⟨by kernel_rfl, ?_⟩) (by assumption) ?_; rotate_left; (focus (intro w hSw; (try dsimp only at hSw); go_simp; first | done | with_reducible rfl | fail "takeE")); (try simp only [Act.put, List.setIfInBounds_toArray, List.set_cons_zero, List.set_cons_succ]))
              refine oneE (i := 8) rfl (by kernel_rfl) (by kernel_rfl) (fun K hK => ?_)
              have lJ := oJ.lt
              have nJ : ∀ z ∈ FJ, z ≠ U3.heap.size := fun z hz => by have := lJ z hz; omega
              go_simp
              refine madeVar (K := K) ?_
              intro U4 kU4 nv
              have cU4 : Below wa.heap.size wa U4 := cU3.trans (kU4.mono cU3.size)
              have yU4 := kU4.size
              replace oJ := Wk.Has.below oJ kU4
              have bv : wa.heap.size ≤ U3.heap.size := cU3.size
              have sv := nv.1
              refine hK.out _ _ (KS.out _ cU4) (fun hHeld => ?_)
              clear hK K
              (try simp only [Act.put, List.setIfInBounds_toArray, List.set_cons_zero, List.set_cons_succ])
              refine oneE (i := 9) rfl (by kernel_rfl) (by kernel_rfl) (fun K hK => ?_)
              obtain ⟨v0, v1, v2, v3, v4⟩ := nv
              have hset : Below wa.heap.size wa ((U4.setCell ⟨U3.heap.size, 0, none⟩ (.slice pt (wkTurn J).ns.length ct)).setCell ⟨U3.heap.size, 1, none⟩ (.slice qt (wkTurn J).es.length dt)) := (cU4.setCell (by show wa.heap.size ≤ _; omega) _).setCell (by show wa.heap.size ≤ _; omega) _
              go_simp
              refine hK.out _ _ (KS.out _ hset) (fun hHeld => ?_)
              clear hK K
              (try simp only [Act.put, List.setIfInBounds_toArray, List.set_cons_zero, List.set_cons_succ])
              refine lastE rfl (by kernel_rfl) (by kernel_rfl) (fun K hK => ?_)
              go_simp
              refine hK.out _ _ ?_
              clear hK K
              refine doneE (by kernel_rfl) ?_ _
              go_wp2_with fail
              go_meet
              exact ⟨rfl, _, rfl, Var2.mk ⟨v0, v1, v2, v3, v4⟩ oJ nJ bv, hset⟩
            · go_simp
              refine madeVar (K := K) ?_
              intro U5 kU5 nv
              have cU5 : Below wa.heap.size wa U5 := cU2.trans (kU5.mono cU2.size)
              have yU5 := kU5.size
              replace oY := Wk.At.to oY kU5 kU5.size
              replace oX := Wk.At.to oX kU5 kU5.size
              have bv : wa.heap.size ≤ U2.heap.size := cU2.size
              have sv := nv.1
              refine hK.out _ _ (KS.out _ cU5) (fun hHeld => ?_)
              clear hK K
              (try simp only [Act.put, List.setIfInBounds_toArray, List.set_cons_zero, List.set_cons_succ])
              refine oneE (i := 4) rfl (by kernel_rfl) (by kernel_rfl) (fun K hK => ?_)
              go_simp
              go_at_call 16
              refine Calls.mono (joinWalks_any (wkTurn y) (wkTurn x) _ _ U5.heap.size U5 oY oX (Nat.le_refl _) (by rw [wkTurn_need]; exact HNy.out) (by rw [wkTurn_need]; exact HNx.out)) ?_
              rw [HT.out.1, HT.out.2]
              rintro en U6 ⟨vJ, FJ, rfl, hs, hJl, kU6⟩
              obtain ⟨pt, ct, qt, dt, rfl⟩ := hs.form
              have cU6 : Below wa.heap.size wa U6 := cU5.trans (kU6.mono cU5.size)
              have yU6 := kU6.size
              replace oY := Wk.At.to oY kU6 kU6.size
              replace oX := Wk.At.to oX kU6 kU6.size
              replace nv := nv.below kU6
              have nJ : ∀ z ∈ FJ, z ≠ U2.heap.size := fun z hz => by have := hJl z hz; omega
              have oJ := hs
              clear hs oX oY
              go_wp2_with fail
              refine hK.out _ _ (KS.out _ cU6) (fun hHeld => ?_)
              clear hK K
              (try simp only [Act.put, List.setIfInBounds_toArray, List.set_cons_zero, List.set_cons_succ])
              (refine takeE (i := 5) (v := ?_) [] rfl (by kernel_rfl) (by kernel_rfl) (fun _ _ _ h => h) (Or.inl ⟨by kernel_rfl, ?_⟩) (by assumption) ?_; rotate_left; (focus (intro w hSw; (try dsimp only at hSw); go_simp; first | done | with_reducible rfl | fail "takeE")); (try simp only [Act.put, List.setIfInBounds_toArray, List.set_cons_zero, List.set_cons_succ]))
              (refine takeE (i := 6) (v := ?_) [] rfl (by kernel_rfl) (by kernel_rfl) (fun _ _ _ h => h) (Or.inl ⟨by kernel_rfl, ?_⟩) (by assumption) ?_; rotate_left; (focus (intro w hSw; (try dsimp only at hSw); go_simp; first | done | with_reducible rfl | fail "takeE")); (try simp only [Act.put, List.setIfInBounds_toArray, List.set_cons_zero, List.set_cons_succ]))
              (refine takeE (i := 7) (v := ?_) [] rfl (by kernel_rfl) (by kernel_rfl) (fun _ _ _ h => h) (Or.inl ⟨by kernel_rfl, ?_⟩) (by assumption) ?_; rotate_left; (focus (intro w hSw; (try dsimp only at hSw); go_simp; first | done | with_reducible rfl | fail "takeE")); (try simp only [Act.put, List.setIfInBounds_toArray, List.set_cons_zero, List.set_cons_succ]))
              refine oneE (i := 9) rfl (by kernel_rfl) (by kernel_rfl) (fun K hK => ?_)
              obtain ⟨v0, v1, v2, v3, v4⟩ := nv
              have hset : Below wa.heap.size wa ((U6.setCell ⟨U2.heap.size, 0, none⟩ (.slice pt (wkTurn J).ns.length ct)).setCell ⟨U2.heap.size, 1, none⟩ (.slice qt (wkTurn J).es.length dt)) := (cU6.setCell (by show wa.heap.size ≤ _; omega) _).setCell (by show wa.heap.size ≤ _; omega) _
              go_simp
              refine hK.out _ _ (KS.out _ hset) (fun hHeld => ?_)
              clear hK K
              (try simp only [Act.put, List.setIfInBounds_toArray, List.set_cons_zero, List.set_cons_succ])
              refine lastE rfl (by kernel_rfl) (by kernel_rfl) (fun K hK => ?_)
              go_simp
              refine hK.out _ _ ?_
              clear hK K
              refine doneE (by kernel_rfl) ?_ _
              go_wp2_with fail
              go_meet
              exact ⟨rfl, _, rfl, Var2.mk ⟨v0, v1, v2, v3, v4⟩ oJ nJ bv, hset⟩
          · go_simp
            refine madeVar (K := K) ?_
            intro U7 kU7 nv
            have cU7 : Below wa.heap.size wa U7 := cU1.trans (kU7.mono cU1.size)
            have yU7 := kU7.size
            replace oY := Wk.At.to oY kU7 kU7.size
            have bv : wa.heap.size ≤ U1.heap.size := cU1.size
            have sv := nv.1
            refine hK.out _ _ (KS.out _ cU7) (fun hHeld => ?_)
            clear hK K
            (try simp only [Act.put, List.setIfInBounds_toArray, List.set_cons_zero, List.set_cons_succ])
            refine oneE (i := 3) rfl (by kernel_rfl) (by kernel_rfl) (fun K hK => ?_)
            go_simp
            go_at_call 19
            refine Calls.mono (turnWalk_any x _ W.heap.size U7 (HAx.out U7 cU7) (Nat.le_trans sW0 cU7.size) HNx.out) ?_
            rintro en U8 ⟨voX, FoX, rfl, hs, _, kU8⟩
            obtain ⟨poX, coX, qoX, doX, rfl⟩ := hs.form
            have cU8 : Below wa.heap.size wa U8 := cU7.trans (kU8.mono cU7.size)
            have yU8 := kU8.size
            replace oY := Wk.At.to oY kU8 kU8.size
            replace nv := nv.below kU8
            have oX := hs.at
            clear hs
            go_wp2_with fail
            refine hK.out _ _ (KS.out _ cU8) (fun hHeld => ?_)
            clear hK K
            (try simp only [Act.put, List.setIfInBounds_toArray, List.set_cons_zero, List.set_cons_succ])
            refine oneE (i := 4) rfl (by kernel_rfl) (by kernel_rfl) (fun K hK => ?_)
            go_simp
            go_at_call 16
            refine Calls.mono (joinWalks_any (wkTurn y) (wkTurn x) _ _ U8.heap.size U8 oY oX (Nat.le_refl _) (by rw [wkTurn_need]; exact HNy.out) (by rw [wkTurn_need]; exact HNx.out)) ?_
            rw [HT.out.1, HT.out.2]
            rintro en U9 ⟨vJ, FJ, rfl, hs, hJl, kU9⟩
            obtain ⟨pt, ct, qt, dt, rfl⟩ := hs.form
            have cU9 : Below wa.heap.size wa U9 := cU8.trans (kU9.mono cU8.size)
            have yU9 := kU9.size
            replace oY := Wk.At.to oY kU9 kU9.size
            replace oX := Wk.At.to oX kU9 kU9.size
            replace nv := nv.below kU9
            have nJ : ∀ z ∈ FJ, z ≠ U1.heap.size := fun z hz => by have := hJl z hz; omega
            have oJ := hs
            clear hs oX oY
            go_wp2_with fail
            refine hK.out _ _ (KS.out _ cU9) (fun hHeld => ?_)
            clear hK K
            (try simp only [Act.put, List.setIfInBounds_toArray, List.set_cons_zero, List.set_cons_succ])
            (refine takeE (i := 5) (v := ?_) [] rfl (by kernel_rfl) (by kernel_rfl) (fun _ _ _ h => h) (Or.inl ⟨by kernel_rfl, ?_⟩) (by assumption) ?_; rotate_left; (focus (intro w hSw; (try dsimp only at hSw); go_simp; first | done | with_reducible rfl | fail "takeE")); (try simp only [Act.put, List.setIfInBounds_toArray, List.set_cons_zero, List.set_cons_succ]))
            (refine takeE (i := 6) (v := ?_) [] rfl (by kernel_rfl) (by kernel_rfl) (fun _ _ _ h => h) (Or.inl ⟨by kernel_rfl, ?_⟩) (by assumption) ?_; rotate_left; (focus (intro w hSw; (try dsimp only at hSw); go_simp; first | done | with_reducible rfl | fail "takeE")); (try simp only [Act.put, List.setIfInBounds_toArray, List.set_cons_zero, List.set_cons_succ]))
            (refine takeE (i := 7) (v := ?_) [] rfl (by kernel_rfl) (by kernel_rfl) (fun _ _ _ h => h) (Or.inl ⟨by kernel_rfl, ?_⟩) (by assumption) ?_; rotate_left; (focus (intro w hSw; (try dsimp only at hSw); go_simp; first | done | with_reducible rfl | fail "takeE")); (try simp only [Act.put, List.setIfInBounds_toArray, List.set_cons_zero, List.set_cons_succ]))
            refine oneE (i := 9) rfl (by kernel_rfl) (by kernel_rfl) (fun K hK => ?_)
            obtain ⟨v0, v1, v2, v3, v4⟩ := nv
            have hset : Below wa.heap.size wa ((U9.setCell ⟨U1.heap.size, 0, none⟩ (.slice pt (wkTurn J).ns.length ct)).setCell ⟨U1.heap.size, 1, none⟩ (.slice qt (wkTurn J).es.length dt)) := (cU9.setCell (by show wa.heap.size ≤ _; omega) _).setCell (by show wa.heap.size ≤ _; omega) _
            go_simp
            refine hK.out _ _ (KS.out _ hset) (fun hHeld => ?_)
            clear hK K
            (try simp only [Act.put, List.setIfInBounds_toArray, List.set_cons_zero, List.set_cons_succ])
            refine lastE rfl (by kernel_rfl) (by kernel_rfl) (fun K hK => ?_)
            go_simp
            refine hK.out _ _ ?_
            clear hK K
            refine doneE (by kernel_rfl) ?_ _
            go_wp2_with fail
            go_meet
            exact ⟨rfl, _, rfl, Var2.mk ⟨v0, v1, v2, v3, v4⟩ oJ nJ bv, hset⟩
        · go_simp
          refine madeVar (K := K) ?_
          intro U10 kU10 nv
          have cU10 : Below wa.heap.size wa U10 := cW0.trans (kU10.mono cW0.size)
          have yU10 := kU10.size
          have bv : wa.heap.size ≤ W0.heap.size := cW0.size
          have sv := nv.1
          refine hK.out _ _ (KS.out _ cU10) (fun hHeld => ?_)
          clear hK K
          (try simp only [Act.put, List.setIfInBounds_toArray, List.set_cons_zero, List.set_cons_succ])
          refine oneE (i := 1) rfl (by kernel_rfl) (by kernel_rfl) (fun K hK => ?_)
          go_simp
          go_at_call 19
          refine Calls.mono (turnWalk_any y _ W.heap.size U10 (HAy.out U10 cU10) (Nat.le_trans sW0 cU10.size) HNy.out) ?_
          rintro en U11 ⟨voY, FoY, rfl, hs, _, kU11⟩
          obtain ⟨poY, coY, qoY, doY, rfl⟩ := hs.form
          have cU11 : Below wa.heap.size wa U11 := cU10.trans (kU11.mono cU10.size)
          have yU11 := kU11.size
          replace nv := nv.below kU11
          have oY := hs.at
          clear hs
          go_wp2_with fail
          refine hK.out _ _ (KS.out _ cU11) (fun hHeld => ?_)
          clear hK K
          (try simp only [Act.put, List.setIfInBounds_toArray, List.set_cons_zero, List.set_cons_succ])
          refine oneE (i := 3) rfl (by kernel_rfl) (by kernel_rfl) (fun K hK => ?_)
          go_simp
          go_at_call 19
          refine Calls.mono (turnWalk_any x _ W.heap.size U11 (HAx.out U11 cU11) (Nat.le_trans sW0 cU11.size) HNx.out) ?_
          rintro en U12 ⟨voX, FoX, rfl, hs, _, kU12⟩
          obtain ⟨poX, coX, qoX, doX, rfl⟩ := hs.form
          have cU12 : Below wa.heap.size wa U12 := cU11.trans (kU12.mono cU11.size)
          have yU12 := kU12.size
          replace oY := Wk.At.to oY kU12 kU12.size
          replace nv := nv.below kU12
          have oX := hs.at
          clear hs
          go_wp2_with fail
          refine hK.out _ _ (KS.out _ cU12) (fun hHeld => ?_)
          clear hK K
          (try simp only [Act.put, List.setIfInBounds_toArray, List.set_cons_zero, List.set_cons_succ])
          refine oneE (i := 4) rfl (by kernel_rfl) (by kernel_rfl) (fun K hK => ?_)
          go_simp
          go_at_call 16
          refine Calls.mono (joinWalks_any (wkTurn y) (wkTurn x) _ _ U12.heap.size U12 oY oX (Nat.le_refl _) (by rw [wkTurn_need]; exact HNy.out) (by rw [wkTurn_need]; exact HNx.out)) ?_
          rw [HT.out.1, HT.out.2]
          rintro en U13 ⟨vJ, FJ, rfl, hs, hJl, kU13⟩
          obtain ⟨pt, ct, qt, dt, rfl⟩ := hs.form
          have cU13 : Below wa.heap.size wa U13 := cU12.trans (kU13.mono cU12.size)
          have yU13 := kU13.size
          replace oY := Wk.At.to oY kU13 kU13.size
          replace oX := Wk.At.to oX kU13 kU13.size
          replace nv := nv.below kU13
          have nJ : ∀ z ∈ FJ, z ≠ W0.heap.size := fun z hz => by have := hJl z hz; omega
          have oJ := hs
          clear hs oX oY
          go_wp2_with fail
          refine hK.out _ _ (KS.out _ cU13) (fun hHeld => ?_)
          clear hK K
          (try simp only [Act.put, List.setIfInBounds_toArray, List.set_cons_zero, List.set_cons_succ])
          (refine takeE (i := 5) (v := ?_) [] rfl (by kernel_rfl) (by kernel_rfl) (fun _ _ _ h => h) (Or.inl ⟨by kernel_rfl, ?_⟩) (by assumption) ?_; rotate_left; (focus (intro w hSw; (try dsimp only at hSw); go_simp; first | done | with_reducible rfl | fail "takeE")); (try simp only [Act.put, List.setIfInBounds_toArray, List.set_cons_zero, List.set_cons_succ]))
          (refine takeE (i := 6) (v := ?_) [] rfl (by kernel_rfl) (by kernel_rfl) (fun _ _ _ h => h) (Or.inl ⟨by kernel_rfl, ?_⟩) (by assumption) ?_; rotate_left; (focus (intro w hSw; (try dsimp only at hSw); go_simp; first | done | with_reducible rfl | fail "takeE")); (try simp only [Act.put, List.setIfInBounds_toArray, List.set_cons_zero, List.set_cons_succ]))
          (refine takeE (i := 7) (v := ?_) [] rfl (by kernel_rfl) (by kernel_rfl) (fun _ _ _ h => h) (Or.inl ⟨by kernel_rfl, ?_⟩) (by assumption) ?_; rotate_left; (focus (intro w hSw; (try dsimp only at hSw); go_simp; first | done | with_reducible rfl | fail "takeE")); (try simp only [Act.put, List.setIfInBounds_toArray, List.set_cons_zero, List.set_cons_succ]))
          refine oneE (i := 9) rfl (by kernel_rfl) (by kernel_rfl) (fun K hK => ?_)
          obtain ⟨v0, v1, v2, v3, v4⟩ := nv
          have hset : Below wa.heap.size wa ((U13.setCell ⟨W0.heap.size, 0, none⟩ (.slice pt (wkTurn J).ns.length ct)).setCell ⟨W0.heap.size, 1, none⟩ (.slice qt (wkTurn J).es.length dt)) := (cU13.setCell (by show wa.heap.size ≤ _; omega) _).setCell (by show wa.heap.size ≤ _; omega) _
          go_simp
          refine hK.out _ _ (KS.out _ hset) (fun hHeld => ?_)
          clear hK K
          (try simp only [Act.put, List.setIfInBounds_toArray, List.set_cons_zero, List.set_cons_succ])
          refine lastE rfl (by kernel_rfl) (by kernel_rfl) (fun K hK => ?_)
          go_simp
          refine hK.out _ _ ?_
          clear hK K
          refine doneE (by kernel_rfl) ?_ _
          go_wp2_with fail
          go_meet
          exact ⟨rfl, _, rfl, Var2.mk ⟨v0, v1, v2, v3, v4⟩ oJ nJ bv, hset⟩
      case rest =>
        obtain ⟨rfl, ba, rfl, hva, hbx⟩ := hcut
        obtain ⟨W8, eW8⟩ : ∃ E, E = wc := ⟨_, rfl⟩
        subst eW8
        obtain ⟨pT, cT, qT, dT, hcs, hat, hba, hbs⟩ := hva
        have rW8 : Below W6.heap.size W6 W8 := rwa.trans (hbx.mono swa)
        have sW8 := rW8.size
        have sW8' := hbx.size
        obtain ⟨T, hT⟩ : ∃ T, RowKit.Hid (T = wkTurn J) := ⟨_, Lib.hid rfl⟩
        rw [← hT.out] at hcs hat
        have HCS := Lib.hid hcs
        have HAT := Lib.hid hat
        have KW8 := Lib.hid (fun (E : World) (hE : Below W8.heap.size W8 E) => And.intro (KW6.out E (rW8.trans (hE.mono sW8))) (show (E.cell? ⟨ba, 0, none⟩ = some (.slice pT T.ns.length cT) ∧ E.cell? ⟨ba, 1, none⟩ = some (.slice qT T.es.length dT)) ∧ T.At W8.heap.size E (.agg #[.slice pT T.ns.length cT, .slice qT T.es.length dT]) from ⟨⟨keepc hE hbs HCS.out.1, keepc hE hbs HCS.out.2⟩, HAT.out.to hE (Nat.le_refl _)⟩))
        have BW8 := Lib.hid ((HBW.out.trans (rW8.mono HBW.out.size)) : Below w.heap.size w W8)
        have HZ8 := Lib.hid (fun (E : World) (hE : Below W8.heap.size W8 E) => HZ.out E (hbx.trans (hE.mono sW8')))
        clear hcs hat HCS HAT HBW r0 r1 rW8 hbx
        have HBW := BW8
        have r0 := Below.refl W8.heap.size W8
        have K9 := Lib.hid (fun (E : World) (hE : Below W8.heap.size W8 E) => (show (E.cell? ⟨wx.heap.size, 0, none⟩ = some (.slice (some ⟨bx, ox, none⟩) x.ns.length cx) ∧ E.cell? ⟨wx.heap.size, 1, none⟩ = some (.slice qx x.es.length dx)) ∧ (E.cell? ⟨wx.heap.size + 1, 0, none⟩ = some (.slice py y.ns.length cy) ∧ E.cell? ⟨wx.heap.size + 1, 1, none⟩ = some (.slice qy y.es.length dy)) ∧ (E.cell? ⟨wj.heap.size, 0, none⟩ = some (.slice (some ⟨bj, oj, none⟩) J.ns.length cwj) ∧ E.cell? ⟨wj.heap.size, 1, none⟩ = some (.slice qwj J.es.length dwj)) ∧ (E.cell? ⟨ba, 0, none⟩ = some (.slice pT T.ns.length cT) ∧ E.cell? ⟨ba, 1, none⟩ = some (.slice qT T.es.length dT)) ∧ (E.cell? ⟨bx, ox, none⟩ = some (.int .i64 z) ∧ E.cell? ⟨bj, oj, none⟩ = some (.int .i64 z)) from ⟨(KW8.out E (hE)).1.1.1.1.1, (KW8.out E (hE)).1.1.1.2.1, (KW8.out E (hE)).1.1.2.1, (KW8.out E (hE)).2.1, HZ8.out E hE⟩))
        go_upto_region 9 with fail
        refine wp_region_held_drew (S := fun w' => (w'.cell? ⟨wx.heap.size, 0, none⟩ = some (.slice (some ⟨bx, ox, none⟩) x.ns.length cx) ∧ w'.cell? ⟨wx.heap.size, 1, none⟩ = some (.slice qx x.es.length dx)) ∧ (w'.cell? ⟨wx.heap.size + 1, 0, none⟩ = some (.slice py y.ns.length cy) ∧ w'.cell? ⟨wx.heap.size + 1, 1, none⟩ = some (.slice qy y.es.length dy)) ∧ (w'.cell? ⟨wj.heap.size, 0, none⟩ = some (.slice (some ⟨bj, oj, none⟩) J.ns.length cwj) ∧ w'.cell? ⟨wj.heap.size, 1, none⟩ = some (.slice qwj J.es.length dwj)) ∧ (w'.cell? ⟨ba, 0, none⟩ = some (.slice pT T.ns.length cT) ∧ w'.cell? ⟨ba, 1, none⟩ = some (.slice qT T.es.length dT)) ∧ (w'.cell? ⟨bx, ox, none⟩ = some (.int .i64 z) ∧ w'.cell? ⟨bj, oj, none⟩ = some (.int .i64 z))) (by kernel_rfl) ?_ (fun hHeld => ?_)
        · exact K9.out _ (show Below W8.heap.size W8 _ by ((repeat (first | with_reducible assumption | with_reducible exact Below.refl _ _ | refine Below.setCell ?_ (by (first | omega | (simp; omega) | (simp; done) | fail "sml")) _ | refine Below.drew ?_ | refine Below.alloc ?_ (by (first | omega | (simp; omega) | (simp; done) | fail "sml")) _)); first | done | fail "chs"))
        (refine takeL (i := 0) (v := ?_) rfl (by kernel_rfl) (by kernel_rfl) (by kernel_rfl) (fun _ _ _ h => h) (Or.inl ⟨by kernel_rfl, ?_⟩) (by assumption) ?_; rotate_left; (focus (intro w hSw; (try dsimp only at hSw); go_simp; first | done | with_reducible rfl | fail "take")); (try simp only [Act.put, List.setIfInBounds_toArray, List.set_cons_zero, List.set_cons_succ]))
        (refine takeL (i := 1) (v := ?_) rfl (by kernel_rfl) (by kernel_rfl) (by kernel_rfl) (fun _ _ _ h => h) (Or.inl ⟨by kernel_rfl, ?_⟩) (by assumption) ?_; rotate_left; (focus (intro w hSw; (try dsimp only at hSw); go_simp; first | done | with_reducible rfl | fail "take")); (try simp only [Act.put, List.setIfInBounds_toArray, List.set_cons_zero, List.set_cons_succ]))
        (refine takeL (i := 2) (v := ?_) rfl (by kernel_rfl) (by kernel_rfl) (by kernel_rfl) (fun _ _ _ h => h) (Or.inl ⟨by kernel_rfl, ?_⟩) (by assumption) ?_; rotate_left; (focus (intro w hSw; (try dsimp only at hSw); go_simp; first | done | with_reducible rfl | fail "take")); (try simp only [Act.put, List.setIfInBounds_toArray, List.set_cons_zero, List.set_cons_succ]))
        (refine takeL (i := 3) (v := ?_) rfl (by kernel_rfl) (by kernel_rfl) (by kernel_rfl) (fun _ _ _ h => h) (Or.inl ⟨by kernel_rfl, ?_⟩) (by assumption) ?_; rotate_left; (focus (intro w hSw; (try dsimp only at hSw); go_simp; first | done | with_reducible rfl | fail "take")); (try simp only [Act.put, List.setIfInBounds_toArray, List.set_cons_zero, List.set_cons_succ]))
        (refine callL (i := 4) rfl (by kernel_rfl) (by kernel_rfl) (fun K hK => ?_); go_simp)
        go_at_call 19
        refine Calls.mono (turnWalk_any J _ W8.heap.size _ ((KW8.out _ ((show Below W8.heap.size W8 _ by ((repeat (first | with_reducible assumption | with_reducible exact Below.refl _ _ | refine Below.setCell ?_ (by (first | omega | (simp; omega) | (simp; done) | fail "sml")) _ | refine Below.drew ?_ | refine Below.alloc ?_ (by (first | omega | (simp; omega) | (simp; done) | fail "sml")) _)); first | done | fail "chs")))).1.1.2.2.to (Below.refl _ _) (by omega)) ((show Below W8.heap.size W8 _ by ((repeat (first | with_reducible assumption | with_reducible exact Below.refl _ _ | refine Below.setCell ?_ (by (first | omega | (simp; omega) | (simp; done) | fail "sml")) _ | refine Below.drew ?_ | refine Below.alloc ?_ (by (first | omega | (simp; omega) | (simp; done) | fail "sml")) _)); first | done | fail "chs"))).size (by rw [HJ.out]; have := join_need x y; have := HN40.out; omega)) ?_
        rintro en wu ⟨vr, Fr, rfl, hs, _, hb⟩
        have rwu := Below.trans (show Below W8.heap.size W8 _ by ((repeat (first | with_reducible assumption | with_reducible exact Below.refl _ _ | refine Below.setCell ?_ (by (first | omega | (simp; omega) | (simp; done) | fail "sml")) _ | refine Below.drew ?_ | refine Below.alloc ?_ (by (first | omega | (simp; omega) | (simp; done) | fail "sml")) _)); first | done | fail "chs")) (hb.mono (by (first | omega | (simp; omega) | (simp; done) | fail "sml")))
        have zwu := rwu.size
        obtain ⟨pr, cr, qr, dr, rfl⟩ := hs.form
        have HR := Lib.hid hs.at
        clear hs
        rw [← hT.out] at HR ⊢
        clear hb
        go_wp2_with fail
        refine hK.out _ _ (K9.out _ (show Below W8.heap.size W8 _ by ((repeat (first | with_reducible assumption | with_reducible exact Below.refl _ _ | refine Below.setCell ?_ (by (first | omega | (simp; omega) | (simp; done) | fail "sml")) _ | refine Below.drew ?_ | refine Below.alloc ?_ (by (first | omega | (simp; omega) | (simp; done) | fail "sml")) _)); first | done | fail "chs"))) (fun hHeld => ?_)
        clear hK K
        (try simp only [Act.put, List.setIfInBounds_toArray, List.set_cons_zero, List.set_cons_succ])
        (refine callL (i := 5) rfl (by kernel_rfl) (by kernel_rfl) (fun K hK => ?_); go_simp)
        go_at_call 18
        refine Calls.mono (walkSame_any T T _ _ wu.heap.size _ (((KW8.out _ ((show Below W8.heap.size W8 _ by ((repeat (first | with_reducible assumption | with_reducible exact Below.refl _ _ | refine Below.setCell ?_ (by (first | omega | (simp; omega) | (simp; done) | fail "sml")) _ | refine Below.drew ?_ | refine Below.alloc ?_ (by (first | omega | (simp; omega) | (simp; done) | fail "sml")) _)); first | done | fail "chs")))).2.2).to (Below.refl _ _) ((show Below W8.heap.size W8 _ by ((repeat (first | with_reducible assumption | with_reducible exact Below.refl _ _ | refine Below.setCell ?_ (by (first | omega | (simp; omega) | (simp; done) | fail "sml")) _ | refine Below.drew ?_ | refine Below.alloc ?_ (by (first | omega | (simp; omega) | (simp; done) | fail "sml")) _)); first | done | fail "chs"))).size) HR.out (Nat.le_refl _)) ?_
        rintro en wv ⟨rfl, hb⟩
        have rwv := Below.trans (show Below W8.heap.size W8 _ by ((repeat (first | with_reducible assumption | with_reducible exact Below.refl _ _ | refine Below.setCell ?_ (by (first | omega | (simp; omega) | (simp; done) | fail "sml")) _ | refine Below.drew ?_ | refine Below.alloc ?_ (by (first | omega | (simp; omega) | (simp; done) | fail "sml")) _)); first | done | fail "chs")) (hb.mono (by (first | omega | (simp; omega) | (simp; done) | fail "sml")))
        have zwv := rwv.size
        rw [wkEq_refl]
        clear hb
        go_wp2_with fail
        refine hK.out _ _ (K9.out _ (show Below W8.heap.size W8 _ by ((repeat (first | with_reducible assumption | with_reducible exact Below.refl _ _ | refine Below.setCell ?_ (by (first | omega | (simp; omega) | (simp; done) | fail "sml")) _ | refine Below.drew ?_ | refine Below.alloc ?_ (by (first | omega | (simp; omega) | (simp; done) | fail "sml")) _)); first | done | fail "chs"))) (fun hHeld => ?_)
        clear hK K
        (try simp only [Act.put, List.setIfInBounds_toArray, List.set_cons_zero, List.set_cons_succ])
        (refine takeL (i := 6) (v := ?_) rfl (by kernel_rfl) (by kernel_rfl) (by kernel_rfl) (fun _ _ _ h => h) (Or.inl ⟨by kernel_rfl, ?_⟩) (by assumption) ?_; rotate_left; (focus (intro w hSw; (try dsimp only at hSw); go_simp; first | done | with_reducible rfl | fail "take")); (try simp only [Act.put, List.setIfInBounds_toArray, List.set_cons_zero, List.set_cons_succ]))
        (refine takeL (i := 7) (v := ?_) rfl (by kernel_rfl) (by kernel_rfl) (by kernel_rfl) (fun _ _ _ h => h) (Or.inl ⟨by kernel_rfl, ?_⟩) (by assumption) ?_; rotate_left; (focus (intro w hSw; (try dsimp only at hSw); go_simp; first | done | with_reducible rfl | fail "take")); (try simp only [Act.put, List.setIfInBounds_toArray, List.set_cons_zero, List.set_cons_succ]))
        (refine takeL (i := 8) (v := ?_) rfl (by kernel_rfl) (by kernel_rfl) (by kernel_rfl) (fun _ _ _ h => h) (Or.inl ⟨by kernel_rfl, ?_⟩) (by assumption) ?_; rotate_left; (focus (intro w hSw; (try dsimp only at hSw); go_simp; first | done | with_reducible rfl | fail "take")); (try simp only [Act.put, List.setIfInBounds_toArray, List.set_cons_zero, List.set_cons_succ]))
        (refine takeL (i := 9) (v := ?_) rfl (by kernel_rfl) (by kernel_rfl) (by kernel_rfl) (fun _ _ _ h => h) (Or.inl ⟨by kernel_rfl, ?_⟩) (by assumption) ?_; rotate_left; (focus (intro w hSw; (try dsimp only at hSw); go_simp; first | done | with_reducible rfl | fail "take")); (try simp only [Act.put, List.setIfInBounds_toArray, List.set_cons_zero, List.set_cons_succ]))
        (refine takeL (i := 10) (v := ?_) rfl (by kernel_rfl) (by kernel_rfl) (by kernel_rfl) (fun _ _ _ h => h) (Or.inl ⟨by kernel_rfl, ?_⟩) (by assumption) ?_; rotate_left; (focus (intro w hSw; (try dsimp only at hSw); go_simp; first | done | with_reducible rfl | fail "take")); (try simp only [Act.put, List.setIfInBounds_toArray, List.set_cons_zero, List.set_cons_succ]))
        (refine takeL (i := 11) (v := ?_) rfl (by kernel_rfl) (by kernel_rfl) (by kernel_rfl) (fun _ _ _ h => h) (Or.inl ⟨by kernel_rfl, ?_⟩) (by assumption) ?_; rotate_left; (focus (intro w hSw; (try dsimp only at hSw); go_simp; first | done | with_reducible rfl | fail "take")); (try simp only [Act.put, List.setIfInBounds_toArray, List.set_cons_zero, List.set_cons_succ]))
        (refine takeL (i := 12) (v := ?_) rfl (by kernel_rfl) (by kernel_rfl) (by kernel_rfl) (fun _ _ _ h => h) (Or.inl ⟨by kernel_rfl, ?_⟩) (by assumption) ?_; rotate_left; (focus (intro w hSw; (try dsimp only at hSw); go_simp; first | done | with_reducible rfl | fail "take")); (try simp only [Act.put, List.setIfInBounds_toArray, List.set_cons_zero, List.set_cons_succ]))
        (refine takeL (i := 13) (v := ?_) rfl (by kernel_rfl) (by kernel_rfl) (by kernel_rfl) (fun _ _ _ h => h) (Or.inl ⟨by kernel_rfl, ?_⟩) (by assumption) ?_; rotate_left; (focus (intro w hSw; (try dsimp only at hSw); go_simp; first | done | with_reducible rfl | fail "take")); (try simp only [Act.put, List.setIfInBounds_toArray, List.set_cons_zero, List.set_cons_succ]))
        (refine takeL (i := 14) (v := ?_) rfl (by kernel_rfl) (by kernel_rfl) (by kernel_rfl) (fun _ _ _ h => h) (Or.inl ⟨by kernel_rfl, ?_⟩) (by assumption) ?_; rotate_left; (focus (intro w hSw; (try dsimp only at hSw); go_simp; first | done | with_reducible rfl | fail "take")); (try simp only [Act.put, List.setIfInBounds_toArray, List.set_cons_zero, List.set_cons_succ]))
        (refine takeL (i := 15) (v := ?_) rfl (by kernel_rfl) (by kernel_rfl) (by kernel_rfl) (fun _ _ _ h => h) (Or.inl ⟨by kernel_rfl, ?_⟩) (by assumption) ?_; rotate_left; (focus (intro w hSw; (try dsimp only at hSw); go_simp; first | done | with_reducible rfl | fail "take")); (try simp only [Act.put, List.setIfInBounds_toArray, List.set_cons_zero, List.set_cons_succ]))
        (refine takeL (i := 16) (v := ?_) rfl (by kernel_rfl) (by kernel_rfl) (by kernel_rfl) (fun _ _ _ h => h) (Or.inl ⟨by kernel_rfl, ?_⟩) (by assumption) ?_; rotate_left; (focus (intro w hSw; (try dsimp only at hSw); go_simp; first | done | with_reducible rfl | fail "take")); (try simp only [Act.put, List.setIfInBounds_toArray, List.set_cons_zero, List.set_cons_succ]))
        (refine takeL (i := 17) (v := ?_) rfl (by kernel_rfl) (by kernel_rfl) (by kernel_rfl) (fun _ _ _ h => h) (Or.inl ⟨by kernel_rfl, ?_⟩) (by assumption) ?_; rotate_left; (focus (intro w hSw; (try dsimp only at hSw); go_simp; first | done | with_reducible rfl | fail "take")); (try simp only [Act.put, List.setIfInBounds_toArray, List.set_cons_zero, List.set_cons_succ]))
        (refine takeL (i := 18) (v := ?_) rfl (by kernel_rfl) (by kernel_rfl) (by kernel_rfl) (fun _ _ _ h => h) (Or.inl ⟨by kernel_rfl, ?_⟩) (by assumption) ?_; rotate_left; (focus (intro w hSw; (try dsimp only at hSw); go_simp; first | done | with_reducible rfl | fail "take")); (try simp only [Act.put, List.setIfInBounds_toArray, List.set_cons_zero, List.set_cons_succ]))
        (refine takeL (i := 19) (v := ?_) rfl (by kernel_rfl) (by kernel_rfl) (by kernel_rfl) (fun _ _ _ h => h) (Or.inl ⟨by kernel_rfl, ?_⟩) (by assumption) ?_; rotate_left; (focus (intro w hSw; (try dsimp only at hSw); go_simp; first | done | with_reducible rfl | fail "take")); (try simp only [Act.put, List.setIfInBounds_toArray, List.set_cons_zero, List.set_cons_succ]))
        (refine takeL (i := 20) (v := ?_) rfl (by kernel_rfl) (by kernel_rfl) (by kernel_rfl) (fun _ _ _ h => h) (Or.inl ⟨by kernel_rfl, ?_⟩) (by assumption) ?_; rotate_left; (focus (intro w hSw; (try dsimp only at hSw); go_simp; first | done | with_reducible rfl | fail "take")); (try simp only [Act.put, List.setIfInBounds_toArray, List.set_cons_zero, List.set_cons_succ]))
        (refine takeL (i := 21) (v := ?_) rfl (by kernel_rfl) (by kernel_rfl) (by kernel_rfl) (fun _ _ _ h => h) (Or.inl ⟨by kernel_rfl, ?_⟩) (by assumption) ?_; rotate_left; (focus (intro w hSw; (try dsimp only at hSw); go_simp; first | done | with_reducible rfl | fail "take")); (try simp only [Act.put, List.setIfInBounds_toArray, List.set_cons_zero, List.set_cons_succ]))
        (refine takeL (i := 22) (v := ?_) rfl (by kernel_rfl) (by kernel_rfl) (by kernel_rfl) (fun _ _ _ h => h) (Or.inl ⟨by kernel_rfl, ?_⟩) (by assumption) ?_; rotate_left; (focus (intro w hSw; (try dsimp only at hSw); go_simp; first | done | with_reducible rfl | fail "take")); (try simp only [Act.put, List.setIfInBounds_toArray, List.set_cons_zero, List.set_cons_succ]))
        (refine takeL (i := 23) (v := ?_) rfl (by kernel_rfl) (by kernel_rfl) (by kernel_rfl) (fun _ _ _ h => h) (Or.inl ⟨by kernel_rfl, ?_⟩) (by assumption) ?_; rotate_left; (focus (intro w hSw; (try dsimp only at hSw); go_simp; first | done | with_reducible rfl | fail "take")); (try simp only [Act.put, List.setIfInBounds_toArray, List.set_cons_zero, List.set_cons_succ]))
        (refine takeL (i := 24) (v := ?_) rfl (by kernel_rfl) (by kernel_rfl) (by kernel_rfl) (fun _ _ _ h => h) (Or.inl ⟨by kernel_rfl, ?_⟩) (by assumption) ?_; rotate_left; (focus (intro w hSw; (try dsimp only at hSw); go_simp; first | done | with_reducible rfl | fail "take")); (try simp only [Act.put, List.setIfInBounds_toArray, List.set_cons_zero, List.set_cons_succ]))
        (refine takeL (i := 25) (v := ?_) rfl (by kernel_rfl) (by kernel_rfl) (by kernel_rfl) (fun _ _ _ h => h) (Or.inl ⟨by kernel_rfl, ?_⟩) (by assumption) ?_; rotate_left; (focus (intro w hSw; (try dsimp only at hSw); go_simp; first | done | with_reducible rfl | fail "take")); (try simp only [Act.put, List.setIfInBounds_toArray, List.set_cons_zero, List.set_cons_succ]))
        (refine takeL (i := 26) (v := ?_) rfl (by kernel_rfl) (by kernel_rfl) (by kernel_rfl) (fun _ _ _ h => h) (Or.inl ⟨by kernel_rfl, ?_⟩) (by assumption) ?_; rotate_left; (focus (intro w hSw; (try dsimp only at hSw); go_simp; first | done | with_reducible rfl | fail "take")); (try simp only [Act.put, List.setIfInBounds_toArray, List.set_cons_zero, List.set_cons_succ]))
        (refine takeL (i := 27) (v := ?_) rfl (by kernel_rfl) (by kernel_rfl) (by kernel_rfl) (fun _ _ _ h => h) (Or.inl ⟨by kernel_rfl, ?_⟩) (by assumption) ?_; rotate_left; (focus (intro w hSw; (try dsimp only at hSw); go_simp; first | done | with_reducible rfl | fail "take")); (try simp only [Act.put, List.setIfInBounds_toArray, List.set_cons_zero, List.set_cons_succ]))
        (refine takeL (i := 28) (v := ?_) rfl (by kernel_rfl) (by kernel_rfl) (by kernel_rfl) (fun _ _ _ h => h) (Or.inl ⟨by kernel_rfl, ?_⟩) (by assumption) ?_; rotate_left; (focus (intro w hSw; (try dsimp only at hSw); go_simp; first | done | with_reducible rfl | fail "take")); (try simp only [Act.put, List.setIfInBounds_toArray, List.set_cons_zero, List.set_cons_succ]))
        (refine takeL (i := 29) (v := ?_) rfl (by kernel_rfl) (by kernel_rfl) (by kernel_rfl) (fun _ _ _ h => h) (Or.inl ⟨by kernel_rfl, ?_⟩) (by assumption) ?_; rotate_left; (focus (intro w hSw; (try dsimp only at hSw); go_simp; first | done | with_reducible rfl | fail "take")); (try simp only [Act.put, List.setIfInBounds_toArray, List.set_cons_zero, List.set_cons_succ]))
        (refine takeL (i := 30) (v := ?_) rfl (by kernel_rfl) (by kernel_rfl) (by kernel_rfl) (fun _ _ _ h => h) (Or.inl ⟨by kernel_rfl, ?_⟩) (by assumption) ?_; rotate_left; (focus (intro w hSw; (try dsimp only at hSw); go_simp; first | done | with_reducible rfl | fail "take")); (try simp only [Act.put, List.setIfInBounds_toArray, List.set_cons_zero, List.set_cons_succ]))
        (refine takeL (i := 31) (v := ?_) rfl (by kernel_rfl) (by kernel_rfl) (by kernel_rfl) (fun _ _ _ h => h) (Or.inl ⟨by kernel_rfl, ?_⟩) (by assumption) ?_; rotate_left; (focus (intro w hSw; (try dsimp only at hSw); go_simp; first | done | with_reducible rfl | fail "take")); (try simp only [Act.put, List.setIfInBounds_toArray, List.set_cons_zero, List.set_cons_succ]))
        refine wpAnyH_done (by kernel_rfl) ?_ _
        go_wp2_with fail
        go_ret
        exact ⟨rfl, HBW.out.trans ((show Below W8.heap.size W8 _ by ((repeat (first | with_reducible assumption | with_reducible exact Below.refl _ _ | refine Below.setCell ?_ (by (first | omega | (simp; omega) | (simp; done) | fail "sml")) _ | refine Below.drew ?_ | refine Below.alloc ?_ (by (first | omega | (simp; omega) | (simp; done) | fail "sml")) _)); first | done | fail "chs")).mono HBW.out.size)⟩

end Go.Proofs.Ytchhobphockhhaa
