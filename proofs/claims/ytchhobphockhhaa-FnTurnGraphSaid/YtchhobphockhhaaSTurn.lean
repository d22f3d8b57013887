/- spec.TurnGraph. -/
import Derived.Test.YtchhobphockhhaaCopy
namespace Go.Proofs.Ytchhobphockhhaa
open Go.RowKit

def turnAt (es : List Ed) (k : Nat) : Ed := turnE (es[k]?.getD ⟨0, 0, ⟨#[]⟩, 0⟩)
theorem turnAt_eq {es : List Ed} {k : Nat} (h : k < es.length) : turnAt es k = turnE es[k] := by unfold turnAt; rw [List.getElem?_eq_getElem h]; rfl
theorem kc {a b o : Nat} {x : Value} {w w' : World} (hc : Chg [a] w w') (hab : b ≠ a) (h : w.cell? ⟨b, o, none⟩ = some x) : w'.cell? ⟨b, o, none⟩ = some x :=
  (World.cell?_of_block (w := w) (a := ⟨b, o, none⟩) (hc.block b (World.block_lt_of_cell? w _ h) (by simpa using hab))).trans h
theorem turnAt_map (es : List Ed) : (List.range es.length).map (turnAt es) = es.map turnE := by
  apply List.ext_getElem (by simp)
  intro i h1 h2
  simp at h1 h2
  simp [turnAt_eq h1]

set_option maxRecDepth 100000 in
set_option maxHeartbeats 2000000 in
theorem specTurnGraph_any (g : Gr) (v : Value) (B : Nat) (w : World) (hg : g.At B w v) (hB : B ≤ w.heap.size) (hok : g.Ok) :
    Calls Try.prog 38 #[v] w fun e w' => ∃ v' F1 F2, e = .returned (.tuple #[v', .bool (gv g)]) ∧ (tgr g).Own w.heap.size w' v' F1 F2 ∧ Below w.heap.size w w' := by
  have HG := Lib.hid hg
  obtain ⟨a, b, rfl, ha, hb⟩ := hg
  obtain ⟨pa, ca, rfl⟩ := ha.form
  obtain ⟨p, cap, rfl⟩ := hb.form
  have hm := hb.max
  unfold maxLen at hm
  go_enter Try.func38, Try.ntmps38
  go_wp2_with fail
  have HV := Lib.hid (((Below.refl w.heap.size w).alloc (by simp) (.cells #[.slice pa g.ns.length ca, .slice p g.es.length cap] 55)).alloc (by simp) (.cells #[.slice none 0 0, .slice none 0 0] 55))
  have HA0 := Lib.hid (Below.refl (w.heap.size + 2) ((w.alloc (.cells #[.slice pa g.ns.length ca, .slice p g.es.length cap] 55)).alloc (.cells #[.slice none 0 0, .slice none 0 0] 55)))
  refine (specGraphValid_any g _ B _ (HG.out.below (HV.out.mono hB)) (by simp; omega) hok).mono ?_
  rintro e w1 ⟨rfl, hb1⟩
  have HA1 := Lib.hid (HA0.out.trans (hb1.mono (by simp)))
  clear hb1
  have HB1 := Lib.hid (HV.out.trans (HA1.out.mono (by omega)))
  obtain ⟨hs1, c0, c1, c2, c3⟩ := two_boxes HA1.out
  have f2 := boxes_frozen HA1.out 0
  have f3 := boxes_frozen HA1.out 1
  cases hgv : gv g with
  | false =>
    have HT := Lib.hid (show tgr g = ⟨[], []⟩ by unfold tgr; rw [hgv]; rfl)
    go_wp2_with fail
    refine bodyPost_ret (v := .tuple #[.agg #[.slice none 0 0, .slice none 0 0], .bool false]) (by simp [results, Try.results38, go_sem, c2, c3]) rfl ⟨_, [], [], by rw [hgv], by rw [HT.out]; exact Gr.Own.empty _ _, (HB1.out.setCell (by simp) _).setCell (by simp) _⟩
  | true =>
    have h14 := gv_len hgv
    have h8 := gv_ns hgv
    have HT := Lib.hid (show tgr g = ⟨g.ns, g.es.map turnE⟩ by unfold tgr; rw [hgv]; rfl)
    go_wp2_with fail
    refine (l1Copy_any g _ B _ (HG.out.below (HB1.out.mono hB)) (by omega) (by omega) (by omega)).mono ?_
    rintro e w2 ⟨v2, F1, F2, rfl, ho2, hb2⟩
    have hs2 := hb2.size
    have HA2 := Lib.hid (HA1.out.trans (hb2.mono hs1))
    have HB2 := Lib.hid (HB1.out.trans (hb2.mono (by omega)))
    have LO := Lib.hid ho2.lt
    obtain ⟨x1, x2, rfl, hn, he, l1, l2, ld⟩ := ho2
    obtain ⟨pn, cn, rfl⟩ := hn.sl.form
    obtain ⟨pe, ce, rfl⟩ := he.sl.form
    have HN := Lib.hid hn
    have HE := Lib.hid he
    have L1 := Lib.hid l1
    have L2 := Lib.hid l2
    have LD := Lib.hid ld
    clear hn he l1 l2 ld hb2 c0 c1 c2 c3 f2 f3
    obtain ⟨hs2', c0, c1, c2, c3⟩ := two_boxes HA2.out
    go_wp2_with fail
    clear c0 c1 c2 c3
    have HP2 := Lib.hid (HB2.out.alloc (by omega) (.cells #[.slice pn g.ns.length cn, .slice pe g.es.length ce] 55))
    go_loopw [5] (fun i wr => ∃ k : Nat, k ≤ g.es.length ∧ i = .int .i64 k ∧ OwnSl 4 Ed.cells wr (.slice pe g.es.length ce) (half (turnAt g.es) g.es k) F2 ∧ Chg F2 (w2.alloc (.cells #[.slice pn g.ns.length cn, .slice pe g.es.length ce] 55)) wr) (fun i _ => g.es.length - (intOf i).toNat)
    case atStart => exact ⟨0, Nat.zero_le _, rfl, by rw [half_zero]; exact HE.out.below ((Below.refl _ _).alloc (Nat.le_refl _) _), Chg.refl _ _⟩
    case round =>
      obtain ⟨k, hk, rfl, hown, hch⟩ := hrel
      have hsz := hch.size
      simp at hsz
      have q1 := L2.out
      have q2 := LO.out.2
      have hbw : Below (w.heap.size + 2) (w2.alloc (.cells #[.slice pn g.ns.length cn, .slice pe g.es.length ce] 55)) wr := hch.below (by simp; omega) (fun x hx => by have := q1 x hx; omega)
      have HC := Lib.hid hch
      have HA := Lib.hid ((HA2.out.alloc hs2' _).trans hbw)
      have HBW := Lib.hid (HP2.out.trans (hbw.mono (by omega)))
      obtain ⟨hs3, c0, c1, c2, c3⟩ := two_boxes HA.out
      have d0 : wr.cell? ⟨w2.heap.size, 0, none⟩ = some (.slice pn g.ns.length cn) := (World.cell?_of_block (w := w2.alloc _) (a := ⟨w2.heap.size, 0, none⟩) (hch.block w2.heap.size (by simp) (fun hx => by have := q2 _ hx; omega))).trans (by simp [go_sem])
      have d1 : wr.cell? ⟨w2.heap.size, 1, none⟩ = some (.slice pe g.es.length ce) := (World.cell?_of_block (w := w2.alloc _) (a := ⟨w2.heap.size, 1, none⟩) (hch.block w2.heap.size (by simp) (fun hx => by have := q2 _ hx; omega))).trans (by simp [go_sem])
      clear hch hbw
      by_cases hlt : k < g.es.length
      · obtain ⟨b, off, rfl, hbb, e0, e1, e2, e3⟩ := (hb.below (HBW.out.mono hB)).ed hlt
        have hlen := half_length (turnAt g.es) g.es hk
        obtain ⟨bo, oo, rfl, hF, hbo, hfz, hcells⟩ := hown.elem (k := k) (by rw [hlen]; exact hlt)
        subst hF
        have q3 := q1 bo (by simp)
        have own0 : OwnSl 4 Ed.cells wr (.slice (some ⟨bo, oo, none⟩) g.es.length ce) ((half (turnAt g.es) g.es k).set k g.es[k]) [bo] := by
          have e := half_at (turnAt g.es) g.es hlt (by rw [hlen]; exact hlt)
          rw [← e, List.set_getElem_self]; exact hown
        have hsucc := half_succ (turnAt g.es) g.es hlt
        rw [turnAt_eq hlt] at hsucc
        obtain ⟨x, ex⟩ : ∃ x, x = g.es[k] := ⟨_, rfl⟩
        rw [← ex] at own0 e0 e1 e2 e3 hsucc
        have HL := Lib.hid (show k < (half (turnAt g.es) g.es k).length by rw [hlen]; exact hlt)
        have HS := Lib.hid hsucc
        have OW := Lib.hid own0
        clear ex hcells hown hsucc own0 hlen hfz
        have g0 := (OW.out.setcell HL.out (j := 0) rfl).1
        have g1 := (OW.out.setcell HL.out (j := 1) rfl).1
        have y0 := (OW.out.setcell HL.out (j := 0) (x := .int .i64 x.f) rfl).2
        have y1 := (OW.out.setcell HL.out (j := 1) (x := .int .i64 x.t) rfl).2
        rw [Nat.add_zero] at g0 y0
        have n1 : bo ≠ b := by omega
        have n2 : b ≠ bo := by omega
        have n3 : bo ≠ w.heap.size := by have := q2 bo (by simp); omega
        have n4 : bo ≠ w2.heap.size := by have := q2 bo (by simp); omega
        have n5 : w.heap.size ≠ bo := by omega
        have n6 : w2.heap.size ≠ bo := by omega
        go_upto_region 7 with fail
        go_cut [27] (fun _ wx => OwnSl 4 Ed.cells wx (.slice (some ⟨bo, oo, none⟩) g.es.length ce) ((half (turnAt g.es) g.es k).set k ⟨x.t, x.t, x.l, x.n⟩) [bo] ∧ Chg [bo] wr wx)
        case first =>
          go_still_tail 11, (by kernel_rfl)
          go_wp2_with fail
          go_meet
          have h0 := OW.out.restore HL.out (fun _ => rfl) 0 (by decide) ⟨x.t, x.t, x.l, x.n⟩ (.int .i64 x.t) rfl
          rw [Nat.add_zero] at h0
          exact ⟨h0.below ⟨rfl, rfl, rfl, Nat.le_refl _, fun _ _ => rfl⟩, ((Chg.refl [bo] wr).setCell (p := ⟨bo, oo + k * 4, none⟩) (by simp) (.int .i64 x.t)).then_below ⟨rfl, rfl, rfl, Nat.le_refl _, fun _ _ => rfl⟩⟩
        case rest =>
          obtain ⟨hw, hcc⟩ := hcut
          have OV := Lib.hid hw
          have CV := Lib.hid hcc
          have c0' := kc hcc n5 c0
          have c1' := kc hcc n5 c1
          have d0' := kc hcc n6 d0
          have d1' := kc hcc n6 d1
          have e0' := kc hcc n2 e0
          have e1' := kc hcc n2 e1
          have v0 := (OV.out.setcell HL.out (j := 0) rfl).1
          have v1 := (OV.out.setcell HL.out (j := 1) rfl).1
          have u0 := (OV.out.setcell HL.out (j := 0) (x := .int .i64 x.t) rfl).2
          have u1 := (OV.out.setcell HL.out (j := 1) (x := .int .i64 x.t) rfl).2
          rw [Nat.add_zero] at v0 u0
          clear hw hcc c0 c1 d0 d1 e0 e1 e2 e3 g0 g1 y0 y1 c2 c3
          go_wp2_with fail
          go_still_tail 11, (by kernel_rfl)
          go_wp2_with fail
          go_roundw
          case rel =>
            have h1 := OV.out.restore HL.out (fun _ => rfl) 1 (by decide) (turnE x) (.int .i64 x.f) rfl
            rw [HS.out] at h1
            exact ⟨k + 1, by omega, by go_num, h1.below ⟨rfl, rfl, rfl, Nat.le_refl _, fun _ _ => rfl⟩, ((HC.out.trans CV.out).setCell (p := ⟨bo, oo + k * 4 + 1, none⟩) (by simp) (.int .i64 x.f)).then_below ⟨rfl, rfl, rfl, Nat.le_refl _, fun _ _ => rfl⟩⟩
          case measure => simp [intOf]; omega
      · obtain rfl : k = g.es.length := by omega
        rw [half_full, turnAt_map] at hown
        have HO := Lib.hid hown
        have r4 := boxes_frozen HA.out 0
        have r5 := boxes_frozen HA.out 1
        clear hown
        go_wp2_with fail
        refine bodyPost_ret (v := .tuple #[.agg #[.slice pn g.ns.length cn, .slice pe g.es.length ce], .bool true]) (by simp [results, Try.results38, go_sem, c2, c3]) rfl ⟨_, F1, F2, by rw [hgv], ?_, (HBW.out.setCell (by simp) _).setCell (by simp) _⟩
        have hch : Chg [w.heap.size + 1] wr ((wr.setCell ⟨w.heap.size + 1, 0, none⟩ (.slice pn g.ns.length cn)).setCell ⟨w.heap.size + 1, 1, none⟩ (.slice pe g.es.length ce)) := ((Chg.refl _ wr).setCell (by simp) _).setCell (by simp) _
        rw [HT.out]
        have m1 := L1.out
        refine ⟨_, _, rfl, ((HN.out.below ((Below.refl _ _).alloc (Nat.le_refl _) _)).chg HC.out (fun x hx hx2 => LD.out x hx hx2)).chg hch ?_, HO.out.chg hch ?_, ?_, ?_, fun x hx hx2 => LD.out x hx hx2⟩
        · intro x hx; have := m1 x hx; simp; omega
        · intro x hx; have := q1 x hx; simp; omega
        · intro x hx; have := m1 x hx; omega
        · intro x hx; have := q1 x hx; omega
end Go.Proofs.Ytchhobphockhhaa
