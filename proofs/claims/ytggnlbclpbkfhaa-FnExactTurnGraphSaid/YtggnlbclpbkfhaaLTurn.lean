/- The walk of FnExactTurnGraph. -/
import Derived.Test.YtggnlbclpbkfhaaMarkG
import Derived.Test.YtggnlbclpbkfhaaSTurn
namespace Go.Proofs.Ytggnlbclpbkfhaa
open Go.RowKit

theorem chgc {F : List Nat} {w w' : World} {b o : Nat} {x : Value} (hc : Chg F w w') (hb : b ∉ F) (h : w.cell? ⟨b, o, none⟩ = some x) : w'.cell? ⟨b, o, none⟩ = some x :=
  (World.cell?_of_block (w := w) (a := ⟨b, o, none⟩) (hc.block b (World.block_lt_of_cell? w _ h) hb)).trans h
theorem tgr_ns (g : Gr) : (tgr g).ns.length ≤ 8 := by
  unfold tgr; split
  · rename_i h; exact gv_ns (g := g) h
  · simp
theorem tgr_es (g : Gr) : (tgr g).es.length ≤ 14 := by
  unfold tgr; split
  · rename_i h; simpa using gv_len h
  · simp

set_option maxRecDepth 100000 in
set_option maxHeartbeats 4000000 in
theorem lawExactTurnGraph (g : Gr) (v : Value) (w : World) (hg : g.At w.heap.size w v) (hok : g.Ok) :
    Calls Try.prog 12 #[v] w fun e w' => e = .returned (.bool true) ∧ Below w.heap.size w w' := by
  have HG := Lib.hid hg
  obtain ⟨a, b, rfl, ha, hb⟩ := hg
  obtain ⟨pa, ca, rfl⟩ := ha.form
  obtain ⟨pb, cb, rfl⟩ := hb.form
  clear ha hb
  obtain ⟨R, eR⟩ : ∃ R, R = tgr g := ⟨_, rfl⟩
  have hR1 : R.ns.length ≤ 8 := eR ▸ tgr_ns g
  have hR2 : R.es.length ≤ 14 := eR ▸ tgr_es g
  have HS := Lib.hid (fun (v : Value) (B : Nat) (w : World) (hg : g.At B w v) (hB : B ≤ w.heap.size) => eR ▸ specTurnGraph_any g v B w hg hB hok)
  have HI := Lib.hid (fun (v : Value) (B : Nat) (w : World) (hg : g.At B w v) (hB : B ≤ w.heap.size) => eR ▸ turnGraph_any g v B w hg hB hok)
  clear eR
  go_enter Try.func12, Try.ntmps12
  go_wp2_with fail
  have HV := Lib.hid ((Below.refl w.heap.size w).alloc (by simp) (.cells #[.slice pa g.ns.length ca, .slice pb g.es.length cb] 43))
  have HA0 := Lib.hid (Below.refl (w.heap.size + 1) (w.alloc (.cells #[.slice pa g.ns.length ca, .slice pb g.es.length cb] 43)))
  refine (szGraph_any g _ 1048576 w.heap.size _ (HG.out.below HV.out) (by simp) (by omega) (by omega) hok).mono ?_
  rintro e w1 ⟨r, rfl, hr, hb1⟩
  have HA1 := Lib.hid (HA0.out.trans (hb1.mono (by simp)))
  clear hb1
  have HB1 := Lib.hid (HV.out.trans (HA1.out.mono (by omega)))
  obtain ⟨hs1, c0, c1⟩ := one_box HA1.out
  rcases hr with hr | ⟨hr0, hr⟩
  · have hneg : r < 0 := by omega
    clear hr
    go_wp2_with fail
    go_ret
    exact ⟨rfl, HB1.out⟩
  have hl1 : g.ns.length ≤ 1048576 := by unfold Gr.need at hr; omega
  have hl2 : g.es.length ≤ 1048576 := by unfold Gr.need at hr; omega
  clear hr
  go_wp2_with fail
  refine (toGraph_any g _ w.heap.size _ (HG.out.below HB1.out) (by omega) hl1 hl2).mono ?_
  rintro e w2 ⟨v2, K1, K2, rfl, ho2, hb2⟩
  have hs2 := hb2.size
  have HA2 := Lib.hid (HA1.out.trans (hb2.mono (by omega)))
  have HO2 := Lib.hid ho2.at
  clear hb2 ho2
  go_wp2_with fail
  refine (HS.out _ w2.heap.size _ HO2.out (Nat.le_refl _)).mono ?_
  rintro e w3 ⟨v3, FW1, FW2, rfl, ho3, hb3⟩
  have hs3 := hb3.size
  have HA3 := Lib.hid (HA2.out.trans (hb3.mono (by omega)))
  have HW3 := Lib.hid ho3
  have LW := Lib.hid ho3.lt
  obtain ⟨x1, x2, rfl, hx1, hx2, _⟩ := ho3
  obtain ⟨pw, cw, rfl⟩ := hx1.sl.form
  obtain ⟨qw, dw, rfl⟩ := hx2.sl.form
  clear hx1 hx2 hb3 c0 c1
  have HB3 := Lib.hid (HV.out.trans (HA3.out.mono (by omega)))
  obtain ⟨hs3', c0, c1⟩ := one_box HA3.out
  have t0 : w.heap.size < w3.heap.size := hs3'
  go_wp2_with fail
  clear t0
  have HQ3 := Lib.hid (Below.refl (w3.heap.size + 1) (w3.alloc (.cells #[.slice pw R.ns.length cw, .slice qw R.es.length dw] 26)))
  have HC3 := Lib.hid (HB3.out.alloc (by omega) (.cells #[.slice pw R.ns.length cw, .slice qw R.es.length dw] 26))
  refine (toGraph_any g _ w.heap.size _ (HG.out.below HC3.out) (by simp; omega) hl1 hl2).mono ?_
  rintro e w4 ⟨v4, F1, F2, rfl, ho4, hb4⟩
  have HQ4 := Lib.hid (HQ3.out.trans (hb4.mono (by simp)))
  have HA4 := Lib.hid (HA3.out.trans ((below_past hb4).mono (by omega)))
  have HW4 := Lib.hid (HW3.out.below (below_past hb4))
  have HO4 := Lib.hid ho4
  have LX := Lib.hid ho4.lt
  have hs4 : w3.heap.size + 1 ≤ w4.heap.size := by have := hb4.size; simp at this; omega
  obtain ⟨x1, x2, rfl, hx1, hx2, lx1, lx2, _⟩ := ho4
  have GX := Lib.hid (show (∀ x ∈ F1, w3.heap.size + 1 ≤ x) ∧ (∀ x ∈ F2, w3.heap.size + 1 ≤ x) from ⟨fun x hx => by have := lx1 x hx; simp at this; omega, fun x hx => by have := lx2 x hx; simp at this; omega⟩)
  obtain ⟨px, cx, rfl⟩ := hx1.sl.form
  obtain ⟨qx, dx, rfl⟩ := hx2.sl.form
  clear hx1 hx2 lx1 lx2 hb4 c0 c1
  have HB4 := Lib.hid (HV.out.trans (HA4.out.mono (by omega)))
  go_wp2_with fail
  have HP4 := Lib.hid (Below.refl (w4.heap.size + 1) (w4.alloc (.cells #[.slice px g.ns.length cx, .slice qx g.es.length dx] 26)))
  refine (HI.out _ w4.heap.size _ (HO4.out.at.below ((Below.refl _ _).alloc (Nat.le_refl _) _)) (by simp)).mono ?_
  rintro e w5 ⟨v5, FG1, FG2, rfl, ho5, hb5⟩
  have HP5 := Lib.hid (HP4.out.trans (hb5.mono (by simp)))
  have HQ5 := Lib.hid (HQ4.out.trans ((below_past hb5).mono (by omega)))
  have HA5 := Lib.hid (HA4.out.trans ((below_past hb5).mono (by omega)))
  have HO5 := Lib.hid (HO4.out.below (below_past hb5))
  have HW5 := Lib.hid (HW4.out.below (below_past hb5))
  have HG5 := Lib.hid ho5
  have LG := Lib.hid ho5.lt
  have hs5 : w4.heap.size + 1 ≤ w5.heap.size := by have := hb5.size; simp at this; omega
  obtain ⟨x1, x2, rfl, hx1, hx2, lx1, lx2, _⟩ := ho5
  have GG := Lib.hid (show (∀ x ∈ FG1, w4.heap.size + 1 ≤ x) ∧ (∀ x ∈ FG2, w4.heap.size + 1 ≤ x) from ⟨fun x hx => by have := lx1 x hx; simp at this; omega, fun x hx => by have := lx2 x hx; simp at this; omega⟩)
  obtain ⟨pg, cg, rfl⟩ := hx1.sl.form
  obtain ⟨qg, dg', rfl⟩ := hx2.sl.form
  clear hx1 hx2 lx1 lx2 hb5
  obtain ⟨hq5, k0, k1⟩ := one_box HQ5.out
  have t0 : w3.heap.size < w5.heap.size := hq5
  go_wp2_with fail
  clear t0 k0 k1
  have HR5 := Lib.hid (Below.refl (w5.heap.size + 1) (w5.alloc (.cells #[.slice pg R.ns.length cg, .slice qg R.es.length dg'] 26)))
  have HZ5 := Lib.hid ((Below.refl w5.heap.size w5).alloc (Nat.le_refl _) (.cells #[.slice pg R.ns.length cg, .slice qg R.es.length dg'] 26))
  refine (eqGraph_any R _ _ w5.heap.size _ (HG5.out.at.below HZ5.out) (HW5.out.at.below HZ5.out) (by simp)).mono ?_
  rintro e w6 ⟨rfl, hb6⟩
  have HR6 := Lib.hid (HR5.out.trans (hb6.mono (by simp)))
  have HP6 := Lib.hid (HP5.out.trans ((below_past hb6).mono (by omega)))
  have HQ6 := Lib.hid (HQ5.out.trans ((below_past hb6).mono (by omega)))
  have HA6 := Lib.hid (HA5.out.trans ((below_past hb6).mono (by omega)))
  have HO6 := Lib.hid (HO5.out.below (below_past hb6))
  have HW6 := Lib.hid (HW5.out.below (below_past hb6))
  have HG6 := Lib.hid (HG5.out.below (below_past hb6))
  clear hb6
  have HB6 := Lib.hid (HV.out.trans (HA6.out.mono (by omega)))
  obtain ⟨hs6', c0, c1⟩ := one_box HA6.out
  obtain ⟨hp6, d0, d1⟩ := one_box HP6.out
  obtain ⟨hr6, r0, r1⟩ := one_box HR6.out
  have z0 : w.heap.size ≤ w6.drew.heap.size := by simp; omega
  have z1 : w.heap.size < w6.drew.heap.size := hs6'
  have z4 : w4.heap.size < w6.drew.heap.size := hp6
  have HGd := Lib.hid (HG.out.below HB6.out.drew)
  have HXd := Lib.hid (HO6.out.at.below ((Below.refl w6.heap.size w6).drew))
  go_upto_region 10 with fail
  go_cut [45] (fun s wx => s = .bool false ∧ Below w6.heap.size w6 wx)
  case first =>
    go_region_held3 (fun w' => w'.cell? ⟨w.heap.size, 0, none⟩ = some (.slice pa g.ns.length ca) ∧ w'.cell? ⟨w.heap.size, 1, none⟩ = some (.slice pb g.es.length cb) ∧ w'.cell? ⟨w4.heap.size, 0, none⟩ = some (.slice px g.ns.length cx) ∧ w'.cell? ⟨w4.heap.size, 1, none⟩ = some (.slice qx g.es.length dx))
      (first | exact ⟨c0, c1, d0, d1⟩ | exact S6.out | exact S7.out)
      (first
        | (go_at_call 23; refine (toGraph_any g _ w.heap.size _ HGd.out z0 hl1 hl2).mono ?_; rintro e wa ⟨va, M1, M2, rfl, hoa, hba⟩; have S6 := Lib.hid (And.intro (keepc hba z1 c0) (And.intro (keepc hba z1 c1) (And.intro (keepc hba z4 d0) (keepc hba z4 d1)))); have y1 := Nat.lt_of_lt_of_le z1 hba.size; have y4 := Nat.lt_of_lt_of_le z4 hba.size; have HXa := Lib.hid ((HXd.out.below hba).mono hba.size); have HBa := Lib.hid (((Below.refl w6.heap.size w6).drew).trans hba); have HOa := Lib.hid hoa.at; clear hba hoa)
        | (go_at_call 25; refine (eqGraph_any g _ _ wa.heap.size _ HXa.out HOa.out (Nat.le_refl _)).mono ?_; rintro e wb ⟨rfl, hbb⟩; have S7 := Lib.hid (And.intro (keepc hbb y1 S6.out.1) (And.intro (keepc hbb y1 S6.out.2.1) (And.intro (keepc hbb y4 S6.out.2.2.1) (keepc hbb y4 S6.out.2.2.2)))); have HBb := Lib.hid (HBa.out.trans (hbb.mono HBa.out.size)); clear hbb))
    all_goals (go_wp2_with fail; go_meet)
    all_goals exact ⟨rfl, HBb.out⟩
  case rest =>
    obtain ⟨rfl, hbx⟩ := hcut
    clear HGd HXd z0 z1 z4 c0 c1 d0 d1
    have hs7 := hbx.size
    have HP7 := Lib.hid (HP6.out.trans (hbx.mono (by omega)))
    have HQ7 := Lib.hid (HQ6.out.trans (hbx.mono (by omega)))
    have HA7 := Lib.hid (HA6.out.trans (hbx.mono (by omega)))
    have HO7 := Lib.hid (HO6.out.below hbx)
    have HW7 := Lib.hid (HW6.out.below hbx)
    have HG7 := Lib.hid (HG6.out.below hbx)
    have r0' := keepc hbx hr6 r0
    have r1' := keepc hbx hr6 r1
    clear hbx r0 r1
    obtain ⟨hp7, d0, d1⟩ := one_box HP7.out
    go_wp2_with fail
    refine (markGraph_any g _ _ F1 F2 1 _ HO7.out (by omega) (by omega)).mono ?_
    rintro e w8 ⟨rfl, _, hc8⟩
    have hs8 := hc8.size
    have n1 := LX.out.1
    have n2 := LX.out.2
    have n3 := GX.out.1
    have n4 := GX.out.2
    have nw1 := LW.out.1
    have nw2 := LW.out.2
    have ng1 := GG.out.1
    have ng2 := GG.out.2
    have nl1 := LG.out.1
    have nl2 := LG.out.2
    have hF : ∀ x ∈ F1 ++ F2, w3.heap.size + 1 ≤ x ∧ x < w4.heap.size := fun x hx => by
      rcases List.mem_append.1 hx with hx | hx
      · exact ⟨n3 x hx, n1 x hx⟩
      · exact ⟨n4 x hx, n2 x hx⟩
    have HA8 := Lib.hid (HA7.out.trans (hc8.below (by omega) (fun x hx => by have := hF x hx; omega)))
    have HQ8 := Lib.hid (HQ7.out.trans (hc8.below (by omega) (fun x hx => by have := hF x hx; omega)))
    have HW8 := Lib.hid (HW7.out.chg hc8 (fun x hx hx2 => by have := nw1 x hx; have := hF x hx2; omega) (fun x hx hx2 => by have := nw2 x hx; have := hF x hx2; omega))
    have HG8 := Lib.hid (HG7.out.chg hc8 (fun x hx hx2 => by have := ng1 x hx; have := hF x hx2; omega) (fun x hx hx2 => by have := ng2 x hx; have := hF x hx2; omega))
    have r0 := chgc hc8 (fun hx => by have := hF _ hx; omega) r0'
    have r1 := chgc hc8 (fun hx => by have := hF _ hx; omega) r1'
    clear hc8 d0 d1 r0' r1' hF n1 n2 n3 n4 nw1 nw2 ng1 ng2 nl1 nl2
    obtain ⟨hq8, k0, k1⟩ := one_box HQ8.out
    go_wp2_with fail
    refine (eqGraph_any R _ _ w8.heap.size _ HG8.out.at HW8.out.at (Nat.le_refl _)).mono ?_
    rintro e w9 ⟨rfl, hb9⟩
    have hs9 := hb9.size
    have HA9 := Lib.hid (HA8.out.trans (hb9.mono (by omega)))
    have HQ9 := Lib.hid (HQ8.out.trans (hb9.mono (by omega)))
    have HW9 := Lib.hid (HW8.out.below hb9)
    have HG9 := Lib.hid (HG8.out.below hb9)
    have r0' := keepc hb9 (by omega) r0
    have r1' := keepc hb9 (by omega) r1
    clear hb9 r0 r1 k0 k1
    go_wp2_with fail
    refine (markGraph_any R _ _ FG1 FG2 1 _ HG9.out (by omega) (by omega)).mono ?_
    rintro e w10 ⟨rfl, ho10, hc10⟩
    have hs10 := hc10.size
    have nw1 := LW.out.1
    have nw2 := LW.out.2
    have ng1 := GG.out.1
    have ng2 := GG.out.2
    have nl1 := LG.out.1
    have nl2 := LG.out.2
    have hF : ∀ x ∈ FG1 ++ FG2, w4.heap.size + 1 ≤ x ∧ x < w5.heap.size := fun x hx => by
      rcases List.mem_append.1 hx with hx | hx
      · exact ⟨ng1 x hx, nl1 x hx⟩
      · exact ⟨ng2 x hx, nl2 x hx⟩
    have HA10 := Lib.hid (HA9.out.trans (hc10.below (by omega) (fun x hx => by have := hF x hx; omega)))
    have HQ10 := Lib.hid (HQ9.out.trans (hc10.below (by omega) (fun x hx => by have := hF x hx; omega)))
    have HW10 := Lib.hid (HW9.out.chg hc10 (fun x hx hx2 => by have := nw1 x hx; have := hF x hx2; omega) (fun x hx hx2 => by have := nw2 x hx; have := hF x hx2; omega))
    have HM10 := Lib.hid ho10
    have r0 := chgc hc10 (fun hx => by have := hF _ hx; omega) r0'
    have r1 := chgc hc10 (fun hx => by have := hF _ hx; omega) r1'
    clear hc10 ho10 r0' r1' hF nw1 nw2 ng1 ng2 nl1 nl2
    go_wp2_with fail
    refine (heldGraph_any R _ 1 w10.heap.size _ HM10.out.at (Nat.le_refl _) (by omega) (by omega)).mono ?_
    rintro e w11 ⟨rfl, hb11⟩
    have hs11 := hb11.size
    have HA11 := Lib.hid (HA10.out.trans (hb11.mono (by omega)))
    have HQ11 := Lib.hid (HQ10.out.trans (hb11.mono (by omega)))
    have HW11 := Lib.hid (HW10.out.below hb11)
    have HM11 := Lib.hid (HM10.out.below hb11)
    have r0' := keepc hb11 (by omega) r0
    have r1' := keepc hb11 (by omega) r1
    clear hb11 r0 r1
    have HB11 := Lib.hid (HV.out.trans (HA11.out.mono (by omega)))
    obtain ⟨hs11', c0, c1⟩ := one_box HA11.out
    go_wp2_with fail
    refine (toGraph_any g _ w.heap.size _ (HG.out.below HB11.out) (by omega) hl1 hl2).mono ?_
    rintro e w12 ⟨v12, M1, M2, rfl, ho12, hb12⟩
    have hs12 := hb12.size
    have HO12 := Lib.hid ho12.at
    have HB12 := Lib.hid (HB11.out.trans (hb12.mono (by omega)))
    have HQ12 := Lib.hid (HQ11.out.trans (hb12.mono (by omega)))
    have HW12 := Lib.hid (HW11.out.below hb12)
    have HM12 := Lib.hid (HM11.out.below hb12)
    have r0 := keepc hb12 (by omega) r0'
    have r1 := keepc hb12 (by omega) r1'
    clear hb12 ho12 c0 c1 r0' r1'
    go_wp2_with fail
    refine (HI.out _ w12.heap.size _ HO12.out (Nat.le_refl _)).mono ?_
    rintro e w13 ⟨v13, FH1, FH2, rfl, ho13, hb13⟩
    have hs13 := hb13.size
    have HH13 := Lib.hid ho13.at
    have HB13 := Lib.hid (HB12.out.trans (hb13.mono (by omega)))
    have HQ13 := Lib.hid (HQ12.out.trans (hb13.mono (by omega)))
    have HW13 := Lib.hid (HW12.out.below hb13)
    have HM13 := Lib.hid (HM12.out.below hb13)
    have r0' := keepc hb13 (by omega) r0
    have r1' := keepc hb13 (by omega) r1
    obtain ⟨x1, x2, rfl, hx1, hx2, _⟩ := ho13
    obtain ⟨ph, ch, rfl⟩ := hx1.sl.form
    obtain ⟨qh, dh, rfl⟩ := hx2.sl.form
    clear hx1 hx2 hb13 r0 r1
    obtain ⟨hq13, k0, k1⟩ := one_box HQ13.out
    have t0 : w3.heap.size < w13.heap.size := hq13
    have t5 : w5.heap.size < w13.heap.size := by omega
    go_wp2_with fail
    clear t0 k0 k1
    have HZ13 := Lib.hid ((Below.refl w13.heap.size w13).alloc (Nat.le_refl _) (.cells #[.slice ph R.ns.length ch, .slice qh R.es.length dh] 26))
    have r0 := keepc HZ13.out t5 r0'
    have r1 := keepc HZ13.out t5 r1'
    refine (eqGraph_any R _ _ w13.heap.size _ (HH13.out.below HZ13.out) (HW13.out.at.below HZ13.out) (by simp)).mono ?_
    rintro e w14 ⟨rfl, hb14⟩
    have hs14 : w13.heap.size < w14.heap.size := by have := hb14.size; simp at this; omega
    have HB14 := Lib.hid (HB13.out.trans ((below_past hb14).mono (by omega)))
    have HM14 := Lib.hid (HM13.out.below (below_past hb14))
    have r0'' := keepc (below_past hb14) t5 r0'
    have r1'' := keepc (below_past hb14) t5 r1'
    clear hb14 r0' r1' r0 r1 t5
    go_wp2_with fail
    refine (heldGraph_any R _ 1 w14.heap.size _ HM14.out.at (Nat.le_refl _) (by omega) (by omega)).mono ?_
    rintro e w15 ⟨rfl, hb15⟩
    have HB15 := Lib.hid (HB14.out.trans (hb15.mono (by omega)))
    clear hb15
    go_wp2_with fail
    go_ret
    exact ⟨rfl, HB15.out⟩
end Go.Proofs.Ytggnlbclpbkfhaa
