/- The walk of FnExactOutEdges. -/
import Derived.Test.YtggnlbclpbkfhaaMarkG
import Derived.Test.YtggnlbclpbkfhaaSEdges
namespace Go.Proofs.Ytggnlbclpbkfhaa
open Go.RowKit

theorem edgesOut_len (g : Gr) (node : Int) : (edgesOut g node).length ≤ 14 := by
  unfold edgesOut
  split
  · rename_i h; have := gv_len h; have := pick_le (byOut node) g.es g.es.length; omega
  · simp

set_option maxRecDepth 100000 in
set_option maxHeartbeats 4000000 in
theorem lawExactOutEdges (g : Gr) (v : Value) (node : Int) (w : World) (hg : g.At w.heap.size w v) (hok : g.Ok) :
    Calls Try.prog 10 #[v, .int .i64 node] w fun e w' => e = .returned (.bool true) ∧ Below w.heap.size w w' := by
  have HG := Lib.hid hg
  obtain ⟨a, b, rfl, ha, hb⟩ := hg
  obtain ⟨pa, ca, rfl⟩ := ha.form
  obtain ⟨pb, cb, rfl⟩ := hb.form
  clear ha hb
  go_enter Try.func10, Try.ntmps10
  go_wp2_with fail
  have HV := Lib.hid ((Below.refl w.heap.size w).alloc (by simp) (.cells #[.slice pa g.ns.length ca, .slice pb g.es.length cb] 43))
  have HA0 := Lib.hid (Below.refl (w.heap.size + 1) (w.alloc (.cells #[.slice pa g.ns.length ca, .slice pb g.es.length cb] 43)))
  refine (szGraph_any g _ 1048576 w.heap.size _ (HG.out.below HV.out) (by simp) (by omega) (by omega) hok).mono ?_
  rintro e w1 ⟨r, rfl, hr, hb1⟩
  have HA1 := Lib.hid (HA0.out.trans (hb1.mono (by simp)))
  clear hb1
  have HB1 := Lib.hid (HV.out.trans (HA1.out.mono (by omega)))
  obtain ⟨hs1, c0, c1⟩ := one_box HA1.out
  rcases hr with hr | ⟨hr0, hr⟩
  · have hneg : r < 0 := by omega
    clear hr
    go_wp2_with fail
    go_ret
    exact ⟨rfl, HB1.out⟩
  have hl1 : g.ns.length ≤ 1048576 := by unfold Gr.need at hr; omega
  have hl2 : g.es.length ≤ 1048576 := by unfold Gr.need at hr; omega
  have hle := edgesOut_len g node
  clear hr
  go_wp2_with fail
  refine (toGraph_any g _ w.heap.size _ (HG.out.below HB1.out) (by omega) hl1 hl2).mono ?_
  rintro e w2 ⟨v2, K1, K2, rfl, ho2, hb2⟩
  have hs2 := hb2.size
  have HA2 := Lib.hid (HA1.out.trans (hb2.mono (by omega)))
  have HO2 := Lib.hid ho2.at
  clear hb2 ho2
  go_wp2_with fail
  refine (specOutEdges_any g _ node w2.heap.size _ HO2.out (Nat.le_refl _) hok).mono ?_
  rintro e w3 ⟨v3, FW, rfl, ho3, hf3, hb3⟩
  have hs3 := hb3.size
  have HA3 := Lib.hid (HA2.out.trans (hb3.mono (by omega)))
  have HW3 := Lib.hid ho3
  have LW := Lib.hid ho3.lt
  clear hb3 ho3 hf3 c0 c1
  have HB3 := Lib.hid (HV.out.trans (HA3.out.mono (by omega)))
  obtain ⟨hs3', c0, c1⟩ := one_box HA3.out
  go_wp2_with fail
  refine (toGraph_any g _ w.heap.size _ (HG.out.below HB3.out) (by omega) hl1 hl2).mono ?_
  rintro e w4 ⟨v4, F1, F2, rfl, ho4, hb4⟩
  have hs4 := hb4.size
  have HO4 := Lib.hid ho4
  have HA4 := Lib.hid (HA3.out.trans (hb4.mono (by omega)))
  have HW4 := Lib.hid (HW3.out.below hb4)
  have LX := Lib.hid ho4.lt
  obtain ⟨x1, x2, rfl, hx1, hx2, lx1, lx2, _⟩ := ho4
  have GX := Lib.hid (And.intro lx1 lx2)
  obtain ⟨px, cx, rfl⟩ := hx1.sl.form
  obtain ⟨py, cy, rfl⟩ := hx2.sl.form
  clear hx1 hx2 lx1 lx2 hb4 c0 c1
  have HB4 := Lib.hid (HV.out.trans (HA4.out.mono (by omega)))
  go_wp2_with fail
  have HP4 := Lib.hid (Below.refl (w4.heap.size + 1) (w4.alloc (.cells #[.slice px g.ns.length cx, .slice py g.es.length cy] 26)))
  refine (outEdges_any g _ node w4.heap.size _ (HO4.out.at.below ((Below.refl _ _).alloc (Nat.le_refl _) _)) (by simp) hok).mono ?_
  rintro e w5 ⟨v5, FG, rfl, ho5, hf5, hb5⟩
  have HP5 := Lib.hid (HP4.out.trans (hb5.mono (by simp)))
  have HA5 := Lib.hid (HA4.out.trans ((below_past hb5).mono (by omega)))
  have HO5 := Lib.hid (HO4.out.below (below_past hb5))
  have HW5 := Lib.hid (HW4.out.below (below_past hb5))
  have HG5 := Lib.hid ho5
  have GG := Lib.hid (show ∀ x ∈ FG, w4.heap.size + 1 ≤ x from fun x hx => by have := hf5 x hx; simp at this; omega)
  clear hb5 ho5 hf5
  obtain ⟨hp5, d0, d1⟩ := one_box HP5.out
  go_wp2_with fail
  refine (eqIntS_any _ _ _ w5.heap.size _ HG5.out.sl HW5.out.sl (Nat.le_refl _)).mono ?_
  rintro e w6 ⟨rfl, hb6⟩
  have hs6 := hb6.size
  have HP6 := Lib.hid (HP5.out.trans (hb6.mono (by omega)))
  have HA6 := Lib.hid (HA5.out.trans (hb6.mono (by omega)))
  have HO6 := Lib.hid (HO5.out.below hb6)
  have HW6 := Lib.hid (HW5.out.below hb6)
  have HG6 := Lib.hid (HG5.out.below hb6)
  clear hb6 d0 d1
  have HB6 := Lib.hid (HV.out.trans (HA6.out.mono (by omega)))
  obtain ⟨hs6', c0, c1⟩ := one_box HA6.out
  obtain ⟨hp6, d0, d1⟩ := one_box HP6.out
  have z0 : w.heap.size ≤ w6.drew.heap.size := by simp; omega
  have z1 : w.heap.size < w6.drew.heap.size := hs6'
  have z4 : w4.heap.size < w6.drew.heap.size := hp6
  have HGd := Lib.hid (HG.out.below HB6.out.drew)
  have HXd := Lib.hid (HO6.out.at.below ((Below.refl w6.heap.size w6).drew))
  go_upto_region 10 with fail
  go_cut [35] (fun s wx => s = .bool false ∧ Below w6.heap.size w6 wx)
  case first =>
    go_region_held3 (fun w' => w'.cell? ⟨w.heap.size, 0, none⟩ = some (.slice pa g.ns.length ca) ∧ w'.cell? ⟨w.heap.size, 1, none⟩ = some (.slice pb g.es.length cb) ∧ w'.cell? ⟨w4.heap.size, 0, none⟩ = some (.slice px g.ns.length cx) ∧ w'.cell? ⟨w4.heap.size, 1, none⟩ = some (.slice py g.es.length cy))
      (first | exact ⟨c0, c1, d0, d1⟩ | exact S6.out | exact S7.out)
      (first
        | (go_at_call 23; refine (toGraph_any g _ w.heap.size _ HGd.out z0 hl1 hl2).mono ?_; rintro e wa ⟨va, M1, M2, rfl, hoa, hba⟩; have S6 := Lib.hid (And.intro (keepc hba z1 c0) (And.intro (keepc hba z1 c1) (And.intro (keepc hba z4 d0) (keepc hba z4 d1)))); have y1 := Nat.lt_of_lt_of_le z1 hba.size; have y4 := Nat.lt_of_lt_of_le z4 hba.size; have HXa := Lib.hid ((HXd.out.below hba).mono hba.size); have HBa := Lib.hid (((Below.refl w6.heap.size w6).drew).trans hba); have HOa := Lib.hid hoa.at; clear hba hoa)
        | (go_at_call 25; refine (eqGraph_any g _ _ wa.heap.size _ HXa.out HOa.out (Nat.le_refl _)).mono ?_; rintro e wb ⟨rfl, hbb⟩; have S7 := Lib.hid (And.intro (keepc hbb y1 S6.out.1) (And.intro (keepc hbb y1 S6.out.2.1) (And.intro (keepc hbb y4 S6.out.2.2.1) (keepc hbb y4 S6.out.2.2.2)))); have HBb := Lib.hid (HBa.out.trans (hbb.mono HBa.out.size)); clear hbb))
    all_goals (go_wp2_with fail; go_meet)
    all_goals exact ⟨rfl, HBb.out⟩
  case rest =>
    obtain ⟨rfl, hbx⟩ := hcut
    clear HGd HXd z0 z1 z4 c0 c1 d0 d1
    have hs7 := hbx.size
    have HP7 := Lib.hid (HP6.out.trans (hbx.mono (by omega)))
    have HA7 := Lib.hid (HA6.out.trans (hbx.mono (by omega)))
    have HO7 := Lib.hid (HO6.out.below hbx)
    have HW7 := Lib.hid (HW6.out.below hbx)
    have HG7 := Lib.hid (HG6.out.below hbx)
    clear hbx
    obtain ⟨hp7, d0, d1⟩ := one_box HP7.out
    go_wp2_with fail
    refine (markGraph_any g _ _ F1 F2 1 _ HO7.out (by omega) (by omega)).mono ?_
    rintro e w8 ⟨rfl, _, hc8⟩
    have hs8 := hc8.size
    have n1 := LX.out.1
    have n2 := LX.out.2
    have n3 := GX.out.1
    have n4 := GX.out.2
    have HA8 := Lib.hid (HA7.out.trans (hc8.below (by omega) (fun x hx => by rcases List.mem_append.1 hx with hx | hx; exact Nat.le_trans (by omega) (n3 x hx); exact Nat.le_trans (by omega) (n4 x hx))))
    have HW8 := Lib.hid (HW7.out.chg hc8 (fun x hx hx2 => by have := LW.out x hx; rcases List.mem_append.1 hx2 with hx2 | hx2; exact absurd (n3 x hx2) (by omega); exact absurd (n4 x hx2) (by omega)))
    have HG8 := Lib.hid (HG7.out.chg hc8 (fun x hx hx2 => by have := GG.out x hx; rcases List.mem_append.1 hx2 with hx2 | hx2; exact absurd (n1 x hx2) (by omega); exact absurd (n2 x hx2) (by omega)))
    clear hc8 d0 d1 n1 n2 n3 n4
    go_wp2_with fail
    refine (eqIntS_any _ _ _ w8.heap.size _ HG8.out.sl HW8.out.sl (Nat.le_refl _)).mono ?_
    rintro e w9 ⟨rfl, hb9⟩
    have hs9 := hb9.size
    have HA9 := Lib.hid (HA8.out.trans (hb9.mono (by omega)))
    have HW9 := Lib.hid (HW8.out.below hb9)
    have HG9 := Lib.hid (HG8.out.below hb9)
    clear hb9
    go_wp2_with fail
    refine (markIntS_any _ _ FG 1 _ HG9.out (by omega) (by omega)).mono ?_
    rintro e w10 ⟨rfl, ho10, hc10⟩
    have hs10 := hc10.size
    have HA10 := Lib.hid (HA9.out.trans (hc10.below (by omega) (fun x hx => by have := GG.out x hx; omega)))
    have HW10 := Lib.hid (HW9.out.chg hc10 (fun x hx hx2 => by have := LW.out x hx; have := GG.out x hx2; omega))
    have HM10 := Lib.hid ho10
    clear hc10 ho10
    go_wp2_with fail
    refine (heldIntS_any (edgesOut g node).length _ 1 w10.heap.size _ HM10.out.sl (Nat.le_refl _) (by omega) (by omega)).mono ?_
    rintro e w11 ⟨rfl, hb11⟩
    have hs11 := hb11.size
    have HA11 := Lib.hid (HA10.out.trans (hb11.mono (by omega)))
    have HW11 := Lib.hid (HW10.out.below hb11)
    have HM11 := Lib.hid (HM10.out.below hb11)
    clear hb11
    have HB11 := Lib.hid (HV.out.trans (HA11.out.mono (by omega)))
    obtain ⟨hs11', c0, c1⟩ := one_box HA11.out
    go_wp2_with fail
    refine (toGraph_any g _ w.heap.size _ (HG.out.below HB11.out) (by omega) hl1 hl2).mono ?_
    rintro e w12 ⟨v12, M1, M2, rfl, ho12, hb12⟩
    have hs12 := hb12.size
    have HO12 := Lib.hid ho12.at
    have HB12 := Lib.hid (HB11.out.trans (hb12.mono (by omega)))
    have HW12 := Lib.hid (HW11.out.below hb12)
    have HM12 := Lib.hid (HM11.out.below hb12)
    clear hb12 ho12 c0 c1
    go_wp2_with fail
    refine (outEdges_any g _ node w12.heap.size _ HO12.out (Nat.le_refl _) hok).mono ?_
    rintro e w13 ⟨v13, FH, rfl, ho13, hf13, hb13⟩
    have hs13 := hb13.size
    have HH13 := Lib.hid ho13
    have HB13 := Lib.hid (HB12.out.trans (hb13.mono (by omega)))
    have HW13 := Lib.hid (HW12.out.below hb13)
    have HM13 := Lib.hid (HM12.out.below hb13)
    clear hb13 ho13 hf13
    go_wp2_with fail
    refine (eqIntS_any _ _ _ w13.heap.size _ HH13.out.sl HW13.out.sl (Nat.le_refl _)).mono ?_
    rintro e w14 ⟨rfl, hb14⟩
    have hs14 := hb14.size
    have HB14 := Lib.hid (HB13.out.trans (hb14.mono (by omega)))
    have HM14 := Lib.hid (HM13.out.below hb14)
    clear hb14
    go_wp2_with fail
    refine (heldIntS_any (edgesOut g node).length _ 1 w14.heap.size _ HM14.out.sl (Nat.le_refl _) (by omega) (by omega)).mono ?_
    rintro e w15 ⟨rfl, hb15⟩
    have HB15 := Lib.hid (HB14.out.trans (hb15.mono (by omega)))
    clear hb15
    go_wp2_with fail
    go_ret
    exact ⟨rfl, HB15.out⟩
end Go.Proofs.Ytggnlbclpbkfhaa
