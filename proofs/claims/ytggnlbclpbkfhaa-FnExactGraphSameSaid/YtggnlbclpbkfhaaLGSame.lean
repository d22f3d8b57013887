/- The walk of FnExactGraphSame. -/
import Derived.Test.YtggnlbclpbkfhaaGraph
import Derived.Test.YtggnlbclpbkfhaaGSame2
import Derived.Deep.RegionHeld3
import Derived.Deep.DeepCutAuto
namespace Go.Proofs.Ytggnlbclpbkfhaa
open Go.RowKit

set_option maxRecDepth 100000 in
set_option maxHeartbeats 4000000 in
theorem lawExactGraphSame (g g' : Gr) (v v' : Value) (w : World) (hg : g.At w.heap.size w v) (hg' : g'.At w.heap.size w v') (hok : g.Ok) (hok' : g'.Ok) :
    Calls Try.prog 7 #[v, v'] w fun e w' => e = .returned (.bool true) ∧ Below w.heap.size w w' := by
  have HG := Lib.hid hg
  have HG' := Lib.hid hg'
  obtain ⟨a, b, rfl, ha, hb⟩ := hg
  obtain ⟨pa, ca, rfl⟩ := ha.form
  obtain ⟨pb, cb, rfl⟩ := hb.form
  obtain ⟨a', b', rfl, ha', hb'⟩ := hg'
  obtain ⟨pa', ca', rfl⟩ := ha'.form
  obtain ⟨pb', cb', rfl⟩ := hb'.form
  clear ha hb ha' hb'
  go_enter Try.func7, Try.ntmps7
  go_wp2_with fail
  have HV := Lib.hid (((Below.refl w.heap.size w).alloc (by simp) (.cells #[.slice pa g.ns.length ca, .slice pb g.es.length cb] 43)).alloc (by simp) (.cells #[.slice pa' g'.ns.length ca', .slice pb' g'.es.length cb'] 43))
  have HA0 := Lib.hid (Below.refl (w.heap.size + 2) ((w.alloc (.cells #[.slice pa g.ns.length ca, .slice pb g.es.length cb] 43)).alloc (.cells #[.slice pa' g'.ns.length ca', .slice pb' g'.es.length cb'] 43)))
  refine (szGraph_any g _ 1048576 w.heap.size _ (HG.out.below HV.out) (by simp; omega) (by omega) (by omega) hok).mono ?_
  rintro e w1 ⟨r, rfl, hr, hb1⟩
  have HA1 := Lib.hid (HA0.out.trans (hb1.mono (by simp)))
  clear hb1
  have HB1 := Lib.hid (HV.out.trans (HA1.out.mono (by omega)))
  obtain ⟨hs1, c0, c1, c2, c3⟩ := two_boxes HA1.out
  rcases hr with hr | ⟨hr0, hr⟩
  · have hneg : r < 0 := by omega
    clear hr
    go_wp2_with fail
    go_ret
    exact ⟨rfl, HB1.out⟩
  have hl1 : g.ns.length ≤ 1048576 := by unfold Gr.need at hr; omega
  have hl2 : g.es.length ≤ 1048576 := by unfold Gr.need at hr; omega
  have hr1 : r ≤ 1048576 := by omega
  clear hr
  go_wp2_with fail
  refine (szGraph_any g' _ r w.heap.size _ (HG'.out.below HB1.out) (by omega) hr0 hr1 hok').mono ?_
  rintro e w2 ⟨r2, rfl, hr2, hb2⟩
  have HA2 := Lib.hid (HA1.out.trans (hb2.mono (by omega)))
  clear hb2 c0 c1 c2 c3
  have HB2 := Lib.hid (HV.out.trans (HA2.out.mono (by omega)))
  obtain ⟨hs2, c0, c1, c2, c3⟩ := two_boxes HA2.out
  rcases hr2 with hr2 | ⟨hr20, hr2⟩
  · have hneg : r2 < 0 := by omega
    clear hr2
    go_wp2_with fail
    go_ret
    exact ⟨rfl, HB2.out⟩
  have hl1' : g'.ns.length ≤ 1048576 := by unfold Gr.need at hr2; omega
  have hl2' : g'.es.length ≤ 1048576 := by unfold Gr.need at hr2; omega
  clear hr2
  have HX1 := Lib.hid (HG.out.below HB2.out.drew)
  have HX2 := Lib.hid (HG'.out.below HB2.out.drew)
  have HA2' := Lib.hid HA2.out.drew
  have HB2' := Lib.hid HB2.out.drew
  have z0 : w.heap.size ≤ w2.drew.heap.size := by simp; omega
  have z2 : w.heap.size + 2 ≤ w2.drew.heap.size := hs2
  go_upto_region 8 with fail
  go_cut [6] (fun s wx => s = .bool (gs g g') ∧ Below (w.heap.size + 2) ((w.alloc (.cells #[.slice pa g.ns.length ca, .slice pb g.es.length cb] 43)).alloc (.cells #[.slice pa' g'.ns.length ca', .slice pb' g'.es.length cb'] 43)) wx)
  case first =>
    go_region_held3 (fun w' => w'.cell? ⟨w.heap.size, 0, none⟩ = some (.slice pa g.ns.length ca) ∧ w'.cell? ⟨w.heap.size, 1, none⟩ = some (.slice pb g.es.length cb) ∧ w'.cell? ⟨w.heap.size + 1, 0, none⟩ = some (.slice pa' g'.ns.length ca') ∧ w'.cell? ⟨w.heap.size + 1, 1, none⟩ = some (.slice pb' g'.es.length cb'))
      (first | exact ⟨c0, c1, c2, c3⟩ | exact (two_boxes HA3.out).2 | exact (two_boxes HA4.out).2 | exact (two_boxes HA5.out).2)
      (first
        | (go_at_call_of 23 (Value.agg #[.slice pa g.ns.length ca, .slice pb g.es.length cb]); refine (toGraph_any g _ w.heap.size _ HX1.out z0 hl1 hl2).mono ?_; rintro e w3 ⟨v3, K1, K2, rfl, ho3, hb3⟩; have HA3 := Lib.hid (HA2'.out.trans (hb3.mono z2)); have hz3 := Nat.le_trans z2 hb3.size; have HO3 := Lib.hid ho3.at; have HX3 := Lib.hid (HG'.out.below (HB2'.out.trans (hb3.mono z0))); clear hb3 ho3)
        | (go_at_call_of 23 (Value.agg #[.slice pa' g'.ns.length ca', .slice pb' g'.es.length cb']); refine (toGraph_any g' _ w.heap.size _ HX3.out (Nat.le_trans (Nat.le_add_right _ 2) hz3) hl1' hl2').mono ?_; rintro e w4 ⟨v4, K3, K4, rfl, ho4, hb4⟩; have HA4 := Lib.hid (HA3.out.trans (hb4.mono hz3)); have hz4 := Nat.le_trans hz3 hb4.size; have HO4 := Lib.hid ho4.at; have HO3' := Lib.hid ((HO3.out.below hb4).mono hb4.size); clear hb4 ho4)
        | (go_at_call 26; refine (specGraphSame_any g g' _ _ w4.heap.size _ HO3'.out HO4.out (Nat.le_refl _)).mono ?_; rintro e w5 ⟨rfl, hb5⟩; have HA5 := Lib.hid (HA4.out.trans (hb5.mono hz4)); clear hb5))
    all_goals (go_wp2_with fail; go_meet)
    all_goals exact ⟨rfl, HA5.out⟩
  case rest =>
    obtain ⟨rfl, hbx⟩ := hcut
    clear HX1 HX2 HA2' HB2' z0 z2 c0 c1 c2 c3 hs2
    have HA6 := Lib.hid hbx
    clear hbx
    have HB6 := Lib.hid (HV.out.trans (HA6.out.mono (by omega)))
    obtain ⟨hs6, c0, c1, c2, c3⟩ := two_boxes HA6.out
    go_wp2_with fail
    refine (toGraph_any g _ w.heap.size _ (HG.out.below HB6.out) (by omega) hl1 hl2).mono ?_
    rintro e w7 ⟨v7, G1, G2, rfl, ho7, hb7⟩
    have HO7 := Lib.hid ho7
    have HA7 := Lib.hid (HA6.out.trans (hb7.mono (by omega)))
    clear hb7 c0 c1 c2 c3
    have HB7 := Lib.hid (HV.out.trans (HA7.out.mono (by omega)))
    obtain ⟨hs7, c0, c1, c2, c3⟩ := two_boxes HA7.out
    obtain ⟨x1, x2, rfl, hx1, hx2, _⟩ := ho7
    obtain ⟨px, cx, rfl⟩ := hx1.sl.form
    obtain ⟨py, cy, rfl⟩ := hx2.sl.form
    clear hx1 hx2
    have t0 : w.heap.size < w7.heap.size := by omega
    have t1 : w.heap.size + 1 < w7.heap.size := by omega
    go_wp2_with fail
    clear t0 t1
    have HC7 := Lib.hid (HB7.out.alloc (by omega) (.cells #[.slice px g.ns.length cx, .slice py g.es.length cy] 26))
    have HP7 := Lib.hid (Below.refl (w7.heap.size + 1) (w7.alloc (.cells #[.slice px g.ns.length cx, .slice py g.es.length cy] 26)))
    refine (toGraph_any g' _ w.heap.size _ (HG'.out.below HC7.out) (by simp; omega) hl1' hl2').mono ?_
    rintro e w8 ⟨v8, G3, G4, rfl, ho8, hb8⟩
    have HO8 := Lib.hid ho8
    have HP8 := Lib.hid (HP7.out.trans (hb8.mono (by simp)))
    have HA8 := Lib.hid (HA7.out.trans ((below_past hb8).mono (by omega)))
    have HX8 := Lib.hid (HO7.out.below (below_past hb8))
    clear hb8 c0 c1 c2 c3
    have HB8 := Lib.hid (HV.out.trans (HA8.out.mono (by omega)))
    obtain ⟨hs8, c0, c1, c2, c3⟩ := two_boxes HA8.out
    obtain ⟨hp8, d0, d1⟩ := one_box HP8.out
    obtain ⟨y1, y2, rfl, hy1, hy2, _⟩ := ho8
    obtain ⟨qx, dx, rfl⟩ := hy1.sl.form
    obtain ⟨qy, dy, rfl⟩ := hy2.sl.form
    clear hy1 hy2
    have t0 : w.heap.size < w8.heap.size := by omega
    have t1 : w.heap.size + 1 < w8.heap.size := by omega
    have t2 : w7.heap.size < w8.heap.size := by omega
    go_wp2_with fail
    clear t0 t1 t2
    have HQ8 := Lib.hid (Below.refl (w8.heap.size + 1) (w8.alloc (.cells #[.slice qx g'.ns.length dx, .slice qy g'.es.length dy] 26)))
    refine (graphSame_any g g' _ _ w8.heap.size _ (HX8.out.at.below ((Below.refl _ _).alloc (Nat.le_refl _) _)) (HO8.out.at.below ((Below.refl _ _).alloc (Nat.le_refl _) _)) (by simp)).mono ?_
    rintro e w9 ⟨rfl, hb9⟩
    have HQ9 := Lib.hid (HQ8.out.trans (hb9.mono (by simp)))
    have HP9 := Lib.hid (HP8.out.trans ((below_past hb9).mono (by omega)))
    have HA9 := Lib.hid (HA8.out.trans ((below_past hb9).mono (by omega)))
    have HX9 := Lib.hid (HX8.out.at.below (below_past hb9))
    have HY9 := Lib.hid (HO8.out.at.below (below_past hb9))
    clear hb9 c0 c1 c2 c3 d0 d1
    have HB9 := Lib.hid (HV.out.trans (HA9.out.mono (by omega)))
    obtain ⟨hs9, c0, c1, c2, c3⟩ := two_boxes HA9.out
    obtain ⟨hp9, d0, d1⟩ := one_box HP9.out
    obtain ⟨hq9, e0, e1⟩ := one_box HQ9.out
    have z0 : w.heap.size ≤ w9.drew.heap.size := by simp; omega
    have z2 : w.heap.size + 2 ≤ w9.drew.heap.size := hs9
    have z7 : w7.heap.size + 1 ≤ w9.drew.heap.size := hp9
    have z8 : w8.heap.size + 1 ≤ w9.drew.heap.size := hq9
    have z8' : w8.heap.size ≤ w9.drew.heap.size := by simp; omega
    have HG9 := Lib.hid (HG.out.below HB9.out.drew)
    have HX9' := Lib.hid (HX9.out.below ((Below.refl w8.heap.size w9).drew))
    have HB9' := Lib.hid HB9.out.drew
    go_upto_region 14 with fail
    go_cut [39] (fun s wx => s = .bool false ∧ Below w9.heap.size w9 wx)
    case first =>
      go_region_held3 (fun w' => w'.cell? ⟨w.heap.size, 0, none⟩ = some (.slice pa g.ns.length ca) ∧ w'.cell? ⟨w.heap.size, 1, none⟩ = some (.slice pb g.es.length cb) ∧ w'.cell? ⟨w7.heap.size, 0, none⟩ = some (.slice px g.ns.length cx) ∧ w'.cell? ⟨w7.heap.size, 1, none⟩ = some (.slice py g.es.length cy))
        (first | exact ⟨c0, c1, d0, d1⟩ | exact S6.out | exact S7.out)
        (first
          | (go_at_call 23; refine (toGraph_any g _ w.heap.size _ HG9.out z0 hl1 hl2).mono ?_; rintro e wa ⟨va, K1, K2, rfl, hoa, hba⟩; have S6 := Lib.hid (And.intro (keepc hba (Nat.lt_of_lt_of_le (Nat.lt_succ_of_lt (Nat.lt_succ_self _)) z2) c0) (And.intro (keepc hba (Nat.lt_of_lt_of_le (Nat.lt_succ_of_lt (Nat.lt_succ_self _)) z2) c1) (And.intro (keepc hba z7 d0) (keepc hba z7 d1)))); have y1 := Nat.le_trans z2 hba.size; have y7 := Nat.le_trans z7 hba.size; have HXa := Lib.hid ((HX9'.out.below (hba.mono z8')).mono (Nat.le_trans z8' hba.size)); have HBa := Lib.hid (((Below.refl w9.heap.size w9).drew).trans hba); have HOa := Lib.hid hoa.at; clear hba hoa)
          | (go_at_call 25; refine (eqGraph_any g _ _ wa.heap.size _ HXa.out HOa.out (Nat.le_refl _)).mono ?_; rintro e wb ⟨rfl, hbb⟩; have S7 := Lib.hid (And.intro (keepc hbb (Nat.lt_of_lt_of_le (Nat.lt_succ_of_lt (Nat.lt_succ_self _)) y1) S6.out.1) (And.intro (keepc hbb (Nat.lt_of_lt_of_le (Nat.lt_succ_of_lt (Nat.lt_succ_self _)) y1) S6.out.2.1) (And.intro (keepc hbb y7 S6.out.2.2.1) (keepc hbb y7 S6.out.2.2.2)))); have HBb := Lib.hid (HBa.out.trans (hbb.mono HBa.out.size)); clear hbb))
      all_goals (go_wp2_with fail; go_meet)
      all_goals exact ⟨rfl, HBb.out⟩
    case rest =>
      obtain ⟨rfl, hbx⟩ := hcut
      have HAx := Lib.hid (HA9.out.trans (hbx.mono hs9))
      have HQx := Lib.hid (HQ9.out.trans (hbx.mono hq9))
      have HYx := Lib.hid (HY9.out.below (hbx.mono (Nat.le_of_lt hq9)))
      clear hbx c0 c1 c2 c3 d0 d1 e0 e1 HG9 HX9' HB9' z0 z2 z7 z8 z8'
      have HBx := Lib.hid (HV.out.trans (HAx.out.mono (by omega)))
      obtain ⟨hsx, c0, c1, c2, c3⟩ := two_boxes HAx.out
      obtain ⟨hqx, e0, e1⟩ := one_box HQx.out
      have z0 : w.heap.size ≤ wc.drew.heap.size := by simp; omega
      have z2 : w.heap.size + 1 < wc.drew.heap.size := by simp; omega
      have z8 : w8.heap.size < wc.drew.heap.size := hqx
      have z8' : w8.heap.size ≤ wc.drew.heap.size := by simp; omega
      have HGx := Lib.hid (HG'.out.below HBx.out.drew)
      have HYx' := Lib.hid (HYx.out.below ((Below.refl w8.heap.size wc).drew))
      have HBx' := Lib.hid HBx.out.drew
      go_upto_region 16 with fail
      go_cut [44] (fun s wz => s = .bool false ∧ Below w.heap.size w wz)
      case first =>
        go_region_held3 (fun w' => w'.cell? ⟨w.heap.size + 1, 0, none⟩ = some (.slice pa' g'.ns.length ca') ∧ w'.cell? ⟨w.heap.size + 1, 1, none⟩ = some (.slice pb' g'.es.length cb') ∧ w'.cell? ⟨w8.heap.size, 0, none⟩ = some (.slice qx g'.ns.length dx) ∧ w'.cell? ⟨w8.heap.size, 1, none⟩ = some (.slice qy g'.es.length dy))
          (first | exact ⟨c2, c3, e0, e1⟩ | exact S6.out | exact S7.out)
          (first
            | (go_at_call 23; refine (toGraph_any g' _ w.heap.size _ HGx.out z0 hl1' hl2').mono ?_; rintro e wa ⟨va, K1, K2, rfl, hoa, hba⟩; have S6 := Lib.hid (And.intro (keepc hba z2 c2) (And.intro (keepc hba z2 c3) (And.intro (keepc hba z8 e0) (keepc hba z8 e1)))); have y1 := Nat.lt_of_lt_of_le z2 hba.size; have y7 := Nat.lt_of_lt_of_le z8 hba.size; have HXa := Lib.hid ((HYx'.out.below (hba.mono z8')).mono (Nat.le_trans z8' hba.size)); have HBa := Lib.hid (HBx'.out.trans (hba.mono z0)); have HOa := Lib.hid hoa.at; have y0 := Nat.le_trans z0 hba.size; clear hba hoa)
            | (go_at_call 25; refine (eqGraph_any g' _ _ wa.heap.size _ HXa.out HOa.out (Nat.le_refl _)).mono ?_; rintro e wb ⟨rfl, hbb⟩; have S7 := Lib.hid (And.intro (keepc hbb y1 S6.out.1) (And.intro (keepc hbb y1 S6.out.2.1) (And.intro (keepc hbb y7 S6.out.2.2.1) (keepc hbb y7 S6.out.2.2.2)))); have HBb := Lib.hid (HBa.out.trans (hbb.mono y0)); clear hbb))
        all_goals (go_wp2_with fail; go_meet)
        all_goals exact ⟨rfl, HBb.out⟩
      case rest =>
        obtain ⟨rfl, hby⟩ := hcut
        go_wp2_with fail
        go_ret
        exact ⟨rfl, hby⟩
end Go.Proofs.Ytggnlbclpbkfhaa
