/- The walk of FnExactGraphValid. -/
import Derived.Test.YtggnlbclpbkfhaaGraph
import Derived.Test.YtggnlbclpbkfhaaSGValid
import Derived.Deep.RegionHeld3
import Derived.Deep.DeepCutAuto
namespace Go.Proofs.Ytggnlbclpbkfhaa
open Go.RowKit

set_option maxRecDepth 100000 in
set_option maxHeartbeats 2000000 in
theorem lawExactGraphValid (g : Gr) (v : Value) (w : World) (hg : g.At w.heap.size w v) (hok : g.Ok) :
    Calls Try.prog 6 #[v] w fun e w' => e = .returned (.bool true) ∧ Below w.heap.size w w' := by
  have HG := Lib.hid hg
  obtain ⟨a, b, rfl, ha, hb⟩ := hg
  obtain ⟨pa, ca, rfl⟩ := ha.form
  obtain ⟨pb, cb, rfl⟩ := hb.form
  clear ha hb
  go_enter Try.func6, Try.ntmps6
  go_wp2_with fail
  have HW := Lib.hid ((Below.refl w.heap.size w).alloc (Nat.le_refl _) (.cells #[.slice pa g.ns.length ca, .slice pb g.es.length cb] 43))
  refine (szGraph_any g _ 1048576 w.heap.size _ (HG.out.below HW.out) (by simp) (by omega) (by omega) hok).mono ?_
  rintro e w1 ⟨r, rfl, hr, hb1⟩
  have hs1 : w.heap.size < w1.heap.size := by have := hb1.size; simp at this; omega
  have c0 := new_cell hb1 (j := 0) rfl
  have c1 := new_cell hb1 (j := 1) rfl
  have HB1 := Lib.hid (below_past hb1)
  clear hb1
  rcases hr with hr | ⟨hr0, hr⟩
  · have hneg : r < 0 := by omega
    clear hr
    go_wp2_with fail
    go_ret
    exact ⟨rfl, HB1.out⟩
  · have hl1 : g.ns.length ≤ 1048576 := by unfold Gr.need at hr; omega
    have hl2 : g.es.length ≤ 1048576 := by unfold Gr.need at hr; omega
    clear hr
    go_wp2_with fail
    refine (toGraph_any g _ w.heap.size _ (HG.out.below HB1.out) (by omega) hl1 hl2).mono ?_
    rintro e w2 ⟨v2, F1, F2, rfl, ho2, hb2⟩
    have hs2 := hb2.size
    have c0' := keepc hb2 (by omega) c0
    have c1' := keepc hb2 (by omega) c1
    have HB2 := Lib.hid (HB1.out.trans (hb2.mono (by omega)))
    clear hb2 c0 c1
    go_wp2_with fail
    refine (specGraphValid_any g _ w2.heap.size _ ho2.at (Nat.le_refl _) hok).mono ?_
    rintro e w3 ⟨rfl, hb3⟩
    clear ho2
    have hs3 := hb3.size
    have c0 := keepc hb3 (by omega) c0'
    have c1 := keepc hb3 (by omega) c1'
    have HB3 := Lib.hid (HB2.out.trans (hb3.mono (by omega)))
    clear hb3 c0' c1'
    go_wp2_with fail
    refine (toGraph_any g _ w.heap.size _ (HG.out.below HB3.out) (by omega) hl1 hl2).mono ?_
    rintro e w4 ⟨v4, G1, G2, rfl, ho4, hb4⟩
    have hs4 := hb4.size
    have c0' := keepc hb4 (by omega) c0
    have c1' := keepc hb4 (by omega) c1
    have HB4 := Lib.hid (HB3.out.trans (hb4.mono (by omega)))
    have HO4 := Lib.hid ho4
    clear hb4 c0 c1
    obtain ⟨x1, x2, rfl, hx1, hx2, _⟩ := ho4
    obtain ⟨px, cx, rfl⟩ := hx1.sl.form
    obtain ⟨py, cy, rfl⟩ := hx2.sl.form
    clear hx1 hx2
    go_wp2_with fail
    refine (graphValid_any g _ w4.heap.size _ (HO4.out.at.below ((Below.refl _ _).alloc (Nat.le_refl _) _)) (by simp) hok).mono ?_
    rintro e w5 ⟨rfl, hb5⟩
    have hs5 : w4.heap.size < w5.heap.size := by have := hb5.size; simp at this; omega
    have d0 := new_cell hb5 (j := 0) rfl
    have d1 := new_cell hb5 (j := 1) rfl
    have hb5' := below_past hb5
    have c0 := keepc hb5' (by omega) c0'
    have c1 := keepc hb5' (by omega) c1'
    have HX := Lib.hid (HO4.out.at.below hb5')
    have HB5 := Lib.hid (HB4.out.trans (hb5'.mono (by omega)))
    clear hb5 hb5' c0' c1'
    have z0 : w.heap.size ≤ w5.drew.heap.size := by simp; omega
    have z1 : w.heap.size < w5.drew.heap.size := by simp; omega
    have z4 : w4.heap.size < w5.drew.heap.size := hs5
    have HG5 := Lib.hid (HG.out.below HB5.out.drew)
    have HX5 := Lib.hid (HX.out.below ((Below.refl w4.heap.size w5).drew))
    have HB5' := Lib.hid HB5.out.drew
    go_upto_region 10 with fail
    go_cut [26] (fun s wx => s = .bool false ∧ Below w.heap.size w wx)
    case first =>
      go_region_held3 (fun w' => w'.cell? ⟨w.heap.size, 0, none⟩ = some (.slice pa g.ns.length ca) ∧ w'.cell? ⟨w.heap.size, 1, none⟩ = some (.slice pb g.es.length cb) ∧ w'.cell? ⟨w4.heap.size, 0, none⟩ = some (.slice px g.ns.length cx) ∧ w'.cell? ⟨w4.heap.size, 1, none⟩ = some (.slice py g.es.length cy))
        (first | exact ⟨c0, c1, d0, d1⟩ | exact S6.out | exact S7.out)
        (first
          | (go_at_call 23; refine (toGraph_any g _ w.heap.size _ HG5.out z0 hl1 hl2).mono ?_; rintro e w6 ⟨v6, K1, K2, rfl, ho6, hb6⟩; have S6 := Lib.hid (And.intro (keepc hb6 z1 c0) (And.intro (keepc hb6 z1 c1) (And.intro (keepc hb6 z4 d0) (keepc hb6 z4 d1)))); have y1 := Nat.lt_of_lt_of_le z1 hb6.size; have y4 := Nat.lt_of_lt_of_le z4 hb6.size; have HX6 := Lib.hid ((HX5.out.below (hb6.mono (Nat.le_of_lt z4))).mono (Nat.le_of_lt y4)); have HB6' := Lib.hid (HB5'.out.trans (hb6.mono z0)); have HO6 := Lib.hid ho6.at; clear hb6 ho6)
          | (go_at_call 25; refine (eqGraph_any g _ _ w6.heap.size _ HX6.out HO6.out (Nat.le_refl _)).mono ?_; rintro e w7 ⟨rfl, hb7⟩; have S7 := Lib.hid (And.intro (keepc hb7 y1 S6.out.1) (And.intro (keepc hb7 y1 S6.out.2.1) (And.intro (keepc hb7 y4 S6.out.2.2.1) (keepc hb7 y4 S6.out.2.2.2)))); have HB7 := Lib.hid (HB6'.out.trans (hb7.mono (Nat.le_of_lt y1))); clear hb7))
      all_goals (go_wp2_with fail; go_meet)
      all_goals exact ⟨rfl, HB7.out⟩
    case rest =>
      obtain ⟨rfl, hbx⟩ := hcut
      go_wp2_with fail
      go_ret
      exact ⟨rfl, hbx⟩
end Go.Proofs.Ytggnlbclpbkfhaa
