/- The walk of FnExactEdgeFits. -/
import Derived.Test.YthpclghhlodnhaaDoorFitsI
import Derived.Test.YthpclghhlodnhaaDoorFitsS
import Derived.Test.YthpclghhlodnhaaDoorExTo
namespace Go.Proofs.YthpclghhlodnhaaDoor
open Go.RowKit

set_option maxRecDepth 100000 in
set_option maxHeartbeats 8000000 in
theorem lawExactEdgeFits (g : Gr) (e : El) (v u : Value) (n : Int) (w : World) (hg : g.At w.heap.size w v) (hu : e.At w.heap.size w u) (hok : g.Ok) (hoke : e.Ok) (hvars : Vars w) :
    Calls Tryd.prog 3 #[v, .int .i64 n, u] w fun en w' => en = .returned (.bool true) ∧ Below w.heap.size w w' := by
  have HG := Lib.hid hg
  have HU := Lib.hid hu
  have HOK := Lib.hid hok
  have HOE := Lib.hid hoke
  have HVV := Lib.hid hvars
  obtain ⟨va, vb, rfl, hns, hes⟩ := hg
  obtain ⟨pa, ca, rfl⟩ := hns.form
  obtain ⟨pb, cb, rfl⟩ := hes.form
  obtain ⟨p, cap, p', cap', rfl, _, _⟩ := hu.form
  clear hu hok hoke hns hes hvars
  obtain ⟨W0, eW⟩ : ∃ W0, W0 = (w.alloc (.cells #[.slice pa g.ns.length ca, .slice pb g.es.length cb] 25)).alloc (.cells #[.bool e.n, .string e.v, .int .i64 e.l.op, .string e.l.a, .slice p e.l.ks.list.length cap, .int .i64 e.c.op, .string e.c.a, .slice p' e.c.ks.list.length cap', .int .i64 e.d] 30) := ⟨_, rfl⟩
  have HV := Lib.hid (show Below w.heap.size w W0 by rw [eW]; exact ((Below.refl w.heap.size w).alloc (by simp) _).alloc (by simp) _)
  have hs0 : w.heap.size + 2 ≤ W0.heap.size := by rw [eW]; simp
  have HK := Lib.hid (show ∀ wk, Below (w.heap.size + 2) W0 wk → w.heap.size + 2 ≤ wk.heap.size ∧ wk.cell? ⟨w.heap.size, 0, none⟩ = some (.slice pa g.ns.length ca) ∧ wk.cell? ⟨w.heap.size, 1, none⟩ = some (.slice pb g.es.length cb) ∧ wk.cell? ⟨w.heap.size + 1, 0, none⟩ = some (.bool e.n) ∧ wk.cell? ⟨w.heap.size + 1, 1, none⟩ = some (.string e.v) ∧ wk.cell? ⟨w.heap.size + 1, 2, none⟩ = some (.int .i64 e.l.op) ∧ wk.cell? ⟨w.heap.size + 1, 3, none⟩ = some (.string e.l.a) ∧ wk.cell? ⟨w.heap.size + 1, 4, none⟩ = some (.slice p e.l.ks.list.length cap) ∧ wk.cell? ⟨w.heap.size + 1, 5, none⟩ = some (.int .i64 e.c.op) ∧ wk.cell? ⟨w.heap.size + 1, 6, none⟩ = some (.string e.c.a) ∧ wk.cell? ⟨w.heap.size + 1, 7, none⟩ = some (.slice p' e.c.ks.list.length cap') ∧ wk.cell? ⟨w.heap.size + 1, 8, none⟩ = some (.int .i64 e.d) from
    fun wk hk => by rw [eW] at hk; exact ⟨by have := hk.size; simp at this; omega, keepc hk (by omega) (by simp [go_sem]), keepc hk (by omega) (by simp [go_sem]), keepc hk (by omega) (by simp [go_sem]), keepc hk (by omega) (by simp [go_sem]), keepc hk (by omega) (by simp [go_sem]), keepc hk (by omega) (by simp [go_sem]), keepc hk (by omega) (by simp [go_sem]), keepc hk (by omega) (by simp [go_sem]), keepc hk (by omega) (by simp [go_sem]), keepc hk (by omega) (by simp [go_sem]), keepc hk (by omega) (by simp [go_sem])⟩)
  have HA := Lib.hid (Below.refl (w.heap.size + 2) W0)
  have HGA := Lib.hid (show ∀ wk, Below (w.heap.size + 2) W0 wk → g.At w.heap.size wk (.agg #[.slice pa g.ns.length ca, .slice pb g.es.length cb]) from fun wk hk => HG.out.below (HV.out.trans (hk.mono (by omega))))
  have HEA := Lib.hid (show ∀ wk, Below (w.heap.size + 2) W0 wk → e.At w.heap.size wk (.agg #[.bool e.n, .string e.v, .int .i64 e.l.op, .string e.l.a, .slice p e.l.ks.list.length cap, .int .i64 e.c.op, .string e.c.a, .slice p' e.c.ks.list.length cap', .int .i64 e.d]) from fun wk hk => HU.out.below (HV.out.trans (hk.mono (by omega))) (Nat.le_refl _))
  have HVA := Lib.hid (show ∀ wk, Below (w.heap.size + 2) W0 wk → Vars wk from fun wk hk => HVV.out.below (HV.out.trans (hk.mono (by omega))))
  have EW := Lib.hid eW
  clear eW
  go_enter Tryd.func3, Tryd.ntmps3
  go_wp2_with fail
  rw [← EW.out]
  refine (szGraph_any g _ 1048576 w.heap.size _ (HGA.out _ HA.out) (by omega) (by omega) (by omega) HOK.out).mono ?_
  rintro en w1 ⟨r, rfl, hr, hb1⟩
  have HA := Lib.hid (HA.out.trans (hb1.mono (by omega)))
  clear hb1
  obtain ⟨hz, a0, a1, c0, c1, c2, c3, c4, c5, c6, c7, c8⟩ := HK.out w1 HA.out
  rcases hr with hr | ⟨hr0, hr⟩
  · have hneg : r < 0 := by omega
    clear hr
    go_wp2_with fail
    go_ret
    exact ⟨rfl, HV.out.trans (HA.out.mono (by omega))⟩
  have hl1 : g.ns.length ≤ 1048576 := by unfold Gr.need at hr; omega
  have hl2 : g.es.length ≤ 1048576 := by unfold Gr.need at hr; omega
  have hrm : r ≤ 1048576 := by omega
  clear hr
  go_wp2_with fail
  refine (szElem_any e _ r w.heap.size _ (HEA.out _ HA.out) (by omega) hr0 hrm HOE.out).mono ?_
  rintro en w2 ⟨r2, rfl, hr, hb2⟩
  have HA := Lib.hid (HA.out.trans (hb2.mono (by omega)))
  clear hb2 hz a0 a1 c0 c1 c2 c3 c4 c5 c6 c7 c8
  obtain ⟨hz, a0, a1, c0, c1, c2, c3, c4, c5, c6, c7, c8⟩ := HK.out w2 HA.out
  rcases hr with hr | ⟨hr20, hr⟩
  · have hneg : r2 < 0 := by omega
    clear hr
    go_wp2_with fail
    go_ret
    exact ⟨rfl, HV.out.trans (HA.out.mono (by omega))⟩
  have hneed : elNeed e ≤ 1048576 := by omega
  have hsm := El.sm_of hneed
  have hz1 := (El.sm_need hneed).2.2.1
  have hz2 := (El.sm_need hneed).2.2.2.2.1
  have CS := Lib.hid (fun (E : World) (hE : Below (w.heap.size + 2) W0 E) (va vb : Value) (hv : g.At E.heap.size E va) (hu : e.At E.heap.size E vb) => (specEdgeFits_any g e va vb n E.heap.size E hv hu (Nat.le_refl _) HOK.out hsm).mono (R' := fun en w' => en = .returned (.bool (edgeF g n e)) ∧ Below (w.heap.size + 2) W0 w') fun en w' ⟨he, hb⟩ => ⟨he, hE.trans (hb.mono (by have := hE.size; omega))⟩)
  have CI := Lib.hid (fun (E : World) (va vb : Value) (B : Nat) (hB : B ≤ E.heap.size) (hv : g.At B E va) (hu : e.At B E vb) (hV : Vars E) => edgeFits_any g e va vb n B E hv hu hB HOK.out hsm hV)
  have CTG := Lib.hid (fun (lo : Nat) (W : World) (hlo : w.heap.size + 2 ≤ lo) (hl : lo ≤ W.heap.size) (hW : Below (w.heap.size + 2) W0 W) (E : World) (hE : Below lo W E) => (toGraph_any g _ w.heap.size E (HGA.out _ (hW.trans (hE.mono hlo))) (by have := hE.size; omega) hl1 hl2).mono (R' := fun en w' => ∃ v', en = .returned v' ∧ g.At w'.heap.size w' v' ∧ Below E.heap.size E w' ∧ Below lo W w') fun en w' ⟨v', F1, F2, he, ho, hb⟩ => ⟨v', he, ho.at, hb, hE.trans (hb.mono (Nat.le_trans hl hE.size))⟩)
  have CTE := Lib.hid (fun (lo : Nat) (W : World) (hlo : w.heap.size + 2 ≤ lo) (hl : lo ≤ W.heap.size) (hW : Below (w.heap.size + 2) W0 W) (E : World) (hE : Below lo W E) => (toElem_any e _ w.heap.size E (HEA.out _ (hW.trans (hE.mono hlo))) (by have := hE.size; omega) hz1 hz2).mono (R' := fun en w' => ∃ v', en = .returned v' ∧ e.At w'.heap.size w' v' ∧ Below E.heap.size E w' ∧ Below lo W w') fun en w' ⟨v', F, he, ho, _, hb⟩ => ⟨v', he, ho.at, hb, hE.trans (hb.mono (Nat.le_trans hl hE.size))⟩)
  clear hr hneed hsm
  have hA2 := HA.out
  have l0 : w.heap.size + 2 ≤ W0.heap.size := hs0
  have rW0 := Below.refl (w.heap.size + 2) W0
  go_upto_region 8 with fail
  go_cut [8] (fun s wx => s = .bool (edgeF g n e) ∧ Below (w.heap.size + 2) W0 wx)
  case first =>
    go_region_held3 (fun w' => w'.cell? ⟨w.heap.size, 0, none⟩ = some (.slice pa g.ns.length ca) ∧ w'.cell? ⟨w.heap.size, 1, none⟩ = some (.slice pb g.es.length cb) ∧ w'.cell? ⟨w.heap.size + 1, 0, none⟩ = some (.bool e.n) ∧ w'.cell? ⟨w.heap.size + 1, 1, none⟩ = some (.string e.v) ∧ w'.cell? ⟨w.heap.size + 1, 2, none⟩ = some (.int .i64 e.l.op) ∧ w'.cell? ⟨w.heap.size + 1, 3, none⟩ = some (.string e.l.a) ∧ w'.cell? ⟨w.heap.size + 1, 4, none⟩ = some (.slice p e.l.ks.list.length cap) ∧ w'.cell? ⟨w.heap.size + 1, 5, none⟩ = some (.int .i64 e.c.op) ∧ w'.cell? ⟨w.heap.size + 1, 6, none⟩ = some (.string e.c.a) ∧ w'.cell? ⟨w.heap.size + 1, 7, none⟩ = some (.slice p' e.c.ks.list.length cap') ∧ w'.cell? ⟨w.heap.size + 1, 8, none⟩ = some (.int .i64 e.d))
      (exact (HK.out _ (show Below (w.heap.size + 2) W0 _ by ((repeat (first | with_reducible assumption | with_reducible exact Below.refl _ _ | refine Below.setCell ?_ (by (first | omega | (simp; omega) | (simp; done) | fail "sml")) _ | refine Below.drew ?_ | refine Below.alloc ?_ (by (first | omega | (simp; omega) | (simp; done) | fail "sml")) _)); first | done | fail "chs"))).2)
      (first
        | (go_at_call 8; refine (CTG.out (w.heap.size + 2) W0 (by omega) l0 rW0 _ (by ((repeat (first | with_reducible assumption | with_reducible exact Below.refl _ _ | refine Below.setCell ?_ (by (first | omega | (simp; omega) | (simp; done) | fail "sml")) _ | refine Below.drew ?_ | refine Below.alloc ?_ (by (first | omega | (simp; omega) | (simp; done) | fail "sml")) _)); first | done | fail "chs"))).mono ?_; rintro en wa ⟨va, rfl, hha, hba, hka⟩; have za := hka.size; have raa := Below.refl wa.heap.size wa; (first | (have rba := Below.trans (show Below wb.heap.size wb _ by ((repeat (first | with_reducible assumption | with_reducible exact Below.refl _ _ | refine Below.setCell ?_ (by (first | omega | (simp; omega) | (simp; done) | fail "sml")) _ | refine Below.drew ?_ | refine Below.alloc ?_ (by (first | omega | (simp; omega) | (simp; done) | fail "sml")) _)); first | done | fail "chs")) (hba.mono (by (first | omega | (simp; omega) | (simp; done) | fail "sml")))) | skip); have HHa := Lib.hid (fun X (hX : Below wa.heap.size wa X) => (hha.below hX).mono hX.size); clear hha hba)
        | (go_at_call 9; refine (CTE.out (w.heap.size + 2) W0 (by omega) l0 rW0 _ (by ((repeat (first | with_reducible assumption | with_reducible exact Below.refl _ _ | refine Below.setCell ?_ (by (first | omega | (simp; omega) | (simp; done) | fail "sml")) _ | refine Below.drew ?_ | refine Below.alloc ?_ (by (first | omega | (simp; omega) | (simp; done) | fail "sml")) _)); first | done | fail "chs"))).mono ?_; rintro en wb ⟨vb, rfl, hhb, hbb, hkb⟩; have zb := hkb.size; have rbb := Below.refl wb.heap.size wb; (first | (have rab := Below.trans (show Below wa.heap.size wa _ by ((repeat (first | with_reducible assumption | with_reducible exact Below.refl _ _ | refine Below.setCell ?_ (by (first | omega | (simp; omega) | (simp; done) | fail "sml")) _ | refine Below.drew ?_ | refine Below.alloc ?_ (by (first | omega | (simp; omega) | (simp; done) | fail "sml")) _)); first | done | fail "chs")) (hbb.mono (by (first | omega | (simp; omega) | (simp; done) | fail "sml")))) | skip); have HHb := Lib.hid (fun X (hX : Below wb.heap.size wb X) => hhb.below hX hX.size); clear hhb hbb)
        | (go_at_call 7; refine (CS.out _ (by ((repeat (first | with_reducible assumption | with_reducible exact Below.refl _ _ | refine Below.setCell ?_ (by (first | omega | (simp; omega) | (simp; done) | fail "sml")) _ | refine Below.drew ?_ | refine Below.alloc ?_ (by (first | omega | (simp; omega) | (simp; done) | fail "sml")) _)); first | done | fail "chs")) _ _ (HHa.out _ (by ((repeat (first | with_reducible assumption | with_reducible exact Below.refl _ _ | refine Below.setCell ?_ (by (first | omega | (simp; omega) | (simp; done) | fail "sml")) _ | refine Below.drew ?_ | refine Below.alloc ?_ (by (first | omega | (simp; omega) | (simp; done) | fail "sml")) _)); first | done | fail "chs"))) (HHb.out _ (by ((repeat (first | with_reducible assumption | with_reducible exact Below.refl _ _ | refine Below.setCell ?_ (by (first | omega | (simp; omega) | (simp; done) | fail "sml")) _ | refine Below.drew ?_ | refine Below.alloc ?_ (by (first | omega | (simp; omega) | (simp; done) | fail "sml")) _)); first | done | fail "chs")))).mono ?_; rintro en wc ⟨rfl, hkc⟩))
    all_goals (go_wp2_with fail; go_meet)
    all_goals exact ⟨rfl, by ((repeat (first | with_reducible assumption | with_reducible exact Below.refl _ _ | refine Below.setCell ?_ (by (first | omega | (simp; omega) | (simp; done) | fail "sml")) _ | refine Below.drew ?_ | refine Below.alloc ?_ (by (first | omega | (simp; omega) | (simp; done) | fail "sml")) _)); first | done | fail "chs")⟩
  case rest =>
  obtain ⟨rfl, hbx⟩ := hcut
  have HA := Lib.hid hbx
  clear hbx hA2 hz a0 a1 c0 c1 c2 c3 c4 c5 c6 c7 c8
  obtain ⟨hz, a0, a1, c0, c1, c2, c3, c4, c5, c6, c7, c8⟩ := HK.out _ HA.out
  go_wp2_with fail
  refine (CTG.out (w.heap.size + 2) W0 (by omega) l0 rW0 _ HA.out).mono ?_
  rintro en w5 ⟨v5, rfl, hh5, hb5, hk5⟩
  have HA := Lib.hid hk5
  have H5 := Lib.hid hh5
  obtain ⟨x1, x2, rfl, hx1, hx2⟩ := hh5
  obtain ⟨p5, cap5, rfl⟩ := hx1.form
  obtain ⟨q5, caq5, rfl⟩ := hx2.form
  clear hb5 hk5 hx1 hx2 hz a0 a1 c0 c1 c2 c3 c4 c5 c6 c7 c8
  obtain ⟨hz5, a0, a1, c0, c1, c2, c3, c4, c5, c6, c7, c8⟩ := HK.out _ HA.out
  have hq5 : w.heap.size < w5.heap.size := by omega
  have hq5' : w.heap.size + 1 < w5.heap.size := by omega
  go_wp2_with fail
  have HA := Lib.hid (HA.out.alloc (by omega) (.cells #[.slice p5 g.ns.length cap5, .slice q5 g.es.length caq5] 37))
  have HZ := Lib.hid (Below.refl (w5.heap.size + 1) (w5.alloc (.cells #[.slice p5 g.ns.length cap5, .slice q5 g.es.length caq5] 37)))
  refine (CTE.out (w.heap.size + 2) W0 (by omega) l0 rW0 _ HA.out).mono ?_
  rintro en w6 ⟨v6, rfl, hh6, hb6, hk6⟩
  have HA := Lib.hid hk6
  have H6 := Lib.hid hh6
  have HB6 := Lib.hid (hb6.mono (show w5.heap.size + 1 ≤ _ by simp))
  have hz6 : w5.heap.size + 1 ≤ w6.heap.size := by have := hb6.size; simp at this; omega
  obtain ⟨p6, cap6, q6, caq6, rfl, _, _⟩ := hh6.form
  clear hb6 hk6 hh6 a0 a1 c0 c1 c2 c3 c4 c5 c6 c7 c8
  obtain ⟨_, a0, a1, c0, c1, c2, c3, c4, c5, c6, c7, c8⟩ := HK.out _ HA.out
  have hq6 : w5.heap.size < w6.heap.size := by omega
  have o0 := keepc HB6.out (by omega) (show (w5.alloc (.cells #[.slice p5 g.ns.length cap5, .slice q5 g.es.length caq5] 37)).cell? ⟨w5.heap.size, 0, none⟩ = some (.slice p5 g.ns.length cap5) by simp [go_sem])
  have o1 := keepc HB6.out (by omega) (show (w5.alloc (.cells #[.slice p5 g.ns.length cap5, .slice q5 g.es.length caq5] 37)).cell? ⟨w5.heap.size, 1, none⟩ = some (.slice q5 g.es.length caq5) by simp [go_sem])
  go_wp2_with fail
  clear o0 o1
  obtain ⟨W7, e7⟩ : ∃ W7, W7 = w6.alloc (.cells #[.bool e.n, .string e.v, .int .i64 e.l.op, .string e.l.a, .slice p6 e.l.ks.list.length cap6, .int .i64 e.c.op, .string e.c.a, .slice q6 e.c.ks.list.length caq6, .int .i64 e.d] 43) := ⟨_, rfl⟩
  rw [← e7]
  have hz7 : w6.heap.size + 1 ≤ W7.heap.size := by rw [e7]; simp
  have HA7 := Lib.hid (show Below (w.heap.size + 2) W0 W7 by rw [e7]; exact HA.out.alloc (by omega) _)
  have H67 := Lib.hid (show Below w6.heap.size w6 W7 by rw [e7]; exact (Below.refl _ _).alloc (Nat.le_refl _) _)
  have HC6 := Lib.hid (show W7.cell? ⟨w6.heap.size, 0, none⟩ = some (.bool e.n) ∧ W7.cell? ⟨w6.heap.size, 1, none⟩ = some (.string e.v) ∧ W7.cell? ⟨w6.heap.size, 2, none⟩ = some (.int .i64 e.l.op) ∧ W7.cell? ⟨w6.heap.size, 3, none⟩ = some (.string e.l.a) ∧ W7.cell? ⟨w6.heap.size, 4, none⟩ = some (.slice p6 e.l.ks.list.length cap6) ∧ W7.cell? ⟨w6.heap.size, 5, none⟩ = some (.int .i64 e.c.op) ∧ W7.cell? ⟨w6.heap.size, 6, none⟩ = some (.string e.c.a) ∧ W7.cell? ⟨w6.heap.size, 7, none⟩ = some (.slice q6 e.c.ks.list.length caq6) ∧ W7.cell? ⟨w6.heap.size, 8, none⟩ = some (.int .i64 e.d) by rw [e7]; exact ⟨by simp [go_sem], by simp [go_sem], by simp [go_sem], by simp [go_sem], by simp [go_sem], by simp [go_sem], by simp [go_sem], by simp [go_sem], by simp [go_sem]⟩)
  have H57 := Lib.hid (HB6.out.trans (H67.out.mono (by omega)))
  have HC5 := Lib.hid (show W7.cell? ⟨w5.heap.size, 0, none⟩ = some (.slice p5 g.ns.length cap5) ∧ W7.cell? ⟨w5.heap.size, 1, none⟩ = some (.slice q5 g.es.length caq5) from ⟨keepc H57.out (by omega) (by simp [go_sem]), keepc H57.out (by omega) (by simp [go_sem])⟩)
  have HG7 := Lib.hid (fun (X : World) (hX : Below W7.heap.size W7 X) (B : Nat) (hB : W7.heap.size ≤ B) => ((H5.out.below (((Below.refl _ w5).alloc (Nat.le_refl _) (.cells #[.slice p5 g.ns.length cap5, .slice q5 g.es.length caq5] 37)).trans ((H57.out.trans (hX.mono (by omega))).mono (by omega)))).mono (show w5.heap.size ≤ B by omega)))
  have HE7 := Lib.hid (fun (X : World) (hX : Below W7.heap.size W7 X) (B : Nat) (hB : W7.heap.size ≤ B) => H6.out.below (H67.out.trans (hX.mono (by omega))) (show w6.heap.size ≤ B by omega))
  have HX := Lib.hid (show ∀ w', Below W7.heap.size W7 w' → w'.cell? ⟨w.heap.size, 0, none⟩ = some (.slice pa g.ns.length ca) ∧ w'.cell? ⟨w.heap.size, 1, none⟩ = some (.slice pb g.es.length cb) ∧ w'.cell? ⟨w.heap.size + 1, 0, none⟩ = some (.bool e.n) ∧ w'.cell? ⟨w.heap.size + 1, 1, none⟩ = some (.string e.v) ∧ w'.cell? ⟨w.heap.size + 1, 2, none⟩ = some (.int .i64 e.l.op) ∧ w'.cell? ⟨w.heap.size + 1, 3, none⟩ = some (.string e.l.a) ∧ w'.cell? ⟨w.heap.size + 1, 4, none⟩ = some (.slice p e.l.ks.list.length cap) ∧ w'.cell? ⟨w.heap.size + 1, 5, none⟩ = some (.int .i64 e.c.op) ∧ w'.cell? ⟨w.heap.size + 1, 6, none⟩ = some (.string e.c.a) ∧ w'.cell? ⟨w.heap.size + 1, 7, none⟩ = some (.slice p' e.c.ks.list.length cap') ∧ w'.cell? ⟨w.heap.size + 1, 8, none⟩ = some (.int .i64 e.d) ∧ w'.cell? ⟨w5.heap.size, 0, none⟩ = some (.slice p5 g.ns.length cap5) ∧ w'.cell? ⟨w5.heap.size, 1, none⟩ = some (.slice q5 g.es.length caq5) ∧ w'.cell? ⟨w6.heap.size, 0, none⟩ = some (.bool e.n) ∧ w'.cell? ⟨w6.heap.size, 1, none⟩ = some (.string e.v) ∧ w'.cell? ⟨w6.heap.size, 2, none⟩ = some (.int .i64 e.l.op) ∧ w'.cell? ⟨w6.heap.size, 3, none⟩ = some (.string e.l.a) ∧ w'.cell? ⟨w6.heap.size, 4, none⟩ = some (.slice p6 e.l.ks.list.length cap6) ∧ w'.cell? ⟨w6.heap.size, 5, none⟩ = some (.int .i64 e.c.op) ∧ w'.cell? ⟨w6.heap.size, 6, none⟩ = some (.string e.c.a) ∧ w'.cell? ⟨w6.heap.size, 7, none⟩ = some (.slice q6 e.c.ks.list.length caq6) ∧ w'.cell? ⟨w6.heap.size, 8, none⟩ = some (.int .i64 e.d) from fun w' hk => by
    obtain ⟨_, h1, h2, h3, h4, h5, h6, h7, h8, h9, h10, h11⟩ := HK.out w' (HA7.out.trans (hk.mono (by omega)))
    obtain ⟨k0, k1, k2, k3, k4, k5, k6, k7, k8⟩ := HC6.out
    obtain ⟨j0, j1⟩ := HC5.out
    exact ⟨h1, h2, h3, h4, h5, h6, h7, h8, h9, h10, h11, keepc hk (by omega) j0, keepc hk (by omega) j1, keepc hk (by omega) k0, keepc hk (by omega) k1, keepc hk (by omega) k2, keepc hk (by omega) k3, keepc hk (by omega) k4, keepc hk (by omega) k5, keepc hk (by omega) k6, keepc hk (by omega) k7, keepc hk (by omega) k8⟩)
  clear e7 a0 a1 c0 c1 c2 c3 c4 c5 c6 c7 c8
  have r7 := Below.refl W7.heap.size W7
  refine (CI.out W7 _ _ W7.heap.size (Nat.le_refl _) (HG7.out _ r7 _ (Nat.le_refl _)) (HE7.out _ r7 _ (Nat.le_refl _)) (HVA.out _ HA7.out)).mono ?_
  rintro en w8 ⟨rfl, h8⟩
  obtain ⟨y0, y1, y2, y3, y4, y5, y6, y7, y8, y9, y10, y11, y12, y13, y14, y15, y16, y17, y18, y19, y20, y21⟩ := HX.out _ h8
  have CTG := Lib.hid (fun (E : World) (hE : Below W7.heap.size W7 E) => (CTG.out W7.heap.size W7 (by omega) (Nat.le_refl _) HA7.out E hE).mono (R' := fun en w' => ∃ v', en = .returned v' ∧ g.At w'.heap.size w' v' ∧ Below W7.heap.size W7 w') fun en w' ⟨v', he, ho, _, hb⟩ => ⟨v', he, ho, hb⟩)
  have CTE := Lib.hid (fun (E : World) (hE : Below W7.heap.size W7 E) => (CTE.out W7.heap.size W7 (by omega) (Nat.le_refl _) HA7.out E hE).mono (R' := fun en w' => ∃ v', en = .returned v' ∧ e.At w'.heap.size w' v' ∧ Below W7.heap.size W7 w') fun en w' ⟨v', he, ho, _, hb⟩ => ⟨v', he, ho, hb⟩)
  go_upto_region 14 with fail
  go_cut [43] (fun s wx => s = .bool false ∧ Below W7.heap.size W7 wx)
  case first =>
    go_region_held3 (fun w' => w'.cell? ⟨w.heap.size, 0, none⟩ = some (.slice pa g.ns.length ca) ∧ w'.cell? ⟨w.heap.size, 1, none⟩ = some (.slice pb g.es.length cb) ∧ w'.cell? ⟨w.heap.size + 1, 0, none⟩ = some (.bool e.n) ∧ w'.cell? ⟨w.heap.size + 1, 1, none⟩ = some (.string e.v) ∧ w'.cell? ⟨w.heap.size + 1, 2, none⟩ = some (.int .i64 e.l.op) ∧ w'.cell? ⟨w.heap.size + 1, 3, none⟩ = some (.string e.l.a) ∧ w'.cell? ⟨w.heap.size + 1, 4, none⟩ = some (.slice p e.l.ks.list.length cap) ∧ w'.cell? ⟨w.heap.size + 1, 5, none⟩ = some (.int .i64 e.c.op) ∧ w'.cell? ⟨w.heap.size + 1, 6, none⟩ = some (.string e.c.a) ∧ w'.cell? ⟨w.heap.size + 1, 7, none⟩ = some (.slice p' e.c.ks.list.length cap') ∧ w'.cell? ⟨w.heap.size + 1, 8, none⟩ = some (.int .i64 e.d) ∧ w'.cell? ⟨w5.heap.size, 0, none⟩ = some (.slice p5 g.ns.length cap5) ∧ w'.cell? ⟨w5.heap.size, 1, none⟩ = some (.slice q5 g.es.length caq5) ∧ w'.cell? ⟨w6.heap.size, 0, none⟩ = some (.bool e.n) ∧ w'.cell? ⟨w6.heap.size, 1, none⟩ = some (.string e.v) ∧ w'.cell? ⟨w6.heap.size, 2, none⟩ = some (.int .i64 e.l.op) ∧ w'.cell? ⟨w6.heap.size, 3, none⟩ = some (.string e.l.a) ∧ w'.cell? ⟨w6.heap.size, 4, none⟩ = some (.slice p6 e.l.ks.list.length cap6) ∧ w'.cell? ⟨w6.heap.size, 5, none⟩ = some (.int .i64 e.c.op) ∧ w'.cell? ⟨w6.heap.size, 6, none⟩ = some (.string e.c.a) ∧ w'.cell? ⟨w6.heap.size, 7, none⟩ = some (.slice q6 e.c.ks.list.length caq6) ∧ w'.cell? ⟨w6.heap.size, 8, none⟩ = some (.int .i64 e.d))
      (exact HX.out _ (show Below W7.heap.size W7 _ by ((repeat (first | with_reducible assumption | with_reducible exact Below.refl _ _ | refine Below.setCell ?_ (by (first | omega | (simp; omega) | (simp; done) | fail "sml")) _ | refine Below.drew ?_ | refine Below.alloc ?_ (by (first | omega | (simp; omega) | (simp; done) | fail "sml")) _)); first | done | fail "chs")))
      (first
        | (go_at_call 8; refine (CTG.out _ (by ((repeat (first | with_reducible assumption | with_reducible exact Below.refl _ _ | refine Below.setCell ?_ (by (first | omega | (simp; omega) | (simp; done) | fail "sml")) _ | refine Below.drew ?_ | refine Below.alloc ?_ (by (first | omega | (simp; omega) | (simp; done) | fail "sml")) _)); first | done | fail "chs"))).mono ?_; rintro en wa ⟨va, rfl, hha, hka⟩; have za := hka.size; have HHa := Lib.hid hha; clear hha)
        | (go_at_call 11; refine (eqGraph_any g _ _ wa.heap.size _ (HG7.out _ (by ((repeat (first | with_reducible assumption | with_reducible exact Below.refl _ _ | refine Below.setCell ?_ (by (first | omega | (simp; omega) | (simp; done) | fail "sml")) _ | refine Below.drew ?_ | refine Below.alloc ?_ (by (first | omega | (simp; omega) | (simp; done) | fail "sml")) _)); first | done | fail "chs")) _ (by omega)) (HHa.out.below (by ((repeat (first | with_reducible assumption | with_reducible exact Below.refl _ _ | refine Below.setCell ?_ (by (first | omega | (simp; omega) | (simp; done) | fail "sml")) _ | refine Below.drew ?_ | refine Below.alloc ?_ (by (first | omega | (simp; omega) | (simp; done) | fail "sml")) _)); first | done | fail "chs"))) (by (first | omega | (simp; omega) | (simp; done) | fail "sml"))).mono ?_; rintro en wb ⟨rfl, hbb⟩; have hkb := Below.trans (show Below W7.heap.size W7 _ by ((repeat (first | with_reducible assumption | with_reducible exact Below.refl _ _ | refine Below.setCell ?_ (by (first | omega | (simp; omega) | (simp; done) | fail "sml")) _ | refine Below.drew ?_ | refine Below.alloc ?_ (by (first | omega | (simp; omega) | (simp; done) | fail "sml")) _)); first | done | fail "chs")) (hbb.mono (by first | omega | (simp; omega))); clear hbb))
    all_goals (go_wp2_with fail; go_meet)
    all_goals exact ⟨rfl, by ((repeat (first | with_reducible assumption | with_reducible exact Below.refl _ _ | refine Below.setCell ?_ (by (first | omega | (simp; omega) | (simp; done) | fail "sml")) _ | refine Below.drew ?_ | refine Below.alloc ?_ (by (first | omega | (simp; omega) | (simp; done) | fail "sml")) _)); first | done | fail "chs")⟩
  case rest =>
  obtain ⟨rfl, h9⟩ := hcut
  clear h8 y0 y1 y2 y3 y4 y5 y6 y7 y8 y9 y10 y11 y12 y13 y14 y15 y16 y17 y18 y19 y20 y21
  obtain ⟨y0, y1, y2, y3, y4, y5, y6, y7, y8, y9, y10, y11, y12, y13, y14, y15, y16, y17, y18, y19, y20, y21⟩ := HX.out _ h9
  go_upto_region 16 with fail
  go_cut [48] (fun s wx => s = .bool false ∧ Below W7.heap.size W7 wx)
  case first =>
    go_region_held3 (fun w' => w'.cell? ⟨w.heap.size, 0, none⟩ = some (.slice pa g.ns.length ca) ∧ w'.cell? ⟨w.heap.size, 1, none⟩ = some (.slice pb g.es.length cb) ∧ w'.cell? ⟨w.heap.size + 1, 0, none⟩ = some (.bool e.n) ∧ w'.cell? ⟨w.heap.size + 1, 1, none⟩ = some (.string e.v) ∧ w'.cell? ⟨w.heap.size + 1, 2, none⟩ = some (.int .i64 e.l.op) ∧ w'.cell? ⟨w.heap.size + 1, 3, none⟩ = some (.string e.l.a) ∧ w'.cell? ⟨w.heap.size + 1, 4, none⟩ = some (.slice p e.l.ks.list.length cap) ∧ w'.cell? ⟨w.heap.size + 1, 5, none⟩ = some (.int .i64 e.c.op) ∧ w'.cell? ⟨w.heap.size + 1, 6, none⟩ = some (.string e.c.a) ∧ w'.cell? ⟨w.heap.size + 1, 7, none⟩ = some (.slice p' e.c.ks.list.length cap') ∧ w'.cell? ⟨w.heap.size + 1, 8, none⟩ = some (.int .i64 e.d) ∧ w'.cell? ⟨w5.heap.size, 0, none⟩ = some (.slice p5 g.ns.length cap5) ∧ w'.cell? ⟨w5.heap.size, 1, none⟩ = some (.slice q5 g.es.length caq5) ∧ w'.cell? ⟨w6.heap.size, 0, none⟩ = some (.bool e.n) ∧ w'.cell? ⟨w6.heap.size, 1, none⟩ = some (.string e.v) ∧ w'.cell? ⟨w6.heap.size, 2, none⟩ = some (.int .i64 e.l.op) ∧ w'.cell? ⟨w6.heap.size, 3, none⟩ = some (.string e.l.a) ∧ w'.cell? ⟨w6.heap.size, 4, none⟩ = some (.slice p6 e.l.ks.list.length cap6) ∧ w'.cell? ⟨w6.heap.size, 5, none⟩ = some (.int .i64 e.c.op) ∧ w'.cell? ⟨w6.heap.size, 6, none⟩ = some (.string e.c.a) ∧ w'.cell? ⟨w6.heap.size, 7, none⟩ = some (.slice q6 e.c.ks.list.length caq6) ∧ w'.cell? ⟨w6.heap.size, 8, none⟩ = some (.int .i64 e.d))
      (exact HX.out _ (show Below W7.heap.size W7 _ by ((repeat (first | with_reducible assumption | with_reducible exact Below.refl _ _ | refine Below.setCell ?_ (by (first | omega | (simp; omega) | (simp; done) | fail "sml")) _ | refine Below.drew ?_ | refine Below.alloc ?_ (by (first | omega | (simp; omega) | (simp; done) | fail "sml")) _)); first | done | fail "chs")))
      (first
        | (go_at_call 9; refine (CTE.out _ (by ((repeat (first | with_reducible assumption | with_reducible exact Below.refl _ _ | refine Below.setCell ?_ (by (first | omega | (simp; omega) | (simp; done) | fail "sml")) _ | refine Below.drew ?_ | refine Below.alloc ?_ (by (first | omega | (simp; omega) | (simp; done) | fail "sml")) _)); first | done | fail "chs"))).mono ?_; rintro en wa ⟨va, rfl, hha, hka⟩; have za := hka.size; have HHa := Lib.hid hha; clear hha)
        | (go_at_call 12; refine (eqElem_any e _ _ wa.heap.size _ (HE7.out _ (by ((repeat (first | with_reducible assumption | with_reducible exact Below.refl _ _ | refine Below.setCell ?_ (by (first | omega | (simp; omega) | (simp; done) | fail "sml")) _ | refine Below.drew ?_ | refine Below.alloc ?_ (by (first | omega | (simp; omega) | (simp; done) | fail "sml")) _)); first | done | fail "chs")) _ (by omega)) (HHa.out.below (by ((repeat (first | with_reducible assumption | with_reducible exact Below.refl _ _ | refine Below.setCell ?_ (by (first | omega | (simp; omega) | (simp; done) | fail "sml")) _ | refine Below.drew ?_ | refine Below.alloc ?_ (by (first | omega | (simp; omega) | (simp; done) | fail "sml")) _)); first | done | fail "chs")) (Nat.le_refl _)) (by (first | omega | (simp; omega) | (simp; done) | fail "sml"))).mono ?_; rintro en wb ⟨rfl, hbb⟩; have hkb := Below.trans (show Below W7.heap.size W7 _ by ((repeat (first | with_reducible assumption | with_reducible exact Below.refl _ _ | refine Below.setCell ?_ (by (first | omega | (simp; omega) | (simp; done) | fail "sml")) _ | refine Below.drew ?_ | refine Below.alloc ?_ (by (first | omega | (simp; omega) | (simp; done) | fail "sml")) _)); first | done | fail "chs")) (hbb.mono (by first | omega | (simp; omega))); clear hbb))
    all_goals (go_wp2_with fail; go_meet)
    all_goals exact ⟨rfl, by ((repeat (first | with_reducible assumption | with_reducible exact Below.refl _ _ | refine Below.setCell ?_ (by (first | omega | (simp; omega) | (simp; done) | fail "sml")) _ | refine Below.drew ?_ | refine Below.alloc ?_ (by (first | omega | (simp; omega) | (simp; done) | fail "sml")) _)); first | done | fail "chs")⟩
  case rest =>
  obtain ⟨rfl, h10⟩ := hcut
  have HB := Lib.hid (HV.out.trans ((HA7.out.trans (h10.mono (by omega))).mono (by omega)))
  clear h9 h10 y0 y1 y2 y3 y4 y5 y6 y7 y8 y9 y10 y11 y12 y13 y14 y15 y16 y17 y18 y19 y20 y21
  go_wp2_with fail
  go_ret
  exact ⟨rfl, HB.out⟩
end Go.Proofs.YthpclghhlodnhaaDoor
