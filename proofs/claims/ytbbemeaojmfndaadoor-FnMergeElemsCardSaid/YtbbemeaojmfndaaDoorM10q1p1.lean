/- Lemmas on the data and the memory of this program's values: several texts in one. -/
import Derived.Test.YtbbemeaojmfndaaDoorL3E
import Derived.Deep.RegionHeld3
namespace Go.Proofs.YtbbemeaojmfndaaDoor
open Go.RowKit

def CaseEE (w : World) (e : Ending) (w' : World) : Prop :=
  ∃ (z : El) (p3 : Option Addr) (c3 : Nat) (q3 : Option Addr) (d3 : Nat) (y : El) (p2 : Option Addr) (c2 : Nat) (q2 : Option Addr) (d2 : Nat), e = .returned (.tuple #[.agg #[.bool z.n, .string z.v, .int .i64 z.l.op, .string z.l.a, .slice p3 z.l.ks.list.length c3, .int .i64 z.c.op, .string z.c.a, .slice q3 z.c.ks.list.length d3, .int .i64 z.d], .agg #[.bool y.n, .string y.v, .int .i64 y.l.op, .string y.l.a, .slice p2 y.l.ks.list.length c2, .int .i64 y.c.op, .string y.c.a, .slice q2 y.c.ks.list.length d2, .int .i64 y.d]]) ∧ EDr z p3 c3 q3 d3 16 w.heap.size w' ∧ EDr y p2 c2 q2 d2 14 w.heap.size w' ∧ Below w.heap.size w w'
set_option maxRecDepth 100000 in
set_option maxHeartbeats 8000000 in
theorem drawMergeElems_any (zs : List Int) (v : Value) (B : Nat) (w : World) (hv : Sl 1 byCells B w v zs) (hB : B ≤ w.heap.size) (hz : ∀ z ∈ zs, 0 ≤ z ∧ z ≤ 255) :
    Calls Tryd.prog 7 #[v] w (CaseEE w) := by
  obtain ⟨p0, cap, rfl⟩ := hv.form
  have HV := Lib.hid hv
  clear hv
  go_enter Tryd.func7, Tryd.ntmps7
  go_wp2_with fail
  obtain ⟨W1, eW1⟩ : ∃ E, E = (w.alloc (.cells #[.bool false, .string ⟨#[]⟩, .int .i64 0, .string ⟨#[]⟩, .slice none 0 0, .int .i64 0, .string ⟨#[]⟩, .slice none 0 0, .int .i64 0] 27)).alloc (.cells #[.bool false, .string ⟨#[]⟩, .int .i64 0, .string ⟨#[]⟩, .slice none 0 0, .int .i64 0, .string ⟨#[]⟩, .slice none 0 0, .int .i64 0] 27) := ⟨_, rfl⟩
  obtain ⟨sW1, sW1'⟩ : w.heap.size + 2 ≤ W1.heap.size ∧ W1.heap.size ≤ w.heap.size + 2 := by rw [eW1]; constructor <;> simp
  have HW1 := Lib.hid (show Chg [] w W1 by rw [eW1]; exact ((Chg.refl _ _).alloc _).alloc _)
  have hR3 : ElC false ⟨#[]⟩ 0 ⟨#[]⟩ (.slice none 0 0) 0 ⟨#[]⟩ (.slice none 0 0) 0 (w.heap.size + 1) W1 := by rw [eW1]; have := ElC.new (w := w.alloc (.cells #[.bool false, .string ⟨#[]⟩, .int .i64 0, .string ⟨#[]⟩, .slice none 0 0, .int .i64 0, .string ⟨#[]⟩, .slice none 0 0, .int .i64 0] 27)) (n := false) (v := ⟨#[]⟩) (lo := 0) (la := ⟨#[]⟩) (lk := .slice none 0 0) (co := 0) (ca := ⟨#[]⟩) (ck := .slice none 0 0) (d := 0) 27; rw [World.size_alloc] at this; exact this
  have hR2 : ElC false ⟨#[]⟩ 0 ⟨#[]⟩ (.slice none 0 0) 0 ⟨#[]⟩ (.slice none 0 0) 0 (w.heap.size) W1 := by rw [eW1]; exact (ElC.new (w := w) (n := false) (v := ⟨#[]⟩) (lo := 0) (la := ⟨#[]⟩) (lk := .slice none 0 0) (co := 0) (ca := ⟨#[]⟩) (ck := .slice none 0 0) (d := 0) 27).chg (G := []) ((Chg.refl _ _).alloc _) (by simp)
  rw [← eW1]
  clear eW1
  refine (open_any zs _ B W1 (HV.out.below ((HW1.out.below (Nat.le_refl _) (by simp)).mono hB)) (by omega) hz).mono ?_
  rintro en u1 ⟨rfl, hr1, hs1, hb1⟩
  have e1 : Dr u1 W1.heap.size 0 := ⟨0, Nat.le_refl _, hr1⟩
  have k1 : Chg [] W1 u1 := Chg.of_below hb1 []
  have a1 := e1.lt
  clear hr1 hb1 hs1
  go_wp2_with fail
  refine (l3Some_any true _ _ _ 3 _ _ (e1.alloc _) (by omega) (Cs.fresh strB strB_spec _ _ _ rfl (by rfl) (by kernel_rfl)) (by decide) (by omega)).mono ?_
  rintro en u2 ⟨x, p1, c1, q1, d1, rfl, hx, e2, k2⟩
  have h2 : Chg [W1.heap.size] u1 u2 := (((Chg.refl [] u1).alloc _).mono (by simp)).trans k2
  have j2 : Chg [W1.heap.size] W1 u2 := (k1.mono (by simp)).trans h2
  have s2 := h2.size
  have hx2 : EDr x p1 c1 q1 d1 14 u1.heap.size u2 := hx.low (by simp)
  clear hx k2 h2
  go_upto_region 3 with fail
  obtain ⟨W2, eW2⟩ : ∃ E, E = u2.alloc (.cells #[.bool x.n, .string x.v, .int .i64 x.l.op, .string x.l.a, .slice p1 x.l.ks.list.length c1, .int .i64 x.c.op, .string x.c.a, .slice q1 x.c.ks.list.length d1, .int .i64 x.d] 27) := ⟨_, rfl⟩
  have sW2 : u2.heap.size < W2.heap.size := by rw [eW2]; simp
  have kW2 : Chg [] u2 W2 := by rw [eW2]; exact (Chg.refl _ _).alloc _
  have hCA : W2.cell? ⟨u2.heap.size, 0, none⟩ = some (.bool x.n) ∧ W2.cell? ⟨u2.heap.size, 1, none⟩ = some (.string x.v) ∧ W2.cell? ⟨u2.heap.size, 2, none⟩ = some (.int .i64 x.l.op) ∧ W2.cell? ⟨u2.heap.size, 3, none⟩ = some (.string x.l.a) ∧ W2.cell? ⟨u2.heap.size, 4, none⟩ = some (.slice p1 x.l.ks.list.length c1) ∧ W2.cell? ⟨u2.heap.size, 5, none⟩ = some (.int .i64 x.c.op) ∧ W2.cell? ⟨u2.heap.size, 6, none⟩ = some (.string x.c.a) ∧ W2.cell? ⟨u2.heap.size, 7, none⟩ = some (.slice q1 x.c.ks.list.length d1) ∧ W2.cell? ⟨u2.heap.size, 8, none⟩ = some (.int .i64 x.d) := by rw [eW2]; exact ⟨by simp [go_sem], by simp [go_sem], by simp [go_sem], by simp [go_sem], by simp [go_sem], by simp [go_sem], by simp [go_sem], by simp [go_sem], by simp [go_sem]⟩
  rw [← eW2]
  clear eW2
  have eW2 := e2.chg kW2 (by simp)
  go_wp2_with fail
  refine (l3Some_any true _ _ _ 3 _ _ (eW2.alloc _) (by omega) (Cs.fresh strB strB_spec _ _ _ rfl (by rfl) (by kernel_rfl)) (by decide) (by omega)).mono ?_
  rintro en u3 ⟨y, p2, c2, q2, d2, rfl, hy, e3, k3⟩
  have h3 : Chg [W1.heap.size] W2 u3 := (((Chg.refl [] W2).alloc _).mono (by simp)).trans k3
  have s3 := h3.size
  have hy3 : EDr y p2 c2 q2 d2 14 W2.heap.size u3 := hy.low (by simp)
  clear hy k3
  go_upto_region 4 with fail
  obtain ⟨W3, eW3⟩ : ∃ E, E = u3.alloc (.cells #[.bool y.n, .string y.v, .int .i64 y.l.op, .string y.l.a, .slice p2 y.l.ks.list.length c2, .int .i64 y.c.op, .string y.c.a, .slice q2 y.c.ks.list.length d2, .int .i64 y.d] 27) := ⟨_, rfl⟩
  have sW3 : u3.heap.size < W3.heap.size := by rw [eW3]; simp
  have kW3 : Chg [] u3 W3 := by rw [eW3]; exact (Chg.refl _ _).alloc _
  have hCB : W3.cell? ⟨u3.heap.size, 0, none⟩ = some (.bool y.n) ∧ W3.cell? ⟨u3.heap.size, 1, none⟩ = some (.string y.v) ∧ W3.cell? ⟨u3.heap.size, 2, none⟩ = some (.int .i64 y.l.op) ∧ W3.cell? ⟨u3.heap.size, 3, none⟩ = some (.string y.l.a) ∧ W3.cell? ⟨u3.heap.size, 4, none⟩ = some (.slice p2 y.l.ks.list.length c2) ∧ W3.cell? ⟨u3.heap.size, 5, none⟩ = some (.int .i64 y.c.op) ∧ W3.cell? ⟨u3.heap.size, 6, none⟩ = some (.string y.c.a) ∧ W3.cell? ⟨u3.heap.size, 7, none⟩ = some (.slice q2 y.c.ks.list.length d2) ∧ W3.cell? ⟨u3.heap.size, 8, none⟩ = some (.int .i64 y.d) := by rw [eW3]; exact ⟨by simp [go_sem], by simp [go_sem], by simp [go_sem], by simp [go_sem], by simp [go_sem], by simp [go_sem], by simp [go_sem], by simp [go_sem], by simp [go_sem]⟩
  rw [← eW3]
  clear eW3
  have dW3 := e3.chg kW3 (by simp)
  have j3 : Chg [W1.heap.size] W1 W3 := (j2.trans (kW2.mono (by simp))).trans (h3.trans (kW3.mono (by simp)))
  have hA3 : Chg [W1.heap.size] W2 W3 := h3.trans (kW3.mono (by simp))
  obtain ⟨m0, m1, m2, m3, m4, m5, m6, m7, m8⟩ := hCA
  obtain ⟨n0, n1, n2, n3, n4, n5, n6, n7, n8⟩ := hCB
  have HC := Lib.hid (fun (E : World) (hE : Chg [w.heap.size, w.heap.size + 1, W1.heap.size] W3 E) => (⟨⟨hE.cellOf (by simp; omega) (hA3.cellOf (by simp; omega) m0), hE.cellOf (by simp; omega) (hA3.cellOf (by simp; omega) m1), hE.cellOf (by simp; omega) (hA3.cellOf (by simp; omega) m2), hE.cellOf (by simp; omega) (hA3.cellOf (by simp; omega) m3), hE.cellOf (by simp; omega) (hA3.cellOf (by simp; omega) m4), hE.cellOf (by simp; omega) (hA3.cellOf (by simp; omega) m5), hE.cellOf (by simp; omega) (hA3.cellOf (by simp; omega) m6), hE.cellOf (by simp; omega) (hA3.cellOf (by simp; omega) m7), hE.cellOf (by simp; omega) (hA3.cellOf (by simp; omega) m8)⟩, hE.cellOf (by simp; omega) n0, hE.cellOf (by simp; omega) n1, hE.cellOf (by simp; omega) n2, hE.cellOf (by simp; omega) n3, hE.cellOf (by simp; omega) n4, hE.cellOf (by simp; omega) n5, hE.cellOf (by simp; omega) n6, hE.cellOf (by simp; omega) n7, hE.cellOf (by simp; omega) n8⟩ : (E.cell? ⟨u2.heap.size, 0, none⟩ = some (.bool x.n) ∧ E.cell? ⟨u2.heap.size, 1, none⟩ = some (.string x.v) ∧ E.cell? ⟨u2.heap.size, 2, none⟩ = some (.int .i64 x.l.op) ∧ E.cell? ⟨u2.heap.size, 3, none⟩ = some (.string x.l.a) ∧ E.cell? ⟨u2.heap.size, 4, none⟩ = some (.slice p1 x.l.ks.list.length c1) ∧ E.cell? ⟨u2.heap.size, 5, none⟩ = some (.int .i64 x.c.op) ∧ E.cell? ⟨u2.heap.size, 6, none⟩ = some (.string x.c.a) ∧ E.cell? ⟨u2.heap.size, 7, none⟩ = some (.slice q1 x.c.ks.list.length d1) ∧ E.cell? ⟨u2.heap.size, 8, none⟩ = some (.int .i64 x.d)) ∧ E.cell? ⟨u3.heap.size, 0, none⟩ = some (.bool y.n) ∧ E.cell? ⟨u3.heap.size, 1, none⟩ = some (.string y.v) ∧ E.cell? ⟨u3.heap.size, 2, none⟩ = some (.int .i64 y.l.op) ∧ E.cell? ⟨u3.heap.size, 3, none⟩ = some (.string y.l.a) ∧ E.cell? ⟨u3.heap.size, 4, none⟩ = some (.slice p2 y.l.ks.list.length c2) ∧ E.cell? ⟨u3.heap.size, 5, none⟩ = some (.int .i64 y.c.op) ∧ E.cell? ⟨u3.heap.size, 6, none⟩ = some (.string y.c.a) ∧ E.cell? ⟨u3.heap.size, 7, none⟩ = some (.slice q2 y.c.ks.list.length d2) ∧ E.cell? ⟨u3.heap.size, 8, none⟩ = some (.int .i64 y.d)))
  clear m0 m1 m2 m3 m4 m5 m6 m7 m8 n0 n1 n2 n3 n4 n5 n6 n7 n8
  have HX := Lib.hid (hx2.chg ((kW2.mono (by simp)).trans hA3) (by simp; omega))
  have HY := Lib.hid (fun (E : World) (hE : Chg [w.heap.size, w.heap.size + 1, W1.heap.size] W3 E) => ((hy3.chg kW3 (by simp)).chg hE (by simp; omega)).low (show w.heap.size ≤ W2.heap.size by omega))
  have HR2 := Lib.hid (fun (E : World) (hE : Chg [w.heap.size + 1, W1.heap.size] W3 E) => (hR2.chg j3 (by simp; omega)).chg hE (by simp; omega))
  have HR3 := Lib.hid (fun (E : World) (hE : Chg [w.heap.size, W1.heap.size] W3 E) => (hR3.chg j3 (by simp; omega)).chg hE (by simp; omega))
  have HD := Lib.hid dW3
  have HW3 := Lib.hid (show ∀ E, Chg [w.heap.size, w.heap.size + 1, W1.heap.size] W3 E → Below w.heap.size w E from fun E hE => ((HW1.out.mono (by simp)).trans ((j3.mono (by simp)).trans hE) : Chg [w.heap.size, w.heap.size + 1, W1.heap.size] w E).below (Nat.le_refl _) (by simp; omega))
  have z3 := j3.size
  have z2 := s2
  clear hx2 hy3 hR2 hR3 hA3 h3 j2 e1 k1 e2 eW2 e3 dW3
  go_region_held3 (fun w' => (w'.cell? ⟨u2.heap.size, 0, none⟩ = some (.bool x.n) ∧ w'.cell? ⟨u2.heap.size, 1, none⟩ = some (.string x.v) ∧ w'.cell? ⟨u2.heap.size, 2, none⟩ = some (.int .i64 x.l.op) ∧ w'.cell? ⟨u2.heap.size, 3, none⟩ = some (.string x.l.a) ∧ w'.cell? ⟨u2.heap.size, 4, none⟩ = some (.slice p1 x.l.ks.list.length c1) ∧ w'.cell? ⟨u2.heap.size, 5, none⟩ = some (.int .i64 x.c.op) ∧ w'.cell? ⟨u2.heap.size, 6, none⟩ = some (.string x.c.a) ∧ w'.cell? ⟨u2.heap.size, 7, none⟩ = some (.slice q1 x.c.ks.list.length d1) ∧ w'.cell? ⟨u2.heap.size, 8, none⟩ = some (.int .i64 x.d)) ∧ w'.cell? ⟨u3.heap.size, 0, none⟩ = some (.bool y.n) ∧ w'.cell? ⟨u3.heap.size, 1, none⟩ = some (.string y.v) ∧ w'.cell? ⟨u3.heap.size, 2, none⟩ = some (.int .i64 y.l.op) ∧ w'.cell? ⟨u3.heap.size, 3, none⟩ = some (.string y.l.a) ∧ w'.cell? ⟨u3.heap.size, 4, none⟩ = some (.slice p2 y.l.ks.list.length c2) ∧ w'.cell? ⟨u3.heap.size, 5, none⟩ = some (.int .i64 y.c.op) ∧ w'.cell? ⟨u3.heap.size, 6, none⟩ = some (.string y.c.a) ∧ w'.cell? ⟨u3.heap.size, 7, none⟩ = some (.slice q2 y.c.ks.list.length d2) ∧ w'.cell? ⟨u3.heap.size, 8, none⟩ = some (.int .i64 y.d))
    (first | exact HC.out _ (show Chg [w.heap.size, w.heap.size + 1, W1.heap.size] W3 _ by ((repeat (first | with_reducible assumption | with_reducible exact Chg.refl _ _ | refine Chg.setCell ?_ (by simp) _ | refine Chg.alloc ?_ _ | refine Chg.drew ?_)); first | done | fail "chn5")) | exact HC.out _ ((show Chg [w.heap.size, w.heap.size + 1, W1.heap.size] W3 _ from t4.mono (by simp)).trans (show Chg [w.heap.size, w.heap.size + 1, W1.heap.size] u4 _ by ((repeat (first | with_reducible assumption | with_reducible exact Chg.refl _ _ | refine Chg.setCell ?_ (by simp) _ | refine Chg.alloc ?_ _ | refine Chg.drew ?_)); first | done | fail "chn5"))))
    (first | (go_at_call 26
              refine (l3Wrong_any x _ _ _ _ 14 _ (HX.out.chg (show Chg [] W3 _ by ((repeat (first | with_reducible assumption | with_reducible exact Chg.refl _ _ | refine Chg.setCell ?_ (by simp) _ | refine Chg.alloc ?_ _ | refine Chg.drew ?_)); first | done | fail "chn5")) (by simp)).at (Nat.le_refl _) HX.out.1 (by omega) (HD.out.chg (show Chg [] W3 _ by ((repeat (first | with_reducible assumption | with_reducible exact Chg.refl _ _ | refine Chg.setCell ?_ (by simp) _ | refine Chg.alloc ?_ _ | refine Chg.drew ?_)); first | done | fail "chn5")) (by simp)) (by omega)).mono ?_
              rintro en u4 ⟨z, p3, c3, q3, d3, rfl, hz4, d4, k4⟩
              have t4 : Chg [w.heap.size + 1, W1.heap.size] W3 u4 := ((show Chg [] W3 _ by ((repeat (first | with_reducible assumption | with_reducible exact Chg.refl _ _ | refine Chg.setCell ?_ (by simp) _ | refine Chg.alloc ?_ _ | refine Chg.drew ?_)); first | done | fail "chn5")).mono (by simp)).trans (k4.mono (by simp))
              have z4 := t4.size
              obtain ⟨⟨r0, r1, r2, r3, r4, r5, r6, r7, r8⟩, rz, rl⟩ := HR2.out _ t4
              have g0 := rz 0
              have g1 := rz 1
              have g2 := rz 2
              have g3 := rz 3
              have g4 := rz 4
              have g5 := rz 5
              have g6 := rz 6
              have g7 := rz 7
              have g8 := rz 8
              clear rz
              have HZ := Lib.hid (fun (E : World) (hE : Chg [w.heap.size, w.heap.size + 1] u4 E) => (⟨(hz4.chg hE (by simp; omega)).low (show w.heap.size ≤ _ by simp; omega), (show Chg [w.heap.size, w.heap.size + 1, W1.heap.size] W3 E from (t4.mono (by simp)).trans (hE.mono (by simp)))⟩ : EDr z p3 c3 q3 d3 16 w.heap.size E ∧ Chg [w.heap.size, w.heap.size + 1, W1.heap.size] W3 E))
              first
              | (obtain ⟨⟨o0, o1, o2, o3, o4, o5, o6, o7, o8⟩, oz, ol⟩ := HR3.out u4 ((show Chg [] W3 _ by ((repeat (first | with_reducible assumption | with_reducible exact Chg.refl _ _ | refine Chg.setCell ?_ (by simp) _ | refine Chg.alloc ?_ _ | refine Chg.drew ?_)); first | done | fail "chn5")).mono (by simp) |>.trans (k4.mono (by simp)))
                 have y0 := oz 0
                 have y1 := oz 1
                 have y2 := oz 2
                 have y3 := oz 3
                 have y4 := oz 4
                 have y5 := oz 5
                 have y6 := oz 6
                 have y7 := oz 7
                 have y8 := oz 8
                 clear oz)
              | skip
              clear hz4 d4 k4))
  all_goals
    go_wp2_with fail
    have hfin : ∀ E, Chg [w.heap.size, w.heap.size + 1] u4 E → CaseEE w (.returned (.tuple #[.agg #[.bool z.n, .string z.v, .int .i64 z.l.op, .string z.l.a, .slice p3 z.l.ks.list.length c3, .int .i64 z.c.op, .string z.c.a, .slice q3 z.c.ks.list.length d3, .int .i64 z.d], .agg #[.bool y.n, .string y.v, .int .i64 y.l.op, .string y.l.a, .slice p2 y.l.ks.list.length c2, .int .i64 y.c.op, .string y.c.a, .slice q2 y.c.ks.list.length d2, .int .i64 y.d]])) E := fun E hE => ⟨z, p3, c3, q3, d3, y, p2, c2, q2, d2, rfl, (HZ.out E hE).1, HY.out E (HZ.out E hE).2, HW3.out E (HZ.out E hE).2⟩
    refine bodyPost_ret (v := .tuple #[.agg #[.bool z.n, .string z.v, .int .i64 z.l.op, .string z.l.a, .slice p3 z.l.ks.list.length c3, .int .i64 z.c.op, .string z.c.a, .slice q3 z.c.ks.list.length d3, .int .i64 z.d], .agg #[.bool y.n, .string y.v, .int .i64 y.l.op, .string y.l.a, .slice p2 y.l.ks.list.length c2, .int .i64 y.c.op, .string y.c.a, .slice q2 y.c.ks.list.length d2, .int .i64 y.d]]) (by simp [results, Tryd.results7, go_sem, *]) rfl (hfin _ ?_)
    ((repeat (first | with_reducible assumption | with_reducible exact Chg.refl _ _ | refine Chg.setCell ?_ (by simp) _ | refine Chg.alloc ?_ _ | refine Chg.drew ?_)); first | done | fail "chn5")
end Go.Proofs.YtbbemeaojmfndaaDoor
