/- The draws of expressions. -/
import Derived.Test.YtckkebjpkcfmnaaDoorL2M
import Derived.Test.YtckkebjpkcfmnaaDoorReg
namespace Go.Proofs.YtckkebjpkcfmnaaDoor
open Go.RowKit

theorem SomeX.weaken {n c n' c' a N : Nat} {w : World} {e : Ending} {w' : World} (h : SomeX n c a N w e w') (hn : n ≤ n') (hc : c ≤ c') : SomeX n' c' a N w e w' := by
  obtain ⟨x, p, cp, F, h1, ⟨h2, h3, h4⟩, h5, h6⟩ := h
  exact ⟨x, p, cp, F, h1, ⟨h2, h3, h4.mono hn⟩, h5.mono (by omega), h6⟩
theorem l2Some_any (kind z : Int) (a N : Nat) (w : World) (hz : 0 ≤ z ∧ z ≤ 3) (h : Dr w a N) (hN : N ≤ 900000) :
    Calls Tryd.prog 35 #[.pointer (some ⟨a, 0, none⟩), .int .i64 kind, .int .i64 z] w (SomeX 14 30 a N w) := by
  rcases (by omega : z = 0 ∨ z = 1 ∨ z = 2 ∨ z = 3) with rfl | rfl | rfl | rfl
  · exact (l2Some0 kind a N w h (by omega)).mono fun _ _ h => h.weaken (by omega) (by omega)
  · exact (l2Some1 kind a N w h (by omega)).mono fun _ _ h => h.weaken (by omega) (by omega)
  · exact (l2Some2 kind a N w h (by omega)).mono fun _ _ h => h.weaken (by omega) (by omega)
  · exact (l2Some3 kind a N w h (by omega)).mono fun _ _ h => h
/-- An expression of a draw: new memory of the call's own. -/
def XNew (x : Ex) (p : Option Addr) (cp : Nat) (F : List Nat) (lo : Nat) (w : World) : Prop := x.ks.Own w (.slice p x.ks.list.length cp) F ∧ (∀ z ∈ F, lo ≤ z) ∧ x.Dn 16
theorem XNew.chg {x : Ex} {p : Option Addr} {cp : Nat} {F G : List Nat} {lo : Nat} {w w' : World} (h : XNew x p cp F lo w) (hc : Chg G w w') (hG : ∀ z ∈ F, z ∉ G) : XNew x p cp F lo w' := ⟨h.1.chg hc hG, h.2⟩
theorem XNew.lo {x : Ex} {p : Option Addr} {cp : Nat} {F : List Nat} {lo lo' : Nat} {w : World} (h : XNew x p cp F lo w) (hl : lo' ≤ lo) : XNew x p cp F lo' w := ⟨h.1, fun z hz => Nat.le_trans hl (h.2.1 z hz), h.2.2⟩
theorem XNew.below {x : Ex} {p : Option Addr} {cp : Nat} {F : List Nat} {lo : Nat} {w w' : World} (h : XNew x p cp F lo w) (hc : Below w.heap.size w w') : XNew x p cp F lo w' := h.chg (Chg.of_below hc []) (by simp)
theorem XNew.at {x : Ex} {p : Option Addr} {cp : Nat} {F : List Nat} {lo : Nat} {w : World} (h : XNew x p cp F lo w) : x.At w.heap.size w (.agg #[.int .i64 x.op, .string x.a, .slice p x.ks.list.length cp]) := ⟨_, rfl, h.1.in⟩
theorem XNew.sm {x : Ex} {p : Option Addr} {cp : Nat} {F : List Nat} {lo : Nat} {w : World} (h : XNew x p cp F lo w) : x.a.size ≤ 1048576 ∧ x.ks.Sm := ⟨by have := h.2.2.1.2.2; omega, h.2.2.2.1.sm⟩
/-- What a draw of an expression and of something beside it answers. -/
def CaseX (P : Value → Prop) (w : World) (e : Ending) (w' : World) : Prop :=
  ∃ (x : Ex) (p : Option Addr) (cp : Nat) (F : List Nat) (u : Value), e = .returned (.tuple #[.agg #[.int .i64 x.op, .string x.a, .slice p x.ks.list.length cp], u]) ∧ P u ∧ XNew x p cp F w.heap.size w' ∧ Below w.heap.size w w'
theorem CaseX.fin {P : Value → Prop} {w E : World} {x : Ex} {p : Option Addr} {cp : Nat} {F : List Nat} {u : Value} (hu : P u) (hx : XNew x p cp F (w.heap.size + 1) E) (hc : Chg [] w E) :
    CaseX P w (.returned (.tuple #[.agg #[.int .i64 x.op, .string x.a, .slice p x.ks.list.length cp], u])) (((E.setCell ⟨w.heap.size, 0, none⟩ (.int .i64 x.op)).setCell ⟨w.heap.size, 1, none⟩ (.string x.a)).setCell ⟨w.heap.size, 2, none⟩ (.slice p x.ks.list.length cp)) := by
  have hs3 : Chg [w.heap.size] E (((E.setCell ⟨w.heap.size, 0, none⟩ (.int .i64 x.op)).setCell ⟨w.heap.size, 1, none⟩ (.string x.a)).setCell ⟨w.heap.size, 2, none⟩ (.slice p x.ks.list.length cp)) := (((Chg.refl _ _).setCell (by simp) _).setCell (by simp) _).setCell (by simp) _
  exact ⟨x, p, cp, F, u, rfl, hu, (hx.chg hs3 (fun z hz hm => by have := hx.2.1 z hz; simp at hm; omega)).lo (by omega), (hc.past hs3 (by simp)).below (Nat.le_refl _) (by simp)⟩
theorem three_set {w : World} {b : Nat} {x0 x1 x2 y0 y1 y2 : Value} (c0 : w.cell? ⟨b, 0, none⟩ = some x0) (c1 : w.cell? ⟨b, 1, none⟩ = some x1) (c2 : w.cell? ⟨b, 2, none⟩ = some x2) :
    let w3 := ((w.setCell ⟨b, 0, none⟩ y0).setCell ⟨b, 1, none⟩ y1).setCell ⟨b, 2, none⟩ y2
    Chg [b] w w3 ∧ w3.cell? ⟨b, 0, none⟩ = some y0 ∧ w3.cell? ⟨b, 1, none⟩ = some y1 ∧ w3.cell? ⟨b, 2, none⟩ = some y2 := by
  refine ⟨(((Chg.refl _ _).setCell (by simp) _).setCell (by simp) _).setCell (by simp) _, ?_, ?_, ?_⟩
  · exact (set_near _ _ _ _ _ (by omega)).trans ((set_near _ _ _ _ _ (by omega)).trans (set_same _ _ _ _ _ c0))
  · exact (set_near _ _ _ _ _ (by omega)).trans (set_same _ _ _ _ _ ((set_near _ _ _ _ _ (by omega)).trans c1))
  · exact set_same _ _ _ _ _ ((set_near _ _ _ _ _ (by omega)).trans ((set_near _ _ _ _ _ (by omega)).trans c2))

/-- A kind of a draw. -/
def KindP (u : Value) : Prop := ∃ k : Int, u = .int .i64 k ∧ 0 ≤ k ∧ k ≤ 3

set_option maxRecDepth 100000 in
set_option maxHeartbeats 8000000 in
theorem l2Case_any (zs : List Int) (v : Value) (B : Nat) (w : World) (hv : Sl 1 byCells B w v zs) (hB : B ≤ w.heap.size) (hz : ∀ z ∈ zs, 0 ≤ z ∧ z ≤ 255) :
    Calls Tryd.prog 28 #[v] w (CaseX KindP w) := by
  obtain ⟨p, cap, rfl⟩ := hv.form
  have HV := Lib.hid hv
  clear hv
  go_enter Tryd.func28, Tryd.ntmps28
  go_wp2_with fail
  obtain ⟨W1, eW1⟩ : ∃ E, E = w.alloc (.cells #[.int .i64 0, .string ⟨#[]⟩, .slice none 0 0] 25) := ⟨_, rfl⟩
  obtain ⟨sW1, sW1'⟩ : w.heap.size + 1 ≤ W1.heap.size ∧ W1.heap.size ≤ w.heap.size + 1 := by rw [eW1]; constructor <;> simp
  have HW1 := Lib.hid (show Chg [] w W1 by rw [eW1]; exact (Chg.refl _ _).alloc _)
  have HR := Lib.hid (fun (E : World) (hE : Chg [] W1 E) => show (E.cell? ⟨w.heap.size, 0, none⟩ = some (.int .i64 0) ∧ E.cell? ⟨w.heap.size, 1, none⟩ = some (.string ⟨#[]⟩) ∧ E.cell? ⟨w.heap.size, 2, none⟩ = some (.slice none 0 0)) ∧ E.frozen? ⟨w.heap.size, 0, none⟩ = false ∧ E.frozen? ⟨w.heap.size, 1, none⟩ = false ∧ E.frozen? ⟨w.heap.size, 2, none⟩ = false from
    ⟨⟨hE.cellOf (by simp) (by rw [eW1]; simp [go_sem]), hE.cellOf (by simp) (by rw [eW1]; simp [go_sem]), hE.cellOf (by simp) (by rw [eW1]; simp [go_sem])⟩, hE.frozenOf (by simp) (by omega) (by rw [eW1]; simp [go_sem]), hE.frozenOf (by simp) (by omega) (by rw [eW1]; simp [go_sem]), hE.frozenOf (by simp) (by omega) (by rw [eW1]; simp [go_sem])⟩)
  rw [← eW1]
  clear eW1
  refine (open_any zs _ B W1 (HV.out.below ((HW1.out.below (Nat.le_refl _) (by simp)).mono hB)) (by omega) hz).mono ?_
  rintro en u1 ⟨rfl, hr1, hs1, hb1⟩
  have d1 : Dr u1 W1.heap.size 0 := ⟨0, Nat.le_refl _, hr1⟩
  have c1 : Chg [] W1 u1 := Chg.of_below hb1 []
  clear hr1 hb1 hs1
  go_wp2_with fail
  refine (num_rng (1) 2 _ (0) _ 2 _ _ (d1.alloc _) (by omega) (Cs.fresh (rngB (1) 2) (rngB_spec _ _) _ _ _ rfl (by rfl) (by kernel_rfl)) (by decide) (by have := d1.lt; omega)).mono ?_
  rintro en u2 ⟨kd, rfl, hkd, du2, ku2⟩
  have cu2 : Chg [] W1 u2 := (c1.alloc _).past ku2 (by simp)
  clear ku2
  go_wp2_with fail
  refine (num_rng (1) 3 _ (1) _ 3 _ _ (du2.alloc _) (by omega) (Cs.fresh (rngB (1) 3) (rngB_spec _ _) _ _ _ rfl (by rfl) (by kernel_rfl)) (by decide) (by have := du2.lt; omega)).mono ?_
  rintro en u3 ⟨zd, rfl, hzd, du3, ku3⟩
  have cu3 : Chg [] W1 u3 := (cu2.alloc _).past ku3 (by simp)
  clear ku3
  go_wp2_with fail
  refine (l2Some_any kd zd _ (2) u3 (by omega) (du3.mono (by omega)) (by omega)).mono ?_
  rintro en u4 ⟨x, p4, c4, F4, rfl, ⟨ho, hl, hdn⟩, d4, k4⟩
  have c4' : Chg [] W1 u4 := cu3.past k4 (by simp)
  have s3 := cu3.size
  have s4 := c4'.size
  have ha3 := du3.lt
  have ha4 := d4.lt
  have HDN := Lib.hid hdn
  clear k4 d1 du2 du3 c1 cu2
  go_wp2_with fail
  obtain ⟨W5, eW5⟩ : ∃ E, E = u4.alloc (.cells #[.int .i64 x.op, .string x.a, .slice p4 x.ks.list.length c4] 25) := ⟨_, rfl⟩
  have sW5 : u4.heap.size < W5.heap.size := by rw [eW5]; simp
  have kW5 : Chg [] u4 W5 := by rw [eW5]; exact (Chg.refl _ _).alloc _
  have c5 := c4'.trans kW5
  have HC := Lib.hid (fun (E : World) (hE : Chg [W1.heap.size] W5 E) => show (E.cell? ⟨u4.heap.size, 0, none⟩ = some (.int .i64 x.op) ∧ E.cell? ⟨u4.heap.size, 1, none⟩ = some (.string x.a) ∧ E.cell? ⟨u4.heap.size, 2, none⟩ = some (.slice p4 x.ks.list.length c4)) ∧ E.frozen? ⟨u4.heap.size, 0, none⟩ = false ∧ E.frozen? ⟨u4.heap.size, 1, none⟩ = false ∧ E.frozen? ⟨u4.heap.size, 2, none⟩ = false from
    ⟨⟨hE.cellOf (by simp; omega) (by rw [eW5]; simp [go_sem]), hE.cellOf (by simp; omega) (by rw [eW5]; simp [go_sem]), hE.cellOf (by simp; omega) (by rw [eW5]; simp [go_sem])⟩, hE.frozenOf (by simp; omega) (by omega) (by rw [eW5]; simp [go_sem]), hE.frozenOf (by simp; omega) (by omega) (by rw [eW5]; simp [go_sem]), hE.frozenOf (by simp; omega) (by omega) (by rw [eW5]; simp [go_sem])⟩)
  have HX5 := Lib.hid (show XNew x p4 c4 F4 u3.heap.size W5 from ⟨ho.chg kW5 (by simp), hl, hdn.mono (by omega)⟩)
  have HF4 := Lib.hid ho.lt
  have d5 := d4.chg kW5 (by simp)
  rw [← eW5]
  clear eW5 kW5 ho hl hdn d4
  refine (pick_nat 6 _ _ W5 d5 (by omega) (by decide)).mono ?_
  rintro en u6 ⟨q, rfl, hq, d6, k6⟩
  have c6 : Chg [] W1 u6 := c5.past k6 (by simp)
  have X6 := HX5.out.chg k6 (fun z hz hm => by have := HX5.out.2.1 z hz; simp at hm; omega)
  obtain ⟨⟨v0, v1, v2⟩, f0, f1, f2⟩ := HC.out _ k6
  have s6 := c6.size
  have s6' := k6.size
  by_cases hq0 : q = 0
  · subst hq0
    go_wp2_with fail
    refine (l2Mut_any 14 x _ u6.heap.size _ _ u6 X6.1.in (Nat.le_refl _) HDN.out (by omega) d6 (by omega)).mono ?_
    rintro en u7 ⟨y, py, cy, Fy, rfl, ⟨hy, hyl, hyd⟩, d7, k7⟩
    go_wp2_with fail
    refine (l2Mut_any 15 y _ u7.heap.size _ _ u7 hy.in (Nat.le_refl _) hyd (by omega) d7 (by omega)).mono ?_
    rintro en u8 ⟨x', p8, c8, F8, rfl, ⟨h8, hl8, hd8⟩, d8, k8⟩
    have k68 := k7.trans k8
    have s7 := k7.size
    have s8 := k8.size
    have v0' := k68.cellOf (by simp; omega) v0
    have v1' := k68.cellOf (by simp; omega) v1
    have v2' := k68.cellOf (by simp; omega) v2
    have g0 := k68.frozenOf (by simp; omega) (by omega) f0
    have g1 := k68.frozenOf (by simp; omega) (by omega) f1
    have g2 := k68.frozenOf (by simp; omega) (by omega) f2
    have cc8 : Chg [] W1 u8 := c6.past k68 (by simp)
    clear k7 d7 d6 hy hyl hyd k68 v0 v1 v2 f0 f1 f2 X6 k6 c6 d5 k8
    go_wp2_with fail
    obtain ⟨sc, v0, v1, v2⟩ := three_set (y0 := .int .i64 x'.op) (y1 := .string x'.a) (y2 := .slice p8 x'.ks.list.length c8) v0' v1' v2'
    have HX9 := Lib.hid (show XNew x' p8 c8 F8 u7.heap.size _ from ⟨h8.chg sc (fun z hz hm => by have := hl8 z hz; simp at hm; omega), hl8, hd8⟩)
    have c9 : Chg [] W1 _ := cc8.past sc (by simp; omega)
    have d9 := d8.chg sc (by simp; omega)
    generalize ((u8.setCell ⟨u4.heap.size, 0, none⟩ (.int .i64 x'.op)).setCell ⟨u4.heap.size, 1, none⟩ (.string x'.a)).setCell ⟨u4.heap.size, 2, none⟩ (.slice p8 x'.ks.list.length c8) = W9 at sc v0 v1 v2 HX9 c9 d9 ⊢
    have s9 := sc.size
    have HX := Lib.hid (HX9.out.lo (show W1.heap.size + 1 ≤ u7.heap.size by omega))
    have hvl : u4.heap.size < W9.heap.size := by omega
    clear g0 g1 g2 v0' v1' v2' cc8 h8 hl8 hd8 d8 sc HX9
    refine (pick_nat 24 _ _ W9 d9 (by omega) (by decide)).mono ?_
    rintro en t1 ⟨r, rfl, hr, dt1, kt1⟩
    have ct1 : Chg [] W1 t1 := c9.past kt1 (by simp)
    have st1 := kt1.size
    have t1X := Lib.hid (HX.out.chg kt1 (fun z hz hm => by have := HX.out.2.1 z hz; simp at hm; omega))
    have y0 := kt1.cellOf (by simp; omega) v0
    have y1 := kt1.cellOf (by simp; omega) v1
    have y2 := kt1.cellOf (by simp; omega) v2
    have hvt : u4.heap.size < t1.heap.size := by omega
    clear v0 v1 v2 d9 c9 kt1
    by_cases hr0 : r = 0
    · subst hr0
      go_wp2_with fail
      refine (num_rng (0) 3 _ (_) _ 4 _ _ (dt1.alloc _) (by omega) (Cs.fresh (rngB (0) 3) (rngB_spec _ _) _ _ _ rfl (by rfl) (by kernel_rfl)) (by decide) (by have := dt1.lt; omega)).mono ?_
      rintro en t2 ⟨kd2, rfl, hkd2, dt2, kt2⟩
      have ct2 : Chg [] W1 t2 := (ct1.alloc _).past kt2 (by simp)
      have t2X := Lib.hid ((t1X.out.chg ((Chg.refl [] t1).alloc _) (by simp)).chg kt2 (fun z hz hm => by have := HX.out.2.1 z hz; simp at hm; omega))
      have x0 := kt2.cellOf (by simp; omega) (((Chg.refl [] t1).alloc _).cellOf (by simp) y0)
      have x1 := kt2.cellOf (by simp; omega) (((Chg.refl [] t1).alloc _).cellOf (by simp) y1)
      have x2 := kt2.cellOf (by simp; omega) (((Chg.refl [] t1).alloc _).cellOf (by simp) y2)
      clear y0 y1 y2 kt2 dt1 ct1
      obtain ⟨⟨r0, r1, r2⟩, z0, z1, z2⟩ := HR.out _ ct2
      have HH := Lib.hid (CaseX.fin (P := KindP) (u := .int .i64 kd2) ⟨_, rfl, (by omega)⟩ ((t2X.out).lo (show w.heap.size + 1 ≤ W1.heap.size + 1 by omega)) (HW1.out.trans ct2))
      clear ct2 dt2
      go_wp2_with fail
      exact bodyPost_ret (v := .tuple #[.agg #[.int .i64 x'.op, .string x'.a, .slice p8 x'.ks.list.length c8], .int .i64 kd2]) (by simp [results, Tryd.results28, go_sem, *]) rfl HH.out
    · have q1 : ((r : Int) == 0) = false := beq_eq_false_iff_ne.2 (by omega)
      obtain ⟨⟨r0, r1, r2⟩, z0, z1, z2⟩ := HR.out _ ct1
      have HH := Lib.hid (CaseX.fin (P := KindP) (u := .int .i64 kd) ⟨_, rfl, (by omega)⟩ ((t1X.out).lo (show w.heap.size + 1 ≤ W1.heap.size + 1 by omega)) (HW1.out.trans ct1))
      clear ct1 dt1
      go_wp2_with fail
      exact bodyPost_ret (v := .tuple #[.agg #[.int .i64 x'.op, .string x'.a, .slice p8 x'.ks.list.length c8], .int .i64 kd]) (by simp [results, Tryd.results28, go_sem, *]) rfl HH.out
  · have q0 : ((q : Int) == 0) = false := beq_eq_false_iff_ne.2 (by omega)
    have HX := Lib.hid (X6.lo (show W1.heap.size + 1 ≤ u3.heap.size by omega))
    have hvl : u4.heap.size < u6.heap.size := by omega
    clear X6 f0 f1 f2 d5 k6
    go_wp2_with fail
    refine (pick_nat 24 _ _ u6 d6 (by omega) (by decide)).mono ?_
    rintro en t1 ⟨r, rfl, hr, dt1, kt1⟩
    have ct1 : Chg [] W1 t1 := c6.past kt1 (by simp)
    have st1 := kt1.size
    have t1X := Lib.hid (HX.out.chg kt1 (fun z hz hm => by have := HX.out.2.1 z hz; simp at hm; omega))
    have y0 := kt1.cellOf (by simp; omega) v0
    have y1 := kt1.cellOf (by simp; omega) v1
    have y2 := kt1.cellOf (by simp; omega) v2
    have hvt : u4.heap.size < t1.heap.size := by omega
    clear v0 v1 v2 d6 c6 kt1
    by_cases hr0 : r = 0
    · subst hr0
      go_wp2_with fail
      refine (num_rng (0) 3 _ (_) _ 4 _ _ (dt1.alloc _) (by omega) (Cs.fresh (rngB (0) 3) (rngB_spec _ _) _ _ _ rfl (by rfl) (by kernel_rfl)) (by decide) (by have := dt1.lt; omega)).mono ?_
      rintro en t2 ⟨kd2, rfl, hkd2, dt2, kt2⟩
      have ct2 : Chg [] W1 t2 := (ct1.alloc _).past kt2 (by simp)
      have t2X := Lib.hid ((t1X.out.chg ((Chg.refl [] t1).alloc _) (by simp)).chg kt2 (fun z hz hm => by have := HX.out.2.1 z hz; simp at hm; omega))
      have x0 := kt2.cellOf (by simp; omega) (((Chg.refl [] t1).alloc _).cellOf (by simp) y0)
      have x1 := kt2.cellOf (by simp; omega) (((Chg.refl [] t1).alloc _).cellOf (by simp) y1)
      have x2 := kt2.cellOf (by simp; omega) (((Chg.refl [] t1).alloc _).cellOf (by simp) y2)
      clear y0 y1 y2 kt2 dt1 ct1
      obtain ⟨⟨r0, r1, r2⟩, z0, z1, z2⟩ := HR.out _ ct2
      have HH := Lib.hid (CaseX.fin (P := KindP) (u := .int .i64 kd2) ⟨_, rfl, (by omega)⟩ ((t2X.out).lo (show w.heap.size + 1 ≤ W1.heap.size + 1 by omega)) (HW1.out.trans ct2))
      clear ct2 dt2
      go_wp2_with fail
      exact bodyPost_ret (v := .tuple #[.agg #[.int .i64 x.op, .string x.a, .slice p4 x.ks.list.length c4], .int .i64 kd2]) (by simp [results, Tryd.results28, go_sem, *]) rfl HH.out
    · have q1 : ((r : Int) == 0) = false := beq_eq_false_iff_ne.2 (by omega)
      obtain ⟨⟨r0, r1, r2⟩, z0, z1, z2⟩ := HR.out _ ct1
      have HH := Lib.hid (CaseX.fin (P := KindP) (u := .int .i64 kd) ⟨_, rfl, (by omega)⟩ ((t1X.out).lo (show w.heap.size + 1 ≤ W1.heap.size + 1 by omega)) (HW1.out.trans ct1))
      clear ct1 dt1
      go_wp2_with fail
      exact bodyPost_ret (v := .tuple #[.agg #[.int .i64 x.op, .string x.a, .slice p4 x.ks.list.length c4], .int .i64 kd]) (by simp [results, Tryd.results28, go_sem, *]) rfl HH.out

set_option maxRecDepth 100000 in
set_option maxHeartbeats 8000000 in
theorem drawExprValid_any (zs : List Int) (v : Value) (B : Nat) (w : World) (hv : Sl 1 byCells B w v zs) (hB : B ≤ w.heap.size) (hz : ∀ z ∈ zs, 0 ≤ z ∧ z ≤ 255) :
    Calls Tryd.prog 11 #[v] w (CaseX KindP w) := by
  obtain ⟨p, cap, rfl⟩ := hv.form
  have HV := Lib.hid hv
  clear hv
  go_enter Tryd.func11, Tryd.ntmps11
  go_wp2_with fail
  obtain ⟨W1, eW1⟩ : ∃ E, E = w.alloc (.cells #[.int .i64 0, .string ⟨#[]⟩, .slice none 0 0] 25) := ⟨_, rfl⟩
  obtain ⟨sW1, sW1'⟩ : w.heap.size + 1 ≤ W1.heap.size ∧ W1.heap.size ≤ w.heap.size + 1 := by rw [eW1]; constructor <;> simp
  have HW1 := Lib.hid (show Chg [] w W1 by rw [eW1]; exact (Chg.refl _ _).alloc _)
  have HR := Lib.hid (fun (E : World) (hE : Chg [] W1 E) => show (E.cell? ⟨w.heap.size, 0, none⟩ = some (.int .i64 0) ∧ E.cell? ⟨w.heap.size, 1, none⟩ = some (.string ⟨#[]⟩) ∧ E.cell? ⟨w.heap.size, 2, none⟩ = some (.slice none 0 0)) ∧ E.frozen? ⟨w.heap.size, 0, none⟩ = false ∧ E.frozen? ⟨w.heap.size, 1, none⟩ = false ∧ E.frozen? ⟨w.heap.size, 2, none⟩ = false from
    ⟨⟨hE.cellOf (by simp) (by rw [eW1]; simp [go_sem]), hE.cellOf (by simp) (by rw [eW1]; simp [go_sem]), hE.cellOf (by simp) (by rw [eW1]; simp [go_sem])⟩, hE.frozenOf (by simp) (by omega) (by rw [eW1]; simp [go_sem]), hE.frozenOf (by simp) (by omega) (by rw [eW1]; simp [go_sem]), hE.frozenOf (by simp) (by omega) (by rw [eW1]; simp [go_sem])⟩)
  rw [← eW1]
  clear eW1
  refine (l2Case_any zs _ B W1 (HV.out.below ((HW1.out.below (Nat.le_refl _) (by simp)).mono hB)) (by omega) hz).mono ?_
  rintro en u1 ⟨x, p1, cp1, F, _, rfl, ⟨kd, rfl, hkd⟩, hx, hb1⟩
  have c1 : Chg [] W1 u1 := Chg.of_below hb1 []
  obtain ⟨⟨r0, r1, r2⟩, z0, z1, z2⟩ := HR.out _ c1
  have HH := Lib.hid (CaseX.fin (P := KindP) (u := .int .i64 kd) ⟨_, rfl, hkd⟩ (hx.lo (show w.heap.size + 1 ≤ W1.heap.size by omega)) (HW1.out.trans c1))
  clear c1 hb1 hx
  go_wp2_with fail
  exact bodyPost_ret (v := .tuple #[.agg #[.int .i64 x.op, .string x.a, .slice p1 x.ks.list.length cp1], .int .i64 kd]) (by simp [results, Tryd.results11, go_sem, *]) rfl HH.out

set_option maxRecDepth 100000 in
set_option maxHeartbeats 8000000 in
theorem drawPushNots_any (zs : List Int) (v : Value) (B : Nat) (w : World) (hv : Sl 1 byCells B w v zs) (hB : B ≤ w.heap.size) (hz : ∀ z ∈ zs, 0 ≤ z ∧ z ≤ 255) :
    Calls Tryd.prog 26 #[v] w (CaseX KindP w) := by
  obtain ⟨p, cap, rfl⟩ := hv.form
  have HV := Lib.hid hv
  clear hv
  go_enter Tryd.func26, Tryd.ntmps26
  go_wp2_with fail
  obtain ⟨W1, eW1⟩ : ∃ E, E = w.alloc (.cells #[.int .i64 0, .string ⟨#[]⟩, .slice none 0 0] 25) := ⟨_, rfl⟩
  obtain ⟨sW1, sW1'⟩ : w.heap.size + 1 ≤ W1.heap.size ∧ W1.heap.size ≤ w.heap.size + 1 := by rw [eW1]; constructor <;> simp
  have HW1 := Lib.hid (show Chg [] w W1 by rw [eW1]; exact (Chg.refl _ _).alloc _)
  have HR := Lib.hid (fun (E : World) (hE : Chg [] W1 E) => show (E.cell? ⟨w.heap.size, 0, none⟩ = some (.int .i64 0) ∧ E.cell? ⟨w.heap.size, 1, none⟩ = some (.string ⟨#[]⟩) ∧ E.cell? ⟨w.heap.size, 2, none⟩ = some (.slice none 0 0)) ∧ E.frozen? ⟨w.heap.size, 0, none⟩ = false ∧ E.frozen? ⟨w.heap.size, 1, none⟩ = false ∧ E.frozen? ⟨w.heap.size, 2, none⟩ = false from
    ⟨⟨hE.cellOf (by simp) (by rw [eW1]; simp [go_sem]), hE.cellOf (by simp) (by rw [eW1]; simp [go_sem]), hE.cellOf (by simp) (by rw [eW1]; simp [go_sem])⟩, hE.frozenOf (by simp) (by omega) (by rw [eW1]; simp [go_sem]), hE.frozenOf (by simp) (by omega) (by rw [eW1]; simp [go_sem]), hE.frozenOf (by simp) (by omega) (by rw [eW1]; simp [go_sem])⟩)
  rw [← eW1]
  clear eW1
  refine (l2Case_any zs _ B W1 (HV.out.below ((HW1.out.below (Nat.le_refl _) (by simp)).mono hB)) (by omega) hz).mono ?_
  rintro en u1 ⟨x, p1, cp1, F, _, rfl, ⟨kd, rfl, hkd⟩, hx, hb1⟩
  have c1 : Chg [] W1 u1 := Chg.of_below hb1 []
  obtain ⟨⟨r0, r1, r2⟩, z0, z1, z2⟩ := HR.out _ c1
  have HH := Lib.hid (CaseX.fin (P := KindP) (u := .int .i64 kd) ⟨_, rfl, hkd⟩ (hx.lo (show w.heap.size + 1 ≤ W1.heap.size by omega)) (HW1.out.trans c1))
  clear c1 hb1 hx
  go_wp2_with fail
  exact bodyPost_ret (v := .tuple #[.agg #[.int .i64 x.op, .string x.a, .slice p1 x.ks.list.length cp1], .int .i64 kd]) (by simp [results, Tryd.results26, go_sem, *]) rfl HH.out

set_option maxRecDepth 100000 in
set_option maxHeartbeats 8000000 in
theorem drawLabelHolds_any (zs : List Int) (v : Value) (B : Nat) (w : World) (hv : Sl 1 byCells B w v zs) (hB : B ≤ w.heap.size) (hz : ∀ z ∈ zs, 0 ≤ z ∧ z ≤ 255) :
    Calls Tryd.prog 18 #[v] w (CaseX strP w) := by
  obtain ⟨p, cap, rfl⟩ := hv.form
  have HV := Lib.hid hv
  clear hv
  go_enter Tryd.func18, Tryd.ntmps18
  go_wp2_with fail
  obtain ⟨W1, eW1⟩ : ∃ E, E = w.alloc (.cells #[.int .i64 0, .string ⟨#[]⟩, .slice none 0 0] 25) := ⟨_, rfl⟩
  obtain ⟨sW1, sW1'⟩ : w.heap.size + 1 ≤ W1.heap.size ∧ W1.heap.size ≤ w.heap.size + 1 := by rw [eW1]; constructor <;> simp
  have HW1 := Lib.hid (show Chg [] w W1 by rw [eW1]; exact (Chg.refl _ _).alloc _)
  have HR := Lib.hid (fun (E : World) (hE : Chg [] W1 E) => show (E.cell? ⟨w.heap.size, 0, none⟩ = some (.int .i64 0) ∧ E.cell? ⟨w.heap.size, 1, none⟩ = some (.string ⟨#[]⟩) ∧ E.cell? ⟨w.heap.size, 2, none⟩ = some (.slice none 0 0)) ∧ E.frozen? ⟨w.heap.size, 0, none⟩ = false ∧ E.frozen? ⟨w.heap.size, 1, none⟩ = false ∧ E.frozen? ⟨w.heap.size, 2, none⟩ = false from
    ⟨⟨hE.cellOf (by simp) (by rw [eW1]; simp [go_sem]), hE.cellOf (by simp) (by rw [eW1]; simp [go_sem]), hE.cellOf (by simp) (by rw [eW1]; simp [go_sem])⟩, hE.frozenOf (by simp) (by omega) (by rw [eW1]; simp [go_sem]), hE.frozenOf (by simp) (by omega) (by rw [eW1]; simp [go_sem]), hE.frozenOf (by simp) (by omega) (by rw [eW1]; simp [go_sem])⟩)
  rw [← eW1]
  clear eW1
  refine (open_any zs _ B W1 (HV.out.below ((HW1.out.below (Nat.le_refl _) (by simp)).mono hB)) (by omega) hz).mono ?_
  rintro en u1 ⟨rfl, hr1, hs1, hb1⟩
  have d1 : Dr u1 W1.heap.size 0 := ⟨0, Nat.le_refl _, hr1⟩
  have c1 : Chg [] W1 u1 := Chg.of_below hb1 []
  clear hr1 hb1 hs1
  go_wp2_with fail
  refine (num_rng (1) 3 _ (0) _ 3 _ _ (d1.alloc _) (by omega) (Cs.fresh (rngB (1) 3) (rngB_spec _ _) _ _ _ rfl (by rfl) (by kernel_rfl)) (by decide) (by have := d1.lt; omega)).mono ?_
  rintro en u3 ⟨zd, rfl, hzd, du3, ku3⟩
  have cu3 : Chg [] W1 u3 := (c1.alloc _).past ku3 (by simp)
  clear ku3
  go_wp2_with fail
  refine (l2Some_any 1 zd _ (1) u3 (by omega) (du3.mono (by omega)) (by omega)).mono ?_
  rintro en u4 ⟨x, p4, c4, F4, rfl, ⟨ho, hl, hdn⟩, d4, k4⟩
  have c4' : Chg [] W1 u4 := cu3.past k4 (by simp)
  have s3 := cu3.size
  have s4 := c4'.size
  have ha3 := du3.lt
  have ha4 := d4.lt
  have HDN := Lib.hid hdn
  clear k4 d1  du3 c1 
  go_wp2_with fail
  obtain ⟨W5, eW5⟩ : ∃ E, E = u4.alloc (.cells #[.int .i64 x.op, .string x.a, .slice p4 x.ks.list.length c4] 25) := ⟨_, rfl⟩
  have sW5 : u4.heap.size < W5.heap.size := by rw [eW5]; simp
  have kW5 : Chg [] u4 W5 := by rw [eW5]; exact (Chg.refl _ _).alloc _
  have c5 := c4'.trans kW5
  have HC := Lib.hid (fun (E : World) (hE : Chg [W1.heap.size] W5 E) => show (E.cell? ⟨u4.heap.size, 0, none⟩ = some (.int .i64 x.op) ∧ E.cell? ⟨u4.heap.size, 1, none⟩ = some (.string x.a) ∧ E.cell? ⟨u4.heap.size, 2, none⟩ = some (.slice p4 x.ks.list.length c4)) ∧ E.frozen? ⟨u4.heap.size, 0, none⟩ = false ∧ E.frozen? ⟨u4.heap.size, 1, none⟩ = false ∧ E.frozen? ⟨u4.heap.size, 2, none⟩ = false from
    ⟨⟨hE.cellOf (by simp; omega) (by rw [eW5]; simp [go_sem]), hE.cellOf (by simp; omega) (by rw [eW5]; simp [go_sem]), hE.cellOf (by simp; omega) (by rw [eW5]; simp [go_sem])⟩, hE.frozenOf (by simp; omega) (by omega) (by rw [eW5]; simp [go_sem]), hE.frozenOf (by simp; omega) (by omega) (by rw [eW5]; simp [go_sem]), hE.frozenOf (by simp; omega) (by omega) (by rw [eW5]; simp [go_sem])⟩)
  have HX5 := Lib.hid (show XNew x p4 c4 F4 u3.heap.size W5 from ⟨ho.chg kW5 (by simp), hl, hdn.mono (by omega)⟩)
  have HF4 := Lib.hid ho.lt
  have d5 := d4.chg kW5 (by simp)
  rw [← eW5]
  clear eW5 kW5 ho hl hdn d4
  refine (pick_nat 16 _ _ W5 d5 (by omega) (by decide)).mono ?_
  rintro en u6 ⟨q, rfl, hq, d6, k6⟩
  have c6 : Chg [] W1 u6 := c5.past k6 (by simp)
  have X6 := HX5.out.chg k6 (fun z hz hm => by have := HX5.out.2.1 z hz; simp at hm; omega)
  obtain ⟨⟨v0, v1, v2⟩, f0, f1, f2⟩ := HC.out _ k6
  have s6 := c6.size
  have s6' := k6.size
  by_cases hq0 : q = 0
  · subst hq0
    go_wp2_with fail
    refine (l2Mut_any 14 x _ u6.heap.size _ _ u6 X6.1.in (Nat.le_refl _) HDN.out (by omega) d6 (by omega)).mono ?_
    rintro en u7 ⟨y, py, cy, Fy, rfl, ⟨hy, hyl, hyd⟩, d7, k7⟩
    go_wp2_with fail
    refine (l2Mut_any 15 y _ u7.heap.size _ _ u7 hy.in (Nat.le_refl _) hyd (by omega) d7 (by omega)).mono ?_
    rintro en u8 ⟨x', p8, c8, F8, rfl, ⟨h8, hl8, hd8⟩, d8, k8⟩
    have k68 := k7.trans k8
    have s7 := k7.size
    have s8 := k8.size
    have v0' := k68.cellOf (by simp; omega) v0
    have v1' := k68.cellOf (by simp; omega) v1
    have v2' := k68.cellOf (by simp; omega) v2
    have g0 := k68.frozenOf (by simp; omega) (by omega) f0
    have g1 := k68.frozenOf (by simp; omega) (by omega) f1
    have g2 := k68.frozenOf (by simp; omega) (by omega) f2
    have cc8 : Chg [] W1 u8 := c6.past k68 (by simp)
    clear k7 d7 d6 hy hyl hyd k68 v0 v1 v2 f0 f1 f2 X6 k6 c6 d5 k8
    go_upto_region 5 with fail
    obtain ⟨sc, v0, v1, v2⟩ := three_set (y0 := .int .i64 x'.op) (y1 := .string x'.a) (y2 := .slice p8 x'.ks.list.length c8) v0' v1' v2'
    have HX9 := Lib.hid (show XNew x' p8 c8 F8 u7.heap.size _ from ⟨h8.chg sc (fun z hz hm => by have := hl8 z hz; simp at hm; omega), hl8, hd8⟩)
    have c9 : Chg [] W1 _ := cc8.past sc (by simp; omega)
    have d9 := d8.chg sc (by simp; omega)
    generalize ((u8.setCell ⟨u4.heap.size, 0, none⟩ (.int .i64 x'.op)).setCell ⟨u4.heap.size, 1, none⟩ (.string x'.a)).setCell ⟨u4.heap.size, 2, none⟩ (.slice p8 x'.ks.list.length c8) = W9 at sc v0 v1 v2 HX9 c9 d9 ⊢
    have s9 := sc.size
    have HX := Lib.hid (HX9.out.lo (show W1.heap.size + 1 ≤ u7.heap.size by omega))
    have hvl : u4.heap.size < W9.heap.size := by omega
    clear g0 g1 g2 v0' v1' v2' cc8 h8 hl8 hd8 d8 sc HX9
    have HX0 := Lib.hid HX.out
    have HK := Lib.hid (fun (E : World) (hE : Chg [w.heap.size, W1.heap.size] W9 E) => And.intro (hE.cellOf (by simp; omega) v0) (And.intro (hE.cellOf (by simp; omega) v1) (hE.cellOf (by simp; omega) v2)))
    refine wp_region_held_drew (S := fun w' => w'.cell? ⟨u4.heap.size, 0, none⟩ = some (.int .i64 x'.op) ∧ w'.cell? ⟨u4.heap.size, 1, none⟩ = some (.string x'.a) ∧ w'.cell? ⟨u4.heap.size, 2, none⟩ = some (.slice p8 x'.ks.list.length c8)) (by kernel_rfl) ?_ (fun hHeld => ?_)
    · exact HK.out _ (show Chg [w.heap.size, W1.heap.size] W9 _ by ((repeat (first | with_reducible assumption | with_reducible exact Chg.refl _ _ | refine Chg.setCell ?_ (by simp) _ | refine Chg.alloc ?_ _ | refine Chg.drew ?_)); first | done | fail "chn4"))
    have cW : Chg [] W9 W9.drew := Chg.drew (Chg.refl _ _)
    have dW := d9.chg cW (by simp)
    generalize W9.drew = W0 at cW dW hHeld ⊢
    have zW := cW.size
    have aW := dW.lt
    (refine takeL (i := 0) (v := ?_) rfl (by kernel_rfl) (by kernel_rfl) (by kernel_rfl) (fun _ _ _ h => h) (Or.inl ⟨by kernel_rfl, ?_⟩) (by assumption) ?_; rotate_left; (focus (intro w hSw; (try dsimp only at hSw); go_simp; first | done | with_reducible rfl | fail "take")); (try simp only [Act.put, List.setIfInBounds_toArray, List.set_cons_zero, List.set_cons_succ]))
    (refine takeL (i := 1) (v := ?_) rfl (by kernel_rfl) (by kernel_rfl) (by kernel_rfl) (fun _ _ _ h => h) (Or.inl ⟨by kernel_rfl, ?_⟩) (by assumption) ?_; rotate_left; (focus (intro w hSw; (try dsimp only at hSw); go_simp; first | done | with_reducible rfl | fail "take")); (try simp only [Act.put, List.setIfInBounds_toArray, List.set_cons_zero, List.set_cons_succ]))
    (refine callL (i := 2) rfl (by kernel_rfl) (by kernel_rfl) (fun K hK => ?_); go_simp)
    refine made (K := K) strB_spec 6 (by rfl) (by kernel_rfl) ?_
    intro w3 k3 z3 sB
    have c3 := cW.trans k3
    have d3 := dW.chg k3 (by simp)
    refine hK.out _ _ (HK.out _ (c3.mono (by simp))) (fun hHeld => ?_)
    clear hK K
    (try simp only [Act.put, List.setIfInBounds_toArray, List.set_cons_zero, List.set_cons_succ])
    (refine callL (i := 3) rfl (by kernel_rfl) (by kernel_rfl) (fun K hK => ?_); go_simp)
    go_at_call 44
    refine Calls.mono (of_dr _ _ _ 6 _ w3 d3 (by omega) sB (by decide) (by omega)) ?_
    rintro en w4 ⟨s, rfl, hs, d4, k4⟩
    have c4 := (c3.mono (show ∀ y ∈ ([] : List Nat), y ∈ [W1.heap.size] by simp)).trans k4
    have e4 : Chg [] W1 w4 := c9.past c4 (by simp)
    obtain ⟨⟨r0, r1, r2⟩, z0, z1, z2⟩ := HR.out _ e4
    have HH := Lib.hid (CaseX.fin (P := strP) (u := .string s) ⟨_, rfl, hs⟩ ((HX.out.chg c4 (fun z hz hm => by have := HX.out.2.1 z hz; simp at hm; omega)).lo (show w.heap.size + 1 ≤ W1.heap.size + 1 by omega)) (HW1.out.trans e4))
    have m4 := c4.mono (show ∀ y ∈ [W1.heap.size], y ∈ [w.heap.size, W1.heap.size] by simp)
    go_wp2_with fail
    refine hK.out _ _ (HK.out _ m4) (fun hHeld => ?_)
    clear hK K
    (try simp only [Act.put, List.setIfInBounds_toArray, List.set_cons_zero, List.set_cons_succ])
    (refine callL (i := 4) rfl (by kernel_rfl) (by kernel_rfl) (fun K hK => ?_); go_simp)
    refine hK.out _ _ (HK.out _ (((m4.setCell (by simp) _).setCell (by simp) _).setCell (by simp) _)) (fun hHeld => ?_)
    clear hK K
    (try simp only [Act.put, List.setIfInBounds_toArray, List.set_cons_zero, List.set_cons_succ])
    (refine takeL (i := 5) (v := ?_) rfl (by kernel_rfl) (by kernel_rfl) (by kernel_rfl) (fun _ _ _ h => h) (Or.inl ⟨by kernel_rfl, ?_⟩) (by assumption) ?_; rotate_left; (focus (intro w hSw; (try dsimp only at hSw); go_simp; first | done | with_reducible rfl | fail "take")); (try simp only [Act.put, List.setIfInBounds_toArray, List.set_cons_zero, List.set_cons_succ]))
    refine wpAnyH_done (by kernel_rfl) ?_ _
    clear d3 k4 k3 c3 c4 e4 m4 cW dW
    go_wp2_with fail
    exact bodyPost_ret (v := .tuple #[.agg #[.int .i64 x'.op, .string x'.a, .slice p8 x'.ks.list.length c8], .string s]) (by simp [results, Tryd.results18, go_sem, *]) rfl HH.out
  · have q0 : ((q : Int) == 0) = false := beq_eq_false_iff_ne.2 (by omega)
    have HX := Lib.hid (X6.lo (show W1.heap.size + 1 ≤ u3.heap.size by omega))
    have hvl : u4.heap.size < u6.heap.size := by omega
    clear X6 f0 f1 f2 d5 k6
    go_upto_region 5 with fail
    have HX0 := Lib.hid HX.out
    have HK := Lib.hid (fun (E : World) (hE : Chg [w.heap.size, W1.heap.size] u6 E) => And.intro (hE.cellOf (by simp; omega) v0) (And.intro (hE.cellOf (by simp; omega) v1) (hE.cellOf (by simp; omega) v2)))
    refine wp_region_held_drew (S := fun w' => w'.cell? ⟨u4.heap.size, 0, none⟩ = some (.int .i64 x.op) ∧ w'.cell? ⟨u4.heap.size, 1, none⟩ = some (.string x.a) ∧ w'.cell? ⟨u4.heap.size, 2, none⟩ = some (.slice p4 x.ks.list.length c4)) (by kernel_rfl) ?_ (fun hHeld => ?_)
    · exact HK.out _ (show Chg [w.heap.size, W1.heap.size] u6 _ by ((repeat (first | with_reducible assumption | with_reducible exact Chg.refl _ _ | refine Chg.setCell ?_ (by simp) _ | refine Chg.alloc ?_ _ | refine Chg.drew ?_)); first | done | fail "chn4"))
    have cW : Chg [] u6 u6.drew := Chg.drew (Chg.refl _ _)
    have dW := d6.chg cW (by simp)
    generalize u6.drew = W0 at cW dW hHeld ⊢
    have zW := cW.size
    have aW := dW.lt
    (refine takeL (i := 0) (v := ?_) rfl (by kernel_rfl) (by kernel_rfl) (by kernel_rfl) (fun _ _ _ h => h) (Or.inl ⟨by kernel_rfl, ?_⟩) (by assumption) ?_; rotate_left; (focus (intro w hSw; (try dsimp only at hSw); go_simp; first | done | with_reducible rfl | fail "take")); (try simp only [Act.put, List.setIfInBounds_toArray, List.set_cons_zero, List.set_cons_succ]))
    (refine takeL (i := 1) (v := ?_) rfl (by kernel_rfl) (by kernel_rfl) (by kernel_rfl) (fun _ _ _ h => h) (Or.inl ⟨by kernel_rfl, ?_⟩) (by assumption) ?_; rotate_left; (focus (intro w hSw; (try dsimp only at hSw); go_simp; first | done | with_reducible rfl | fail "take")); (try simp only [Act.put, List.setIfInBounds_toArray, List.set_cons_zero, List.set_cons_succ]))
    (refine callL (i := 2) rfl (by kernel_rfl) (by kernel_rfl) (fun K hK => ?_); go_simp)
    refine made (K := K) strB_spec 6 (by rfl) (by kernel_rfl) ?_
    intro w3 k3 z3 sB
    have c3 := cW.trans k3
    have d3 := dW.chg k3 (by simp)
    refine hK.out _ _ (HK.out _ (c3.mono (by simp))) (fun hHeld => ?_)
    clear hK K
    (try simp only [Act.put, List.setIfInBounds_toArray, List.set_cons_zero, List.set_cons_succ])
    (refine callL (i := 3) rfl (by kernel_rfl) (by kernel_rfl) (fun K hK => ?_); go_simp)
    go_at_call 44
    refine Calls.mono (of_dr _ _ _ 6 _ w3 d3 (by omega) sB (by decide) (by omega)) ?_
    rintro en w4 ⟨s, rfl, hs, d4, k4⟩
    have c4 := (c3.mono (show ∀ y ∈ ([] : List Nat), y ∈ [W1.heap.size] by simp)).trans k4
    have e4 : Chg [] W1 w4 := c6.past c4 (by simp)
    obtain ⟨⟨r0, r1, r2⟩, z0, z1, z2⟩ := HR.out _ e4
    have HH := Lib.hid (CaseX.fin (P := strP) (u := .string s) ⟨_, rfl, hs⟩ ((HX.out.chg c4 (fun z hz hm => by have := HX.out.2.1 z hz; simp at hm; omega)).lo (show w.heap.size + 1 ≤ W1.heap.size + 1 by omega)) (HW1.out.trans e4))
    have m4 := c4.mono (show ∀ y ∈ [W1.heap.size], y ∈ [w.heap.size, W1.heap.size] by simp)
    go_wp2_with fail
    refine hK.out _ _ (HK.out _ m4) (fun hHeld => ?_)
    clear hK K
    (try simp only [Act.put, List.setIfInBounds_toArray, List.set_cons_zero, List.set_cons_succ])
    (refine callL (i := 4) rfl (by kernel_rfl) (by kernel_rfl) (fun K hK => ?_); go_simp)
    refine hK.out _ _ (HK.out _ (((m4.setCell (by simp) _).setCell (by simp) _).setCell (by simp) _)) (fun hHeld => ?_)
    clear hK K
    (try simp only [Act.put, List.setIfInBounds_toArray, List.set_cons_zero, List.set_cons_succ])
    (refine takeL (i := 5) (v := ?_) rfl (by kernel_rfl) (by kernel_rfl) (by kernel_rfl) (fun _ _ _ h => h) (Or.inl ⟨by kernel_rfl, ?_⟩) (by assumption) ?_; rotate_left; (focus (intro w hSw; (try dsimp only at hSw); go_simp; first | done | with_reducible rfl | fail "take")); (try simp only [Act.put, List.setIfInBounds_toArray, List.set_cons_zero, List.set_cons_succ]))
    refine wpAnyH_done (by kernel_rfl) ?_ _
    clear d3 k4 k3 c3 c4 e4 m4 cW dW
    go_wp2_with fail
    exact bodyPost_ret (v := .tuple #[.agg #[.int .i64 x.op, .string x.a, .slice p4 x.ks.list.length c4], .string s]) (by simp [results, Tryd.results18, go_sem, *]) rfl HH.out

set_option maxRecDepth 100000 in
set_option maxHeartbeats 8000000 in
theorem drawNumHolds_any (zs : List Int) (v : Value) (B : Nat) (w : World) (hv : Sl 1 byCells B w v zs) (hB : B ≤ w.heap.size) (hz : ∀ z ∈ zs, 0 ≤ z ∧ z ≤ 255) :
    Calls Tryd.prog 15 #[v] w (CaseX intP w) := by
  obtain ⟨p, cap, rfl⟩ := hv.form
  have HV := Lib.hid hv
  clear hv
  go_enter Tryd.func15, Tryd.ntmps15
  go_wp2_with fail
  obtain ⟨W1, eW1⟩ : ∃ E, E = w.alloc (.cells #[.int .i64 0, .string ⟨#[]⟩, .slice none 0 0] 25) := ⟨_, rfl⟩
  obtain ⟨sW1, sW1'⟩ : w.heap.size + 1 ≤ W1.heap.size ∧ W1.heap.size ≤ w.heap.size + 1 := by rw [eW1]; constructor <;> simp
  have HW1 := Lib.hid (show Chg [] w W1 by rw [eW1]; exact (Chg.refl _ _).alloc _)
  have HR := Lib.hid (fun (E : World) (hE : Chg [] W1 E) => show (E.cell? ⟨w.heap.size, 0, none⟩ = some (.int .i64 0) ∧ E.cell? ⟨w.heap.size, 1, none⟩ = some (.string ⟨#[]⟩) ∧ E.cell? ⟨w.heap.size, 2, none⟩ = some (.slice none 0 0)) ∧ E.frozen? ⟨w.heap.size, 0, none⟩ = false ∧ E.frozen? ⟨w.heap.size, 1, none⟩ = false ∧ E.frozen? ⟨w.heap.size, 2, none⟩ = false from
    ⟨⟨hE.cellOf (by simp) (by rw [eW1]; simp [go_sem]), hE.cellOf (by simp) (by rw [eW1]; simp [go_sem]), hE.cellOf (by simp) (by rw [eW1]; simp [go_sem])⟩, hE.frozenOf (by simp) (by omega) (by rw [eW1]; simp [go_sem]), hE.frozenOf (by simp) (by omega) (by rw [eW1]; simp [go_sem]), hE.frozenOf (by simp) (by omega) (by rw [eW1]; simp [go_sem])⟩)
  rw [← eW1]
  clear eW1
  refine (open_any zs _ B W1 (HV.out.below ((HW1.out.below (Nat.le_refl _) (by simp)).mono hB)) (by omega) hz).mono ?_
  rintro en u1 ⟨rfl, hr1, hs1, hb1⟩
  have d1 : Dr u1 W1.heap.size 0 := ⟨0, Nat.le_refl _, hr1⟩
  have c1 : Chg [] W1 u1 := Chg.of_below hb1 []
  clear hr1 hb1 hs1
  go_wp2_with fail
  refine (num_rng (1) 3 _ (0) _ 3 _ _ (d1.alloc _) (by omega) (Cs.fresh (rngB (1) 3) (rngB_spec _ _) _ _ _ rfl (by rfl) (by kernel_rfl)) (by decide) (by have := d1.lt; omega)).mono ?_
  rintro en u3 ⟨zd, rfl, hzd, du3, ku3⟩
  have cu3 : Chg [] W1 u3 := (c1.alloc _).past ku3 (by simp)
  clear ku3
  go_wp2_with fail
  refine (l2Some_any 2 zd _ (1) u3 (by omega) (du3.mono (by omega)) (by omega)).mono ?_
  rintro en u4 ⟨x, p4, c4, F4, rfl, ⟨ho, hl, hdn⟩, d4, k4⟩
  have c4' : Chg [] W1 u4 := cu3.past k4 (by simp)
  have s3 := cu3.size
  have s4 := c4'.size
  have ha3 := du3.lt
  have ha4 := d4.lt
  have HDN := Lib.hid hdn
  clear k4 d1  du3 c1 
  go_wp2_with fail
  obtain ⟨W5, eW5⟩ : ∃ E, E = u4.alloc (.cells #[.int .i64 x.op, .string x.a, .slice p4 x.ks.list.length c4] 25) := ⟨_, rfl⟩
  have sW5 : u4.heap.size < W5.heap.size := by rw [eW5]; simp
  have kW5 : Chg [] u4 W5 := by rw [eW5]; exact (Chg.refl _ _).alloc _
  have c5 := c4'.trans kW5
  have HC := Lib.hid (fun (E : World) (hE : Chg [W1.heap.size] W5 E) => show (E.cell? ⟨u4.heap.size, 0, none⟩ = some (.int .i64 x.op) ∧ E.cell? ⟨u4.heap.size, 1, none⟩ = some (.string x.a) ∧ E.cell? ⟨u4.heap.size, 2, none⟩ = some (.slice p4 x.ks.list.length c4)) ∧ E.frozen? ⟨u4.heap.size, 0, none⟩ = false ∧ E.frozen? ⟨u4.heap.size, 1, none⟩ = false ∧ E.frozen? ⟨u4.heap.size, 2, none⟩ = false from
    ⟨⟨hE.cellOf (by simp; omega) (by rw [eW5]; simp [go_sem]), hE.cellOf (by simp; omega) (by rw [eW5]; simp [go_sem]), hE.cellOf (by simp; omega) (by rw [eW5]; simp [go_sem])⟩, hE.frozenOf (by simp; omega) (by omega) (by rw [eW5]; simp [go_sem]), hE.frozenOf (by simp; omega) (by omega) (by rw [eW5]; simp [go_sem]), hE.frozenOf (by simp; omega) (by omega) (by rw [eW5]; simp [go_sem])⟩)
  have HX5 := Lib.hid (show XNew x p4 c4 F4 u3.heap.size W5 from ⟨ho.chg kW5 (by simp), hl, hdn.mono (by omega)⟩)
  have HF4 := Lib.hid ho.lt
  have d5 := d4.chg kW5 (by simp)
  rw [← eW5]
  clear eW5 kW5 ho hl hdn d4
  refine (pick_nat 16 _ _ W5 d5 (by omega) (by decide)).mono ?_
  rintro en u6 ⟨q, rfl, hq, d6, k6⟩
  have c6 : Chg [] W1 u6 := c5.past k6 (by simp)
  have X6 := HX5.out.chg k6 (fun z hz hm => by have := HX5.out.2.1 z hz; simp at hm; omega)
  obtain ⟨⟨v0, v1, v2⟩, f0, f1, f2⟩ := HC.out _ k6
  have s6 := c6.size
  have s6' := k6.size
  by_cases hq0 : q = 0
  · subst hq0
    go_wp2_with fail
    refine (l2Mut_any 14 x _ u6.heap.size _ _ u6 X6.1.in (Nat.le_refl _) HDN.out (by omega) d6 (by omega)).mono ?_
    rintro en u7 ⟨y, py, cy, Fy, rfl, ⟨hy, hyl, hyd⟩, d7, k7⟩
    go_wp2_with fail
    refine (l2Mut_any 15 y _ u7.heap.size _ _ u7 hy.in (Nat.le_refl _) hyd (by omega) d7 (by omega)).mono ?_
    rintro en u8 ⟨x', p8, c8, F8, rfl, ⟨h8, hl8, hd8⟩, d8, k8⟩
    have k68 := k7.trans k8
    have s7 := k7.size
    have s8 := k8.size
    have v0' := k68.cellOf (by simp; omega) v0
    have v1' := k68.cellOf (by simp; omega) v1
    have v2' := k68.cellOf (by simp; omega) v2
    have g0 := k68.frozenOf (by simp; omega) (by omega) f0
    have g1 := k68.frozenOf (by simp; omega) (by omega) f1
    have g2 := k68.frozenOf (by simp; omega) (by omega) f2
    have cc8 : Chg [] W1 u8 := c6.past k68 (by simp)
    clear k7 d7 d6 hy hyl hyd k68 v0 v1 v2 f0 f1 f2 X6 k6 c6 d5 k8
    go_upto_region 5 with fail
    obtain ⟨sc, v0, v1, v2⟩ := three_set (y0 := .int .i64 x'.op) (y1 := .string x'.a) (y2 := .slice p8 x'.ks.list.length c8) v0' v1' v2'
    have HX9 := Lib.hid (show XNew x' p8 c8 F8 u7.heap.size _ from ⟨h8.chg sc (fun z hz hm => by have := hl8 z hz; simp at hm; omega), hl8, hd8⟩)
    have c9 : Chg [] W1 _ := cc8.past sc (by simp; omega)
    have d9 := d8.chg sc (by simp; omega)
    generalize ((u8.setCell ⟨u4.heap.size, 0, none⟩ (.int .i64 x'.op)).setCell ⟨u4.heap.size, 1, none⟩ (.string x'.a)).setCell ⟨u4.heap.size, 2, none⟩ (.slice p8 x'.ks.list.length c8) = W9 at sc v0 v1 v2 HX9 c9 d9 ⊢
    have s9 := sc.size
    have HX := Lib.hid (HX9.out.lo (show W1.heap.size + 1 ≤ u7.heap.size by omega))
    have hvl : u4.heap.size < W9.heap.size := by omega
    clear g0 g1 g2 v0' v1' v2' cc8 h8 hl8 hd8 d8 sc HX9
    have HX0 := Lib.hid HX.out
    have HK := Lib.hid (fun (E : World) (hE : Chg [w.heap.size, W1.heap.size] W9 E) => And.intro (hE.cellOf (by simp; omega) v0) (And.intro (hE.cellOf (by simp; omega) v1) (hE.cellOf (by simp; omega) v2)))
    refine wp_region_held_drew (S := fun w' => w'.cell? ⟨u4.heap.size, 0, none⟩ = some (.int .i64 x'.op) ∧ w'.cell? ⟨u4.heap.size, 1, none⟩ = some (.string x'.a) ∧ w'.cell? ⟨u4.heap.size, 2, none⟩ = some (.slice p8 x'.ks.list.length c8)) (by kernel_rfl) ?_ (fun hHeld => ?_)
    · exact HK.out _ (show Chg [w.heap.size, W1.heap.size] W9 _ by ((repeat (first | with_reducible assumption | with_reducible exact Chg.refl _ _ | refine Chg.setCell ?_ (by simp) _ | refine Chg.alloc ?_ _ | refine Chg.drew ?_)); first | done | fail "chn4"))
    have cW : Chg [] W9 W9.drew := Chg.drew (Chg.refl _ _)
    have dW := d9.chg cW (by simp)
    generalize W9.drew = W0 at cW dW hHeld ⊢
    have zW := cW.size
    have aW := dW.lt
    (refine takeL (i := 0) (v := ?_) rfl (by kernel_rfl) (by kernel_rfl) (by kernel_rfl) (fun _ _ _ h => h) (Or.inl ⟨by kernel_rfl, ?_⟩) (by assumption) ?_; rotate_left; (focus (intro w hSw; (try dsimp only at hSw); go_simp; first | done | with_reducible rfl | fail "take")); (try simp only [Act.put, List.setIfInBounds_toArray, List.set_cons_zero, List.set_cons_succ]))
    (refine takeL (i := 1) (v := ?_) rfl (by kernel_rfl) (by kernel_rfl) (by kernel_rfl) (fun _ _ _ h => h) (Or.inl ⟨by kernel_rfl, ?_⟩) (by assumption) ?_; rotate_left; (focus (intro w hSw; (try dsimp only at hSw); go_simp; first | done | with_reducible rfl | fail "take")); (try simp only [Act.put, List.setIfInBounds_toArray, List.set_cons_zero, List.set_cons_succ]))
    (refine callL (i := 2) rfl (by kernel_rfl) (by kernel_rfl) (fun K hK => ?_); go_simp)
    refine made (K := K) intB_spec 7 (by rfl) (by kernel_rfl) ?_
    intro w3 k3 z3 sB
    have c3 := cW.trans k3
    have d3 := dW.chg k3 (by simp)
    refine hK.out _ _ (HK.out _ (c3.mono (by simp))) (fun hHeld => ?_)
    clear hK K
    (try simp only [Act.put, List.setIfInBounds_toArray, List.set_cons_zero, List.set_cons_succ])
    (refine callL (i := 3) rfl (by kernel_rfl) (by kernel_rfl) (fun K hK => ?_); go_simp)
    go_at_call 36
    refine Calls.mono (num_dr _ _ _ 7 _ w3 d3 (by omega) sB (by decide) (by omega)) ?_
    rintro en w4 ⟨s, rfl, hs, hs', d4, k4⟩
    have c4 := (c3.mono (show ∀ y ∈ ([] : List Nat), y ∈ [W1.heap.size] by simp)).trans k4
    have e4 : Chg [] W1 w4 := c9.past c4 (by simp)
    obtain ⟨⟨r0, r1, r2⟩, z0, z1, z2⟩ := HR.out _ e4
    have HH := Lib.hid (CaseX.fin (P := intP) (u := .int .i64 s) ⟨_, rfl, hs, hs'⟩ ((HX.out.chg c4 (fun z hz hm => by have := HX.out.2.1 z hz; simp at hm; omega)).lo (show w.heap.size + 1 ≤ W1.heap.size + 1 by omega)) (HW1.out.trans e4))
    have m4 := c4.mono (show ∀ y ∈ [W1.heap.size], y ∈ [w.heap.size, W1.heap.size] by simp)
    go_wp2_with fail
    refine hK.out _ _ (HK.out _ m4) (fun hHeld => ?_)
    clear hK K
    (try simp only [Act.put, List.setIfInBounds_toArray, List.set_cons_zero, List.set_cons_succ])
    (refine callL (i := 4) rfl (by kernel_rfl) (by kernel_rfl) (fun K hK => ?_); go_simp)
    refine hK.out _ _ (HK.out _ (((m4.setCell (by simp) _).setCell (by simp) _).setCell (by simp) _)) (fun hHeld => ?_)
    clear hK K
    (try simp only [Act.put, List.setIfInBounds_toArray, List.set_cons_zero, List.set_cons_succ])
    (refine takeL (i := 5) (v := ?_) rfl (by kernel_rfl) (by kernel_rfl) (by kernel_rfl) (fun _ _ _ h => h) (Or.inl ⟨by kernel_rfl, ?_⟩) (by assumption) ?_; rotate_left; (focus (intro w hSw; (try dsimp only at hSw); go_simp; first | done | with_reducible rfl | fail "take")); (try simp only [Act.put, List.setIfInBounds_toArray, List.set_cons_zero, List.set_cons_succ]))
    refine wpAnyH_done (by kernel_rfl) ?_ _
    clear d3 k4 k3 c3 c4 e4 m4 cW dW
    go_wp2_with fail
    exact bodyPost_ret (v := .tuple #[.agg #[.int .i64 x'.op, .string x'.a, .slice p8 x'.ks.list.length c8], .int .i64 s]) (by simp [results, Tryd.results15, go_sem, *]) rfl HH.out
  · have q0 : ((q : Int) == 0) = false := beq_eq_false_iff_ne.2 (by omega)
    have HX := Lib.hid (X6.lo (show W1.heap.size + 1 ≤ u3.heap.size by omega))
    have hvl : u4.heap.size < u6.heap.size := by omega
    clear X6 f0 f1 f2 d5 k6
    go_upto_region 5 with fail
    have HX0 := Lib.hid HX.out
    have HK := Lib.hid (fun (E : World) (hE : Chg [w.heap.size, W1.heap.size] u6 E) => And.intro (hE.cellOf (by simp; omega) v0) (And.intro (hE.cellOf (by simp; omega) v1) (hE.cellOf (by simp; omega) v2)))
    refine wp_region_held_drew (S := fun w' => w'.cell? ⟨u4.heap.size, 0, none⟩ = some (.int .i64 x.op) ∧ w'.cell? ⟨u4.heap.size, 1, none⟩ = some (.string x.a) ∧ w'.cell? ⟨u4.heap.size, 2, none⟩ = some (.slice p4 x.ks.list.length c4)) (by kernel_rfl) ?_ (fun hHeld => ?_)
    · exact HK.out _ (show Chg [w.heap.size, W1.heap.size] u6 _ by ((repeat (first | with_reducible assumption | with_reducible exact Chg.refl _ _ | refine Chg.setCell ?_ (by simp) _ | refine Chg.alloc ?_ _ | refine Chg.drew ?_)); first | done | fail "chn4"))
    have cW : Chg [] u6 u6.drew := Chg.drew (Chg.refl _ _)
    have dW := d6.chg cW (by simp)
    generalize u6.drew = W0 at cW dW hHeld ⊢
    have zW := cW.size
    have aW := dW.lt
    (refine takeL (i := 0) (v := ?_) rfl (by kernel_rfl) (by kernel_rfl) (by kernel_rfl) (fun _ _ _ h => h) (Or.inl ⟨by kernel_rfl, ?_⟩) (by assumption) ?_; rotate_left; (focus (intro w hSw; (try dsimp only at hSw); go_simp; first | done | with_reducible rfl | fail "take")); (try simp only [Act.put, List.setIfInBounds_toArray, List.set_cons_zero, List.set_cons_succ]))
    (refine takeL (i := 1) (v := ?_) rfl (by kernel_rfl) (by kernel_rfl) (by kernel_rfl) (fun _ _ _ h => h) (Or.inl ⟨by kernel_rfl, ?_⟩) (by assumption) ?_; rotate_left; (focus (intro w hSw; (try dsimp only at hSw); go_simp; first | done | with_reducible rfl | fail "take")); (try simp only [Act.put, List.setIfInBounds_toArray, List.set_cons_zero, List.set_cons_succ]))
    (refine callL (i := 2) rfl (by kernel_rfl) (by kernel_rfl) (fun K hK => ?_); go_simp)
    refine made (K := K) intB_spec 7 (by rfl) (by kernel_rfl) ?_
    intro w3 k3 z3 sB
    have c3 := cW.trans k3
    have d3 := dW.chg k3 (by simp)
    refine hK.out _ _ (HK.out _ (c3.mono (by simp))) (fun hHeld => ?_)
    clear hK K
    (try simp only [Act.put, List.setIfInBounds_toArray, List.set_cons_zero, List.set_cons_succ])
    (refine callL (i := 3) rfl (by kernel_rfl) (by kernel_rfl) (fun K hK => ?_); go_simp)
    go_at_call 36
    refine Calls.mono (num_dr _ _ _ 7 _ w3 d3 (by omega) sB (by decide) (by omega)) ?_
    rintro en w4 ⟨s, rfl, hs, hs', d4, k4⟩
    have c4 := (c3.mono (show ∀ y ∈ ([] : List Nat), y ∈ [W1.heap.size] by simp)).trans k4
    have e4 : Chg [] W1 w4 := c6.past c4 (by simp)
    obtain ⟨⟨r0, r1, r2⟩, z0, z1, z2⟩ := HR.out _ e4
    have HH := Lib.hid (CaseX.fin (P := intP) (u := .int .i64 s) ⟨_, rfl, hs, hs'⟩ ((HX.out.chg c4 (fun z hz hm => by have := HX.out.2.1 z hz; simp at hm; omega)).lo (show w.heap.size + 1 ≤ W1.heap.size + 1 by omega)) (HW1.out.trans e4))
    have m4 := c4.mono (show ∀ y ∈ [W1.heap.size], y ∈ [w.heap.size, W1.heap.size] by simp)
    go_wp2_with fail
    refine hK.out _ _ (HK.out _ m4) (fun hHeld => ?_)
    clear hK K
    (try simp only [Act.put, List.setIfInBounds_toArray, List.set_cons_zero, List.set_cons_succ])
    (refine callL (i := 4) rfl (by kernel_rfl) (by kernel_rfl) (fun K hK => ?_); go_simp)
    refine hK.out _ _ (HK.out _ (((m4.setCell (by simp) _).setCell (by simp) _).setCell (by simp) _)) (fun hHeld => ?_)
    clear hK K
    (try simp only [Act.put, List.setIfInBounds_toArray, List.set_cons_zero, List.set_cons_succ])
    (refine takeL (i := 5) (v := ?_) rfl (by kernel_rfl) (by kernel_rfl) (by kernel_rfl) (fun _ _ _ h => h) (Or.inl ⟨by kernel_rfl, ?_⟩) (by assumption) ?_; rotate_left; (focus (intro w hSw; (try dsimp only at hSw); go_simp; first | done | with_reducible rfl | fail "take")); (try simp only [Act.put, List.setIfInBounds_toArray, List.set_cons_zero, List.set_cons_succ]))
    refine wpAnyH_done (by kernel_rfl) ?_ _
    clear d3 k4 k3 c3 c4 e4 m4 cW dW
    go_wp2_with fail
    exact bodyPost_ret (v := .tuple #[.agg #[.int .i64 x.op, .string x.a, .slice p4 x.ks.list.length c4], .int .i64 s]) (by simp [results, Tryd.results15, go_sem, *]) rfl HH.out
end Go.Proofs.YtckkebjpkcfmnaaDoor
