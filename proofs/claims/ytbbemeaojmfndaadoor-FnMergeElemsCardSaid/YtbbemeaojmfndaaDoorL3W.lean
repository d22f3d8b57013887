/- l3Wrong, l3Draw, DrawElemValid. -/
import Derived.Test.YtbbemeaojmfndaaDoorL3D
import Derived.Test.YtbbemeaojmfndaaDoorTurnS
namespace Go.Proofs.YtbbemeaojmfndaaDoor
open Go.RowKit

set_option maxRecDepth 100000 in
set_option maxHeartbeats 16000000 in
theorem l3Wrong_any (x : El) (u : Value) (B a N k : Nat) (w : World) (hu : x.At B w u) (hB : B ≤ w.heap.size) (hx : x.v.size ≤ 100 ∧ x.l.Dn k ∧ x.c.Dn k ∧ -1000 ≤ x.d ∧ x.d ≤ 1000) (hk : k ≤ 40) (h : Dr w a N) (hN : N ≤ 800000) :
    Calls Tryd.prog 26 #[.pointer (some ⟨a, 0, none⟩), u] w (SomeE (k + 2) 200 a N w) := by
  have hal := h.lt
  obtain ⟨p, c, p', c', rfl, _, _⟩ := hu.form
  have HXD := Lib.hid hx
  have CC := Lib.hid (fun (E : World) (hE : Below B w E) => l3Copy_any x _ B E (hu.below hE (Nat.le_refl _)) (by have := hE.size; omega) (by have := hx.2.1.2.2; omega) (by have := hx.2.2.1.2.2; omega))
  clear hu hx
  go_enter Tryd.func26, Tryd.ntmps26
  go_wp2_with fail
  obtain ⟨W1, eW1⟩ : ∃ E, E = (w.alloc (.cells #[.bool x.n, .string x.v, .int .i64 x.l.op, .string x.l.a, .slice p x.l.ks.list.length c, .int .i64 x.c.op, .string x.c.a, .slice p' x.c.ks.list.length c', .int .i64 x.d] 27)).alloc (.cells #[.bool false, .string ⟨#[]⟩, .int .i64 0, .string ⟨#[]⟩, .slice none 0 0, .int .i64 0, .string ⟨#[]⟩, .slice none 0 0, .int .i64 0] 27) := ⟨_, rfl⟩
  obtain ⟨sW1, sW1'⟩ : w.heap.size + 2 ≤ W1.heap.size ∧ W1.heap.size ≤ w.heap.size + 2 := by rw [eW1]; constructor <;> simp
  have HW1 := Lib.hid (show Chg [] w W1 by rw [eW1]; exact ((Chg.refl _ _).alloc _).alloc _)
  have HRZ := Lib.hid (fun (E : World) (hE : Chg [a] W1 E) => (show ElC false ⟨#[]⟩ 0 ⟨#[]⟩ (.slice none 0 0) 0 ⟨#[]⟩ (.slice none 0 0) 0 (w.heap.size + 1) W1 by rw [eW1]; have := ElC.new (w := w.alloc (.cells #[.bool x.n, .string x.v, .int .i64 x.l.op, .string x.l.a, .slice p x.l.ks.list.length c, .int .i64 x.c.op, .string x.c.a, .slice p' x.c.ks.list.length c', .int .i64 x.d] 27)) (n := false) (v := ⟨#[]⟩) (lo := 0) (la := ⟨#[]⟩) (lk := .slice none 0 0) (co := 0) (ca := ⟨#[]⟩) (ck := .slice none 0 0) (d := 0) 27; rw [World.size_alloc] at this; exact this).chg hE (by simp; omega))
  have dW := h.chg HW1.out (by simp)
  rw [← eW1]
  clear eW1
  refine (CC.out W1 ((HW1.out.below (Nat.le_refl _) (by simp)).mono hB)).mono ?_
  rintro en u1 ⟨vu, F, rfl, hv, hvl, hb1⟩
  obtain ⟨p1, c1, p2, c2', evu, _, _⟩ := hv.at.form
  have s1 := hb1.size
  subst evu
  go_upto_region 2 with fail
  obtain ⟨W2, eW2⟩ : ∃ E, E = u1.alloc (.cells #[.bool x.n, .string x.v, .int .i64 x.l.op, .string x.l.a, .slice p1 x.l.ks.list.length c1, .int .i64 x.c.op, .string x.c.a, .slice p2 x.c.ks.list.length c2', .int .i64 x.d] 27) := ⟨_, rfl⟩
  have x2 : Chg [] u1 W2 := by rw [eW2]; exact (Chg.refl _ _).alloc _
  have m2 : ElM x p1 c1 p2 c2' k u1.heap.size W1.heap.size W2 := by rw [eW2]; exact ElM.of_has hv rfl hvl HXD.out _
  have c2 : Chg [a] W1 W2 := (Chg.of_below hb1 [a]).trans (x2.mono (by simp))
  have d2 : Dr W2 a N := (dW.below hb1).chg x2 (by simp)
  have n2 : u1.heap.size < W2.heap.size := m2.lt
  rw [← eW2]
  clear eW2 x2 hb1 hv hvl dW
  go_wp2_with fail
  refine (pick_nat 20 a _ W2 d2 (by omega) (by decide)).mono ?_
  rintro en t1 ⟨t, rfl, ht, dt1, kt1⟩
  have et1 : Chg [a] W2 t1 := kt1
  have mt1 := m2.chg et1 (by simp; omega)
  have ct1 : Chg [a] W1 t1 := c2.trans et1
  have nt1 := et1.size
  clear m2 d2 c2
  rcases (by omega : t = 0 ∨ t = 1 ∨ t = 2 ∨ t = 3 ∨ 4 ≤ t) with rfl | rfl | rfl | rfl | ht4
  · have q0 : ((0 : Int) == 0) = true := by decide
    go_wp2_with fail
    refine (num_dr a _ _ 4 _ _ (dt1.alloc _) (by omega) (Cs.fresh intB intB_spec _ _ _ rfl (by rfl) (by kernel_rfl)) (by decide) (by omega)).mono ?_
    rintro en t2 ⟨z, rfl, hz0, hz1, dt2, kt2⟩
    have et2 : Chg [a] t1 t2 := (((Chg.refl [] t1).alloc _).mono (by simp)).trans kt2
    have mt2 := mt1.chg et2 (by simp; omega)
    have ct2 : Chg [a] W1 t2 := ct1.trans et2
    have nt2 := et2.size
    have mE1 := (mt2.setD hz0 hz1).kmono (Nat.le_add_right k 2)
    have xE1 : Chg [u1.heap.size] t2 (t2.setCell ⟨u1.heap.size, 8, none⟩ (.int .i64 z)) := (Chg.refl _ _).setCell (by simp) _
    have dE1 := dt2.chg xE1 (by simp; omega)
    have cE1 := ct2.past xE1 (by simp; omega)
    have nE1 := xE1.size
    have hE : ElC x.n x.v x.l.op x.l.a (.slice p1 x.l.ks.list.length c1) x.c.op x.c.a (.slice p2 x.c.ks.list.length c2') x.d u1.heap.size t2 := mt2.1
    obtain ⟨⟨y0, y1, y2, y3, y4, y5, y6, y7, y8⟩, yz, yl⟩ := hE
    have z0 := yz 0
    have z1 := yz 1
    have z2 := yz 2
    have z3 := yz 3
    have z4 := yz 4
    have z5 := yz 5
    have z6 := yz 6
    have z7 := yz 7
    have z8 := yz 8
    clear mt2 dt2 ct2
    go_upto_region 11 with fail
    generalize t2.setCell ⟨u1.heap.size, 8, none⟩ (.int .i64 z) = E1 at mE1 dE1 cE1 nE1 xE1 ⊢
    clear y0 y1 y2 y3 y4 y5 y6 y7 y8 z0 z1 z2 z3 z4 z5 z6 z7 z8 yz yl xE1
    have HH := Lib.hid (SomeE.fin (k := k + 2) (n := 200) (N := N) mE1 HW1.out (Nat.le_succ _) (by omega) hal (dE1.mono (by omega)) cE1)
    have hE : ElC x.n x.v x.l.op x.l.a (.slice p1 x.l.ks.list.length c1) x.c.op x.c.a (.slice p2 x.c.ks.list.length c2') z u1.heap.size E1 := mE1.1
    obtain ⟨⟨y0, y1, y2, y3, y4, y5, y6, y7, y8⟩, yz, yl⟩ := hE
    have z0 := yz 0
    have z1 := yz 1
    have z2 := yz 2
    have z3 := yz 3
    have z4 := yz 4
    have z5 := yz 5
    have z6 := yz 6
    have z7 := yz 7
    have z8 := yz 8
    obtain ⟨⟨r0, r1, r2, r3, r4, r5, r6, r7, r8⟩, rz, rl⟩ := HRZ.out E1 cE1
    have g0 := rz 0
    have g1 := rz 1
    have g2 := rz 2
    have g3 := rz 3
    have g4 := rz 4
    have g5 := rz 5
    have g6 := rz 6
    have g7 := rz 7
    have g8 := rz 8
    clear mE1 dE1 cE1 yz rz
    go_wp2_with fail
    exact bodyPost_ret (v := .agg #[.bool x.n, .string x.v, .int .i64 x.l.op, .string x.l.a, .slice p1 x.l.ks.list.length c1, .int .i64 x.c.op, .string x.c.a, .slice p2 x.c.ks.list.length c2', .int .i64 z]) (by simp [results, Tryd.results26, go_sem, *]) rfl HH.out
  · have q0 : ((1 : Int) == 0) = false := by decide
    go_wp2_with fail
    refine (of_dr a _ _ 3 _ _ (dt1.alloc _) (by omega) (Cs.fresh strB strB_spec _ _ _ rfl (by rfl) (by kernel_rfl)) (by decide) (by omega)).mono ?_
    rintro en t3 ⟨z, rfl, hz0, dt3, kt3⟩
    have et3 : Chg [a] t1 t3 := (((Chg.refl [] t1).alloc _).mono (by simp)).trans kt3
    have mt3 := mt1.chg et3 (by simp; omega)
    have ct3 : Chg [a] W1 t3 := ct1.trans et3
    have nt3 := et3.size
    have mE1 := (mt3.setV hz0).kmono (Nat.le_add_right k 2)
    have xE1 : Chg [u1.heap.size] t3 (t3.setCell ⟨u1.heap.size, 1, none⟩ (.string z)) := (Chg.refl _ _).setCell (by simp) _
    have dE1 := dt3.chg xE1 (by simp; omega)
    have cE1 := ct3.past xE1 (by simp; omega)
    have nE1 := xE1.size
    have hE : ElC x.n x.v x.l.op x.l.a (.slice p1 x.l.ks.list.length c1) x.c.op x.c.a (.slice p2 x.c.ks.list.length c2') x.d u1.heap.size t3 := mt3.1
    obtain ⟨⟨y0, y1, y2, y3, y4, y5, y6, y7, y8⟩, yz, yl⟩ := hE
    have z0 := yz 0
    have z1 := yz 1
    have z2 := yz 2
    have z3 := yz 3
    have z4 := yz 4
    have z5 := yz 5
    have z6 := yz 6
    have z7 := yz 7
    have z8 := yz 8
    clear mt3 dt3 ct3
    go_upto_region 11 with fail
    generalize t3.setCell ⟨u1.heap.size, 1, none⟩ (.string z) = E1 at mE1 dE1 cE1 nE1 xE1 ⊢
    clear y0 y1 y2 y3 y4 y5 y6 y7 y8 z0 z1 z2 z3 z4 z5 z6 z7 z8 yz yl xE1
    have HH := Lib.hid (SomeE.fin (k := k + 2) (n := 200) (N := N) mE1 HW1.out (Nat.le_succ _) (by omega) hal (dE1.mono (by omega)) cE1)
    have hE : ElC x.n z x.l.op x.l.a (.slice p1 x.l.ks.list.length c1) x.c.op x.c.a (.slice p2 x.c.ks.list.length c2') x.d u1.heap.size E1 := mE1.1
    obtain ⟨⟨y0, y1, y2, y3, y4, y5, y6, y7, y8⟩, yz, yl⟩ := hE
    have z0 := yz 0
    have z1 := yz 1
    have z2 := yz 2
    have z3 := yz 3
    have z4 := yz 4
    have z5 := yz 5
    have z6 := yz 6
    have z7 := yz 7
    have z8 := yz 8
    obtain ⟨⟨r0, r1, r2, r3, r4, r5, r6, r7, r8⟩, rz, rl⟩ := HRZ.out E1 cE1
    have g0 := rz 0
    have g1 := rz 1
    have g2 := rz 2
    have g3 := rz 3
    have g4 := rz 4
    have g5 := rz 5
    have g6 := rz 6
    have g7 := rz 7
    have g8 := rz 8
    clear mE1 dE1 cE1 yz rz
    go_wp2_with fail
    exact bodyPost_ret (v := .agg #[.bool x.n, .string z, .int .i64 x.l.op, .string x.l.a, .slice p1 x.l.ks.list.length c1, .int .i64 x.c.op, .string x.c.a, .slice p2 x.c.ks.list.length c2', .int .i64 x.d]) (by simp [results, Tryd.results26, go_sem, *]) rfl HH.out
  · have q0 : ((2 : Int) == 0) = false := by decide
    have q1 : ((2 : Int) == 1) = false := by decide
    have hE : ElC x.n x.v x.l.op x.l.a (.slice p1 x.l.ks.list.length c1) x.c.op x.c.a (.slice p2 x.c.ks.list.length c2') x.d u1.heap.size t1 := mt1.1
    obtain ⟨⟨y0, y1, y2, y3, y4, y5, y6, y7, y8⟩, yz, yl⟩ := hE
    have z0 := yz 0
    have z1 := yz 1
    have z2 := yz 2
    have z3 := yz 3
    have z4 := yz 4
    have z5 := yz 5
    have z6 := yz 6
    have z7 := yz 7
    have z8 := yz 8
    go_wp2_with fail
    clear y0 y1 y2 y3 y4 y5 y6 y7 y8 z0 z1 z2 z3 z4 z5 z6 z7 z8 yz yl
    refine (l2Mut_any k x.l _ t1.heap.size a _ t1 mt1.label.1 (Nat.le_refl _) mt1.label.2 (by omega) dt1 (by omega)).mono ?_
    rintro en t4 ⟨y, py, cy, G, rfl, ⟨hy, hyl, hyd⟩, dt4, kt4⟩
    have et4 : Chg [a] t1 t4 := kt4
    have mt4 := mt1.chg et4 (by simp; omega)
    have ct4 : Chg [a] W1 t4 := ct1.trans et4
    have nt4 := et4.size
    go_wp2_with fail
    refine (l2Mut_any (k + 1) y _ t4.heap.size a _ t4 hy.in (Nat.le_refl _) hyd (by omega) dt4 (by omega)).mono ?_
    rintro en t5 ⟨x', px, cx, G2, rfl, ⟨hx, hxl, hxd⟩, dt5, kt5⟩
    have et5 : Chg [a] t4 t5 := kt5
    have mt5 := mt4.chg et5 (by simp; omega)
    have ct5 : Chg [a] W1 t5 := ct4.trans et5
    have nt5 := et5.size
    have mE1 := mt5.setL hx hxd (by omega) t4 hxl (by omega) (by omega) mt4 (.inr ⟨a, et5, by omega, by omega⟩)
    have xE1 : Chg [u1.heap.size] t5 (((t5.setCell ⟨u1.heap.size, 2, none⟩ (.int .i64 x'.op)).setCell ⟨u1.heap.size, 3, none⟩ (.string x'.a)).setCell ⟨u1.heap.size, 4, none⟩ (.slice px x'.ks.list.length cx)) := (((Chg.refl _ _).setCell (by simp) _).setCell (by simp) _).setCell (by simp) _
    have dE1 := dt5.chg xE1 (by simp; omega)
    have cE1 := ct5.past xE1 (by simp; omega)
    have nE1 := xE1.size
    have hE : ElC x.n x.v x.l.op x.l.a (.slice p1 x.l.ks.list.length c1) x.c.op x.c.a (.slice p2 x.c.ks.list.length c2') x.d u1.heap.size t5 := mt5.1
    obtain ⟨⟨y0, y1, y2, y3, y4, y5, y6, y7, y8⟩, yz, yl⟩ := hE
    have z0 := yz 0
    have z1 := yz 1
    have z2 := yz 2
    have z3 := yz 3
    have z4 := yz 4
    have z5 := yz 5
    have z6 := yz 6
    have z7 := yz 7
    have z8 := yz 8
    clear hx hxl hy hyl mt1 mt4 mt5 dt1 dt4 dt5 ct1 ct4 ct5 et4 et5 kt4 kt5
    go_upto_region 11 with fail
    generalize (((t5.setCell ⟨u1.heap.size, 2, none⟩ (.int .i64 x'.op)).setCell ⟨u1.heap.size, 3, none⟩ (.string x'.a)).setCell ⟨u1.heap.size, 4, none⟩ (.slice px x'.ks.list.length cx)) = E1 at mE1 dE1 cE1 nE1 xE1 ⊢
    clear y0 y1 y2 y3 y4 y5 y6 y7 y8 z0 z1 z2 z3 z4 z5 z6 z7 z8 yz yl xE1
    have HH := Lib.hid (SomeE.fin (k := k + 2) (n := 200) (N := N) mE1 HW1.out (Nat.le_succ _) (by omega) hal (dE1.mono (by omega)) cE1)
    have hE : ElC x.n x.v x'.op x'.a (.slice px x'.ks.list.length cx) x.c.op x.c.a (.slice p2 x.c.ks.list.length c2') x.d u1.heap.size E1 := mE1.1
    obtain ⟨⟨y0, y1, y2, y3, y4, y5, y6, y7, y8⟩, yz, yl⟩ := hE
    have z0 := yz 0
    have z1 := yz 1
    have z2 := yz 2
    have z3 := yz 3
    have z4 := yz 4
    have z5 := yz 5
    have z6 := yz 6
    have z7 := yz 7
    have z8 := yz 8
    obtain ⟨⟨r0, r1, r2, r3, r4, r5, r6, r7, r8⟩, rz, rl⟩ := HRZ.out E1 cE1
    have g0 := rz 0
    have g1 := rz 1
    have g2 := rz 2
    have g3 := rz 3
    have g4 := rz 4
    have g5 := rz 5
    have g6 := rz 6
    have g7 := rz 7
    have g8 := rz 8
    clear mE1 dE1 cE1 yz rz
    go_wp2_with fail
    exact bodyPost_ret (v := .agg #[.bool x.n, .string x.v, .int .i64 x'.op, .string x'.a, .slice px x'.ks.list.length cx, .int .i64 x.c.op, .string x.c.a, .slice p2 x.c.ks.list.length c2', .int .i64 x.d]) (by simp [results, Tryd.results26, go_sem, *]) rfl HH.out
  · have q0 : ((3 : Int) == 0) = false := by decide
    have q1 : ((3 : Int) == 1) = false := by decide
    have q2 : ((3 : Int) == 2) = false := by decide
    have mE1 := (mt1.setN (!x.n)).kmono (Nat.le_add_right k 2)
    have xE1 : Chg [u1.heap.size] t1 (t1.setCell ⟨u1.heap.size, 0, none⟩ (.bool (!x.n))) := (Chg.refl _ _).setCell (by simp) _
    have dE1 := dt1.chg xE1 (by simp; omega)
    have cE1 := ct1.past xE1 (by simp; omega)
    have nE1 := xE1.size
    have hE : ElC x.n x.v x.l.op x.l.a (.slice p1 x.l.ks.list.length c1) x.c.op x.c.a (.slice p2 x.c.ks.list.length c2') x.d u1.heap.size t1 := mt1.1
    obtain ⟨⟨y0, y1, y2, y3, y4, y5, y6, y7, y8⟩, yz, yl⟩ := hE
    have z0 := yz 0
    have z1 := yz 1
    have z2 := yz 2
    have z3 := yz 3
    have z4 := yz 4
    have z5 := yz 5
    have z6 := yz 6
    have z7 := yz 7
    have z8 := yz 8
    clear mt1 dt1 ct1
    go_upto_region 11 with fail
    generalize t1.setCell ⟨u1.heap.size, 0, none⟩ (.bool (!x.n)) = E1 at mE1 dE1 cE1 nE1 xE1 ⊢
    clear y0 y1 y2 y3 y4 y5 y6 y7 y8 z0 z1 z2 z3 z4 z5 z6 z7 z8 yz yl xE1
    have HH := Lib.hid (SomeE.fin (k := k + 2) (n := 200) (N := N) mE1 HW1.out (Nat.le_succ _) (by omega) hal (dE1.mono (by omega)) cE1)
    have hE : ElC (!x.n) x.v x.l.op x.l.a (.slice p1 x.l.ks.list.length c1) x.c.op x.c.a (.slice p2 x.c.ks.list.length c2') x.d u1.heap.size E1 := mE1.1
    obtain ⟨⟨y0, y1, y2, y3, y4, y5, y6, y7, y8⟩, yz, yl⟩ := hE
    have z0 := yz 0
    have z1 := yz 1
    have z2 := yz 2
    have z3 := yz 3
    have z4 := yz 4
    have z5 := yz 5
    have z6 := yz 6
    have z7 := yz 7
    have z8 := yz 8
    obtain ⟨⟨r0, r1, r2, r3, r4, r5, r6, r7, r8⟩, rz, rl⟩ := HRZ.out E1 cE1
    have g0 := rz 0
    have g1 := rz 1
    have g2 := rz 2
    have g3 := rz 3
    have g4 := rz 4
    have g5 := rz 5
    have g6 := rz 6
    have g7 := rz 7
    have g8 := rz 8
    clear mE1 dE1 cE1 yz rz
    go_wp2_with fail
    exact bodyPost_ret (v := .agg #[.bool (!x.n), .string x.v, .int .i64 x.l.op, .string x.l.a, .slice p1 x.l.ks.list.length c1, .int .i64 x.c.op, .string x.c.a, .slice p2 x.c.ks.list.length c2', .int .i64 x.d]) (by simp [results, Tryd.results26, go_sem, *]) rfl HH.out
  · have q0 : ((t : Int) == 0) = false := beq_eq_false_iff_ne.2 (by omega)
    have q1 : ((t : Int) == 1) = false := beq_eq_false_iff_ne.2 (by omega)
    have q2 : ((t : Int) == 2) = false := beq_eq_false_iff_ne.2 (by omega)
    have q3 : ((t : Int) == 3) = false := beq_eq_false_iff_ne.2 (by omega)
    have mF := mt1.kmono (Nat.le_add_right k 2)
    have HH := Lib.hid (SomeE.fin (k := k + 2) (n := 200) (N := N) mF HW1.out (Nat.le_succ _) (by omega) hal (dt1.mono (by omega)) ct1)
    have hE : ElC x.n x.v x.l.op x.l.a (.slice p1 x.l.ks.list.length c1) x.c.op x.c.a (.slice p2 x.c.ks.list.length c2') x.d u1.heap.size t1 := mF.1
    obtain ⟨⟨y0, y1, y2, y3, y4, y5, y6, y7, y8⟩, yz, yl⟩ := hE
    have z0 := yz 0
    have z1 := yz 1
    have z2 := yz 2
    have z3 := yz 3
    have z4 := yz 4
    have z5 := yz 5
    have z6 := yz 6
    have z7 := yz 7
    have z8 := yz 8
    obtain ⟨⟨r0, r1, r2, r3, r4, r5, r6, r7, r8⟩, rz, rl⟩ := HRZ.out t1 ct1
    have g0 := rz 0
    have g1 := rz 1
    have g2 := rz 2
    have g3 := rz 3
    have g4 := rz 4
    have g5 := rz 5
    have g6 := rz 6
    have g7 := rz 7
    have g8 := rz 8
    clear mF dt1 ct1 yz rz
    go_wp2_with fail
    exact bodyPost_ret (v := .agg #[.bool x.n, .string x.v, .int .i64 x.l.op, .string x.l.a, .slice p1 x.l.ks.list.length c1, .int .i64 x.c.op, .string x.c.a, .slice p2 x.c.ks.list.length c2', .int .i64 x.d]) (by simp [results, Tryd.results26, go_sem, *]) rfl HH.out
end Go.Proofs.YtbbemeaojmfndaaDoor
