/- l3Some: an element is drawn. -/
import Derived.Test.YtbbemeaojmfndaaDoorM7q0p1
namespace Go.Proofs.YtbbemeaojmfndaaDoor
open Go.RowKit

set_option maxRecDepth 100000 in
set_option maxHeartbeats 16000000 in
theorem l3Some_any (n : Bool) (a N lb m cap : Nat) (w : World) (h : Dr w a N) (hN : N ≤ 800000) (hc : Cs strP w lb m) (hm : 0 < m) (hab : lb ≠ a) :
    Calls Tryd.prog 25 #[.pointer (some ⟨a, 0, none⟩), .bool n, .slice (some ⟨lb, 0, none⟩) m cap] w (SomeE 14 100 a N w) := by
  have hal := h.lt
  have HCS := Lib.hid hc
  clear hc
  go_enter Tryd.func25, Tryd.ntmps25
  go_wp2_with fail
  obtain ⟨W1, eW1⟩ : ∃ E, E = w.alloc (.cells #[.bool false, .string ⟨#[]⟩, .int .i64 0, .string ⟨#[]⟩, .slice none 0 0, .int .i64 0, .string ⟨#[]⟩, .slice none 0 0, .int .i64 0] 27) := ⟨_, rfl⟩
  have sW1 : w.heap.size < W1.heap.size := by rw [eW1]; simp
  have HW1 := Lib.hid (show Chg [] w W1 by rw [eW1]; exact (Chg.refl _ _).alloc _)
  have HRZ := Lib.hid (fun (E : World) (hE : Chg [a] W1 E) => (show ElC false ⟨#[]⟩ 0 ⟨#[]⟩ (.slice none 0 0) 0 ⟨#[]⟩ (.slice none 0 0) 0 w.heap.size W1 by rw [eW1]; exact ElC.new _).chg hE (by simp; omega))
  have dW := h.chg HW1.out (by simp)
  rw [← eW1]
  clear eW1
  refine (pick_nat m a N W1 dW (by omega) hm).mono ?_
  rintro en u1 ⟨q, rfl, hq, d1, k1⟩
  obtain ⟨v, ⟨s, rfl, hs⟩, hcell⟩ := ((HCS.out.chg HW1.out (by simp)).chg k1 (by simpa using hab)).2 q hq
  have s1 := k1.size
  cases n with
  | true =>
    go_upto_region 2 with fail
    obtain ⟨W2, eW2⟩ : ∃ E, E = u1.alloc (.cells #[.bool true, .string s, .int .i64 0, .string ⟨#[]⟩, .slice none 0 0, .int .i64 0, .string ⟨#[]⟩, .slice none 0 0, .int .i64 0] 27) := ⟨_, rfl⟩
    have x2 : Chg [] u1 W2 := by rw [eW2]; exact (Chg.refl _ _).alloc _
    have m2 : ElM ⟨true, s, noX, noX, 0⟩ none 0 none 0 14 u1.heap.size u1.heap.size W2 := by rw [eW2]; exact ElM.new hs _
    have d2 := d1.chg x2 (by simp)
    have c2 : Chg [a] W1 W2 := k1.trans (x2.mono (by simp))
    have n2 : u1.heap.size < W2.heap.size := m2.lt
    rw [← eW2]
    clear eW2 x2 d1 k1 hcell dW
    go_wp2_with fail
    refine (pick_nat 3 a _ W2 d2 (by omega) (by decide)).mono ?_
    rintro en t1 ⟨q2, rfl, hq2, dt1, kt1⟩
    have et1 : Chg [a] W2 t1 := kt1
    have mt1 := m2.chg et1 (by simp; omega)
    have ct1 : Chg [a] W1 t1 := c2.trans et1
    have nt1 := et1.size
    by_cases hq2z : q2 = 0
    · subst hq2z
      go_wp2_with fail
      refine (pick_nat 2 a _ t1 dt1 (by omega) (by decide)).mono ?_
      rintro en t3 ⟨q4, rfl, hq4, dt3, kt3⟩
      have et3 : Chg [a] t1 t3 := kt3
      have mt3 := mt1.chg et3 (by simp; omega)
      have ct3 : Chg [a] W1 t3 := ct1.trans et3
      have nt3 := et3.size
      go_wp2_with fail
      refine (l2Some_any 1 (q4 : Int) a _ t3 (by omega) dt3 (by omega)).mono ?_
      rintro en t6 ⟨x5, px5, cx5, Gx5, rfl, ⟨hx5, lx5, Dx5⟩, dt6, kt6⟩
      have et6 : Chg [a] t3 t6 := kt6
      have mt6 := mt3.chg et6 (by simp; omega)
      have ct6 : Chg [a] W1 t6 := ct3.trans et6
      have nt6 := et6.size
      have mE7 := mt6.setL hx5 Dx5 (Nat.le_refl _) t3 lx5 (by omega) (by omega) mt3 (.inr ⟨a, et6, by omega, by omega⟩)
      have xE7 : Chg [u1.heap.size] t6 (((t6.setCell ⟨u1.heap.size, 2, none⟩ (.int .i64 x5.op)).setCell ⟨u1.heap.size, 3, none⟩ (.string x5.a)).setCell ⟨u1.heap.size, 4, none⟩ (.slice px5 x5.ks.list.length cx5)) := (((Chg.refl _ _).setCell (by simp) _).setCell (by simp) _).setCell (by simp) _
      have dE7 := dt6.chg xE7 (by simp; omega)
      have cE7 := ct6.past xE7 (by simp; omega)
      have nE7 := xE7.size
      have hE : ElC true s 0 ⟨#[]⟩ (.slice none 0 0) 0 ⟨#[]⟩ (.slice none 0 0) 0 u1.heap.size t6 := mt6.1
      obtain ⟨⟨y0, y1, y2, y3, y4, y5, y6, y7, y8⟩, yz, yl⟩ := hE
      have z0 := yz 0
      have z1 := yz 1
      have z2 := yz 2
      have z3 := yz 3
      have z4 := yz 4
      have z5 := yz 5
      have z6 := yz 6
      have z7 := yz 7
      have z8 := yz 8
      clear hx5 lx5 m2 mt1 mt3 mt6 d2 dt1 dt3 dt6 c2 ct1 ct3 ct6 et1 et3 et6 kt1 kt3 kt6
      go_wp2_with fail
      generalize (((t6.setCell ⟨u1.heap.size, 2, none⟩ (.int .i64 x5.op)).setCell ⟨u1.heap.size, 3, none⟩ (.string x5.a)).setCell ⟨u1.heap.size, 4, none⟩ (.slice px5 x5.ks.list.length cx5)) = E7 at mE7 dE7 cE7 nE7 xE7 ⊢
      clear y0 y1 y2 y3 y4 y5 y6 y7 y8 z0 z1 z2 z3 z4 z5 z6 z7 z8 yz yl xE7
      refine (pick_nat 5 a _ E7 dE7 (by omega) (by decide)).mono ?_
      rintro en t8 ⟨q9, rfl, hq9, dt8, kt8⟩
      have et8 : Chg [a] E7 t8 := kt8
      have mt8 := mE7.chg et8 (by simp; omega)
      have ct8 : Chg [a] W1 t8 := cE7.trans et8
      have nt8 := et8.size
      by_cases hq9z : q9 = 0
      · subst hq9z
        go_wp2_with fail
        refine (pick_nat 2 a _ t8 dt8 (by omega) (by decide)).mono ?_
        rintro en t10 ⟨q11, rfl, hq11, dt10, kt10⟩
        have et10 : Chg [a] t8 t10 := kt10
        have mt10 := mt8.chg et10 (by simp; omega)
        have ct10 : Chg [a] W1 t10 := ct8.trans et10
        have nt10 := et10.size
        go_wp2_with fail
        refine (l2Some_any 2 (q11 : Int) a _ t10 (by omega) dt10 (by omega)).mono ?_
        rintro en t13 ⟨x12, px12, cx12, Gx12, rfl, ⟨hx12, lx12, Dx12⟩, dt13, kt13⟩
        have et13 : Chg [a] t10 t13 := kt13
        have mt13 := mt10.chg et13 (by simp; omega)
        have ct13 : Chg [a] W1 t13 := ct10.trans et13
        have nt13 := et13.size
        have mE14 := mt13.setC hx12 Dx12 (Nat.le_refl _) t10 lx12 (by omega) (by omega) mt10 (.inr ⟨a, et13, by omega, by omega⟩)
        have xE14 : Chg [u1.heap.size] t13 (((t13.setCell ⟨u1.heap.size, 5, none⟩ (.int .i64 x12.op)).setCell ⟨u1.heap.size, 6, none⟩ (.string x12.a)).setCell ⟨u1.heap.size, 7, none⟩ (.slice px12 x12.ks.list.length cx12)) := (((Chg.refl _ _).setCell (by simp) _).setCell (by simp) _).setCell (by simp) _
        have dE14 := dt13.chg xE14 (by simp; omega)
        have cE14 := ct13.past xE14 (by simp; omega)
        have nE14 := xE14.size
        have hE : ElC true s x5.op x5.a (.slice px5 x5.ks.list.length cx5) 0 ⟨#[]⟩ (.slice none 0 0) 0 u1.heap.size t13 := mt13.1
        obtain ⟨⟨y0, y1, y2, y3, y4, y5, y6, y7, y8⟩, yz, yl⟩ := hE
        have z0 := yz 0
        have z1 := yz 1
        have z2 := yz 2
        have z3 := yz 3
        have z4 := yz 4
        have z5 := yz 5
        have z6 := yz 6
        have z7 := yz 7
        have z8 := yz 8
        clear hx12 lx12 mE7 mt8 mt10 mt13 dE7 dt8 dt10 dt13 cE7 ct8 ct10 ct13 et8 et10 et13 kt8 kt10 kt13
        go_upto_region 8 with fail
        generalize (((t13.setCell ⟨u1.heap.size, 5, none⟩ (.int .i64 x12.op)).setCell ⟨u1.heap.size, 6, none⟩ (.string x12.a)).setCell ⟨u1.heap.size, 7, none⟩ (.slice px12 x12.ks.list.length cx12)) = E14 at mE14 dE14 cE14 nE14 xE14 ⊢
        clear y0 y1 y2 y3 y4 y5 y6 y7 y8 z0 z1 z2 z3 z4 z5 z6 z7 z8 yz yl xE14
        have HH := Lib.hid (SomeE.fin (k := 14) (n := 100) (N := N) mE14 HW1.out (Nat.le_refl _) (by omega) hal (dE14.mono (by omega)) cE14)
        have hE : ElC true s x5.op x5.a (.slice px5 x5.ks.list.length cx5) x12.op x12.a (.slice px12 x12.ks.list.length cx12) 0 u1.heap.size E14 := mE14.1
        obtain ⟨⟨y0, y1, y2, y3, y4, y5, y6, y7, y8⟩, yz, yl⟩ := hE
        obtain ⟨⟨r0, r1, r2, r3, r4, r5, r6, r7, r8⟩, rz, rl⟩ := HRZ.out E14 cE14
        have g0 := rz 0
        have g1 := rz 1
        have g2 := rz 2
        have g3 := rz 3
        have g4 := rz 4
        have g5 := rz 5
        have g6 := rz 6
        have g7 := rz 7
        have g8 := rz 8
        clear mE14 dE14 cE14 yz rz
        go_wp2_with fail
        exact bodyPost_ret (v := .agg #[.bool true, .string s, .int .i64 x5.op, .string x5.a, .slice px5 x5.ks.list.length cx5, .int .i64 x12.op, .string x12.a, .slice px12 x12.ks.list.length cx12, .int .i64 0]) (by simp [results, Tryd.results25, go_sem, *]) rfl HH.out
      · have hq9n : ((q9 : Int) == 0) = false := beq_eq_false_iff_ne.2 (by omega)
        clear mE7 dE7 cE7 et8 kt8
        have hE : ElC true s x5.op x5.a (.slice px5 x5.ks.list.length cx5) 0 ⟨#[]⟩ (.slice none 0 0) 0 u1.heap.size t8 := mt8.1
        obtain ⟨⟨y0, y1, y2, y3, y4, y5, y6, y7, y8⟩, yz, yl⟩ := hE
        have z0 := yz 0
        have z1 := yz 1
        have z2 := yz 2
        have z3 := yz 3
        have z4 := yz 4
        have z5 := yz 5
        have z6 := yz 6
        have z7 := yz 7
        have z8 := yz 8
        have HH := Lib.hid (SomeE.fin (k := 14) (n := 100) (N := N) mt8 HW1.out (Nat.le_refl _) (by omega) hal (dt8.mono (by omega)) ct8)
        have hE : ElC true s x5.op x5.a (.slice px5 x5.ks.list.length cx5) 0 ⟨#[]⟩ (.slice none 0 0) 0 u1.heap.size t8 := mt8.1
        obtain ⟨⟨y0, y1, y2, y3, y4, y5, y6, y7, y8⟩, yz, yl⟩ := hE
        obtain ⟨⟨r0, r1, r2, r3, r4, r5, r6, r7, r8⟩, rz, rl⟩ := HRZ.out t8 ct8
        have g0 := rz 0
        have g1 := rz 1
        have g2 := rz 2
        have g3 := rz 3
        have g4 := rz 4
        have g5 := rz 5
        have g6 := rz 6
        have g7 := rz 7
        have g8 := rz 8
        clear mt8 dt8 ct8 yz rz
        go_wp2_with fail
        exact bodyPost_ret (v := .agg #[.bool true, .string s, .int .i64 x5.op, .string x5.a, .slice px5 x5.ks.list.length cx5, .int .i64 0, .string ⟨#[]⟩, .slice none 0 0, .int .i64 0]) (by simp [results, Tryd.results25, go_sem, *]) rfl HH.out
    · have hq2n : ((q2 : Int) == 0) = false := beq_eq_false_iff_ne.2 (by omega)
      clear m2 d2 c2 et1 kt1

      go_wp2_with fail
      refine (pick_nat 5 a _ t1 dt1 (by omega) (by decide)).mono ?_
      rintro en t15 ⟨q16, rfl, hq16, dt15, kt15⟩
      have et15 : Chg [a] t1 t15 := kt15
      have mt15 := mt1.chg et15 (by simp; omega)
      have ct15 : Chg [a] W1 t15 := ct1.trans et15
      have nt15 := et15.size
      by_cases hq16z : q16 = 0
      · subst hq16z
        go_wp2_with fail
        refine (pick_nat 2 a _ t15 dt15 (by omega) (by decide)).mono ?_
        rintro en t17 ⟨q18, rfl, hq18, dt17, kt17⟩
        have et17 : Chg [a] t15 t17 := kt17
        have mt17 := mt15.chg et17 (by simp; omega)
        have ct17 : Chg [a] W1 t17 := ct15.trans et17
        have nt17 := et17.size
        go_wp2_with fail
        refine (l2Some_any 2 (q18 : Int) a _ t17 (by omega) dt17 (by omega)).mono ?_
        rintro en t20 ⟨x19, px19, cx19, Gx19, rfl, ⟨hx19, lx19, Dx19⟩, dt20, kt20⟩
        have et20 : Chg [a] t17 t20 := kt20
        have mt20 := mt17.chg et20 (by simp; omega)
        have ct20 : Chg [a] W1 t20 := ct17.trans et20
        have nt20 := et20.size
        have mE21 := mt20.setC hx19 Dx19 (Nat.le_refl _) t17 lx19 (by omega) (by omega) mt17 (.inr ⟨a, et20, by omega, by omega⟩)
        have xE21 : Chg [u1.heap.size] t20 (((t20.setCell ⟨u1.heap.size, 5, none⟩ (.int .i64 x19.op)).setCell ⟨u1.heap.size, 6, none⟩ (.string x19.a)).setCell ⟨u1.heap.size, 7, none⟩ (.slice px19 x19.ks.list.length cx19)) := (((Chg.refl _ _).setCell (by simp) _).setCell (by simp) _).setCell (by simp) _
        have dE21 := dt20.chg xE21 (by simp; omega)
        have cE21 := ct20.past xE21 (by simp; omega)
        have nE21 := xE21.size
        have hE : ElC true s 0 ⟨#[]⟩ (.slice none 0 0) 0 ⟨#[]⟩ (.slice none 0 0) 0 u1.heap.size t20 := mt20.1
        obtain ⟨⟨y0, y1, y2, y3, y4, y5, y6, y7, y8⟩, yz, yl⟩ := hE
        have z0 := yz 0
        have z1 := yz 1
        have z2 := yz 2
        have z3 := yz 3
        have z4 := yz 4
        have z5 := yz 5
        have z6 := yz 6
        have z7 := yz 7
        have z8 := yz 8
        clear hx19 lx19 mt1 mt15 mt17 mt20 dt1 dt15 dt17 dt20 ct1 ct15 ct17 ct20 et15 et17 et20 kt15 kt17 kt20
        go_upto_region 8 with fail
        generalize (((t20.setCell ⟨u1.heap.size, 5, none⟩ (.int .i64 x19.op)).setCell ⟨u1.heap.size, 6, none⟩ (.string x19.a)).setCell ⟨u1.heap.size, 7, none⟩ (.slice px19 x19.ks.list.length cx19)) = E21 at mE21 dE21 cE21 nE21 xE21 ⊢
        clear y0 y1 y2 y3 y4 y5 y6 y7 y8 z0 z1 z2 z3 z4 z5 z6 z7 z8 yz yl xE21
        have HH := Lib.hid (SomeE.fin (k := 14) (n := 100) (N := N) mE21 HW1.out (Nat.le_refl _) (by omega) hal (dE21.mono (by omega)) cE21)
        have hE : ElC true s 0 ⟨#[]⟩ (.slice none 0 0) x19.op x19.a (.slice px19 x19.ks.list.length cx19) 0 u1.heap.size E21 := mE21.1
        obtain ⟨⟨y0, y1, y2, y3, y4, y5, y6, y7, y8⟩, yz, yl⟩ := hE
        obtain ⟨⟨r0, r1, r2, r3, r4, r5, r6, r7, r8⟩, rz, rl⟩ := HRZ.out E21 cE21
        have g0 := rz 0
        have g1 := rz 1
        have g2 := rz 2
        have g3 := rz 3
        have g4 := rz 4
        have g5 := rz 5
        have g6 := rz 6
        have g7 := rz 7
        have g8 := rz 8
        clear mE21 dE21 cE21 yz rz
        go_wp2_with fail
        exact bodyPost_ret (v := .agg #[.bool true, .string s, .int .i64 0, .string ⟨#[]⟩, .slice none 0 0, .int .i64 x19.op, .string x19.a, .slice px19 x19.ks.list.length cx19, .int .i64 0]) (by simp [results, Tryd.results25, go_sem, *]) rfl HH.out
      · have hq16n : ((q16 : Int) == 0) = false := beq_eq_false_iff_ne.2 (by omega)
        clear mt1 dt1 ct1 et15 kt15
        have hE : ElC true s 0 ⟨#[]⟩ (.slice none 0 0) 0 ⟨#[]⟩ (.slice none 0 0) 0 u1.heap.size t15 := mt15.1
        obtain ⟨⟨y0, y1, y2, y3, y4, y5, y6, y7, y8⟩, yz, yl⟩ := hE
        have z0 := yz 0
        have z1 := yz 1
        have z2 := yz 2
        have z3 := yz 3
        have z4 := yz 4
        have z5 := yz 5
        have z6 := yz 6
        have z7 := yz 7
        have z8 := yz 8
        have HH := Lib.hid (SomeE.fin (k := 14) (n := 100) (N := N) mt15 HW1.out (Nat.le_refl _) (by omega) hal (dt15.mono (by omega)) ct15)
        have hE : ElC true s 0 ⟨#[]⟩ (.slice none 0 0) 0 ⟨#[]⟩ (.slice none 0 0) 0 u1.heap.size t15 := mt15.1
        obtain ⟨⟨y0, y1, y2, y3, y4, y5, y6, y7, y8⟩, yz, yl⟩ := hE
        obtain ⟨⟨r0, r1, r2, r3, r4, r5, r6, r7, r8⟩, rz, rl⟩ := HRZ.out t15 ct15
        have g0 := rz 0
        have g1 := rz 1
        have g2 := rz 2
        have g3 := rz 3
        have g4 := rz 4
        have g5 := rz 5
        have g6 := rz 6
        have g7 := rz 7
        have g8 := rz 8
        clear mt15 dt15 ct15 yz rz
        go_wp2_with fail
        exact bodyPost_ret (v := .agg #[.bool true, .string s, .int .i64 0, .string ⟨#[]⟩, .slice none 0 0, .int .i64 0, .string ⟨#[]⟩, .slice none 0 0, .int .i64 0]) (by simp [results, Tryd.results25, go_sem, *]) rfl HH.out
  | false =>
    go_upto_region 2 with fail
    obtain ⟨W2, eW2⟩ : ∃ E, E = u1.alloc (.cells #[.bool false, .string s, .int .i64 0, .string ⟨#[]⟩, .slice none 0 0, .int .i64 0, .string ⟨#[]⟩, .slice none 0 0, .int .i64 0] 27) := ⟨_, rfl⟩
    have x2 : Chg [] u1 W2 := by rw [eW2]; exact (Chg.refl _ _).alloc _
    have m2 : ElM ⟨false, s, noX, noX, 0⟩ none 0 none 0 14 u1.heap.size u1.heap.size W2 := by rw [eW2]; exact ElM.new hs _
    have d2 := d1.chg x2 (by simp)
    have c2 : Chg [a] W1 W2 := k1.trans (x2.mono (by simp))
    have n2 : u1.heap.size < W2.heap.size := m2.lt
    rw [← eW2]
    clear eW2 x2 d1 k1 hcell dW
    go_wp2_with fail
    refine (num_dr a _ _ 4 _ _ (d2.alloc _) (by omega) (Cs.fresh intB intB_spec _ _ _ rfl (by rfl) (by kernel_rfl)) (by decide) (by omega)).mono ?_
    rintro en t1 ⟨z, rfl, hz0, hz1, dt1, kt1⟩
    have et1 : Chg [a] W2 t1 := (((Chg.refl [] W2).alloc _).mono (by simp)).trans kt1
    have mt1 := m2.chg et1 (by simp; omega)
    have ct1 : Chg [a] W1 t1 := c2.trans et1
    have nt1 := et1.size
    have mE0 := mt1.setD hz0 hz1
    have xE0 : Chg [u1.heap.size] t1 (t1.setCell ⟨u1.heap.size, 8, none⟩ (.int .i64 z)) := (Chg.refl _ _).setCell (by simp) _
    have dE0 := dt1.chg xE0 (by simp; omega)
    have cE0 := ct1.past xE0 (by simp; omega)
    have nE0 := xE0.size
    have hE : ElC false s 0 ⟨#[]⟩ (.slice none 0 0) 0 ⟨#[]⟩ (.slice none 0 0) 0 u1.heap.size t1 := mt1.1
    obtain ⟨⟨y0, y1, y2, y3, y4, y5, y6, y7, y8⟩, yz, yl⟩ := hE
    have z0 := yz 0
    have z1 := yz 1
    have z2 := yz 2
    have z3 := yz 3
    have z4 := yz 4
    have z5 := yz 5
    have z6 := yz 6
    have z7 := yz 7
    have z8 := yz 8
    clear mt1 dt1 ct1 et1 kt1 m2 d2 c2
    go_wp2_with fail
    generalize t1.setCell ⟨u1.heap.size, 8, none⟩ (.int .i64 z) = E0 at mE0 dE0 cE0 nE0 xE0 ⊢
    clear y0 y1 y2 y3 y4 y5 y6 y7 y8 z0 z1 z2 z3 z4 z5 z6 z7 z8 yz yl xE0
    refine (pick_nat 3 a _ E0 dE0 (by omega) (by decide)).mono ?_
    rintro en t2 ⟨q3, rfl, hq3, dt2, kt2⟩
    have et2 : Chg [a] E0 t2 := kt2
    have mt2 := mE0.chg et2 (by simp; omega)
    have ct2 : Chg [a] W1 t2 := cE0.trans et2
    have nt2 := et2.size
    by_cases hq3z : q3 = 0
    · subst hq3z
      go_wp2_with fail
      refine (pick_nat 2 a _ t2 dt2 (by omega) (by decide)).mono ?_
      rintro en t4 ⟨q5, rfl, hq5, dt4, kt4⟩
      have et4 : Chg [a] t2 t4 := kt4
      have mt4 := mt2.chg et4 (by simp; omega)
      have ct4 : Chg [a] W1 t4 := ct2.trans et4
      have nt4 := et4.size
      go_wp2_with fail
      refine (l2Some_any 1 (q5 : Int) a _ t4 (by omega) dt4 (by omega)).mono ?_
      rintro en t7 ⟨x6, px6, cx6, Gx6, rfl, ⟨hx6, lx6, Dx6⟩, dt7, kt7⟩
      have et7 : Chg [a] t4 t7 := kt7
      have mt7 := mt4.chg et7 (by simp; omega)
      have ct7 : Chg [a] W1 t7 := ct4.trans et7
      have nt7 := et7.size
      have mE8 := mt7.setL hx6 Dx6 (Nat.le_refl _) t4 lx6 (by omega) (by omega) mt4 (.inr ⟨a, et7, by omega, by omega⟩)
      have xE8 : Chg [u1.heap.size] t7 (((t7.setCell ⟨u1.heap.size, 2, none⟩ (.int .i64 x6.op)).setCell ⟨u1.heap.size, 3, none⟩ (.string x6.a)).setCell ⟨u1.heap.size, 4, none⟩ (.slice px6 x6.ks.list.length cx6)) := (((Chg.refl _ _).setCell (by simp) _).setCell (by simp) _).setCell (by simp) _
      have dE8 := dt7.chg xE8 (by simp; omega)
      have cE8 := ct7.past xE8 (by simp; omega)
      have nE8 := xE8.size
      have hE : ElC false s 0 ⟨#[]⟩ (.slice none 0 0) 0 ⟨#[]⟩ (.slice none 0 0) z u1.heap.size t7 := mt7.1
      obtain ⟨⟨y0, y1, y2, y3, y4, y5, y6, y7, y8⟩, yz, yl⟩ := hE
      have z0 := yz 0
      have z1 := yz 1
      have z2 := yz 2
      have z3 := yz 3
      have z4 := yz 4
      have z5 := yz 5
      have z6 := yz 6
      have z7 := yz 7
      have z8 := yz 8
      clear hx6 lx6 mE0 mt2 mt4 mt7 dE0 dt2 dt4 dt7 cE0 ct2 ct4 ct7 et2 et4 et7 kt2 kt4 kt7
      go_wp2_with fail
      generalize (((t7.setCell ⟨u1.heap.size, 2, none⟩ (.int .i64 x6.op)).setCell ⟨u1.heap.size, 3, none⟩ (.string x6.a)).setCell ⟨u1.heap.size, 4, none⟩ (.slice px6 x6.ks.list.length cx6)) = E8 at mE8 dE8 cE8 nE8 xE8 ⊢
      clear y0 y1 y2 y3 y4 y5 y6 y7 y8 z0 z1 z2 z3 z4 z5 z6 z7 z8 yz yl xE8
      refine (pick_nat 5 a _ E8 dE8 (by omega) (by decide)).mono ?_
      rintro en t9 ⟨q10, rfl, hq10, dt9, kt9⟩
      have et9 : Chg [a] E8 t9 := kt9
      have mt9 := mE8.chg et9 (by simp; omega)
      have ct9 : Chg [a] W1 t9 := cE8.trans et9
      have nt9 := et9.size
      by_cases hq10z : q10 = 0
      · subst hq10z
        go_wp2_with fail
        refine (pick_nat 2 a _ t9 dt9 (by omega) (by decide)).mono ?_
        rintro en t11 ⟨q12, rfl, hq12, dt11, kt11⟩
        have et11 : Chg [a] t9 t11 := kt11
        have mt11 := mt9.chg et11 (by simp; omega)
        have ct11 : Chg [a] W1 t11 := ct9.trans et11
        have nt11 := et11.size
        go_wp2_with fail
        refine (l2Some_any 2 (q12 : Int) a _ t11 (by omega) dt11 (by omega)).mono ?_
        rintro en t14 ⟨x13, px13, cx13, Gx13, rfl, ⟨hx13, lx13, Dx13⟩, dt14, kt14⟩
        have et14 : Chg [a] t11 t14 := kt14
        have mt14 := mt11.chg et14 (by simp; omega)
        have ct14 : Chg [a] W1 t14 := ct11.trans et14
        have nt14 := et14.size
        have mE15 := mt14.setC hx13 Dx13 (Nat.le_refl _) t11 lx13 (by omega) (by omega) mt11 (.inr ⟨a, et14, by omega, by omega⟩)
        have xE15 : Chg [u1.heap.size] t14 (((t14.setCell ⟨u1.heap.size, 5, none⟩ (.int .i64 x13.op)).setCell ⟨u1.heap.size, 6, none⟩ (.string x13.a)).setCell ⟨u1.heap.size, 7, none⟩ (.slice px13 x13.ks.list.length cx13)) := (((Chg.refl _ _).setCell (by simp) _).setCell (by simp) _).setCell (by simp) _
        have dE15 := dt14.chg xE15 (by simp; omega)
        have cE15 := ct14.past xE15 (by simp; omega)
        have nE15 := xE15.size
        have hE : ElC false s x6.op x6.a (.slice px6 x6.ks.list.length cx6) 0 ⟨#[]⟩ (.slice none 0 0) z u1.heap.size t14 := mt14.1
        obtain ⟨⟨y0, y1, y2, y3, y4, y5, y6, y7, y8⟩, yz, yl⟩ := hE
        have z0 := yz 0
        have z1 := yz 1
        have z2 := yz 2
        have z3 := yz 3
        have z4 := yz 4
        have z5 := yz 5
        have z6 := yz 6
        have z7 := yz 7
        have z8 := yz 8
        clear hx13 lx13 mE8 mt9 mt11 mt14 dE8 dt9 dt11 dt14 cE8 ct9 ct11 ct14 et9 et11 et14 kt9 kt11 kt14
        go_upto_region 8 with fail
        generalize (((t14.setCell ⟨u1.heap.size, 5, none⟩ (.int .i64 x13.op)).setCell ⟨u1.heap.size, 6, none⟩ (.string x13.a)).setCell ⟨u1.heap.size, 7, none⟩ (.slice px13 x13.ks.list.length cx13)) = E15 at mE15 dE15 cE15 nE15 xE15 ⊢
        clear y0 y1 y2 y3 y4 y5 y6 y7 y8 z0 z1 z2 z3 z4 z5 z6 z7 z8 yz yl xE15
        have HH := Lib.hid (SomeE.fin (k := 14) (n := 100) (N := N) mE15 HW1.out (Nat.le_refl _) (by omega) hal (dE15.mono (by omega)) cE15)
        have hE : ElC false s x6.op x6.a (.slice px6 x6.ks.list.length cx6) x13.op x13.a (.slice px13 x13.ks.list.length cx13) z u1.heap.size E15 := mE15.1
        obtain ⟨⟨y0, y1, y2, y3, y4, y5, y6, y7, y8⟩, yz, yl⟩ := hE
        obtain ⟨⟨r0, r1, r2, r3, r4, r5, r6, r7, r8⟩, rz, rl⟩ := HRZ.out E15 cE15
        have g0 := rz 0
        have g1 := rz 1
        have g2 := rz 2
        have g3 := rz 3
        have g4 := rz 4
        have g5 := rz 5
        have g6 := rz 6
        have g7 := rz 7
        have g8 := rz 8
        clear mE15 dE15 cE15 yz rz
        go_wp2_with fail
        exact bodyPost_ret (v := .agg #[.bool false, .string s, .int .i64 x6.op, .string x6.a, .slice px6 x6.ks.list.length cx6, .int .i64 x13.op, .string x13.a, .slice px13 x13.ks.list.length cx13, .int .i64 z]) (by simp [results, Tryd.results25, go_sem, *]) rfl HH.out
      · have hq10n : ((q10 : Int) == 0) = false := beq_eq_false_iff_ne.2 (by omega)
        clear mE8 dE8 cE8 et9 kt9
        have hE : ElC false s x6.op x6.a (.slice px6 x6.ks.list.length cx6) 0 ⟨#[]⟩ (.slice none 0 0) z u1.heap.size t9 := mt9.1
        obtain ⟨⟨y0, y1, y2, y3, y4, y5, y6, y7, y8⟩, yz, yl⟩ := hE
        have z0 := yz 0
        have z1 := yz 1
        have z2 := yz 2
        have z3 := yz 3
        have z4 := yz 4
        have z5 := yz 5
        have z6 := yz 6
        have z7 := yz 7
        have z8 := yz 8
        have HH := Lib.hid (SomeE.fin (k := 14) (n := 100) (N := N) mt9 HW1.out (Nat.le_refl _) (by omega) hal (dt9.mono (by omega)) ct9)
        have hE : ElC false s x6.op x6.a (.slice px6 x6.ks.list.length cx6) 0 ⟨#[]⟩ (.slice none 0 0) z u1.heap.size t9 := mt9.1
        obtain ⟨⟨y0, y1, y2, y3, y4, y5, y6, y7, y8⟩, yz, yl⟩ := hE
        obtain ⟨⟨r0, r1, r2, r3, r4, r5, r6, r7, r8⟩, rz, rl⟩ := HRZ.out t9 ct9
        have g0 := rz 0
        have g1 := rz 1
        have g2 := rz 2
        have g3 := rz 3
        have g4 := rz 4
        have g5 := rz 5
        have g6 := rz 6
        have g7 := rz 7
        have g8 := rz 8
        clear mt9 dt9 ct9 yz rz
        go_wp2_with fail
        exact bodyPost_ret (v := .agg #[.bool false, .string s, .int .i64 x6.op, .string x6.a, .slice px6 x6.ks.list.length cx6, .int .i64 0, .string ⟨#[]⟩, .slice none 0 0, .int .i64 z]) (by simp [results, Tryd.results25, go_sem, *]) rfl HH.out
    · have hq3n : ((q3 : Int) == 0) = false := beq_eq_false_iff_ne.2 (by omega)
      clear mE0 dE0 cE0 et2 kt2

      go_wp2_with fail
      refine (pick_nat 5 a _ t2 dt2 (by omega) (by decide)).mono ?_
      rintro en t16 ⟨q17, rfl, hq17, dt16, kt16⟩
      have et16 : Chg [a] t2 t16 := kt16
      have mt16 := mt2.chg et16 (by simp; omega)
      have ct16 : Chg [a] W1 t16 := ct2.trans et16
      have nt16 := et16.size
      by_cases hq17z : q17 = 0
      · subst hq17z
        go_wp2_with fail
        refine (pick_nat 2 a _ t16 dt16 (by omega) (by decide)).mono ?_
        rintro en t18 ⟨q19, rfl, hq19, dt18, kt18⟩
        have et18 : Chg [a] t16 t18 := kt18
        have mt18 := mt16.chg et18 (by simp; omega)
        have ct18 : Chg [a] W1 t18 := ct16.trans et18
        have nt18 := et18.size
        go_wp2_with fail
        refine (l2Some_any 2 (q19 : Int) a _ t18 (by omega) dt18 (by omega)).mono ?_
        rintro en t21 ⟨x20, px20, cx20, Gx20, rfl, ⟨hx20, lx20, Dx20⟩, dt21, kt21⟩
        have et21 : Chg [a] t18 t21 := kt21
        have mt21 := mt18.chg et21 (by simp; omega)
        have ct21 : Chg [a] W1 t21 := ct18.trans et21
        have nt21 := et21.size
        have mE22 := mt21.setC hx20 Dx20 (Nat.le_refl _) t18 lx20 (by omega) (by omega) mt18 (.inr ⟨a, et21, by omega, by omega⟩)
        have xE22 : Chg [u1.heap.size] t21 (((t21.setCell ⟨u1.heap.size, 5, none⟩ (.int .i64 x20.op)).setCell ⟨u1.heap.size, 6, none⟩ (.string x20.a)).setCell ⟨u1.heap.size, 7, none⟩ (.slice px20 x20.ks.list.length cx20)) := (((Chg.refl _ _).setCell (by simp) _).setCell (by simp) _).setCell (by simp) _
        have dE22 := dt21.chg xE22 (by simp; omega)
        have cE22 := ct21.past xE22 (by simp; omega)
        have nE22 := xE22.size
        have hE : ElC false s 0 ⟨#[]⟩ (.slice none 0 0) 0 ⟨#[]⟩ (.slice none 0 0) z u1.heap.size t21 := mt21.1
        obtain ⟨⟨y0, y1, y2, y3, y4, y5, y6, y7, y8⟩, yz, yl⟩ := hE
        have z0 := yz 0
        have z1 := yz 1
        have z2 := yz 2
        have z3 := yz 3
        have z4 := yz 4
        have z5 := yz 5
        have z6 := yz 6
        have z7 := yz 7
        have z8 := yz 8
        clear hx20 lx20 mt2 mt16 mt18 mt21 dt2 dt16 dt18 dt21 ct2 ct16 ct18 ct21 et16 et18 et21 kt16 kt18 kt21
        go_upto_region 8 with fail
        generalize (((t21.setCell ⟨u1.heap.size, 5, none⟩ (.int .i64 x20.op)).setCell ⟨u1.heap.size, 6, none⟩ (.string x20.a)).setCell ⟨u1.heap.size, 7, none⟩ (.slice px20 x20.ks.list.length cx20)) = E22 at mE22 dE22 cE22 nE22 xE22 ⊢
        clear y0 y1 y2 y3 y4 y5 y6 y7 y8 z0 z1 z2 z3 z4 z5 z6 z7 z8 yz yl xE22
        have HH := Lib.hid (SomeE.fin (k := 14) (n := 100) (N := N) mE22 HW1.out (Nat.le_refl _) (by omega) hal (dE22.mono (by omega)) cE22)
        have hE : ElC false s 0 ⟨#[]⟩ (.slice none 0 0) x20.op x20.a (.slice px20 x20.ks.list.length cx20) z u1.heap.size E22 := mE22.1
        obtain ⟨⟨y0, y1, y2, y3, y4, y5, y6, y7, y8⟩, yz, yl⟩ := hE
        obtain ⟨⟨r0, r1, r2, r3, r4, r5, r6, r7, r8⟩, rz, rl⟩ := HRZ.out E22 cE22
        have g0 := rz 0
        have g1 := rz 1
        have g2 := rz 2
        have g3 := rz 3
        have g4 := rz 4
        have g5 := rz 5
        have g6 := rz 6
        have g7 := rz 7
        have g8 := rz 8
        clear mE22 dE22 cE22 yz rz
        go_wp2_with fail
        exact bodyPost_ret (v := .agg #[.bool false, .string s, .int .i64 0, .string ⟨#[]⟩, .slice none 0 0, .int .i64 x20.op, .string x20.a, .slice px20 x20.ks.list.length cx20, .int .i64 z]) (by simp [results, Tryd.results25, go_sem, *]) rfl HH.out
      · have hq17n : ((q17 : Int) == 0) = false := beq_eq_false_iff_ne.2 (by omega)
        clear mt2 dt2 ct2 et16 kt16
        have hE : ElC false s 0 ⟨#[]⟩ (.slice none 0 0) 0 ⟨#[]⟩ (.slice none 0 0) z u1.heap.size t16 := mt16.1
        obtain ⟨⟨y0, y1, y2, y3, y4, y5, y6, y7, y8⟩, yz, yl⟩ := hE
        have z0 := yz 0
        have z1 := yz 1
        have z2 := yz 2
        have z3 := yz 3
        have z4 := yz 4
        have z5 := yz 5
        have z6 := yz 6
        have z7 := yz 7
        have z8 := yz 8
        have HH := Lib.hid (SomeE.fin (k := 14) (n := 100) (N := N) mt16 HW1.out (Nat.le_refl _) (by omega) hal (dt16.mono (by omega)) ct16)
        have hE : ElC false s 0 ⟨#[]⟩ (.slice none 0 0) 0 ⟨#[]⟩ (.slice none 0 0) z u1.heap.size t16 := mt16.1
        obtain ⟨⟨y0, y1, y2, y3, y4, y5, y6, y7, y8⟩, yz, yl⟩ := hE
        obtain ⟨⟨r0, r1, r2, r3, r4, r5, r6, r7, r8⟩, rz, rl⟩ := HRZ.out t16 ct16
        have g0 := rz 0
        have g1 := rz 1
        have g2 := rz 2
        have g3 := rz 3
        have g4 := rz 4
        have g5 := rz 5
        have g6 := rz 6
        have g7 := rz 7
        have g8 := rz 8
        clear mt16 dt16 ct16 yz rz
        go_wp2_with fail
        exact bodyPost_ret (v := .agg #[.bool false, .string s, .int .i64 0, .string ⟨#[]⟩, .slice none 0 0, .int .i64 0, .string ⟨#[]⟩, .slice none 0 0, .int .i64 z]) (by simp [results, Tryd.results25, go_sem, *]) rfl HH.out
end Go.Proofs.YtbbemeaojmfndaaDoor
