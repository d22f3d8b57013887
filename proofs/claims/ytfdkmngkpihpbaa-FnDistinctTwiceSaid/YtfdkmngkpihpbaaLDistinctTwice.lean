/- The walk of FnDistinctTwice. -/
import Derived.Test.YtfdkmngkpihpbaaM1q1p1
import Derived.Test.YtfdkmngkpihpbaaM1q0p1
import Derived.Test.YtfdkmngkpihpbaaM0q0p2
import Derived.Deep.RegionHeld3
import Derived.Deep.DeepCutAuto
namespace Go.Proofs.Ytfdkmngkpihpbaa
open Go.RowKit

set_option maxRecDepth 100000 in
set_option maxHeartbeats 16000000 in
theorem lawDistinctTwice (zs : List Int) (v : Value) (w : World) (hv : Sl 1 byCells w.heap.size w v zs) (hz : ∀ z ∈ zs, 0 ≤ z ∧ z ≤ 255) :
    Calls Try.prog 7 #[v] w fun e w' => e = .returned (.bool true) ∧ Below w.heap.size w w' := by
  obtain ⟨p, cap, rfl⟩ := hv.form
  have hm := hv.max
  unfold maxLen at hm
  by_cases hb : (1048576 : Int) < zs.length
  · go_enter Try.func7, Try.ntmps7
    go_wp2_with fail
    go_ret
    exact ⟨rfl, Below.refl _ _⟩
  go_enter Try.func7, Try.ntmps7
  go_wp2_with fail
  refine (drawDistinctRows_any zs _ w.heap.size _ hv (Nat.le_refl _) hz).mono ?_
  rintro e w1 ⟨x, vx, Fx, rfl, hx, hok, hne, hb1⟩
  obtain ⟨p1, c1, q1, d1, rfl⟩ := hx.form
  have HX := Lib.hid hx.at
  have HOK := Lib.hid hok
  have HNE := Lib.hid hne
  have HN9 := Lib.hid (show x.need ≤ 1048576 by omega)
  have HB1 := Lib.hid hb1
  have s1 := hb1.size
  skip
  skip
  clear hx hok hne hb1 hv
  go_upto_region 4 with fail
  obtain ⟨Va, eW⟩ : ∃ u, u = w1.alloc (.cells #[.slice p1 x.cs.length c1, .slice q1 x.rs.length d1] 33) := ⟨_, rfl⟩
  rw [← eW]
  have hzVa : w1.heap.size < Va.heap.size := by rw [eW]; simp
  have hbVa : Below w1.heap.size w1 Va := by rw [eW]; exact (Below.refl _ _).alloc (Nat.le_refl _) _
  have HVa := Lib.hid (show ∀ E, Below Va.heap.size Va E → (E.cell? ⟨w1.heap.size, 0, none⟩ = some (.slice p1 x.cs.length c1) ∧ E.cell? ⟨w1.heap.size, 1, none⟩ = some (.slice q1 x.rs.length d1)) ∧ (x).At Va.heap.size E (.agg #[.slice p1 x.cs.length c1, .slice q1 x.rs.length d1]) from fun E hE => ⟨⟨keepc hE hzVa (by rw [eW]; simp [go_sem]), keepc hE hzVa (by rw [eW]; simp [go_sem])⟩, HX.out.to (hbVa.trans (hE.mono (by omega))) (by omega)⟩)
  have HBa := Lib.hid (HB1.out.trans (hbVa.mono (by omega)))
  clear eW
  have Ra := Below.refl Va.heap.size Va
  have HDA := Lib.hid (dst_all x.rs)
  have HYE := Lib.hid (dsR_yes (x := x))
  obtain ⟨R, eR⟩ : ∃ R, R = dsR x := ⟨_, rfl⟩
  obtain ⟨T, eT⟩ : ∃ T, T = x.ok := ⟨_, rfl⟩
  have HYES := Lib.hid (show T = true → R = ⟨x.cs, dst x.rs⟩ from by rw [eR, eT]; exact HYE.out)
  have HNX := Lib.hid (show R.Ok ∧ R.need ≤ 1048576 ∧ (T = true → dsR R = R ∧ R.ok = true) from by rw [eR, eT]; exact ds_twice HOK.out HNE.out)
  have CI := Lib.hid (fun (v : Value) (E : World) (h : x.At E.heap.size E v) => (eR ▸ eT ▸ distinctRows_any x v E.heap.size E h (Nat.le_refl _) HOK.out HN9.out : Calls Try.prog 19 #[v] E (TbPost R T E)))
  have CS := Lib.hid (fun (v : Value) (E : World) (h : x.At E.heap.size E v) => (eR ▸ eT ▸ specDistinctRows_any x v E.heap.size E h (Nat.le_refl _) HOK.out HN9.out : Calls Try.prog 20 #[v] E (TbPost R T E)))
  have HTX := Lib.hid eT
  clear eR eT HYE
  obtain ⟨⟨xa0, xa1⟩, xa2⟩ := HVa.out Va Ra
  go_wp2_with fail
  refine (CI.out _ Va (xa2.to (Below.refl _ _) (Nat.le_refl _))).mono ?_
  rintro e w2 ⟨v2, F2, rfl, ho2, _, hb2⟩
  obtain ⟨p2, c2, q2, d2, rfl⟩ := ho2.form
  have HO2 := Lib.hid ho2.at
  have s2 := hb2.size
  have HB2 := Lib.hid (HBa.out.trans (hb2.mono (by omega)))
  clear xa0 xa1 xa2
  have Ra : Below Va.heap.size Va w2 := Ra.trans (hb2.mono (by omega))
  clear ho2 hb2
  obtain ⟨⟨xa0, xa1⟩, xa2⟩ := HVa.out w2 Ra
  go_upto_region 5 with fail
  obtain ⟨Vb, eW⟩ : ∃ u, u = w2.alloc (.cells #[.slice p2 R.cs.length c2, .slice q2 R.rs.length d2] 33) := ⟨_, rfl⟩
  rw [← eW]
  have hzVb : w2.heap.size < Vb.heap.size := by rw [eW]; simp
  have hbVb : Below w2.heap.size w2 Vb := by rw [eW]; exact (Below.refl _ _).alloc (Nat.le_refl _) _
  have HVb := Lib.hid (show ∀ E, Below Vb.heap.size Vb E → (E.cell? ⟨w2.heap.size, 0, none⟩ = some (.slice p2 R.cs.length c2) ∧ E.cell? ⟨w2.heap.size, 1, none⟩ = some (.slice q2 R.rs.length d2)) ∧ (R).At Vb.heap.size E (.agg #[.slice p2 R.cs.length c2, .slice q2 R.rs.length d2]) from fun E hE => ⟨⟨keepc hE hzVb (by rw [eW]; simp [go_sem]), keepc hE hzVb (by rw [eW]; simp [go_sem])⟩, HO2.out.to (hbVb.trans (hE.mono (by omega))) (by omega)⟩)
  have HBb := Lib.hid (HB2.out.trans (hbVb.mono (by omega)))
  clear eW
  clear xa0 xa1 xa2
  have Ra := Ra.trans (hbVb.mono (by omega))
  have Rb := Below.refl Vb.heap.size Vb
  obtain ⟨⟨xa0, xa1⟩, xa2⟩ := HVa.out Vb Ra
  obtain ⟨⟨xb0, xb1⟩, xb2⟩ := HVb.out Vb Rb
  go_wp2_with fail
  refine (CS.out _ Vb (xa2.to (Below.refl _ _) (by omega))).mono ?_
  rintro e w3 ⟨v3, F3, rfl, ho3, _, hb3⟩
  obtain ⟨p3, c3, q3, d3, rfl⟩ := ho3.form
  have HO3 := Lib.hid ho3.at
  have s3 := hb3.size
  have HB3 := Lib.hid (HBb.out.trans (hb3.mono (by omega)))
  clear xa0 xa1 xa2 xb0 xb1 xb2
  have Ra : Below Va.heap.size Va w3 := Ra.trans (hb3.mono (by omega))
  have Rb : Below Vb.heap.size Vb w3 := Rb.trans (hb3.mono (by omega))
  clear ho3 hb3
  obtain ⟨⟨xa0, xa1⟩, xa2⟩ := HVa.out w3 Ra
  obtain ⟨⟨xb0, xb1⟩, xb2⟩ := HVb.out w3 Rb
  go_upto_region 6 with fail
  obtain ⟨Vc, eW⟩ : ∃ u, u = w3.alloc (.cells #[.slice p3 R.cs.length c3, .slice q3 R.rs.length d3] 33) := ⟨_, rfl⟩
  rw [← eW]
  have hzVc : w3.heap.size < Vc.heap.size := by rw [eW]; simp
  have hbVc : Below w3.heap.size w3 Vc := by rw [eW]; exact (Below.refl _ _).alloc (Nat.le_refl _) _
  have HVc := Lib.hid (show ∀ E, Below Vc.heap.size Vc E → (E.cell? ⟨w3.heap.size, 0, none⟩ = some (.slice p3 R.cs.length c3) ∧ E.cell? ⟨w3.heap.size, 1, none⟩ = some (.slice q3 R.rs.length d3)) ∧ (R).At Vc.heap.size E (.agg #[.slice p3 R.cs.length c3, .slice q3 R.rs.length d3]) from fun E hE => ⟨⟨keepc hE hzVc (by rw [eW]; simp [go_sem]), keepc hE hzVc (by rw [eW]; simp [go_sem])⟩, HO3.out.to (hbVc.trans (hE.mono (by omega))) (by omega)⟩)
  have HBc := Lib.hid (HB3.out.trans (hbVc.mono (by omega)))
  clear eW
  clear xa0 xa1 xa2 xb0 xb1 xb2
  have Ra := Ra.trans (hbVc.mono (by omega))
  have Rb := Rb.trans (hbVc.mono (by omega))
  have Rc := Below.refl Vc.heap.size Vc
  obtain ⟨⟨xa0, xa1⟩, xa2⟩ := HVa.out Vc Ra
  obtain ⟨⟨xb0, xb1⟩, xb2⟩ := HVb.out Vc Rb
  obtain ⟨⟨xc0, xc1⟩, xc2⟩ := HVc.out Vc Rc
  go_wp2_with fail
  refine (gpTable_any R _ _ Vc.heap.size Vc (xb2.to (Below.refl _ _) (by omega)) xc2 (Nat.le_refl _)).mono ?_
  rintro e w4 ⟨rfl, hb4⟩
  have s4 := hb4.size
  have HB4 := Lib.hid (HBc.out.trans (hb4.mono (by omega)))
  clear xa0 xa1 xa2 xb0 xb1 xb2 xc0 xc1 xc2
  have Ra : Below Va.heap.size Va w4 := Ra.trans (hb4.mono (by omega))
  have Rb : Below Vb.heap.size Vb w4 := Rb.trans (hb4.mono (by omega))
  have Rc : Below Vc.heap.size Vc w4 := Rc.trans (hb4.mono (by omega))
  clear hb4
  obtain ⟨⟨xa0, xa1⟩, xa2⟩ := HVa.out w4 Ra
  obtain ⟨⟨xb0, xb1⟩, xb2⟩ := HVb.out w4 Rb
  obtain ⟨⟨xc0, xc1⟩, xc2⟩ := HVc.out w4 Rc
  cases hT : T with
  | false =>
    go_wp2_with fail
    refine (gpTable_any R _ _ w4.heap.size w4 (xb2.to (Below.refl _ _) (by omega)) (xc2.to (Below.refl _ _) (by omega)) (Nat.le_refl _)).mono ?_
    rintro e w5 ⟨rfl, hb5⟩
    have HB5 := Lib.hid (HB4.out.trans (hb5.mono (by omega)))
    clear hb5
    go_wp2_with fail
    go_ret
    exact ⟨rfl, HB5.out⟩
  | true =>
    have HNN := Lib.hid (HNX.out.2.2 hT)
    have CA := Lib.hid (fun (v : Value) (E : World) (h : R.At E.heap.size E v) => (by have hh := distinctRows_any R v E.heap.size E h (Nat.le_refl _) HNX.out.1 HNX.out.2.1; rw [HNN.out.1, HNN.out.2] at hh; exact hh : Calls Try.prog 19 #[v] E (TbPost R true E)))
    have CV := Lib.hid (fun (v : Value) (E : World) (h : R.At E.heap.size E v) => (by have hh := tableValid_any R v E.heap.size E h (Nat.le_refl _) HNX.out.1.1; rw [HNN.out.2] at hh; exact hh : Calls Try.prog 22 #[v] E fun en w' => en = .returned (.bool true) ∧ Below E.heap.size E w'))
    clear hT
    go_wp2_with fail
    refine (CA.out _ w4 (xb2.to (Below.refl _ _) (by omega))).mono ?_
    rintro e w5 ⟨v5, F5, rfl, ho5, _, hb5⟩
    obtain ⟨p5, c5, q5, d5, rfl⟩ := ho5.form
    have HO5 := Lib.hid ho5.at
    have s5 := hb5.size
    have HB5 := Lib.hid (HB4.out.trans (hb5.mono (by omega)))
    clear xa0 xa1 xa2 xb0 xb1 xb2 xc0 xc1 xc2
    have Ra : Below Va.heap.size Va w5 := Ra.trans (hb5.mono (by omega))
    have Rb : Below Vb.heap.size Vb w5 := Rb.trans (hb5.mono (by omega))
    have Rc : Below Vc.heap.size Vc w5 := Rc.trans (hb5.mono (by omega))
    clear ho5 hb5
    obtain ⟨⟨xa0, xa1⟩, xa2⟩ := HVa.out w5 Ra
    obtain ⟨⟨xb0, xb1⟩, xb2⟩ := HVb.out w5 Rb
    obtain ⟨⟨xc0, xc1⟩, xc2⟩ := HVc.out w5 Rc
    go_upto_region 9 with fail
    obtain ⟨Vd, eW⟩ : ∃ u, u = w5.alloc (.cells #[.slice p5 R.cs.length c5, .slice q5 R.rs.length d5] 33) := ⟨_, rfl⟩
    rw [← eW]
    have hzVd : w5.heap.size < Vd.heap.size := by rw [eW]; simp
    have hbVd : Below w5.heap.size w5 Vd := by rw [eW]; exact (Below.refl _ _).alloc (Nat.le_refl _) _
    have HVd := Lib.hid (show ∀ E, Below Vd.heap.size Vd E → (E.cell? ⟨w5.heap.size, 0, none⟩ = some (.slice p5 R.cs.length c5) ∧ E.cell? ⟨w5.heap.size, 1, none⟩ = some (.slice q5 R.rs.length d5)) ∧ (R).At Vd.heap.size E (.agg #[.slice p5 R.cs.length c5, .slice q5 R.rs.length d5]) from fun E hE => ⟨⟨keepc hE hzVd (by rw [eW]; simp [go_sem]), keepc hE hzVd (by rw [eW]; simp [go_sem])⟩, HO5.out.to (hbVd.trans (hE.mono (by omega))) (by omega)⟩)
    have HBd := Lib.hid (HB5.out.trans (hbVd.mono (by omega)))
    clear eW
    clear xa0 xa1 xa2 xb0 xb1 xb2 xc0 xc1 xc2
    have Ra := Ra.trans (hbVd.mono (by omega))
    have Rb := Rb.trans (hbVd.mono (by omega))
    have Rc := Rc.trans (hbVd.mono (by omega))
    have Rd := Below.refl Vd.heap.size Vd
    obtain ⟨⟨xa0, xa1⟩, xa2⟩ := HVa.out Vd Ra
    obtain ⟨⟨xb0, xb1⟩, xb2⟩ := HVb.out Vd Rb
    obtain ⟨⟨xc0, xc1⟩, xc2⟩ := HVc.out Vd Rc
    obtain ⟨⟨xd0, xd1⟩, xd2⟩ := HVd.out Vd Rd
    go_wp2_with fail
    refine (CV.out _ Vd (xb2.to (Below.refl _ _) (by omega))).mono ?_
    rintro e w6 ⟨rfl, hb6⟩
    have s6 := hb6.size
    have HB6 := Lib.hid (HBd.out.trans (hb6.mono (by omega)))
    clear xa0 xa1 xa2 xb0 xb1 xb2 xc0 xc1 xc2 xd0 xd1 xd2
    have Ra : Below Va.heap.size Va w6 := Ra.trans (hb6.mono (by omega))
    have Rb : Below Vb.heap.size Vb w6 := Rb.trans (hb6.mono (by omega))
    have Rc : Below Vc.heap.size Vc w6 := Rc.trans (hb6.mono (by omega))
    have Rd : Below Vd.heap.size Vd w6 := Rd.trans (hb6.mono (by omega))
    clear hb6
    obtain ⟨⟨xa0, xa1⟩, xa2⟩ := HVa.out w6 Ra
    obtain ⟨⟨xb0, xb1⟩, xb2⟩ := HVb.out w6 Rb
    obtain ⟨⟨xc0, xc1⟩, xc2⟩ := HVc.out w6 Rc
    obtain ⟨⟨xd0, xd1⟩, xd2⟩ := HVd.out w6 Rd
    go_wp2_with fail
    refine (gpTable_any R _ _ w6.heap.size w6 (xd2.to (Below.refl _ _) (by omega)) (xb2.to (Below.refl _ _) (by omega)) (Nat.le_refl _)).mono ?_
    rintro e w7 ⟨rfl, hb7⟩
    have HB7 := Lib.hid (HB6.out.trans (hb7.mono (by omega)))
    clear hb7
    go_wp2_with fail
    go_ret
    exact ⟨rfl, HB7.out⟩
end Go.Proofs.Ytfdkmngkpihpbaa
