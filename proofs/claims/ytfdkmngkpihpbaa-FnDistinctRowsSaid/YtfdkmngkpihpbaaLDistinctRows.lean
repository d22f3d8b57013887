/- The walk of FnDistinctRows. -/
import Derived.Test.YtfdkmngkpihpbaaM1q1p1
import Derived.Test.YtfdkmngkpihpbaaM1q0p1
import Derived.Test.YtfdkmngkpihpbaaM0q0p2
import Derived.Test.YtfdkmngkpihpbaaM0q2p1
import Derived.Deep.RegionHeld3
import Derived.Deep.DeepCutAuto
namespace Go.Proofs.Ytfdkmngkpihpbaa
open Go.RowKit

theorem take_in {Z : List (List Int)} {y : List Int} {j : Nat} (h : j < Z.length) (hn : Z.Nodup) :
    (eqL intE Z[j] y = true → (if y ∈ Z.take j then (1 : Int) else 0) = 0 ∧ (if y ∈ Z.take (j + 1) then (1 : Int) else 0) = 1) ∧ (eqL intE Z[j] y = false → (if y ∈ Z.take (j + 1) then (1 : Int) else 0) = if y ∈ Z.take j then (1 : Int) else 0) := by
  have hm : y ∈ Z.take (j + 1) ↔ y ∈ Z.take j ∨ y = Z[j] := by rw [List.take_succ_eq_append_getElem h, List.mem_append, List.mem_singleton]
  rw [eqL_int]
  constructor
  · intro e
    have e := of_decide_eq_true e
    have h1 : y ∉ Z.take j := fun hy => by
      have h2 : (Z.take (j + 1)).Nodup := List.Pairwise.sublist (List.take_sublist _ _) hn
      rw [List.take_succ_eq_append_getElem h, List.nodup_append] at h2
      exact h2.2.2 y hy Z[j] (by simp) e.symm
    exact ⟨if_neg h1, if_pos (hm.2 (.inr e.symm))⟩
  · intro e
    have e := of_decide_eq_false e
    by_cases h1 : y ∈ Z.take j
    · rw [if_pos h1, if_pos (hm.2 (.inl h1))]
    · rw [if_neg h1, if_neg (fun hy => (hm.1 hy).elim h1 (fun q => e q.symm))]
set_option maxRecDepth 100000 in
set_option maxHeartbeats 16000000 in
theorem lawDistinctRows (zs : List Int) (v : Value) (w : World) (hv : Sl 1 byCells w.heap.size w v zs) (hz : ∀ z ∈ zs, 0 ≤ z ∧ z ≤ 255) :
    Calls Try.prog 5 #[v] w fun e w' => e = .returned (.bool true) ∧ Below w.heap.size w w' := by
  obtain ⟨p, cap, rfl⟩ := hv.form
  have hm := hv.max
  unfold maxLen at hm
  by_cases hb : (1048576 : Int) < zs.length
  · go_enter Try.func5, Try.ntmps5
    go_wp2_with fail
    go_ret
    exact ⟨rfl, Below.refl _ _⟩
  go_enter Try.func5, Try.ntmps5
  go_wp2_with fail
  refine (drawDistinctRows_any zs _ w.heap.size _ hv (Nat.le_refl _) hz).mono ?_
  rintro e w1 ⟨x, vx, Fx, rfl, hx, hok, hne, hb1⟩
  obtain ⟨p1, c1, q1, d1, rfl⟩ := hx.form
  have HX := Lib.hid hx.at
  have HOK := Lib.hid hok
  have HNE := Lib.hid hne
  have HN9 := Lib.hid (show x.need ≤ 1048576 by omega)
  have HB1 := Lib.hid hb1
  have s1 := hb1.size
  skip
  skip
  clear hx hok hne hb1 hv
  go_upto_region 4 with fail
  obtain ⟨Va, eW⟩ : ∃ u, u = w1.alloc (.cells #[.slice p1 x.cs.length c1, .slice q1 x.rs.length d1] 33) := ⟨_, rfl⟩
  rw [← eW]
  have hzVa : w1.heap.size < Va.heap.size := by rw [eW]; simp
  have hbVa : Below w1.heap.size w1 Va := by rw [eW]; exact (Below.refl _ _).alloc (Nat.le_refl _) _
  have HVa := Lib.hid (show ∀ E, Below Va.heap.size Va E → (E.cell? ⟨w1.heap.size, 0, none⟩ = some (.slice p1 x.cs.length c1) ∧ E.cell? ⟨w1.heap.size, 1, none⟩ = some (.slice q1 x.rs.length d1)) ∧ (x).At Va.heap.size E (.agg #[.slice p1 x.cs.length c1, .slice q1 x.rs.length d1]) from fun E hE => ⟨⟨keepc hE hzVa (by rw [eW]; simp [go_sem]), keepc hE hzVa (by rw [eW]; simp [go_sem])⟩, HX.out.to (hbVa.trans (hE.mono (by omega))) (by omega)⟩)
  have HBa := Lib.hid (HB1.out.trans (hbVa.mono (by omega)))
  clear eW
  have Ra := Below.refl Va.heap.size Va
  have HDA := Lib.hid (dst_all x.rs)
  have HYE := Lib.hid (dsR_yes (x := x))
  obtain ⟨R, eR⟩ : ∃ R, R = dsR x := ⟨_, rfl⟩
  obtain ⟨T, eT⟩ : ∃ T, T = x.ok := ⟨_, rfl⟩
  have HYES := Lib.hid (show T = true → R = ⟨x.cs, dst x.rs⟩ from by rw [eR, eT]; exact HYE.out)
  have HNX := Lib.hid (show R.Ok ∧ R.need ≤ 1048576 ∧ (T = true → dsR R = R ∧ R.ok = true) from by rw [eR, eT]; exact ds_twice HOK.out HNE.out)
  have CI := Lib.hid (fun (v : Value) (E : World) (h : x.At E.heap.size E v) => (eR ▸ eT ▸ distinctRows_any x v E.heap.size E h (Nat.le_refl _) HOK.out HN9.out : Calls Try.prog 19 #[v] E (TbPost R T E)))
  have CS := Lib.hid (fun (v : Value) (E : World) (h : x.At E.heap.size E v) => (eR ▸ eT ▸ specDistinctRows_any x v E.heap.size E h (Nat.le_refl _) HOK.out HN9.out : Calls Try.prog 20 #[v] E (TbPost R T E)))
  have CVI := Lib.hid (fun (v : Value) (E : World) (h : x.At E.heap.size E v) => (eT ▸ tableValid_any x v E.heap.size E h (Nat.le_refl _) HOK.out.1 : Calls Try.prog 22 #[v] E fun en w' => en = .returned (.bool T) ∧ Below E.heap.size E w'))
  have CVS := Lib.hid (fun (v : Value) (E : World) (h : x.At E.heap.size E v) => (eT ▸ specTableValid_any x v E.heap.size E h (Nat.le_refl _) HOK.out.1 (by have := HN9.out; unfold Tb.need at this; omega) : Calls Try.prog 23 #[v] E fun en w' => en = .returned (.bool T) ∧ Below E.heap.size E w'))
  have HTX := Lib.hid eT
  clear eR eT HYE
  obtain ⟨⟨xa0, xa1⟩, xa2⟩ := HVa.out Va Ra
  go_wp2_with fail
  refine (CI.out _ Va (xa2.to (Below.refl _ _) (Nat.le_refl _))).mono ?_
  rintro e w2 ⟨v2, F2, rfl, ho2, _, hb2⟩
  obtain ⟨p2, c2, q2, d2, rfl⟩ := ho2.form
  have HO2 := Lib.hid ho2.at
  have s2 := hb2.size
  have HB2 := Lib.hid (HBa.out.trans (hb2.mono (by omega)))
  clear xa0 xa1 xa2
  have Ra : Below Va.heap.size Va w2 := Ra.trans (hb2.mono (by omega))
  clear ho2 hb2
  obtain ⟨⟨xa0, xa1⟩, xa2⟩ := HVa.out w2 Ra
  go_upto_region 5 with fail
  obtain ⟨Vb, eW⟩ : ∃ u, u = w2.alloc (.cells #[.slice p2 R.cs.length c2, .slice q2 R.rs.length d2] 33) := ⟨_, rfl⟩
  rw [← eW]
  have hzVb : w2.heap.size < Vb.heap.size := by rw [eW]; simp
  have hbVb : Below w2.heap.size w2 Vb := by rw [eW]; exact (Below.refl _ _).alloc (Nat.le_refl _) _
  have HVb := Lib.hid (show ∀ E, Below Vb.heap.size Vb E → (E.cell? ⟨w2.heap.size, 0, none⟩ = some (.slice p2 R.cs.length c2) ∧ E.cell? ⟨w2.heap.size, 1, none⟩ = some (.slice q2 R.rs.length d2)) ∧ (R).At Vb.heap.size E (.agg #[.slice p2 R.cs.length c2, .slice q2 R.rs.length d2]) from fun E hE => ⟨⟨keepc hE hzVb (by rw [eW]; simp [go_sem]), keepc hE hzVb (by rw [eW]; simp [go_sem])⟩, HO2.out.to (hbVb.trans (hE.mono (by omega))) (by omega)⟩)
  have HBb := Lib.hid (HB2.out.trans (hbVb.mono (by omega)))
  clear eW
  clear xa0 xa1 xa2
  have Ra := Ra.trans (hbVb.mono (by omega))
  have Rb := Below.refl Vb.heap.size Vb
  obtain ⟨⟨xa0, xa1⟩, xa2⟩ := HVa.out Vb Ra
  obtain ⟨⟨xb0, xb1⟩, xb2⟩ := HVb.out Vb Rb
  go_wp2_with fail
  refine (CS.out _ Vb (xa2.to (Below.refl _ _) (by omega))).mono ?_
  rintro e w3 ⟨v3, F3, rfl, ho3, _, hb3⟩
  obtain ⟨p3, c3, q3, d3, rfl⟩ := ho3.form
  have HO3 := Lib.hid ho3.at
  have s3 := hb3.size
  have HB3 := Lib.hid (HBb.out.trans (hb3.mono (by omega)))
  clear xa0 xa1 xa2 xb0 xb1 xb2
  have Ra : Below Va.heap.size Va w3 := Ra.trans (hb3.mono (by omega))
  have Rb : Below Vb.heap.size Vb w3 := Rb.trans (hb3.mono (by omega))
  clear ho3 hb3
  obtain ⟨⟨xa0, xa1⟩, xa2⟩ := HVa.out w3 Ra
  obtain ⟨⟨xb0, xb1⟩, xb2⟩ := HVb.out w3 Rb
  go_upto_region 6 with fail
  obtain ⟨Vc, eW⟩ : ∃ u, u = w3.alloc (.cells #[.slice p3 R.cs.length c3, .slice q3 R.rs.length d3] 33) := ⟨_, rfl⟩
  rw [← eW]
  have hzVc : w3.heap.size < Vc.heap.size := by rw [eW]; simp
  have hbVc : Below w3.heap.size w3 Vc := by rw [eW]; exact (Below.refl _ _).alloc (Nat.le_refl _) _
  have HVc := Lib.hid (show ∀ E, Below Vc.heap.size Vc E → (E.cell? ⟨w3.heap.size, 0, none⟩ = some (.slice p3 R.cs.length c3) ∧ E.cell? ⟨w3.heap.size, 1, none⟩ = some (.slice q3 R.rs.length d3)) ∧ (R).At Vc.heap.size E (.agg #[.slice p3 R.cs.length c3, .slice q3 R.rs.length d3]) from fun E hE => ⟨⟨keepc hE hzVc (by rw [eW]; simp [go_sem]), keepc hE hzVc (by rw [eW]; simp [go_sem])⟩, HO3.out.to (hbVc.trans (hE.mono (by omega))) (by omega)⟩)
  have HBc := Lib.hid (HB3.out.trans (hbVc.mono (by omega)))
  clear eW
  clear xa0 xa1 xa2 xb0 xb1 xb2
  have Ra := Ra.trans (hbVc.mono (by omega))
  have Rb := Rb.trans (hbVc.mono (by omega))
  have Rc := Below.refl Vc.heap.size Vc
  obtain ⟨⟨xa0, xa1⟩, xa2⟩ := HVa.out Vc Ra
  obtain ⟨⟨xb0, xb1⟩, xb2⟩ := HVb.out Vc Rb
  obtain ⟨⟨xc0, xc1⟩, xc2⟩ := HVc.out Vc Rc
  go_wp2_with fail
  refine (gpTable_any R _ _ Vc.heap.size Vc (xb2.to (Below.refl _ _) (by omega)) (xc2.to (Below.refl _ _) (by omega)) (Nat.le_refl _)).mono ?_
  rintro e w4 ⟨rfl, hb4⟩
  have s4 := hb4.size
  have HB4 := Lib.hid (HBc.out.trans (hb4.mono (by omega)))
  clear xa0 xa1 xa2 xb0 xb1 xb2 xc0 xc1 xc2
  have Ra : Below Va.heap.size Va w4 := Ra.trans (hb4.mono (by omega))
  have Rb : Below Vb.heap.size Vb w4 := Rb.trans (hb4.mono (by omega))
  have Rc : Below Vc.heap.size Vc w4 := Rc.trans (hb4.mono (by omega))
  clear hb4
  obtain ⟨⟨xa0, xa1⟩, xa2⟩ := HVa.out w4 Ra
  obtain ⟨⟨xb0, xb1⟩, xb2⟩ := HVb.out w4 Rb
  obtain ⟨⟨xc0, xc1⟩, xc2⟩ := HVc.out w4 Rc
  go_wp2_with fail
  refine (CVI.out _ w4 (xa2.to (Below.refl _ _) (by omega))).mono ?_
  rintro e w5 ⟨rfl, hb5⟩
  have s5 := hb5.size
  have HB5 := Lib.hid (HB4.out.trans (hb5.mono (by omega)))
  clear xa0 xa1 xa2 xb0 xb1 xb2 xc0 xc1 xc2
  have Ra : Below Va.heap.size Va w5 := Ra.trans (hb5.mono (by omega))
  have Rb : Below Vb.heap.size Vb w5 := Rb.trans (hb5.mono (by omega))
  have Rc : Below Vc.heap.size Vc w5 := Rc.trans (hb5.mono (by omega))
  clear hb5
  obtain ⟨⟨xa0, xa1⟩, xa2⟩ := HVa.out w5 Ra
  obtain ⟨⟨xb0, xb1⟩, xb2⟩ := HVb.out w5 Rb
  obtain ⟨⟨xc0, xc1⟩, xc2⟩ := HVc.out w5 Rc
  go_wp2_with fail
  refine (CVS.out _ w5 (xa2.to (Below.refl _ _) (by omega))).mono ?_
  rintro e w6 ⟨rfl, hb6⟩
  have s6 := hb6.size
  have HB6 := Lib.hid (HB5.out.trans (hb6.mono (by omega)))
  clear xa0 xa1 xa2 xb0 xb1 xb2 xc0 xc1 xc2
  have Ra : Below Va.heap.size Va w6 := Ra.trans (hb6.mono (by omega))
  have Rb : Below Vb.heap.size Vb w6 := Rb.trans (hb6.mono (by omega))
  have Rc : Below Vc.heap.size Vc w6 := Rc.trans (hb6.mono (by omega))
  clear hb6
  obtain ⟨⟨xa0, xa1⟩, xa2⟩ := HVa.out w6 Ra
  obtain ⟨⟨xb0, xb1⟩, xb2⟩ := HVb.out w6 Rb
  obtain ⟨⟨xc0, xc1⟩, xc2⟩ := HVc.out w6 Rc
  cases hT : T with
  | false =>
    rw [hT] at CVI CVS
    go_wp2_with fail
    refine (gpTable_any R _ _ w6.heap.size w6 (xb2.to (Below.refl _ _) (by omega)) (xc2.to (Below.refl _ _) (by omega)) (Nat.le_refl _)).mono ?_
    rintro e w7 ⟨rfl, hb7⟩
    have s7 := hb7.size
    have HB7 := Lib.hid (HB6.out.trans (hb7.mono (by omega)))
    clear xa0 xa1 xa2 xb0 xb1 xb2 xc0 xc1 xc2
    have Ra : Below Va.heap.size Va w7 := Ra.trans (hb7.mono (by omega))
    have Rb : Below Vb.heap.size Vb w7 := Rb.trans (hb7.mono (by omega))
    have Rc : Below Vc.heap.size Vc w7 := Rc.trans (hb7.mono (by omega))
    clear hb7
    obtain ⟨⟨xa0, xa1⟩, xa2⟩ := HVa.out w7 Ra
    obtain ⟨⟨xb0, xb1⟩, xb2⟩ := HVb.out w7 Rb
    obtain ⟨⟨xc0, xc1⟩, xc2⟩ := HVc.out w7 Rc
    go_wp2_with fail
    refine (CVI.out _ w7 (xa2.to (Below.refl _ _) (by omega))).mono ?_
    rintro e w8 ⟨rfl, hb8⟩
    have s8 := hb8.size
    have HB8 := Lib.hid (HB7.out.trans (hb8.mono (by omega)))
    clear xa0 xa1 xa2 xb0 xb1 xb2 xc0 xc1 xc2
    have Ra : Below Va.heap.size Va w8 := Ra.trans (hb8.mono (by omega))
    have Rb : Below Vb.heap.size Vb w8 := Rb.trans (hb8.mono (by omega))
    have Rc : Below Vc.heap.size Vc w8 := Rc.trans (hb8.mono (by omega))
    clear hb8
    obtain ⟨⟨xa0, xa1⟩, xa2⟩ := HVa.out w8 Ra
    obtain ⟨⟨xb0, xb1⟩, xb2⟩ := HVb.out w8 Rb
    obtain ⟨⟨xc0, xc1⟩, xc2⟩ := HVc.out w8 Rc
    go_wp2_with fail
    refine (CVS.out _ w8 (xa2.to (Below.refl _ _) (by omega))).mono ?_
    rintro e w9 ⟨rfl, hb9⟩
    have s9 := hb9.size
    have HB9 := Lib.hid (HB8.out.trans (hb9.mono (by omega)))
    clear xa0 xa1 xa2 xb0 xb1 xb2 xc0 xc1 xc2
    have Ra : Below Va.heap.size Va w9 := Ra.trans (hb9.mono (by omega))
    have Rb : Below Vb.heap.size Vb w9 := Rb.trans (hb9.mono (by omega))
    have Rc : Below Vc.heap.size Vc w9 := Rc.trans (hb9.mono (by omega))
    clear hb9
    obtain ⟨⟨xa0, xa1⟩, xa2⟩ := HVa.out w9 Ra
    obtain ⟨⟨xb0, xb1⟩, xb2⟩ := HVb.out w9 Rb
    obtain ⟨⟨xc0, xc1⟩, xc2⟩ := HVc.out w9 Rc
    go_wp2_with fail
    go_ret
    exact ⟨rfl, HB9.out⟩
  | true =>
    have HRS := Lib.hid (show R.rs = dst x.rs by rw [HYES.out hT])
    have HND := Lib.hid (show R.rs.Nodup by rw [HRS.out]; exact HDA.out.2.2.2)
    have HIN := Lib.hid (show ∀ y, y ∈ x.rs → y ∈ R.rs by rw [HRS.out]; exact fun y hy => (HDA.out.2.2.1 y).2 hy)
    have HLE := Lib.hid (show R.rs.length ≤ x.rs.length by rw [HRS.out]; exact HDA.out.1)
    have hma := (at_rows xa2).max
    have hmb := (at_rows xb2).max
    unfold maxLen at hma hmb
    clear hT
    have HVF := Lib.hid (fun (E : World) (hE : Below w6.heap.size w6 E) => (⟨(HVa.out E (Ra.trans (hE.mono (by omega)))), (HVb.out E (Rb.trans (hE.mono (by omega))))⟩ : _ ∧ _))
    clear xa0 xa1 xa2 xb0 xb1 xb2 xc0 xc1 xc2
    obtain ⟨⟨⟨_, xa1⟩, _⟩, ⟨⟨_, xb1⟩, _⟩⟩ := HVF.out w6 (Below.refl _ _)
    go_wp2_with fail
    clear xa1 xb1
    go_loopw [8] (fun i wr => ∃ k : Nat, k ≤ x.rs.length ∧ i = .int .i64 k ∧ RowKit.Hid (Below w6.heap.size w6 wr)) (fun i _ => x.rs.length - (intOf i).toNat)
    case atStart => exact ⟨0, Nat.zero_le _, rfl, Lib.hid (Below.refl _ _)⟩
    case round =>
      rename World => wo
      obtain ⟨k, hk, rfl, HB⟩ := hrel
      have hso := HB.out.size
      obtain ⟨⟨⟨_, xa1⟩, xa2⟩, ⟨⟨_, xb1⟩, xb2⟩⟩ := HVF.out wo HB.out
      by_cases hlt : k < x.rs.length
      · obtain ⟨bb, off, q8, c8, rfl, hbb, d0, hin⟩ := kRow_get (at_rows xa2) hlt
        have hym := HIN.out _ (List.getElem_mem hlt)
        obtain ⟨y, ey⟩ : ∃ y, y = x.rs[k] := ⟨_, rfl⟩
        rw [← ey] at d0 hin hym
        have hmy := hin.max
        unfold maxLen at hmy
        have HYM := Lib.hid hym
        have HYI := Lib.hid hin
        have hbr : bb < wo.heap.size := by omega
        have DK := Lib.hid (fun (E : World) (hE : Below wo.heap.size wo E) => keepc hE hbr d0)
        clear ey hin hym xa2 xb2
        go_wp2_with fail
        go_loopw [9, 10] (fun c i wi => ∃ (j : Nat) (n : Int), j ≤ R.rs.length ∧ c = .int .i64 n ∧ i = .int .i64 j ∧ RowKit.Hid (n = if y ∈ R.rs.take j then 1 else 0) ∧ RowKit.Hid (Below wo.heap.size wo wi)) (fun _ i _ => R.rs.length - (intOf i).toNat)
        case atStart => exact ⟨0, 0, Nat.zero_le _, rfl, rfl, Lib.hid (by simp), Lib.hid (Below.refl _ _)⟩
        case round =>
          obtain ⟨j, n, hj, rfl, rfl, HN, HBI⟩ := hrel
          have hsi := HBI.out.size
          have HBW := Lib.hid (HB.out.trans (HBI.out.mono (by omega)))
          clear xa1 xb1 d0
          have d0 := DK.out wr HBI.out
          obtain ⟨⟨⟨_, xa1⟩, xa2⟩, ⟨⟨_, xb1⟩, xb2⟩⟩ := HVF.out wr HBW.out
          by_cases hjz : j < R.rs.length
          · obtain ⟨zb, zo, zq, zc, rfl, hzb, e0, hzin⟩ := kRow_get (at_rows xb2) hjz
            have hti := take_in (y := y) hjz HND.out
            obtain ⟨z, ez⟩ : ∃ z, z = R.rs[j] := ⟨_, rfl⟩
            rw [← ez] at e0 hzin hti
            have HTI := Lib.hid hti
            have HZIN := Lib.hid hzin
            have hzl : zb < wr.heap.size := by omega
            have hjj : (j : Int) < (R.rs.length : Int) := by omega
            have KK := Lib.hid (fun (E : World) (hE : Below wr.heap.size wr E) => (⟨⟨keepc hE (by omega) xa1, keepc hE (by omega) xb1⟩, keepc hE (by omega) d0, keepc hE hzl e0⟩ : (E.cell? ⟨w1.heap.size, 1, none⟩ = some (.slice (some ⟨bb, off, none⟩) x.rs.length d1) ∧ E.cell? ⟨w2.heap.size, 1, none⟩ = some (.slice (some ⟨zb, zo, none⟩) R.rs.length d2)) ∧ E.cell? ⟨bb, off + k, none⟩ = some (.slice q8 y.length c8) ∧ E.cell? ⟨zb, zo + j, none⟩ = some (.slice zq z.length zc)))
            have CE := Lib.hid (fun (E : World) (hE : Below wr.heap.size wr E) => ((gpInts2_any z y (.slice zq z.length zc) (.slice q8 y.length c8) wr.heap.size E ((HZIN.out.below (hE.mono (by omega))).mono (by omega)) ((HYI.out.below ((HBI.out.trans (hE.mono (by omega))).mono (by omega))).mono (by omega)) (by have := hE.size; omega)).mono fun e w' h => ⟨h.1, hE.trans (h.2.mono hE.size)⟩ : Calls Try.prog 24 #[.slice zq z.length zc, .slice q8 y.length c8] E fun e w' => e = .returned (.bool (eqL intE z y)) ∧ Below wr.heap.size wr w'))
            clear ez hzin hti xa2 xb2
            have r9 := Below.refl wr.heap.size wr
            cases hq : eqL intE z y with
            | true =>
              have HG := Lib.hid (HTI.out.1 hq)
              obtain rfl : n = 0 := by rw [HN.out]; exact HG.out.1
              rw [hq] at CE
              clear hq HN HTI
              go_upto_region 15 with fail
              refine wp_region_held_drew (S := fun w' => (w'.cell? ⟨w1.heap.size, 1, none⟩ = some (.slice (some ⟨bb, off, none⟩) x.rs.length d1) ∧ w'.cell? ⟨w2.heap.size, 1, none⟩ = some (.slice (some ⟨zb, zo, none⟩) R.rs.length d2)) ∧ w'.cell? ⟨bb, off + k, none⟩ = some (.slice q8 y.length c8) ∧ w'.cell? ⟨zb, zo + j, none⟩ = some (.slice zq z.length zc)) (by kernel_rfl) ?_ (fun hHeld => ?_)
              · exact KK.out _ (show Below wr.heap.size wr _ by ((repeat (first | with_reducible assumption | with_reducible exact Below.refl _ _ | refine Below.setCell ?_ (by (first | omega | (simp; omega) | (simp; done) | fail "sml")) _ | refine Below.drew ?_ | refine Below.alloc ?_ (by (first | omega | (simp; omega) | (simp; done) | fail "sml")) _)); first | done | fail "chs"))
              (refine takeL (i := 0) (v := ?_) rfl (by kernel_rfl) (by kernel_rfl) (by kernel_rfl) (fun _ _ _ h => h) (Or.inl ⟨by kernel_rfl, ?_⟩) (by assumption) ?_; rotate_left; (focus (intro w hSw; (try dsimp only at hSw); go_simp; first | done | with_reducible rfl | fail "take")); (try simp only [Act.put, List.setIfInBounds_toArray, List.set_cons_zero, List.set_cons_succ]))
              (refine takeL (i := 1) (v := ?_) rfl (by kernel_rfl) (by kernel_rfl) (by kernel_rfl) (fun _ _ _ h => h) (Or.inl ⟨by kernel_rfl, ?_⟩) (by assumption) ?_; rotate_left; (focus (intro w hSw; (try dsimp only at hSw); go_simp; first | done | with_reducible rfl | fail "take")); (try simp only [Act.put, List.setIfInBounds_toArray, List.set_cons_zero, List.set_cons_succ]))
              (refine takeL (i := 2) (v := ?_) rfl (by kernel_rfl) (by kernel_rfl) (by kernel_rfl) (fun _ _ _ h => h) (Or.inl ⟨by kernel_rfl, ?_⟩) (by assumption) ?_; rotate_left; (focus (intro w hSw; (try dsimp only at hSw); go_simp; first | done | with_reducible rfl | fail "take")); (try simp only [Act.put, List.setIfInBounds_toArray, List.set_cons_zero, List.set_cons_succ]))
              (refine takeL (i := 3) (v := ?_) rfl (by kernel_rfl) (by kernel_rfl) (by kernel_rfl) (fun _ _ _ h => h) (Or.inl ⟨by kernel_rfl, ?_⟩) (by assumption) ?_; rotate_left; (focus (intro w hSw; (try dsimp only at hSw); go_simp; first | done | with_reducible rfl | fail "take")); (try simp only [Act.put, List.setIfInBounds_toArray, List.set_cons_zero, List.set_cons_succ]))
              (refine takeL (i := 4) (v := ?_) rfl (by kernel_rfl) (by kernel_rfl) (by kernel_rfl) (fun _ _ _ h => h) (Or.inl ⟨by kernel_rfl, ?_⟩) (by assumption) ?_; rotate_left; (focus (intro w hSw; (try dsimp only at hSw); go_simp; first | done | with_reducible rfl | fail "take")); (try simp only [Act.put, List.setIfInBounds_toArray, List.set_cons_zero, List.set_cons_succ]))
              (refine takeL (i := 5) (v := ?_) rfl (by kernel_rfl) (by kernel_rfl) (by kernel_rfl) (fun _ _ _ h => h) (Or.inl ⟨by kernel_rfl, ?_⟩) (by assumption) ?_; rotate_left; (focus (intro w hSw; (try dsimp only at hSw); go_simp; first | done | with_reducible rfl | fail "take")); (try simp only [Act.put, List.setIfInBounds_toArray, List.set_cons_zero, List.set_cons_succ]))
              (refine takeL (i := 6) (v := ?_) rfl (by kernel_rfl) (by kernel_rfl) (by kernel_rfl) (fun _ _ _ h => h) (Or.inl ⟨by kernel_rfl, ?_⟩) (by assumption) ?_; rotate_left; (focus (intro w hSw; (try dsimp only at hSw); go_simp; first | done | with_reducible rfl | fail "take")); (try simp only [Act.put, List.setIfInBounds_toArray, List.set_cons_zero, List.set_cons_succ]))
              (refine takeL (i := 7) (v := ?_) rfl (by kernel_rfl) (by kernel_rfl) (by kernel_rfl) (fun _ _ _ h => h) (Or.inl ⟨by kernel_rfl, ?_⟩) (by assumption) ?_; rotate_left; (focus (intro w hSw; (try dsimp only at hSw); go_simp; first | done | with_reducible rfl | fail "take")); (try simp only [Act.put, List.setIfInBounds_toArray, List.set_cons_zero, List.set_cons_succ]))
              (refine takeL (i := 8) (v := ?_) rfl (by kernel_rfl) (by kernel_rfl) (by kernel_rfl) (fun _ _ _ h => h) (Or.inl ⟨by kernel_rfl, ?_⟩) (by assumption) ?_; rotate_left; (focus (intro w hSw; (try dsimp only at hSw); go_simp; first | done | with_reducible rfl | fail "take")); (try simp only [Act.put, List.setIfInBounds_toArray, List.set_cons_zero, List.set_cons_succ]))
              (refine takeL (i := 9) (v := ?_) rfl (by kernel_rfl) (by kernel_rfl) (by kernel_rfl) (fun _ _ _ h => h) (Or.inl ⟨by kernel_rfl, ?_⟩) (by assumption) ?_; rotate_left; (focus (intro w hSw; (try dsimp only at hSw); go_simp; first | done | with_reducible rfl | fail "take")); (try simp only [Act.put, List.setIfInBounds_toArray, List.set_cons_zero, List.set_cons_succ]))
              (refine callL (i := 10) rfl (by kernel_rfl) (by kernel_rfl) (fun K hK => ?_); go_simp)
              go_at_call 24
              with_reducible refine (CE.out _ (by ((repeat (first | with_reducible assumption | with_reducible exact Below.refl _ _ | refine Below.setCell ?_ (by (first | omega | (simp; omega) | (simp; done) | fail "sml")) _ | refine Below.drew ?_ | refine Below.alloc ?_ (by (first | omega | (simp; omega) | (simp; done) | fail "sml")) _)); first | done | fail "chs"))).mono ?_
              rintro en wa ⟨rfl, hka⟩
              go_wp2_with fail
              refine hK.out _ _ ?_ (fun hHeld => ?_)
              · exact KK.out _ (show Below wr.heap.size wr _ by ((repeat (first | with_reducible assumption | with_reducible exact Below.refl _ _ | refine Below.setCell ?_ (by (first | omega | (simp; omega) | (simp; done) | fail "sml")) _ | refine Below.drew ?_ | refine Below.alloc ?_ (by (first | omega | (simp; omega) | (simp; done) | fail "sml")) _)); first | done | fail "chs"))
              clear hK K
              (try simp only [Act.put, List.setIfInBounds_toArray, List.set_cons_zero, List.set_cons_succ])
              refine wpAnyH_done (by kernel_rfl) ?_ _
              go_wp2_with fail
              go_roundw
              case rel => exact ⟨j + 1, 1, by omega, by go_num, by go_num, Lib.hid (HG.out.2.symm), Lib.hid (HBI.out.trans ((show Below wr.heap.size wr _ by ((repeat (first | with_reducible assumption | with_reducible exact Below.refl _ _ | refine Below.setCell ?_ (by (first | omega | (simp; omega) | (simp; done) | fail "sml")) _ | refine Below.drew ?_ | refine Below.alloc ?_ (by (first | omega | (simp; omega) | (simp; done) | fail "sml")) _)); first | done | fail "chs")).mono hsi))⟩
              case measure => simp [intOf]; omega
            | false =>
              have HG := Lib.hid (HTI.out.2 hq)
              rw [hq] at CE
              clear hq HTI
              go_upto_region 15 with fail
              refine wp_region_held_drew (S := fun w' => (w'.cell? ⟨w1.heap.size, 1, none⟩ = some (.slice (some ⟨bb, off, none⟩) x.rs.length d1) ∧ w'.cell? ⟨w2.heap.size, 1, none⟩ = some (.slice (some ⟨zb, zo, none⟩) R.rs.length d2)) ∧ w'.cell? ⟨bb, off + k, none⟩ = some (.slice q8 y.length c8) ∧ w'.cell? ⟨zb, zo + j, none⟩ = some (.slice zq z.length zc)) (by kernel_rfl) ?_ (fun hHeld => ?_)
              · exact KK.out _ (show Below wr.heap.size wr _ by ((repeat (first | with_reducible assumption | with_reducible exact Below.refl _ _ | refine Below.setCell ?_ (by (first | omega | (simp; omega) | (simp; done) | fail "sml")) _ | refine Below.drew ?_ | refine Below.alloc ?_ (by (first | omega | (simp; omega) | (simp; done) | fail "sml")) _)); first | done | fail "chs"))
              (refine takeL (i := 0) (v := ?_) rfl (by kernel_rfl) (by kernel_rfl) (by kernel_rfl) (fun _ _ _ h => h) (Or.inl ⟨by kernel_rfl, ?_⟩) (by assumption) ?_; rotate_left; (focus (intro w hSw; (try dsimp only at hSw); go_simp; first | done | with_reducible rfl | fail "take")); (try simp only [Act.put, List.setIfInBounds_toArray, List.set_cons_zero, List.set_cons_succ]))
              (refine takeL (i := 1) (v := ?_) rfl (by kernel_rfl) (by kernel_rfl) (by kernel_rfl) (fun _ _ _ h => h) (Or.inl ⟨by kernel_rfl, ?_⟩) (by assumption) ?_; rotate_left; (focus (intro w hSw; (try dsimp only at hSw); go_simp; first | done | with_reducible rfl | fail "take")); (try simp only [Act.put, List.setIfInBounds_toArray, List.set_cons_zero, List.set_cons_succ]))
              (refine takeL (i := 2) (v := ?_) rfl (by kernel_rfl) (by kernel_rfl) (by kernel_rfl) (fun _ _ _ h => h) (Or.inl ⟨by kernel_rfl, ?_⟩) (by assumption) ?_; rotate_left; (focus (intro w hSw; (try dsimp only at hSw); go_simp; first | done | with_reducible rfl | fail "take")); (try simp only [Act.put, List.setIfInBounds_toArray, List.set_cons_zero, List.set_cons_succ]))
              (refine takeL (i := 3) (v := ?_) rfl (by kernel_rfl) (by kernel_rfl) (by kernel_rfl) (fun _ _ _ h => h) (Or.inl ⟨by kernel_rfl, ?_⟩) (by assumption) ?_; rotate_left; (focus (intro w hSw; (try dsimp only at hSw); go_simp; first | done | with_reducible rfl | fail "take")); (try simp only [Act.put, List.setIfInBounds_toArray, List.set_cons_zero, List.set_cons_succ]))
              (refine takeL (i := 4) (v := ?_) rfl (by kernel_rfl) (by kernel_rfl) (by kernel_rfl) (fun _ _ _ h => h) (Or.inl ⟨by kernel_rfl, ?_⟩) (by assumption) ?_; rotate_left; (focus (intro w hSw; (try dsimp only at hSw); go_simp; first | done | with_reducible rfl | fail "take")); (try simp only [Act.put, List.setIfInBounds_toArray, List.set_cons_zero, List.set_cons_succ]))
              (refine takeL (i := 5) (v := ?_) rfl (by kernel_rfl) (by kernel_rfl) (by kernel_rfl) (fun _ _ _ h => h) (Or.inl ⟨by kernel_rfl, ?_⟩) (by assumption) ?_; rotate_left; (focus (intro w hSw; (try dsimp only at hSw); go_simp; first | done | with_reducible rfl | fail "take")); (try simp only [Act.put, List.setIfInBounds_toArray, List.set_cons_zero, List.set_cons_succ]))
              (refine takeL (i := 6) (v := ?_) rfl (by kernel_rfl) (by kernel_rfl) (by kernel_rfl) (fun _ _ _ h => h) (Or.inl ⟨by kernel_rfl, ?_⟩) (by assumption) ?_; rotate_left; (focus (intro w hSw; (try dsimp only at hSw); go_simp; first | done | with_reducible rfl | fail "take")); (try simp only [Act.put, List.setIfInBounds_toArray, List.set_cons_zero, List.set_cons_succ]))
              (refine takeL (i := 7) (v := ?_) rfl (by kernel_rfl) (by kernel_rfl) (by kernel_rfl) (fun _ _ _ h => h) (Or.inl ⟨by kernel_rfl, ?_⟩) (by assumption) ?_; rotate_left; (focus (intro w hSw; (try dsimp only at hSw); go_simp; first | done | with_reducible rfl | fail "take")); (try simp only [Act.put, List.setIfInBounds_toArray, List.set_cons_zero, List.set_cons_succ]))
              (refine takeL (i := 8) (v := ?_) rfl (by kernel_rfl) (by kernel_rfl) (by kernel_rfl) (fun _ _ _ h => h) (Or.inl ⟨by kernel_rfl, ?_⟩) (by assumption) ?_; rotate_left; (focus (intro w hSw; (try dsimp only at hSw); go_simp; first | done | with_reducible rfl | fail "take")); (try simp only [Act.put, List.setIfInBounds_toArray, List.set_cons_zero, List.set_cons_succ]))
              (refine takeL (i := 9) (v := ?_) rfl (by kernel_rfl) (by kernel_rfl) (by kernel_rfl) (fun _ _ _ h => h) (Or.inl ⟨by kernel_rfl, ?_⟩) (by assumption) ?_; rotate_left; (focus (intro w hSw; (try dsimp only at hSw); go_simp; first | done | with_reducible rfl | fail "take")); (try simp only [Act.put, List.setIfInBounds_toArray, List.set_cons_zero, List.set_cons_succ]))
              (refine callL (i := 10) rfl (by kernel_rfl) (by kernel_rfl) (fun K hK => ?_); go_simp)
              go_at_call 24
              with_reducible refine (CE.out _ (by ((repeat (first | with_reducible assumption | with_reducible exact Below.refl _ _ | refine Below.setCell ?_ (by (first | omega | (simp; omega) | (simp; done) | fail "sml")) _ | refine Below.drew ?_ | refine Below.alloc ?_ (by (first | omega | (simp; omega) | (simp; done) | fail "sml")) _)); first | done | fail "chs"))).mono ?_
              rintro en wa ⟨rfl, hka⟩
              go_wp2_with fail
              refine hK.out _ _ ?_ (fun hHeld => ?_)
              · exact KK.out _ (show Below wr.heap.size wr _ by ((repeat (first | with_reducible assumption | with_reducible exact Below.refl _ _ | refine Below.setCell ?_ (by (first | omega | (simp; omega) | (simp; done) | fail "sml")) _ | refine Below.drew ?_ | refine Below.alloc ?_ (by (first | omega | (simp; omega) | (simp; done) | fail "sml")) _)); first | done | fail "chs"))
              clear hK K
              (try simp only [Act.put, List.setIfInBounds_toArray, List.set_cons_zero, List.set_cons_succ])
              refine wpAnyH_done (by kernel_rfl) ?_ _
              go_wp2_with fail
              go_roundw
              case rel => exact ⟨j + 1, n, by omega, rfl, by go_num, Lib.hid (HN.out.trans HG.out.symm), Lib.hid (HBI.out.trans ((show Below wr.heap.size wr _ by ((repeat (first | with_reducible assumption | with_reducible exact Below.refl _ _ | refine Below.setCell ?_ (by (first | omega | (simp; omega) | (simp; done) | fail "sml")) _ | refine Below.drew ?_ | refine Below.alloc ?_ (by (first | omega | (simp; omega) | (simp; done) | fail "sml")) _)); first | done | fail "chs")).mono hsi))⟩
              case measure => simp [intOf]; omega
          · obtain rfl : j = R.rs.length := by omega
            obtain rfl : n = 1 := by rw [HN.out, List.take_length, if_pos HYM.out]
            clear HN xa2 xb2
            go_wp2_with fail
            go_roundw
            case rel => exact ⟨k + 1, by omega, by go_num, HBW⟩
            case measure => simp [intOf]; omega
      · obtain rfl : k = x.rs.length := by omega
        have hle := HLE.out
        have l1 : decide ((R.rs.length : Int) ≤ (x.rs.length : Int)) = true := decide_eq_true (by omega)
        have l2 : ((R.rs.length : Int) ≤ (x.rs.length : Int)) = True := eq_true (by omega)
        clear xa2 xb2
        have HBF := Lib.hid (HB6.out.trans (HB.out.mono (by omega)))
        go_wp2_with fail
        go_ret
        exact ⟨rfl, HBF.out⟩
end Go.Proofs.Ytfdkmngkpihpbaa
