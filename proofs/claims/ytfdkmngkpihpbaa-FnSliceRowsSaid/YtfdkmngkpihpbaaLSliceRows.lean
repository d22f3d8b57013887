/- The walk of FnSliceRows. -/
import Derived.Test.YtfdkmngkpihpbaaTbR
import Derived.Test.YtfdkmngkpihpbaaTbSi
import Derived.Test.YtfdkmngkpihpbaaTbSs
import Derived.Test.YtfdkmngkpihpbaaReg
import Derived.Deep.RegionHeld3
import Derived.Deep.DeepCutAuto
namespace Go.Proofs.Ytfdkmngkpihpbaa
open Go.RowKit

theorem row_of {x : Tb} {B : Nat} {w : World} {p q : Option Addr} {n c l d : Nat} (h : x.At B w (.agg #[.slice p n c, .slice q l d])) : kRow.Rd B w (.slice q l d) x.rs := by
  obtain ⟨a, b, e, _, h2⟩ := h
  cases e
  exact h2
set_option maxRecDepth 100000 in
set_option maxHeartbeats 16000000 in
theorem lawSliceRows (zs : List Int) (v : Value) (w : World) (hv : Sl 1 byCells w.heap.size w v zs) (hz : ∀ z ∈ zs, 0 ≤ z ∧ z ≤ 255) :
    Calls Try.prog 6 #[v] w fun e w' => e = .returned (.bool true) ∧ Below w.heap.size w w' := by
  obtain ⟨p, cap, rfl⟩ := hv.form
  have hm := hv.max
  unfold maxLen at hm
  by_cases hb : (1048576 : Int) < zs.length
  · go_enter Try.func6, Try.ntmps6
    go_wp2_with fail
    go_ret
    exact ⟨rfl, Below.refl _ _⟩
  go_enter Try.func6, Try.ntmps6
  go_wp2_with fail
  refine (drawSliceRows_any zs _ w.heap.size _ hv (Nat.le_refl _) hz).mono ?_
  rintro e w1 ⟨x, vx, Fx, s, c, rfl, hx, hok, hne, hs, hc, hb1⟩
  obtain ⟨p1, c1, q1, d1, rfl⟩ := hx.form
  have HX := Lib.hid hx.at
  have HOK := Lib.hid hok.1
  have HNE := Lib.hid hne
  have HN9 := Lib.hid (show x.need ≤ 1048576 by omega)
  have HB1 := Lib.hid hb1
  have s1 := hb1.size
  obtain ⟨hs0, hs1⟩ := hs
  obtain ⟨hc0, hc1⟩ := hc
  clear hx hok hne hb1 hv
  go_upto_region 4 with fail
  obtain ⟨Va, eW⟩ : ∃ u, u = w1.alloc (.cells #[.slice p1 x.cs.length c1, .slice q1 x.rs.length d1] 33) := ⟨_, rfl⟩
  rw [← eW]
  have hzVa : w1.heap.size < Va.heap.size := by rw [eW]; simp
  have hbVa : Below w1.heap.size w1 Va := by rw [eW]; exact (Below.refl _ _).alloc (Nat.le_refl _) _
  have HVa := Lib.hid (show ∀ E, Below Va.heap.size Va E → (E.cell? ⟨w1.heap.size, 0, none⟩ = some (.slice p1 x.cs.length c1) ∧ E.cell? ⟨w1.heap.size, 1, none⟩ = some (.slice q1 x.rs.length d1)) ∧ (x).At Va.heap.size E (.agg #[.slice p1 x.cs.length c1, .slice q1 x.rs.length d1]) from fun E hE => ⟨⟨keepc hE hzVa (by rw [eW]; simp [go_sem]), keepc hE hzVa (by rw [eW]; simp [go_sem])⟩, HX.out.to (hbVa.trans (hE.mono (by omega))) (by omega)⟩)
  have HBa := Lib.hid (HB1.out.trans (hbVa.mono (by omega)))
  clear eW
  have Ra := Below.refl Va.heap.size Va
  obtain ⟨R, eR⟩ : ∃ R, R = cutR x s c := ⟨_, rfl⟩
  obtain ⟨T, eT⟩ : ∃ T, T = cutB x s c := ⟨_, rfl⟩
  have HNX := Lib.hid (show T = true → cutB x 0 s = true ∧ cutB x s 400 = true ∧ (cutR x 0 s).rs ++ (cutR x s 400).rs = x.rs ∧ (R.rs.length : Int) ≤ c ∧ R.rs.length ≤ (cutR x s 400).rs.length ∧ (cutR x s 400).rs.take R.rs.length = R.rs from by rw [eR, eT]; exact cut_parts)
  have CI := Lib.hid (fun (v : Value) (E : World) (h : x.At E.heap.size E v) => (eR ▸ eT ▸ sliceRows_any x s c v E.heap.size E h (Nat.le_refl _) HOK.out HN9.out : Calls Try.prog 26 #[v, .int .i64 s, .int .i64 c] E (TbPost R T E)))
  have CS := Lib.hid (fun (v : Value) (E : World) (h : x.At E.heap.size E v) => (eR ▸ eT ▸ specSliceRows_any x s c v E.heap.size E h (Nat.le_refl _) HOK.out HN9.out : Calls Try.prog 27 #[v, .int .i64 s, .int .i64 c] E (TbPost R T E)))
  clear eR eT
  obtain ⟨⟨xa0, xa1⟩, xa2⟩ := HVa.out Va Ra
  go_wp2_with fail
  refine (CI.out _ Va (xa2.to (Below.refl _ _) (Nat.le_refl _))).mono ?_
  rintro e w2 ⟨v2, F2, rfl, ho2, _, hb2⟩
  obtain ⟨p2, c2, q2, d2, rfl⟩ := ho2.form
  have HO2 := Lib.hid ho2.at
  have s2 := hb2.size
  have HB2 := Lib.hid (HBa.out.trans (hb2.mono (by omega)))
  clear xa0 xa1 xa2
  have Ra : Below Va.heap.size Va w2 := Ra.trans (hb2.mono (by omega))
  clear ho2 hb2
  obtain ⟨⟨xa0, xa1⟩, xa2⟩ := HVa.out w2 Ra
  go_upto_region 5 with fail
  obtain ⟨Vb, eW⟩ : ∃ u, u = w2.alloc (.cells #[.slice p2 R.cs.length c2, .slice q2 R.rs.length d2] 33) := ⟨_, rfl⟩
  rw [← eW]
  have hzVb : w2.heap.size < Vb.heap.size := by rw [eW]; simp
  have hbVb : Below w2.heap.size w2 Vb := by rw [eW]; exact (Below.refl _ _).alloc (Nat.le_refl _) _
  have HVb := Lib.hid (show ∀ E, Below Vb.heap.size Vb E → (E.cell? ⟨w2.heap.size, 0, none⟩ = some (.slice p2 R.cs.length c2) ∧ E.cell? ⟨w2.heap.size, 1, none⟩ = some (.slice q2 R.rs.length d2)) ∧ (R).At Vb.heap.size E (.agg #[.slice p2 R.cs.length c2, .slice q2 R.rs.length d2]) from fun E hE => ⟨⟨keepc hE hzVb (by rw [eW]; simp [go_sem]), keepc hE hzVb (by rw [eW]; simp [go_sem])⟩, HO2.out.to (hbVb.trans (hE.mono (by omega))) (by omega)⟩)
  have HBb := Lib.hid (HB2.out.trans (hbVb.mono (by omega)))
  clear eW
  clear xa0 xa1 xa2
  have Ra := Ra.trans (hbVb.mono (by omega))
  have Rb := Below.refl Vb.heap.size Vb
  obtain ⟨⟨xa0, xa1⟩, xa2⟩ := HVa.out Vb Ra
  obtain ⟨⟨xb0, xb1⟩, xb2⟩ := HVb.out Vb Rb
  go_wp2_with fail
  refine (CS.out _ Vb (xa2.to (Below.refl _ _) (by omega))).mono ?_
  rintro e w3 ⟨v3, F3, rfl, ho3, _, hb3⟩
  obtain ⟨p3, c3, q3, d3, rfl⟩ := ho3.form
  have HO3 := Lib.hid ho3.at
  have s3 := hb3.size
  have HB3 := Lib.hid (HBb.out.trans (hb3.mono (by omega)))
  clear xa0 xa1 xa2 xb0 xb1 xb2
  have Ra : Below Va.heap.size Va w3 := Ra.trans (hb3.mono (by omega))
  have Rb : Below Vb.heap.size Vb w3 := Rb.trans (hb3.mono (by omega))
  clear ho3 hb3
  obtain ⟨⟨xa0, xa1⟩, xa2⟩ := HVa.out w3 Ra
  obtain ⟨⟨xb0, xb1⟩, xb2⟩ := HVb.out w3 Rb
  go_upto_region 6 with fail
  obtain ⟨Vc, eW⟩ : ∃ u, u = w3.alloc (.cells #[.slice p3 R.cs.length c3, .slice q3 R.rs.length d3] 33) := ⟨_, rfl⟩
  rw [← eW]
  have hzVc : w3.heap.size < Vc.heap.size := by rw [eW]; simp
  have hbVc : Below w3.heap.size w3 Vc := by rw [eW]; exact (Below.refl _ _).alloc (Nat.le_refl _) _
  have HVc := Lib.hid (show ∀ E, Below Vc.heap.size Vc E → (E.cell? ⟨w3.heap.size, 0, none⟩ = some (.slice p3 R.cs.length c3) ∧ E.cell? ⟨w3.heap.size, 1, none⟩ = some (.slice q3 R.rs.length d3)) ∧ (R).At Vc.heap.size E (.agg #[.slice p3 R.cs.length c3, .slice q3 R.rs.length d3]) from fun E hE => ⟨⟨keepc hE hzVc (by rw [eW]; simp [go_sem]), keepc hE hzVc (by rw [eW]; simp [go_sem])⟩, HO3.out.to (hbVc.trans (hE.mono (by omega))) (by omega)⟩)
  have HBc := Lib.hid (HB3.out.trans (hbVc.mono (by omega)))
  clear eW
  clear xa0 xa1 xa2 xb0 xb1 xb2
  have Ra := Ra.trans (hbVc.mono (by omega))
  have Rb := Rb.trans (hbVc.mono (by omega))
  have Rc := Below.refl Vc.heap.size Vc
  obtain ⟨⟨xa0, xa1⟩, xa2⟩ := HVa.out Vc Ra
  obtain ⟨⟨xb0, xb1⟩, xb2⟩ := HVb.out Vc Rb
  obtain ⟨⟨xc0, xc1⟩, xc2⟩ := HVc.out Vc Rc
  go_wp2_with fail
  refine (gpTable_any R _ _ Vc.heap.size Vc (xb2.to (Below.refl _ _) (by omega)) xc2 (Nat.le_refl _)).mono ?_
  rintro e w4 ⟨rfl, hb4⟩
  have s4 := hb4.size
  have HB4 := Lib.hid (HBc.out.trans (hb4.mono (by omega)))
  clear xa0 xa1 xa2 xb0 xb1 xb2 xc0 xc1 xc2
  have Ra : Below Va.heap.size Va w4 := Ra.trans (hb4.mono (by omega))
  have Rb : Below Vb.heap.size Vb w4 := Rb.trans (hb4.mono (by omega))
  have Rc : Below Vc.heap.size Vc w4 := Rc.trans (hb4.mono (by omega))
  clear hb4
  obtain ⟨⟨xa0, xa1⟩, xa2⟩ := HVa.out w4 Ra
  obtain ⟨⟨xb0, xb1⟩, xb2⟩ := HVb.out w4 Rb
  obtain ⟨⟨xc0, xc1⟩, xc2⟩ := HVc.out w4 Rc
  cases hT : T with
  | false =>
    go_wp2_with fail
    refine (gpTable_any R _ _ w4.heap.size w4 (xb2.to (Below.refl _ _) (by omega)) (xc2.to (Below.refl _ _) (by omega)) (Nat.le_refl _)).mono ?_
    rintro e w5 ⟨rfl, hb5⟩
    have HB5 := Lib.hid (HB4.out.trans (hb5.mono (by omega)))
    clear hb5
    go_wp2_with fail
    go_ret
    exact ⟨rfl, HB5.out⟩
  | true =>
    have HNN := Lib.hid (HNX.out hT)
    obtain ⟨QA, eQA⟩ : ∃ Q, Q = cutR x 0 s := ⟨_, rfl⟩
    obtain ⟨QB, eQB⟩ : ∃ Q, Q = cutR x s 400 := ⟨_, rfl⟩
    have HSUM := Lib.hid (show QA.rs ++ QB.rs = x.rs by rw [eQA, eQB]; exact HNN.out.2.2.1)
    have HTAKE := Lib.hid (show QB.rs.take R.rs.length = R.rs by rw [eQB]; exact HNN.out.2.2.2.2.2)
    have hle1 := HNN.out.2.2.2.1
    have hle2 : R.rs.length ≤ QB.rs.length := by rw [eQB]; exact HNN.out.2.2.2.2.1
    have HLEN := Lib.hid (show QA.rs.length + QB.rs.length ≤ 1048576 by have h1 := congrArg List.length HSUM.out; rw [List.length_append] at h1; have h2 := HN9.out; unfold Tb.need at h2; omega)
    have CA := Lib.hid (fun (v : Value) (E : World) (h : x.At E.heap.size E v) => (by have hh := sliceRows_any x 0 s v E.heap.size E h (Nat.le_refl _) HOK.out HN9.out; rw [HNN.out.1, ← eQA] at hh; exact hh : Calls Try.prog 26 #[v, .int .i64 0, .int .i64 s] E (TbPost QA true E)))
    have CB := Lib.hid (fun (v : Value) (E : World) (h : x.At E.heap.size E v) => (by have hh := sliceRows_any x s 400 v E.heap.size E h (Nat.le_refl _) HOK.out HN9.out; rw [HNN.out.2.1, ← eQB] at hh; exact hh : Calls Try.prog 26 #[v, .int .i64 s, .int .i64 400] E (TbPost QB true E)))
    clear eQA eQB hT
    go_wp2_with fail
    refine (CA.out _ w4 (xa2.to (Below.refl _ _) (by omega))).mono ?_
    rintro e w5 ⟨v5, F5, rfl, ho5, _, hb5⟩
    obtain ⟨p5, c5, q5, d5, rfl⟩ := ho5.form
    have HO5 := Lib.hid ho5.at
    have s5 := hb5.size
    have HB5 := Lib.hid (HB4.out.trans (hb5.mono (by omega)))
    clear xa0 xa1 xa2 xb0 xb1 xb2 xc0 xc1 xc2
    have Ra : Below Va.heap.size Va w5 := Ra.trans (hb5.mono (by omega))
    have Rb : Below Vb.heap.size Vb w5 := Rb.trans (hb5.mono (by omega))
    have Rc : Below Vc.heap.size Vc w5 := Rc.trans (hb5.mono (by omega))
    clear ho5 hb5
    obtain ⟨⟨xa0, xa1⟩, xa2⟩ := HVa.out w5 Ra
    obtain ⟨⟨xb0, xb1⟩, xb2⟩ := HVb.out w5 Rb
    obtain ⟨⟨xc0, xc1⟩, xc2⟩ := HVc.out w5 Rc
    go_upto_region 9 with fail
    obtain ⟨Vd, eW⟩ : ∃ u, u = w5.alloc (.cells #[.slice p5 QA.cs.length c5, .slice q5 QA.rs.length d5] 33) := ⟨_, rfl⟩
    rw [← eW]
    have hzVd : w5.heap.size < Vd.heap.size := by rw [eW]; simp
    have hbVd : Below w5.heap.size w5 Vd := by rw [eW]; exact (Below.refl _ _).alloc (Nat.le_refl _) _
    have HVd := Lib.hid (show ∀ E, Below Vd.heap.size Vd E → (E.cell? ⟨w5.heap.size, 0, none⟩ = some (.slice p5 QA.cs.length c5) ∧ E.cell? ⟨w5.heap.size, 1, none⟩ = some (.slice q5 QA.rs.length d5)) ∧ (QA).At Vd.heap.size E (.agg #[.slice p5 QA.cs.length c5, .slice q5 QA.rs.length d5]) from fun E hE => ⟨⟨keepc hE hzVd (by rw [eW]; simp [go_sem]), keepc hE hzVd (by rw [eW]; simp [go_sem])⟩, HO5.out.to (hbVd.trans (hE.mono (by omega))) (by omega)⟩)
    have HBd := Lib.hid (HB5.out.trans (hbVd.mono (by omega)))
    clear eW
    clear xa0 xa1 xa2 xb0 xb1 xb2 xc0 xc1 xc2
    have Ra := Ra.trans (hbVd.mono (by omega))
    have Rb := Rb.trans (hbVd.mono (by omega))
    have Rc := Rc.trans (hbVd.mono (by omega))
    have Rd := Below.refl Vd.heap.size Vd
    obtain ⟨⟨xa0, xa1⟩, xa2⟩ := HVa.out Vd Ra
    obtain ⟨⟨xb0, xb1⟩, xb2⟩ := HVb.out Vd Rb
    obtain ⟨⟨xc0, xc1⟩, xc2⟩ := HVc.out Vd Rc
    obtain ⟨⟨xd0, xd1⟩, xd2⟩ := HVd.out Vd Rd
    go_wp2_with fail
    refine (CB.out _ Vd (xa2.to (Below.refl _ _) (by omega))).mono ?_
    rintro e w6 ⟨v6, F6, rfl, ho6, _, hb6⟩
    obtain ⟨p6, c6, q6, d6, rfl⟩ := ho6.form
    have HO6 := Lib.hid ho6.at
    have s6 := hb6.size
    have HB6 := Lib.hid (HBd.out.trans (hb6.mono (by omega)))
    clear xa0 xa1 xa2 xb0 xb1 xb2 xc0 xc1 xc2 xd0 xd1 xd2
    have Ra : Below Va.heap.size Va w6 := Ra.trans (hb6.mono (by omega))
    have Rb : Below Vb.heap.size Vb w6 := Rb.trans (hb6.mono (by omega))
    have Rc : Below Vc.heap.size Vc w6 := Rc.trans (hb6.mono (by omega))
    have Rd : Below Vd.heap.size Vd w6 := Rd.trans (hb6.mono (by omega))
    clear ho6 hb6
    obtain ⟨⟨xa0, xa1⟩, xa2⟩ := HVa.out w6 Ra
    obtain ⟨⟨xb0, xb1⟩, xb2⟩ := HVb.out w6 Rb
    obtain ⟨⟨xc0, xc1⟩, xc2⟩ := HVc.out w6 Rc
    obtain ⟨⟨xd0, xd1⟩, xd2⟩ := HVd.out w6 Rd
    go_upto_region 10 with fail
    obtain ⟨Ve, eW⟩ : ∃ u, u = w6.alloc (.cells #[.slice p6 QB.cs.length c6, .slice q6 QB.rs.length d6] 33) := ⟨_, rfl⟩
    rw [← eW]
    have hzVe : w6.heap.size < Ve.heap.size := by rw [eW]; simp
    have hbVe : Below w6.heap.size w6 Ve := by rw [eW]; exact (Below.refl _ _).alloc (Nat.le_refl _) _
    have HVe := Lib.hid (show ∀ E, Below Ve.heap.size Ve E → (E.cell? ⟨w6.heap.size, 0, none⟩ = some (.slice p6 QB.cs.length c6) ∧ E.cell? ⟨w6.heap.size, 1, none⟩ = some (.slice q6 QB.rs.length d6)) ∧ (QB).At Ve.heap.size E (.agg #[.slice p6 QB.cs.length c6, .slice q6 QB.rs.length d6]) from fun E hE => ⟨⟨keepc hE hzVe (by rw [eW]; simp [go_sem]), keepc hE hzVe (by rw [eW]; simp [go_sem])⟩, HO6.out.to (hbVe.trans (hE.mono (by omega))) (by omega)⟩)
    have HBe := Lib.hid (HB6.out.trans (hbVe.mono (by omega)))
    clear eW
    clear xa0 xa1 xa2 xb0 xb1 xb2 xc0 xc1 xc2 xd0 xd1 xd2
    have Ra := Ra.trans (hbVe.mono (by omega))
    have Rb := Rb.trans (hbVe.mono (by omega))
    have Rc := Rc.trans (hbVe.mono (by omega))
    have Rd := Rd.trans (hbVe.mono (by omega))
    have Re := Below.refl Ve.heap.size Ve
    obtain ⟨⟨xa0, xa1⟩, xa2⟩ := HVa.out Ve Ra
    obtain ⟨⟨xb0, xb1⟩, xb2⟩ := HVb.out Ve Rb
    obtain ⟨⟨xc0, xc1⟩, xc2⟩ := HVc.out Ve Rc
    obtain ⟨⟨xd0, xd1⟩, xd2⟩ := HVd.out Ve Rd
    obtain ⟨⟨xe0, xe1⟩, xe2⟩ := HVe.out Ve Re
    have HKD := Lib.hid (fun (E : World) (hE : Below Ve.heap.size Ve E) => (HVd.out E (Rd.trans (hE.mono (by omega)))))
    have HKE := Lib.hid (fun (E : World) (hE : Below Ve.heap.size Ve E) => HVe.out E hE)
    have RQA := Lib.hid (fun (E : World) (hE : Below Ve.heap.size Ve E) => (row_of (HKD.out E hE).2).to (Below.refl _ _) (show Vd.heap.size ≤ Ve.heap.size by omega))
    have RQB := Lib.hid (fun (E : World) (hE : Below Ve.heap.size Ve E) => (row_of (HKE.out E hE).2))
    go_cut [14] (fun v wx => ∃ pp cc, v = .slice pp x.rs.length cc ∧ kRow.Rd wx.heap.size wx v x.rs ∧ Below Ve.heap.size Ve wx)
    case first =>
      refine wp_region_held_drew (S := fun w' => w'.cell? ⟨w5.heap.size, 1, none⟩ = some (.slice q5 QA.rs.length d5) ∧ w'.cell? ⟨w6.heap.size, 1, none⟩ = some (.slice q6 QB.rs.length d6)) (by kernel_rfl) ⟨xd1, xe1⟩ (fun hHeld => ?_)
      have cW : Below Ve.heap.size Ve Ve.drew := (Below.refl _ _).drew
      have szW : Ve.heap.size ≤ Ve.drew.heap.size := Nat.le_refl _
      generalize Ve.drew = Z0 at cW hHeld szW ⊢
      (refine takeL (i := 1) (v := ?_) rfl (by kernel_rfl) (by kernel_rfl) (by kernel_rfl) (fun _ _ _ h => h) (Or.inl ⟨by kernel_rfl, ?_⟩) (by assumption) ?_; rotate_left; (focus (intro w hSw; (try dsimp only at hSw); go_simp; first | done | with_reducible rfl | fail "take")); (try simp only [Act.put, List.setIfInBounds_toArray, List.set_cons_zero, List.set_cons_succ]))
      (refine takeL (i := 2) (v := ?_) rfl (by kernel_rfl) (by kernel_rfl) (by kernel_rfl) (fun _ _ _ h => h) (Or.inl ⟨by kernel_rfl, ?_⟩) (by assumption) ?_; rotate_left; (focus (intro w hSw; (try dsimp only at hSw); go_simp; first | done | with_reducible rfl | fail "take")); (try simp only [Act.put, List.setIfInBounds_toArray, List.set_cons_zero, List.set_cons_succ]))
      (refine takeL (i := 4) (v := ?_) rfl (by kernel_rfl) (by kernel_rfl) (by kernel_rfl) (fun _ _ _ h => h) (Or.inl ⟨by kernel_rfl, ?_⟩) (by assumption) ?_; rotate_left; (focus (intro w hSw; (try dsimp only at hSw); go_simp; first | done | with_reducible rfl | fail "take")); (try simp only [Act.put, List.setIfInBounds_toArray, List.set_cons_zero, List.set_cons_succ]))
      (refine takeL (i := 5) (v := ?_) rfl (by kernel_rfl) (by kernel_rfl) (by kernel_rfl) (fun _ _ _ h => h) (Or.inl ⟨by kernel_rfl, ?_⟩) (by assumption) ?_; rotate_left; (focus (intro w hSw; (try dsimp only at hSw); go_simp; first | done | with_reducible rfl | fail "take")); (try simp only [Act.put, List.setIfInBounds_toArray, List.set_cons_zero, List.set_cons_succ]))
      (refine callL (i := 0) rfl (by kernel_rfl) (by kernel_rfl) (fun K hK => ?_); go_simp)
      refine hK.out _ _ ⟨(HKD.out _ (show Below Ve.heap.size Ve _ by ((repeat (first | with_reducible assumption | with_reducible exact Below.refl _ _ | refine Below.setCell ?_ (by (first | omega | (simp; omega) | (simp; done) | fail "sml")) _ | refine Below.drew ?_ | refine Below.alloc ?_ (by (first | omega | (simp; omega) | (simp; done) | fail "sml")) _)); first | done | fail "chs"))).1.2, (HKE.out _ (show Below Ve.heap.size Ve _ by ((repeat (first | with_reducible assumption | with_reducible exact Below.refl _ _ | refine Below.setCell ?_ (by (first | omega | (simp; omega) | (simp; done) | fail "sml")) _ | refine Below.drew ?_ | refine Below.alloc ?_ (by (first | omega | (simp; omega) | (simp; done) | fail "sml")) _)); first | done | fail "chs"))).1.2⟩ (fun hHeld => ?_)
      clear hK K
      (try simp only [Act.put, List.setIfInBounds_toArray, List.set_cons_zero, List.set_cons_succ])
      refine callL (i := 3) rfl (by kernel_rfl) (by kernel_rfl) (fun K hK => ?_)
      refine wp_app (.tmp 71) (.tmp 73) 31 (by rfl) _ _ (by rfl) (by rfl) _ ((RawRows.nil _ _ (show Ve.heap.size ≤ _ by simp; omega)).app (RQA.out _ (show Below Ve.heap.size Ve _ by ((repeat (first | with_reducible assumption | with_reducible exact Below.refl _ _ | refine Below.setCell ?_ (by (first | omega | (simp; omega) | (simp; done) | fail "sml")) _ | refine Below.drew ?_ | refine Below.alloc ?_ (by (first | omega | (simp; omega) | (simp; done) | fail "sml")) _)); first | done | fail "chs"))) (by have := HLEN.out; simp; omega) _) ?_
      rintro v8 w8 ⟨F8, ho8, hb8⟩
      have k8 : Below Ve.heap.size Ve w8 := (show Below Ve.heap.size Ve _ by ((repeat (first | with_reducible assumption | with_reducible exact Below.refl _ _ | refine Below.setCell ?_ (by (first | omega | (simp; omega) | (simp; done) | fail "sml")) _ | refine Below.drew ?_ | refine Below.alloc ?_ (by (first | omega | (simp; omega) | (simp; done) | fail "sml")) _)); first | done | fail "chs")).trans hb8
      rw [List.nil_append] at ho8
      have HO8 := Lib.hid ho8
      clear hb8
      obtain ⟨p8, c8, rfl⟩ := ho8.form
      clear ho8
      refine hK.out _ _ ⟨(HKD.out _ k8).1.2, (HKE.out _ k8).1.2⟩ (fun hHeld => ?_)
      clear hK K
      (try simp only [Act.put, List.setIfInBounds_toArray, List.set_cons_zero, List.set_cons_succ])
      refine callL (i := 6) rfl (by kernel_rfl) (by kernel_rfl) (fun K hK => ?_)
      refine wp_app (.tmp 74) (.tmp 76) 31 (by rfl) _ _ (by rfl) (by rfl) _ (HO8.out.app (RQB.out _ k8) (by have := HLEN.out; omega) _) ?_
      rintro v9 w9 ⟨F9, ho9, hb9⟩
      have k9 : Below Ve.heap.size Ve w9 := k8.trans hb9
      rw [HSUM.out] at ho9
      have HO9 := Lib.hid ho9.rd
      clear hb9
      obtain ⟨p9, c9, rfl⟩ := ho9.form
      clear ho9
      refine hK.out _ _ ⟨(HKD.out _ k9).1.2, (HKE.out _ k9).1.2⟩ (fun hHeld => ?_)
      clear hK K
      (try simp only [Act.put, List.setIfInBounds_toArray, List.set_cons_zero, List.set_cons_succ])
      (refine takeL (i := 7) (v := ?_) rfl (by kernel_rfl) (by kernel_rfl) (by kernel_rfl) (fun _ _ _ h => h) (Or.inl ⟨by kernel_rfl, ?_⟩) (by assumption) ?_; rotate_left; (focus (intro w hSw; (try dsimp only at hSw); go_simp; first | done | with_reducible rfl | fail "take")); (try simp only [Act.put, List.setIfInBounds_toArray, List.set_cons_zero, List.set_cons_succ]))
      refine wpAnyH_done (by kernel_rfl) ?_ _
      go_wp2_with fail
      go_meet
      exact ⟨p9, c9, rfl, HO9.out, k9⟩
    case rest =>
    obtain ⟨pp, cc, rfl, hall, hbx⟩ := hcut
    obtain ⟨w9, ew⟩ : ∃ u, u = wc := ⟨_, rfl⟩
    subst ew
    have HALL := Lib.hid hall
    have s9 := hbx.size
    have HB9 := Lib.hid (HBe.out.trans (hbx.mono (by omega)))
    clear xa0 xa1 xa2 xb0 xb1 xb2 xc0 xc1 xc2 xd0 xd1 xd2 xe0 xe1 xe2
    have Ra : Below Va.heap.size Va w9 := Ra.trans (hbx.mono (by omega))
    have Rb : Below Vb.heap.size Vb w9 := Rb.trans (hbx.mono (by omega))
    have Rc : Below Vc.heap.size Vc w9 := Rc.trans (hbx.mono (by omega))
    have Rd : Below Vd.heap.size Vd w9 := Rd.trans (hbx.mono (by omega))
    have Re : Below Ve.heap.size Ve w9 := Re.trans (hbx.mono (by omega))
    clear hall hbx HKD HKE RQA RQB
    obtain ⟨⟨xa0, xa1⟩, xa2⟩ := HVa.out w9 Ra
    obtain ⟨⟨xb0, xb1⟩, xb2⟩ := HVb.out w9 Rb
    obtain ⟨⟨xc0, xc1⟩, xc2⟩ := HVc.out w9 Rc
    obtain ⟨⟨xd0, xd1⟩, xd2⟩ := HVd.out w9 Rd
    obtain ⟨⟨xe0, xe1⟩, xe2⟩ := HVe.out w9 Re
    have HVF := Lib.hid (fun (E : World) (hE : Below w9.heap.size w9 E) => (⟨(HVa.out E (Ra.trans (hE.mono (by omega)))), (HVb.out E (Rb.trans (hE.mono (by omega)))), (HVe.out E (Re.trans (hE.mono (by omega))))⟩ : _ ∧ _ ∧ _))
    have l1 : decide ((R.rs.length : Int) ≤ c) = true := decide_eq_true hle1
    have l2 : decide ((R.rs.length : Int) ≤ (QB.rs.length : Int)) = true := decide_eq_true (by omega)
    have l3 : ((R.rs.length : Int) ≤ c) = True := eq_true hle1
    have l4 : ((R.rs.length : Int) ≤ (QB.rs.length : Int)) = True := eq_true (by omega)
    have hmq := (row_of xe2).max.2
    unfold maxLen at hmq
    have l5 : R.rs.length ≤ d6 := by omega
    have HZ := Lib.hid (show w9.heap.size ≤ w9.heap.size from Nat.le_refl _)
    have C1 := Lib.hid (fun (E : World) (hE : Below w9.heap.size w9 E) => ((gpLists_any x.rs (.slice pp x.rs.length cc) (.slice q1 x.rs.length d1) w9.heap.size E (HALL.out.to hE (Nat.le_refl _)) ((row_of (HVF.out E hE).1.2).to (Below.refl _ _) (by omega)) hE.size).mono fun e w' h => ⟨h.1, hE.trans (h.2.mono hE.size)⟩ : Calls Try.prog 28 #[.slice pp x.rs.length cc, .slice q1 x.rs.length d1] E fun e w' => e = .returned (.bool true) ∧ Below w9.heap.size w9 w'))
    have C2 := Lib.hid (fun (E : World) (hE : Below w9.heap.size w9 E) => ((gpLists_any R.rs (.slice q2 R.rs.length d2) (.slice q6 R.rs.length d6) w9.heap.size E ((row_of (HVF.out E hE).2.1.2).to (Below.refl _ _) (by omega)) (by have hh := (row_of (HVF.out E hE).2.2.2).to (Below.refl _ E) (show Ve.heap.size ≤ w9.heap.size by omega); have h2 := hh.take hle2; rw [HTAKE.out] at h2; exact h2) hE.size).mono fun e w' h => ⟨h.1, hE.trans (h.2.mono hE.size)⟩ : Calls Try.prog 28 #[.slice q2 R.rs.length d2, .slice q6 R.rs.length d6] E fun e w' => e = .returned (.bool true) ∧ Below w9.heap.size w9 w'))
    have r9 := Below.refl w9.heap.size w9
    go_upto_region 11 with fail
    go_cut [2] (fun s wx => s = .bool true ∧ Below w9.heap.size w9 wx)
    case first =>
      refine wp_region_held_drew (S := fun w' => (w'.cell? ⟨w1.heap.size, 1, none⟩ = some (.slice q1 x.rs.length d1)) ∧ (w'.cell? ⟨w2.heap.size, 1, none⟩ = some (.slice q2 R.rs.length d2)) ∧ w'.cell? ⟨w6.heap.size, 1, none⟩ = some (.slice q6 QB.rs.length d6)) (by kernel_rfl) ?_ (fun hHeld => ?_)
      · exact ⟨(HVF.out _ (show Below w9.heap.size w9 _ by ((repeat (first | with_reducible assumption | with_reducible exact Below.refl _ _ | refine Below.setCell ?_ (by (first | omega | (simp; omega) | (simp; done) | fail "sml")) _ | refine Below.drew ?_ | refine Below.alloc ?_ (by (first | omega | (simp; omega) | (simp; done) | fail "sml")) _)); first | done | fail "chs"))).1.1.2, (HVF.out _ (show Below w9.heap.size w9 _ by ((repeat (first | with_reducible assumption | with_reducible exact Below.refl _ _ | refine Below.setCell ?_ (by (first | omega | (simp; omega) | (simp; done) | fail "sml")) _ | refine Below.drew ?_ | refine Below.alloc ?_ (by (first | omega | (simp; omega) | (simp; done) | fail "sml")) _)); first | done | fail "chs"))).2.1.1.2, (HVF.out _ (show Below w9.heap.size w9 _ by ((repeat (first | with_reducible assumption | with_reducible exact Below.refl _ _ | refine Below.setCell ?_ (by (first | omega | (simp; omega) | (simp; done) | fail "sml")) _ | refine Below.drew ?_ | refine Below.alloc ?_ (by (first | omega | (simp; omega) | (simp; done) | fail "sml")) _)); first | done | fail "chs"))).2.2.1.2⟩
      (refine takeL (i := 0) (v := ?_) rfl (by kernel_rfl) (by kernel_rfl) (by kernel_rfl) (fun _ _ _ h => h) (Or.inl ⟨by kernel_rfl, ?_⟩) (by assumption) ?_; rotate_left; (focus (intro w hSw; (try dsimp only at hSw); go_simp; first | done | with_reducible rfl | fail "take")); (try simp only [Act.put, List.setIfInBounds_toArray, List.set_cons_zero, List.set_cons_succ]))
      (refine takeL (i := 1) (v := ?_) rfl (by kernel_rfl) (by kernel_rfl) (by kernel_rfl) (fun _ _ _ h => h) (Or.inl ⟨by kernel_rfl, ?_⟩) (by assumption) ?_; rotate_left; (focus (intro w hSw; (try dsimp only at hSw); go_simp; first | done | with_reducible rfl | fail "take")); (try simp only [Act.put, List.setIfInBounds_toArray, List.set_cons_zero, List.set_cons_succ]))
      (refine takeL (i := 2) (v := ?_) rfl (by kernel_rfl) (by kernel_rfl) (by kernel_rfl) (fun _ _ _ h => h) (Or.inl ⟨by kernel_rfl, ?_⟩) (by assumption) ?_; rotate_left; (focus (intro w hSw; (try dsimp only at hSw); go_simp; first | done | with_reducible rfl | fail "take")); (try simp only [Act.put, List.setIfInBounds_toArray, List.set_cons_zero, List.set_cons_succ]))
      (refine takeL (i := 3) (v := ?_) rfl (by kernel_rfl) (by kernel_rfl) (by kernel_rfl) (fun _ _ _ h => h) (Or.inl ⟨by kernel_rfl, ?_⟩) (by assumption) ?_; rotate_left; (focus (intro w hSw; (try dsimp only at hSw); go_simp; first | done | with_reducible rfl | fail "take")); (try simp only [Act.put, List.setIfInBounds_toArray, List.set_cons_zero, List.set_cons_succ]))
      (refine takeL (i := 4) (v := ?_) rfl (by kernel_rfl) (by kernel_rfl) (by kernel_rfl) (fun _ _ _ h => h) (Or.inl ⟨by kernel_rfl, ?_⟩) (by assumption) ?_; rotate_left; (focus (intro w hSw; (try dsimp only at hSw); go_simp; first | done | with_reducible rfl | fail "take")); (try simp only [Act.put, List.setIfInBounds_toArray, List.set_cons_zero, List.set_cons_succ]))
      (refine takeL (i := 5) (v := ?_) rfl (by kernel_rfl) (by kernel_rfl) (by kernel_rfl) (fun _ _ _ h => h) (Or.inl ⟨by kernel_rfl, ?_⟩) (by assumption) ?_; rotate_left; (focus (intro w hSw; (try dsimp only at hSw); go_simp; first | done | with_reducible rfl | fail "take")); (try simp only [Act.put, List.setIfInBounds_toArray, List.set_cons_zero, List.set_cons_succ]))
      (refine takeL (i := 6) (v := ?_) rfl (by kernel_rfl) (by kernel_rfl) (by kernel_rfl) (fun _ _ _ h => h) (Or.inl ⟨by kernel_rfl, ?_⟩) (by assumption) ?_; rotate_left; (focus (intro w hSw; (try dsimp only at hSw); go_simp; first | done | with_reducible rfl | fail "take")); (try simp only [Act.put, List.setIfInBounds_toArray, List.set_cons_zero, List.set_cons_succ]))
      (refine takeL (i := 7) (v := ?_) rfl (by kernel_rfl) (by kernel_rfl) (by kernel_rfl) (fun _ _ _ h => h) (Or.inl ⟨by kernel_rfl, ?_⟩) (by assumption) ?_; rotate_left; (focus (intro w hSw; (try dsimp only at hSw); go_simp; first | done | with_reducible rfl | fail "take")); (try simp only [Act.put, List.setIfInBounds_toArray, List.set_cons_zero, List.set_cons_succ]))
      (refine callL (i := 8) rfl (by kernel_rfl) (by kernel_rfl) (fun K hK => ?_); go_simp)
      go_at_call 28
      with_reducible refine (C1.out _ (by ((repeat (first | with_reducible assumption | with_reducible exact Below.refl _ _ | refine Below.setCell ?_ (by (first | omega | (simp; omega) | (simp; done) | fail "sml")) _ | refine Below.drew ?_ | refine Below.alloc ?_ (by (first | omega | (simp; omega) | (simp; done) | fail "sml")) _)); first | done | fail "chs"))).mono ?_
      rintro en wa ⟨rfl, hka⟩
      go_wp2_with fail
      refine hK.out _ _ ?_ (fun hHeld => ?_)
      · exact ⟨(HVF.out _ (show Below w9.heap.size w9 _ by ((repeat (first | with_reducible assumption | with_reducible exact Below.refl _ _ | refine Below.setCell ?_ (by (first | omega | (simp; omega) | (simp; done) | fail "sml")) _ | refine Below.drew ?_ | refine Below.alloc ?_ (by (first | omega | (simp; omega) | (simp; done) | fail "sml")) _)); first | done | fail "chs"))).1.1.2, (HVF.out _ (show Below w9.heap.size w9 _ by ((repeat (first | with_reducible assumption | with_reducible exact Below.refl _ _ | refine Below.setCell ?_ (by (first | omega | (simp; omega) | (simp; done) | fail "sml")) _ | refine Below.drew ?_ | refine Below.alloc ?_ (by (first | omega | (simp; omega) | (simp; done) | fail "sml")) _)); first | done | fail "chs"))).2.1.1.2, (HVF.out _ (show Below w9.heap.size w9 _ by ((repeat (first | with_reducible assumption | with_reducible exact Below.refl _ _ | refine Below.setCell ?_ (by (first | omega | (simp; omega) | (simp; done) | fail "sml")) _ | refine Below.drew ?_ | refine Below.alloc ?_ (by (first | omega | (simp; omega) | (simp; done) | fail "sml")) _)); first | done | fail "chs"))).2.2.1.2⟩
      clear hK K
      (try simp only [Act.put, List.setIfInBounds_toArray, List.set_cons_zero, List.set_cons_succ])
      (refine takeL (i := 9) (v := ?_) rfl (by kernel_rfl) (by kernel_rfl) (by kernel_rfl) (fun _ _ _ h => h) (Or.inl ⟨by kernel_rfl, ?_⟩) (by assumption) ?_; rotate_left; (focus (intro w hSw; (try dsimp only at hSw); go_simp; first | done | with_reducible rfl | fail "take")); (try simp only [Act.put, List.setIfInBounds_toArray, List.set_cons_zero, List.set_cons_succ]))
      (refine takeL (i := 10) (v := ?_) rfl (by kernel_rfl) (by kernel_rfl) (by kernel_rfl) (fun _ _ _ h => h) (Or.inl ⟨by kernel_rfl, ?_⟩) (by assumption) ?_; rotate_left; (focus (intro w hSw; (try dsimp only at hSw); go_simp; first | done | with_reducible rfl | fail "take")); (try simp only [Act.put, List.setIfInBounds_toArray, List.set_cons_zero, List.set_cons_succ]))
      (refine takeL (i := 11) (v := ?_) rfl (by kernel_rfl) (by kernel_rfl) (by kernel_rfl) (fun _ _ _ h => h) (Or.inl ⟨by kernel_rfl, ?_⟩) (by assumption) ?_; rotate_left; (focus (intro w hSw; (try dsimp only at hSw); go_simp; first | done | with_reducible rfl | fail "take")); (try simp only [Act.put, List.setIfInBounds_toArray, List.set_cons_zero, List.set_cons_succ]))
      (refine takeL (i := 12) (v := ?_) rfl (by kernel_rfl) (by kernel_rfl) (by kernel_rfl) (fun _ _ _ h => h) (Or.inl ⟨by kernel_rfl, ?_⟩) (by assumption) ?_; rotate_left; (focus (intro w hSw; (try dsimp only at hSw); go_simp; first | done | with_reducible rfl | fail "take")); (try simp only [Act.put, List.setIfInBounds_toArray, List.set_cons_zero, List.set_cons_succ]))
      (refine takeL (i := 13) (v := ?_) rfl (by kernel_rfl) (by kernel_rfl) (by kernel_rfl) (fun _ _ _ h => h) (Or.inl ⟨by kernel_rfl, ?_⟩) (by assumption) ?_; rotate_left; (focus (intro w hSw; (try dsimp only at hSw); go_simp; first | done | with_reducible rfl | fail "take")); (try simp only [Act.put, List.setIfInBounds_toArray, List.set_cons_zero, List.set_cons_succ]))
      (refine takeL (i := 14) (v := ?_) rfl (by kernel_rfl) (by kernel_rfl) (by kernel_rfl) (fun _ _ _ h => h) (Or.inl ⟨by kernel_rfl, ?_⟩) (by assumption) ?_; rotate_left; (focus (intro w hSw; (try dsimp only at hSw); go_simp; first | done | with_reducible rfl | fail "take")); (try simp only [Act.put, List.setIfInBounds_toArray, List.set_cons_zero, List.set_cons_succ]))
      (refine takeL (i := 15) (v := ?_) rfl (by kernel_rfl) (by kernel_rfl) (by kernel_rfl) (fun _ _ _ h => h) (Or.inl ⟨by kernel_rfl, ?_⟩) (by assumption) ?_; rotate_left; (focus (intro w hSw; (try dsimp only at hSw); go_simp; first | done | with_reducible rfl | fail "take")); (try simp only [Act.put, List.setIfInBounds_toArray, List.set_cons_zero, List.set_cons_succ]))
      (refine takeL (i := 16) (v := ?_) rfl (by kernel_rfl) (by kernel_rfl) (by kernel_rfl) (fun _ _ _ h => h) (Or.inl ⟨by kernel_rfl, ?_⟩) (by assumption) ?_; rotate_left; (focus (intro w hSw; (try dsimp only at hSw); go_simp; first | done | with_reducible rfl | fail "take")); (try simp only [Act.put, List.setIfInBounds_toArray, List.set_cons_zero, List.set_cons_succ]))
      (refine takeL (i := 17) (v := ?_) rfl (by kernel_rfl) (by kernel_rfl) (by kernel_rfl) (fun _ _ _ h => h) (Or.inl ⟨by kernel_rfl, ?_⟩) (by assumption) ?_; rotate_left; (focus (intro w hSw; (try dsimp only at hSw); go_simp; first | done | with_reducible rfl | fail "take")); (try simp only [Act.put, List.setIfInBounds_toArray, List.set_cons_zero, List.set_cons_succ]))
      (refine takeL (i := 18) (v := ?_) rfl (by kernel_rfl) (by kernel_rfl) (by kernel_rfl) (fun _ _ _ h => h) (Or.inl ⟨by kernel_rfl, ?_⟩) (by assumption) ?_; rotate_left; (focus (intro w hSw; (try dsimp only at hSw); go_simp; first | done | with_reducible rfl | fail "take")); (try simp only [Act.put, List.setIfInBounds_toArray, List.set_cons_zero, List.set_cons_succ]))
      (refine takeL (i := 19) (v := ?_) rfl (by kernel_rfl) (by kernel_rfl) (by kernel_rfl) (fun _ _ _ h => h) (Or.inl ⟨by kernel_rfl, ?_⟩) (by assumption) ?_; rotate_left; (focus (intro w hSw; (try dsimp only at hSw); go_simp; first | done | with_reducible rfl | fail "take")); (try simp only [Act.put, List.setIfInBounds_toArray, List.set_cons_zero, List.set_cons_succ]))
      (refine takeL (i := 20) (v := ?_) rfl (by kernel_rfl) (by kernel_rfl) (by kernel_rfl) (fun _ _ _ h => h) (Or.inl ⟨by kernel_rfl, ?_⟩) (by assumption) ?_; rotate_left; (focus (intro w hSw; (try dsimp only at hSw); go_simp; first | done | with_reducible rfl | fail "take")); (try simp only [Act.put, List.setIfInBounds_toArray, List.set_cons_zero, List.set_cons_succ]))
      (refine takeL (i := 21) (v := ?_) rfl (by kernel_rfl) (by kernel_rfl) (by kernel_rfl) (fun _ _ _ h => h) (Or.inl ⟨by kernel_rfl, ?_⟩) (by assumption) ?_; rotate_left; (focus (intro w hSw; (try dsimp only at hSw); go_simp; first | done | with_reducible rfl | fail "take")); (try simp only [Act.put, List.setIfInBounds_toArray, List.set_cons_zero, List.set_cons_succ]))
      (refine takeL (i := 22) (v := ?_) rfl (by kernel_rfl) (by kernel_rfl) (by kernel_rfl) (fun _ _ _ h => h) (Or.inl ⟨by kernel_rfl, ?_⟩) (by assumption) ?_; rotate_left; (focus (intro w hSw; (try dsimp only at hSw); go_simp; first | done | with_reducible rfl | fail "take")); (try simp only [Act.put, List.setIfInBounds_toArray, List.set_cons_zero, List.set_cons_succ]))
      (refine takeL (i := 23) (v := ?_) rfl (by kernel_rfl) (by kernel_rfl) (by kernel_rfl) (fun _ _ _ h => h) (Or.inl ⟨by kernel_rfl, ?_⟩) (by assumption) ?_; rotate_left; (focus (intro w hSw; (try dsimp only at hSw); go_simp; first | done | with_reducible rfl | fail "take")); (try simp only [Act.put, List.setIfInBounds_toArray, List.set_cons_zero, List.set_cons_succ]))
      (refine takeL (i := 24) (v := ?_) rfl (by kernel_rfl) (by kernel_rfl) (by kernel_rfl) (fun _ _ _ h => h) (Or.inl ⟨by kernel_rfl, ?_⟩) (by assumption) ?_; rotate_left; (focus (intro w hSw; (try dsimp only at hSw); go_simp; first | done | with_reducible rfl | fail "take")); (try simp only [Act.put, List.setIfInBounds_toArray, List.set_cons_zero, List.set_cons_succ]))
      (refine takeL (i := 25) (v := ?_) rfl (by kernel_rfl) (by kernel_rfl) (by kernel_rfl) (fun _ _ _ h => h) (Or.inl ⟨by kernel_rfl, ?_⟩) (by assumption) ?_; rotate_left; (focus (intro w hSw; (try dsimp only at hSw); go_simp; first | done | with_reducible rfl | fail "take")); (try simp only [Act.put, List.setIfInBounds_toArray, List.set_cons_zero, List.set_cons_succ]))
      (refine takeL (i := 26) (v := ?_) rfl (by kernel_rfl) (by kernel_rfl) (by kernel_rfl) (fun _ _ _ h => h) (Or.inl ⟨by kernel_rfl, ?_⟩) (by assumption) ?_; rotate_left; (focus (intro w hSw; (try dsimp only at hSw); go_simp; first | done | with_reducible rfl | fail "take")); (try simp only [Act.put, List.setIfInBounds_toArray, List.set_cons_zero, List.set_cons_succ]))
      (refine takeL (i := 27) (v := ?_) rfl (by kernel_rfl) (by kernel_rfl) (by kernel_rfl) (fun _ _ _ h => h) (Or.inl ⟨by kernel_rfl, ?_⟩) (by assumption) ?_; rotate_left; (focus (intro w hSw; (try dsimp only at hSw); go_simp; first | done | with_reducible rfl | fail "take")); (try simp only [Act.put, List.setIfInBounds_toArray, List.set_cons_zero, List.set_cons_succ]))
      (refine takeL (i := 28) (v := ?_) rfl (by kernel_rfl) (by kernel_rfl) (by kernel_rfl) (fun _ _ _ h => h) (Or.inl ⟨by kernel_rfl, ?_⟩) (by assumption) ?_; rotate_left; (focus (intro w hSw; (try dsimp only at hSw); go_simp; first | done | with_reducible rfl | fail "take")); (try simp only [Act.put, List.setIfInBounds_toArray, List.set_cons_zero, List.set_cons_succ]))
      (refine takeL (i := 29) (v := ?_) rfl (by kernel_rfl) (by kernel_rfl) (by kernel_rfl) (fun _ _ _ h => h) (Or.inl ⟨by kernel_rfl, ?_⟩) (by assumption) ?_; rotate_left; (focus (intro w hSw; (try dsimp only at hSw); go_simp; first | done | with_reducible rfl | fail "take")); (try simp only [Act.put, List.setIfInBounds_toArray, List.set_cons_zero, List.set_cons_succ]))
      (refine takeL (i := 30) (v := ?_) rfl (by kernel_rfl) (by kernel_rfl) (by kernel_rfl) (fun _ _ _ h => h) (Or.inl ⟨by kernel_rfl, ?_⟩) (by assumption) ?_; rotate_left; (focus (intro w hSw; (try dsimp only at hSw); go_simp; first | done | with_reducible rfl | fail "take")); (try simp only [Act.put, List.setIfInBounds_toArray, List.set_cons_zero, List.set_cons_succ]))
      (refine takeL (i := 31) (v := ?_) rfl (by kernel_rfl) (by kernel_rfl) (by kernel_rfl) (fun _ _ _ h => h) (Or.inl ⟨by kernel_rfl, ?_⟩) (by assumption) ?_; rotate_left; (focus (intro w hSw; (try dsimp only at hSw); go_simp; first | done | with_reducible rfl | fail "take")); (try simp only [Act.put, List.setIfInBounds_toArray, List.set_cons_zero, List.set_cons_succ]))
      (refine takeL (i := 32) (v := ?_) rfl (by kernel_rfl) (by kernel_rfl) (by kernel_rfl) (fun _ _ _ h => h) (Or.inl ⟨by kernel_rfl, ?_⟩) (by assumption) ?_; rotate_left; (focus (intro w hSw; (try dsimp only at hSw); go_simp; first | done | with_reducible rfl | fail "take")); (try simp only [Act.put, List.setIfInBounds_toArray, List.set_cons_zero, List.set_cons_succ]))
      (refine takeL (i := 33) (v := ?_) rfl (by kernel_rfl) (by kernel_rfl) (by kernel_rfl) (fun _ _ _ h => h) (Or.inl ⟨by kernel_rfl, ?_⟩) (by assumption) ?_; rotate_left; (focus (intro w hSw; (try dsimp only at hSw); go_simp; first | done | with_reducible rfl | fail "take")); (try simp only [Act.put, List.setIfInBounds_toArray, List.set_cons_zero, List.set_cons_succ]))
      (refine takeL (i := 34) (v := ?_) rfl (by kernel_rfl) (by kernel_rfl) (by kernel_rfl) (fun _ _ _ h => h) (Or.inl ⟨by kernel_rfl, ?_⟩) (by assumption) ?_; rotate_left; (focus (intro w hSw; (try dsimp only at hSw); go_simp; first | done | with_reducible rfl | fail "take")); (try simp only [Act.put, List.setIfInBounds_toArray, List.set_cons_zero, List.set_cons_succ]))
      (refine callL (i := 35) rfl (by kernel_rfl) (by kernel_rfl) (fun K hK => ?_); go_simp)
      go_at_call 28
      with_reducible refine (C2.out _ (by ((repeat (first | with_reducible assumption | with_reducible exact Below.refl _ _ | refine Below.setCell ?_ (by (first | omega | (simp; omega) | (simp; done) | fail "sml")) _ | refine Below.drew ?_ | refine Below.alloc ?_ (by (first | omega | (simp; omega) | (simp; done) | fail "sml")) _)); first | done | fail "chs"))).mono ?_
      rintro en wa ⟨rfl, hka⟩
      go_wp2_with fail
      refine hK.out _ _ ?_ (fun hHeld => ?_)
      · exact ⟨(HVF.out _ (show Below w9.heap.size w9 _ by ((repeat (first | with_reducible assumption | with_reducible exact Below.refl _ _ | refine Below.setCell ?_ (by (first | omega | (simp; omega) | (simp; done) | fail "sml")) _ | refine Below.drew ?_ | refine Below.alloc ?_ (by (first | omega | (simp; omega) | (simp; done) | fail "sml")) _)); first | done | fail "chs"))).1.1.2, (HVF.out _ (show Below w9.heap.size w9 _ by ((repeat (first | with_reducible assumption | with_reducible exact Below.refl _ _ | refine Below.setCell ?_ (by (first | omega | (simp; omega) | (simp; done) | fail "sml")) _ | refine Below.drew ?_ | refine Below.alloc ?_ (by (first | omega | (simp; omega) | (simp; done) | fail "sml")) _)); first | done | fail "chs"))).2.1.1.2, (HVF.out _ (show Below w9.heap.size w9 _ by ((repeat (first | with_reducible assumption | with_reducible exact Below.refl _ _ | refine Below.setCell ?_ (by (first | omega | (simp; omega) | (simp; done) | fail "sml")) _ | refine Below.drew ?_ | refine Below.alloc ?_ (by (first | omega | (simp; omega) | (simp; done) | fail "sml")) _)); first | done | fail "chs"))).2.2.1.2⟩
      clear hK K
      (try simp only [Act.put, List.setIfInBounds_toArray, List.set_cons_zero, List.set_cons_succ])
      (refine takeL (i := 36) (v := ?_) rfl (by kernel_rfl) (by kernel_rfl) (by kernel_rfl) (fun _ _ _ h => h) (Or.inl ⟨by kernel_rfl, ?_⟩) (by assumption) ?_; rotate_left; (focus (intro w hSw; (try dsimp only at hSw); go_simp; first | done | with_reducible rfl | fail "take")); (try simp only [Act.put, List.setIfInBounds_toArray, List.set_cons_zero, List.set_cons_succ]))
      (refine takeL (i := 37) (v := ?_) rfl (by kernel_rfl) (by kernel_rfl) (by kernel_rfl) (fun _ _ _ h => h) (Or.inl ⟨by kernel_rfl, ?_⟩) (by assumption) ?_; rotate_left; (focus (intro w hSw; (try dsimp only at hSw); go_simp; first | done | with_reducible rfl | fail "take")); (try simp only [Act.put, List.setIfInBounds_toArray, List.set_cons_zero, List.set_cons_succ]))
      refine wpAnyH_done (by kernel_rfl) ?_ _
      go_wp2_with fail
      go_meet
      exact ⟨rfl, by ((repeat (first | with_reducible assumption | with_reducible exact Below.refl _ _ | refine Below.setCell ?_ (by (first | omega | (simp; omega) | (simp; done) | fail "sml")) _ | refine Below.drew ?_ | refine Below.alloc ?_ (by (first | omega | (simp; omega) | (simp; done) | fail "sml")) _)); first | done | fail "chs")⟩
    case rest =>
      obtain ⟨rfl, hbx⟩ := hcut
      have HBX := Lib.hid (HB9.out.trans (hbx.mono (by omega)))
      clear hbx
      go_wp2_with fail
      go_ret
      exact ⟨rfl, HBX.out⟩
end Go.Proofs.Ytfdkmngkpihpbaa
