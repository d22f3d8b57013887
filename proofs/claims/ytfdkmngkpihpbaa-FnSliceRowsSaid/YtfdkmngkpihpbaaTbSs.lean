/- SliceRows of the model. -/
import Derived.Test.YtfdkmngkpihpbaaTbSl
namespace Go.Proofs.Ytfdkmngkpihpbaa
open Go.RowKit

set_option maxRecDepth 100000 in
set_option maxHeartbeats 4000000 in
theorem specSliceRows_any (x : Tb) (s c : Int) (v : Value) (B : Nat) (w : World) (hx : x.At B w v) (hB : B ≤ w.heap.size) (hok : ∀ y ∈ x.cs, y.size ≤ maxLen) (hn : x.need ≤ 1048576) :
    Calls Try.prog 27 #[v, .int .i64 s, .int .i64 c] w (TbPost (cutR x s c) (cutB x s c) w) := by
  obtain ⟨a, b, rfl, ha, hb⟩ := hx
  obtain ⟨p, c1, rfl⟩ := ha.form
  obtain ⟨q, d, rfl⟩ := hb.form
  have hm1 := ha.max
  have hm2 := hb.max
  unfold maxLen at hm1 hm2
  have hn1 : x.cs.length ≤ 1048576 := by unfold Tb.need at hn; omega
  have hn2 : x.rs.length + sumR x.rs ≤ 1048576 := by unfold Tb.need at hn; omega
  have HAR := Lib.hid ha
  have HBR := Lib.hid hb
  have HOK := Lib.hid hok
  have CNO := Lib.hid (fun h => cutR_no (x := x) (s := s) (c := c) h)
  have CYES := Lib.hid (fun h => cutR_yes (x := x) (s := s) (c := c) h)
  have COK := Lib.hid (fun h => cut_ok (x := x) (s := s) (c := c) h)
  have CNB := Lib.hid (fun h => cutB_ok (x := x) (s := s) (c := c) h)
  have CN1 := Lib.hid (fun h => cutB_1 (x := x) (s := s) (c := c) h)
  have CN2 := Lib.hid (fun h => cutB_2 (x := x) (s := s) (c := c) h)
  have CN3 := Lib.hid (fun h => cutB_3 (x := x) (s := s) (c := c) h)
  have CN4 := Lib.hid (fun h => cutB_4 (x := x) (s := s) (c := c) h)
  have CYB := Lib.hid (cutB_yes (x := x) (s := s) (c := c))
  obtain ⟨R, eR⟩ : ∃ R, R = cutR x s c := ⟨_, rfl⟩
  obtain ⟨T, eT⟩ : ∃ T, T = cutB x s c := ⟨_, rfl⟩
  rw [← eR, ← eT]
  rw [← eT, ← eR] at CNO CYES
  rw [← eT] at CNB CN1 CN2 CN3 CN4 CYB
  clear ha hb hok hn eR eT
  obtain ⟨W0, eW⟩ : ∃ W0, W0 = (w.alloc (.cells #[.slice p x.cs.length c1, .slice q x.rs.length d] 33)).alloc (.cells #[.slice none 0 0, .slice none 0 0] 33) := ⟨_, rfl⟩
  have HK := Lib.hid (show ∀ E, Below (w.heap.size + 2) W0 E → Kept x p c1 q d w E from fun E hE => by rw [eW] at hE; exact kept_of hE)
  have HV := Lib.hid (show Below w.heap.size w W0 by rw [eW]; exact ((Below.refl _ _).alloc (Nat.le_refl _) _).alloc (by simp) _)
  have hs0 : w.heap.size + 2 ≤ W0.heap.size := by rw [eW]; simp
  have EW := Lib.hid eW
  clear eW
  go_enter Try.func27, Try.ntmps27
  obtain ⟨⟨kz, k0, k1⟩, ⟨k2, k3⟩, k4, k5⟩ := HK.out W0 (Below.refl _ _)
  go_wp2_with fail
  rw [← EW.out]
  go_wp2_with fail
  refine (specTableValid_any x _ B W0 ⟨_, _, rfl, HAR.out.to (HV.out.mono hB) (Nat.le_refl _), HBR.out.to (HV.out.mono hB) (Nat.le_refl _)⟩ (by omega) HOK.out (by omega)).mono ?_
  rintro en w1 ⟨rfl, hb1⟩
  have hs1 := hb1.size
  have HR1 := Lib.hid (show Below (w.heap.size + 2) W0 w1 from hb1.mono (by omega))
  have HB1 := Lib.hid (HV.out.trans (hb1.mono (by omega)))
  clear k0 k1 k2 k3 k4 k5 kz hb1
  obtain ⟨⟨kz, k0, k1⟩, ⟨k2, k3⟩, k4, k5⟩ := HK.out w1 HR1.out
  cases hE : x.ok with
  | false =>
    have HF := Lib.hid (CNB.out hE)
    have HFR := CNO.out HF.out
    have HFT := HF.out
    subst HFR HFT
    clear hE
    go_wp2_with fail
    exact bodyPost_ret (v := .tuple #[.agg #[.slice none 0 0, .slice none 0 0], .bool false]) (by simp [results, Try.results27, go_sem, k2, k3]) rfl (TbPost.no ((HB1.out.setCell (by simp) _).setCell (by simp) _))
  | true =>
    by_cases h1 : s < 0
    · have q1 : decide (s < 0) = true := decide_eq_true h1
      have HF := Lib.hid (CN1.out h1)
      have HFR := CNO.out HF.out
      have HFT := HF.out
      subst HFR HFT
      clear hE h1
      go_wp2_with fail
      exact bodyPost_ret (v := .tuple #[.agg #[.slice none 0 0, .slice none 0 0], .bool false]) (by simp [results, Try.results27, go_sem, k2, k3]) rfl (TbPost.no ((HB1.out.setCell (by simp) _).setCell (by simp) _))
    have q1 : decide (s < 0) = false := decide_eq_false h1
    by_cases h3 : c < 0
    · have q3 : decide (c < 0) = true := decide_eq_true h3
      have HF := Lib.hid (CN3.out h3)
      have HFR := CNO.out HF.out
      have HFT := HF.out
      subst HFR HFT
      clear hE h3
      go_wp2_with fail
      exact bodyPost_ret (v := .tuple #[.agg #[.slice none 0 0, .slice none 0 0], .bool false]) (by simp [results, Try.results27, go_sem, k2, k3]) rfl (TbPost.no ((HB1.out.setCell (by simp) _).setCell (by simp) _))
    have q3 : decide (c < 0) = false := decide_eq_false h3
    by_cases h2 : 400 < s
    · have q2 : decide (400 < s) = true := decide_eq_true h2
      have HF := Lib.hid (CN2.out h2)
      have HFR := CNO.out HF.out
      have HFT := HF.out
      subst HFR HFT
      clear hE h2
      go_wp2_with fail
      exact bodyPost_ret (v := .tuple #[.agg #[.slice none 0 0, .slice none 0 0], .bool false]) (by simp [results, Try.results27, go_sem, k2, k3]) rfl (TbPost.no ((HB1.out.setCell (by simp) _).setCell (by simp) _))
    have q2 : decide (400 < s) = false := decide_eq_false h2
    by_cases h4 : 400 < c
    · have q4 : decide (400 < c) = true := decide_eq_true h4
      have HF := Lib.hid (CN4.out h4)
      have HFR := CNO.out HF.out
      have HFT := HF.out
      subst HFR HFT
      clear hE h4
      go_wp2_with fail
      exact bodyPost_ret (v := .tuple #[.agg #[.slice none 0 0, .slice none 0 0], .bool false]) (by simp [results, Try.results27, go_sem, k2, k3]) rfl (TbPost.no ((HB1.out.setCell (by simp) _).setCell (by simp) _))
    have q4 : decide (400 < c) = false := decide_eq_false h4
    have HF := Lib.hid (CYB.out hE (by omega) (by omega) (by omega) (by omega))
    have HFR := CYES.out HF.out
    have HFT := HF.out
    have HCO := Lib.hid (COK.out hE)
    subst HFR HFT
    obtain ⟨sn, rfl⟩ : ∃ n : Nat, s = n := ⟨s.toNat, by omega⟩
    obtain ⟨cn, rfl⟩ : ∃ n : Nat, c = n := ⟨c.toNat, by omega⟩
    have hsn : sn ≤ 400 := by omega
    have hcn : cn ≤ 400 := by omega
    obtain ⟨f, ef⟩ : ∃ f, f = cutFrom x (sn : Int) := ⟨_, rfl⟩
    obtain ⟨t, et⟩ : ∃ t, t = cutTo x (sn : Int) (cn : Int) := ⟨_, rfl⟩
    have hf1 : f ≤ x.rs.length := by rw [ef]; unfold cutFrom; omega
    have ht1 : t ≤ x.rs.length := by rw [et]; unfold cutTo; omega
    have hft : f ≤ t := by rw [ef, et]; unfold cutTo cutFrom; omega
    have HFE := Lib.hid (show f = min sn x.rs.length by rw [ef]; unfold cutFrom; simp)
    have HTE := Lib.hid (show t = min (f + cn) x.rs.length by rw [et, ef]; unfold cutTo; simp)
    have EF := Lib.hid ef
    have ET := Lib.hid et
    have HNR := Lib.hid (show (cutRows x (sn : Int) (cn : Int)).length + sumR (cutRows x (sn : Int) (cn : Int)) ≤ 1048576 from Nat.le_trans (cutRows_need x _ _) hn2)
    clear ef et hE h1 h2 h3 h4
    have TWC := Lib.hid (fun (va vb : Value) (B : Nat) (E : World) (ha : kStr.Rd B E va x.cs) (hb : kRow.Rd B E vb (cutRows x (sn : Int) (cn : Int))) (hB : B ≤ E.heap.size) => (l11Copy_any x.cs (cutRows x (sn : Int) (cn : Int)) va vb B E ha hb hB hn1 HNR.out))
    by_cases hsl : x.rs.length < sn
    · have qa : decide ((x.rs.length : Int) < (sn : Int)) = true := by simp; omega
      have hfe : f = x.rs.length := by have := HFE.out; omega
      have HFV := Lib.hid hfe
      clear hfe
      go_upto_region 6 with fail
      go_cut [8, 9] (fun a b wx => a = .int .i64 (f : Int) ∧ b = .int .i64 ((f : Int) + (cn : Int)) ∧ wx = w1)
      case first =>
        go_wp2_with fail
        all_goals go_meet
        all_goals exact ⟨congrArg (Value.int .i64) (by have := HFV.out; omega), congrArg (Value.int .i64) (by have := HFV.out; omega), rfl⟩
      case rest =>
      obtain ⟨rfl, rfl, rfl⟩ := hcut
      clear qa hsl HFV
      by_cases hcl : x.rs.length < f + cn
      · have qb : decide ((x.rs.length : Int) < (f : Int) + (cn : Int)) = true := by simp; omega
        have htt := Lib.hid (show t = x.rs.length by have := HTE.out; omega)
        go_upto_region 9 with fail
        by_cases hd : d = f
        · have CR := Lib.hid (fun (E : World) (hE : Below w.heap.size w E) => cut_at0 (s := (sn : Int)) (c := (cn : Int)) (HBR.out.to (hE.mono hB) (Nat.le_refl _)) EF.out hd)
          have hz : x.rs.length - f = 0 := by omega
          subst hd
          have htd : x.rs.length ≤ d := by omega
          have hft2 : d ≤ x.rs.length := by omega
          clear EF ET HFE HTE CNO CNB CN1 CN2 CN3 CN4 CYB CYES COK HF
          refine wp_region_E (last := 9) (S := fun w' => w'.cell? ⟨w.heap.size, 0, none⟩ = some (.slice p x.cs.length c1) ∧ w'.cell? ⟨w.heap.size, 1, none⟩ = some (.slice q x.rs.length d)) (by kernel_rfl) ⟨k0, k1⟩ (fun hHeld => ?_)
          have cW : Below wc.heap.size wc wc.drew := (Below.refl _ _).drew
          have szW : wc.heap.size ≤ wc.drew.heap.size := Nat.le_refl _
          have KK := Lib.hid (fun (E : World) (hE : Below wc.heap.size wc E) => HK.out E (HR1.out.trans (hE.mono (by omega))))
          generalize wc.drew = Z0 at cW hHeld szW ⊢
          (refine takeE (i := 0) (v := ?_) [] rfl (by kernel_rfl) (by kernel_rfl) (fun _ _ _ h => h) (Or.inl ⟨by kernel_rfl, ?_⟩) (by assumption) ?_; rotate_left; (focus (intro w hSw; (try dsimp only at hSw); go_simp; first | done | with_reducible rfl | fail "takeE")); (try simp only [Act.put, List.setIfInBounds_toArray, List.set_cons_zero, List.set_cons_succ]))
          (refine takeE (i := 1) (v := ?_) [] rfl (by kernel_rfl) (by kernel_rfl) (fun _ _ _ h => h) (Or.inl ⟨by kernel_rfl, ?_⟩) (by assumption) ?_; rotate_left; (focus (intro w hSw; (try dsimp only at hSw); go_simp; first | done | with_reducible rfl | fail "takeE")); (try simp only [Act.put, List.setIfInBounds_toArray, List.set_cons_zero, List.set_cons_succ]))
          (refine takeE (i := 2) (v := ?_) [] rfl (by kernel_rfl) (by kernel_rfl) (fun _ _ _ h => h) (Or.inl ⟨by kernel_rfl, ?_⟩) (by assumption) ?_; rotate_left; (focus (intro w hSw; (try dsimp only at hSw); go_simp; first | done | with_reducible rfl | fail "takeE")); (try simp only [Act.put, List.setIfInBounds_toArray, List.set_cons_zero, List.set_cons_succ]))
          (refine takeE (i := 3) (v := ?_) [] rfl (by kernel_rfl) (by kernel_rfl) (fun _ _ _ h => h) (Or.inl ⟨by kernel_rfl, ?_⟩) (by assumption) ?_; rotate_left; (focus (intro w hSw; (try dsimp only at hSw); go_simp; first | done | with_reducible rfl | fail "takeE")); (try simp only [Act.put, List.setIfInBounds_toArray, List.set_cons_zero, List.set_cons_succ]))
          (refine takeE (i := 4) (v := ?_) [] rfl (by kernel_rfl) (by kernel_rfl) (fun _ _ _ h => h) (Or.inl ⟨by kernel_rfl, ?_⟩) (by assumption) ?_; rotate_left; (focus (intro w hSw; (try dsimp only at hSw); go_simp; first | done | with_reducible rfl | fail "takeE")); (try simp only [Act.put, List.setIfInBounds_toArray, List.set_cons_zero, List.set_cons_succ]))
          (refine takeE (i := 5) (v := ?_) [] rfl (by kernel_rfl) (by kernel_rfl) (fun _ _ _ h => h) (Or.inl ⟨by kernel_rfl, ?_⟩) (by assumption) ?_; rotate_left; (focus (intro w hSw; (try dsimp only at hSw); go_simp; first | done | with_reducible rfl | fail "takeE")); (try simp only [Act.put, List.setIfInBounds_toArray, List.set_cons_zero, List.set_cons_succ]))
          (refine takeE (i := 6) (v := ?_) [] rfl (by kernel_rfl) (by kernel_rfl) (fun _ _ _ h => h) (Or.inl ⟨by kernel_rfl, ?_⟩) (by assumption) ?_; rotate_left; (focus (intro w hSw; (try dsimp only at hSw); go_simp; first | done | with_reducible rfl | fail "takeE")); (try simp only [Act.put, List.setIfInBounds_toArray, List.set_cons_zero, List.set_cons_succ]))
          refine oneE (i := 7) rfl (by kernel_rfl) (by kernel_rfl) (fun K hK => ?_)
          go_simp
          go_at_call 66
          refine (TWC.out _ _ B Z0 (HAR.out.to ((HB1.out.trans (cW.mono (by omega))).mono hB) (Nat.le_refl _)) (CR.out _ (HB1.out.trans (cW.mono (by omega)))) (by omega)).mono ?_
          rintro en w5 ⟨v5, F5, rfl, ho5, hf5, hb5⟩
          have k5 : Below wc.heap.size wc w5 := cW.trans (hb5.mono szW)
          have hs5 := k5.size
          have HF5 := Lib.hid (show ∀ y ∈ F5, w.heap.size + 2 ≤ y from fun y hy => by have := hf5 y hy; omega)
          have HO5 := Lib.hid ho5
          obtain ⟨pa, ca, qb, cb, rfl⟩ := ho5.form
          obtain ⟨⟨z0, z1, z2⟩, ⟨z3, z4⟩, z5, z6⟩ := KK.out w5 k5
          have HB5 := Lib.hid (HB1.out.trans (k5.mono (by omega)))
          clear ho5 hf5 hb5 k0 k1 k2 k3 k4 k5
          go_wp2_with fail
          refine hK.out _ _ ⟨z1, z2⟩ (fun hHeld => ?_)
          clear hK K
          (try simp only [Act.put, List.setIfInBounds_toArray, List.set_cons_zero, List.set_cons_succ])
          refine oneE (i := 8) rfl (by kernel_rfl) (by kernel_rfl) (fun K hK => ?_)
          go_simp
          refine hK.out _ _ ⟨(set_far _ _ _ _ _ _ (by omega)).trans ((set_far _ _ _ _ _ _ (by omega)).trans z1), (set_far _ _ _ _ _ _ (by omega)).trans ((set_far _ _ _ _ _ _ (by omega)).trans z2)⟩ (fun hHeld => ?_)
          clear hK K
          (try simp only [Act.put, List.setIfInBounds_toArray, List.set_cons_zero, List.set_cons_succ])
          refine lastE rfl (by kernel_rfl) (by kernel_rfl) (fun K hK => ?_)
          go_simp
          refine hK.out _ _ ?_
          clear hK K
          refine doneE (by kernel_rfl) ?_ _
          go_wp2_with fail
          exact bodyPost_ret (v := .tuple #[.agg #[.slice pa x.cs.length ca, .slice qb (cutRows x (sn : Int) (cn : Int)).length cb], .bool true]) (by simp [results, Try.results27, go_sem, z3, z4]) rfl ⟨_, F5, rfl, HO5.out.chg (G := [w.heap.size + 1]) (((Chg.refl _ _).setCell (by simp) _).setCell (by simp) _) (fun y hy => by have := HF5.out y hy; simp; omega), fun y hy => by have := HF5.out y hy; omega, (HB5.out.setCell (by simp) _).setCell (by simp) _⟩
        · have CR := Lib.hid (fun (E : World) (hE : Below w.heap.size w E) => cut_at (HBR.out.to (hE.mono hB) (Nat.le_refl _)) EF.out (show x.rs.length = _ from htt.out ▸ ET.out))
          have hdf : (d = f) = False := eq_false hd
          have hdf2 : ((d : Int) = (f : Int)) = False := eq_false (by omega)
          have htd : x.rs.length ≤ d := by omega
          clear EF ET HFE HTE CNO CNB CN1 CN2 CN3 CN4 CYB CYES COK HF hd
          refine wp_region_E (last := 9) (S := fun w' => w'.cell? ⟨w.heap.size, 0, none⟩ = some (.slice p x.cs.length c1) ∧ w'.cell? ⟨w.heap.size, 1, none⟩ = some (.slice q x.rs.length d)) (by kernel_rfl) ⟨k0, k1⟩ (fun hHeld => ?_)
          have cW : Below wc.heap.size wc wc.drew := (Below.refl _ _).drew
          have szW : wc.heap.size ≤ wc.drew.heap.size := Nat.le_refl _
          have KK := Lib.hid (fun (E : World) (hE : Below wc.heap.size wc E) => HK.out E (HR1.out.trans (hE.mono (by omega))))
          generalize wc.drew = Z0 at cW hHeld szW ⊢
          (refine takeE (i := 0) (v := ?_) [] rfl (by kernel_rfl) (by kernel_rfl) (fun _ _ _ h => h) (Or.inl ⟨by kernel_rfl, ?_⟩) (by assumption) ?_; rotate_left; (focus (intro w hSw; (try dsimp only at hSw); go_simp; first | done | with_reducible rfl | fail "takeE")); (try simp only [Act.put, List.setIfInBounds_toArray, List.set_cons_zero, List.set_cons_succ]))
          (refine takeE (i := 1) (v := ?_) [] rfl (by kernel_rfl) (by kernel_rfl) (fun _ _ _ h => h) (Or.inl ⟨by kernel_rfl, ?_⟩) (by assumption) ?_; rotate_left; (focus (intro w hSw; (try dsimp only at hSw); go_simp; first | done | with_reducible rfl | fail "takeE")); (try simp only [Act.put, List.setIfInBounds_toArray, List.set_cons_zero, List.set_cons_succ]))
          (refine takeE (i := 2) (v := ?_) [] rfl (by kernel_rfl) (by kernel_rfl) (fun _ _ _ h => h) (Or.inl ⟨by kernel_rfl, ?_⟩) (by assumption) ?_; rotate_left; (focus (intro w hSw; (try dsimp only at hSw); go_simp; first | done | with_reducible rfl | fail "takeE")); (try simp only [Act.put, List.setIfInBounds_toArray, List.set_cons_zero, List.set_cons_succ]))
          (refine takeE (i := 3) (v := ?_) [] rfl (by kernel_rfl) (by kernel_rfl) (fun _ _ _ h => h) (Or.inl ⟨by kernel_rfl, ?_⟩) (by assumption) ?_; rotate_left; (focus (intro w hSw; (try dsimp only at hSw); go_simp; first | done | with_reducible rfl | fail "takeE")); (try simp only [Act.put, List.setIfInBounds_toArray, List.set_cons_zero, List.set_cons_succ]))
          (refine takeE (i := 4) (v := ?_) [] rfl (by kernel_rfl) (by kernel_rfl) (fun _ _ _ h => h) (Or.inl ⟨by kernel_rfl, ?_⟩) (by assumption) ?_; rotate_left; (focus (intro w hSw; (try dsimp only at hSw); go_simp; first | done | with_reducible rfl | fail "takeE")); (try simp only [Act.put, List.setIfInBounds_toArray, List.set_cons_zero, List.set_cons_succ]))
          (refine takeE (i := 5) (v := ?_) [] rfl (by kernel_rfl) (by kernel_rfl) (fun _ _ _ h => h) (Or.inl ⟨by kernel_rfl, ?_⟩) (by assumption) ?_; rotate_left; (focus (intro w hSw; (try dsimp only at hSw); go_simp; first | done | with_reducible rfl | fail "takeE")); (try simp only [Act.put, List.setIfInBounds_toArray, List.set_cons_zero, List.set_cons_succ]))
          (refine takeE (i := 6) (v := ?_) [] rfl (by kernel_rfl) (by kernel_rfl) (fun _ _ _ h => h) (Or.inl ⟨by kernel_rfl, ?_⟩) (by assumption) ?_; rotate_left; (focus (intro w hSw; (try dsimp only at hSw); go_simp; first | done | with_reducible rfl | fail "takeE")); (try simp only [Act.put, List.setIfInBounds_toArray, List.set_cons_zero, List.set_cons_succ]))
          refine oneE (i := 7) rfl (by kernel_rfl) (by kernel_rfl) (fun K hK => ?_)
          go_simp
          go_at_call 66
          refine (TWC.out _ _ B Z0 (HAR.out.to ((HB1.out.trans (cW.mono (by omega))).mono hB) (Nat.le_refl _)) (CR.out _ (HB1.out.trans (cW.mono (by omega)))) (by omega)).mono ?_
          rintro en w5 ⟨v5, F5, rfl, ho5, hf5, hb5⟩
          have k5 : Below wc.heap.size wc w5 := cW.trans (hb5.mono szW)
          have hs5 := k5.size
          have HF5 := Lib.hid (show ∀ y ∈ F5, w.heap.size + 2 ≤ y from fun y hy => by have := hf5 y hy; omega)
          have HO5 := Lib.hid ho5
          obtain ⟨pa, ca, qb, cb, rfl⟩ := ho5.form
          obtain ⟨⟨z0, z1, z2⟩, ⟨z3, z4⟩, z5, z6⟩ := KK.out w5 k5
          have HB5 := Lib.hid (HB1.out.trans (k5.mono (by omega)))
          clear ho5 hf5 hb5 k0 k1 k2 k3 k4 k5
          go_wp2_with fail
          refine hK.out _ _ ⟨z1, z2⟩ (fun hHeld => ?_)
          clear hK K
          (try simp only [Act.put, List.setIfInBounds_toArray, List.set_cons_zero, List.set_cons_succ])
          refine oneE (i := 8) rfl (by kernel_rfl) (by kernel_rfl) (fun K hK => ?_)
          go_simp
          refine hK.out _ _ ⟨(set_far _ _ _ _ _ _ (by omega)).trans ((set_far _ _ _ _ _ _ (by omega)).trans z1), (set_far _ _ _ _ _ _ (by omega)).trans ((set_far _ _ _ _ _ _ (by omega)).trans z2)⟩ (fun hHeld => ?_)
          clear hK K
          (try simp only [Act.put, List.setIfInBounds_toArray, List.set_cons_zero, List.set_cons_succ])
          refine lastE rfl (by kernel_rfl) (by kernel_rfl) (fun K hK => ?_)
          go_simp
          refine hK.out _ _ ?_
          clear hK K
          refine doneE (by kernel_rfl) ?_ _
          go_wp2_with fail
          exact bodyPost_ret (v := .tuple #[.agg #[.slice pa x.cs.length ca, .slice qb (cutRows x (sn : Int) (cn : Int)).length cb], .bool true]) (by simp [results, Try.results27, go_sem, z3, z4]) rfl ⟨_, F5, rfl, HO5.out.chg (G := [w.heap.size + 1]) (((Chg.refl _ _).setCell (by simp) _).setCell (by simp) _) (fun y hy => by have := HF5.out y hy; simp; omega), fun y hy => by have := HF5.out y hy; omega, (HB5.out.setCell (by simp) _).setCell (by simp) _⟩
      · have qb : decide ((x.rs.length : Int) < (f : Int) + (cn : Int)) = false := by simp; omega
        have htt := Lib.hid (show t = f + cn by have := HTE.out; omega)
        go_upto_region 9 with fail
        rw [show ((f : Int) + (cn : Int)) = ((t : Nat) : Int) by have := htt.out; omega]
        by_cases hd : d = f
        · have CR := Lib.hid (fun (E : World) (hE : Below w.heap.size w E) => cut_at0 (s := (sn : Int)) (c := (cn : Int)) (HBR.out.to (hE.mono hB) (Nat.le_refl _)) EF.out hd)
          have htf : t = f := by have := HTE.out; omega
          subst hd htf
          have htd : t ≤ t := Nat.le_refl _
          clear EF ET HFE HTE CNO CNB CN1 CN2 CN3 CN4 CYB CYES COK HF
          refine wp_region_E (last := 9) (S := fun w' => w'.cell? ⟨w.heap.size, 0, none⟩ = some (.slice p x.cs.length c1) ∧ w'.cell? ⟨w.heap.size, 1, none⟩ = some (.slice q x.rs.length t)) (by kernel_rfl) ⟨k0, k1⟩ (fun hHeld => ?_)
          have cW : Below wc.heap.size wc wc.drew := (Below.refl _ _).drew
          have szW : wc.heap.size ≤ wc.drew.heap.size := Nat.le_refl _
          have KK := Lib.hid (fun (E : World) (hE : Below wc.heap.size wc E) => HK.out E (HR1.out.trans (hE.mono (by omega))))
          generalize wc.drew = Z0 at cW hHeld szW ⊢
          (refine takeE (i := 0) (v := ?_) [] rfl (by kernel_rfl) (by kernel_rfl) (fun _ _ _ h => h) (Or.inl ⟨by kernel_rfl, ?_⟩) (by assumption) ?_; rotate_left; (focus (intro w hSw; (try dsimp only at hSw); go_simp; first | done | with_reducible rfl | fail "takeE")); (try simp only [Act.put, List.setIfInBounds_toArray, List.set_cons_zero, List.set_cons_succ]))
          (refine takeE (i := 1) (v := ?_) [] rfl (by kernel_rfl) (by kernel_rfl) (fun _ _ _ h => h) (Or.inl ⟨by kernel_rfl, ?_⟩) (by assumption) ?_; rotate_left; (focus (intro w hSw; (try dsimp only at hSw); go_simp; first | done | with_reducible rfl | fail "takeE")); (try simp only [Act.put, List.setIfInBounds_toArray, List.set_cons_zero, List.set_cons_succ]))
          (refine takeE (i := 2) (v := ?_) [] rfl (by kernel_rfl) (by kernel_rfl) (fun _ _ _ h => h) (Or.inl ⟨by kernel_rfl, ?_⟩) (by assumption) ?_; rotate_left; (focus (intro w hSw; (try dsimp only at hSw); go_simp; first | done | with_reducible rfl | fail "takeE")); (try simp only [Act.put, List.setIfInBounds_toArray, List.set_cons_zero, List.set_cons_succ]))
          (refine takeE (i := 3) (v := ?_) [] rfl (by kernel_rfl) (by kernel_rfl) (fun _ _ _ h => h) (Or.inl ⟨by kernel_rfl, ?_⟩) (by assumption) ?_; rotate_left; (focus (intro w hSw; (try dsimp only at hSw); go_simp; first | done | with_reducible rfl | fail "takeE")); (try simp only [Act.put, List.setIfInBounds_toArray, List.set_cons_zero, List.set_cons_succ]))
          (refine takeE (i := 4) (v := ?_) [] rfl (by kernel_rfl) (by kernel_rfl) (fun _ _ _ h => h) (Or.inl ⟨by kernel_rfl, ?_⟩) (by assumption) ?_; rotate_left; (focus (intro w hSw; (try dsimp only at hSw); go_simp; first | done | with_reducible rfl | fail "takeE")); (try simp only [Act.put, List.setIfInBounds_toArray, List.set_cons_zero, List.set_cons_succ]))
          (refine takeE (i := 5) (v := ?_) [] rfl (by kernel_rfl) (by kernel_rfl) (fun _ _ _ h => h) (Or.inl ⟨by kernel_rfl, ?_⟩) (by assumption) ?_; rotate_left; (focus (intro w hSw; (try dsimp only at hSw); go_simp; first | done | with_reducible rfl | fail "takeE")); (try simp only [Act.put, List.setIfInBounds_toArray, List.set_cons_zero, List.set_cons_succ]))
          (refine takeE (i := 6) (v := ?_) [] rfl (by kernel_rfl) (by kernel_rfl) (fun _ _ _ h => h) (Or.inl ⟨by kernel_rfl, ?_⟩) (by assumption) ?_; rotate_left; (focus (intro w hSw; (try dsimp only at hSw); go_simp; first | done | with_reducible rfl | fail "takeE")); (try simp only [Act.put, List.setIfInBounds_toArray, List.set_cons_zero, List.set_cons_succ]))
          refine oneE (i := 7) rfl (by kernel_rfl) (by kernel_rfl) (fun K hK => ?_)
          go_simp
          go_at_call 66
          refine (TWC.out _ _ B Z0 (HAR.out.to ((HB1.out.trans (cW.mono (by omega))).mono hB) (Nat.le_refl _)) (CR.out _ (HB1.out.trans (cW.mono (by omega)))) (by omega)).mono ?_
          rintro en w5 ⟨v5, F5, rfl, ho5, hf5, hb5⟩
          have k5 : Below wc.heap.size wc w5 := cW.trans (hb5.mono szW)
          have hs5 := k5.size
          have HF5 := Lib.hid (show ∀ y ∈ F5, w.heap.size + 2 ≤ y from fun y hy => by have := hf5 y hy; omega)
          have HO5 := Lib.hid ho5
          obtain ⟨pa, ca, qb, cb, rfl⟩ := ho5.form
          obtain ⟨⟨z0, z1, z2⟩, ⟨z3, z4⟩, z5, z6⟩ := KK.out w5 k5
          have HB5 := Lib.hid (HB1.out.trans (k5.mono (by omega)))
          clear ho5 hf5 hb5 k0 k1 k2 k3 k4 k5
          go_wp2_with fail
          refine hK.out _ _ ⟨z1, z2⟩ (fun hHeld => ?_)
          clear hK K
          (try simp only [Act.put, List.setIfInBounds_toArray, List.set_cons_zero, List.set_cons_succ])
          refine oneE (i := 8) rfl (by kernel_rfl) (by kernel_rfl) (fun K hK => ?_)
          go_simp
          refine hK.out _ _ ⟨(set_far _ _ _ _ _ _ (by omega)).trans ((set_far _ _ _ _ _ _ (by omega)).trans z1), (set_far _ _ _ _ _ _ (by omega)).trans ((set_far _ _ _ _ _ _ (by omega)).trans z2)⟩ (fun hHeld => ?_)
          clear hK K
          (try simp only [Act.put, List.setIfInBounds_toArray, List.set_cons_zero, List.set_cons_succ])
          refine lastE rfl (by kernel_rfl) (by kernel_rfl) (fun K hK => ?_)
          go_simp
          refine hK.out _ _ ?_
          clear hK K
          refine doneE (by kernel_rfl) ?_ _
          go_wp2_with fail
          exact bodyPost_ret (v := .tuple #[.agg #[.slice pa x.cs.length ca, .slice qb (cutRows x (sn : Int) (cn : Int)).length cb], .bool true]) (by simp [results, Try.results27, go_sem, z3, z4]) rfl ⟨_, F5, rfl, HO5.out.chg (G := [w.heap.size + 1]) (((Chg.refl _ _).setCell (by simp) _).setCell (by simp) _) (fun y hy => by have := HF5.out y hy; simp; omega), fun y hy => by have := HF5.out y hy; omega, (HB5.out.setCell (by simp) _).setCell (by simp) _⟩
        · have CR := Lib.hid (fun (E : World) (hE : Below w.heap.size w E) => cut_at (HBR.out.to (hE.mono hB) (Nat.le_refl _)) EF.out ET.out)
          have hdf : (d = f) = False := eq_false hd
          have hdf2 : ((d : Int) = (f : Int)) = False := eq_false (by omega)
          have htd : t ≤ d := by omega
          clear EF ET HFE HTE CNO CNB CN1 CN2 CN3 CN4 CYB CYES COK HF hd
          refine wp_region_E (last := 9) (S := fun w' => w'.cell? ⟨w.heap.size, 0, none⟩ = some (.slice p x.cs.length c1) ∧ w'.cell? ⟨w.heap.size, 1, none⟩ = some (.slice q x.rs.length d)) (by kernel_rfl) ⟨k0, k1⟩ (fun hHeld => ?_)
          have cW : Below wc.heap.size wc wc.drew := (Below.refl _ _).drew
          have szW : wc.heap.size ≤ wc.drew.heap.size := Nat.le_refl _
          have KK := Lib.hid (fun (E : World) (hE : Below wc.heap.size wc E) => HK.out E (HR1.out.trans (hE.mono (by omega))))
          generalize wc.drew = Z0 at cW hHeld szW ⊢
          (refine takeE (i := 0) (v := ?_) [] rfl (by kernel_rfl) (by kernel_rfl) (fun _ _ _ h => h) (Or.inl ⟨by kernel_rfl, ?_⟩) (by assumption) ?_; rotate_left; (focus (intro w hSw; (try dsimp only at hSw); go_simp; first | done | with_reducible rfl | fail "takeE")); (try simp only [Act.put, List.setIfInBounds_toArray, List.set_cons_zero, List.set_cons_succ]))
          (refine takeE (i := 1) (v := ?_) [] rfl (by kernel_rfl) (by kernel_rfl) (fun _ _ _ h => h) (Or.inl ⟨by kernel_rfl, ?_⟩) (by assumption) ?_; rotate_left; (focus (intro w hSw; (try dsimp only at hSw); go_simp; first | done | with_reducible rfl | fail "takeE")); (try simp only [Act.put, List.setIfInBounds_toArray, List.set_cons_zero, List.set_cons_succ]))
          (refine takeE (i := 2) (v := ?_) [] rfl (by kernel_rfl) (by kernel_rfl) (fun _ _ _ h => h) (Or.inl ⟨by kernel_rfl, ?_⟩) (by assumption) ?_; rotate_left; (focus (intro w hSw; (try dsimp only at hSw); go_simp; first | done | with_reducible rfl | fail "takeE")); (try simp only [Act.put, List.setIfInBounds_toArray, List.set_cons_zero, List.set_cons_succ]))
          (refine takeE (i := 3) (v := ?_) [] rfl (by kernel_rfl) (by kernel_rfl) (fun _ _ _ h => h) (Or.inl ⟨by kernel_rfl, ?_⟩) (by assumption) ?_; rotate_left; (focus (intro w hSw; (try dsimp only at hSw); go_simp; first | done | with_reducible rfl | fail "takeE")); (try simp only [Act.put, List.setIfInBounds_toArray, List.set_cons_zero, List.set_cons_succ]))
          (refine takeE (i := 4) (v := ?_) [] rfl (by kernel_rfl) (by kernel_rfl) (fun _ _ _ h => h) (Or.inl ⟨by kernel_rfl, ?_⟩) (by assumption) ?_; rotate_left; (focus (intro w hSw; (try dsimp only at hSw); go_simp; first | done | with_reducible rfl | fail "takeE")); (try simp only [Act.put, List.setIfInBounds_toArray, List.set_cons_zero, List.set_cons_succ]))
          (refine takeE (i := 5) (v := ?_) [] rfl (by kernel_rfl) (by kernel_rfl) (fun _ _ _ h => h) (Or.inl ⟨by kernel_rfl, ?_⟩) (by assumption) ?_; rotate_left; (focus (intro w hSw; (try dsimp only at hSw); go_simp; first | done | with_reducible rfl | fail "takeE")); (try simp only [Act.put, List.setIfInBounds_toArray, List.set_cons_zero, List.set_cons_succ]))
          (refine takeE (i := 6) (v := ?_) [] rfl (by kernel_rfl) (by kernel_rfl) (fun _ _ _ h => h) (Or.inl ⟨by kernel_rfl, ?_⟩) (by assumption) ?_; rotate_left; (focus (intro w hSw; (try dsimp only at hSw); go_simp; first | done | with_reducible rfl | fail "takeE")); (try simp only [Act.put, List.setIfInBounds_toArray, List.set_cons_zero, List.set_cons_succ]))
          refine oneE (i := 7) rfl (by kernel_rfl) (by kernel_rfl) (fun K hK => ?_)
          go_simp
          go_at_call 66
          refine (TWC.out _ _ B Z0 (HAR.out.to ((HB1.out.trans (cW.mono (by omega))).mono hB) (Nat.le_refl _)) (CR.out _ (HB1.out.trans (cW.mono (by omega)))) (by omega)).mono ?_
          rintro en w5 ⟨v5, F5, rfl, ho5, hf5, hb5⟩
          have k5 : Below wc.heap.size wc w5 := cW.trans (hb5.mono szW)
          have hs5 := k5.size
          have HF5 := Lib.hid (show ∀ y ∈ F5, w.heap.size + 2 ≤ y from fun y hy => by have := hf5 y hy; omega)
          have HO5 := Lib.hid ho5
          obtain ⟨pa, ca, qb, cb, rfl⟩ := ho5.form
          obtain ⟨⟨z0, z1, z2⟩, ⟨z3, z4⟩, z5, z6⟩ := KK.out w5 k5
          have HB5 := Lib.hid (HB1.out.trans (k5.mono (by omega)))
          clear ho5 hf5 hb5 k0 k1 k2 k3 k4 k5
          go_wp2_with fail
          refine hK.out _ _ ⟨z1, z2⟩ (fun hHeld => ?_)
          clear hK K
          (try simp only [Act.put, List.setIfInBounds_toArray, List.set_cons_zero, List.set_cons_succ])
          refine oneE (i := 8) rfl (by kernel_rfl) (by kernel_rfl) (fun K hK => ?_)
          go_simp
          refine hK.out _ _ ⟨(set_far _ _ _ _ _ _ (by omega)).trans ((set_far _ _ _ _ _ _ (by omega)).trans z1), (set_far _ _ _ _ _ _ (by omega)).trans ((set_far _ _ _ _ _ _ (by omega)).trans z2)⟩ (fun hHeld => ?_)
          clear hK K
          (try simp only [Act.put, List.setIfInBounds_toArray, List.set_cons_zero, List.set_cons_succ])
          refine lastE rfl (by kernel_rfl) (by kernel_rfl) (fun K hK => ?_)
          go_simp
          refine hK.out _ _ ?_
          clear hK K
          refine doneE (by kernel_rfl) ?_ _
          go_wp2_with fail
          exact bodyPost_ret (v := .tuple #[.agg #[.slice pa x.cs.length ca, .slice qb (cutRows x (sn : Int) (cn : Int)).length cb], .bool true]) (by simp [results, Try.results27, go_sem, z3, z4]) rfl ⟨_, F5, rfl, HO5.out.chg (G := [w.heap.size + 1]) (((Chg.refl _ _).setCell (by simp) _).setCell (by simp) _) (fun y hy => by have := HF5.out y hy; simp; omega), fun y hy => by have := HF5.out y hy; omega, (HB5.out.setCell (by simp) _).setCell (by simp) _⟩
    · have qa : decide ((x.rs.length : Int) < (sn : Int)) = false := by simp; omega
      have hfe : f = sn := by have := HFE.out; omega
      have HFV := Lib.hid hfe
      clear hfe
      go_upto_region 6 with fail
      go_cut [8, 9] (fun a b wx => a = .int .i64 (f : Int) ∧ b = .int .i64 ((f : Int) + (cn : Int)) ∧ wx = w1)
      case first =>
        go_wp2_with fail
        all_goals go_meet
        all_goals exact ⟨congrArg (Value.int .i64) (by have := HFV.out; omega), congrArg (Value.int .i64) (by have := HFV.out; omega), rfl⟩
      case rest =>
      obtain ⟨rfl, rfl, rfl⟩ := hcut
      clear qa hsl HFV
      by_cases hcl : x.rs.length < f + cn
      · have qb : decide ((x.rs.length : Int) < (f : Int) + (cn : Int)) = true := by simp; omega
        have htt := Lib.hid (show t = x.rs.length by have := HTE.out; omega)
        go_upto_region 9 with fail
        by_cases hd : d = f
        · have CR := Lib.hid (fun (E : World) (hE : Below w.heap.size w E) => cut_at0 (s := (sn : Int)) (c := (cn : Int)) (HBR.out.to (hE.mono hB) (Nat.le_refl _)) EF.out hd)
          have hz : x.rs.length - f = 0 := by omega
          subst hd
          have htd : x.rs.length ≤ d := by omega
          have hft2 : d ≤ x.rs.length := by omega
          clear EF ET HFE HTE CNO CNB CN1 CN2 CN3 CN4 CYB CYES COK HF
          refine wp_region_E (last := 9) (S := fun w' => w'.cell? ⟨w.heap.size, 0, none⟩ = some (.slice p x.cs.length c1) ∧ w'.cell? ⟨w.heap.size, 1, none⟩ = some (.slice q x.rs.length d)) (by kernel_rfl) ⟨k0, k1⟩ (fun hHeld => ?_)
          have cW : Below wc.heap.size wc wc.drew := (Below.refl _ _).drew
          have szW : wc.heap.size ≤ wc.drew.heap.size := Nat.le_refl _
          have KK := Lib.hid (fun (E : World) (hE : Below wc.heap.size wc E) => HK.out E (HR1.out.trans (hE.mono (by omega))))
          generalize wc.drew = Z0 at cW hHeld szW ⊢
          (refine takeE (i := 0) (v := ?_) [] rfl (by kernel_rfl) (by kernel_rfl) (fun _ _ _ h => h) (Or.inl ⟨by kernel_rfl, ?_⟩) (by assumption) ?_; rotate_left; (focus (intro w hSw; (try dsimp only at hSw); go_simp; first | done | with_reducible rfl | fail "takeE")); (try simp only [Act.put, List.setIfInBounds_toArray, List.set_cons_zero, List.set_cons_succ]))
          (refine takeE (i := 1) (v := ?_) [] rfl (by kernel_rfl) (by kernel_rfl) (fun _ _ _ h => h) (Or.inl ⟨by kernel_rfl, ?_⟩) (by assumption) ?_; rotate_left; (focus (intro w hSw; (try dsimp only at hSw); go_simp; first | done | with_reducible rfl | fail "takeE")); (try simp only [Act.put, List.setIfInBounds_toArray, List.set_cons_zero, List.set_cons_succ]))
          (refine takeE (i := 2) (v := ?_) [] rfl (by kernel_rfl) (by kernel_rfl) (fun _ _ _ h => h) (Or.inl ⟨by kernel_rfl, ?_⟩) (by assumption) ?_; rotate_left; (focus (intro w hSw; (try dsimp only at hSw); go_simp; first | done | with_reducible rfl | fail "takeE")); (try simp only [Act.put, List.setIfInBounds_toArray, List.set_cons_zero, List.set_cons_succ]))
          (refine takeE (i := 3) (v := ?_) [] rfl (by kernel_rfl) (by kernel_rfl) (fun _ _ _ h => h) (Or.inl ⟨by kernel_rfl, ?_⟩) (by assumption) ?_; rotate_left; (focus (intro w hSw; (try dsimp only at hSw); go_simp; first | done | with_reducible rfl | fail "takeE")); (try simp only [Act.put, List.setIfInBounds_toArray, List.set_cons_zero, List.set_cons_succ]))
          (refine takeE (i := 4) (v := ?_) [] rfl (by kernel_rfl) (by kernel_rfl) (fun _ _ _ h => h) (Or.inl ⟨by kernel_rfl, ?_⟩) (by assumption) ?_; rotate_left; (focus (intro w hSw; (try dsimp only at hSw); go_simp; first | done | with_reducible rfl | fail "takeE")); (try simp only [Act.put, List.setIfInBounds_toArray, List.set_cons_zero, List.set_cons_succ]))
          (refine takeE (i := 5) (v := ?_) [] rfl (by kernel_rfl) (by kernel_rfl) (fun _ _ _ h => h) (Or.inl ⟨by kernel_rfl, ?_⟩) (by assumption) ?_; rotate_left; (focus (intro w hSw; (try dsimp only at hSw); go_simp; first | done | with_reducible rfl | fail "takeE")); (try simp only [Act.put, List.setIfInBounds_toArray, List.set_cons_zero, List.set_cons_succ]))
          (refine takeE (i := 6) (v := ?_) [] rfl (by kernel_rfl) (by kernel_rfl) (fun _ _ _ h => h) (Or.inl ⟨by kernel_rfl, ?_⟩) (by assumption) ?_; rotate_left; (focus (intro w hSw; (try dsimp only at hSw); go_simp; first | done | with_reducible rfl | fail "takeE")); (try simp only [Act.put, List.setIfInBounds_toArray, List.set_cons_zero, List.set_cons_succ]))
          refine oneE (i := 7) rfl (by kernel_rfl) (by kernel_rfl) (fun K hK => ?_)
          go_simp
          go_at_call 66
          refine (TWC.out _ _ B Z0 (HAR.out.to ((HB1.out.trans (cW.mono (by omega))).mono hB) (Nat.le_refl _)) (CR.out _ (HB1.out.trans (cW.mono (by omega)))) (by omega)).mono ?_
          rintro en w5 ⟨v5, F5, rfl, ho5, hf5, hb5⟩
          have k5 : Below wc.heap.size wc w5 := cW.trans (hb5.mono szW)
          have hs5 := k5.size
          have HF5 := Lib.hid (show ∀ y ∈ F5, w.heap.size + 2 ≤ y from fun y hy => by have := hf5 y hy; omega)
          have HO5 := Lib.hid ho5
          obtain ⟨pa, ca, qb, cb, rfl⟩ := ho5.form
          obtain ⟨⟨z0, z1, z2⟩, ⟨z3, z4⟩, z5, z6⟩ := KK.out w5 k5
          have HB5 := Lib.hid (HB1.out.trans (k5.mono (by omega)))
          clear ho5 hf5 hb5 k0 k1 k2 k3 k4 k5
          go_wp2_with fail
          refine hK.out _ _ ⟨z1, z2⟩ (fun hHeld => ?_)
          clear hK K
          (try simp only [Act.put, List.setIfInBounds_toArray, List.set_cons_zero, List.set_cons_succ])
          refine oneE (i := 8) rfl (by kernel_rfl) (by kernel_rfl) (fun K hK => ?_)
          go_simp
          refine hK.out _ _ ⟨(set_far _ _ _ _ _ _ (by omega)).trans ((set_far _ _ _ _ _ _ (by omega)).trans z1), (set_far _ _ _ _ _ _ (by omega)).trans ((set_far _ _ _ _ _ _ (by omega)).trans z2)⟩ (fun hHeld => ?_)
          clear hK K
          (try simp only [Act.put, List.setIfInBounds_toArray, List.set_cons_zero, List.set_cons_succ])
          refine lastE rfl (by kernel_rfl) (by kernel_rfl) (fun K hK => ?_)
          go_simp
          refine hK.out _ _ ?_
          clear hK K
          refine doneE (by kernel_rfl) ?_ _
          go_wp2_with fail
          exact bodyPost_ret (v := .tuple #[.agg #[.slice pa x.cs.length ca, .slice qb (cutRows x (sn : Int) (cn : Int)).length cb], .bool true]) (by simp [results, Try.results27, go_sem, z3, z4]) rfl ⟨_, F5, rfl, HO5.out.chg (G := [w.heap.size + 1]) (((Chg.refl _ _).setCell (by simp) _).setCell (by simp) _) (fun y hy => by have := HF5.out y hy; simp; omega), fun y hy => by have := HF5.out y hy; omega, (HB5.out.setCell (by simp) _).setCell (by simp) _⟩
        · have CR := Lib.hid (fun (E : World) (hE : Below w.heap.size w E) => cut_at (HBR.out.to (hE.mono hB) (Nat.le_refl _)) EF.out (show x.rs.length = _ from htt.out ▸ ET.out))
          have hdf : (d = f) = False := eq_false hd
          have hdf2 : ((d : Int) = (f : Int)) = False := eq_false (by omega)
          have htd : x.rs.length ≤ d := by omega
          clear EF ET HFE HTE CNO CNB CN1 CN2 CN3 CN4 CYB CYES COK HF hd
          refine wp_region_E (last := 9) (S := fun w' => w'.cell? ⟨w.heap.size, 0, none⟩ = some (.slice p x.cs.length c1) ∧ w'.cell? ⟨w.heap.size, 1, none⟩ = some (.slice q x.rs.length d)) (by kernel_rfl) ⟨k0, k1⟩ (fun hHeld => ?_)
          have cW : Below wc.heap.size wc wc.drew := (Below.refl _ _).drew
          have szW : wc.heap.size ≤ wc.drew.heap.size := Nat.le_refl _
          have KK := Lib.hid (fun (E : World) (hE : Below wc.heap.size wc E) => HK.out E (HR1.out.trans (hE.mono (by omega))))
          generalize wc.drew = Z0 at cW hHeld szW ⊢
          (refine takeE (i := 0) (v := ?_) [] rfl (by kernel_rfl) (by kernel_rfl) (fun _ _ _ h => h) (Or.inl ⟨by kernel_rfl, ?_⟩) (by assumption) ?_; rotate_left; (focus (intro w hSw; (try dsimp only at hSw); go_simp; first | done | with_reducible rfl | fail "takeE")); (try simp only [Act.put, List.setIfInBounds_toArray, List.set_cons_zero, List.set_cons_succ]))
          (refine takeE (i := 1) (v := ?_) [] rfl (by kernel_rfl) (by kernel_rfl) (fun _ _ _ h => h) (Or.inl ⟨by kernel_rfl, ?_⟩) (by assumption) ?_; rotate_left; (focus (intro w hSw; (try dsimp only at hSw); go_simp; first | done | with_reducible rfl | fail "takeE")); (try simp only [Act.put, List.setIfInBounds_toArray, List.set_cons_zero, List.set_cons_succ]))
          (refine takeE (i := 2) (v := ?_) [] rfl (by kernel_rfl) (by kernel_rfl) (fun _ _ _ h => h) (Or.inl ⟨by kernel_rfl, ?_⟩) (by assumption) ?_; rotate_left; (focus (intro w hSw; (try dsimp only at hSw); go_simp; first | done | with_reducible rfl | fail "takeE")); (try simp only [Act.put, List.setIfInBounds_toArray, List.set_cons_zero, List.set_cons_succ]))
          (refine takeE (i := 3) (v := ?_) [] rfl (by kernel_rfl) (by kernel_rfl) (fun _ _ _ h => h) (Or.inl ⟨by kernel_rfl, ?_⟩) (by assumption) ?_; rotate_left; (focus (intro w hSw; (try dsimp only at hSw); go_simp; first | done | with_reducible rfl | fail "takeE")); (try simp only [Act.put, List.setIfInBounds_toArray, List.set_cons_zero, List.set_cons_succ]))
          (refine takeE (i := 4) (v := ?_) [] rfl (by kernel_rfl) (by kernel_rfl) (fun _ _ _ h => h) (Or.inl ⟨by kernel_rfl, ?_⟩) (by assumption) ?_; rotate_left; (focus (intro w hSw; (try dsimp only at hSw); go_simp; first | done | with_reducible rfl | fail "takeE")); (try simp only [Act.put, List.setIfInBounds_toArray, List.set_cons_zero, List.set_cons_succ]))
          (refine takeE (i := 5) (v := ?_) [] rfl (by kernel_rfl) (by kernel_rfl) (fun _ _ _ h => h) (Or.inl ⟨by kernel_rfl, ?_⟩) (by assumption) ?_; rotate_left; (focus (intro w hSw; (try dsimp only at hSw); go_simp; first | done | with_reducible rfl | fail "takeE")); (try simp only [Act.put, List.setIfInBounds_toArray, List.set_cons_zero, List.set_cons_succ]))
          (refine takeE (i := 6) (v := ?_) [] rfl (by kernel_rfl) (by kernel_rfl) (fun _ _ _ h => h) (Or.inl ⟨by kernel_rfl, ?_⟩) (by assumption) ?_; rotate_left; (focus (intro w hSw; (try dsimp only at hSw); go_simp; first | done | with_reducible rfl | fail "takeE")); (try simp only [Act.put, List.setIfInBounds_toArray, List.set_cons_zero, List.set_cons_succ]))
          refine oneE (i := 7) rfl (by kernel_rfl) (by kernel_rfl) (fun K hK => ?_)
          go_simp
          go_at_call 66
          refine (TWC.out _ _ B Z0 (HAR.out.to ((HB1.out.trans (cW.mono (by omega))).mono hB) (Nat.le_refl _)) (CR.out _ (HB1.out.trans (cW.mono (by omega)))) (by omega)).mono ?_
          rintro en w5 ⟨v5, F5, rfl, ho5, hf5, hb5⟩
          have k5 : Below wc.heap.size wc w5 := cW.trans (hb5.mono szW)
          have hs5 := k5.size
          have HF5 := Lib.hid (show ∀ y ∈ F5, w.heap.size + 2 ≤ y from fun y hy => by have := hf5 y hy; omega)
          have HO5 := Lib.hid ho5
          obtain ⟨pa, ca, qb, cb, rfl⟩ := ho5.form
          obtain ⟨⟨z0, z1, z2⟩, ⟨z3, z4⟩, z5, z6⟩ := KK.out w5 k5
          have HB5 := Lib.hid (HB1.out.trans (k5.mono (by omega)))
          clear ho5 hf5 hb5 k0 k1 k2 k3 k4 k5
          go_wp2_with fail
          refine hK.out _ _ ⟨z1, z2⟩ (fun hHeld => ?_)
          clear hK K
          (try simp only [Act.put, List.setIfInBounds_toArray, List.set_cons_zero, List.set_cons_succ])
          refine oneE (i := 8) rfl (by kernel_rfl) (by kernel_rfl) (fun K hK => ?_)
          go_simp
          refine hK.out _ _ ⟨(set_far _ _ _ _ _ _ (by omega)).trans ((set_far _ _ _ _ _ _ (by omega)).trans z1), (set_far _ _ _ _ _ _ (by omega)).trans ((set_far _ _ _ _ _ _ (by omega)).trans z2)⟩ (fun hHeld => ?_)
          clear hK K
          (try simp only [Act.put, List.setIfInBounds_toArray, List.set_cons_zero, List.set_cons_succ])
          refine lastE rfl (by kernel_rfl) (by kernel_rfl) (fun K hK => ?_)
          go_simp
          refine hK.out _ _ ?_
          clear hK K
          refine doneE (by kernel_rfl) ?_ _
          go_wp2_with fail
          exact bodyPost_ret (v := .tuple #[.agg #[.slice pa x.cs.length ca, .slice qb (cutRows x (sn : Int) (cn : Int)).length cb], .bool true]) (by simp [results, Try.results27, go_sem, z3, z4]) rfl ⟨_, F5, rfl, HO5.out.chg (G := [w.heap.size + 1]) (((Chg.refl _ _).setCell (by simp) _).setCell (by simp) _) (fun y hy => by have := HF5.out y hy; simp; omega), fun y hy => by have := HF5.out y hy; omega, (HB5.out.setCell (by simp) _).setCell (by simp) _⟩
      · have qb : decide ((x.rs.length : Int) < (f : Int) + (cn : Int)) = false := by simp; omega
        have htt := Lib.hid (show t = f + cn by have := HTE.out; omega)
        go_upto_region 9 with fail
        rw [show ((f : Int) + (cn : Int)) = ((t : Nat) : Int) by have := htt.out; omega]
        by_cases hd : d = f
        · have CR := Lib.hid (fun (E : World) (hE : Below w.heap.size w E) => cut_at0 (s := (sn : Int)) (c := (cn : Int)) (HBR.out.to (hE.mono hB) (Nat.le_refl _)) EF.out hd)
          have htf : t = f := by have := HTE.out; omega
          subst hd htf
          have htd : t ≤ t := Nat.le_refl _
          clear EF ET HFE HTE CNO CNB CN1 CN2 CN3 CN4 CYB CYES COK HF
          refine wp_region_E (last := 9) (S := fun w' => w'.cell? ⟨w.heap.size, 0, none⟩ = some (.slice p x.cs.length c1) ∧ w'.cell? ⟨w.heap.size, 1, none⟩ = some (.slice q x.rs.length t)) (by kernel_rfl) ⟨k0, k1⟩ (fun hHeld => ?_)
          have cW : Below wc.heap.size wc wc.drew := (Below.refl _ _).drew
          have szW : wc.heap.size ≤ wc.drew.heap.size := Nat.le_refl _
          have KK := Lib.hid (fun (E : World) (hE : Below wc.heap.size wc E) => HK.out E (HR1.out.trans (hE.mono (by omega))))
          generalize wc.drew = Z0 at cW hHeld szW ⊢
          (refine takeE (i := 0) (v := ?_) [] rfl (by kernel_rfl) (by kernel_rfl) (fun _ _ _ h => h) (Or.inl ⟨by kernel_rfl, ?_⟩) (by assumption) ?_; rotate_left; (focus (intro w hSw; (try dsimp only at hSw); go_simp; first | done | with_reducible rfl | fail "takeE")); (try simp only [Act.put, List.setIfInBounds_toArray, List.set_cons_zero, List.set_cons_succ]))
          (refine takeE (i := 1) (v := ?_) [] rfl (by kernel_rfl) (by kernel_rfl) (fun _ _ _ h => h) (Or.inl ⟨by kernel_rfl, ?_⟩) (by assumption) ?_; rotate_left; (focus (intro w hSw; (try dsimp only at hSw); go_simp; first | done | with_reducible rfl | fail "takeE")); (try simp only [Act.put, List.setIfInBounds_toArray, List.set_cons_zero, List.set_cons_succ]))
          (refine takeE (i := 2) (v := ?_) [] rfl (by kernel_rfl) (by kernel_rfl) (fun _ _ _ h => h) (Or.inl ⟨by kernel_rfl, ?_⟩) (by assumption) ?_; rotate_left; (focus (intro w hSw; (try dsimp only at hSw); go_simp; first | done | with_reducible rfl | fail "takeE")); (try simp only [Act.put, List.setIfInBounds_toArray, List.set_cons_zero, List.set_cons_succ]))
          (refine takeE (i := 3) (v := ?_) [] rfl (by kernel_rfl) (by kernel_rfl) (fun _ _ _ h => h) (Or.inl ⟨by kernel_rfl, ?_⟩) (by assumption) ?_; rotate_left; (focus (intro w hSw; (try dsimp only at hSw); go_simp; first | done | with_reducible rfl | fail "takeE")); (try simp only [Act.put, List.setIfInBounds_toArray, List.set_cons_zero, List.set_cons_succ]))
          (refine takeE (i := 4) (v := ?_) [] rfl (by kernel_rfl) (by kernel_rfl) (fun _ _ _ h => h) (Or.inl ⟨by kernel_rfl, ?_⟩) (by assumption) ?_; rotate_left; (focus (intro w hSw; (try dsimp only at hSw); go_simp; first | done | with_reducible rfl | fail "takeE")); (try simp only [Act.put, List.setIfInBounds_toArray, List.set_cons_zero, List.set_cons_succ]))
          (refine takeE (i := 5) (v := ?_) [] rfl (by kernel_rfl) (by kernel_rfl) (fun _ _ _ h => h) (Or.inl ⟨by kernel_rfl, ?_⟩) (by assumption) ?_; rotate_left; (focus (intro w hSw; (try dsimp only at hSw); go_simp; first | done | with_reducible rfl | fail "takeE")); (try simp only [Act.put, List.setIfInBounds_toArray, List.set_cons_zero, List.set_cons_succ]))
          (refine takeE (i := 6) (v := ?_) [] rfl (by kernel_rfl) (by kernel_rfl) (fun _ _ _ h => h) (Or.inl ⟨by kernel_rfl, ?_⟩) (by assumption) ?_; rotate_left; (focus (intro w hSw; (try dsimp only at hSw); go_simp; first | done | with_reducible rfl | fail "takeE")); (try simp only [Act.put, List.setIfInBounds_toArray, List.set_cons_zero, List.set_cons_succ]))
          refine oneE (i := 7) rfl (by kernel_rfl) (by kernel_rfl) (fun K hK => ?_)
          go_simp
          go_at_call 66
          refine (TWC.out _ _ B Z0 (HAR.out.to ((HB1.out.trans (cW.mono (by omega))).mono hB) (Nat.le_refl _)) (CR.out _ (HB1.out.trans (cW.mono (by omega)))) (by omega)).mono ?_
          rintro en w5 ⟨v5, F5, rfl, ho5, hf5, hb5⟩
          have k5 : Below wc.heap.size wc w5 := cW.trans (hb5.mono szW)
          have hs5 := k5.size
          have HF5 := Lib.hid (show ∀ y ∈ F5, w.heap.size + 2 ≤ y from fun y hy => by have := hf5 y hy; omega)
          have HO5 := Lib.hid ho5
          obtain ⟨pa, ca, qb, cb, rfl⟩ := ho5.form
          obtain ⟨⟨z0, z1, z2⟩, ⟨z3, z4⟩, z5, z6⟩ := KK.out w5 k5
          have HB5 := Lib.hid (HB1.out.trans (k5.mono (by omega)))
          clear ho5 hf5 hb5 k0 k1 k2 k3 k4 k5
          go_wp2_with fail
          refine hK.out _ _ ⟨z1, z2⟩ (fun hHeld => ?_)
          clear hK K
          (try simp only [Act.put, List.setIfInBounds_toArray, List.set_cons_zero, List.set_cons_succ])
          refine oneE (i := 8) rfl (by kernel_rfl) (by kernel_rfl) (fun K hK => ?_)
          go_simp
          refine hK.out _ _ ⟨(set_far _ _ _ _ _ _ (by omega)).trans ((set_far _ _ _ _ _ _ (by omega)).trans z1), (set_far _ _ _ _ _ _ (by omega)).trans ((set_far _ _ _ _ _ _ (by omega)).trans z2)⟩ (fun hHeld => ?_)
          clear hK K
          (try simp only [Act.put, List.setIfInBounds_toArray, List.set_cons_zero, List.set_cons_succ])
          refine lastE rfl (by kernel_rfl) (by kernel_rfl) (fun K hK => ?_)
          go_simp
          refine hK.out _ _ ?_
          clear hK K
          refine doneE (by kernel_rfl) ?_ _
          go_wp2_with fail
          exact bodyPost_ret (v := .tuple #[.agg #[.slice pa x.cs.length ca, .slice qb (cutRows x (sn : Int) (cn : Int)).length cb], .bool true]) (by simp [results, Try.results27, go_sem, z3, z4]) rfl ⟨_, F5, rfl, HO5.out.chg (G := [w.heap.size + 1]) (((Chg.refl _ _).setCell (by simp) _).setCell (by simp) _) (fun y hy => by have := HF5.out y hy; simp; omega), fun y hy => by have := HF5.out y hy; omega, (HB5.out.setCell (by simp) _).setCell (by simp) _⟩
        · have CR := Lib.hid (fun (E : World) (hE : Below w.heap.size w E) => cut_at (HBR.out.to (hE.mono hB) (Nat.le_refl _)) EF.out ET.out)
          have hdf : (d = f) = False := eq_false hd
          have hdf2 : ((d : Int) = (f : Int)) = False := eq_false (by omega)
          have htd : t ≤ d := by omega
          clear EF ET HFE HTE CNO CNB CN1 CN2 CN3 CN4 CYB CYES COK HF hd
          refine wp_region_E (last := 9) (S := fun w' => w'.cell? ⟨w.heap.size, 0, none⟩ = some (.slice p x.cs.length c1) ∧ w'.cell? ⟨w.heap.size, 1, none⟩ = some (.slice q x.rs.length d)) (by kernel_rfl) ⟨k0, k1⟩ (fun hHeld => ?_)
          have cW : Below wc.heap.size wc wc.drew := (Below.refl _ _).drew
          have szW : wc.heap.size ≤ wc.drew.heap.size := Nat.le_refl _
          have KK := Lib.hid (fun (E : World) (hE : Below wc.heap.size wc E) => HK.out E (HR1.out.trans (hE.mono (by omega))))
          generalize wc.drew = Z0 at cW hHeld szW ⊢
          (refine takeE (i := 0) (v := ?_) [] rfl (by kernel_rfl) (by kernel_rfl) (fun _ _ _ h => h) (Or.inl ⟨by kernel_rfl, ?_⟩) (by assumption) ?_; rotate_left; (focus (intro w hSw; (try dsimp only at hSw); go_simp; first | done | with_reducible rfl | fail "takeE")); (try simp only [Act.put, List.setIfInBounds_toArray, List.set_cons_zero, List.set_cons_succ]))
          (refine takeE (i := 1) (v := ?_) [] rfl (by kernel_rfl) (by kernel_rfl) (fun _ _ _ h => h) (Or.inl ⟨by kernel_rfl, ?_⟩) (by assumption) ?_; rotate_left; (focus (intro w hSw; (try dsimp only at hSw); go_simp; first | done | with_reducible rfl | fail "takeE")); (try simp only [Act.put, List.setIfInBounds_toArray, List.set_cons_zero, List.set_cons_succ]))
          (refine takeE (i := 2) (v := ?_) [] rfl (by kernel_rfl) (by kernel_rfl) (fun _ _ _ h => h) (Or.inl ⟨by kernel_rfl, ?_⟩) (by assumption) ?_; rotate_left; (focus (intro w hSw; (try dsimp only at hSw); go_simp; first | done | with_reducible rfl | fail "takeE")); (try simp only [Act.put, List.setIfInBounds_toArray, List.set_cons_zero, List.set_cons_succ]))
          (refine takeE (i := 3) (v := ?_) [] rfl (by kernel_rfl) (by kernel_rfl) (fun _ _ _ h => h) (Or.inl ⟨by kernel_rfl, ?_⟩) (by assumption) ?_; rotate_left; (focus (intro w hSw; (try dsimp only at hSw); go_simp; first | done | with_reducible rfl | fail "takeE")); (try simp only [Act.put, List.setIfInBounds_toArray, List.set_cons_zero, List.set_cons_succ]))
          (refine takeE (i := 4) (v := ?_) [] rfl (by kernel_rfl) (by kernel_rfl) (fun _ _ _ h => h) (Or.inl ⟨by kernel_rfl, ?_⟩) (by assumption) ?_; rotate_left; (focus (intro w hSw; (try dsimp only at hSw); go_simp; first | done | with_reducible rfl | fail "takeE")); (try simp only [Act.put, List.setIfInBounds_toArray, List.set_cons_zero, List.set_cons_succ]))
          (refine takeE (i := 5) (v := ?_) [] rfl (by kernel_rfl) (by kernel_rfl) (fun _ _ _ h => h) (Or.inl ⟨by kernel_rfl, ?_⟩) (by assumption) ?_; rotate_left; (focus (intro w hSw; (try dsimp only at hSw); go_simp; first | done | with_reducible rfl | fail "takeE")); (try simp only [Act.put, List.setIfInBounds_toArray, List.set_cons_zero, List.set_cons_succ]))
          (refine takeE (i := 6) (v := ?_) [] rfl (by kernel_rfl) (by kernel_rfl) (fun _ _ _ h => h) (Or.inl ⟨by kernel_rfl, ?_⟩) (by assumption) ?_; rotate_left; (focus (intro w hSw; (try dsimp only at hSw); go_simp; first | done | with_reducible rfl | fail "takeE")); (try simp only [Act.put, List.setIfInBounds_toArray, List.set_cons_zero, List.set_cons_succ]))
          refine oneE (i := 7) rfl (by kernel_rfl) (by kernel_rfl) (fun K hK => ?_)
          go_simp
          go_at_call 66
          refine (TWC.out _ _ B Z0 (HAR.out.to ((HB1.out.trans (cW.mono (by omega))).mono hB) (Nat.le_refl _)) (CR.out _ (HB1.out.trans (cW.mono (by omega)))) (by omega)).mono ?_
          rintro en w5 ⟨v5, F5, rfl, ho5, hf5, hb5⟩
          have k5 : Below wc.heap.size wc w5 := cW.trans (hb5.mono szW)
          have hs5 := k5.size
          have HF5 := Lib.hid (show ∀ y ∈ F5, w.heap.size + 2 ≤ y from fun y hy => by have := hf5 y hy; omega)
          have HO5 := Lib.hid ho5
          obtain ⟨pa, ca, qb, cb, rfl⟩ := ho5.form
          obtain ⟨⟨z0, z1, z2⟩, ⟨z3, z4⟩, z5, z6⟩ := KK.out w5 k5
          have HB5 := Lib.hid (HB1.out.trans (k5.mono (by omega)))
          clear ho5 hf5 hb5 k0 k1 k2 k3 k4 k5
          go_wp2_with fail
          refine hK.out _ _ ⟨z1, z2⟩ (fun hHeld => ?_)
          clear hK K
          (try simp only [Act.put, List.setIfInBounds_toArray, List.set_cons_zero, List.set_cons_succ])
          refine oneE (i := 8) rfl (by kernel_rfl) (by kernel_rfl) (fun K hK => ?_)
          go_simp
          refine hK.out _ _ ⟨(set_far _ _ _ _ _ _ (by omega)).trans ((set_far _ _ _ _ _ _ (by omega)).trans z1), (set_far _ _ _ _ _ _ (by omega)).trans ((set_far _ _ _ _ _ _ (by omega)).trans z2)⟩ (fun hHeld => ?_)
          clear hK K
          (try simp only [Act.put, List.setIfInBounds_toArray, List.set_cons_zero, List.set_cons_succ])
          refine lastE rfl (by kernel_rfl) (by kernel_rfl) (fun K hK => ?_)
          go_simp
          refine hK.out _ _ ?_
          clear hK K
          refine doneE (by kernel_rfl) ?_ _
          go_wp2_with fail
          exact bodyPost_ret (v := .tuple #[.agg #[.slice pa x.cs.length ca, .slice qb (cutRows x (sn : Int) (cn : Int)).length cb], .bool true]) (by simp [results, Try.results27, go_sem, z3, z4]) rfl ⟨_, F5, rfl, HO5.out.chg (G := [w.heap.size + 1]) (((Chg.refl _ _).setCell (by simp) _).setCell (by simp) _) (fun y hy => by have := HF5.out y hy; simp; omega), fun y hy => by have := HF5.out y hy; omega, (HB5.out.setCell (by simp) _).setCell (by simp) _⟩
end Go.Proofs.Ytfdkmngkpihpbaa
