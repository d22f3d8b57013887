/- WalkBefore, on both sides. -/
import Derived.Test.YtckmganhabgbfaaWkO
namespace Go.Proofs.Ytckmganhabgbfaa
open Go.RowKit

theorem three_cells {wk w : World} {c0 c1 c2 : Int} {T : TypeId} (h : Below (w.heap.size + 1) (w.alloc (.cells #[.int .i64 c0, .int .i64 c1, .int .i64 c2] T)) wk) : Sl 1 intCells wk.heap.size wk (.slice (some ⟨w.heap.size, 0, none⟩) 3 3) [c0, c1, c2] := by
  have hs := h.size
  simp at hs
  refine ⟨_, _, _, rfl, rfl, Nat.le_refl _, by unfold maxLen; omega, fun i hi => ⟨w.heap.size, 0, rfl, by omega, fun j x hx => ?_⟩⟩
  simp only [List.length_cons, List.length_nil] at hi
  obtain rfl : j = 0 := by
    have hj := (List.getElem?_eq_some_iff.1 hx).1
    simp [intCells] at hj; omega
  obtain rfl | rfl | rfl : i = 0 ∨ i = 1 ∨ i = 2 := by omega
  · simp [intCells] at hx; subst hx; exact keepc h (by omega) (by simp [go_sem])
  · simp [intCells] at hx; subst hx; exact keepc h (by omega) (by simp [go_sem])
  · simp [intCells] at hx; subst hx; exact keepc h (by omega) (by simp [go_sem])

set_option maxRecDepth 100000 in
set_option maxHeartbeats 16000000 in
theorem compareWalks_any (x y : Wk) (v v' : Value) (B : Nat) (w : World) (hx : x.At B w v) (hy : y.At B w v') (hB : B ≤ w.heap.size) :
    Calls Try.prog 66 #[v, v'] w fun e w' => e = .returned (.int .i64 (cmpW x y)) ∧ Below w.heap.size w w' := by
  obtain ⟨a, b, rfl, ha, hb⟩ := hx
  obtain ⟨a', b', rfl, ha', hb'⟩ := hy
  obtain ⟨p, cap, rfl⟩ := hb.form
  obtain ⟨q, cq, rfl⟩ := hb'.form
  have H1 := Lib.hid ha
  have H2 := Lib.hid hb
  have H3 := Lib.hid ha'
  have H4 := Lib.hid hb'
  clear ha hb ha' hb'
  obtain ⟨R, eR⟩ : ∃ R, R = cmpW x y := ⟨_, rfl⟩
  have HR := Lib.hid (eR.trans (cmpW_or x y))
  rw [← eR]
  clear eR
  obtain ⟨c0, e0⟩ : ∃ c, c = cmpI x.es.length y.es.length := ⟨_, rfl⟩
  obtain ⟨c1, e1⟩ : ∃ c, c = cmpL x.ns y.ns := ⟨_, rfl⟩
  obtain ⟨c2, e2⟩ : ∃ c, c = cmpL x.es y.es := ⟨_, rfl⟩
  rw [← e0, ← e1, ← e2] at HR
  obtain ⟨W, eW⟩ : ∃ W, W = (w.alloc (.cells #[a, .slice p x.es.length cap] 25)).alloc (.cells #[a', .slice q y.es.length cq] 25) := ⟨_, rfl⟩
  have HV := Lib.hid (show Below w.heap.size w W by rw [eW]; exact two_more (Nat.le_refl _) _ _)
  have hs0 : w.heap.size + 2 ≤ W.heap.size := by rw [eW]; simp
  have HK := Lib.hid (show ∀ wk, Below W.heap.size W wk → w.heap.size + 2 ≤ wk.heap.size ∧ wk.cell? ⟨w.heap.size, 0, none⟩ = some a ∧ wk.cell? ⟨w.heap.size, 1, none⟩ = some (.slice p x.es.length cap) ∧ wk.cell? ⟨w.heap.size + 1, 0, none⟩ = some a' ∧ wk.cell? ⟨w.heap.size + 1, 1, none⟩ = some (.slice q y.es.length cq) from
    fun wk hk => by rw [eW] at hk; exact two_boxes (hk.mono (by simp)))
  have CL := Lib.hid (fun (E : World) (hE : Below W.heap.size W E) => show Calls Try.prog 89 #[.int .i64 (x.es.length : Int), .int .i64 (y.es.length : Int)] E (fun e w' => e = .returned (.int .i64 c0) ∧ Below E.heap.size E w') from e0 ▸ cmpInt_any _ _ E)
  have CN := Lib.hid (fun (E : World) (hE : Below W.heap.size W E) => show Calls Try.prog 90 #[a, a'] E (fun e w' => e = .returned (.int .i64 c1) ∧ Below E.heap.size E w') from
    e1 ▸ slCompareInt_any x.ns y.ns a a' B E (H1.out.below ((HV.out.mono hB).trans (hE.mono (by omega)))) (H3.out.below ((HV.out.mono hB).trans (hE.mono (by omega)))) (by have := hE.size; omega))
  have CE := Lib.hid (fun (E : World) (hE : Below W.heap.size W E) => show Calls Try.prog 90 #[.slice p x.es.length cap, .slice q y.es.length cq] E (fun e w' => e = .returned (.int .i64 c2) ∧ Below E.heap.size E w') from
    e2 ▸ slCompareInt_any x.es y.es _ _ B E (H2.out.below ((HV.out.mono hB).trans (hE.mono (by omega)))) (H4.out.below ((HV.out.mono hB).trans (hE.mono (by omega)))) (by have := hE.size; omega))
  have EW := Lib.hid eW
  clear e0 e1 e2 eW
  go_enter Try.func66, Try.ntmps66
  go_wp2_with fail
  rw [← EW.out]
  have rr0 := Below.refl W.heap.size W
  go_upto_region 1 with fail
  go_cut [4] (fun s wx => s = .int .i64 R ∧ Below W.heap.size W wx)
  case first =>
    go_region_held3 (fun w' => w'.cell? ⟨w.heap.size, 0, none⟩ = some a ∧ w'.cell? ⟨w.heap.size, 1, none⟩ = some (.slice p x.es.length cap) ∧ w'.cell? ⟨w.heap.size + 1, 0, none⟩ = some a' ∧ w'.cell? ⟨w.heap.size + 1, 1, none⟩ = some (.slice q y.es.length cq))
      (exact (HK.out _ (show Below W.heap.size W _ by ((repeat (first | with_reducible assumption | with_reducible exact Below.refl _ _ | refine Below.setCell ?_ (by (first | omega | (simp; omega) | (simp; done) | fail "sml")) _ | refine Below.drew ?_ | refine Below.alloc ?_ (by (first | omega | (simp; omega) | (simp; done) | fail "sml")) _)); first | done | fail "chs"))).2)
      (first
        | (go_at_call 89; with_reducible refine (CL.out _ (by ((repeat (first | with_reducible assumption | with_reducible exact Below.refl _ _ | refine Below.setCell ?_ (by (first | omega | (simp; omega) | (simp; done) | fail "sml")) _ | refine Below.drew ?_ | refine Below.alloc ?_ (by (first | omega | (simp; omega) | (simp; done) | fail "sml")) _)); first | done | fail "chs"))).mono ?_; rintro en w1 ⟨rfl, hb1⟩; have hk1 := Below.trans (show Below W.heap.size W _ by ((repeat (first | with_reducible assumption | with_reducible exact Below.refl _ _ | refine Below.setCell ?_ (by (first | omega | (simp; omega) | (simp; done) | fail "sml")) _ | refine Below.drew ?_ | refine Below.alloc ?_ (by (first | omega | (simp; omega) | (simp; done) | fail "sml")) _)); first | done | fail "chs")) (hb1.mono (by (first | omega | (simp; omega) | (simp; done) | fail "sml"))); have z1 := hk1.size; clear hb1)
        | (go_at_call 90; with_reducible refine (CN.out _ (by ((repeat (first | with_reducible assumption | with_reducible exact Below.refl _ _ | refine Below.setCell ?_ (by (first | omega | (simp; omega) | (simp; done) | fail "sml")) _ | refine Below.drew ?_ | refine Below.alloc ?_ (by (first | omega | (simp; omega) | (simp; done) | fail "sml")) _)); first | done | fail "chs"))).mono ?_; rintro en w2 ⟨rfl, hb2⟩; have hk2 := Below.trans (show Below W.heap.size W _ by ((repeat (first | with_reducible assumption | with_reducible exact Below.refl _ _ | refine Below.setCell ?_ (by (first | omega | (simp; omega) | (simp; done) | fail "sml")) _ | refine Below.drew ?_ | refine Below.alloc ?_ (by (first | omega | (simp; omega) | (simp; done) | fail "sml")) _)); first | done | fail "chs")) (hb2.mono (by (first | omega | (simp; omega) | (simp; done) | fail "sml"))); have z2 := hk2.size; clear hb2)
        | (go_at_call 90; with_reducible refine (CE.out _ (by ((repeat (first | with_reducible assumption | with_reducible exact Below.refl _ _ | refine Below.setCell ?_ (by (first | omega | (simp; omega) | (simp; done) | fail "sml")) _ | refine Below.drew ?_ | refine Below.alloc ?_ (by (first | omega | (simp; omega) | (simp; done) | fail "sml")) _)); first | done | fail "chs"))).mono ?_; rintro en w3 ⟨rfl, hb3⟩; have hk3 := Below.trans (show Below W.heap.size W _ by ((repeat (first | with_reducible assumption | with_reducible exact Below.refl _ _ | refine Below.setCell ?_ (by (first | omega | (simp; omega) | (simp; done) | fail "sml")) _ | refine Below.drew ?_ | refine Below.alloc ?_ (by (first | omega | (simp; omega) | (simp; done) | fail "sml")) _)); first | done | fail "chs")) (hb3.mono (by (first | omega | (simp; omega) | (simp; done) | fail "sml"))); have z3 := hk3.size; clear hb3)
        | (go_at_call 88; with_reducible refine (orInt_any [c0, c1, c2] _ _ _ (three_cells (Below.refl _ _)) (Nat.le_refl _)).mono ?_; rintro en w4 ⟨rfl, hb4⟩; have hk4 := Below.trans (show Below W.heap.size W _ by ((repeat (first | with_reducible assumption | with_reducible exact Below.refl _ _ | refine Below.setCell ?_ (by (first | omega | (simp; omega) | (simp; done) | fail "sml")) _ | refine Below.drew ?_ | refine Below.alloc ?_ (by (first | omega | (simp; omega) | (simp; done) | fail "sml")) _)); first | done | fail "chs")) (hb4.mono (by (first | omega | (simp; omega) | (simp; done) | fail "sml"))); clear hb4))
    all_goals (go_wp2_with fail; go_meet)
    all_goals exact ⟨by rw [HR.out], by ((repeat (first | with_reducible assumption | with_reducible exact Below.refl _ _ | refine Below.setCell ?_ (by (first | omega | (simp; omega) | (simp; done) | fail "sml")) _ | refine Below.drew ?_ | refine Below.alloc ?_ (by (first | omega | (simp; omega) | (simp; done) | fail "sml")) _)); first | done | fail "chs")⟩
  case rest =>
    obtain ⟨rfl, hbx⟩ := hcut
    have HX := Lib.hid (HV.out.trans (hbx.mono (by omega)))
    clear hbx rr0
    go_wp2_with fail
    go_ret
    exact ⟨rfl, HX.out⟩

set_option maxHeartbeats 2000000 in
theorem l5Order_any (x y : Wk) (v v' : Value) (B : Nat) (w : World) (hx : x.At B w v) (hy : y.At B w v') (hB : B ≤ w.heap.size) (hn : x.need ≤ 1048576) (hn' : y.need ≤ 1048576) :
    Calls Try.prog 67 #[v, v'] w fun e w' => ∃ r : Int, e = .returned (.int .i64 r) ∧ (r < 0 ↔ cmpW x y < 0) ∧ Below w.heap.size w w' := by
  obtain ⟨a, b, rfl, ha, hb⟩ := hx
  obtain ⟨a', b', rfl, ha', hb'⟩ := hy
  obtain ⟨p, cap, rfl⟩ := hb.form
  obtain ⟨q, cq, rfl⟩ := hb'.form
  have hl1 : x.ns.length ≤ 1048576 := by unfold Wk.need at hn; omega
  have hl2 : y.ns.length ≤ 1048576 := by unfold Wk.need at hn'; omega
  have hl3 : x.es.length ≤ 1048576 := by unfold Wk.need at hn; omega
  have hl4 : y.es.length ≤ 1048576 := by unfold Wk.need at hn'; omega
  have H1 := Lib.hid ha
  have H2 := Lib.hid hb
  have H3 := Lib.hid ha'
  have H4 := Lib.hid hb'
  clear ha hb ha' hb' hn hn'
  have HV := Lib.hid (two_more (w := w) (Nat.le_refl _) (.cells #[a, .slice p x.es.length cap] 25) (.cells #[a', .slice q y.es.length cq] 25))
  by_cases hl : x.es.length = y.es.length
  · have q1 : ((x.es.length : Int) != (y.es.length : Int)) = false := by rw [hl]; simp
    have HC := Lib.hid (show cmpW x y = if cmpL x.ns y.ns ≠ 0 then cmpL x.ns y.ns else cmpL x.es y.es by unfold cmpW; rw [hl, cmpI_eq]; simp)
    clear hl
    go_enter Try.func67, Try.ntmps67
    go_wp2_with fail
    with_reducible refine (l5Less_any x.ns y.ns a a' B _ (H1.out.below (two_more hB _ _)) (H3.out.below (two_more hB _ _)) (by simp; omega) hl1 hl2).mono ?_
    rintro e w1 ⟨r, rfl, hr, hb1⟩
    obtain ⟨hs1, _, p1, _, q2⟩ := two_boxes (hb1.mono (by simp))
    have HB1 := Lib.hid (HV.out.trans (hb1.mono (by simp; omega)))
    clear hb1
    by_cases h0 : r = 0
    · subst h0
      have HC2 := Lib.hid (show cmpW x y = cmpL x.es y.es by rw [HC.out, if_neg]; intro h; rcases hr with hr | hr | hr <;> omega)
      clear hr
      go_wp2_with fail
      with_reducible refine (l5Less_any x.es y.es _ _ B _ (H2.out.below (HB1.out.mono hB)) (H4.out.below (HB1.out.mono hB)) (by omega) hl3 hl4).mono ?_
      rintro e w2 ⟨r2, rfl, hr2, hb2⟩
      have HB2 := Lib.hid (HB1.out.trans (hb2.mono (by omega)))
      have HR := Lib.hid (show r2 < 0 ↔ cmpW x y < 0 by rw [HC2.out]; rcases hr2 with hr | hr | hr <;> omega)
      clear hb2 hr2
      go_wp2_with fail
      go_ret
      exact ⟨_, rfl, HR.out, HB2.out⟩
    · have HR := Lib.hid (show r < 0 ↔ cmpW x y < 0 by
        rw [HC.out, if_pos (by rcases hr with hr | hr | hr <;> omega)]
        rcases hr with hr | hr | hr <;> omega)
      have q3 : (r != 0) = true := by simpa using h0
      clear hr h0
      go_wp2_with fail
      go_ret
      exact ⟨_, rfl, HR.out, HB1.out⟩
  · have q1 : ((x.es.length : Int) != (y.es.length : Int)) = true := by simp; omega
    have HC := Lib.hid (show (x.es.length : Int) - (y.es.length : Int) < 0 ↔ cmpW x y < 0 by
      unfold cmpW cmpI
      by_cases h : (x.es.length : Int) < y.es.length
      · simp only [if_pos h]; simp; omega
      · simp only [if_neg h, if_pos (show (y.es.length : Int) < x.es.length by omega)]; simp; omega)
    clear hl
    go_enter Try.func67, Try.ntmps67
    go_wp2_with fail
    go_ret
    exact ⟨_, rfl, HC.out, HV.out⟩

set_option maxHeartbeats 1000000 in
theorem walkBefore_any (x y : Wk) (v v' : Value) (B : Nat) (w : World) (hx : x.At B w v) (hy : y.At B w v') (hB : B ≤ w.heap.size) :
    Calls Try.prog 29 #[v, v'] w fun e w' => e = .returned (.bool (wkBefore x y)) ∧ Below w.heap.size w w' := by
  have H1 := Lib.hid hx
  have H2 := Lib.hid hy
  obtain ⟨p, c, q, d, rfl⟩ := hx.form
  obtain ⟨p', c', q', d', rfl⟩ := hy.form
  clear hx hy
  go_enter Try.func29, Try.ntmps29
  go_wp2_with fail
  with_reducible refine (compareWalks_any x y _ _ B _ (H1.out.to (two_more hB _ _) (Nat.le_refl _)) (H2.out.to (two_more hB _ _) (Nat.le_refl _)) (by simp; omega)).mono ?_
  rintro e w1 ⟨rfl, hb1⟩
  have HB1 := Lib.hid ((two_more (Nat.le_refl _) _ _).trans (hb1.mono (by simp; omega)))
  clear hb1
  go_wp2_with fail
  go_ret
  exact ⟨rfl, HB1.out⟩

set_option maxHeartbeats 1000000 in
theorem specWalkBefore_any (x y : Wk) (v v' : Value) (B : Nat) (w : World) (hx : x.At B w v) (hy : y.At B w v') (hB : B ≤ w.heap.size) (hn : x.need ≤ 1048576) (hn' : y.need ≤ 1048576) :
    Calls Try.prog 30 #[v, v'] w fun e w' => e = .returned (.bool (wkBefore x y)) ∧ Below w.heap.size w w' := by
  have H1 := Lib.hid hx
  have H2 := Lib.hid hy
  obtain ⟨p, c, q, d, rfl⟩ := hx.form
  obtain ⟨p', c', q', d', rfl⟩ := hy.form
  clear hx hy
  go_enter Try.func30, Try.ntmps30
  go_wp2_with fail
  with_reducible refine (l5Order_any x y _ _ B _ (H1.out.to (two_more hB _ _) (Nat.le_refl _)) (H2.out.to (two_more hB _ _) (Nat.le_refl _)) (by simp; omega) hn hn').mono ?_
  rintro e w1 ⟨r, rfl, hr, hb1⟩
  have HB1 := Lib.hid ((two_more (Nat.le_refl _) _ _).trans (hb1.mono (by simp; omega)))
  have HR := Lib.hid hr
  clear hb1 hr
  go_wp2_with fail
  go_ret
  exact ⟨ret_bool (by unfold wkBefore; exact decide_eq_decide.2 HR.out), HB1.out⟩
end Go.Proofs.Ytckmganhabgbfaa
