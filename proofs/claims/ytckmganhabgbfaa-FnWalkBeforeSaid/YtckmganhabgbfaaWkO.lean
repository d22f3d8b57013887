/- The order of walks, on both sides. -/
import Derived.Test.YtckmganhabgbfaaWkB
import Derived.Deep.RegionHeld3
import Derived.Deep.DeepCutAuto
namespace Go.Proofs.Ytckmganhabgbfaa
open Go.RowKit

set_option maxHeartbeats 400000 in
theorem isNaNInt_any (a : Int) (w : World) : Calls Try.prog 99 #[.int .i64 a] w fun e w' => e = .returned (.bool false) ∧ Below w.heap.size w w' := by
  have hq : (a != a) = false := by simp
  go_enter Try.func99, Try.ntmps99
  go_wp2_with fail
  go_ret
  exact ⟨rfl, Below.refl _ _⟩

set_option maxHeartbeats 1000000 in
theorem cmpInt_any (a b : Int) (w : World) : Calls Try.prog 89 #[.int .i64 a, .int .i64 b] w fun e w' => e = .returned (.int .i64 (cmpI a b)) ∧ Below w.heap.size w w' := by
  go_enter Try.func89, Try.ntmps89
  go_wp2_with fail
  with_reducible refine (isNaNInt_any a _).mono ?_
  rintro e w1 ⟨rfl, hb1⟩
  have hs1 := hb1.size
  have HB1 := Lib.hid hb1
  clear hb1
  go_wp2_with fail
  with_reducible refine (isNaNInt_any b _).mono ?_
  rintro e w2 ⟨rfl, hb2⟩
  have HB2 := Lib.hid (HB1.out.trans (hb2.mono hs1))
  clear hb2
  by_cases h1 : a < b
  · have q1 : decide (a < b) = true := decide_eq_true h1
    have HC := Lib.hid (show cmpI a b = -1 by unfold cmpI; rw [if_pos h1])
    clear h1
    go_wp2_with fail
    go_ret
    exact ⟨ret_int HC.out.symm, HB2.out⟩
  · have q1 : decide (a < b) = false := decide_eq_false h1
    by_cases h2 : b < a
    · have q2 : decide (b < a) = true := decide_eq_true h2
      have HC := Lib.hid (show cmpI a b = 1 by unfold cmpI; rw [if_neg h1, if_pos h2])
      clear h1 h2
      go_wp2_with fail
      go_ret
      exact ⟨ret_int HC.out.symm, HB2.out⟩
    · have q2 : decide (b < a) = false := decide_eq_false h2
      have HC := Lib.hid (show cmpI a b = 0 by unfold cmpI; rw [if_neg h1, if_neg h2])
      clear h1 h2
      go_wp2_with fail
      go_ret
      exact ⟨ret_int HC.out.symm, HB2.out⟩

theorem cmpI_lt {a b : Int} (h : a < b) : cmpI a b = -1 := by unfold cmpI; rw [if_pos h]
theorem cmpI_gt {a b : Int} (h : b < a) : cmpI a b = 1 := by unfold cmpI; rw [if_neg (by omega), if_pos h]
theorem cmpI_eq (a : Int) : cmpI a a = 0 := by unfold cmpI; rw [if_neg (by omega), if_neg (by omega)]

set_option maxRecDepth 100000 in
set_option maxHeartbeats 2000000 in
theorem slCompareInt_any (xs ys : List Int) (v v' : Value) (B : Nat) (w : World) (hv : Sl 1 intCells B w v xs) (hv' : Sl 1 intCells B w v' ys) (hB : B ≤ w.heap.size) :
    Calls Try.prog 90 #[v, v'] w fun e w' => e = .returned (.int .i64 (cmpL xs ys)) ∧ Below w.heap.size w w' := by
  obtain ⟨p, cap, rfl⟩ := hv.form
  obtain ⟨p', cap', rfl⟩ := hv'.form
  have hm := hv.max
  have hm' := hv'.max
  unfold maxLen at hm hm'
  go_enter Try.func90, Try.ntmps90
  go_wp2_with fail
  go_loopw [11] (fun i wr => ∃ k : Nat, k ≤ xs.length ∧ k ≤ ys.length ∧ i = .int .i64 k ∧ Alike xs ys k ∧ Below w.heap.size w wr) (fun i _ => xs.length - (intOf i).toNat)
  case atStart => exact ⟨0, Nat.zero_le _, Nat.zero_le _, rfl, Alike.zero _ _, Below.refl _ _⟩
  case round =>
    obtain ⟨k, hk, hky, rfl, ha, hbw⟩ := hrel
    have hsz := hbw.size
    have HB := Lib.hid hbw
    have HA := Lib.hid ha
    clear hbw ha
    by_cases hlt : k < xs.length
    · obtain ⟨b, off, rfl, hb, c0⟩ := (hv.below (HB.out.mono hB)).it hlt
      by_cases hlt2 : k < ys.length
      · obtain ⟨b', off', rfl, hb', d0⟩ := (hv'.below (HB.out.mono hB)).it hlt2
        have g1 := Lib.hid (HA.out.lt hlt hlt2)
        have g2 := Lib.hid (HA.out.gt hlt hlt2)
        have g3 := Lib.hid (HA.out.eq hlt hlt2)
        obtain ⟨x, ex⟩ : ∃ x, x = xs[k] := ⟨_, rfl⟩
        obtain ⟨y, ey⟩ : ∃ y, y = ys[k] := ⟨_, rfl⟩
        rw [← ex, ← ey] at g1 g2 g3
        rw [← ex] at c0
        rw [← ey] at d0
        clear ex ey
        go_wp2_with fail
        with_reducible refine (cmpInt_any x y _).mono ?_
        rintro e w1 ⟨rfl, hb1⟩
        have HB1 := Lib.hid (HB.out.trans (hb1.mono hsz))
        clear hb1
        by_cases h1 : x < y
        · have HG := Lib.hid (g1.out h1)
          rw [cmpI_lt h1]
          clear h1 g1 g2 g3
          go_wp2_with fail
          go_ret
          exact ⟨ret_int HG.out.symm, HB1.out⟩
        · by_cases h2 : y < x
          · have HG := Lib.hid (g2.out h2)
            rw [cmpI_gt h2]
            clear h1 h2 g1 g2 g3
            go_wp2_with fail
            go_ret
            exact ⟨ret_int HG.out.symm, HB1.out⟩
          · have HG := Lib.hid (show Alike xs ys (k + 1) from g3.out (by omega) (by omega))
            obtain rfl : x = y := by omega
            rw [cmpI_eq]
            clear h1 h2 g1 g2 g3
            go_wp2_with fail
            go_roundw
            case rel => exact ⟨k + 1, by omega, by omega, by go_num, HG.out, HB1.out⟩
            case measure => simp [intOf]; omega
      · have HG := Lib.hid (HA.out.long hlt (by omega))
        go_wp2_with fail
        go_ret
        exact ⟨ret_int HG.out.symm, HB.out⟩
    · by_cases hlt2 : k < ys.length
      · have HG := Lib.hid (HA.out.short (by omega) hlt2)
        go_wp2_with fail
        go_ret
        exact ⟨ret_int HG.out.symm, HB.out⟩
      · have HG := Lib.hid (HA.out.same (by omega) (by omega))
        go_wp2_with fail
        go_ret
        exact ⟨ret_int HG.out.symm, HB.out⟩

set_option maxRecDepth 100000 in
set_option maxHeartbeats 2000000 in
theorem l5Less_any (xs ys : List Int) (v v' : Value) (B : Nat) (w : World) (hv : Sl 1 intCells B w v xs) (hv' : Sl 1 intCells B w v' ys) (hB : B ≤ w.heap.size) (hx : xs.length ≤ 1048576) (hy : ys.length ≤ 1048576) :
    Calls Try.prog 91 #[v, v'] w fun e w' => ∃ r : Int, e = .returned (.int .i64 r) ∧ ((r < 0 ∧ cmpL xs ys = -1) ∨ (r = 0 ∧ cmpL xs ys = 0) ∨ (0 < r ∧ cmpL xs ys = 1)) ∧ Below w.heap.size w w' := by
  obtain ⟨p, cap, rfl⟩ := hv.form
  obtain ⟨p', cap', rfl⟩ := hv'.form
  have hm := hv.max
  have hm' := hv'.max
  unfold maxLen at hm hm'
  go_enter Try.func91, Try.ntmps91
  go_wp2_with fail
  go_loopw [5] (fun i wr => ∃ k : Nat, k ≤ xs.length ∧ k ≤ ys.length ∧ i = .int .i64 k ∧ Alike xs ys k ∧ Below w.heap.size w wr) (fun i _ => xs.length - (intOf i).toNat)
  case atStart => exact ⟨0, Nat.zero_le _, Nat.zero_le _, rfl, Alike.zero _ _, Below.refl _ _⟩
  case round =>
    obtain ⟨k, hk, hky, rfl, ha, hbw⟩ := hrel
    have hsz := hbw.size
    have HB := Lib.hid hbw
    have HA := Lib.hid ha
    clear hbw ha
    by_cases hlt : k < xs.length
    · obtain ⟨b, off, rfl, hb, c0⟩ := (hv.below (HB.out.mono hB)).it hlt
      by_cases hlt2 : k < ys.length
      · obtain ⟨b', off', rfl, hb', d0⟩ := (hv'.below (HB.out.mono hB)).it hlt2
        have g1 := Lib.hid (HA.out.lt hlt hlt2)
        have g2 := Lib.hid (HA.out.gt hlt hlt2)
        have g3 := Lib.hid (HA.out.eq hlt hlt2)
        obtain ⟨x, ex⟩ : ∃ x, x = xs[k] := ⟨_, rfl⟩
        obtain ⟨y, ey⟩ : ∃ y, y = ys[k] := ⟨_, rfl⟩
        rw [← ex, ← ey] at g1 g2 g3
        rw [← ex] at c0
        rw [← ey] at d0
        have c0d : wr.drew.cell? ⟨b, off + k, none⟩ = some (.int .i64 x) := c0
        have d0d : wr.drew.cell? ⟨b', off' + k, none⟩ = some (.int .i64 y) := d0
        have HBd := Lib.hid HB.out.drew
        have hszd : w.heap.size ≤ wr.drew.heap.size := hsz
        clear ex ey
        by_cases h1 : x < y
        · have HG := Lib.hid (g1.out h1)
          have q1 : decide (x < y) = true := decide_eq_true h1
          clear h1 g1 g2 g3
          go_wp2_with fail
          go_still_tail 8, (by kernel_rfl)
          go_wp2_with fail
          go_ret
          exact ⟨-1, rfl, .inl ⟨by omega, HG.out⟩, HB.out.drew⟩
        · have q1 : decide (x < y) = false := decide_eq_false h1
          by_cases h2 : y < x
          · have HG := Lib.hid (g2.out h2)
            have q2 : decide (y < x) = true := decide_eq_true h2
            clear h1 h2 g1 g2 g3
            go_wp2_with fail
            go_still_tail 8, (by kernel_rfl)
            go_wp2_with fail
            generalize wr.drew = W1 at *
            go_still_tail 8, (by kernel_rfl)
            go_wp2_with fail
            go_ret
            exact ⟨1, rfl, .inr (.inr ⟨by omega, HG.out⟩), HBd.out.drew⟩
          · have HG := Lib.hid (g3.out h1 h2)
            have q2 : decide (y < x) = false := decide_eq_false h2
            clear h1 h2 g1 g2 g3
            go_wp2_with fail
            go_still_tail 8, (by kernel_rfl)
            go_wp2_with fail
            generalize wr.drew = W1 at *
            go_still_tail 8, (by kernel_rfl)
            go_wp2_with fail
            go_roundw
            case rel => exact ⟨k + 1, by omega, by omega, by go_num, HG.out, HBd.out.drew⟩
            case measure => simp [intOf]; omega
      · have HG := Lib.hid (HA.out.long hlt (by omega))
        go_wp2_with fail
        go_ret
        exact ⟨_, rfl, .inr (.inr ⟨by omega, HG.out⟩), HB.out⟩
    · by_cases hlt2 : k < ys.length
      · have HG := Lib.hid (HA.out.short (by omega) hlt2)
        go_wp2_with fail
        go_ret
        exact ⟨_, rfl, .inl ⟨by omega, HG.out⟩, HB.out⟩
      · have HG := Lib.hid (HA.out.same (by omega) (by omega))
        go_wp2_with fail
        go_ret
        exact ⟨_, rfl, .inr (.inl ⟨by omega, HG.out⟩), HB.out⟩

/-- The first number that is not 0. -/
def orL : List Int → Int
  | [] => 0
  | x :: xs => if x ≠ 0 then x else orL xs
theorem orL_step {xs : List Int} {k : Nat} (h : orL xs = orL (xs.drop k)) (hk : k < xs.length) : orL xs = if xs[k] ≠ 0 then xs[k] else orL (xs.drop (k + 1)) := by
  rw [h, List.drop_eq_getElem_cons hk]; rfl

set_option maxRecDepth 100000 in
set_option maxHeartbeats 1000000 in
theorem orInt_any (xs : List Int) (v : Value) (B : Nat) (w : World) (hv : Sl 1 intCells B w v xs) (hB : B ≤ w.heap.size) :
    Calls Try.prog 88 #[v] w fun e w' => e = .returned (.int .i64 (orL xs)) ∧ Below w.heap.size w w' := by
  obtain ⟨p, cap, rfl⟩ := hv.form
  have hm := hv.max
  unfold maxLen at hm
  go_enter Try.func88, Try.ntmps88
  go_wp2_with fail
  go_loopw [8] (fun i wr => ∃ k : Nat, k ≤ xs.length ∧ i = .int .i64 k ∧ RowKit.Hid (orL xs = orL (xs.drop k)) ∧ Below w.heap.size w wr) (fun i _ => xs.length - (intOf i).toNat)
  case atStart => exact ⟨0, Nat.zero_le _, rfl, Lib.hid rfl, Below.refl _ _⟩
  case round =>
    obtain ⟨k, hk, rfl, HA, hbw⟩ := hrel
    have hsz := hbw.size
    have HB := Lib.hid hbw
    clear hbw
    by_cases hlt : k < xs.length
    · obtain ⟨b, off, rfl, hb, c0⟩ := (hv.below (HB.out.mono hB)).it hlt
      have HS := Lib.hid (orL_step HA.out hlt)
      obtain ⟨x, ex⟩ : ∃ x, x = xs[k] := ⟨_, rfl⟩
      rw [← ex] at c0 HS
      clear ex
      by_cases h0 : x = 0
      · have HG := Lib.hid (HS.out.trans (if_neg (by simpa using h0)))
        have q0 : (x != 0) = false := by simpa using h0
        clear HS
        subst h0
        go_wp2_with fail
        go_roundw
        case rel => exact ⟨k + 1, by omega, by go_num, HG, HB.out⟩
        case measure => simp [intOf]; omega
      · have HG := Lib.hid (HS.out.trans (if_pos h0))
        have q0 : (x != 0) = true := by simpa using h0
        clear HS h0
        go_wp2_with fail
        go_ret
        exact ⟨ret_int HG.out.symm, HB.out⟩
    · have HG := Lib.hid (show orL xs = 0 by rw [HA.out, List.drop_of_length_le (by omega)]; rfl)
      go_wp2_with fail
      go_ret
      exact ⟨ret_int HG.out.symm, HB.out⟩
theorem cmpW_or (x y : Wk) : cmpW x y = orL [cmpI x.es.length y.es.length, cmpL x.ns y.ns, cmpL x.es y.es] := by
  unfold cmpW orL orL orL orL
  split
  · rfl
  · split
    · rfl
    · split
      · rfl
      · omega
end Go.Proofs.Ytckmganhabgbfaa
