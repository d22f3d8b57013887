/- The modes of walks, on both sides. -/
import Derived.Test.YtfdkmngkpihpbaaWkB
import Derived.BigQuiet
namespace Go.Proofs.Ytfdkmngkpihpbaa
open Go.RowKit

theorem Sl.take {α : Type} {sz : Nat} {enc : α → List Value} {B : Nat} {w : World} {p : Option Addr} {len cap : Nat} {xs : List α} (h : Sl sz enc B w (.slice p len cap) xs) {k : Nat} (hk : k ≤ xs.length) : Sl sz enc B w (.slice p k cap) (xs.take k) := by
  obtain ⟨p', len', cap', h1, h2, h3, h4, h5⟩ := h
  cases h1
  refine ⟨_, _, _, rfl, by simp; omega, by omega, h4, fun i hi => ?_⟩
  simp only [List.length_take] at hi
  obtain ⟨b, off, e1, e2, e3⟩ := h5 i (by omega)
  exact ⟨b, off, e1, e2, fun j x hx => e3 j x (by rwa [List.getElem_take] at hx)⟩
theorem Sl.drop1 {α : Type} {enc : α → List Value} {B : Nat} {w : World} {b off len cap : Nat} {xs : List α} (h : Sl 1 enc B w (.slice (some ⟨b, off, none⟩) len cap) xs) (h0 : 0 < xs.length) : Sl 1 enc B w (.slice (some ⟨b, off + 1, none⟩) (xs.length - 1) (cap - 1)) (xs.drop 1) := by
  obtain ⟨p', len', cap', h1, h2, h3, h4, h5⟩ := h
  cases h1
  refine ⟨_, _, _, rfl, by simp, by omega, by omega, fun i hi => ?_⟩
  simp only [List.length_drop] at hi
  obtain ⟨b', off', e1, e2, e3⟩ := h5 (1 + i) (by omega)
  cases e1
  refine ⟨b, off + 1, rfl, e2, fun j x hx => ?_⟩
  rw [List.getElem_drop] at hx
  have := e3 j x hx
  rwa [show off + 1 + i * 1 + j = off + (1 + i) * 1 + j by omega]

theorem Sl.drop1_last {α : Type} {enc : α → List Value} {B : Nat} {w : World} {p : Option Addr} {len : Nat} {xs : List α} (h : Sl 1 enc B w (.slice p len 1) xs) : Sl 1 enc B w (.slice p 0 0) (xs.drop 1) := by
  obtain ⟨p', len', cap', h1, h2, h3, h4, h5⟩ := h
  cases h1
  exact ⟨_, _, _, rfl, by simp; omega, by omega, by omega, fun i hi => by simp only [List.length_drop] at hi; omega⟩

set_option maxRecDepth 100000 in
set_option maxHeartbeats 1000000 in
theorem slIndexInt_any (xs : List Int) (z : Int) (v : Value) (B : Nat) (w : World) (hv : Sl 1 intCells B w v xs) (hB : B ≤ w.heap.size) :
    Calls Try.prog 111 #[v, .int .i64 z] w fun e w' => ∃ r : Int, e = .returned (.int .i64 r) ∧ ((r = -1 ∧ z ∉ xs) ∨ (0 ≤ r ∧ z ∈ xs)) ∧ Below w.heap.size w w' := by
  obtain ⟨p, cap, rfl⟩ := hv.form
  have hm := hv.max
  unfold maxLen at hm
  go_enter Try.func111, Try.ntmps111
  go_wp2_with fail
  go_loopw [8] (fun i wr => ∃ k : Nat, k ≤ xs.length ∧ i = .int .i64 k ∧ z ∉ xs.take k ∧ Below w.heap.size w wr) (fun i _ => xs.length - (intOf i).toNat)
  case atStart => exact ⟨0, Nat.zero_le _, rfl, by simp, Below.refl _ _⟩
  case round =>
    obtain ⟨k, hk, rfl, ha, hbw⟩ := hrel
    have hsz := hbw.size
    have HB := Lib.hid hbw
    clear hbw
    by_cases hlt : k < xs.length
    · obtain ⟨b, off, rfl, hb, c0⟩ := (hv.below (HB.out.mono hB)).it hlt
      have hgood := Lib.hid (show z ≠ xs[k] → z ∉ xs.take (k + 1) from fun h => by rw [List.take_succ_eq_append_getElem hlt]; simp only [List.mem_append, List.mem_singleton]; exact fun h2 => h2.elim ha h)
      have hbad := Lib.hid (show z = xs[k] → z ∈ xs from fun h => h ▸ List.getElem_mem hlt)
      clear ha
      obtain ⟨x, ex⟩ : ∃ x, x = xs[k] := ⟨_, rfl⟩
      rw [← ex] at hgood hbad c0
      clear ex
      by_cases hE : z = x
      · have HG := Lib.hid (hbad.out hE)
        have hq : (z == x) = true := by simpa using hE
        clear hE
        go_wp2_with fail
        go_ret
        exact ⟨k, rfl, .inr ⟨by omega, HG.out⟩, HB.out⟩
      · have HG := Lib.hid (hgood.out hE)
        have hq : (z == x) = false := by simpa using hE
        clear hE
        go_wp2_with fail
        go_roundw
        case rel => exact ⟨k + 1, by omega, by go_num, HG.out, HB.out⟩
        case measure => simp [intOf]; omega
    · have HG := Lib.hid (show z ∉ xs by rwa [List.take_of_length_le (by omega)] at ha)
      go_wp2_with fail
      go_ret
      exact ⟨-1, rfl, .inl ⟨rfl, HG.out⟩, HB.out⟩

set_option maxHeartbeats 400000 in
theorem slContainsInt_any (xs : List Int) (z : Int) (v : Value) (B : Nat) (w : World) (hv : Sl 1 intCells B w v xs) (hB : B ≤ w.heap.size) :
    Calls Try.prog 88 #[v, .int .i64 z] w fun e w' => e = .returned (.bool (decide (z ∈ xs))) ∧ Below w.heap.size w w' := by
  go_enter Try.func88, Try.ntmps88
  go_wp2_with fail
  refine (slIndexInt_any xs z v B w hv hB).mono ?_
  rintro e w1 ⟨r, rfl, hr, hb1⟩
  have HB := Lib.hid hb1
  clear hb1
  rcases hr with ⟨hr, hz⟩ | ⟨hr, hz⟩
  · have HZ := Lib.hid hz
    clear hz
    subst hr
    go_wp2_with fail
    go_ret
    exact ⟨ret_bool (decide_eq_false HZ.out).symm, HB.out⟩
  · have HZ := Lib.hid hz
    have q0 : decide (0 ≤ r) = true := decide_eq_true hr
    clear hz
    go_wp2_with fail
    go_ret
    exact ⟨ret_bool (decide_eq_true HZ.out).symm, HB.out⟩

set_option maxRecDepth 100000 in
set_option maxHeartbeats 1000000 in
theorem eachOnce_any (xs : List Int) (v : Value) (B : Nat) (w : World) (hv : Sl 1 intCells B w v xs) (hB : B ≤ w.heap.size) :
    Calls Try.prog 53 #[v] w fun e w' => e = .returned (.bool (onceB xs)) ∧ Below w.heap.size w w' := by
  obtain ⟨p, cap, rfl⟩ := hv.form
  have hm := hv.max
  unfold maxLen at hm
  go_enter Try.func53, Try.ntmps53
  go_wp2_with fail
  go_loopw [7] (fun i wr => ∃ k : Nat, k ≤ xs.length ∧ i = .int .i64 k ∧ Once xs k ∧ Below w.heap.size w wr) (fun i _ => xs.length - (intOf i).toNat)
  case atStart => exact ⟨0, Nat.zero_le _, rfl, Once.zero _, Below.refl _ _⟩
  case round =>
    obtain ⟨k, hk, rfl, ha, hbw⟩ := hrel
    have hsz := hbw.size
    have HB := Lib.hid hbw
    clear hbw
    by_cases hlt : k < xs.length
    · have HS := Lib.hid ((hv.below (HB.out.mono hB)).take (Nat.le_of_lt hlt))
      obtain ⟨b, off, rfl, hb, c0⟩ := (hv.below (HB.out.mono hB)).it hlt
      have hgood := Lib.hid (show xs[k] ∉ xs.take k → Once xs (k + 1) from fun h => ha.succ fun j hk' hj e => h (List.mem_take_iff_getElem.2 ⟨j, by omega, e⟩))
      have hbad := Lib.hid (show xs[k] ∈ xs.take k → onceB xs = false from fun h => by
        obtain ⟨j, hj, e⟩ := List.mem_take_iff_getElem.1 h
        exact onceB_no hlt (by omega) e)
      clear ha
      obtain ⟨x, ex⟩ : ∃ x, x = xs[k] := ⟨_, rfl⟩
      rw [← ex] at hgood hbad c0
      clear ex
      go_wp2_with fail
      refine (slContainsInt_any (xs.take k) x _ B _ HS.out (by omega)).mono ?_
      rintro e w1 ⟨rfl, hb1⟩
      have HB1 := Lib.hid (HB.out.trans (hb1.mono hsz))
      clear hb1
      by_cases hE : x ∈ xs.take k
      · have HG := Lib.hid (hbad.out hE)
        rw [decide_eq_true hE]
        clear hE
        go_wp2_with fail
        go_ret
        exact ⟨ret_bool (by rw [HG.out]), HB1.out⟩
      · have HG := Lib.hid (hgood.out hE)
        rw [decide_eq_false hE]
        clear hE
        go_wp2_with fail
        go_roundw
        case rel => exact ⟨k + 1, by omega, by go_num, HG.out, HB1.out⟩
        case measure => simp [intOf]; omega
    · have HG := Lib.hid (onceB_yes ha (by omega))
      go_wp2_with fail
      go_ret
      exact ⟨ret_bool (by rw [HG.out]), HB.out⟩

set_option maxRecDepth 100000 in
set_option maxHeartbeats 1000000 in
theorem l5Once_any (xs : List Int) (v : Value) (B : Nat) (w : World) (hv : Sl 1 intCells B w v xs) (hB : B ≤ w.heap.size) :
    Calls Try.prog 89 #[v] w fun e w' => e = .returned (.bool (onceB xs)) ∧ Below w.heap.size w w' := by
  obtain ⟨p, cap, rfl⟩ := hv.form
  have hm := hv.max
  unfold maxLen at hm
  go_enter Try.func89, Try.ntmps89
  go_wp2_with fail
  go_loopw [3] (fun i wr => ∃ k : Nat, k ≤ xs.length ∧ i = .int .i64 k ∧ Once xs k ∧ Below w.heap.size w wr) (fun i _ => xs.length - (intOf i).toNat)
  case atStart => exact ⟨0, Nat.zero_le _, rfl, Once.zero _, Below.refl _ _⟩
  case round =>
    obtain ⟨k, hk, rfl, ha, hbw⟩ := hrel
    have hsz := hbw.size
    have HB := Lib.hid hbw
    have HO := Lib.hid ha
    clear hbw ha
    by_cases hlt : k < xs.length
    · obtain ⟨b, off, rfl, hb, _⟩ := (hv.below (HB.out.mono hB)).it hlt
      go_wp2_with fail
      go_loopw [4] (fun i wy => ∃ j : Nat, j ≤ k ∧ i = .int .i64 j ∧ (∀ i (hi : i < xs.length) (hk : k < xs.length), i < j → xs[i] ≠ xs[k]) ∧ Below w.heap.size w wy) (fun i _ => k - (intOf i).toNat)
      case atStart => exact ⟨0, Nat.zero_le _, rfl, (fun i _ _ hi => by omega), HB.out⟩
      case round =>
        obtain ⟨j, hj, rfl, ha, hbw⟩ := hrel
        have hsz := hbw.size
        have HB := Lib.hid hbw
        clear hbw
        by_cases hjk : j < k
        · obtain ⟨b', off', e1, _, c0⟩ := (hv.below (HB.out.mono hB)).it hlt
          cases e1
          obtain ⟨b', off', e1, _, d0⟩ := (hv.below (HB.out.mono hB)).it (show j < xs.length by omega)
          cases e1
          have hgood := Lib.hid (show xs[j] ≠ xs[k] → ∀ i (hi : i < xs.length) (hk : k < xs.length), i < j + 1 → xs[i] ≠ xs[k] from fun h i hi hk hij => by
            by_cases e : i = j
            · subst e; exact h
            · exact ha i hi hk (by omega))
          have hbad := Lib.hid (fun h => onceB_no (xs := xs) (i := k) (j := j) hlt hjk h)
          clear ha
          have hlt2 : j < xs.length := by omega
          obtain ⟨x, ex⟩ : ∃ x, x = xs[k] := ⟨_, rfl⟩
          obtain ⟨y, ey⟩ : ∃ y, y = xs[j] := ⟨_, rfl⟩
          rw [← ex, ← ey] at hgood hbad
          rw [← ex] at c0
          rw [← ey] at d0
          clear ex ey
          by_cases hE : y = x
          · have HG := Lib.hid (hbad.out hE)
            subst hE
            go_wp2_with fail
            go_still_tail 8, (by kernel_rfl)
            go_wp2_with fail
            go_ret
            exact ⟨ret_bool (by rw [HG.out]), HB.out.drew⟩
          · have HG := Lib.hid (hgood.out hE)
            have hq : (y == x) = false := by simpa using hE
            clear hE
            go_wp2_with fail
            go_still_tail 8, (by kernel_rfl)
            go_wp2_with fail
            go_roundw
            case rel => exact ⟨j + 1, by omega, by go_num, HG.out, HB.out.drew⟩
            case measure => simp [intOf]; omega
        · have HG := Lib.hid (HO.out.succ fun i hk' hi => ha i (by omega) hk' (by omega))
          go_wp2_with fail
          go_roundw
          case rel => exact ⟨k + 1, by omega, by go_num, HG.out, HB.out⟩
          case measure => simp [intOf]; omega
    · have HG := Lib.hid (onceB_yes HO.out (by omega))
      go_wp2_with fail
      go_ret
      exact ⟨ret_bool (by rw [HG.out]), HB.out⟩

end Go.Proofs.Ytfdkmngkpihpbaa
