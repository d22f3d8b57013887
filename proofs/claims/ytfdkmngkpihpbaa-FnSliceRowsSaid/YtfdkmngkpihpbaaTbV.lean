/- Tables that are valid, as the program tells it. -/
import Derived.Test.YtfdkmngkpihpbaaTbP
import Derived.Laws.EntriesVeiled
namespace Go.Proofs.Ytfdkmngkpihpbaa
open Go.RowKit

set_option maxRecDepth 100000 in
set_option maxHeartbeats 1000000 in
theorem slIndexStr_any (xs : List ByteArray) (z : ByteArray) (v : Value) (B : Nat) (w : World) (hv : kStr.Rd B w v xs) (hB : B ≤ w.heap.size) :
    Calls Try.prog 81 #[v, .string z] w fun e w' => e = .returned (.int .i64 (colAt xs z)) ∧ Below w.heap.size w w' := by
  obtain ⟨p, cap, rfl⟩ := hv.form
  have hmx := hv.max
  unfold maxLen at hmx
  have HV := Lib.hid hv
  clear hv
  go_enter Try.func81, Try.ntmps81
  go_wp2_with fail
  go_loopw [8] (fun i wr => ∃ k : Nat, k ≤ xs.length ∧ i = .int .i64 k ∧ RowKit.Hid (z ∉ xs.take k) ∧ Below w.heap.size w wr) (fun i _ => xs.length - (intOf i).toNat)
  case atStart => exact ⟨0, Nat.zero_le _, rfl, Lib.hid (by simp), Below.refl _ _⟩
  case round =>
    obtain ⟨k, hk, rfl, ha, hbw⟩ := hrel
    have hsz := hbw.size
    have HB := Lib.hid hbw
    clear hbw
    by_cases hlt : k < xs.length
    · obtain ⟨b, off, rfl, hb, c0⟩ := kStr_get (HV.out.to (HB.out.mono hB) (Nat.le_refl _)) hlt
      have hgood := Lib.hid (show z ≠ xs[k] → z ∉ xs.take (k + 1) from fun h => by rw [List.take_succ_eq_append_getElem hlt]; simp only [List.mem_append, List.mem_singleton]; exact fun h2 => h2.elim ha.out h)
      have hbad := Lib.hid (show z = xs[k] → colAt xs z = k from fun h => colAt_hit hlt h.symm ha.out)
      obtain ⟨x, ex⟩ : ∃ x, x = xs[k] := ⟨_, rfl⟩
      rw [← ex] at hgood hbad c0
      clear ex ha
      by_cases hE : z = x
      · have HG := Lib.hid (hbad.out hE)
        have hq := str_same hE
        clear hE hgood hbad
        go_wp2_with fail
        go_ret
        exact ⟨by rw [HG.out]; rfl, HB.out⟩
      · have HG := Lib.hid (hgood.out hE)
        have hq := str_diff hE
        clear hE hgood hbad
        go_wp2_with fail
        go_roundw
        case rel => exact ⟨k + 1, by omega, by go_num, HG, HB.out⟩
        case measure => simp [intOf]; omega
    · have HG := Lib.hid (show colAt xs z = -1 from colAt_miss (by have := ha.out; rwa [List.take_of_length_le (by omega)] at this))
      go_wp2_with fail
      go_ret
      exact ⟨by rw [HG.out]; rfl, HB.out⟩

set_option maxHeartbeats 400000 in
theorem slContainsStr_any (xs : List ByteArray) (z : ByteArray) (v : Value) (B : Nat) (w : World) (hv : kStr.Rd B w v xs) (hB : B ≤ w.heap.size) :
    Calls Try.prog 114 #[v, .string z] w fun e w' => e = .returned (.bool (hasS xs z)) ∧ Below w.heap.size w w' := by
  go_enter Try.func114, Try.ntmps114
  go_wp2_with fail
  have HM := Lib.hid (colAt_mem (xs := xs) (z := z))
  refine (slIndexStr_any xs z v B w hv hB).mono ?_
  rintro e w1 ⟨rfl, hb1⟩
  obtain ⟨r, er⟩ : ∃ r, r = colAt xs z := ⟨_, rfl⟩
  rw [← er] at HM ⊢
  have HB := Lib.hid hb1
  clear hb1 hv er
  by_cases hz : 0 ≤ r
  · have HZ := Lib.hid (HM.out.1 hz)
    have q0 : decide (0 ≤ r) = true := decide_eq_true hz
    go_wp2_with fail
    go_ret
    exact ⟨ret_bool (hasS_yes HZ.out).symm, HB.out⟩
  · have HZ := Lib.hid (show z ∉ xs from fun h => hz (HM.out.2 h))
    have q0 : decide (0 ≤ r) = false := decide_eq_false hz
    go_wp2_with fail
    go_ret
    exact ⟨ret_bool (hasS_no HZ.out).symm, HB.out⟩

set_option maxRecDepth 100000 in
set_option maxHeartbeats 1000000 in
theorem eachOnceS_any (xs : List ByteArray) (v : Value) (B : Nat) (w : World) (hv : kStr.Rd B w v xs) (hB : B ≤ w.heap.size) :
    Calls Try.prog 93 #[v] w fun e w' => e = .returned (.bool (onceS xs)) ∧ Below w.heap.size w w' := by
  obtain ⟨p, cap, rfl⟩ := hv.form
  have hmx := hv.max
  unfold maxLen at hmx
  have HV := Lib.hid hv
  clear hv
  go_enter Try.func93, Try.ntmps93
  go_wp2_with fail
  go_loopw [7] (fun i wr => ∃ k : Nat, k ≤ xs.length ∧ i = .int .i64 k ∧ RowKit.Hid (OnceA xs k) ∧ Below w.heap.size w wr) (fun i _ => xs.length - (intOf i).toNat)
  case atStart => exact ⟨0, Nat.zero_le _, rfl, Lib.hid (OnceA.zero _), Below.refl _ _⟩
  case round =>
    obtain ⟨k, hk, rfl, ha, hbw⟩ := hrel
    have hsz := hbw.size
    have HB := Lib.hid hbw
    clear hbw
    by_cases hlt : k < xs.length
    · have hv' := HV.out.to (HB.out.mono hB) (Nat.le_refl _)
      have HS := Lib.hid (hv'.take (Nat.le_of_lt hlt))
      obtain ⟨b, off, rfl, hb, c0⟩ := kStr_get hv' hlt
      have hgood := Lib.hid (show xs[k] ∉ xs.take k → OnceA xs (k + 1) from fun h => ha.out.succ hlt h)
      have hbad := Lib.hid (show xs[k] ∈ xs.take k → onceS xs = false from fun h => decide_eq_false (once_bad hlt h))
      obtain ⟨x, ex⟩ : ∃ x, x = xs[k] := ⟨_, rfl⟩
      rw [← ex] at hgood hbad c0
      clear ex ha hv'
      go_wp2_with fail
      refine (slContainsStr_any (xs.take k) x _ B _ HS.out (by omega)).mono ?_
      rintro e w1 ⟨rfl, hb1⟩
      have HB1 := Lib.hid (HB.out.trans (hb1.mono hsz))
      clear hb1
      by_cases hE : x ∈ xs.take k
      · have HG := Lib.hid (hbad.out hE)
        rw [hasS_yes hE]
        clear hE hgood hbad
        go_wp2_with fail
        go_ret
        exact ⟨ret_bool (by rw [HG.out]), HB1.out⟩
      · have HG := Lib.hid (hgood.out hE)
        rw [hasS_no hE]
        clear hE hgood hbad
        go_wp2_with fail
        go_roundw
        case rel => exact ⟨k + 1, by omega, by go_num, HG, HB1.out⟩
        case measure => simp [intOf]; omega
    · obtain rfl : k = xs.length := by omega
      have HG := Lib.hid (show onceS xs = true from decide_eq_true ha.out.full)
      go_wp2_with fail
      go_ret
      exact ⟨ret_bool (by rw [HG.out]), HB.out⟩

set_option maxHeartbeats 400000 in
theorem colFn_any (s : ByteArray) (w : World) (hs : s.size ≤ maxLen) :
    Calls Try.prog 95 #[.string s] w fun e w' => e = .returned (.bool (!lv s)) ∧ Below w.heap.size w w' := by
  go_enter Try.func95, Try.ntmps95
  go_wp2_with (go_at_call 96; refine (labelValid_any _ _ hs).mono ?_; rintro e w' ⟨rfl, rfl⟩)
  go_ret
  exact ⟨rfl, Below.refl _ _⟩

set_option maxRecDepth 100000 in
set_option maxHeartbeats 1000000 in
theorem indexCol_any (xs : List ByteArray) (v : Value) (B : Nat) (w : World) (hv : kStr.Rd B w v xs) (hB : B ≤ w.heap.size) (hok : ∀ s ∈ xs, s.size ≤ maxLen) :
    Calls Try.prog 115 #[v, .func (.func 95) #[] #[]] w fun e w' => ∃ r : Int, e = .returned (.int .i64 r) ∧ ((r = -1 ∧ xs.all lv = true) ∨ (0 ≤ r ∧ xs.all lv = false)) ∧ Below w.heap.size w w' := by
  obtain ⟨p, cap, rfl⟩ := hv.form
  have hmx := hv.max
  unfold maxLen at hmx
  have HV := Lib.hid hv
  clear hv
  have HOK := Lib.hid hok
  clear hok
  go_enter Try.func115, Try.ntmps115
  go_wp2_with fail
  go_loopw [8] (fun i wr => ∃ k : Nat, k ≤ xs.length ∧ i = .int .i64 k ∧ RowKit.Hid (AllTo lv xs k) ∧ Below w.heap.size w wr) (fun i _ => xs.length - (intOf i).toNat)
  case atStart => exact ⟨0, Nat.zero_le _, rfl, Lib.hid (AllTo.zero _ _), Below.refl _ _⟩
  case round =>
    obtain ⟨k, hk, rfl, HAC, hbw⟩ := hrel
    have hsz := hbw.size
    have HB := Lib.hid hbw
    clear hbw
    by_cases hlt : k < xs.length
    · obtain ⟨b, off, rfl, hb, c0⟩ := kStr_get (HV.out.to (HB.out.mono hB) (Nat.le_refl _)) hlt
      have hx := HOK.out _ (List.getElem_mem hlt)
      have hgood := Lib.hid (fun h => HAC.out.succ hlt h)
      have hbad := Lib.hid (fun h => all_no (p := lv) (xs := xs) hlt h)
      obtain ⟨x, ex⟩ : ∃ x, x = xs[k] := ⟨_, rfl⟩
      rw [← ex] at hgood hbad c0 hx
      clear ex HAC
      have HX := Lib.hid hx
      clear hx
      go_wp2_with fail
      with_reducible refine (colFn_any x _ HX.out).mono ?_
      rintro e w1 ⟨rfl, hb1⟩
      have HB1 := Lib.hid (HB.out.trans (hb1.mono hsz))
      clear hb1
      cases hE : lv x with
      | false =>
        have HG := Lib.hid (hbad.out hE)
        clear hE hgood hbad
        go_wp2_with fail
        go_ret
        exact ⟨k, rfl, .inr ⟨by omega, HG.out⟩, HB1.out⟩
      | true =>
        have HG := Lib.hid (hgood.out hE)
        clear hE hgood hbad
        go_wp2_with fail
        go_roundw
        case rel => exact ⟨k + 1, by omega, by go_num, HG, HB1.out⟩
        case measure => simp [intOf]; omega
    · obtain rfl : k = xs.length := by omega
      have HG := Lib.hid HAC.out.full
      go_wp2_with fail
      go_ret
      exact ⟨-1, rfl, .inl ⟨rfl, HG.out⟩, HB.out⟩
set_option maxHeartbeats 400000 in
theorem containsCol_any (xs : List ByteArray) (v : Value) (B : Nat) (w : World) (hv : kStr.Rd B w v xs) (hB : B ≤ w.heap.size) (hok : ∀ s ∈ xs, s.size ≤ maxLen) :
    Calls Try.prog 94 #[v, .func (.func 95) #[] #[]] w fun e w' => e = .returned (.bool (!xs.all lv)) ∧ Below w.heap.size w w' := by
  have HIX := Lib.hid (indexCol_any xs v B w hv hB hok)
  clear hv hok
  go_enter Try.func94, Try.ntmps94
  go_wp2_with fail
  with_reducible refine (HIX.out).mono ?_
  rintro e w1 ⟨r, rfl, hr, hb1⟩
  have HB := Lib.hid hb1
  clear hb1
  rcases hr with ⟨hr, hz⟩ | ⟨hr, hz⟩
  · have HZ := Lib.hid hz
    clear hz
    subst hr
    go_wp2_with fail
    go_ret
    exact ⟨ret_bool (by rw [HZ.out]; rfl), HB.out⟩
  · have HZ := Lib.hid hz
    have q0 : decide (0 ≤ r) = true := decide_eq_true hr
    clear hz
    go_wp2_with fail
    go_ret
    exact ⟨ret_bool (by rw [HZ.out]; rfl), HB.out⟩

theorem okNum_lo {n : Int} (h : n < -1) : okNum n = false := by unfold okNum; rw [decide_eq_false (p := -1 ≤ n) (by omega)]; rfl
theorem okNum_hi {n : Int} (h : 1000 < n) : okNum n = false := by unfold okNum; rw [decide_eq_false (p := n ≤ 1000) (by omega), Bool.and_false]
theorem okNum_in {n : Int} (h : ¬ n < -1) (h2 : ¬ 1000 < n) : okNum n = true := by unfold okNum; rw [decide_eq_true (p := -1 ≤ n) (by omega), decide_eq_true (p := n ≤ 1000) (by omega)]; rfl
set_option maxHeartbeats 400000 in
theorem outFn_any (n : Int) (w : World) :
    Calls Try.prog 61 #[.int .i64 n] w fun e w' => e = .returned (.bool (!okNum n)) ∧ Below w.heap.size w w' := by
  by_cases h0 : n < -1
  · have q0 : decide (n < -1) = true := decide_eq_true h0
    have HS := Lib.hid (okNum_lo h0)
    go_enter Try.func61, Try.ntmps61
    go_wp2_with fail
    go_ret
    exact ⟨ret_bool (by rw [HS.out]; rfl), Below.refl _ _⟩
  · have q0 : decide (n < -1) = false := decide_eq_false h0
    by_cases h1 : 1000 < n
    · have q1 : decide (1000 < n) = true := decide_eq_true h1
      have HS := Lib.hid (okNum_hi h1)
      clear h0
      go_enter Try.func61, Try.ntmps61
      go_wp2_with fail
      go_ret
      exact ⟨ret_bool (by rw [HS.out]; rfl), Below.refl _ _⟩
    · have q1 : decide (1000 < n) = false := decide_eq_false h1
      have HS := Lib.hid (okNum_in h0 h1)
      clear h0 h1
      go_enter Try.func61, Try.ntmps61
      go_wp2_with fail
      go_ret
      exact ⟨ret_bool (by rw [HS.out]; rfl), Below.refl _ _⟩

set_option maxRecDepth 100000 in
set_option maxHeartbeats 1000000 in
theorem indexNum_any (xs : List Int) (v : Value) (B : Nat) (w : World) (hv : Sl 1 intCells B w v xs) (hB : B ≤ w.heap.size) :
    Calls Try.prog 98 #[v, .func (.func 61) #[] #[]] w fun e w' => ∃ r : Int, e = .returned (.int .i64 r) ∧ ((r = -1 ∧ xs.all okNum = true) ∨ (0 ≤ r ∧ xs.all okNum = false)) ∧ Below w.heap.size w w' := by
  obtain ⟨p, cap, rfl⟩ := hv.form
  have hmx := hv.max
  unfold maxLen at hmx
  have HV := Lib.hid hv
  clear hv

  go_enter Try.func98, Try.ntmps98
  go_wp2_with fail
  go_loopw [8] (fun i wr => ∃ k : Nat, k ≤ xs.length ∧ i = .int .i64 k ∧ RowKit.Hid (AllTo okNum xs k) ∧ Below w.heap.size w wr) (fun i _ => xs.length - (intOf i).toNat)
  case atStart => exact ⟨0, Nat.zero_le _, rfl, Lib.hid (AllTo.zero _ _), Below.refl _ _⟩
  case round =>
    obtain ⟨k, hk, rfl, HAC, hbw⟩ := hrel
    have hsz := hbw.size
    have HB := Lib.hid hbw
    clear hbw
    by_cases hlt : k < xs.length
    · obtain ⟨b, off, rfl, hb, c0⟩ := (HV.out.below (HB.out.mono hB)).it hlt
      have hgood := Lib.hid (fun h => HAC.out.succ hlt h)
      have hbad := Lib.hid (fun h => all_no (p := okNum) (xs := xs) hlt h)
      obtain ⟨x, ex⟩ : ∃ x, x = xs[k] := ⟨_, rfl⟩
      rw [← ex] at hgood hbad c0
      clear ex HAC
      go_wp2_with fail
      with_reducible refine (outFn_any x _).mono ?_
      rintro e w1 ⟨rfl, hb1⟩
      have HB1 := Lib.hid (HB.out.trans (hb1.mono hsz))
      clear hb1
      cases hE : okNum x with
      | false =>
        have HG := Lib.hid (hbad.out hE)
        clear hE hgood hbad
        go_wp2_with fail
        go_ret
        exact ⟨k, rfl, .inr ⟨by omega, HG.out⟩, HB1.out⟩
      | true =>
        have HG := Lib.hid (hgood.out hE)
        clear hE hgood hbad
        go_wp2_with fail
        go_roundw
        case rel => exact ⟨k + 1, by omega, by go_num, HG, HB1.out⟩
        case measure => simp [intOf]; omega
    · obtain rfl : k = xs.length := by omega
      have HG := Lib.hid HAC.out.full
      go_wp2_with fail
      go_ret
      exact ⟨-1, rfl, .inl ⟨rfl, HG.out⟩, HB.out⟩
set_option maxHeartbeats 400000 in
theorem containsNum_any (xs : List Int) (v : Value) (B : Nat) (w : World) (hv : Sl 1 intCells B w v xs) (hB : B ≤ w.heap.size) :
    Calls Try.prog 64 #[v, .func (.func 61) #[] #[]] w fun e w' => e = .returned (.bool (!xs.all okNum)) ∧ Below w.heap.size w w' := by
  have HIX := Lib.hid (indexNum_any xs v B w hv hB)
  clear hv
  go_enter Try.func64, Try.ntmps64
  go_wp2_with fail
  with_reducible refine (HIX.out).mono ?_
  rintro e w1 ⟨r, rfl, hr, hb1⟩
  have HB := Lib.hid hb1
  clear hb1
  rcases hr with ⟨hr, hz⟩ | ⟨hr, hz⟩
  · have HZ := Lib.hid hz
    clear hz
    subst hr
    go_wp2_with fail
    go_ret
    exact ⟨ret_bool (by rw [HZ.out]; rfl), HB.out⟩
  · have HZ := Lib.hid hz
    have q0 : decide (0 ≤ r) = true := decide_eq_true hr
    clear hz
    go_wp2_with fail
    go_ret
    exact ⟨ret_bool (by rw [HZ.out]; rfl), HB.out⟩

theorem rowOk_len {k : Nat} {r : List Int} (h : r.length ≠ k) : rowOk k r = false := by unfold rowOk; rw [decide_eq_false h]; rfl
theorem rowOk_all {k : Nat} {r : List Int} (h : r.length = k) : rowOk k r = r.all okNum := by unfold rowOk; rw [decide_eq_true h]; rfl
set_option maxRecDepth 100000 in
set_option maxHeartbeats 1000000 in
theorem rowFn_any (n : Nat) (x : List Int) (v : Value) (B t c : Nat) (q : Option Addr) (d : Nat) (w : World) (hv : Sl 1 intCells B w v x) (hB : B ≤ w.heap.size) (ht : w.cell? ⟨t, 0, none⟩ = some (.slice q n d)) (hc : w.cell? ⟨c, 0, none⟩ = some (.func (.func 61) #[] #[])) :
    Calls Try.prog 63 #[v, .pointer (some ⟨t, 0, none⟩), .pointer (some ⟨c, 0, none⟩)] w fun e w' => e = .returned (.bool (!rowOk n x)) ∧ Below w.heap.size w w' := by
  obtain ⟨p, cap, rfl⟩ := hv.form
  have HCN := Lib.hid (containsNum_any x _ B w hv hB)
  clear hv
  by_cases hn : x.length = n
  · have HS := Lib.hid (rowOk_all hn)
    have hq : ((x.length : Int) != (n : Int)) = false := by rw [hn]; simp
    have hq1 : ((x.length : Int) == (n : Int)) = true := by rw [hn]; simp
    clear hn
    go_enter Try.func63, Try.ntmps63
    go_wp2_with fail
    with_reducible refine (HCN.out).mono ?_
    rintro e w1 ⟨rfl, hb1⟩
    have HB := Lib.hid hb1
    clear hb1
    go_wp2_with fail
    go_ret
    exact ⟨ret_bool (by rw [HS.out]), HB.out⟩
  · have HS := Lib.hid (rowOk_len hn)
    have hq : ((x.length : Int) != (n : Int)) = true := by simp; omega
    have hq1 : ((x.length : Int) == (n : Int)) = false := by simp; omega
    clear hn HCN
    go_enter Try.func63, Try.ntmps63
    go_wp2_with fail
    go_ret
    exact ⟨ret_bool (by rw [HS.out]; rfl), Below.refl _ _⟩

set_option maxRecDepth 100000 in
set_option maxHeartbeats 1000000 in
theorem indexRow_any (n : Nat) (t c : Nat) (q : Option Addr) (d : Nat) (xs : List (List Int)) (v : Value) (B : Nat) (w : World) (hv : kRow.Rd B w v xs) (hB : B ≤ w.heap.size) (htl : t < w.heap.size) (hcl : c < w.heap.size) (ht : w.cell? ⟨t, 0, none⟩ = some (.slice q n d)) (hc : w.cell? ⟨c, 0, none⟩ = some (.func (.func 61) #[] #[])) :
    Calls Try.prog 97 #[v, .func (.func 63) #[] #[.pointer (some ⟨t, 0, none⟩), .pointer (some ⟨c, 0, none⟩)]] w fun e w' => ∃ r : Int, e = .returned (.int .i64 r) ∧ ((r = -1 ∧ xs.all (rowOk n) = true) ∨ (0 ≤ r ∧ xs.all (rowOk n) = false)) ∧ Below w.heap.size w w' := by
  obtain ⟨p, cap, rfl⟩ := hv.form
  have hmx := hv.max
  unfold maxLen at hmx
  have HV := Lib.hid hv
  clear hv
  have HT := Lib.hid (fun (E : World) (hE : Below w.heap.size w E) => (⟨keepc hE htl ht, keepc hE hcl hc⟩ : E.cell? ⟨t, 0, none⟩ = some (.slice q n d) ∧ E.cell? ⟨c, 0, none⟩ = some (.func (.func 61) #[] #[])))
  clear ht hc
  go_enter Try.func97, Try.ntmps97
  go_wp2_with fail
  go_loopw [8] (fun i wr => ∃ k : Nat, k ≤ xs.length ∧ i = .int .i64 k ∧ RowKit.Hid (AllTo (rowOk n) xs k) ∧ Below w.heap.size w wr) (fun i _ => xs.length - (intOf i).toNat)
  case atStart => exact ⟨0, Nat.zero_le _, rfl, Lib.hid (AllTo.zero _ _), Below.refl _ _⟩
  case round =>
    obtain ⟨k, hk, rfl, HAC, hbw⟩ := hrel
    have hsz := hbw.size
    have HB := Lib.hid hbw
    clear hbw
    by_cases hlt : k < xs.length
    · obtain ⟨b, off, q2, c2, rfl, hb, c0, hin⟩ := kRow_get (HV.out.to (HB.out.mono hB) (Nat.le_refl _)) hlt
      have hgood := Lib.hid (fun h => HAC.out.succ hlt h)
      have hbad := Lib.hid (fun h => all_no (p := (rowOk n)) (xs := xs) hlt h)
      obtain ⟨x, ex⟩ : ∃ x, x = xs[k] := ⟨_, rfl⟩
      rw [← ex] at hgood hbad c0 hin
      clear ex HAC
      have HIN := Lib.hid hin
      clear hin
      go_wp2_with fail
      with_reducible refine (rowFn_any n x _ B t c q d _ HIN.out (by omega) (HT.out _ HB.out).1 (HT.out _ HB.out).2).mono ?_
      rintro e w1 ⟨rfl, hb1⟩
      have HB1 := Lib.hid (HB.out.trans (hb1.mono hsz))
      clear hb1
      cases hE : (rowOk n) x with
      | false =>
        have HG := Lib.hid (hbad.out hE)
        clear hE hgood hbad
        go_wp2_with fail
        go_ret
        exact ⟨k, rfl, .inr ⟨by omega, HG.out⟩, HB1.out⟩
      | true =>
        have HG := Lib.hid (hgood.out hE)
        clear hE hgood hbad
        go_wp2_with fail
        go_roundw
        case rel => exact ⟨k + 1, by omega, by go_num, HG, HB1.out⟩
        case measure => simp [intOf]; omega
    · obtain rfl : k = xs.length := by omega
      have HG := Lib.hid HAC.out.full
      go_wp2_with fail
      go_ret
      exact ⟨-1, rfl, .inl ⟨rfl, HG.out⟩, HB.out⟩
set_option maxHeartbeats 400000 in
theorem containsRow_any (n : Nat) (t c : Nat) (q : Option Addr) (d : Nat) (xs : List (List Int)) (v : Value) (B : Nat) (w : World) (hv : kRow.Rd B w v xs) (hB : B ≤ w.heap.size) (htl : t < w.heap.size) (hcl : c < w.heap.size) (ht : w.cell? ⟨t, 0, none⟩ = some (.slice q n d)) (hc : w.cell? ⟨c, 0, none⟩ = some (.func (.func 61) #[] #[])) :
    Calls Try.prog 62 #[v, .func (.func 63) #[] #[.pointer (some ⟨t, 0, none⟩), .pointer (some ⟨c, 0, none⟩)]] w fun e w' => e = .returned (.bool (!xs.all (rowOk n))) ∧ Below w.heap.size w w' := by
  have HIX := Lib.hid (indexRow_any n t c q d xs v B w hv hB htl hcl ht hc)
  clear hv ht hc
  go_enter Try.func62, Try.ntmps62
  go_wp2_with fail
  with_reducible refine (HIX.out).mono ?_
  rintro e w1 ⟨r, rfl, hr, hb1⟩
  have HB := Lib.hid hb1
  clear hb1
  rcases hr with ⟨hr, hz⟩ | ⟨hr, hz⟩
  · have HZ := Lib.hid hz
    clear hz
    subst hr
    go_wp2_with fail
    go_ret
    exact ⟨ret_bool (by rw [HZ.out]; rfl), HB.out⟩
  · have HZ := Lib.hid hz
    have q0 : decide (0 ≤ r) = true := decide_eq_true hr
    clear hz
    go_wp2_with fail
    go_ret
    exact ⟨ret_bool (by rw [HZ.out]; rfl), HB.out⟩

theorem tbNames_short {cs : List ByteArray} (h : cs.length < 1) : tbNames cs = false := by unfold tbNames; rw [decide_eq_false (p := 1 ≤ cs.length) (by omega)]; rfl
theorem tbNames_long {cs : List ByteArray} (h : 6 < cs.length) : tbNames cs = false := by unfold tbNames; rw [decide_eq_false (p := cs.length ≤ 6) (by omega)]; simp
theorem tbNames_mid {cs : List ByteArray} (h : ¬ cs.length < 1) (h2 : ¬ 6 < cs.length) : tbNames cs = (onceS cs && cs.all lv) := by unfold tbNames; rw [decide_eq_true (p := 1 ≤ cs.length) (by omega), decide_eq_true (p := cs.length ≤ 6) (by omega)]; simp
set_option maxRecDepth 100000 in
set_option maxHeartbeats 1000000 in
theorem colsValid_any (xs : List ByteArray) (v : Value) (B : Nat) (w : World) (hv : kStr.Rd B w v xs) (hB : B ≤ w.heap.size) (hok : ∀ s ∈ xs, s.size ≤ maxLen) :
    Calls Try.prog 60 #[v] w fun e w' => e = .returned (.bool (tbNames xs)) ∧ Below w.heap.size w w' := by
  obtain ⟨p, cap, rfl⟩ := hv.form
  have hmx := hv.max
  unfold maxLen at hmx
  have HV := Lib.hid hv
  have HOK := Lib.hid hok
  clear hv hok
  by_cases h0 : xs.length < 1
  · have HS := Lib.hid (tbNames_short h0)
    have q0 : decide ((xs.length : Int) < 1) = true := decide_eq_true (by omega)
    have q1 : ((xs.length : Int) < 1) = True := eq_true (by omega)
    clear h0
    go_enter Try.func60, Try.ntmps60
    go_wp2_with fail
    go_ret
    exact ⟨ret_bool (by rw [HS.out]), Below.refl _ _⟩
  · have q0 : decide ((xs.length : Int) < 1) = false := decide_eq_false (by omega)
    have q1 : ((xs.length : Int) < 1) = False := eq_false (by omega)
    by_cases h6 : 6 < xs.length
    · have HS := Lib.hid (tbNames_long h6)
      have q2 : decide ((6 : Int) < (xs.length : Int)) = true := decide_eq_true (by omega)
      have q3 : ((6 : Int) < (xs.length : Int)) = True := eq_true (by omega)
      clear h0 h6
      go_enter Try.func60, Try.ntmps60
      go_wp2_with fail
      go_ret
      exact ⟨ret_bool (by rw [HS.out]), Below.refl _ _⟩
    · have HS := Lib.hid (tbNames_mid h0 h6)
      have q2 : decide ((6 : Int) < (xs.length : Int)) = false := decide_eq_false (by omega)
      have q3 : ((6 : Int) < (xs.length : Int)) = False := eq_false (by omega)
      clear h0 h6
      go_enter Try.func60, Try.ntmps60
      go_wp2_with fail
      with_reducible refine (eachOnceS_any xs _ B w HV.out hB).mono ?_
      rintro e w1 ⟨rfl, hb1⟩
      have hsz := hb1.size
      have HB1 := Lib.hid hb1
      clear hb1
      cases hE : onceS xs with
      | false =>
        rw [hE] at HS
        clear hE
        go_wp2_with fail
        go_ret
        exact ⟨ret_bool (by rw [HS.out]; rfl), HB1.out⟩
      | true =>
        rw [hE] at HS
        clear hE
        go_wp2_with fail
        with_reducible refine (containsCol_any xs _ B w1 (HV.out.to (HB1.out.mono hB) (Nat.le_refl _)) (by omega) HOK.out).mono ?_
        rintro e w2 ⟨rfl, hb2⟩
        have HB2 := Lib.hid (HB1.out.trans (hb2.mono hsz))
        clear hb2
        go_wp2_with fail
        go_ret
        exact ⟨ret_bool (by rw [HS.out]; simp), HB2.out⟩

theorem ok_names {x : Tb} (h : tbNames x.cs = false) : x.ok = false := by unfold Tb.ok; rw [h]; rfl
theorem ok_many {x : Tb} (h : 400 < x.rs.length) : x.ok = false := by unfold Tb.ok; rw [decide_eq_false (p := x.rs.length ≤ 400) (by omega)]; simp
theorem ok_rows {x : Tb} (h : tbNames x.cs = true) (h2 : ¬ 400 < x.rs.length) : x.ok = x.rs.all (rowOk x.cs.length) := by unfold Tb.ok; rw [h, decide_eq_true (p := x.rs.length ≤ 400) (by omega)]; simp
set_option maxRecDepth 100000 in
set_option maxHeartbeats 1000000 in
theorem tableValid_any (x : Tb) (v : Value) (B : Nat) (w : World) (hx : x.At B w v) (hB : B ≤ w.heap.size) (hok : ∀ s ∈ x.cs, s.size ≤ maxLen) :
    Calls Try.prog 22 #[v] w fun e w' => e = .returned (.bool x.ok) ∧ Below w.heap.size w w' := by
  obtain ⟨a, b, rfl, ha, hb⟩ := hx
  obtain ⟨p, c, rfl⟩ := ha.form
  obtain ⟨q, d, rfl⟩ := hb.form
  have hm1 := ha.max
  have hm2 := hb.max
  unfold maxLen at hm1 hm2
  have HA := Lib.hid ha
  have HBR := Lib.hid hb
  have HOK := Lib.hid hok
  have HN := Lib.hid (ok_names (x := x))
  have HM := Lib.hid (ok_many (x := x))
  have HR := Lib.hid (ok_rows (x := x))
  clear ha hb hok
  go_enter Try.func22, Try.ntmps22
  go_wp2_with fail
  have H0 := Lib.hid ((Below.refl w.heap.size w).alloc (Nat.le_refl _) (.cells #[.slice p x.cs.length c, .slice q x.rs.length d] 33))
  with_reducible refine (colsValid_any x.cs _ B _ (HA.out.to (H0.out.mono hB) (Nat.le_refl _)) (by simp; omega) HOK.out).mono ?_
  rintro e w1 ⟨rfl, hb1⟩
  have hs1 : w.heap.size < w1.heap.size := by have := hb1.size; simp at this; omega
  have c0 : w1.cell? ⟨w.heap.size, 0, none⟩ = some (.slice p x.cs.length c) := new_cell hb1 (j := 0) rfl
  have c1 : w1.cell? ⟨w.heap.size, 1, none⟩ = some (.slice q x.rs.length d) := new_cell hb1 (j := 1) rfl
  have HB1 := Lib.hid (H0.out.trans (hb1.mono (by simp)))
  clear hb1 H0
  cases hE : tbNames x.cs with
  | false =>
    have HF := Lib.hid (HN.out hE)
    clear hE
    go_wp2_with fail
    go_ret
    exact ⟨ret_bool (by rw [HF.out]), HB1.out⟩
  | true =>
    by_cases h4 : 400 < x.rs.length
    · have HF := Lib.hid (HM.out h4)
      have q2 : decide ((400 : Int) < (x.rs.length : Int)) = true := decide_eq_true (by omega)
      have q3 : ((400 : Int) < (x.rs.length : Int)) = True := eq_true (by omega)
      clear hE h4
      go_wp2_with fail
      go_ret
      exact ⟨ret_bool (by rw [HF.out]), HB1.out⟩
    · have HF := Lib.hid (HR.out hE h4)
      have q2 : decide ((400 : Int) < (x.rs.length : Int)) = false := decide_eq_false (by omega)
      have q3 : ((400 : Int) < (x.rs.length : Int)) = False := eq_false (by omega)
      clear hE h4
      go_wp2_with fail
      obtain ⟨w2, e2⟩ : ∃ u, u = w1.alloc (.cells #[.func (.func 61) #[] #[]] 84) := ⟨_, rfl⟩
      rw [← e2]
      have k2 : Below w1.heap.size w1 w2 := by rw [e2]; exact (Below.refl _ _).alloc (Nat.le_refl _) _
      have hs2 : w1.heap.size < w2.heap.size := by rw [e2]; simp
      have d0 := keepc k2 hs1 c0
      have f0 : w2.cell? ⟨w1.heap.size, 0, none⟩ = some (.func (.func 61) #[] #[]) := by rw [e2]; simp [go_sem]
      have HB2 := Lib.hid (HB1.out.trans (k2.mono (by omega)))
      clear k2 e2
      with_reducible refine (containsRow_any x.cs.length w.heap.size w1.heap.size p c x.rs _ B w2 (HBR.out.to (HB2.out.mono hB) (Nat.le_refl _)) (by omega) (by omega) hs2 d0 f0).mono ?_
      rintro e w3 ⟨rfl, hb3⟩
      have HB3 := Lib.hid (HB2.out.trans (hb3.mono (by omega)))
      clear hb3
      go_wp2_with fail
      go_ret
      exact ⟨ret_bool (by rw [HF.out]), HB3.out⟩
end Go.Proofs.Ytfdkmngkpihpbaa
