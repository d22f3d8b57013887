/- FormatWalk, on both sides. -/
import Derived.Test.YthpclghhlodnhaaDoorItoa
import Derived.Test.YthpclghhlodnhaaDoorWkB
import Derived.Deep.RegionHeld3
import Derived.Deep.DeepCutAuto
namespace Go.Proofs.YthpclghhlodnhaaDoor
open Go.RowKit

def smallB (n : Int) : Bool := decide (0 ≤ n) && decide (n ≤ 99)
theorem smallB_iff {n : Int} : smallB n = true ↔ 0 ≤ n ∧ n ≤ 99 := by simp [smallB]
theorem smallB_not {n : Int} : smallB n = false ↔ ¬ (0 ≤ n ∧ n ≤ 99) := by rw [← smallB_iff]; simp
def wkText (x : Wk) : Bool := wkShape x && (x.ns.all smallB && x.es.all smallB)
/-- The text of the first k edges and of the nodes at them. -/
def wkTx (x : Wk) : Nat → ByteArray
  | 0 => dec (x.ns.getD 0 0)
  | k + 1 => wkTx x k ++ (((⟨#[45]⟩ : ByteArray) ++ dec (x.es.getD k 0)) ++ (⟨#[45]⟩ : ByteArray) ++ dec (x.ns.getD (k + 1) 0))
def fmtW (x : Wk) : ByteArray := if wkText x then wkTx x x.es.length else ⟨#[]⟩
theorem getD_at (l : List Int) {i : Nat} (h : i < l.length) : l.getD i 0 = l[i] := by simp [List.getD, h]
theorem wkTx_size {x : Wk} (hn : ∀ n ∈ x.ns, 0 ≤ n ∧ n ≤ 99) (he : ∀ n ∈ x.es, 0 ≤ n ∧ n ≤ 99) : ∀ k, k < x.ns.length → k ≤ x.es.length → (wkTx x k).size ≤ 6 * k + 2
  | 0, h0, _ => by
    unfold wkTx
    have h := hn _ (List.getElem_mem h0)
    rw [getD_at _ h0]
    exact dec_size h.1 h.2
  | k + 1, h1, h2 => by
    unfold wkTx
    have ih := wkTx_size hn he k (by omega) (by omega)
    have a := hn _ (List.getElem_mem h1)
    have b := he _ (List.getElem_mem (show k < x.es.length by omega))
    have sa := dec_size a.1 a.2
    have sb := dec_size b.1 b.2
    rw [getD_at _ h1, getD_at _ (show k < x.es.length by omega)]
    simp only [ByteArray.size_append]
    have : (⟨#[45]⟩ : ByteArray).size = 1 := rfl
    omega
theorem wkText_all {x : Wk} (h : wkText x = true) : (∀ n ∈ x.ns, 0 ≤ n ∧ n ≤ 99) ∧ (∀ n ∈ x.es, 0 ≤ n ∧ n ≤ 99) := by
  unfold wkText at h
  simp only [Bool.and_eq_true, List.all_eq_true] at h
  exact ⟨fun n hn => smallB_iff.1 (h.2.1 n hn), fun n hn => smallB_iff.1 (h.2.2 n hn)⟩

set_option maxHeartbeats 400000 in
theorem outside_any (n : Int) (w : World) : Calls Tryd.prog 88 #[.int .i64 n] w fun e w' => e = .returned (.bool (!smallB n)) ∧ Below w.heap.size w w' := by
  by_cases h0 : n < 0
  · have q0 : decide (n < 0) = true := decide_eq_true h0
    have HS := Lib.hid (show smallB n = false from smallB_not.2 (by omega))
    go_enter Tryd.func88, Tryd.ntmps88
    go_wp2_with fail
    go_ret
    exact ⟨ret_bool (by rw [HS.out]; rfl), Below.refl _ _⟩
  · have q0 : decide (n < 0) = false := decide_eq_false h0
    by_cases h1 : 99 < n
    · have q1 : decide (99 < n) = true := decide_eq_true h1
      have HS := Lib.hid (show smallB n = false from smallB_not.2 (by omega))
      clear h0
      go_enter Tryd.func88, Tryd.ntmps88
      go_wp2_with fail
      go_ret
      exact ⟨ret_bool (by rw [HS.out]; rfl), Below.refl _ _⟩
    · have q1 : decide (99 < n) = false := decide_eq_false h1
      have HS := Lib.hid (show smallB n = true from smallB_iff.2 (by omega))
      clear h0 h1
      go_enter Tryd.func88, Tryd.ntmps88
      go_wp2_with fail
      go_ret
      exact ⟨ret_bool (by rw [HS.out]; rfl), Below.refl _ _⟩

set_option maxRecDepth 100000 in
set_option maxHeartbeats 1000000 in
theorem indexOutside_any (xs : List Int) (v : Value) (B : Nat) (w : World) (hv : Sl 1 intCells B w v xs) (hB : B ≤ w.heap.size) :
    Calls Tryd.prog 96 #[v, .func (.func 88) #[] #[]] w fun e w' => ∃ r : Int, e = .returned (.int .i64 r) ∧ ((r = -1 ∧ xs.all smallB = true) ∨ (0 ≤ r ∧ xs.all smallB = false)) ∧ Below w.heap.size w w' := by
  obtain ⟨p, cap, rfl⟩ := hv.form
  have hm := hv.max
  unfold maxLen at hm
  go_enter Tryd.func96, Tryd.ntmps96
  go_wp2_with fail
  go_loopw [8] (fun i wr => ∃ k : Nat, k ≤ xs.length ∧ i = .int .i64 k ∧ AllP smallB xs k ∧ Below w.heap.size w wr) (fun i _ => xs.length - (intOf i).toNat)
  case atStart => exact ⟨0, Nat.zero_le _, rfl, AllP.zero _ _, Below.refl _ _⟩
  case round =>
    obtain ⟨k, hk, rfl, ha, hbw⟩ := hrel
    have hsz := hbw.size
    have HB := Lib.hid hbw
    clear hbw
    by_cases hlt : k < xs.length
    · obtain ⟨b, off, rfl, hb, c0⟩ := (hv.below (HB.out.mono hB)).it hlt
      have hgood := Lib.hid (fun h => ha.succ (f := smallB) hlt h)
      have hbad := Lib.hid (fun h => all_bad (f := smallB) (xs := xs) hlt h)
      clear ha
      obtain ⟨x, ex⟩ : ∃ x, x = xs[k] := ⟨_, rfl⟩
      rw [← ex] at hgood hbad c0
      clear ex
      go_wp2_with fail
      with_reducible refine (outside_any x _).mono ?_
      rintro e w1 ⟨rfl, hb1⟩
      have HB1 := Lib.hid (HB.out.trans (hb1.mono hsz))
      clear hb1
      cases hE : smallB x with
      | false =>
        have HG := Lib.hid (hbad.out hE)
        clear hE
        go_wp2_with fail
        go_ret
        exact ⟨k, rfl, .inr ⟨by omega, HG.out⟩, HB1.out⟩
      | true =>
        have HG := Lib.hid (hgood.out hE)
        clear hE
        go_wp2_with fail
        go_roundw
        case rel => exact ⟨k + 1, by omega, by go_num, HG.out, HB1.out⟩
        case measure => simp [intOf]; omega
    · obtain rfl : k = xs.length := by omega
      have HG := Lib.hid ha.full
      go_wp2_with fail
      go_ret
      exact ⟨-1, rfl, .inl ⟨rfl, HG.out⟩, HB.out⟩

set_option maxHeartbeats 400000 in
theorem containsOutside_any (xs : List Int) (v : Value) (B : Nat) (w : World) (hv : Sl 1 intCells B w v xs) (hB : B ≤ w.heap.size) :
    Calls Tryd.prog 90 #[v, .func (.func 88) #[] #[]] w fun e w' => e = .returned (.bool (!xs.all smallB)) ∧ Below w.heap.size w w' := by
  go_enter Tryd.func90, Tryd.ntmps90
  go_wp2_with fail
  with_reducible refine (indexOutside_any xs v B w hv hB).mono ?_
  rintro e w1 ⟨r, rfl, hr, hb1⟩
  have HB := Lib.hid hb1
  clear hb1
  rcases hr with ⟨hr, hz⟩ | ⟨hr, hz⟩
  · have HZ := Lib.hid hz
    clear hz
    subst hr
    go_wp2_with fail
    go_ret
    exact ⟨ret_bool (by rw [HZ.out]; rfl), HB.out⟩
  · have HZ := Lib.hid hz
    have q0 : decide (0 ≤ r) = true := decide_eq_true hr
    clear hz
    go_wp2_with fail
    go_ret
    exact ⟨ret_bool (by rw [HZ.out]; rfl), HB.out⟩

set_option maxHeartbeats 2000000 in
theorem hasText_any (x : Wk) (v : Value) (B : Nat) (w : World) (hx : x.At B w v) (hB : B ≤ w.heap.size) (hn : x.need ≤ 1048576) :
    Calls Tryd.prog 74 #[v] w fun e w' => e = .returned (.bool (wkText x)) ∧ Below w.heap.size w w' := by
  have HX := Lib.hid hx
  obtain ⟨a, b, rfl, ha, hb⟩ := hx
  have H1 := Lib.hid ha
  have H2 := Lib.hid hb
  have HN := Lib.hid hn
  clear ha hb hn
  go_enter Tryd.func74, Tryd.ntmps74
  go_wp2_with fail
  with_reducible refine (hasShape_any x _ B _ (HX.out.to ((Below.refl B w).alloc hB _) (Nat.le_refl _)) HN.out).mono ?_
  rintro e w1 ⟨rfl, hb1⟩
  obtain ⟨hs1, p1, q1⟩ := one_box (hb1.mono (by simp))
  have HB1 := Lib.hid (((Below.refl _ w).alloc (Nat.le_refl _) _).trans (hb1.mono (by simp)))
  clear hb1
  cases hs : wkShape x with
  | false =>
    have HS := Lib.hid (show wkText x = false by unfold wkText; rw [hs]; rfl)
    clear hs
    go_wp2_with fail
    go_ret
    exact ⟨ret_bool (by rw [HS.out]), HB1.out⟩
  | true =>
    have HS := Lib.hid (show wkText x = (x.ns.all smallB && x.es.all smallB) by unfold wkText; rw [hs]; rfl)
    clear hs
    go_wp2_with fail
    with_reducible refine (containsOutside_any x.ns a B _ (H1.out.below (HB1.out.mono hB)) (by omega)).mono ?_
    rintro e w2 ⟨rfl, hb2⟩
    have p2 := keepc hb2 hs1 p1
    have q2 := keepc hb2 hs1 q1
    have hs2 := hb2.size
    have HB2 := Lib.hid (HB1.out.trans (hb2.mono (by omega)))
    clear hb2 p1 q1
    cases ht : x.ns.all smallB with
    | false =>
      have HT := Lib.hid (show wkText x = false by rw [HS.out, ht]; rfl)
      clear ht
      go_wp2_with fail
      go_ret
      exact ⟨ret_bool (by rw [HT.out]), HB2.out⟩
    | true =>
      have HT := Lib.hid (show wkText x = x.es.all smallB by rw [HS.out, ht]; rfl)
      clear ht
      go_wp2_with fail
      with_reducible refine (containsOutside_any x.es b B _ (H2.out.below (HB2.out.mono hB)) (by omega)).mono ?_
      rintro e w3 ⟨rfl, hb3⟩
      have HB3 := Lib.hid (HB2.out.trans (hb3.mono (by omega)))
      clear hb3
      cases hu : x.es.all smallB with
      | false =>
        have HU := Lib.hid (HT.out.trans hu)
        clear hu
        go_wp2_with fail
        go_ret
        exact ⟨ret_bool (by rw [HU.out]), HB3.out⟩
      | true =>
        have HU := Lib.hid (HT.out.trans hu)
        clear hu
        go_wp2_with fail
        go_ret
        exact ⟨ret_bool (by rw [HU.out]), HB3.out⟩

set_option maxHeartbeats 400000 in
theorem l5Small_any (n : Int) (w : World) : Calls Tryd.prog 70 #[.int .i64 n] w fun e w' => e = .returned (.bool (smallB n)) ∧ Below w.heap.size w w' := by
  by_cases h0 : 0 ≤ n
  · have q0 : decide (0 ≤ n) = true := decide_eq_true h0
    by_cases h1 : n ≤ 99
    · have q1 : decide (n ≤ 99) = true := decide_eq_true h1
      have HS := Lib.hid (show smallB n = true from smallB_iff.2 (by omega))
      clear h0 h1
      go_enter Tryd.func70, Tryd.ntmps70
      go_wp2_with fail
      go_ret
      exact ⟨ret_bool (by rw [HS.out]), Below.refl _ _⟩
    · have q1 : decide (n ≤ 99) = false := decide_eq_false h1
      have HS := Lib.hid (show smallB n = false from smallB_not.2 (by omega))
      clear h0 h1
      go_enter Tryd.func70, Tryd.ntmps70
      go_wp2_with fail
      go_ret
      exact ⟨ret_bool (by rw [HS.out]), Below.refl _ _⟩
  · have q0 : decide (0 ≤ n) = false := decide_eq_false h0
    have HS := Lib.hid (show smallB n = false from smallB_not.2 (by omega))
    clear h0
    go_enter Tryd.func70, Tryd.ntmps70
    go_wp2_with fail
    go_ret
    exact ⟨ret_bool (by rw [HS.out]), Below.refl _ _⟩
end Go.Proofs.YthpclghhlodnhaaDoor
