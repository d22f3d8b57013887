/- Equality of matches: the laws' helper, and MatchSame on both sides. -/
import Derived.Test.YthpclghhlodnhaaDoorMt
import Derived.Test.YthpclghhlodnhaaDoorWkB
import Derived.Test.YthpclghhlodnhaaDoorReg
namespace Go.Proofs.YthpclghhlodnhaaDoor
open Go.RowKit

set_option maxHeartbeats 1000000 in
theorem eqBind_any (b : Bn) (s s' : Value) (B : Nat) (w : World) (hs : Sl 1 intCells B w s b.ids) (hs' : Sl 1 intCells B w s' b.ids) (hB : B ≤ w.heap.size) :
    Calls Tryd.prog 77 #[.agg #[.string b.v, s, .bool b.g], .agg #[.string b.v, s', .bool b.g]] w fun e w' => e = .returned (.bool true) ∧ Below w.heap.size w w' := by
  have H1 := Lib.hid hs
  have H2 := Lib.hid hs'
  obtain ⟨p, cap, rfl⟩ := hs.form
  obtain ⟨p', cap', rfl⟩ := hs'.form
  clear hs hs'
  go_enter Tryd.func77, Tryd.ntmps77
  go_wp2_with fail
  have HV := Lib.hid (((Below.refl w.heap.size w).alloc (Nat.le_refl _) (.cells #[.string b.v, .slice p b.ids.length cap, .bool b.g] 83)).alloc (by simp) (.cells #[.string b.v, .slice p' b.ids.length cap', .bool b.g] 83))
  refine (eqIntS_any b.ids _ _ B _ (H1.out.below (HV.out.mono hB)) (H2.out.below (HV.out.mono hB)) (by simp; omega)).mono ?_
  rintro e w1 ⟨rfl, hb1⟩
  have hs1 : w.heap.size + 2 ≤ w1.heap.size := by have := hb1.size; simp at this; omega
  have p1 : w1.cell? ⟨w.heap.size, 2, none⟩ = some (.bool b.g) := (hb1.cell (by simp; omega)).trans (by simp [go_sem])
  have q1 : w1.cell? ⟨w.heap.size + 1, 2, none⟩ = some (.bool b.g) := (hb1.cell (by simp)).trans (by simp [go_sem])
  have HB1 := Lib.hid (HV.out.trans (hb1.mono (by simp; omega)))
  clear hb1
  go_wp2_with fail
  go_ret
  exact ⟨rfl, HB1.out⟩

set_option maxRecDepth 100000 in
set_option maxHeartbeats 1000000 in
theorem eqBindS_any (xs : List Bn) (v v' : Value) (B : Nat) (w : World) (hv : kBn.Rd B w v xs) (hv' : kBn.Rd B w v' xs) (hB : B ≤ w.heap.size) :
    Calls Tryd.prog 45 #[v, v'] w fun e w' => e = .returned (.bool true) ∧ Below w.heap.size w w' := by
  obtain ⟨p, cap, rfl⟩ := hv.form
  obtain ⟨p', cap', rfl⟩ := hv'.form
  obtain ⟨_, _, hm⟩ := hv.max
  obtain ⟨_, _, hm'⟩ := hv'.max
  have hl := hv.max.2.1
  unfold maxLen at hm hm'
  have HV := Lib.hid hv
  have HV' := Lib.hid hv'
  clear hv hv'
  go_enter Tryd.func45, Tryd.ntmps45
  go_wp2_with fail
  go_loopw [5] (fun i wr => ∃ k : Nat, k ≤ xs.length ∧ i = .int .i64 k ∧ Below w.heap.size w wr) (fun i _ => xs.length - (intOf i).toNat)
  case atStart => exact ⟨0, Nat.zero_le _, rfl, Below.refl _ _⟩
  case round =>
    obtain ⟨k, hk, rfl, hbw⟩ := hrel
    have hsz := hbw.size
    have HB := Lib.hid hbw
    clear hbw
    by_cases hlt2 : k < xs.length
    · obtain ⟨b, off, q, c, rfl, hb, c0, c1, c2, hin⟩ := kBn_get (HV.out.to (HB.out.mono hB) (Nat.le_refl _)) hlt2
      obtain ⟨b', off', q', c', rfl, hb', d0, d1, d2, hin'⟩ := kBn_get (HV'.out.to (HB.out.mono hB) (Nat.le_refl _)) hlt2
      obtain ⟨x, ex⟩ : ∃ x, x = xs[k] := ⟨_, rfl⟩
      rw [← ex] at c0 c1 c2 d0 d1 d2 hin hin'
      have H1 := Lib.hid (hin.below (Below.refl B wr).drew)
      have H2 := Lib.hid (hin'.below (Below.refl B wr).drew)
      clear ex hin hin'
      go_wp2_with fail
      go_still_tail 8, (by kernel_rfl)
      go_wp2_with fail
      refine (eqBind_any x _ _ B _ H1.out H2.out (by show B ≤ wr.heap.size; omega)).mono ?_
      rintro e w' ⟨rfl, hb1⟩
      have HB1 := Lib.hid (HB.out.drew.trans (hb1.mono hsz))
      clear hb1
      go_wp2_with fail
      go_roundw
      case rel => exact ⟨k + 1, by omega, by go_num, HB1.out⟩
      case measure => simp [intOf]; omega
    · obtain rfl : k = xs.length := by omega
      go_wp2_with fail
      go_ret
      exact ⟨rfl, HB.out⟩

set_option maxHeartbeats 1000000 in
theorem eqMatch_any (m : Mt) (v v' : Value) (B : Nat) (w : World) (hm : m.At B w v) (hm' : m.At B w v') (hB : B ≤ w.heap.size) :
    Calls Tryd.prog 17 #[v, v'] w fun e w' => e = .returned (.bool true) ∧ Below w.heap.size w w' := by
  obtain ⟨a, b, c, rfl, ha, hb, hc⟩ := hm
  obtain ⟨a', b', c', rfl, ha', hb', hc'⟩ := hm'
  have H1 := Lib.hid (show m.w.At B w (.agg #[a, b]) from ⟨a, b, rfl, ha, hb⟩)
  have H1' := Lib.hid (show m.w.At B w (.agg #[a', b']) from ⟨a', b', rfl, ha', hb'⟩)
  have H2 := Lib.hid hc
  have H2' := Lib.hid hc'
  clear ha hb hc ha' hb' hc'
  go_enter Tryd.func17, Tryd.ntmps17
  go_wp2_with fail
  have HV := Lib.hid (((Below.refl w.heap.size w).alloc (Nat.le_refl _) (.cells #[a, b, c] 59)).alloc (by simp) (.cells #[a', b', c'] 59))
  refine (eqWalk_any m.w _ _ B _ (H1.out.to (HV.out.mono hB) (Nat.le_refl _)) (H1'.out.to (HV.out.mono hB) (Nat.le_refl _)) (by simp; omega)).mono ?_
  rintro e w1 ⟨rfl, hb1⟩
  have hs1 : w.heap.size + 2 ≤ w1.heap.size := by have := hb1.size; simp at this; omega
  have p1 : w1.cell? ⟨w.heap.size, 2, none⟩ = some c := (hb1.cell (by simp; omega)).trans (by simp [go_sem])
  have q1 : w1.cell? ⟨w.heap.size + 1, 2, none⟩ = some c' := (hb1.cell (by simp)).trans (by simp [go_sem])
  have HB1 := Lib.hid (HV.out.trans (hb1.mono (by simp; omega)))
  clear hb1
  go_wp2_with fail
  refine (eqBindS_any m.bs c c' B _ (H2.out.to (HB1.out.mono hB) (Nat.le_refl _)) (H2'.out.to (HB1.out.mono hB) (Nat.le_refl _)) (by omega)).mono ?_
  rintro e w2 ⟨rfl, hb2⟩
  have HB2 := Lib.hid (HB1.out.trans (hb2.mono (by omega)))
  clear hb2
  go_wp2_with fail
  go_ret
  exact ⟨rfl, HB2.out⟩

/-- What MatchSame answers. -/
def bnE (x y : Bn) : Bool := ((x.v.toList == y.v.toList) && (x.g == y.g)) && eqL intE x.ids y.ids
def mtEq (a b : Mt) : Bool := wkEq a.w b.w && eqL bnE a.bs b.bs

end Go.Proofs.YthpclghhlodnhaaDoor
