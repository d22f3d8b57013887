/- heldX finds what markX wrote. -/
import Derived.Test.YtkbmieobmecggaaMark
import Derived.Deep.RegionHeld3
import Derived.Deep.DeepCutAuto
import Derived.StillTailTactics
namespace Go.Proofs.Ytkbmieobmecggaa
open Go.RowKit

theorem Sl.it {B : Nat} {w : World} {p : Option Addr} {len cap : Nat} {xs : List Int} (h : Sl 1 intCells B w (.slice p len cap) xs) {k : Nat} (hk : k < xs.length) :
    ∃ b off, p = some ⟨b, off, none⟩ ∧ b < B ∧ w.cell? ⟨b, off + k, none⟩ = some (.int .i64 xs[k]) := by
  obtain ⟨p', len', cap', h1, h2, h3, h4, h5⟩ := h
  cases h1
  obtain ⟨b, off, e1, e2, e3⟩ := h5 k hk
  have := e3 0 _ rfl
  rw [Nat.mul_one, Nat.add_zero] at this
  exact ⟨b, off, e1, e2, this⟩

set_option maxRecDepth 100000 in
set_option maxHeartbeats 2000000 in
theorem heldNodeS_any (n : Nat) (v : Value) (m : Int) (B : Nat) (w : World) (hv : Sl 2 Nd.cells B w v ((List.range n).map (mkNode m))) (hB : B ≤ w.heap.size) (hm : 1 ≤ m) (hb : m + 2 * (n : Int) ≤ 100000000) :
    Calls Try.prog 53 #[v, .int .i64 m] w fun e w' => e = .returned (.int .i64 (m + 2 * (n : Int))) ∧ Below w.heap.size w w' := by
  obtain ⟨p, cap, hve⟩ := hv.form
  rw [show ((List.range n).map (mkNode m)).length = n by simp] at hve
  subst hve
  go_enter Try.func53, Try.ntmps53
  go_wp2_with fail
  go_loopw [1, 5] (fun kk i wr => ∃ k : Nat, k ≤ n ∧ i = .int .i64 k ∧ kk = .int .i64 (m + 2 * (k : Int)) ∧ Below w.heap.size w wr) (fun _ i _ => n - (intOf i).toNat)
  case atStart => exact ⟨0, Nat.zero_le _, rfl, by simp, Below.refl _ _⟩
  case round =>
    obtain ⟨k, hk, rfl, rfl, hbw⟩ := hrel
    have hsz := hbw.size
    have HB := Lib.hid hbw
    clear hbw
    by_cases hlt : k < n
    · skip
      obtain ⟨b, off, rfl, hb', c0, c1⟩ := (hv.below (HB.out.mono hB)).nd (k := k) (by simpa using hlt)
      rw [show ((List.range n).map (mkNode m))[k]'(by simpa using hlt) = mkNode m k by simp] at c0 c1
      have d0 : wr.cell? ⟨b, off + k * 2, none⟩ = some (.string (mt (m + 2 * (k : Int)))) := c0
      have d1 : wr.cell? ⟨b, off + k * 2 + 1, none⟩ = some (.int .i64 ((m + 2 * (k : Int) + 1))) := c1
      clear c0 c1
      have zb : b < wr.drew.heap.size := by simp; omega
      have zw : w.heap.size ≤ wr.drew.heap.size := hsz
      have HBd := Lib.hid HB.out.drew
      go_upto_region 4 with fail
      go_cut [19] (fun s wx => s = .bool false ∧ Below w.heap.size w wx ∧ wx.cell? ⟨b, off + k * 2, none⟩ = some (.string (mt (m + 2 * (k : Int)))) ∧ wx.cell? ⟨b, off + k * 2 + 1, none⟩ = some (.int .i64 ((m + 2 * (k : Int) + 1))))
      case first =>
        go_region_held3 (fun w' => w'.cell? ⟨b, off + k * 2, none⟩ = some (.string (mt (m + 2 * (k : Int)))) ∧ w'.cell? ⟨b, off + k * 2 + 1, none⟩ = some (.int .i64 ((m + 2 * (k : Int) + 1))))
          (first | exact ⟨d0, d1⟩ | exact S6.out)
          (first | (go_at_call 61; refine (markText_any _ _ (by omega) (by omega)).mono ?_; rintro e wc ⟨rfl, hbc⟩; have S6 := Lib.hid (And.intro (keepc hbc zb d0) (keepc hbc zb d1)); have HBc := Lib.hid (HBd.out.trans (hbc.mono zw)); clear hbc))
        all_goals (go_wp2_with fail; go_meet)
        all_goals exact ⟨rfl, HBc.out, S6.out⟩
      case rest =>
        clear zb zw HBd d0 d1
        obtain ⟨rfl, hbx, d0, d1⟩ := hcut
        have HBx := Lib.hid hbx
        clear hbx
        go_wp2_with fail
        go_roundw
        case rel => exact ⟨k + 1, by omega, by go_num, congrArg (Value.int .i64) (by omega), HBx.out⟩
        case measure => simp [intOf]; omega
    · obtain rfl : k = n := by omega
      go_wp2_with fail
      go_ret
      exact ⟨rfl, HB.out⟩

set_option maxRecDepth 100000 in
set_option maxHeartbeats 2000000 in
theorem heldEdgeS_any (n : Nat) (v : Value) (m : Int) (B : Nat) (w : World) (hv : Sl 4 Ed.cells B w v ((List.range n).map (mkEdge m))) (hB : B ≤ w.heap.size) (hm : 1 ≤ m) (hb : m + 4 * (n : Int) ≤ 100000000) :
    Calls Try.prog 54 #[v, .int .i64 m] w fun e w' => e = .returned (.int .i64 (m + 4 * (n : Int))) ∧ Below w.heap.size w w' := by
  obtain ⟨p, cap, hve⟩ := hv.form
  rw [show ((List.range n).map (mkEdge m)).length = n by simp] at hve
  subst hve
  go_enter Try.func54, Try.ntmps54
  go_wp2_with fail
  go_loopw [1, 5] (fun kk i wr => ∃ k : Nat, k ≤ n ∧ i = .int .i64 k ∧ kk = .int .i64 (m + 4 * (k : Int)) ∧ Below w.heap.size w wr) (fun _ i _ => n - (intOf i).toNat)
  case atStart => exact ⟨0, Nat.zero_le _, rfl, by simp, Below.refl _ _⟩
  case round =>
    obtain ⟨k, hk, rfl, rfl, hbw⟩ := hrel
    have hsz := hbw.size
    have HB := Lib.hid hbw
    clear hbw
    by_cases hlt : k < n
    · skip
      obtain ⟨b, off, rfl, hb', c0, c1, c2, c3⟩ := (hv.below (HB.out.mono hB)).ed (k := k) (by simpa using hlt)
      rw [show ((List.range n).map (mkEdge m))[k]'(by simpa using hlt) = mkEdge m k by simp] at c0 c1 c2 c3
      have d0 : wr.cell? ⟨b, off + k * 4, none⟩ = some (.int .i64 ((m + 4 * (k : Int)))) := c0
      have d1 : wr.cell? ⟨b, off + k * 4 + 1, none⟩ = some (.int .i64 ((m + 4 * (k : Int) + 1))) := c1
      have d2 : wr.cell? ⟨b, off + k * 4 + 2, none⟩ = some (.string (mt (m + 4 * (k : Int) + 1 + 1))) := c2
      have d3 : wr.cell? ⟨b, off + k * 4 + 3, none⟩ = some (.int .i64 ((m + 4 * (k : Int) + 1 + 1 + 1))) := c3
      clear c0 c1 c2 c3
      have zb : b < wr.drew.heap.size := by simp; omega
      have zw : w.heap.size ≤ wr.drew.heap.size := hsz
      have HBd := Lib.hid HB.out.drew
      go_upto_region 10 with fail
      go_cut [37] (fun s wx => s = .bool false ∧ Below w.heap.size w wx ∧ wx.cell? ⟨b, off + k * 4, none⟩ = some (.int .i64 ((m + 4 * (k : Int)))) ∧ wx.cell? ⟨b, off + k * 4 + 1, none⟩ = some (.int .i64 ((m + 4 * (k : Int) + 1))) ∧ wx.cell? ⟨b, off + k * 4 + 2, none⟩ = some (.string (mt (m + 4 * (k : Int) + 1 + 1))) ∧ wx.cell? ⟨b, off + k * 4 + 3, none⟩ = some (.int .i64 ((m + 4 * (k : Int) + 1 + 1 + 1))))
      case first =>
        go_region_held3 (fun w' => w'.cell? ⟨b, off + k * 4, none⟩ = some (.int .i64 ((m + 4 * (k : Int)))) ∧ w'.cell? ⟨b, off + k * 4 + 1, none⟩ = some (.int .i64 ((m + 4 * (k : Int) + 1))) ∧ w'.cell? ⟨b, off + k * 4 + 2, none⟩ = some (.string (mt (m + 4 * (k : Int) + 1 + 1))) ∧ w'.cell? ⟨b, off + k * 4 + 3, none⟩ = some (.int .i64 ((m + 4 * (k : Int) + 1 + 1 + 1))))
          (first | exact ⟨d0, d1, d2, d3⟩ | exact S6.out)
          (first | (go_at_call 61; refine (markText_any _ _ (by omega) (by omega)).mono ?_; rintro e wc ⟨rfl, hbc⟩; have S6 := Lib.hid (And.intro (keepc hbc zb d0) (And.intro (keepc hbc zb d1) (And.intro (keepc hbc zb d2) (keepc hbc zb d3)))); have HBc := Lib.hid (HBd.out.trans (hbc.mono zw)); clear hbc))
        all_goals (go_wp2_with fail; go_meet)
        all_goals exact ⟨rfl, HBc.out, S6.out⟩
      case rest =>
        clear zb zw HBd d0 d1 d2 d3
        obtain ⟨rfl, hbx, d0, d1, d2, d3⟩ := hcut
        have HBx := Lib.hid hbx
        clear hbx
        go_wp2_with fail
        go_roundw
        case rel => exact ⟨k + 1, by omega, by go_num, congrArg (Value.int .i64) (by omega), HBx.out⟩
        case measure => simp [intOf]; omega
    · obtain rfl : k = n := by omega
      go_wp2_with fail
      go_ret
      exact ⟨rfl, HB.out⟩

end Go.Proofs.Ytkbmieobmecggaa
