/- Rows of hops: the laws' equality, marks, and what the marks find. -/
import Derived.Test.YtpojfgapldgigaaGreatDoorMark
import Derived.StillTailTactics
namespace Go.Proofs.YtpojfgapldgigaaGreatDoor
open Go.RowKit

structure Hp where
  e : Int
  t : Int
def Hp.cells (x : Hp) : List Value := [.int .i64 x.e, .int .i64 x.t]

theorem Sl.atHop {B : Nat} {w : World} {p : Option Addr} {len cap : Nat} {xs : List Hp} (h : Sl 2 Hp.cells B w (.slice p len cap) xs) {k : Nat} (hk : k < xs.length) :
    ∃ b off, p = some ⟨b, off, none⟩ ∧ b < B ∧ w.cell? ⟨b, off + k * 2, none⟩ = some (.int .i64 xs[k].e) ∧ w.cell? ⟨b, off + k * 2 + 1, none⟩ = some (.int .i64 xs[k].t) := by
  obtain ⟨p', len', cap', h1, h2, h3, h4, h5⟩ := h
  cases h1
  obtain ⟨b, off, e1, e2, e3⟩ := h5 k hk
  exact ⟨b, off, e1, e2, e3 0 _ rfl, e3 1 _ rfl⟩
set_option maxHeartbeats 400000 in
theorem eqHop_any (x : Hp) (w : World) :
    Calls Tryz.prog 30 #[.agg #[.int .i64 x.e, .int .i64 x.t], .agg #[.int .i64 x.e, .int .i64 x.t]] w fun e w' => e = .returned (.bool true) ∧ Below w.heap.size w w' := by
  go_enter Tryz.func30, Tryz.ntmps30
  go_wp2_with fail
  go_ret
  exact ⟨rfl, ((Below.refl _ _).alloc (by simp) _).alloc (by simp <;> omega) _⟩
set_option maxRecDepth 100000 in
set_option maxHeartbeats 1000000 in
theorem eqHopS_any (xs : List Hp) (v v' : Value) (B : Nat) (w : World) (hv : Sl 2 Hp.cells B w v xs) (hv' : Sl 2 Hp.cells B w v' xs) (hB : B ≤ w.heap.size) :
    Calls Tryz.prog 10 #[v, v'] w fun e w' => e = .returned (.bool true) ∧ Below w.heap.size w w' := by
  obtain ⟨p, cap, rfl⟩ := hv.form
  obtain ⟨p', cap', rfl⟩ := hv'.form
  have hm := hv.max
  have hm' := hv'.max
  unfold maxLen at hm hm'
  go_enter Tryz.func10, Tryz.ntmps10
  go_wp2_with fail
  go_loopw [5] (fun i wr => ∃ k : Nat, k ≤ xs.length ∧ i = .int .i64 k ∧ Below w.heap.size w wr) (fun i _ => xs.length - (intOf i).toNat)
  case atStart => exact ⟨0, Nat.zero_le _, rfl, Below.refl _ _⟩
  case round =>
    obtain ⟨k, hk, rfl, hbw⟩ := hrel
    have hsz := hbw.size
    have HB := Lib.hid hbw
    clear hbw
    by_cases hlt2 : k < xs.length
    · obtain ⟨b, off, rfl, hb, c0, c1⟩ := (hv.below (HB.out.mono hB)).atHop hlt2
      obtain ⟨b', off', rfl, hb', d0, d1⟩ := (hv'.below (HB.out.mono hB)).atHop hlt2
      obtain ⟨x, ex⟩ : ∃ x, x = xs[k] := ⟨_, rfl⟩
      rw [← ex] at c0 c1 d0 d1
      clear ex
      go_wp2_with fail
      go_still_tail 8, (by kernel_rfl)
      go_wp2_with fail
      refine (eqHop_any x _).mono ?_
      rintro e w' ⟨rfl, hb1⟩
      have HB1 := Lib.hid (HB.out.drew.trans (hb1.mono hsz))
      clear hb1
      go_wp2_with fail
      go_roundw
      case rel => exact ⟨k + 1, by omega, by go_num, HB1.out⟩
      case measure => simp [intOf]; omega
    · obtain rfl : k = xs.length := by omega
      go_wp2_with fail
      go_ret
      exact ⟨rfl, HB.out⟩
def mkHop (m : Int) (k : Nat) : Hp := ⟨m + 2 * (k : Int), m + 2 * (k : Int) + 1⟩
set_option maxRecDepth 100000 in
set_option maxHeartbeats 2000000 in
theorem markHopS_any (xs : List Hp) (v : Value) (F : List Nat) (m : Int) (w : World) (hv : OwnSl 2 Hp.cells w v xs F) (hm : 1 ≤ m) (hb : m + 2 * xs.length ≤ 100000000) :
    Calls Tryz.prog 15 #[v, .int .i64 m] w fun e w' => e = .returned (.int .i64 (m + 2 * xs.length)) ∧ OwnSl 2 Hp.cells w' v ((List.range xs.length).map (mkHop m)) F ∧ Chg F w w' := by
  obtain ⟨p, cap, rfl⟩ := hv.sl.form
  go_enter Tryz.func15, Tryz.ntmps15
  go_wp2_with fail
  go_loopw [1, 5] (fun kk i wr => ∃ k : Nat, k ≤ xs.length ∧ i = .int .i64 k ∧ kk = .int .i64 (m + 2 * (k : Int)) ∧ OwnSl 2 Hp.cells wr (.slice p xs.length cap) (half (mkHop m) xs k) F ∧ Chg F w wr) (fun _ i _ => xs.length - (intOf i).toNat)
  case atStart => exact ⟨0, Nat.zero_le _, rfl, by simp, by rw [half_zero]; exact hv, Chg.refl _ _⟩
  case round =>
    obtain ⟨k, hk, rfl, rfl, hown, hch⟩ := hrel
    have HC := Lib.hid hch
    clear hch
    by_cases hlt : k < xs.length
    · skip
      obtain ⟨b, off, rfl, rfl, hbb, hfz, hcells⟩ := hown.elem (k := k) (by rw [half_length _ _ hk]; exact hlt)
      have own0 : OwnSl 2 Hp.cells wr (.slice (some ⟨b, off, none⟩) xs.length cap) ((half (mkHop m) xs k).set k xs[k]) [b] := by
        have e := half_at (mkHop m) xs hlt (by rw [half_length _ _ hk]; exact hlt)
        rw [← e, List.set_getElem_self]; exact hown
      have hlen := half_length (mkHop m) xs hk
      obtain ⟨x, ex⟩ : ∃ x, x = xs[k] := ⟨_, rfl⟩
      rw [← ex] at own0
      clear ex hcells hown
      have HL := Lib.hid (show k < (half (mkHop m) xs k).length by rw [hlen]; exact hlt)
      clear hlen
      have OW := Lib.hid own0
      clear own0
      have c0 : wr.cell? ⟨b, off + k * 2, none⟩ = some (.int .i64 x.e) := (OW.out.setcell HL.out (j := 0) rfl).1
      have z0 : wr.frozen? ⟨b, off + k * 2, none⟩ = false := (OW.out.setcell HL.out (j := 0) (x := .int .i64 x.e) rfl).2
      have c1 : wr.cell? ⟨b, off + k * 2 + 1, none⟩ = some (.int .i64 x.t) := (OW.out.setcell HL.out (j := 1) rfl).1
      have z1 : wr.frozen? ⟨b, off + k * 2 + 1, none⟩ = false := (OW.out.setcell HL.out (j := 1) (x := .int .i64 x.t) rfl).2
      go_wp2_with fail
      go_roundw
      case rel => exact ⟨k + 1, by omega, by go_num, congrArg (Value.int .i64) (by omega), (by rw [← half_succ _ _ hlt]; exact ((((OW.out).restore HL.out (fun _ => rfl) 0 (by decide) ⟨m + 2 * (k : Int), x.t⟩ (.int .i64 (m + 2 * (k : Int))) rfl)).restore HL.out (fun _ => rfl) 1 (by decide) ⟨m + 2 * (k : Int), m + 2 * (k : Int) + 1⟩ (.int .i64 (m + 2 * (k : Int) + 1)) rfl)), ((((HC.out).setCell (p := ⟨b, off + k * 2, none⟩) (by simp) (.int .i64 (m + 2 * (k : Int))))).setCell (p := ⟨b, off + k * 2 + 1, none⟩) (by simp) (.int .i64 (m + 2 * (k : Int) + 1)))⟩
      case measure => simp [intOf]; omega
    · obtain rfl : k = xs.length := by omega
      rw [half_full] at hown
      have HO := Lib.hid hown
      clear hown
      go_wp2_with fail
      go_ret
      exact ⟨rfl, HO.out, HC.out⟩
set_option maxRecDepth 100000 in
set_option maxHeartbeats 2000000 in
theorem heldHopS_any (n : Nat) (v : Value) (m : Int) (B : Nat) (w : World) (hv : Sl 2 Hp.cells B w v ((List.range n).map (mkHop m))) (hB : B ≤ w.heap.size) (hm : 1 ≤ m) (hb : m + 2 * (n : Int) ≤ 100000000) :
    Calls Tryz.prog 16 #[v, .int .i64 m] w fun e w' => e = .returned (.int .i64 (m + 2 * (n : Int))) ∧ Below w.heap.size w w' := by
  obtain ⟨p, cap, hve⟩ := hv.form
  rw [show ((List.range n).map (mkHop m)).length = n by simp] at hve
  subst hve
  go_enter Tryz.func16, Tryz.ntmps16
  go_wp2_with fail
  go_loopw [1, 5] (fun kk i wr => ∃ k : Nat, k ≤ n ∧ i = .int .i64 k ∧ kk = .int .i64 (m + 2 * (k : Int)) ∧ Below w.heap.size w wr) (fun _ i _ => n - (intOf i).toNat)
  case atStart => exact ⟨0, Nat.zero_le _, rfl, by simp, Below.refl _ _⟩
  case round =>
    obtain ⟨k, hk, rfl, rfl, hbw⟩ := hrel
    have hsz := hbw.size
    have HB := Lib.hid hbw
    clear hbw
    by_cases hlt : k < n
    · skip
      obtain ⟨b, off, rfl, hb', c0, c1⟩ := (hv.below (HB.out.mono hB)).atHop (k := k) (by simpa using hlt)
      rw [show ((List.range n).map (mkHop m))[k]'(by simpa using hlt) = mkHop m k by simp] at c0 c1
      have d0 : wr.cell? ⟨b, off + k * 2, none⟩ = some (.int .i64 (m + 2 * (k : Int))) := c0
      have d1 : wr.cell? ⟨b, off + k * 2 + 1, none⟩ = some (.int .i64 (m + 2 * (k : Int) + 1)) := c1
      clear c0 c1
      go_wp2_with fail
      go_roundw
      case rel => exact ⟨k + 1, by omega, by go_num, congrArg (Value.int .i64) (by omega), HB.out⟩
      case measure => simp [intOf]; omega
    · obtain rfl : k = n := by omega
      go_wp2_with fail
      go_ret
      exact ⟨rfl, HB.out⟩
end Go.Proofs.YtpojfgapldgigaaGreatDoor
