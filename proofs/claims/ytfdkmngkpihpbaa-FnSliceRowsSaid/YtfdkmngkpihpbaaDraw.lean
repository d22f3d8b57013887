/- The drawing source of the model's kit: pick, of, num. -/
import Derived.Test.YtfdkmngkpihpbaaGraph
import Derived.StillTailTactics
import Derived.Deep.QuietTactic
import Derived.BigQuiet
namespace Go.Proofs.Ytfdkmngkpihpbaa
open Go.RowKit

def byCells (z : Int) : List Value := [.int .u8 z]
/-- A drawing source in block a, n bytes of which have been asked for. -/
def Rd (w : World) (a n : Nat) : Prop :=
  ∃ (p : Option Addr) (cap : Nat) (zs : List Int), w.heap[a]? = some (.cells #[.slice p zs.length cap, .int .i64 n] 105 (0, 0)) ∧ Sl 1 byCells a w (.slice p zs.length cap) zs ∧ (∀ z ∈ zs, 0 ≤ z ∧ z ≤ 255) ∧ zs.length ≤ 2000
theorem Sl.by {B : Nat} {w : World} {p : Option Addr} {len cap : Nat} {xs : List Int} (h : Sl 1 byCells B w (.slice p len cap) xs) {k : Nat} (hk : k < xs.length) :
    ∃ b off, p = some ⟨b, off, none⟩ ∧ b < B ∧ w.cell? ⟨b, off + k, none⟩ = some (.int .u8 xs[k]) := by
  obtain ⟨p', len', cap', h1, h2, h3, h4, h5⟩ := h
  cases h1
  obtain ⟨b, off, e1, e2, e3⟩ := h5 k hk
  have := e3 0 _ rfl
  rw [Nat.mul_one, Nat.add_zero] at this
  exact ⟨b, off, e1, e2, this⟩
theorem Rd.lt {w : World} {a n : Nat} (h : Rd w a n) : a < w.heap.size := by
  obtain ⟨p, cap, zs, h1, _⟩ := h
  exact (Array.getElem?_eq_some_iff.1 h1).1
theorem Rd.keep {w w' : World} {a n : Nat} (h : Rd w a n) (hb : ∀ k, k ≤ a → w'.heap[k]? = w.heap[k]?) : Rd w' a n := by
  obtain ⟨p, cap, zs, h1, h2, h3, h4⟩ := h
  refine ⟨p, cap, zs, (hb a (Nat.le_refl _)).trans h1, ?_, h3, h4⟩
  obtain ⟨p', len', cap', e1, e2, e3, e4, e5⟩ := h2
  refine ⟨p', len', cap', e1, e2, e3, e4, fun i hi => ?_⟩
  obtain ⟨b, off, q1, q2, q3⟩ := e5 i hi
  exact ⟨b, off, q1, q2, fun j x hx => (World.cell?_of_block (w := w) (a := ⟨b, _, none⟩) (hb b (by omega))).trans (q3 j x hx)⟩
theorem Rd.below {w w' : World} {a n B : Nat} (h : Rd w a n) (hb : Below B w w') (hB : a < B) : Rd w' a n := h.keep fun k hk => hb.block k (by omega)
theorem Rd.next {w : World} {a n : Nat} (h : Rd w a n) : Rd (w.setCell ⟨a, 1, none⟩ (.int .i64 ((n : Int) + 1))) a (n + 1) := by
  obtain ⟨p, cap, zs, h1, h2, h3, h4⟩ := h
  refine ⟨p, cap, zs, ?_, ?_, h3, h4⟩
  · simp [World.setCell, Array.getElem?_modify, h1]
  · obtain ⟨p', len', cap', e1, e2, e3, e4, e5⟩ := h2
    refine ⟨p', len', cap', e1, e2, e3, e4, fun i hi => ?_⟩
    obtain ⟨b, off, q1, q2, q3⟩ := e5 i hi
    exact ⟨b, off, q1, q2, fun j x hx => (set_far _ _ _ _ _ _ (by omega)).trans (q3 j x hx)⟩

theorem xor_nonneg (X : Int) (h0 : 0 ≤ X) (h1 : X < 9223372036854775808) : 0 ≤ bits .xor .i64 X (X / 64) := by
  obtain ⟨a, rfl⟩ := Int.eq_ofNat_of_zero_le h0
  have ha : a < 2 ^ 63 := by omega
  have hb : a / 64 < 2 ^ 63 := by omega
  have e : ((a : Int) / 64) = ((a / 64 : Nat) : Int) := rfl
  rw [e]
  have ha' : a % 2 ^ 64 = a := Nat.mod_eq_of_lt (by omega)
  have hb' : (a / 64) % 2 ^ 64 = a / 64 := Nat.mod_eq_of_lt (by omega)
  have hc : a ^^^ (a / 64) < 2 ^ 63 := Nat.xor_lt_two_pow ha hb
  have e2 : (BitVec.ofInt 64 (a : Int) ^^^ BitVec.ofInt 64 ((a / 64 : Nat) : Int)).toNat = a ^^^ (a / 64) := by
    rw [BitVec.toNat_xor, BitVec.ofInt_natCast, BitVec.ofInt_natCast, BitVec.toNat_ofNat, BitVec.toNat_ofNat, ha', hb']
  show 0 ≤ IntKind.i64.wrap ((BitVec.ofInt 64 (a : Int) ^^^ BitVec.ofInt 64 ((a / 64 : Nat) : Int)).toNat : Int)
  rw [e2, IntKind.wrap_i64]
  omega
theorem Chg.drewN {F : List Nat} {a w : World} (h : Chg F a w) (n : Nat) : Chg F a (w.drewN n) := by
  exact ⟨h.os, h.tape, h.output, h.size, h.block⟩
theorem Rd.drewN {w : World} {a n : Nat} (h : Rd w a n) (k : Nat) : Rd (w.drewN k) a n := by
  exact h.keep fun _ _ => rfl
def top (m : Int) : Int := if 1 ≤ m then m else 1
theorem top_pos (m : Int) : 0 < top m := by unfold top; split <;> omega
theorem top_of {m : Int} (h : 1 ≤ m) : top m = m := if_pos h
/-- What a draw answers: a number below m, or 0. -/
def Picked (m : Int) (a n : Nat) (w : World) (e : Ending) (w' : World) : Prop :=
  ∃ q : Int, e = .returned (.int .i64 q) ∧ 0 ≤ q ∧ q < top m ∧ Rd w' a (n + 1) ∧ Chg [a] w w'

set_option maxRecDepth 100000 in
set_option maxHeartbeats 2000000 in
theorem pick_any (m : Int) (a n : Nat) (w : World) (h : Rd w a n) (hn : n ≤ 1000000) :
    Calls Try.prog 87 #[.pointer (some ⟨a, 0, none⟩), .int .i64 m] w (Picked m a n w) := by
  have HN := Lib.hid h.next
  have hal := h.lt
  obtain ⟨p, cap, zs, h1, h2, h3, h4⟩ := h
  have c0 : w.cell? ⟨a, 0, none⟩ = some (.slice p zs.length cap) := by simp [World.cell?, h1]
  have c1 : w.cell? ⟨a, 1, none⟩ = some (.int .i64 n) := by simp [World.cell?, h1]
  have f1 : w.frozen? ⟨a, 1, none⟩ = false := by simp [World.frozen?, h1]
  have HC := Lib.hid ((Chg.refl [a] w).setCell (p := ⟨a, 1, none⟩) (by simp) (.int .i64 ((n : Int) + 1)))
  clear h1
  by_cases hm : m < 1
  · have HM := Lib.hid (top_pos m)
    go_enter Try.func87, Try.ntmps87
    go_wp2_with fail
    go_ret
    exact ⟨0, rfl, Int.le_refl _, HM.out, HN.out, HC.out⟩
  · have hm1 : 1 ≤ m := by omega
    have HM := Lib.hid (top_of hm1)
    clear hm
    by_cases hz : zs.length = 0
    · have q0 : ((zs.length : Int) == 0) = true := beq_iff_eq.2 (by omega)
      clear hz
      go_enter Try.func87, Try.ntmps87
      go_wp2_with fail
      go_ret
      exact ⟨0, rfl, Int.le_refl _, by rw [HM.out]; show (0 : Int) < m; omega, HN.out, HC.out⟩
    · have q0 : ((zs.length : Int) == 0) = false := beq_eq_false_iff_ne.2 (by omega)
      have hz1 : 1 ≤ zs.length := by omega
      clear hz
      by_cases hk : n < zs.length
      · obtain ⟨b, off, rfl, hb, cb⟩ := h2.by hk
        have hx := h3 _ (List.getElem_mem hk)
        obtain ⟨x, ex⟩ : ∃ x, x = zs[n] := ⟨_, rfl⟩
        rw [← ex] at cb hx
        clear ex
        obtain ⟨x0, x1⟩ := hx
        have hne : a ≠ b := by omega
        go_enter Try.func87, Try.ntmps87
        go_wp2_with fail
        go_ret
        exact ⟨x % m, rfl, Int.emod_nonneg _ (by omega), by rw [HM.out]; exact Int.emod_lt_of_pos _ (by omega), HN.out, HC.out⟩
      · have hr1 : n % zs.length < zs.length := Nat.mod_lt _ (by omega)
        have hr2 : (n * 7 + 3) % zs.length < zs.length := Nat.mod_lt _ (by omega)
        obtain ⟨b, off, rfl, hb, cb⟩ := h2.by hr1
        obtain ⟨b', off', e', hb', cb'⟩ := h2.by hr2
        cases e'
        have hx := h3 _ (List.getElem_mem hr1)
        have hy := h3 _ (List.getElem_mem hr2)
        obtain ⟨x, ex⟩ : ∃ x, x = zs[n % zs.length] := ⟨_, rfl⟩
        obtain ⟨y, ey⟩ : ∃ y, y = zs[(n * 7 + 3) % zs.length] := ⟨_, rfl⟩
        rw [← ex] at cb hx
        rw [← ey] at cb' hy
        clear ex ey
        obtain ⟨x0, x1⟩ := hx
        obtain ⟨y0, y1⟩ := hy
        have hne : a ≠ b := by omega
        have j1 : (0 : Int) ≤ (n : Int) / (zs.length : Int) := Int.ediv_nonneg (by omega) (by omega)
        have j2 : (n : Int) / (zs.length : Int) ≤ 1000000 := Int.le_trans (Int.ediv_le_self _ (by omega)) (by omega)
        have i1 : (0 : Int) ≤ (n : Int) % (zs.length : Int) := Int.emod_nonneg _ (by omega)
        have i2 : (n : Int) % (zs.length : Int) < (zs.length : Int) := Int.emod_lt_of_pos _ (by omega)
        have i3 : (0 : Int) ≤ ((n : Int) * 7 + 3) % (zs.length : Int) := Int.emod_nonneg _ (by omega)
        have i4 : ((n : Int) * 7 + 3) % (zs.length : Int) < (zs.length : Int) := Int.emod_lt_of_pos _ (by omega)
        have hxor := xor_nonneg (x * 131 + y * 1117 + (n : Int) * 29 + (n : Int) / (zs.length : Int) * 53) (by omega) (by omega)
        go_enter Try.func87, Try.ntmps87
        go_wp2_with fail
        go_quiet (fail)
        go_wp2_with fail
        go_ret
        exact ⟨_, rfl, Int.emod_nonneg _ (by omega), by rw [HM.out]; exact Int.emod_lt_of_pos _ (by omega), HN.out.drewN _, HC.out.drewN _⟩
end Go.Proofs.Ytfdkmngkpihpbaa
