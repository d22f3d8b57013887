/- impl.GraphSame and spec.GraphSame: both tell whether all nodes and edges are equal. -/
import Derived.Test.YtafddoljphmgkaaDoorMem
import Derived.Test.YtafddoljphmgkaaDoorLabel
import Derived.StillTailTactics
namespace Go.Proofs.YtafddoljphmgkaaDoor
open Go.RowKit

def eqL {α : Type} (f : α → α → Bool) : List α → List α → Bool
  | [], [] => true
  | x :: xs, y :: ys => f x y && eqL f xs ys
  | _, _ => false
theorem eqL_len {α : Type} {f : α → α → Bool} : ∀ {xs ys : List α}, xs.length ≠ ys.length → eqL f xs ys = false
  | [], [], h => absurd rfl h
  | [], _ :: _, _ => rfl
  | _ :: _, [], _ => rfl
  | x :: xs, y :: ys, h => by unfold eqL; rw [eqL_len (by simpa using h)]; simp
theorem eqL_all {α : Type} {f : α → α → Bool} : ∀ {xs ys : List α}, xs.length = ys.length → (∀ i (h : i < xs.length) (h' : i < ys.length), f xs[i] ys[i] = true) → eqL f xs ys = true
  | [], [], _, _ => rfl
  | [], _ :: _, h, _ => by simp at h
  | _ :: _, [], h, _ => by simp at h
  | x :: xs, y :: ys, h, ha => by
    unfold eqL
    rw [show f x y = true from ha 0 (by simp) (by simp), eqL_all (by simpa using h) (fun i h1 h2 => by have := ha (i + 1) (by simpa using h1) (by simpa using h2); simpa using this)]; rfl
theorem eqL_bad {α : Type} {f : α → α → Bool} : ∀ {xs ys : List α} (i : Nat) (h : i < xs.length) (h' : i < ys.length), f xs[i] ys[i] = false → eqL f xs ys = false
  | [], _, _, h, _, _ => by simp at h
  | _ :: _, [], _, _, h, _ => by simp at h
  | x :: xs, y :: ys, 0, _, _, hb => by unfold eqL; rw [show f x y = false from hb]; rfl
  | x :: xs, y :: ys, i + 1, h, h', hb => by unfold eqL; rw [eqL_bad i (by simpa using h) (by simpa using h') (by simpa using hb)]; simp
/-- The first k pairs agree. -/
def AllE {α : Type} (f : α → α → Bool) (xs ys : List α) (k : Nat) : Prop := ∀ i (h : i < xs.length) (h' : i < ys.length), i < k → f xs[i] ys[i] = true
theorem AllE.zero {α : Type} (f : α → α → Bool) (xs ys : List α) : AllE f xs ys 0 := fun _ _ _ h => by omega
theorem AllE.succ {α : Type} {f : α → α → Bool} {xs ys : List α} {k : Nat} (h : AllE f xs ys k) (h1 : k < xs.length) (h2 : k < ys.length) (hc : f xs[k] ys[k] = true) : AllE f xs ys (k + 1) := by
  intro i hi hi' hik
  by_cases e : i = k
  · subst e; exact hc
  · exact h i hi hi' (by omega)
theorem AllE.full {α : Type} {f : α → α → Bool} {xs ys : List α} {k : Nat} (h : AllE f xs ys k) (hk : xs.length ≤ k) (hl : xs.length = ys.length) : eqL f xs ys = true := eqL_all hl fun i a b => h i a b (by omega)
def ndE (x y : Nd) : Bool := (x.l.toList == y.l.toList) && (x.n == y.n)
def edE (x y : Ed) : Bool := (x.f == y.f) && ((x.t == y.t) && ((x.l.toList == y.l.toList) && (x.n == y.n)))
def gs (a b : Gr) : Bool := eqL ndE a.ns b.ns && eqL edE a.es b.es

theorem neqNode (x y : Nd) (w : World) : (binOp .neq 40 (.agg #[.string x.l, .int .i64 x.n]) (.agg #[.string y.l, .int .i64 y.n])).run Tryd.prog w = .ok (.bool (!ndE x y)) w := by
  have h := run_neq_struct (P := Tryd.prog) w 40 #[.string x.l, .int .i64 x.n] #[.string y.l, .int .i64 y.n]
  rw [h, run_equalIn_agg w 9999 40 _ _ (by kernel_rfl) (by kernel_rfl)]
  go_simp
  unfold ndE
  repeat' split
  all_goals simp_all

set_option maxRecDepth 100000 in
set_option maxHeartbeats 1000000 in
theorem slEqualNode_any (xs ys : List Nd) (v v' : Value) (B : Nat) (w : World) (hv : Sl 2 Nd.cells B w v xs) (hv' : Sl 2 Nd.cells B w v' ys) (hB : B ≤ w.heap.size) :
    Calls Tryd.prog 13 #[v, v'] w fun e w' => e = .returned (.bool (eqL ndE xs ys)) ∧ Below w.heap.size w w' := by
  obtain ⟨p, cap, rfl⟩ := hv.form
  obtain ⟨p', cap', rfl⟩ := hv'.form
  have hm := hv.max
  have hm' := hv'.max
  unfold maxLen at hm hm'
  by_cases hlen : xs.length = ys.length
  · have q1 : ((xs.length : Int) != (ys.length : Int)) = false := by rw [hlen]; simp
    have HL := Lib.hid hlen
    have hl1 : xs.length ≤ ys.length := by omega
    have hl2 : ys.length ≤ xs.length := by omega
    clear hlen
    go_enter Tryd.func13, Tryd.ntmps13
    go_wp2_with fail
    go_loopw [13] (fun i wr => ∃ k : Nat, k ≤ xs.length ∧ i = .int .i64 k ∧ AllE ndE xs ys k ∧ Below w.heap.size w wr) (fun i _ => xs.length - (intOf i).toNat)
    case atStart => exact ⟨0, Nat.zero_le _, rfl, AllE.zero _ _ _, Below.refl _ _⟩
    case round =>
      obtain ⟨k, hk, rfl, ha, hbw⟩ := hrel
      have hsz := hbw.size
      have HB := Lib.hid hbw
      clear hbw
      by_cases hlt2 : k < xs.length
      · have hlt3 : k < ys.length := by omega
        obtain ⟨b, off, rfl, hb, c0, c1⟩ := (hv.below (HB.out.mono hB)).nd hlt2
        obtain ⟨b', off', rfl, hb', d0, d1⟩ := (hv'.below (HB.out.mono hB)).nd hlt3
        have HA := Lib.hid ha
        have hgood := Lib.hid (fun h => ha.succ (f := ndE) hlt2 hlt3 h)
        have hbad := Lib.hid (fun h => eqL_bad (f := ndE) (xs := xs) (ys := ys) k hlt2 hlt3 h)
        clear ha
        obtain ⟨x, ex⟩ : ∃ x, x = xs[k] := ⟨_, rfl⟩
        obtain ⟨y, ey⟩ : ∃ y, y = ys[k] := ⟨_, rfl⟩
        rw [← ex, ← ey] at hgood hbad
        rw [← ex] at c0 c1
        rw [← ey] at d0 d1
        clear ex ey
        have hq := neqNode x y
        by_cases hE : ndE x y = true
        · have HG := Lib.hid (hgood.out hE)
          go_wp2_with fail
          go_still_tail 8, (by kernel_rfl)
          go_wp2_with fail
          go_roundw
          case rel => exact ⟨k + 1, by omega, by go_num, HG.out, HB.out.drew⟩
          case measure => simp [intOf]; omega
        · have hE' : ndE x y = false := Bool.eq_false_iff.2 hE
          have HG := Lib.hid (hbad.out hE')
          clear hE
          go_wp2_with fail
          go_still_tail 8, (by kernel_rfl)
          go_wp2_with fail
          go_ret
          exact ⟨ret_bool (by rw [HG.out]), HB.out.drew⟩
      · have HG := Lib.hid (ha.full (by omega) HL.out)
        go_wp2_with fail
        go_ret
        exact ⟨ret_bool (by rw [HG.out]), HB.out⟩
  · have q1 : ((xs.length : Int) != (ys.length : Int)) = true := by simp; omega
    have HL := Lib.hid (eqL_len (f := ndE) hlen)
    clear hlen
    go_enter Tryd.func13, Tryd.ntmps13
    go_wp2_with fail
    go_ret
    exact ⟨ret_bool (by rw [HL.out]), Below.refl _ _⟩

theorem neqEdge (x y : Ed) (w : World) : (binOp .neq 43 (.agg #[.int .i64 x.f, .int .i64 x.t, .string x.l, .int .i64 x.n]) (.agg #[.int .i64 y.f, .int .i64 y.t, .string y.l, .int .i64 y.n])).run Tryd.prog w = .ok (.bool (!edE x y)) w := by
  have h := run_neq_struct (P := Tryd.prog) w 43 #[.int .i64 x.f, .int .i64 x.t, .string x.l, .int .i64 x.n] #[.int .i64 y.f, .int .i64 y.t, .string y.l, .int .i64 y.n]
  rw [h, run_equalIn_agg w 9999 43 _ _ (by kernel_rfl) (by kernel_rfl)]
  go_simp
  unfold edE
  repeat' split
  all_goals simp_all

set_option maxRecDepth 100000 in
set_option maxHeartbeats 1000000 in
theorem slEqualEdge_any (xs ys : List Ed) (v v' : Value) (B : Nat) (w : World) (hv : Sl 4 Ed.cells B w v xs) (hv' : Sl 4 Ed.cells B w v' ys) (hB : B ≤ w.heap.size) :
    Calls Tryd.prog 14 #[v, v'] w fun e w' => e = .returned (.bool (eqL edE xs ys)) ∧ Below w.heap.size w w' := by
  obtain ⟨p, cap, rfl⟩ := hv.form
  obtain ⟨p', cap', rfl⟩ := hv'.form
  have hm := hv.max
  have hm' := hv'.max
  unfold maxLen at hm hm'
  by_cases hlen : xs.length = ys.length
  · have q1 : ((xs.length : Int) != (ys.length : Int)) = false := by rw [hlen]; simp
    have HL := Lib.hid hlen
    have hl1 : xs.length ≤ ys.length := by omega
    have hl2 : ys.length ≤ xs.length := by omega
    clear hlen
    go_enter Tryd.func14, Tryd.ntmps14
    go_wp2_with fail
    go_loopw [13] (fun i wr => ∃ k : Nat, k ≤ xs.length ∧ i = .int .i64 k ∧ AllE edE xs ys k ∧ Below w.heap.size w wr) (fun i _ => xs.length - (intOf i).toNat)
    case atStart => exact ⟨0, Nat.zero_le _, rfl, AllE.zero _ _ _, Below.refl _ _⟩
    case round =>
      obtain ⟨k, hk, rfl, ha, hbw⟩ := hrel
      have hsz := hbw.size
      have HB := Lib.hid hbw
      clear hbw
      by_cases hlt2 : k < xs.length
      · have hlt3 : k < ys.length := by omega
        obtain ⟨b, off, rfl, hb, c0, c1, c2, c3⟩ := (hv.below (HB.out.mono hB)).ed hlt2
        obtain ⟨b', off', rfl, hb', d0, d1, d2, d3⟩ := (hv'.below (HB.out.mono hB)).ed hlt3
        have HA := Lib.hid ha
        have hgood := Lib.hid (fun h => ha.succ (f := edE) hlt2 hlt3 h)
        have hbad := Lib.hid (fun h => eqL_bad (f := edE) (xs := xs) (ys := ys) k hlt2 hlt3 h)
        clear ha
        obtain ⟨x, ex⟩ : ∃ x, x = xs[k] := ⟨_, rfl⟩
        obtain ⟨y, ey⟩ : ∃ y, y = ys[k] := ⟨_, rfl⟩
        rw [← ex, ← ey] at hgood hbad
        rw [← ex] at c0 c1 c2 c3
        rw [← ey] at d0 d1 d2 d3
        clear ex ey
        have hq := neqEdge x y
        by_cases hE : edE x y = true
        · have HG := Lib.hid (hgood.out hE)
          go_wp2_with fail
          go_still_tail 8, (by kernel_rfl)
          go_wp2_with fail
          go_roundw
          case rel => exact ⟨k + 1, by omega, by go_num, HG.out, HB.out.drew⟩
          case measure => simp [intOf]; omega
        · have hE' : edE x y = false := Bool.eq_false_iff.2 hE
          have HG := Lib.hid (hbad.out hE')
          clear hE
          go_wp2_with fail
          go_still_tail 8, (by kernel_rfl)
          go_wp2_with fail
          go_ret
          exact ⟨ret_bool (by rw [HG.out]), HB.out.drew⟩
      · have HG := Lib.hid (ha.full (by omega) HL.out)
        go_wp2_with fail
        go_ret
        exact ⟨ret_bool (by rw [HG.out]), HB.out⟩
  · have q1 : ((xs.length : Int) != (ys.length : Int)) = true := by simp; omega
    have HL := Lib.hid (eqL_len (f := edE) hlen)
    clear hlen
    go_enter Tryd.func14, Tryd.ntmps14
    go_wp2_with fail
    go_ret
    exact ⟨ret_bool (by rw [HL.out]), Below.refl _ _⟩
end Go.Proofs.YtafddoljphmgkaaDoor
