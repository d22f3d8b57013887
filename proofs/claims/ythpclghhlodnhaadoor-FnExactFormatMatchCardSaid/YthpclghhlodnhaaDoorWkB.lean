/- Equality, shape and modes of walks, on both sides. -/
import Derived.Test.YthpclghhlodnhaaDoorWkPure
import Derived.StillTailTactics
namespace Go.Proofs.YthpclghhlodnhaaDoor
open Go.RowKit

theorem two_more {B : Nat} {w : World} (hB : B ≤ w.heap.size) (o o' : Obj) : Below B w ((w.alloc o).alloc o') := ((Below.refl B w).alloc hB _).alloc (by simp; omega) _

set_option maxHeartbeats 400000 in
theorem hasShape_any (x : Wk) (v : Value) (B : Nat) (w : World) (hx : x.At B w v) (hn : x.need ≤ 1048576) :
    Calls Tryd.prog 89 #[v] w fun e w' => e = .returned (.bool (wkShape x)) ∧ Below w.heap.size w w' := by
  obtain ⟨a, b, rfl, ha, hb⟩ := hx
  obtain ⟨p, cap, rfl⟩ := ha.form
  obtain ⟨q, cq, rfl⟩ := hb.form
  have hm := ha.max
  have hm2 := hb.max
  unfold maxLen at hm hm2
  have hes : x.es.length ≤ 1048576 := by unfold Wk.need at hn; omega
  have hns : x.ns.length ≤ 1048576 := by unfold Wk.need at hn; omega
  clear ha hb hn
  by_cases h1 : x.ns.length = x.es.length + 1
  · by_cases h2 : x.es.length ≤ 8
    · have HG := Lib.hid (wkShape_iff.2 ⟨h1, h2⟩)
      have q1 : ((x.ns.length : Int) == (x.es.length : Int) + 1) = true := by simp; omega
      have q2 : decide ((x.es.length : Int) ≤ 8) = true := decide_eq_true (by omega)
      clear h1
      go_enter Tryd.func89, Tryd.ntmps89
      go_wp2_with fail
      go_ret
      exact ⟨ret_bool (by rw [HG.out]), (Below.refl _ _).alloc (Nat.le_refl _) _⟩
    · have HG := Lib.hid (wkShape_not.2 (fun h => h2 h.2))
      have q1 : ((x.ns.length : Int) == (x.es.length : Int) + 1) = true := by simp; omega
      have q2 : decide ((x.es.length : Int) ≤ 8) = false := decide_eq_false (by omega)
      clear h1
      go_enter Tryd.func89, Tryd.ntmps89
      go_wp2_with fail
      go_ret
      exact ⟨ret_bool (by rw [HG.out]), (Below.refl _ _).alloc (Nat.le_refl _) _⟩
  · have HG := Lib.hid (wkShape_not.2 (fun h => h1 h.1))
    have q1 : ((x.ns.length : Int) == (x.es.length : Int) + 1) = false := by simp; omega
    clear h1
    go_enter Tryd.func89, Tryd.ntmps89
    go_wp2_with fail
    go_ret
    exact ⟨ret_bool (by rw [HG.out]), (Below.refl _ _).alloc (Nat.le_refl _) _⟩
set_option maxHeartbeats 400000 in
theorem l5Shape_any (x : Wk) (v : Value) (B : Nat) (w : World) (hx : x.At B w v) (hn : x.need ≤ 1048576) :
    Calls Tryd.prog 69 #[v] w fun e w' => e = .returned (.bool (wkShape x)) ∧ Below w.heap.size w w' := by
  obtain ⟨a, b, rfl, ha, hb⟩ := hx
  obtain ⟨p, cap, rfl⟩ := ha.form
  obtain ⟨q, cq, rfl⟩ := hb.form
  have hm := ha.max
  have hm2 := hb.max
  unfold maxLen at hm hm2
  have hes : x.es.length ≤ 1048576 := by unfold Wk.need at hn; omega
  have hns : x.ns.length ≤ 1048576 := by unfold Wk.need at hn; omega
  clear ha hb hn
  by_cases h1 : x.ns.length = x.es.length + 1
  · by_cases h2 : x.es.length ≤ 8
    · have HG := Lib.hid (wkShape_iff.2 ⟨h1, h2⟩)
      have q1 : ((x.ns.length : Int) == (x.es.length : Int) + 1) = true := by simp; omega
      have q2 : decide ((x.es.length : Int) ≤ 8) = true := decide_eq_true (by omega)
      clear h1
      go_enter Tryd.func69, Tryd.ntmps69
      go_wp2_with fail
      go_ret
      exact ⟨ret_bool (by rw [HG.out]), (Below.refl _ _).alloc (Nat.le_refl _) _⟩
    · have HG := Lib.hid (wkShape_not.2 (fun h => h2 h.2))
      have q1 : ((x.ns.length : Int) == (x.es.length : Int) + 1) = true := by simp; omega
      have q2 : decide ((x.es.length : Int) ≤ 8) = false := decide_eq_false (by omega)
      clear h1
      go_enter Tryd.func69, Tryd.ntmps69
      go_wp2_with fail
      go_ret
      exact ⟨ret_bool (by rw [HG.out]), (Below.refl _ _).alloc (Nat.le_refl _) _⟩
  · have HG := Lib.hid (wkShape_not.2 (fun h => h1 h.1))
    have q1 : ((x.ns.length : Int) == (x.es.length : Int) + 1) = false := by simp; omega
    clear h1
    go_enter Tryd.func69, Tryd.ntmps69
    go_wp2_with fail
    go_ret
    exact ⟨ret_bool (by rw [HG.out]), (Below.refl _ _).alloc (Nat.le_refl _) _⟩
end Go.Proofs.YthpclghhlodnhaaDoor
