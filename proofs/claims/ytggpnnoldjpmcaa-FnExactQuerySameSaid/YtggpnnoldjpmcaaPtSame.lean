/- impl.PatSame. -/
import Derived.Test.YtggpnnoldjpmcaaTreesP
namespace Go.Proofs.Ytggpnnoldjpmcaa
open Go.RowKit

/-- A pattern in a fresh block. -/
theorem Pt.ptr_new {x : Pt} {B : Nat} {E W : World} {p q r : Option Addr} {pc qc rc b : Nat} {T : TypeId} (h1 : x.e.l.ks.Is true B E (.slice p x.e.l.ks.list.length pc)) (h2 : x.e.c.ks.Is true B E (.slice q x.e.c.ks.list.length qc)) (h3 : x.ks.Is true B E (.slice r x.ks.list.length rc)) (hb : Below B E W) (hB : B ≤ b)
    (hW : W.heap[b]? = some (.cells #[.int .i64 x.op, .bool x.e.n, .string x.e.v, .int .i64 x.e.l.op, .string x.e.l.a, .slice p x.e.l.ks.list.length pc, .int .i64 x.e.c.op, .string x.e.c.a, .slice q x.e.c.ks.list.length qc, .int .i64 x.e.d, .slice r x.ks.list.length rc, .int .i64 x.lo, .int .i64 x.hi] T (0, 0))) : x.Ptr (b + 1) W ⟨b, 0, none⟩ := by
  have hc : ∀ i, W.cell? ⟨b, i, none⟩ = #[.int .i64 x.op, .bool x.e.n, .string x.e.v, .int .i64 x.e.l.op, .string x.e.l.a, .slice p x.e.l.ks.list.length pc, .int .i64 x.e.c.op, .string x.e.c.a, .slice q x.e.c.ks.list.length qc, .int .i64 x.e.d, .slice r x.ks.list.length rc, .int .i64 x.lo, .int .i64 x.hi][i]? := fun i => by simp [World.cell?, hW]
  refine ⟨b, 0, _, rfl, by omega, ⟨_, _, _, hW, fun o => by simp [World.frozen?, hW]⟩, hc 0, ⟨⟨hc 1, hc 2, hc 3, hc 4, ⟨_, hc 5, h1.below hb (by omega)⟩, hc 6, hc 7, ⟨_, hc 8, h2.below hb (by omega)⟩, hc 9⟩, hc 11, hc 12⟩, hc 10, h3.below hb (by omega)⟩
theorem Pt.Ptr.mono {B B' : Nat} {w : World} {x : Pt} {a : Addr} (h : x.Ptr B w a) (hB : B ≤ B') : x.Ptr B' w a := h.below (Below.refl _ _) hB

set_option maxRecDepth 100000 in
set_option maxHeartbeats 2000000 in
theorem patSame_live (x y : Pt) (v1 v2 : Value) (B : Nat) (w : World) (h1 : x.AtL true B w v1) (h2 : y.AtL true B w v2) (hB : B ≤ w.heap.size) (hs : ptNeed x ≤ 1048576) :
    Calls Try.prog 46 #[v1, v2] w fun en w' => en = .returned (.bool (ptEq x y)) ∧ Below w.heap.size w w' := by
  obtain ⟨p, pc, q, qc, r, rc, rfl, hl, hc, hk⟩ := h1.form
  obtain ⟨p2, pc2, q2, qc2, r2, rc2, rfl, hl2, hc2, hk2⟩ := h2.form
  obtain ⟨W, eW⟩ : ∃ W, W = (w.alloc (.cells #[.int .i64 x.op, .bool x.e.n, .string x.e.v, .int .i64 x.e.l.op, .string x.e.l.a, .slice p x.e.l.ks.list.length pc, .int .i64 x.e.c.op, .string x.e.c.a, .slice q x.e.c.ks.list.length qc, .int .i64 x.e.d, .slice r x.ks.list.length rc, .int .i64 x.lo, .int .i64 x.hi] 78)).alloc (.cells #[.int .i64 y.op, .bool y.e.n, .string y.e.v, .int .i64 y.e.l.op, .string y.e.l.a, .slice p2 y.e.l.ks.list.length pc2, .int .i64 y.e.c.op, .string y.e.c.a, .slice q2 y.e.c.ks.list.length qc2, .int .i64 y.e.d, .slice r2 y.ks.list.length rc2, .int .i64 y.lo, .int .i64 y.hi] 78) := ⟨_, rfl⟩
  have hbW : Below w.heap.size w W := by rw [eW]; exact ((Below.refl _ _).alloc (Nat.le_refl _) _).alloc (by simp) _
  have q1 : W.heap[w.heap.size]? = some (.cells #[.int .i64 x.op, .bool x.e.n, .string x.e.v, .int .i64 x.e.l.op, .string x.e.l.a, .slice p x.e.l.ks.list.length pc, .int .i64 x.e.c.op, .string x.e.c.a, .slice q x.e.c.ks.list.length qc, .int .i64 x.e.d, .slice r x.ks.list.length rc, .int .i64 x.lo, .int .i64 x.hi] 78 (0, 0)) := by rw [eW]; exact ((MapKept.heap_alloc _ _).2 _ (by simp)).trans (MapKept.heap_alloc _ _).1
  have q2' : W.heap[w.heap.size + 1]? = some (.cells #[.int .i64 y.op, .bool y.e.n, .string y.e.v, .int .i64 y.e.l.op, .string y.e.l.a, .slice p2 y.e.l.ks.list.length pc2, .int .i64 y.e.c.op, .string y.e.c.a, .slice q2 y.e.c.ks.list.length qc2, .int .i64 y.e.d, .slice r2 y.ks.list.length rc2, .int .i64 y.lo, .int .i64 y.hi] 78 (0, 0)) := by
    rw [eW]; have h := (MapKept.heap_alloc (w.alloc (.cells #[.int .i64 x.op, .bool x.e.n, .string x.e.v, .int .i64 x.e.l.op, .string x.e.l.a, .slice p x.e.l.ks.list.length pc, .int .i64 x.e.c.op, .string x.e.c.a, .slice q x.e.c.ks.list.length qc, .int .i64 x.e.d, .slice r x.ks.list.length rc, .int .i64 x.lo, .int .i64 x.hi] 78)) (.cells #[.int .i64 y.op, .bool y.e.n, .string y.e.v, .int .i64 y.e.l.op, .string y.e.l.a, .slice p2 y.e.l.ks.list.length pc2, .int .i64 y.e.c.op, .string y.e.c.a, .slice q2 y.e.c.ks.list.length qc2, .int .i64 y.e.d, .slice r2 y.ks.list.length rc2, .int .i64 y.lo, .int .i64 y.hi] 78)).1
    rw [show w.heap.size + 1 = (w.alloc (.cells #[.int .i64 x.op, .bool x.e.n, .string x.e.v, .int .i64 x.e.l.op, .string x.e.l.a, .slice p x.e.l.ks.list.length pc, .int .i64 x.e.c.op, .string x.e.c.a, .slice q x.e.c.ks.list.length qc, .int .i64 x.e.d, .slice r x.ks.list.length rc, .int .i64 x.lo, .int .i64 x.hi] 78)).heap.size by simp]; exact h
  have hz : w.heap.size + 2 = W.heap.size := by rw [eW]; simp
  have HC := Lib.hid (treesP_any x y ⟨w.heap.size, 0, none⟩ ⟨w.heap.size + 1, 0, none⟩ W.heap.size W ((Pt.ptr_new hl hc hk (hbW.mono hB) hB q1).mono (by omega)) ((Pt.ptr_new hl2 hc2 hk2 (hbW.mono hB) (by omega) q2').mono (by omega)) (Nat.le_refl _) (by show 1 + ptNeed x ≤ _; omega))
  have HB := Lib.hid hbW
  have EW := Lib.hid eW
  clear q1 q2' eW hbW hz h1 h2 hl hc hk hl2 hc2 hk2
  go_enter Try.func46, Try.ntmps46
  go_wp2_with fail
  rw [← EW.out]
  refine HC.out.mono ?_
  rintro en w1 ⟨rfl, hb1⟩
  have HB1 := Lib.hid (HB.out.trans (hb1.mono HB.out.size))
  clear hb1
  go_wp2_with fail
  go_ret
  exact ⟨rfl, HB1.out⟩
theorem patSame_any (x y : Pt) (v1 v2 : Value) (F1 F2 : List Nat) (w : World) (h1 : x.Has v1 F1 w) (h2 : y.Has v2 F2 w) (hs : ptNeed x ≤ 1048576) :
    Calls Try.prog 46 #[v1, v2] w fun en w' => en = .returned (.bool (ptEq x y)) ∧ Below w.heap.size w w' := patSame_live x y v1 v2 w.heap.size w h1.atL h2.atL (Nat.le_refl _) hs
end Go.Proofs.Ytggpnnoldjpmcaa
