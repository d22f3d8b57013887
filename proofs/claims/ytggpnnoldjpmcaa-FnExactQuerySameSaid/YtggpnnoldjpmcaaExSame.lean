/- impl.ExprSame. -/
import Derived.Test.YtggpnnoldjpmcaaTreesX
namespace Go.Proofs.Ytggpnnoldjpmcaa
open Go.RowKit

/-- An expression in a fresh block. -/
theorem Ex.ptr_new {e : Ex} {B : Nat} {E W : World} {k : Value} {b : Nat} {T : TypeId} (hk : e.ks.Live B E k) (hb : Below B E W) (hB : B ≤ b) (hW : W.heap[b]? = some (.cells #[.int .i64 e.op, .string e.a, k] T (0, 0))) : e.Ptr (b + 1) W ⟨b, 0, none⟩ := by
  refine ⟨b, 0, k, rfl, by omega, ⟨_, _, _, hW, fun o => by simp [World.frozen?, hW]⟩, ?_, ?_, ?_, hk.below hb (by omega)⟩
  · simp [World.cell?, hW]
  · simp [World.cell?, hW]
  · simp [World.cell?, hW]
theorem Ex.Ptr.mono {B B' : Nat} {w : World} {e : Ex} {x : Addr} (h : e.Ptr B w x) (hB : B ≤ B') : e.Ptr B' w x := h.below (Below.refl _ _) hB

set_option maxRecDepth 100000 in
set_option maxHeartbeats 1000000 in
theorem exprSame_live (e1 e2 : Ex) (k1 k2 : Value) (B : Nat) (w : World) (h1 : e1.ks.Live B w k1) (h2 : e2.ks.Live B w k2) (hB : B ≤ w.heap.size) (hs : e1.ks.size ≤ 1048576) :
    Calls Try.prog 127 #[.agg #[.int .i64 e1.op, .string e1.a, k1], .agg #[.int .i64 e2.op, .string e2.a, k2]] w fun en w' => en = .returned (.bool (exEq e1 e2)) ∧ Below w.heap.size w w' := by
  obtain ⟨p, c, f1⟩ := h1.in.form
  obtain ⟨q, d, f2⟩ := h2.in.form
  subst f1 f2
  obtain ⟨W, eW⟩ : ∃ W, W = (w.alloc (.cells #[.int .i64 e1.op, .string e1.a, .slice p e1.ks.list.length c] 74)).alloc (.cells #[.int .i64 e2.op, .string e2.a, .slice q e2.ks.list.length d] 74) := ⟨_, rfl⟩
  have hbW : Below w.heap.size w W := by rw [eW]; exact ((Below.refl _ _).alloc (Nat.le_refl _) _).alloc (by simp) _
  have q1 : W.heap[w.heap.size]? = some (.cells #[.int .i64 e1.op, .string e1.a, .slice p e1.ks.list.length c] 74 (0, 0)) := by rw [eW]; exact ((MapKept.heap_alloc _ _).2 _ (by simp)).trans (MapKept.heap_alloc _ _).1
  have q2 : W.heap[w.heap.size + 1]? = some (.cells #[.int .i64 e2.op, .string e2.a, .slice q e2.ks.list.length d] 74 (0, 0)) := by
    rw [eW]; have h := (MapKept.heap_alloc (w.alloc (.cells #[.int .i64 e1.op, .string e1.a, .slice p e1.ks.list.length c] 74)) (.cells #[.int .i64 e2.op, .string e2.a, .slice q e2.ks.list.length d] 74)).1
    rw [show w.heap.size + 1 = (w.alloc (.cells #[.int .i64 e1.op, .string e1.a, .slice p e1.ks.list.length c] 74)).heap.size by simp]; exact h
  have hz : w.heap.size + 2 = W.heap.size := by rw [eW]; simp
  have HC := Lib.hid (treesX_any e1 e2 ⟨w.heap.size, 0, none⟩ ⟨w.heap.size + 1, 0, none⟩ W.heap.size W ((Ex.ptr_new h1 (hbW.mono hB) hB q1).mono (by omega)) ((Ex.ptr_new h2 (hbW.mono hB) (by omega) q2).mono (by omega)) (Nat.le_refl _) (by show e1.ks.size + 1 ≤ _; omega))
  have HB := Lib.hid hbW
  have EW := Lib.hid eW
  clear q1 q2 eW hbW hz h1 h2
  go_enter Try.func127, Try.ntmps127
  go_wp2_with fail
  rw [← EW.out]
  refine HC.out.mono ?_
  rintro en w1 ⟨rfl, hb1⟩
  have HB1 := Lib.hid (HB.out.trans (hb1.mono HB.out.size))
  clear hb1
  go_wp2_with fail
  go_ret
  exact ⟨rfl, HB1.out⟩
theorem exprSame_any (e1 e2 : Ex) (v1 v2 : Value) (F1 F2 : List Nat) (w : World) (h1 : e1.Has v1 F1 w) (h2 : e2.Has v2 F2 w) (hs : e1.ks.size ≤ 1048576) :
    Calls Try.prog 127 #[v1, v2] w fun en w' => en = .returned (.bool (exEq e1 e2)) ∧ Below w.heap.size w w' := by
  obtain ⟨k1, rfl, o1⟩ := h1
  obtain ⟨k2, rfl, o2⟩ := h2
  exact exprSame_live e1 e2 k1 k2 w.heap.size w o1.live o2.live (Nat.le_refl _) hs
end Go.Proofs.Ytggpnnoldjpmcaa
