/- impl.GraphSame and spec.GraphSame: both tell whether all nodes and edges are equal. -/
import Derived.Test.YtfdkmngkpihpbaaMem
import Derived.Test.YtfdkmngkpihpbaaLabel
import Derived.StillTailTactics
namespace Go.Proofs.Ytfdkmngkpihpbaa
open Go.RowKit

def eqL {α : Type} (f : α → α → Bool) : List α → List α → Bool
  | [], [] => true
  | x :: xs, y :: ys => f x y && eqL f xs ys
  | _, _ => false
theorem eqL_len {α : Type} {f : α → α → Bool} : ∀ {xs ys : List α}, xs.length ≠ ys.length → eqL f xs ys = false
  | [], [], h => absurd rfl h
  | [], _ :: _, _ => rfl
  | _ :: _, [], _ => rfl
  | x :: xs, y :: ys, h => by unfold eqL; rw [eqL_len (by simpa using h)]; simp
theorem eqL_all {α : Type} {f : α → α → Bool} : ∀ {xs ys : List α}, xs.length = ys.length → (∀ i (h : i < xs.length) (h' : i < ys.length), f xs[i] ys[i] = true) → eqL f xs ys = true
  | [], [], _, _ => rfl
  | [], _ :: _, h, _ => by simp at h
  | _ :: _, [], h, _ => by simp at h
  | x :: xs, y :: ys, h, ha => by
    unfold eqL
    rw [show f x y = true from ha 0 (by simp) (by simp), eqL_all (by simpa using h) (fun i h1 h2 => by have := ha (i + 1) (by simpa using h1) (by simpa using h2); simpa using this)]; rfl
theorem eqL_bad {α : Type} {f : α → α → Bool} : ∀ {xs ys : List α} (i : Nat) (h : i < xs.length) (h' : i < ys.length), f xs[i] ys[i] = false → eqL f xs ys = false
  | [], _, _, h, _, _ => by simp at h
  | _ :: _, [], _, _, h, _ => by simp at h
  | x :: xs, y :: ys, 0, _, _, hb => by unfold eqL; rw [show f x y = false from hb]; rfl
  | x :: xs, y :: ys, i + 1, h, h', hb => by unfold eqL; rw [eqL_bad i (by simpa using h) (by simpa using h') (by simpa using hb)]; simp
/-- The first k pairs agree. -/
def AllE {α : Type} (f : α → α → Bool) (xs ys : List α) (k : Nat) : Prop := ∀ i (h : i < xs.length) (h' : i < ys.length), i < k → f xs[i] ys[i] = true
theorem AllE.zero {α : Type} (f : α → α → Bool) (xs ys : List α) : AllE f xs ys 0 := fun _ _ _ h => by omega
theorem AllE.succ {α : Type} {f : α → α → Bool} {xs ys : List α} {k : Nat} (h : AllE f xs ys k) (h1 : k < xs.length) (h2 : k < ys.length) (hc : f xs[k] ys[k] = true) : AllE f xs ys (k + 1) := by
  intro i hi hi' hik
  by_cases e : i = k
  · subst e; exact hc
  · exact h i hi hi' (by omega)
theorem AllE.full {α : Type} {f : α → α → Bool} {xs ys : List α} {k : Nat} (h : AllE f xs ys k) (hk : xs.length ≤ k) (hl : xs.length = ys.length) : eqL f xs ys = true := eqL_all hl fun i a b => h i a b (by omega)
def ndE (x y : Nd) : Bool := (x.l.toList == y.l.toList) && (x.n == y.n)
def edE (x y : Ed) : Bool := (x.f == y.f) && ((x.t == y.t) && ((x.l.toList == y.l.toList) && (x.n == y.n)))
def gs (a b : Gr) : Bool := eqL ndE a.ns b.ns && eqL edE a.es b.es

theorem neqNode (x y : Nd) (w : World) : (binOp .neq 141 (.agg #[.string x.l, .int .i64 x.n]) (.agg #[.string y.l, .int .i64 y.n])).run Try.prog w = .ok (.bool (!ndE x y)) w := by
  have h := run_neq_struct (P := Try.prog) w 141 #[.string x.l, .int .i64 x.n] #[.string y.l, .int .i64 y.n]
  rw [h, run_equalIn_agg w 9999 141 _ _ (by kernel_rfl) (by kernel_rfl)]
  go_simp
  unfold ndE
  repeat' split
  all_goals simp_all

theorem neqEdge (x y : Ed) (w : World) : (binOp .neq 143 (.agg #[.int .i64 x.f, .int .i64 x.t, .string x.l, .int .i64 x.n]) (.agg #[.int .i64 y.f, .int .i64 y.t, .string y.l, .int .i64 y.n])).run Try.prog w = .ok (.bool (!edE x y)) w := by
  have h := run_neq_struct (P := Try.prog) w 143 #[.int .i64 x.f, .int .i64 x.t, .string x.l, .int .i64 x.n] #[.int .i64 y.f, .int .i64 y.t, .string y.l, .int .i64 y.n]
  rw [h, run_equalIn_agg w 9999 143 _ _ (by kernel_rfl) (by kernel_rfl)]
  go_simp
  unfold edE
  repeat' split
  all_goals simp_all

end Go.Proofs.Ytfdkmngkpihpbaa
