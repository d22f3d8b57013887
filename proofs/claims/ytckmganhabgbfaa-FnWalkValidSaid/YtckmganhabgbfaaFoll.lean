/- impl.followEdge. -/
import Derived.Test.YtckmganhabgbfaaGValid
namespace Go.Proofs.Ytckmganhabgbfaa
open Go.RowKit

/-- Where an edge leads from a node in a direction, and whether it does. -/
def follB (node d : Int) (x : Ed) : Bool := (d != 2 && x.f == node) || (d != 1 && x.t == node)
def follT (node d : Int) (x : Ed) : Int := if d != 2 && x.f == node then x.t else if d != 1 && x.t == node then x.f else 0
set_option maxHeartbeats 1000000 in
theorem followEdge_any (x : Ed) (node d : Int) (w : World) :
    Calls Try.prog 62 #[.agg #[.int .i64 x.f, .int .i64 x.t, .string x.l, .int .i64 x.n], .int .i64 node, .int .i64 d] w fun e w' => e = .returned (.tuple #[.int .i64 (follT node d x), .bool (follB node d x)]) ∧ Below w.heap.size w w' := by
  cases h1 : (d != 2) <;> cases h2 : (x.f == node) <;> cases h3 : (d != 1) <;> cases h4 : (x.t == node) <;>
  ( have HT := Lib.hid (show follT node d x = _ by unfold follT; rw [h1, h2, h3, h4])
    have HB := Lib.hid (show follB node d x = _ by unfold follB; rw [h1, h2, h3, h4])
    go_enter Try.func62, Try.ntmps62
    go_wp2_with fail
    exact bodyPost_ret (v := .tuple #[.int .i64 (follT node d x), .bool (follB node d x)]) (by rw [HT.out, HB.out]; simp [results, Try.results62, go_sem]) rfl ⟨rfl, (Below.refl _ _).alloc (Nat.le_refl _) _⟩)
end Go.Proofs.Ytckmganhabgbfaa
