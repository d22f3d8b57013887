/- EdgeFits and its model, with a named answer. -/
import Derived.Test.YtghhabailgfelaaDoorFitsT
import Derived.Test.YtghhabailgfelaaDoorFitsI
namespace Go.Proofs.YtghhabailgfelaaDoor
open Go.RowKit

theorem edgeFits_to {g : Gr} {e : El} {n : Int} {b : Bool} (h : edgeF g n e = b) (v u : Value) (B : Nat) (w : World) (hg : g.At B w v) (hu : e.At B w u) (hB : B ≤ w.heap.size) (hok : g.Ok) (hs : e.Sm) (hvars : Vars w) :
    Calls Tryd.prog 13 #[v, .int .i64 n, u] w fun en w' => en = .returned (.bool b) ∧ Below w.heap.size w w' := by
  subst h
  exact edgeFits_any g e v u n B w hg hu hB hok hs hvars
theorem specEdgeFits_to {g : Gr} {e : El} {n : Int} {b : Bool} (h : edgeF g n e = b) (v u : Value) (B : Nat) (w : World) (hg : g.At B w v) (hu : e.At B w u) (hB : B ≤ w.heap.size) (hok : g.Ok) (hs : e.Sm) :
    Calls Tryd.prog 18 #[v, .int .i64 n, u] w fun en w' => en = .returned (.bool b) ∧ Below w.heap.size w w' := by
  subst h
  exact specEdgeFits_any g e v u n B w hg hu hB hok hs
end Go.Proofs.YtghhabailgfelaaDoor
