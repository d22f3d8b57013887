/- impl.TurnGraph. -/
import Derived.Test.YtfdkmngkpihpbaaConcat
namespace Go.Proofs.Ytfdkmngkpihpbaa
open Go.RowKit

def turnE (x : Ed) : Ed := ⟨x.t, x.f, x.l, x.n⟩
def tgr (g : Gr) : Gr := if gv g then ⟨g.ns, g.es.map turnE⟩ else ⟨[], []⟩
theorem row_form {w : World} {base : Nat} {e : TypeId} {size : Nat} {v : Value} {n : Nat} {xs : List Value} (h : w.ownsRow base e size v n xs) : ∃ p c, v = .slice p n c := by
  rcases h.2 with ⟨rfl, rfl⟩ | ⟨g, cap, cur, rfl, _⟩
  · exact ⟨none, 0, rfl⟩
  · exact ⟨_, _, rfl⟩
theorem gv_ns {g : Gr} (h : gv g = true) : g.ns.length ≤ 8 := by
  unfold gv at h
  simp only [Bool.and_eq_true, decide_eq_true_eq] at h
  omega
theorem Gr.Own.empty (lo : Nat) (w : World) : (⟨[], []⟩ : Gr).Own lo w (.agg #[.slice none 0 0, .slice none 0 0]) [] [] :=
  ⟨_, _, rfl, ⟨none, 0, 0, rfl, rfl, Nat.le_refl _, Nat.zero_le _, .inl ⟨rfl, rfl⟩⟩, ⟨none, 0, 0, rfl, rfl, Nat.le_refl _, Nat.zero_le _, .inl ⟨rfl, rfl⟩⟩, by simp, by simp, by simp⟩

end Go.Proofs.Ytfdkmngkpihpbaa
