/- Opening graphs, nodes and edges that came in. -/
import Derived.Test.YtfdkmngkpihpbaaOpen
import Derived.Test.YtfdkmngkpihpbaaProg
import Derived.ProofKit
import Derived.KernelRfl
namespace Go.Proofs.Ytfdkmngkpihpbaa
open Go.ChangeShapes Go.WideShapes Go.Deep Go.RowKit Go.Joins

section
variable {H : Type} {enc : TypeId × Value → H} {w : World} {base : Nat} {spare : Nat → Bool} {held : Bool}

theorem open_i64 {t : TypeId} {fuel : Nat} {u : Value} {y : DataW H × List MemPlace} (ht : Try.prog.underlying t = some (.int .i64)) (h : DataW.trod enc Try.prog w base spare held fuel t [u] = some y) : ∃ n, u = .int .i64 n ∧ I64 n := by
  obtain ⟨n, hn, _, hw⟩ := DataW.trod_int ht h
  simp at hn
  refine ⟨n, hn, ?_⟩
  have := hw
  simp [Lit.wf, IntKind.min, IntKind.max, IntKind.signed, IntKind.bits] at this
  unfold I64; omega
theorem open_str {t : TypeId} {fuel : Nat} {u : Value} {y : DataW H × List MemPlace} (ht : Try.prog.underlying t = some .string) (h : DataW.trod enc Try.prog w base spare held fuel t [u] = some y) : ∃ s : ByteArray, u = .string s ∧ s.size ≤ maxLen := by
  obtain ⟨s, hs, _, hw⟩ := DataW.trod_string ht h
  simp at hs
  exact ⟨s, hs, hw⟩

end
end Go.Proofs.Ytfdkmngkpihpbaa
