/- What the listed package-level variables give a walk. -/
import Derived.Test.YtbbemeaojmfndaaDoorNum
import Derived.Test.YtbbemeaojmfndaaDoorBase
import Derived.ProofKit
import Derived.LaidMore
import Derived.LaidHandle
import Derived.MakeChecks
import Derived.Stop.LaidErr
import Derived.Stop.Joined
import Derived.Lib.LaidTab
namespace Go.Proofs.YtbbemeaojmfndaaDoor
open Go.RowKit

theorem tES : (Tryd.prog.globals[1]?).map (·.type) = some 146 := by kernel_rfl
theorem tER : (Tryd.prog.globals[2]?).map (·.type) = some 146 := by kernel_rfl
theorem tPT : (Tryd.prog.globals[3]?).map (·.type) = some 176 := by kernel_rfl
theorem laid_iface {W : World} {n nm : String} {d : DataW Unit} {r : List (String × DataW Unit)} {g ti : Nat} {ms : Array (String × TypeId)} (hg : Tryd.prog.globalNamed n = some g) (hty : (Tryd.prog.globals[g]?).map (·.type) = some ti) (hti : Tryd.prog.underlying ti = some (.interface ms))
    (h : laidMet Tryd.prog ((n, .iface nm d) :: r) W) : ∃ tp p, W.var? Tryd.prog n = some #[.iface tp p] := by
  obtain ⟨ps, ⟨g', t', cs, fuel, p, q, hg', ht', hvar, hd, _, _⟩, _⟩ := h
  obtain rfl := Option.some.inj (hg.symm.trans hg')
  obtain rfl := Option.some.inj (hty.symm.trans ht')
  obtain ⟨_, u, v, hcs, _, _⟩ := iface_of_trod hti hd
  refine ⟨u, v, ?_⟩
  rw [hvar, Array.eq_one_of_toList hcs]
end Go.Proofs.YtbbemeaojmfndaaDoor
