/- strconv.Itoa from 0 to 99. -/
import Derived.Test.YtafddoljphmgkaaDoorShelf
import Derived.Test.YtafddoljphmgkaaDoorDec
import Derived.Lib.AppendIntMem
import Derived.Lib.LaidTab
import Derived.Lib.ItoaMem
namespace Go.Proofs.YtafddoljphmgkaaDoor
open Go.RowKit

theorem gPTi : Tryd.prog.globalNamed "internal/strconv.uint64pow10" = some 0 := by kernel_rfl
theorem varI_block {w : World} {cs : Array Value} (h : w.var? Tryd.prog "internal/strconv.uint64pow10" = some cs) : ∃ T r, w.heap[0]? = some (.cells cs T r) := by
  unfold World.var? at h
  rw [gPTi] at h
  simp only [Option.bind_some] at h
  split at h
  · rename_i cs' T r e
    cases h
    exact ⟨T, r, e⟩
  · cases h
theorem varI_keep {w w' : World} {cs : Array Value} (hh : w'.heap[0]? = w.heap[0]?) (h : w.var? Tryd.prog "internal/strconv.uint64pow10" = some cs) : w'.var? Tryd.prog "internal/strconv.uint64pow10" = some cs := by
  unfold World.var? at h ⊢
  rw [gPTi] at h ⊢
  simp only [Option.bind_some] at h ⊢
  rw [hh]; exact h
/-- What the library's table holds. -/
def VarsI (w : World) : Prop := Lib.TabIs Tryd.prog w "internal/strconv.uint64pow10" .u64 Lib.pow10Tab
theorem VarsI.below {w w' : World} (h : VarsI w) (hb : Below w.heap.size w w') : VarsI w' := by
  have h3 : w.var? Tryd.prog "internal/strconv.uint64pow10" = _ := h
  obtain ⟨T, r, e⟩ := varI_block h3
  exact varI_keep (hb.block _ (Array.getElem?_eq_some_iff.1 e).1) h3
theorem itoaI_any (v : Int) (w : World) (h0 : 0 ≤ v) (h1 : v ≤ 99) (h : VarsI w) :
    Calls Tryd.prog 19 #[.int .i64 v] w fun e w' => e = .returned (.string (dec v)) ∧ Below w.heap.size w w' := by
  refine (Tryd.strconv_Itoa v (by omega) (by omega) w h).mono ?_
  rintro e w' ⟨rfl, k, os, rfl⟩
  exact ⟨rfl, Lib.below_grow _ w (Nat.le_refl _) k os⟩
end Go.Proofs.YtafddoljphmgkaaDoor
