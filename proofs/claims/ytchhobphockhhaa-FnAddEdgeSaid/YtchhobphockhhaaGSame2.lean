/- impl.GraphSame and spec.GraphSame answer gs. -/
import Derived.Test.YtchhobphockhhaaGSame
namespace Go.Proofs.Ytchhobphockhhaa
open Go.RowKit

set_option maxHeartbeats 1000000 in
theorem graphSame_any (g g' : Gr) (v v' : Value) (B : Nat) (w : World) (hg : g.At B w v) (hg' : g'.At B w v') (hB : B ≤ w.heap.size) :
    Calls Try.prog 34 #[v, v'] w fun e w' => e = .returned (.bool (gs g g')) ∧ Below w.heap.size w w' := by
  obtain ⟨a, b, rfl, ha, hb⟩ := hg
  obtain ⟨a', b', rfl, ha', hb'⟩ := hg'
  go_enter Try.func34, Try.ntmps34
  go_wp2_with fail
  have HW := Lib.hid (((Below.refl B w).alloc hB (.cells #[a, b] 55)).alloc (by simp; omega) (.cells #[a', b'] 55))
  have HV := Lib.hid (((Below.refl w.heap.size w).alloc (by simp) (.cells #[a, b] 55)).alloc (by simp) (.cells #[a', b'] 55))
  refine (slEqualNode_any g.ns g'.ns a a' B _ (ha.below HW.out) (ha'.below HW.out) (by simp; omega)).mono ?_
  rintro e w1 ⟨rfl, hb1⟩
  have hs1 : w.heap.size + 2 ≤ w1.heap.size := by have := hb1.size; simp at this; omega
  have p1 : w1.cell? ⟨w.heap.size, 1, none⟩ = some b := (hb1.cell (by simp; omega)).trans (by simp [go_sem])
  have q1 : w1.cell? ⟨w.heap.size + 1, 1, none⟩ = some b' := (hb1.cell (by simp)).trans (by simp [go_sem])
  have HB1 := Lib.hid (HV.out.trans (hb1.mono (by simp; omega)))
  clear hb1
  by_cases e1 : eqL ndE g.ns g'.ns = true
  · have E1 := Lib.hid e1
    go_wp2_with fail
    refine (slEqualEdge_any g.es g'.es b b' B _ (hb.below (HB1.out.mono hB)) (hb'.below (HB1.out.mono hB)) (by omega)).mono ?_
    rintro e w2 ⟨rfl, hb2⟩
    have HB2 := Lib.hid (HB1.out.trans (hb2.mono (by omega)))
    clear hb2
    go_wp2_with fail
    go_ret
    exact ⟨ret_bool (by unfold gs; rw [E1.out]; rfl), HB2.out⟩
  · have E1 := Lib.hid (Bool.eq_false_iff.2 e1)
    go_wp2_with fail
    go_ret
    exact ⟨ret_bool (by unfold gs; rw [E1.out]; rfl), HB1.out⟩

end Go.Proofs.Ytchhobphockhhaa
