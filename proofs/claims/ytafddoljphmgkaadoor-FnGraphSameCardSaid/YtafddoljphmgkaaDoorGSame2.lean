/- impl.GraphSame and spec.GraphSame answer gs. -/
import Derived.Test.YtafddoljphmgkaaDoorGSame
namespace Go.Proofs.YtafddoljphmgkaaDoor
open Go.RowKit

set_option maxHeartbeats 1000000 in
theorem graphSame_any (g g' : Gr) (v v' : Value) (B : Nat) (w : World) (hg : g.At B w v) (hg' : g'.At B w v') (hB : B ≤ w.heap.size) :
    Calls Tryd.prog 5 #[v, v'] w fun e w' => e = .returned (.bool (gs g g')) ∧ Below w.heap.size w w' := by
  obtain ⟨a, b, rfl, ha, hb⟩ := hg
  obtain ⟨a', b', rfl, ha', hb'⟩ := hg'
  go_enter Tryd.func5, Tryd.ntmps5
  go_wp2_with fail
  have HW := Lib.hid (((Below.refl B w).alloc hB (.cells #[a, b] 26)).alloc (by simp; omega) (.cells #[a', b'] 26))
  have HV := Lib.hid (((Below.refl w.heap.size w).alloc (by simp) (.cells #[a, b] 26)).alloc (by simp) (.cells #[a', b'] 26))
  refine (slEqualNode_any g.ns g'.ns a a' B _ (ha.below HW.out) (ha'.below HW.out) (by simp; omega)).mono ?_
  rintro e w1 ⟨rfl, hb1⟩
  have hs1 : w.heap.size + 2 ≤ w1.heap.size := by have := hb1.size; simp at this; omega
  have p1 : w1.cell? ⟨w.heap.size, 1, none⟩ = some b := (hb1.cell (by simp; omega)).trans (by simp [go_sem])
  have q1 : w1.cell? ⟨w.heap.size + 1, 1, none⟩ = some b' := (hb1.cell (by simp)).trans (by simp [go_sem])
  have HB1 := Lib.hid (HV.out.trans (hb1.mono (by simp; omega)))
  clear hb1
  by_cases e1 : eqL ndE g.ns g'.ns = true
  · have E1 := Lib.hid e1
    go_wp2_with fail
    refine (slEqualEdge_any g.es g'.es b b' B _ (hb.below (HB1.out.mono hB)) (hb'.below (HB1.out.mono hB)) (by omega)).mono ?_
    rintro e w2 ⟨rfl, hb2⟩
    have HB2 := Lib.hid (HB1.out.trans (hb2.mono (by omega)))
    clear hb2
    go_wp2_with fail
    go_ret
    exact ⟨ret_bool (by unfold gs; rw [E1.out]; rfl), HB2.out⟩
  · have E1 := Lib.hid (Bool.eq_false_iff.2 e1)
    go_wp2_with fail
    go_ret
    exact ⟨ret_bool (by unfold gs; rw [E1.out]; rfl), HB1.out⟩

set_option maxRecDepth 100000 in
set_option maxHeartbeats 2000000 in
theorem specGraphSame_any (g g' : Gr) (v v' : Value) (B : Nat) (w : World) (hg : g.At B w v) (hg' : g'.At B w v') (hB : B ≤ w.heap.size) :
    Calls Tryd.prog 6 #[v, v'] w fun e w' => e = .returned (.bool (gs g g')) ∧ Below w.heap.size w w' := by
  obtain ⟨a, b, rfl, ha, hb⟩ := hg
  obtain ⟨a', b', rfl, ha', hb'⟩ := hg'
  obtain ⟨p, cap, rfl⟩ := ha.form
  obtain ⟨p', cap', rfl⟩ := ha'.form
  obtain ⟨q, cq, rfl⟩ := hb.form
  obtain ⟨q', cq', rfl⟩ := hb'.form
  have hm := ha.max
  have hm2 := hb.max
  unfold maxLen at hm hm2
  have HW := Lib.hid (((Below.refl B w).alloc hB (.cells #[.slice p g.ns.length cap, .slice q g.es.length cq] 26)).alloc (by simp; omega) (.cells #[.slice p' g'.ns.length cap', .slice q' g'.es.length cq'] 26))
  have HV := Lib.hid (((Below.refl w.heap.size w).alloc (by simp) (.cells #[.slice p g.ns.length cap, .slice q g.es.length cq] 26)).alloc (by simp) (.cells #[.slice p' g'.ns.length cap', .slice q' g'.es.length cq'] 26))
  by_cases l1 : g.ns.length = g'.ns.length
  · have t1 : ((g.ns.length : Int) != (g'.ns.length : Int)) = false := by rw [l1]; simp
    have L1 := Lib.hid l1
    have l1a : g.ns.length ≤ g'.ns.length := by omega
    have l1b : g'.ns.length ≤ g.ns.length := by omega
    clear l1
    by_cases l2 : g.es.length = g'.es.length
    · have t2 : ((g.es.length : Int) != (g'.es.length : Int)) = false := by rw [l2]; simp
      have L2 := Lib.hid l2
      have l2a : g.es.length ≤ g'.es.length := by omega
      have l2b : g'.es.length ≤ g.es.length := by omega
      clear l2
      go_enter Tryd.func6, Tryd.ntmps6
      go_wp2_with fail
      go_loopw [5] (fun i wr => ∃ k : Nat, k ≤ g.ns.length ∧ i = .int .i64 k ∧ AllE ndE g.ns g'.ns k ∧ Below (w.heap.size + 2) ((w.alloc (.cells #[.slice p g.ns.length cap, .slice q g.es.length cq] 26)).alloc (.cells #[.slice p' g'.ns.length cap', .slice q' g'.es.length cq'] 26)) wr) (fun i _ => g.ns.length - (intOf i).toNat)
      case atStart => exact ⟨0, Nat.zero_le _, rfl, AllE.zero _ _ _, Below.refl _ _⟩
      case round =>
        obtain ⟨k, hk, rfl, hall, hbw⟩ := hrel
        have hsz : w.heap.size + 2 ≤ wr.heap.size := by have := hbw.size; simp at this; omega
        have p0 : wr.cell? ⟨w.heap.size, 0, none⟩ = some (.slice p g.ns.length cap) := keepc hbw (by omega) (by simp [go_sem])
        have p1 : wr.cell? ⟨w.heap.size, 1, none⟩ = some (.slice q g.es.length cq) := keepc hbw (by omega) (by simp [go_sem])
        have q0 : wr.cell? ⟨w.heap.size + 1, 0, none⟩ = some (.slice p' g'.ns.length cap') := keepc hbw (by omega) (by simp [go_sem])
        have q1 : wr.cell? ⟨w.heap.size + 1, 1, none⟩ = some (.slice q' g'.es.length cq') := keepc hbw (by omega) (by simp [go_sem])
        have HBR := Lib.hid hbw
        have HB1 := Lib.hid (HW.out.trans (hbw.mono (by omega)))
        have HB2 := Lib.hid (HV.out.trans (hbw.mono (by omega)))
        clear hbw
        by_cases hlt : k < g.ns.length
        · have hlt' : k < g'.ns.length := by omega
          obtain ⟨b, off, rfl, hbB, c0, c1⟩ := (ha.below HB1.out).nd hlt
          obtain ⟨b', off', rfl, hbB', d0, d1⟩ := (ha'.below HB1.out).nd hlt'
          have hgood := Lib.hid (fun h => hall.succ (f := ndE) hlt hlt' h)
          have hbad := Lib.hid (fun h => eqL_bad (f := ndE) (xs := g.ns) (ys := g'.ns) k hlt hlt' h)
          clear hall
          obtain ⟨x, ex⟩ : ∃ x, x = g.ns[k] := ⟨_, rfl⟩
          obtain ⟨y, ey⟩ : ∃ y, y = g'.ns[k] := ⟨_, rfl⟩
          rw [← ex, ← ey] at hgood hbad
          rw [← ex] at c0 c1
          rw [← ey] at d0 d1
          clear ex ey
          have hq := neqNode x y
          by_cases hE : ndE x y = true
          · have HG := Lib.hid (hgood.out hE)
            go_wp2_with fail
            go_still_tail 10, (by kernel_rfl)
            go_wp2_with fail
            go_roundw
            case rel => exact ⟨k + 1, by omega, by go_num, HG.out, HBR.out.drew⟩
            case measure => simp [intOf]; omega
          · have hE' : ndE x y = false := Bool.eq_false_iff.2 hE
            have HG := Lib.hid (hbad.out hE')
            clear hE
            go_wp2_with fail
            go_still_tail 10, (by kernel_rfl)
            go_wp2_with fail
            go_ret
            exact ⟨ret_bool (by unfold gs; rw [HG.out]; rfl), HB2.out.drew⟩
        · have HN := Lib.hid (hall.full (by omega) L1.out)
          have hkk : k = g.ns.length := by omega
          subst hkk
          go_wp2_with fail
          clear p0 p1 q0 q1 hsz
          obtain ⟨w2, rfl⟩ : ∃ w2 : World, w2 = wr := ⟨_, rfl⟩
          go_loopw [6] (fun i wr => ∃ k : Nat, k ≤ g.es.length ∧ i = .int .i64 k ∧ AllE edE g.es g'.es k ∧ Below (w.heap.size + 2) w2 wr) (fun i _ => g.es.length - (intOf i).toNat)
          case atStart => exact ⟨0, Nat.zero_le _, rfl, AllE.zero _ _ _, Below.refl _ _⟩
          case round =>
            obtain ⟨k, hk, rfl, hall, hbw0⟩ := hrel
            have hbw := HBR.out.trans hbw0
            have HB0 := Lib.hid hbw0
            clear hbw0
            have hsz : w.heap.size + 2 ≤ wr.heap.size := by have := hbw.size; simp at this; omega
            have p0 : wr.cell? ⟨w.heap.size, 0, none⟩ = some (.slice p g.ns.length cap) := keepc hbw (by omega) (by simp [go_sem])
            have p1 : wr.cell? ⟨w.heap.size, 1, none⟩ = some (.slice q g.es.length cq) := keepc hbw (by omega) (by simp [go_sem])
            have q0 : wr.cell? ⟨w.heap.size + 1, 0, none⟩ = some (.slice p' g'.ns.length cap') := keepc hbw (by omega) (by simp [go_sem])
            have q1 : wr.cell? ⟨w.heap.size + 1, 1, none⟩ = some (.slice q' g'.es.length cq') := keepc hbw (by omega) (by simp [go_sem])
            have HC1 := Lib.hid (HW.out.trans (hbw.mono (by omega)))
            have HC2 := Lib.hid (HV.out.trans (hbw.mono (by omega)))
            clear hbw
            by_cases hlt : k < g.es.length
            · have hlt' : k < g'.es.length := by omega
              obtain ⟨b, off, rfl, hbB, c0, c1, c2, c3⟩ := (hb.below HC1.out).ed hlt
              obtain ⟨b', off', rfl, hbB', d0, d1, d2, d3⟩ := (hb'.below HC1.out).ed hlt'
              have hgood := Lib.hid (fun h => hall.succ (f := edE) hlt hlt' h)
              have hbad := Lib.hid (fun h => eqL_bad (f := edE) (xs := g.es) (ys := g'.es) k hlt hlt' h)
              clear hall
              obtain ⟨x, ex⟩ : ∃ x, x = g.es[k] := ⟨_, rfl⟩
              obtain ⟨y, ey⟩ : ∃ y, y = g'.es[k] := ⟨_, rfl⟩
              rw [← ex, ← ey] at hgood hbad
              rw [← ex] at c0 c1 c2 c3
              rw [← ey] at d0 d1 d2 d3
              clear ex ey
              have hq := neqEdge x y
              by_cases hE : edE x y = true
              · have HG := Lib.hid (hgood.out hE)
                go_wp2_with fail
                go_still_tail 10, (by kernel_rfl)
                go_wp2_with fail
                go_roundw
                case rel => exact ⟨k + 1, by omega, by go_num, HG.out, HB0.out.drew⟩
                case measure => simp [intOf]; omega
              · have hE' : edE x y = false := Bool.eq_false_iff.2 hE
                have HG := Lib.hid (hbad.out hE')
                clear hE
                go_wp2_with fail
                go_still_tail 10, (by kernel_rfl)
                go_wp2_with fail
                go_ret
                exact ⟨ret_bool (by unfold gs; rw [HG.out]; simp), HC2.out.drew⟩
            · have HE := Lib.hid (hall.full (by omega) L2.out)
              go_wp2_with fail
              go_ret
              exact ⟨ret_bool (by unfold gs; rw [HN.out, HE.out]; rfl), HC2.out⟩
    · have t2 : ((g.es.length : Int) != (g'.es.length : Int)) = true := by simp; omega
      have HE := Lib.hid (eqL_len (f := edE) l2)
      clear l2
      go_enter Tryd.func6, Tryd.ntmps6
      go_wp2_with fail
      go_ret
      exact ⟨ret_bool (by unfold gs; rw [HE.out]; simp), HV.out⟩
  · have t1 : ((g.ns.length : Int) != (g'.ns.length : Int)) = true := by simp; omega
    have HN := Lib.hid (eqL_len (f := ndE) l1)
    clear l1
    go_enter Tryd.func6, Tryd.ntmps6
    go_wp2_with fail
    go_ret
    exact ⟨ret_bool (by unfold gs; rw [HN.out]; rfl), HV.out⟩
end Go.Proofs.YtafddoljphmgkaaDoor
