/- markGraph, heldGraph, eqIntS. -/
import Derived.Test.YtggnlbclpbkfhaaHeld
namespace Go.Proofs.Ytggnlbclpbkfhaa
open Go.RowKit

def Gr.marked (g : Gr) (m : Int) : Gr := ⟨(List.range g.ns.length).map (mkNode m), (List.range g.es.length).map (mkEdge (m + 2 * g.ns.length))⟩

set_option maxHeartbeats 1000000 in
theorem markGraph_any (g : Gr) (v : Value) (lo : Nat) (F1 F2 : List Nat) (m : Int) (w : World) (hg : g.Own lo w v F1 F2) (hm : 1 ≤ m) (hb : m + 2 * g.ns.length + 4 * g.es.length ≤ 100000000) :
    Calls Try.prog 30 #[v, .int .i64 m] w fun e w' => e = .returned (.int .i64 (m + 2 * g.ns.length + 4 * g.es.length)) ∧ (g.marked m).Own lo w' v F1 F2 ∧ Chg (F1 ++ F2) w w' := by
  have HL := Lib.hid hg.lt
  have HG := Lib.hid hg
  obtain ⟨a, b, rfl, ha, hb2, hl1, hl2, hd⟩ := hg
  have H1 := Lib.hid ha
  have H2 := Lib.hid hb2
  clear ha hb2 hl1 hl2 hd
  go_enter Try.func30, Try.ntmps30
  go_wp2_with fail
  refine (markNodeS_any g.ns a F1 m _ (H1.out.below ((Below.refl _ _).alloc (Nat.le_refl _) _)) hm (by omega)).mono ?_
  rintro e w1 ⟨rfl, ho1, hc1⟩
  have HO1 := Lib.hid ho1
  have HC0 := Lib.hid (Chg.of_below ((Below.refl w.heap.size w).alloc (Nat.le_refl _) (.cells #[a, b] 26)) (F1 ++ F2))
  have HC1 := Lib.hid (HC0.out.trans (hc1.mono (fun x hx => List.mem_append_left _ hx)))
  have p1 : w1.cell? ⟨w.heap.size, 1, none⟩ = some b :=
    (World.cell?_of_block (w := w.alloc (.cells #[a, b] 26)) (a := ⟨w.heap.size, 1, none⟩) (hc1.block w.heap.size (by simp) (fun hx => by have := HL.out.1 _ hx; omega))).trans (by simp [go_sem])
  have HE := Lib.hid ((H2.out.below ((Below.refl _ _).alloc (Nat.le_refl _) (.cells #[a, b] 26))).chg hc1 (fun x hx hx1 => HG.out.choose_spec.choose_spec.2.2.2.2.2 x hx1 hx))
  clear ho1 hc1
  go_wp2_with fail
  refine (markEdgeS_any g.es b F2 _ _ HE.out (by omega) (by omega)).mono ?_
  rintro e w2 ⟨rfl, ho2, hc2⟩
  have HO2 := Lib.hid ho2
  have HC2 := Lib.hid (HC1.out.trans (hc2.mono (fun x hx => List.mem_append_right _ hx)))
  have HN := Lib.hid (HO1.out.chg hc2 (fun x hx hx2 => HG.out.choose_spec.choose_spec.2.2.2.2.2 x hx hx2))
  clear ho2 hc2
  go_wp2_with fail
  go_ret
  obtain ⟨a', b', e1, _, _, l1, l2, d⟩ := HG.out
  exact ⟨rfl, ⟨a, b, rfl, HN.out, HO2.out, l1, l2, d⟩, HC2.out⟩

set_option maxHeartbeats 1000000 in
theorem heldGraph_any (g : Gr) (v : Value) (m : Int) (B : Nat) (w : World) (hg : (g.marked m).At B w v) (hB : B ≤ w.heap.size) (hm : 1 ≤ m) (hb : m + 2 * g.ns.length + 4 * g.es.length ≤ 100000000) :
    Calls Try.prog 31 #[v, .int .i64 m] w fun e w' => e = .returned (.int .i64 (m + 2 * g.ns.length + 4 * g.es.length)) ∧ Below w.heap.size w w' := by
  obtain ⟨a, b, rfl, ha, hb2⟩ := hg
  have H1 := Lib.hid ha
  have H2 := Lib.hid hb2
  clear ha hb2
  go_enter Try.func31, Try.ntmps31
  go_wp2_with fail
  refine (heldNodeS_any g.ns.length a m B _ (H1.out.below ((Below.refl B w).alloc hB _)) (by simp; omega) hm (by omega)).mono ?_
  rintro e w1 ⟨rfl, hb1⟩
  have hs1 : w.heap.size < w1.heap.size := by have := hb1.size; simp at this; omega
  have c1 := new_cell hb1 (j := 1) rfl
  have HB1 := Lib.hid (below_past hb1)
  clear hb1
  go_wp2_with fail
  refine (heldEdgeS_any g.es.length b _ B _ (H2.out.below (HB1.out.mono hB)) (by omega) (by omega) (by omega)).mono ?_
  rintro e w2 ⟨rfl, hb2⟩
  have HB2 := Lib.hid (HB1.out.trans (hb2.mono (by omega)))
  clear hb2
  go_wp2_with fail
  go_ret
  exact ⟨rfl, HB2.out⟩

set_option maxRecDepth 100000 in
set_option maxHeartbeats 1000000 in
theorem eqIntS_any (xs : List Int) (v v' : Value) (B : Nat) (w : World) (hv : Sl 1 intCells B w v xs) (hv' : Sl 1 intCells B w v' xs) (hB : B ≤ w.heap.size) :
    Calls Try.prog 36 #[v, v'] w fun e w' => e = .returned (.bool true) ∧ Below w.heap.size w w' := by
  obtain ⟨p, cap, rfl⟩ := hv.form
  obtain ⟨p', cap', rfl⟩ := hv'.form
  have hm := hv.max
  have hm' := hv'.max
  unfold maxLen at hm hm'
  go_enter Try.func36, Try.ntmps36
  go_wp2_with fail
  go_loopw [5] (fun i wr => ∃ k : Nat, k ≤ xs.length ∧ i = .int .i64 k ∧ Below w.heap.size w wr) (fun i _ => xs.length - (intOf i).toNat)
  case atStart => exact ⟨0, Nat.zero_le _, rfl, Below.refl _ _⟩
  case round =>
    obtain ⟨k, hk, rfl, hbw⟩ := hrel
    have hsz := hbw.size
    have HB := Lib.hid hbw
    clear hbw
    by_cases hlt2 : k < xs.length
    · obtain ⟨b, off, rfl, hb, c0⟩ := (hv.below (HB.out.mono hB)).it hlt2
      obtain ⟨b', off', rfl, hb', d0⟩ := (hv'.below (HB.out.mono hB)).it hlt2
      obtain ⟨x, ex⟩ : ∃ x, x = xs[k] := ⟨_, rfl⟩
      rw [← ex] at c0 d0
      clear ex
      go_wp2_with fail
      go_still_tail 8, (by kernel_rfl)
      go_wp2_with fail
      go_roundw
      case rel => exact ⟨k + 1, by omega, by go_num, HB.out.drew⟩
      case measure => simp [intOf]; omega
    · obtain rfl : k = xs.length := by omega
      go_wp2_with fail
      go_ret
      exact ⟨rfl, HB.out⟩
end Go.Proofs.Ytggnlbclpbkfhaa
