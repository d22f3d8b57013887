/- markGraph, heldGraph, eqIntS. -/
import Derived.Test.YtpojfgapldgigaaGreatDoorHeld
namespace Go.Proofs.YtpojfgapldgigaaGreatDoor
open Go.RowKit

def Gr.marked (g : Gr) (m : Int) : Gr := ⟨(List.range g.ns.length).map (mkNode m), (List.range g.es.length).map (mkEdge (m + 2 * g.ns.length))⟩

set_option maxHeartbeats 1000000 in
theorem markGraph_any (g : Gr) (v : Value) (lo : Nat) (F1 F2 : List Nat) (m : Int) (w : World) (hg : g.Own lo w v F1 F2) (hm : 1 ≤ m) (hb : m + 2 * g.ns.length + 4 * g.es.length ≤ 100000000) :
    Calls Tryz.prog 13 #[v, .int .i64 m] w fun e w' => e = .returned (.int .i64 (m + 2 * g.ns.length + 4 * g.es.length)) ∧ (g.marked m).Own lo w' v F1 F2 ∧ Chg (F1 ++ F2) w w' := by
  have HL := Lib.hid hg.lt
  have HG := Lib.hid hg
  obtain ⟨a, b, rfl, ha, hb2, hl1, hl2, hd⟩ := hg
  have H1 := Lib.hid ha
  have H2 := Lib.hid hb2
  clear ha hb2 hl1 hl2 hd
  go_enter Tryz.func13, Tryz.ntmps13
  go_wp2_with fail
  refine (markNodeS_any g.ns a F1 m _ (H1.out.below ((Below.refl _ _).alloc (Nat.le_refl _) _)) hm (by omega)).mono ?_
  rintro e w1 ⟨rfl, ho1, hc1⟩
  have HO1 := Lib.hid ho1
  have HC0 := Lib.hid (Chg.of_below ((Below.refl w.heap.size w).alloc (Nat.le_refl _) (.cells #[a, b] 38)) (F1 ++ F2))
  have HC1 := Lib.hid (HC0.out.trans (hc1.mono (fun x hx => List.mem_append_left _ hx)))
  have p1 : w1.cell? ⟨w.heap.size, 1, none⟩ = some b :=
    (World.cell?_of_block (w := w.alloc (.cells #[a, b] 38)) (a := ⟨w.heap.size, 1, none⟩) (hc1.block w.heap.size (by simp) (fun hx => by have := HL.out.1 _ hx; omega))).trans (by simp [go_sem])
  have HE := Lib.hid ((H2.out.below ((Below.refl _ _).alloc (Nat.le_refl _) (.cells #[a, b] 38))).chg hc1 (fun x hx hx1 => HG.out.choose_spec.choose_spec.2.2.2.2.2 x hx1 hx))
  clear ho1 hc1
  go_wp2_with fail
  refine (markEdgeS_any g.es b F2 _ _ HE.out (by omega) (by omega)).mono ?_
  rintro e w2 ⟨rfl, ho2, hc2⟩
  have HO2 := Lib.hid ho2
  have HC2 := Lib.hid (HC1.out.trans (hc2.mono (fun x hx => List.mem_append_right _ hx)))
  have HN := Lib.hid (HO1.out.chg hc2 (fun x hx hx2 => HG.out.choose_spec.choose_spec.2.2.2.2.2 x hx hx2))
  clear ho2 hc2
  go_wp2_with fail
  go_ret
  obtain ⟨a', b', e1, _, _, l1, l2, d⟩ := HG.out
  exact ⟨rfl, ⟨a, b, rfl, HN.out, HO2.out, l1, l2, d⟩, HC2.out⟩

end Go.Proofs.YtpojfgapldgigaaGreatDoor
