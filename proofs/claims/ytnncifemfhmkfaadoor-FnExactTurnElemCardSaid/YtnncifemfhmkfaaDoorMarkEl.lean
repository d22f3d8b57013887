/- The laws' marks on elements. -/
import Derived.Test.YtnncifemfhmkfaaDoorElem
import Derived.Test.YtnncifemfhmkfaaDoorMarkX
import Derived.Test.YtnncifemfhmkfaaDoorLocV
namespace Go.Proofs.YtnncifemfhmkfaaDoor
open Go.RowKit

def El.mk2 (e : El) (m : Int) : El := ⟨e.n, e.v, ⟨e.l.op, e.l.a, e.l.ks.mk m⟩, ⟨e.c.op, e.c.a, e.c.ks.mk (m + 2 * e.l.ks.size)⟩, e.d⟩
theorem El.goes (e : El) : Goes e.Has := fun _ _ _ _ _ h hc hd => h.chg hc hd

set_option maxRecDepth 100000 in
set_option maxHeartbeats 2000000 in
theorem markElem_any (e : El) (u : Value) (F : List Nat) (m : Int) (w : World) (hu : e.Has u F w) (hm : 1 ≤ m) (hb : m + 2 * (e.l.ks.size + e.c.ks.size) ≤ 100000000) :
    Calls Tryd.prog 10 #[u, .int .i64 m] w fun en w' => en = .returned (.int .i64 (m + 2 * (e.l.ks.size + e.c.ks.size))) ∧ (e.mk2 m).Has u F w' ∧ Chg F w w' := by
  obtain ⟨k, k', F1, F2, rfl, rfl, hd, h1, h2⟩ := hu
  obtain ⟨p, cap, rfl⟩ := h1.in.form
  obtain ⟨p', cap', rfl⟩ := h2.in.form
  have hF1 := Lib.hid h1.lt
  have hF2 := Lib.hid h2.lt
  have HD := Lib.hid hd
  have HB0 := Lib.hid (show Below w.heap.size w (w.alloc (.cells #[.bool e.n, .string e.v, .int .i64 e.l.op, .string e.l.a, .slice p e.l.ks.list.length cap, .int .i64 e.c.op, .string e.c.a, .slice p' e.c.ks.list.length cap', .int .i64 e.d] 32)) from (Below.refl _ _).alloc (Nat.le_refl _) _)
  have H1 := Lib.hid (h1.below HB0.out)
  have H2 := Lib.hid (h2.below HB0.out)
  clear h1 h2 hd
  go_enter Tryd.func10, Tryd.ntmps10
  go_wp2_with fail
  refine (markExpr_any e.l _ F1 m _ ⟨_, rfl, H1.out⟩ hm (by omega)).mono ?_
  rintro en w1 ⟨rfl, ho1, hc1⟩
  have hk : ∀ i, w1.cell? ⟨w.heap.size, i, none⟩ = (w.alloc (.cells #[.bool e.n, .string e.v, .int .i64 e.l.op, .string e.l.a, .slice p e.l.ks.list.length cap, .int .i64 e.c.op, .string e.c.a, .slice p' e.c.ks.list.length cap', .int .i64 e.d] 32)).cell? ⟨w.heap.size, i, none⟩ := fun i => World.cell?_of_block (a := ⟨w.heap.size, i, none⟩) (hc1.block w.heap.size (by simp) (fun hx => by have := hF1.out _ hx; omega))
  have c5 : w1.cell? ⟨w.heap.size, 5, none⟩ = some (.int .i64 e.c.op) := (hk 5).trans (by simp [go_sem])
  have c6 : w1.cell? ⟨w.heap.size, 6, none⟩ = some (.string e.c.a) := (hk 6).trans (by simp [go_sem])
  have c7 : w1.cell? ⟨w.heap.size, 7, none⟩ = some (.slice p' e.c.ks.list.length cap') := (hk 7).trans (by simp [go_sem])
  have HO1 := Lib.hid ho1
  have HC1 := Lib.hid hc1
  have H2' := Lib.hid (H2.out.chg hc1 (fun x hx hx1 => HD.out x hx1 hx))
  clear hk ho1 hc1
  go_wp2_with fail
  refine (markExpr_any e.c _ F2 _ _ ⟨_, rfl, H2'.out⟩ (by omega) (by omega)).mono ?_
  rintro en w2 ⟨rfl, ho2, hc2⟩
  have HO2 := Lib.hid ho2
  have HC2 := Lib.hid ((Chg.of_below HB0.out (F1 ++ F2)).trans ((HC1.out.mono (fun x hx => List.mem_append_left _ hx)).trans (hc2.mono (fun x hx => List.mem_append_right _ hx))))
  have HO1' := Lib.hid (HO1.out.chg hc2 (fun x hx => HD.out x hx))
  clear ho2 hc2
  go_wp2_with fail
  go_ret
  obtain ⟨a1, e1, g1⟩ := HO1'.out
  obtain ⟨a2, e2, g2⟩ := HO2.out
  cases e1
  cases e2
  exact ⟨congrArg (fun z => Ending.returned (Value.int .i64 z)) (show m + 2 * (e.l.ks.size : Int) + 2 * (e.c.ks.size : Int) = m + 2 * ((e.l.ks.size : Int) + (e.c.ks.size : Int)) by omega), ⟨_, _, F1, F2, rfl, rfl, HD.out, g1, g2⟩, HC2.out⟩
set_option maxRecDepth 100000 in
set_option maxHeartbeats 2000000 in
theorem heldElem_any (e : El) (u : Value) (m : Int) (B : Nat) (w : World) (hu : (e.mk2 m).At B w u) (hB : B ≤ w.heap.size) (hm : 1 ≤ m) (hb : m + 2 * (e.l.ks.size + e.c.ks.size) ≤ 100000000) :
    Calls Tryd.prog 11 #[u, .int .i64 m] w fun en w' => en = .returned (.int .i64 (m + 2 * (e.l.ks.size + e.c.ks.size))) ∧ Below w.heap.size w w' := by
  obtain ⟨k, k', rfl, h1, h2⟩ := hu
  obtain ⟨p, cap, hk1⟩ := h1.form
  obtain ⟨p', cap', hk2⟩ := h2.form
  subst hk1 hk2
  have H1 := Lib.hid h1
  have H2 := Lib.hid h2
  clear h1 h2
  have hn1 : ¬ (m + 2 * (e.l.ks.size : Int) < 0) := by omega
  have hn2 : ¬ (m + 2 * (e.l.ks.size : Int) + 2 * (e.c.ks.size : Int) < 0) := by omega
  go_enter Tryd.func11, Tryd.ntmps11
  go_wp2_with fail
  refine (heldExpr_any e.l _ m B _ ⟨_, rfl, H1.out.below ((Below.refl B w).alloc hB _) (Nat.le_refl _)⟩ (by simp; omega) hm (by omega)).mono ?_
  rintro en w1 ⟨rfl, hb1⟩
  have c5 := new_cell hb1 (j := 5) rfl
  have c6 := new_cell hb1 (j := 6) rfl
  have c7 := new_cell hb1 (j := 7) rfl
  have hs1 : w.heap.size < w1.heap.size := by have := hb1.size; simp at this; omega
  have HB1 := Lib.hid (below_past hb1)
  clear hb1
  go_wp2_with fail
  refine (heldExpr_any e.c _ _ B _ ⟨_, rfl, H2.out.below (HB1.out.mono hB) (Nat.le_refl _)⟩ (by omega) (by omega) (by omega)).mono ?_
  rintro en w2 ⟨rfl, hb2⟩
  have HB2 := Lib.hid (HB1.out.trans (hb2.mono (by omega)))
  clear hb2
  go_wp2_with fail
  go_ret
  exact ⟨congrArg (fun z => Ending.returned (Value.int .i64 z)) (show m + 2 * (e.l.ks.size : Int) + 2 * (e.c.ks.size : Int) = m + 2 * ((e.l.ks.size : Int) + (e.c.ks.size : Int)) by omega), HB2.out⟩
end Go.Proofs.YtnncifemfhmkfaaDoor
