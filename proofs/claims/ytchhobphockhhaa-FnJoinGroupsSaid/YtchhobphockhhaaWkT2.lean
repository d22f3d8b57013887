/- impl.TurnWalk. -/
import Derived.Test.YtchhobphockhhaaWkE
namespace Go.Proofs.Ytchhobphockhhaa
open Go.RowKit

theorem Sl.nil {α : Type} {sz : Nat} {enc : α → List Value} (B : Nat) (w : World) (p : Option Addr) : Sl (α := α) sz enc B w (.slice p 0 0) [] := ⟨p, 0, 0, rfl, rfl, Nat.le_refl _, Nat.zero_le _, fun i hi => by simp at hi⟩
theorem wcc {F : List Nat} {w w' : World} {b o : Nat} {x : Value} (hc : Chg F w w') (hb : b ∉ F) (h : w.cell? ⟨b, o, none⟩ = some x) : w'.cell? ⟨b, o, none⟩ = some x :=
  (World.cell?_of_block (w := w) (a := ⟨b, o, none⟩) (hc.block b (World.block_lt_of_cell? w _ h) hb)).trans h
theorem wcf {F : List Nat} {w w' : World} {b o : Nat} (hc : Chg F w w') (hlt : b < w.heap.size) (hb : b ∉ F) (h : w.frozen? ⟨b, o, none⟩ = false) : w'.frozen? ⟨b, o, none⟩ = false :=
  (World.frozen?_of_block (w := w) (a := ⟨b, o, none⟩) (hc.block b hlt hb)).trans h

set_option maxRecDepth 100000 in
set_option maxHeartbeats 8000000 in
theorem turnWalk_any (x : Wk) (v : Value) (B : Nat) (w : World) (hx : x.At B w v) (hB : B ≤ w.heap.size) (hn : x.need ≤ 1048576) :
    Calls Try.prog 19 #[v] w fun e w' => ∃ v' F, e = .returned v' ∧ (wkTurn x).Has v' F w' ∧ (∀ y ∈ F, w.heap.size ≤ y) ∧ Below w.heap.size w w' := by
  have HX := Lib.hid hx
  obtain ⟨p, cp, q, cq, rfl⟩ := hx.form
  have hl1 : x.ns.length ≤ 1048576 := by unfold Wk.need at hn; omega
  have hl2 : x.es.length ≤ 1048576 := by unfold Wk.need at hn; omega
  have HN := Lib.hid hn
  clear hx hn
  obtain ⟨W, eW⟩ : ∃ W, W = (w.alloc (.cells #[.slice p x.ns.length cp, .slice q x.es.length cq] 25)).alloc (.cells #[.slice none 0 0, .slice none 0 0] 25) := ⟨_, rfl⟩
  have HV := Lib.hid (show Below w.heap.size w W by rw [eW]; exact two_more (Nat.le_refl _) _ _)
  have hs0 : W.heap.size = w.heap.size + 2 := by rw [eW]; simp
  have k0 : W.cell? ⟨w.heap.size + 1, 0, none⟩ = some (.slice none 0 0) := by rw [eW]; simp [go_sem]
  have k1 : W.cell? ⟨w.heap.size + 1, 1, none⟩ = some (.slice none 0 0) := by rw [eW]; simp [go_sem]
  have k2 : W.frozen? ⟨w.heap.size + 1, 0, none⟩ = false := by rw [eW]; simp [go_sem]
  have k3 : W.frozen? ⟨w.heap.size + 1, 1, none⟩ = false := by rw [eW]; simp [go_sem]
  have HR := Lib.hid (And.intro k0 (And.intro k1 (And.intro k2 k3)))
  have EW := Lib.hid eW
  clear eW k0 k1 k2 k3
  go_enter Try.func19, Try.ntmps19
  go_wp2_with fail
  rw [← EW.out]
  with_reducible refine (extendWalk_any x [] [] _ _ _ B _ (HX.out.to (HV.out.mono hB) (Nat.le_refl _)) (Sl.nil _ _ _) (Sl.nil _ _ _) (by omega) HN.out (by simp) (by simp)).mono ?_
  rintro e w1 ⟨v1, F, rfl, ho, hf, hb1⟩
  rw [show wkExt x [] [] = x by unfold wkExt; simp] at ho
  obtain ⟨s1, s2, F1, F2, rfl, rfl, o1, o2, hd⟩ := ho
  obtain ⟨p1, c1, rfl⟩ := o1.sl.form
  obtain ⟨p2, c2, rfl⟩ := o2.sl.form
  have hs1 := hb1.size
  have HB1 := Lib.hid (HV.out.trans (hb1.mono (by omega)))
  have L1 := Lib.hid (show ∀ y ∈ F1, W.heap.size ≤ y ∧ y < w1.heap.size from fun y hy => ⟨hf y (List.mem_append_left _ hy), o1.lt y hy⟩)
  have L2 := Lib.hid (show ∀ y ∈ F2, W.heap.size ≤ y ∧ y < w1.heap.size from fun y hy => ⟨hf y (List.mem_append_right _ hy), o2.lt y hy⟩)
  have HD := Lib.hid hd
  obtain ⟨r0, r1, r2, r3⟩ := HR.out
  have k0 := keepc hb1 (by omega) r0
  have k1 := keepc hb1 (by omega) r1
  have k2 : w1.frozen? ⟨w.heap.size + 1, 0, none⟩ = false := (hb1.frozen (p := ⟨w.heap.size + 1, 0, none⟩) (by show w.heap.size + 1 < W.heap.size; omega)).trans r2
  have k3 : w1.frozen? ⟨w.heap.size + 1, 1, none⟩ = false := (hb1.frozen (p := ⟨w.heap.size + 1, 1, none⟩) (by show w.heap.size + 1 < W.heap.size; omega)).trans r3
  clear r0 r1 r2 r3 hb1 hf hd
  go_wp2_with fail
  obtain ⟨W1, eW1⟩ : ∃ u, u = w1.alloc (.cells #[.slice p1 x.ns.length c1, .slice p2 x.es.length c2] 25) := ⟨_, rfl⟩
  rw [← eW1]
  have hb1 : Below w1.heap.size w1 W1 := by rw [eW1]; exact (Below.refl _ _).alloc (Nat.le_refl _) _
  have hsW1 : W1.heap.size = w1.heap.size + 1 := by rw [eW1]; simp
  have m0 : W1.cell? ⟨w1.heap.size, 0, none⟩ = some (.slice p1 x.ns.length c1) := by rw [eW1]; simp [go_sem]
  have m1 : W1.cell? ⟨w1.heap.size, 1, none⟩ = some (.slice p2 x.es.length c2) := by rw [eW1]; simp [go_sem]
  have K0 := keepc hb1 (by omega) k0
  have K1 := keepc hb1 (by omega) k1
  have K2 := (hb1.frozen (p := ⟨w.heap.size + 1, 0, none⟩) (by show w.heap.size + 1 < w1.heap.size; omega)).trans k2
  have K3 := (hb1.frozen (p := ⟨w.heap.size + 1, 1, none⟩) (by show w.heap.size + 1 < w1.heap.size; omega)).trans k3
  have HBW := Lib.hid (HB1.out.trans (hb1.mono (by omega)))
  have O1 := Lib.hid (o1.below hb1)
  have O2 := Lib.hid (o2.below hb1)
  clear k0 k1 k2 k3 o1 o2 hb1 eW1
  with_reducible refine (slReverseInt_any x.ns _ F1 _ O1.out (by omega)).mono ?_
  rintro e w2 ⟨rfl, o1, hc1⟩
  have n1 : w1.heap.size ∉ F1 := fun h => by have := (L1.out _ h).2; omega
  have n2 : w.heap.size + 1 ∉ F1 := fun h => by have := (L1.out _ h).1; omega
  have a0 := wcc hc1 n1 m0
  have a1 := wcc hc1 n1 m1
  have b0 := wcc hc1 n2 K0
  have b1 := wcc hc1 n2 K1
  have b2 := wcf hc1 (by omega) n2 K2
  have b3 := wcf hc1 (by omega) n2 K3
  have O2' := Lib.hid (O2.out.chg hc1 (fun y hy hy1 => HD.out y hy1 hy))
  have O1' := Lib.hid o1
  have HB2 := Lib.hid (HBW.out.trans (hc1.below (B := w.heap.size) (by omega) (fun y hy => by have := (L1.out y hy).1; omega)))
  have hs2 := hc1.size
  clear hc1 o1 m0 m1 K0 K1 K2 K3
  go_wp2_with fail
  with_reducible refine (slReverseInt_any x.es _ F2 _ O2'.out (by omega)).mono ?_
  rintro e w3 ⟨rfl, o2, hc2⟩
  have n3 : w1.heap.size ∉ F2 := fun h => by have := (L2.out _ h).2; omega
  have n4 : w.heap.size + 1 ∉ F2 := fun h => by have := (L2.out _ h).1; omega
  have d0 := wcc hc2 n3 a0
  have d1 := wcc hc2 n3 a1
  have e0 := wcc hc2 n4 b0
  have e1 := wcc hc2 n4 b1
  have e2 := wcf hc2 (by omega) n4 b2
  have e3 := wcf hc2 (by omega) n4 b3
  have O1'' := Lib.hid (O1'.out.chg hc2 (fun y hy hy1 => HD.out y hy hy1))
  have O2'' := Lib.hid o2
  have HB3 := Lib.hid (HB2.out.trans (hc2.below (B := w.heap.size) (by omega) (fun y hy => by have := (L2.out y hy).1; omega)))
  clear hc2 o2 a0 a1 b0 b1 b2 b3
  go_wp2_with fail
  exact bodyPost_ret (v := .agg #[.slice p1 x.ns.length c1, .slice p2 x.es.length c2]) (by simp [results, Try.results19, go_sem, e0, e1]) rfl ⟨_, F1 ++ F2, rfl, wk_end (x := wkTurn x) (B := W.heap.size) O1''.out O2''.out (fun y hy => (L1.out y hy).1) (fun y hy => (L2.out y hy).1) (by omega) HD.out, (fun y hy => by rcases List.mem_append.1 hy with h | h; (have := (L1.out y h).1; omega); (have := (L2.out y h).1; omega)), ((HB3.out.setCell (by simp) _).setCell (by simp) _)⟩
end Go.Proofs.Ytchhobphockhhaa
