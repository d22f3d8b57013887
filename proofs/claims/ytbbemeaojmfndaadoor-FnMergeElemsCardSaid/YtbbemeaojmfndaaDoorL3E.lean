/- The draws of elements. -/
import Derived.Test.YtbbemeaojmfndaaDoorL3W
import Derived.Test.YtbbemeaojmfndaaDoorL1A
namespace Go.Proofs.YtbbemeaojmfndaaDoor
open Go.RowKit

def CaseE (w : World) (e : Ending) (w' : World) : Prop :=
  ∃ (y : El) (p : Option Addr) (c : Nat) (p' : Option Addr) (c' : Nat), e = .returned (.agg #[.bool y.n, .string y.v, .int .i64 y.l.op, .string y.l.a, .slice p y.l.ks.list.length c, .int .i64 y.c.op, .string y.c.a, .slice p' y.c.ks.list.length c', .int .i64 y.d]) ∧ EDr y p c p' c' 16 w.heap.size w' ∧ Below w.heap.size w w'
def CaseGNE (w : World) (e : Ending) (w' : World) : Prop :=
  ∃ (g : Gr) (vg : Value) (Fg : List Nat) (n : Int) (y : El) (p : Option Addr) (c : Nat) (p' : Option Addr) (c' : Nat), e = .returned (.tuple #[vg, .int .i64 n, .agg #[.bool y.n, .string y.v, .int .i64 y.l.op, .string y.l.a, .slice p y.l.ks.list.length c, .int .i64 y.c.op, .string y.c.a, .slice p' y.c.ks.list.length c', .int .i64 y.d]]) ∧ GX g vg Fg w.heap.size w' ∧ (-1000 ≤ n ∧ n ≤ 1000) ∧ EDr y p c p' c' 16 w.heap.size w' ∧ Below w.heap.size w w'
theorem Gr.Has.lt' {g : Gr} {v : Value} {F : List Nat} {w : World} (h : g.Has v F w) : ∀ x ∈ F, x < w.heap.size := by
  obtain ⟨F1, F2, rfl, h⟩ := h
  have hl := h.lt
  intro x hx
  rcases List.mem_append.1 hx with hx | hx
  · exact hl.1 x hx
  · exact hl.2 x hx
theorem CaseE.fin {w E : World} {y : El} {p : Option Addr} {c : Nat} {p' : Option Addr} {c' : Nat} {lo : Nat} (hy : EDr y p c p' c' 16 lo E) (hlo : w.heap.size < lo) (hc : Chg [] w E) : CaseE w (.returned (.agg #[.bool y.n, .string y.v, .int .i64 y.l.op, .string y.l.a, .slice p y.l.ks.list.length c, .int .i64 y.c.op, .string y.c.a, .slice p' y.c.ks.list.length c', .int .i64 y.d])) (store9 E w.heap.size y p c p' c') :=
  ⟨y, p, c, p', c', rfl, (hy.chg store9_chg (by simpa using hlo)).low (by omega), (hc.past store9_chg (by simp)).below (Nat.le_refl _) (by simp)⟩

set_option maxRecDepth 100000 in
set_option maxHeartbeats 8000000 in
theorem drawNodeFits_any (zs : List Int) (v : Value) (B : Nat) (w : World) (hv : Sl 1 byCells B w v zs) (hB : B ≤ w.heap.size) (hz : ∀ z ∈ zs, 0 ≤ z ∧ z ≤ 255) :
    Calls Tryd.prog 11 #[v] w (CaseGNE w) := by
  obtain ⟨p0, cap, rfl⟩ := hv.form
  have HV := Lib.hid hv
  clear hv
  go_enter Tryd.func11, Tryd.ntmps11
  go_wp2_with fail
  obtain ⟨W1, eW1⟩ : ∃ E, E = (w.alloc (.cells #[.slice none 0 0, .slice none 0 0] 36)).alloc (.cells #[.bool false, .string ⟨#[]⟩, .int .i64 0, .string ⟨#[]⟩, .slice none 0 0, .int .i64 0, .string ⟨#[]⟩, .slice none 0 0, .int .i64 0] 27) := ⟨_, rfl⟩
  obtain ⟨sW1, sW1'⟩ : w.heap.size + 2 ≤ W1.heap.size ∧ W1.heap.size ≤ w.heap.size + 2 := by rw [eW1]; constructor <;> simp
  have HW1 := Lib.hid (show Chg [] w W1 by rw [eW1]; exact ((Chg.refl _ _).alloc _).alloc _)
  have HRZ := Lib.hid (fun (E : World) (hE : Chg [] W1 E) => (show ElC false ⟨#[]⟩ 0 ⟨#[]⟩ (.slice none 0 0) 0 ⟨#[]⟩ (.slice none 0 0) 0 (w.heap.size + 1) W1 by rw [eW1]; have := ElC.new (w := w.alloc (.cells #[.slice none 0 0, .slice none 0 0] 36)) (n := false) (v := ⟨#[]⟩) (lo := 0) (la := ⟨#[]⟩) (lk := .slice none 0 0) (co := 0) (ca := ⟨#[]⟩) (ck := .slice none 0 0) (d := 0) 27; rw [World.size_alloc] at this; exact this).chg hE (by simp))
  have HRG := Lib.hid (fun (E : World) (hE : Chg [] W1 E) => show (E.cell? ⟨w.heap.size, 0, none⟩ = some (.slice none 0 0) ∧ E.cell? ⟨w.heap.size, 1, none⟩ = some (.slice none 0 0)) ∧ E.frozen? ⟨w.heap.size, 0, none⟩ = false ∧ E.frozen? ⟨w.heap.size, 1, none⟩ = false from ⟨⟨hE.cellOf (by simp) (by rw [eW1]; simp [go_sem]), hE.cellOf (by simp) (by rw [eW1]; simp [go_sem])⟩, hE.frozenOf (by simp) (by omega) (by rw [eW1]; simp [go_sem]), hE.frozenOf (by simp) (by omega) (by rw [eW1]; simp [go_sem])⟩)
  rw [← eW1]
  clear eW1
  refine (l1At_any zs _ B W1 (HV.out.below ((HW1.out.below (Nat.le_refl _) (by simp)).mono hB)) (by omega) hz).mono ?_
  rintro en u1 ⟨g, vg, Fg, n0, rfl, hg, hn0, hn1, hb1⟩
  obtain ⟨pg, cg, qg, dg, rfl⟩ := hg.1.form
  have c1 : Chg [] W1 u1 := Chg.of_below hb1 []
  have s1 := c1.size
  have HGL := Lib.hid hg.1.lt'
  clear hb1
  go_upto_region 2 with fail
  obtain ⟨W2, eW2⟩ : ∃ E, E = u1.alloc (.cells #[.slice pg g.ns.length cg, .slice qg g.es.length dg] 36) := ⟨_, rfl⟩
  have kW2 : Chg [] u1 W2 := by rw [eW2]; exact (Chg.refl _ _).alloc _
  have sW2 : u1.heap.size < W2.heap.size := by rw [eW2]; simp
  have HC := Lib.hid (show W2.cell? ⟨u1.heap.size, 0, none⟩ = some (.slice pg g.ns.length cg) ∧ W2.cell? ⟨u1.heap.size, 1, none⟩ = some (.slice qg g.es.length dg) by rw [eW2]; exact ⟨by simp [go_sem], by simp [go_sem]⟩)
  have HG2 := Lib.hid (hg.chg kW2 (by simp))
  have c2 := c1.trans kW2
  rw [← eW2]
  clear eW2 kW2 hg c1
  go_wp2_with fail
  refine (open_any zs _ B W2 (HV.out.below (((HW1.out.trans c2).below (Nat.le_refl _) (by simp)).mono hB)) (by omega) hz).mono ?_
  rintro en u3 ⟨rfl, hr1, hs1, hb1⟩
  have d3 : Dr u3 W2.heap.size 0 := ⟨0, Nat.le_refl _, hr1⟩
  have k3 : Chg [] W2 u3 := Chg.of_below hb1 []
  have c3 := c2.trans k3
  have HG3 := Lib.hid (HG2.out.chg k3 (by simp))
  have HK := Lib.hid (fun (E : World) (hE : Chg [w.heap.size, w.heap.size + 1, W2.heap.size] u3 E) => And.intro (hE.cellOf (by simp; omega) (k3.cellOf (by simp) HC.out.1)) (hE.cellOf (by simp; omega) (k3.cellOf (by simp) HC.out.2)))
  have a3 := d3.lt
  have s3 := c3.size
  clear hr1 hb1 hs1 k3 c2
  go_upto_region 3 with fail
  refine wp_region_held_drew (S := fun w' => w'.cell? ⟨u1.heap.size, 0, none⟩ = some (.slice pg g.ns.length cg) ∧ w'.cell? ⟨u1.heap.size, 1, none⟩ = some (.slice qg g.es.length dg)) (by kernel_rfl) ?_ (fun hHeld => ?_)
  · exact HK.out _ (show Chg [w.heap.size, w.heap.size + 1, W2.heap.size] u3 _ by ((repeat (first | with_reducible assumption | with_reducible exact Chg.refl _ _ | refine Chg.setCell ?_ (by simp) _ | refine Chg.alloc ?_ _ | refine Chg.drew ?_)); first | done | fail "chn4"))
  have cW : Chg [] u3 u3.drew := Chg.drew (Chg.refl _ _)
  have dW := d3.chg cW (by simp)
  generalize u3.drew = W0 at cW dW hHeld ⊢
  have zW := cW.size
  have aW := dW.lt
  (refine takeL (i := 0) (v := ?_) rfl (by kernel_rfl) (by kernel_rfl) (by kernel_rfl) (fun _ _ _ h => h) (Or.inl ⟨by kernel_rfl, ?_⟩) (by assumption) ?_; rotate_left; (focus (intro w hSw; (try dsimp only at hSw); go_simp; first | done | with_reducible rfl | fail "take")); (try simp only [Act.put, List.setIfInBounds_toArray, List.set_cons_zero, List.set_cons_succ]))
  (refine takeL (i := 1) (v := ?_) rfl (by kernel_rfl) (by kernel_rfl) (by kernel_rfl) (fun _ _ _ h => h) (Or.inl ⟨by kernel_rfl, ?_⟩) (by assumption) ?_; rotate_left; (focus (intro w hSw; (try dsimp only at hSw); go_simp; first | done | with_reducible rfl | fail "take")); (try simp only [Act.put, List.setIfInBounds_toArray, List.set_cons_zero, List.set_cons_succ]))
  (refine takeL (i := 2) (v := ?_) rfl (by kernel_rfl) (by kernel_rfl) (by kernel_rfl) (fun _ _ _ h => h) (Or.inl ⟨by kernel_rfl, ?_⟩) (by assumption) ?_; rotate_left; (focus (intro w hSw; (try dsimp only at hSw); go_simp; first | done | with_reducible rfl | fail "take")); (try simp only [Act.put, List.setIfInBounds_toArray, List.set_cons_zero, List.set_cons_succ]))
  (refine takeL (i := 3) (v := ?_) rfl (by kernel_rfl) (by kernel_rfl) (by kernel_rfl) (fun _ _ _ h => h) (Or.inl ⟨by kernel_rfl, ?_⟩) (by assumption) ?_; rotate_left; (focus (intro w hSw; (try dsimp only at hSw); go_simp; first | done | with_reducible rfl | fail "take")); (try simp only [Act.put, List.setIfInBounds_toArray, List.set_cons_zero, List.set_cons_succ]))
  have cA : Chg [W2.heap.size] u3 W0 := cW.mono (by simp)
  have HNN := Lib.hid (And.intro hn0 hn1)
  (refine callL (i := 4) rfl (by kernel_rfl) (by kernel_rfl) (fun K hK => ?_); go_simp)
  refine made (K := K) strB_spec 2 (by rfl) (by kernel_rfl) ?_
  intro x1 kx1 zx1 sS
  have cx1 := cA.trans (kx1.mono (by simp))
  have dx1 := dW.chg kx1 (by simp)
  refine hK.out _ _ (HK.out _ (cx1.mono (show ∀ y ∈ [W2.heap.size], y ∈ [w.heap.size, w.heap.size + 1, W2.heap.size] by simp))) (fun hHeld => ?_)
  clear hK K
  (try simp only [Act.put, List.setIfInBounds_toArray, List.set_cons_zero, List.set_cons_succ])
  (refine callL (i := 5) rfl (by kernel_rfl) (by kernel_rfl) (fun K hK => ?_); go_simp)
  go_at_call 25
  refine Calls.mono (l3Some_any true _ _ _ 2 _ x1 dx1 (by omega) sS (by decide) (by omega)) ?_
  rintro en w5 ⟨x, q1, b1, q2, b2, rfl, hx, d5, k5⟩
  have c5 := cx1.trans k5
  have s5 := c5.size
  go_wp2_with fail
  refine hK.out _ _ (HK.out _ (c5.mono (show ∀ y ∈ [W2.heap.size], y ∈ [w.heap.size, w.heap.size + 1, W2.heap.size] by simp))) (fun hHeld => ?_)
  clear hK K
  (try simp only [Act.put, List.setIfInBounds_toArray, List.set_cons_zero, List.set_cons_succ])
  (refine callL (i := 6) rfl (by kernel_rfl) (by kernel_rfl) (fun K hK => ?_); go_simp)
  go_at_call 26
  refine Calls.mono (l3Wrong_any x _ _ _ _ 14 w5 hx.at (Nat.le_refl _) hx.1 (by omega) d5 (by omega)) ?_
  rintro en w6 ⟨y, p, c, p', c', rfl, hy, d6, k6⟩
  have c6 := c5.trans k6
  have s6 := c6.size
  have e6 : Chg [] W1 w6 := c3.past c6 (by simp; omega)
  have HE6 := Lib.hid e6
  have HY := Lib.hid hy
  have HG6 := Lib.hid (show GX g _ Fg W1.heap.size w6 from ⟨HG3.out.1.chg c6 (fun z hz hm => by have := HGL.out z hz; simp at hm; omega), HG3.out.2⟩)
  have HM := Lib.hid (c6.mono (show ∀ y ∈ [W2.heap.size], y ∈ [w.heap.size, w.heap.size + 1, W2.heap.size] by simp))
  obtain ⟨⟨rg0, rg1⟩, gg0, gg1⟩ := HRG.out _ e6
  obtain ⟨⟨r0, r1, r2, r3, r4, r5, r6, r7, r8⟩, rz, rl⟩ := HRZ.out _ e6
  have g0 := rz 0
  have g1 := rz 1
  have g2 := rz 2
  have g3 := rz 3
  have g4 := rz 4
  have g5 := rz 5
  have g6 := rz 6
  have g7 := rz 7
  have g8 := rz 8
  clear rz
  clear hx hy cx1 dx1 c5 d5 k5 d6 k6 c6 e6
  go_wp2_with fail
  refine hK.out _ _ (HK.out _ (HM.out)) (fun hHeld => ?_)
  clear hK K
  (try simp only [Act.put, List.setIfInBounds_toArray, List.set_cons_zero, List.set_cons_succ])
  (refine callL (i := 7) rfl (by kernel_rfl) (by kernel_rfl) (fun K hK => ?_); go_simp)
  refine hK.out _ _ (HK.out _ ((HM.out.setCell (by simp) _).setCell (by simp) _)) (fun hHeld => ?_)
  clear hK K
  (try simp only [Act.put, List.setIfInBounds_toArray, List.set_cons_zero, List.set_cons_succ])
  (refine takeL (i := 8) (v := ?_) rfl (by kernel_rfl) (by kernel_rfl) (by kernel_rfl) (fun _ _ _ h => h) (Or.inl ⟨by kernel_rfl, ?_⟩) (by assumption) ?_; rotate_left; (focus (intro w hSw; (try dsimp only at hSw); go_simp; first | done | with_reducible rfl | fail "take")); (try simp only [Act.put, List.setIfInBounds_toArray, List.set_cons_zero, List.set_cons_succ]))
  have HN := Lib.hid (show Chg [w.heap.size, w.heap.size + 1, W2.heap.size] u3 ((w6.setCell ⟨w.heap.size, 0, none⟩ (.slice pg g.ns.length cg)).setCell ⟨w.heap.size, 1, none⟩ (.slice qg g.es.length dg)) from (HM.out.setCell (by simp) _).setCell (by simp) _)
  (refine callL (i := 9) rfl (by kernel_rfl) (by kernel_rfl) (fun K hK => ?_); go_simp)
  refine hK.out _ _ (HK.out _ (HN.out.trans (store9_chg.mono (by simp)))) (fun hHeld => ?_)
  clear hK K
  (try simp only [Act.put, List.setIfInBounds_toArray, List.set_cons_zero, List.set_cons_succ])
  refine wpAnyH_done (by kernel_rfl) ?_ _
  have hs2 : Chg [w.heap.size] w6 ((w6.setCell ⟨w.heap.size, 0, none⟩ (.slice pg g.ns.length cg)).setCell ⟨w.heap.size, 1, none⟩ (.slice qg g.es.length dg)) := ((Chg.refl _ _).setCell (by simp) _).setCell (by simp) _
  have HH := Lib.hid (show CaseGNE w (.returned (.tuple #[.agg #[.slice pg g.ns.length cg, .slice qg g.es.length dg], .int .i64 n0, .agg #[.bool y.n, .string y.v, .int .i64 y.l.op, .string y.l.a, .slice p y.l.ks.list.length c, .int .i64 y.c.op, .string y.c.a, .slice p' y.c.ks.list.length c', .int .i64 y.d]])) (store9 ((w6.setCell ⟨w.heap.size, 0, none⟩ (.slice pg g.ns.length cg)).setCell ⟨w.heap.size, 1, none⟩ (.slice qg g.es.length dg)) (w.heap.size + 1) y p c p' c') from
    ⟨g, _, Fg, n0, y, p, c, p', c', rfl, ((HG6.out.chg hs2 (by simp; omega)).chg store9_chg (by simp; omega)).lo (by omega), HNN.out, ((HY.out.chg hs2 (by simp; omega)).chg store9_chg (by simp; omega)).low (by omega),
      ((((HW1.out.trans HE6.out).past hs2 (by simp)).past store9_chg (by simp)).below (Nat.le_refl _) (by simp))⟩)
  clear hs2
  go_wp2_with fail
  exact bodyPost_ret (v := .tuple #[.agg #[.slice pg g.ns.length cg, .slice qg g.es.length dg], .int .i64 n0, .agg #[.bool y.n, .string y.v, .int .i64 y.l.op, .string y.l.a, .slice p y.l.ks.list.length c, .int .i64 y.c.op, .string y.c.a, .slice p' y.c.ks.list.length c', .int .i64 y.d]]) (by simp [results, Tryd.results11, go_sem, *]) rfl HH.out

end Go.Proofs.YtbbemeaojmfndaaDoor
