/- spec.l1Copy: a copy of a graph, whose two appends stand in one region that draws its order. -/
import Derived.Test.YtggnlbclpbkfhaaTurn
import Derived.Deep.RegionHeld3
import Derived.Deep.DeepCutAuto
import Derived.Deep.AppendLies
namespace Go.Proofs.Ytggnlbclpbkfhaa
open Go.RowKit

/-- A step that is an append, by whatever its run is known to give. -/
theorem step_append_src {P : Program} {w : World} {ops : Array Oper} {o : Oper} {a : Act} {K : Act → World → Prop} {Q : Exit → Act → World → Prop} {E : Prop} (hgd : o.guard = none) (s x : Operand) (t : TypeId)
    (ho : o.op = .call { callee := .builtin .append, args := #[s, x], argTypes := #[t, t] }) (vs vx : Value) (hs : a.eval s = vs) (hx : a.eval x = vx) (R : Value → World → Prop)
    (hr : ∃ v' w', (Builtin.append_ #[t, t] o.type #[vs, vx]).run P w = .ok v' w' ∧ R v' w') (h : ∀ v' w', R v' w' → K (a.put o.dst v') w') :
    if Region.wanted o (yielded ops a.tmps) = true then Oper.wp P o a w K Q else E := by
  have hw : Region.wanted o (yielded ops a.tmps) = true := by simp [Region.wanted, hgd]
  rw [if_pos hw]
  obtain ⟨v', w', hr, hR⟩ := hr
  unfold Oper.wp execOp
  simp only [ho, resolve, invoke, builtin, Sem.run_bind, Sem.run_pure, Result.andThen_ok, List.map_toArray, List.map_cons, List.map_nil, hs, hx, hr]
  exact h v' w' hR

/-- What a copying append gives: the copy, in memory made now. -/
def Cpd {α : Type} (sz : Nat) (enc : α → List Value) (xs : List α) (base : Nat) (W E : World) (v' : Value) (w' : World) : Prop :=
  ∃ p c F, v' = .slice p xs.length c ∧ OwnSl sz enc w' (.slice p xs.length c) xs F ∧ (∀ x ∈ F, E.heap.size ≤ x) ∧ Below E.heap.size E w' ∧ Below base W w'
theorem copy_run {α : Type} {sz : Nat} {enc : α → List Value} (hen : ∀ x, (enc x).length = sz) (xs : List α) (t ty e : TypeId) (i : TypeInfo) (z : Value) (bytes : Nat) (ht : Try.prog.underlying t = some (.slice e)) (hi : Try.prog.info? e = some i) (hz : i.zero = some z) (hsz : i.size = sz) (hby : i.bytes = bytes) 
    (hbytes : xs.length * bytes ≤ 140737488355328) (h63 : xs.length ≤ 3000000) (base : Nat) (W E : World) (hE : Below base W E) (hbe : base ≤ E.heap.size) (G : Addr) (p : Option Addr) (cap B : Nat) (hs : Sl sz enc B E (.slice p xs.length cap) xs) :
    ∃ v' w', (Builtin.append_ #[t, t] ty #[.slice (some G) 0 0, .slice p xs.length cap]).run Try.prog E = .ok v' w' ∧ Cpd sz enc xs base W E v' w' := by
  cases hx : xs with
  | nil =>
    subst hx
    refine ⟨.slice (some G) 0 0, E, ?_, some G, 0, [], rfl, ⟨_, _, _, rfl, rfl, Nat.le_refl _, Nat.zero_le _, .inl ⟨rfl, rfl⟩⟩, by simp, Below.refl _ _, hE⟩
    have hf : (Builtin.firstCells i.size 0 (.slice p 0 cap)).run Try.prog E = .ok #[] E := by
      cases p with
      | none => exact run_firstCells_none E i.size 0 0 cap
      | some a => exact run_firstCells_some E i.size 0 a 0 cap [] (by simp) (by simp)
    simp [Builtin.append_, run_underlying ht, sizeOf, typeInfo, hi, Builtin.lenOf, hf, storeCells]
  | cons x0 xs0 =>
    have hpos : 0 < xs.length := by rw [hx]; simp
    rw [← hx]
    clear hx
    obtain ⟨ad, rfl⟩ : ∃ ad, p = some ad := by
      cases p with
      | none => exact absurd hs.none (by omega)
      | some ad => exact ⟨ad, rfl⟩
    have hcells := Sl.cells hen hs ad rfl
    have hr := run_append_grow (P := Try.prog) E t ty e i z ht hi hz G 0 0 [] (by simp) (by simp) ad xs.length cap (flat enc xs) (by rw [flat_length hen, hsz]) hcells (by omega) (by omega)
      (by rw [Nat.zero_add, nextslicecap_zero hpos, hby]; omega)
    rw [Nat.zero_add] at hr
    obtain ⟨C, hC⟩ : ∃ C, C = grownCap E xs.length 0 e := ⟨_, rfl⟩
    have hCn : xs.length ≤ C := by rw [hC]; exact grownCap_ge E _ _ _
    have hCm : C ≤ maxLen := by rw [hC]; exact grownCap_le_maxLen E _ _ _ (by unfold maxLen; omega)
    rw [← hC] at hr
    refine ⟨_, _, hr, some ⟨E.heap.size, 0, none⟩, C, [E.heap.size], rfl, ⟨_, _, _, rfl, rfl, hCn, hCm, .inr ⟨E.heap.size, 0, rfl, rfl, by simp, fun o => ?_, fun k hk j u hu => ?_⟩⟩, by simp, (Below.refl _ E).drew.alloc (Nat.le_refl _) _, hE.drew.alloc hbe _⟩
    · exact World.frozen?_alloc_at _ _ _ _ rfl
    · refine (World.cell?_alloc_at (w := E.drew) _ _ E.heap.size _ rfl).trans ?_
      have hk2 := flat_at hen xs k hk j u hu
      rw [Nat.zero_add]
      have hlt : k * sz + j < (flat enc xs).length := (List.getElem?_eq_some_iff.1 hk2).1
      simp only [List.append_toArray, List.nil_append, Array.getElem?_append, List.size_toArray, hlt, if_true, List.getElem?_toArray]
      exact hk2

theorem boxes_frozen {w wk : World} {x0 x1 y0 y1 : Value} {T T' : TypeId} (h : Below (w.heap.size + 2) ((w.alloc (.cells #[x0, x1] T)).alloc (.cells #[y0, y1] T')) wk) (o : Nat) : wk.frozen? ⟨w.heap.size + 1, o, none⟩ = false :=
  (h.frozen (p := ⟨w.heap.size + 1, o, none⟩) (by show w.heap.size + 1 < w.heap.size + 2; omega)).trans (World.frozen?_alloc_at _ _ _ _ (by simp))

set_option maxRecDepth 100000 in
set_option maxHeartbeats 4000000 in
theorem l1Copy_any (g : Gr) (v : Value) (B : Nat) (w : World) (hg : g.At B w v) (hB : B ≤ w.heap.size) (h1 : g.ns.length ≤ 3000000) (h2 : g.es.length ≤ 3000000) :
    Calls Try.prog 50 #[v] w fun e w' => ∃ v' F1 F2, e = .returned v' ∧ g.Own w.heap.size w' v' F1 F2 ∧ Below w.heap.size w w' := by
  obtain ⟨a, b, rfl, ha, hb⟩ := hg
  obtain ⟨pa, ca, rfl⟩ := ha.form
  obtain ⟨pb, cb, rfl⟩ := hb.form
  obtain ⟨i1, hi1, hz1, hs1, hy1⟩ := info_parts infoNode
  obtain ⟨i2, hi2, hz2, hs2, hy2⟩ := info_parts infoEdge
  have HV := Lib.hid (((Below.refl w.heap.size w).alloc (by simp) (.cells #[.slice pa g.ns.length ca, .slice pb g.es.length cb] 26)).alloc (by simp) (.cells #[.slice none 0 0, .slice none 0 0] 26))
  have run1 := Lib.hid (fun E hE hbe G => copy_run (enc := Nd.cells) (sz := 2) (fun _ => rfl) g.ns 23 23 35 i1 _ 24 Try.underlying23 hi1 hz1 hs1 hy1 (by omega) h1 (w.heap.size + 2) ((w.alloc (.cells #[.slice pa g.ns.length ca, .slice pb g.es.length cb] 26)).alloc (.cells #[.slice none 0 0, .slice none 0 0] 26)) E hE hbe G pa ca B (ha.below ((HV.out.trans (hE.mono (by omega))).mono hB)))
  have run2 := Lib.hid (fun E hE hbe G => copy_run (enc := Ed.cells) (sz := 4) (fun _ => rfl) g.es 24 24 28 i2 _ 40 Try.underlying24 hi2 hz2 hs2 hy2 (by omega) h2 (w.heap.size + 2) ((w.alloc (.cells #[.slice pa g.ns.length ca, .slice pb g.es.length cb] 26)).alloc (.cells #[.slice none 0 0, .slice none 0 0] 26)) E hE hbe G pb cb B (hb.below ((HV.out.trans (hE.mono (by omega))).mono hB)))
  have HA0 := Below.refl (w.heap.size + 2) ((w.alloc (.cells #[.slice pa g.ns.length ca, .slice pb g.es.length cb] 26)).alloc (.cells #[.slice none 0 0, .slice none 0 0] 26))
  have JJ := Lib.hid ((Below.refl (w.heap.size + 1) (w.alloc (.cells #[.slice pa g.ns.length ca, .slice pb g.es.length cb] 26))).alloc (by simp) (.cells #[.slice none 0 0, .slice none 0 0] 26))
  clear ha hb hi1 hz1 hs1 hy1 hi2 hz2 hs2 hy2
  go_enter Try.func50, Try.ntmps50
  go_wp2_with fail
  go_region_held3 (fun w' => w'.cell? ⟨w.heap.size, 0, none⟩ = some (.slice pa g.ns.length ca) ∧ w'.cell? ⟨w.heap.size, 1, none⟩ = some (.slice pb g.es.length cb))
    (exact (one_box (T := 26) (by repeat (first | assumption | exact Below.refl _ _ | refine Below.drew ?_ | refine Below.setCell ?_ (by first | omega | (simp; done) | (simp; omega)) _ | refine Below.alloc ?_ (by first | omega | (simp; omega) | simp) _))).2)
    (first
      | (refine step_append_src (by rfl) (.tmp 3) (.tmp 5) 23 (by rfl) _ _ (by rfl) (by rfl) _ (run1.out _ (by repeat (first | assumption | exact Below.refl _ _ | refine Below.drew ?_ | refine Below.alloc ?_ (by first | omega | (simp; omega) | simp) _)) (by first | omega | (simp; omega) | simp) _) ?_; intro v1 w1 hv1; obtain ⟨p1, c1, F1, rfl, ho1, hf1, hb1, hk1⟩ := hv1; obtain ⟨y1, y2, y3, y4, y5⟩ := two_boxes hk1; have y6 := boxes_frozen hk1 0; have y7 := boxes_frozen hk1 1; have jk1 := JJ.out.trans (hk1.mono (Nat.le_succ _)); have O1 := Lib.hid ho1; have G1 := Lib.hid hf1; have L1 := Lib.hid hb1; clear ho1 hf1 hb1)
      | (refine step_append_src (by rfl) (.tmp 7) (.tmp 9) 24 (by rfl) _ _ (by rfl) (by rfl) _ (run2.out _ (by repeat (first | assumption | exact Below.refl _ _ | refine Below.drew ?_ | refine Below.alloc ?_ (by first | omega | (simp; omega) | simp) _)) (by first | omega | (simp; omega) | simp) _) ?_; intro v2 w2 hv2; obtain ⟨p2, c2, F2, rfl, ho2, hf2, hb2, hk2⟩ := hv2; obtain ⟨z1, z2, z3, z4, z5⟩ := two_boxes hk2; have z6 := boxes_frozen hk2 0; have z7 := boxes_frozen hk2 1; have jk2 := JJ.out.trans (hk2.mono (Nat.le_succ _)); have O2 := Lib.hid ho2; have G2 := Lib.hid hf2; have L2 := Lib.hid hb2; clear ho2 hf2 hb2))
  all_goals go_wp2_with fail
  all_goals first
    | (have hch : Chg [w.heap.size + 1] w2 ((w2.setCell ⟨w.heap.size + 1, 0, none⟩ (.slice p1 g.ns.length c1)).setCell ⟨w.heap.size + 1, 1, none⟩ (.slice p2 g.es.length c2)) := ((Chg.refl _ w2).setCell (by simp) _).setCell (by simp) _
       refine bodyPost_ret (v := .agg #[.slice p1 g.ns.length c1, .slice p2 g.es.length c2]) (by simp [results, Try.results50, go_sem, z4, z5]) rfl ⟨_, F1, F2, rfl, ?_, ((HV.out.trans (hk2.mono (by omega))).setCell (by simp) _).setCell (by simp) _⟩
       have l1 := O1.out.lt
       have l2 := O2.out.lt
       have m1 := G1.out
       have m2 := G2.out
       simp at m1 m2
       refine ⟨_, _, rfl, (O1.out.below (Below.trans ?_ (L2.out.mono ?_))).chg hch ?_, O2.out.chg hch ?_, ?_, ?_, ?_⟩
       all_goals first
         | (intro x hx; have := m1 x hx; simp; omega)
         | (intro x hx; have := m2 x hx; simp; omega)
         | (intro x hx; have := m1 x hx; omega)
         | (intro x hx; have := m2 x hx; omega)
         | (intro x hx hx2; have := l1 x hx; have := m2 x hx2; omega)
         | (intro x hx hx2; have := m1 x hx; have := l2 x hx2; omega)
         | (simp; done)
         | (simp; omega)
         | omega
         | exact Nat.le_refl _
         | (repeat (first | exact Below.refl _ _ | refine Below.drew ?_ | refine Below.alloc ?_ (by first | omega | (simp; omega) | simp) _)))
    | (have hch : Chg [w.heap.size + 1] w1 ((w1.setCell ⟨w.heap.size + 1, 0, none⟩ (.slice p1 g.ns.length c1)).setCell ⟨w.heap.size + 1, 1, none⟩ (.slice p2 g.es.length c2)) := ((Chg.refl _ w1).setCell (by simp) _).setCell (by simp) _
       refine bodyPost_ret (v := .agg #[.slice p1 g.ns.length c1, .slice p2 g.es.length c2]) (by simp [results, Try.results50, go_sem, y4, y5]) rfl ⟨_, F1, F2, rfl, ?_, ((HV.out.trans (hk1.mono (by omega))).setCell (by simp) _).setCell (by simp) _⟩
       have l1 := O1.out.lt
       have l2 := O2.out.lt
       have m1 := G1.out
       have m2 := G2.out
       simp at m1 m2
       refine ⟨_, _, rfl, O1.out.chg hch ?_, (O2.out.below (Below.trans ?_ (L1.out.mono ?_))).chg hch ?_, ?_, ?_, ?_⟩
       all_goals first
         | (intro x hx; have := m1 x hx; simp; omega)
         | (intro x hx; have := m2 x hx; simp; omega)
         | (intro x hx; have := m1 x hx; omega)
         | (intro x hx; have := m2 x hx; omega)
         | (intro x hx hx2; have := l1 x hx; have := m2 x hx2; omega)
         | (intro x hx hx2; have := m1 x hx; have := l2 x hx2; omega)
         | (simp; done)
         | (simp; omega)
         | omega
         | exact Nat.le_refl _
         | (repeat (first | exact Below.refl _ _ | refine Below.drew ?_ | refine Below.alloc ?_ (by first | omega | (simp; omega) | simp) _)))
end Go.Proofs.Ytggnlbclpbkfhaa
