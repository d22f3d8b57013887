/- Contracts of szGraph, toGraph, eqGraph. -/
import Derived.Test.YthpclghhlodnhaaDoorGEq
namespace Go.Proofs.YthpclghhlodnhaaDoor
open Go.RowKit

def Gr.need (g : Gr) : Nat := g.ns.length + sumNode g.ns + (g.es.length + sumEdge g.es)
/-- The value of a struct Graph in memory of the call's own, from block lo on; its two slices share none. -/
def Gr.Own (g : Gr) (lo : Nat) (w : World) (v : Value) (F1 F2 : List Nat) : Prop :=
  ∃ a b, v = .agg #[a, b] ∧ OwnSl 2 Nd.cells w a g.ns F1 ∧ OwnSl 4 Ed.cells w b g.es F2 ∧ (∀ x ∈ F1, lo ≤ x) ∧ (∀ x ∈ F2, lo ≤ x) ∧ (∀ x ∈ F1, x ∉ F2)
theorem Gr.Own.at {g : Gr} {lo : Nat} {w : World} {v : Value} {F1 F2 : List Nat} (h : g.Own lo w v F1 F2) : g.At w.heap.size w v := by
  obtain ⟨a, b, h1, h2, h3, _⟩ := h
  exact ⟨a, b, h1, h2.sl, h3.sl⟩
theorem Gr.Own.chg {g : Gr} {lo : Nat} {w w' : World} {v : Value} {F1 F2 G : List Nat} (h : g.Own lo w v F1 F2) (hc : Chg G w w') (h1 : ∀ x ∈ F1, x ∉ G) (h2 : ∀ x ∈ F2, x ∉ G) : g.Own lo w' v F1 F2 := by
  obtain ⟨a, b, e1, e2, e3, e4, e5, e6⟩ := h
  exact ⟨a, b, e1, e2.chg hc h1, e3.chg hc h2, e4, e5, e6⟩
theorem Gr.Own.below {g : Gr} {lo : Nat} {w w' : World} {v : Value} {F1 F2 : List Nat} (h : g.Own lo w v F1 F2) (hc : Below w.heap.size w w') : g.Own lo w' v F1 F2 :=
  h.chg (Chg.of_below hc []) (by simp) (by simp)
theorem Gr.Own.mono {g : Gr} {lo lo' : Nat} {w : World} {v : Value} {F1 F2 : List Nat} (h : g.Own lo w v F1 F2) (hl : lo' ≤ lo) : g.Own lo' w v F1 F2 := by
  obtain ⟨a, b, e1, e2, e3, e4, e5, e6⟩ := h
  exact ⟨a, b, e1, e2, e3, fun x hx => Nat.le_trans hl (e4 x hx), fun x hx => Nat.le_trans hl (e5 x hx), e6⟩
theorem Gr.Own.lt {g : Gr} {lo : Nat} {w : World} {v : Value} {F1 F2 : List Nat} (h : g.Own lo w v F1 F2) : (∀ x ∈ F1, x < w.heap.size) ∧ (∀ x ∈ F2, x < w.heap.size) := by
  obtain ⟨a, b, e1, e2, e3, e4, e5, e6⟩ := h
  exact ⟨e2.lt, e3.lt⟩

set_option maxHeartbeats 1000000 in
theorem szGraph_any (g : Gr) (v : Value) (left : Int) (B : Nat) (w : World) (hg : g.At B w v) (hB : B ≤ w.heap.size) (h0 : 0 ≤ left) (h1 : left ≤ 1048576) (hok : g.Ok) :
    Calls Tryd.prog 5 #[v, .int .i64 left] w (SzPost left g.need w.heap.size w) := by
  obtain ⟨a, b, rfl, ha, hb⟩ := hg
  go_enter Tryd.func5, Tryd.ntmps5
  go_wp2_with fail
  refine (szNodeS_any g.ns a left B _ (ha.below ((Below.refl B w).alloc hB _)) (by simp; omega) h0 h1 hok.1).mono ?_
  rintro e w1 ⟨r, rfl, hr, hb1⟩
  have hs1 : w.heap.size < w1.heap.size := by have := hb1.size; simp at this; omega
  have c1 := new_cell hb1 (j := 1) rfl
  have HB1 := Lib.hid (below_past hb1)
  clear hb1
  rcases hr with hr | ⟨hr0, hr⟩
  · have hneg : r < 0 := by omega
    clear hr
    go_wp2_with fail
    go_ret
    exact ⟨-1, rfl, .inl rfl, HB1.out⟩
  · have hr1 : r ≤ 1048576 := by omega
    have HR := Lib.hid hr
    clear hr
    go_wp2_with fail
    refine (szEdgeS_any g.es b r B _ (hb.below (HB1.out.mono hB)) (by omega) hr0 hr1 hok.2).mono ?_
    rintro e w2 ⟨r2, rfl, hr2, hb2⟩
    have HB2 := Lib.hid (HB1.out.trans (hb2.mono (by omega)))
    clear hb2
    rcases hr2 with hr2 | ⟨hr20, hr2⟩
    · have hneg : r2 < 0 := by omega
      clear hr2
      go_wp2_with fail
      go_ret
      exact ⟨-1, rfl, .inl rfl, HB2.out⟩
    · have HR2 := Lib.hid (show r2 = left - g.need by have := HR.out; unfold Gr.need; omega)
      clear hr2
      go_wp2_with fail
      go_ret
      exact ⟨r2, rfl, .inr ⟨hr20, HR2.out⟩, HB2.out⟩

set_option maxHeartbeats 1000000 in
theorem toGraph_any (g : Gr) (v : Value) (B : Nat) (w : World) (hg : g.At B w v) (hB : B ≤ w.heap.size) (h1 : g.ns.length ≤ 1048576) (h2 : g.es.length ≤ 1048576) :
    Calls Tryd.prog 8 #[v] w fun e w' => ∃ v' F1 F2, e = .returned v' ∧ g.Own w.heap.size w' v' F1 F2 ∧ Below w.heap.size w w' := by
  obtain ⟨a, b, rfl, ha, hb⟩ := hg
  go_enter Tryd.func8, Tryd.ntmps8
  go_wp2_with fail
  have HW := Lib.hid ((((Below.refl B w).alloc hB (.cells #[a, b] 25)).alloc (by simp; omega) (.cells #[.slice none 0 0, .slice none 0 0] 37)).alloc (by simp; omega) (.cells #[.slice none 0 0, .slice none 0 0] 37))
  have HV := Lib.hid ((((Below.refl w.heap.size w).alloc (by simp) (.cells #[a, b] 25)).alloc (by simp) (.cells #[.slice none 0 0, .slice none 0 0] 37)).alloc (by simp <;> omega) (.cells #[.slice none 0 0, .slice none 0 0] 37))
  refine (toNodeS_any g.ns a B _ (ha.below HW.out) (by simp; omega) h1).mono ?_
  rintro e w1 ⟨v1, F1, rfl, ho1, hf1, hb1⟩
  have hs1 : w.heap.size + 3 ≤ w1.heap.size := by have := hb1.size; simp at this; omega
  have p1 : w1.cell? ⟨w.heap.size, 1, none⟩ = some b := (hb1.cell (by simp; omega)).trans (by simp [go_sem])
  have q0 : w1.cell? ⟨w.heap.size + 1, 0, none⟩ = some (.slice none 0 0) := (hb1.cell (by simp)).trans (by simp [go_sem])
  have q1 : w1.cell? ⟨w.heap.size + 1, 1, none⟩ = some (.slice none 0 0) := (hb1.cell (by simp)).trans (by simp [go_sem])
  have q2 : w1.frozen? ⟨w.heap.size + 1, 0, none⟩ = false := (hb1.frozen (by simp)).trans (by simp [go_sem])
  have q3 : w1.frozen? ⟨w.heap.size + 1, 1, none⟩ = false := (hb1.frozen (by simp)).trans (by simp [go_sem])
  have r0 : w1.cell? ⟨w.heap.size + 1 + 1, 0, none⟩ = some (.slice none 0 0) := (hb1.cell (by simp)).trans (by simp [go_sem])
  have r1 : w1.cell? ⟨w.heap.size + 1 + 1, 1, none⟩ = some (.slice none 0 0) := (hb1.cell (by simp)).trans (by simp [go_sem])
  have r2 : w1.frozen? ⟨w.heap.size + 1 + 1, 0, none⟩ = false := (hb1.frozen (by simp)).trans (by simp [go_sem])
  have r3 : w1.frozen? ⟨w.heap.size + 1 + 1, 1, none⟩ = false := (hb1.frozen (by simp)).trans (by simp [go_sem])
  have HB1 := Lib.hid (HV.out.trans (hb1.mono (by simp; omega)))
  have HO1 := Lib.hid ho1
  have HF1 := Lib.hid (show ∀ x ∈ F1, w.heap.size + 3 ≤ x from fun x hx => by have := hf1 x hx; simp at this; omega)
  clear hf1
  have HC1 := Lib.hid (HW.out.trans (hb1.mono (by simp; omega)))
  clear hb1 ho1
  obtain ⟨pn, cn, rfl⟩ := HO1.out.sl.form
  go_wp2_with fail
  refine (toEdgeS_any g.es b B _ (hb.below (HC1.out.setCell (by simp; omega) _)) (by simp; omega) h2).mono ?_
  rintro e w2 ⟨v2, F2, rfl, ho2, hf2, hb2⟩
  have hz : (w1.setCell ⟨w.heap.size + 1 + 1, 0, none⟩ (.slice pn g.ns.length cn)).heap.size = w1.heap.size := by simp
  have hs2 : w1.heap.size ≤ w2.heap.size := by have := hb2.size; simp at this; omega
  have q0' : w2.cell? ⟨w.heap.size + 1, 0, none⟩ = some (.slice none 0 0) := ((hb2.cell (by simp; omega)).trans (set_far _ _ _ _ _ _ (by omega))).trans q0
  have q1' : w2.cell? ⟨w.heap.size + 1, 1, none⟩ = some (.slice none 0 0) := ((hb2.cell (by simp; omega)).trans (set_far _ _ _ _ _ _ (by omega))).trans q1
  have q2' : w2.frozen? ⟨w.heap.size + 1, 0, none⟩ = false := ((hb2.frozen (by simp; omega)).trans (by simp [go_sem])).trans q2
  have q3' : w2.frozen? ⟨w.heap.size + 1, 1, none⟩ = false := ((hb2.frozen (by simp; omega)).trans (by simp [go_sem])).trans q3
  have r0' : w2.cell? ⟨w.heap.size + 1 + 1, 0, none⟩ = some (.slice pn g.ns.length cn) := (hb2.cell (by simp; omega)).trans (set_same _ _ _ _ _ r0)
  have r1' : w2.cell? ⟨w.heap.size + 1 + 1, 1, none⟩ = some (.slice none 0 0) := ((hb2.cell (by simp; omega)).trans (set_near _ _ _ _ _ (by omega))).trans r1
  have r2' : w2.frozen? ⟨w.heap.size + 1 + 1, 0, none⟩ = false := ((hb2.frozen (by simp; omega)).trans (by simp [go_sem])).trans r2
  have r3' : w2.frozen? ⟨w.heap.size + 1 + 1, 1, none⟩ = false := ((hb2.frozen (by simp; omega)).trans (by simp [go_sem])).trans r3
  have HB2 := Lib.hid ((HB1.out.setCell (p := ⟨w.heap.size + 1 + 1, 0, none⟩) (by simp; omega) (.slice pn g.ns.length cn)).trans (hb2.mono (by simp; omega)))
  have HD2 := Lib.hid hb2
  have HO2 := Lib.hid ho2
  have HF2 := Lib.hid (show ∀ x ∈ F2, w1.heap.size ≤ x from fun x hx => by have := hf2 x hx; simp at this; omega)
  clear hf2
  clear hb2 ho2 p1 q0 q1 q2 q3 r0 r1 r2 r3
  obtain ⟨pe, ce, rfl⟩ := HO2.out.sl.form
  go_wp2_with fail
  refine bodyPost_ret (v := .agg #[.slice pn g.ns.length cn, .slice pe g.es.length ce]) (by simp [results, Tryd.results8, go_sem, q0', q1']) rfl ⟨_, F1, F2, rfl, ?_, ((HB2.out.setCell (by simp; omega) _).setCell (by simp) _).setCell (by simp) _⟩
  have g1 := fun x hx => HF1.out x hx
  have g2 := fun x hx => HF2.out x hx
  have hl1 := HO1.out.lt
  have hc1 : Chg [w.heap.size + 1 + 1] w1 w2 := ((Chg.refl [w.heap.size + 1 + 1] w1).setCell (by simp) _).then_below HD2.out
  have hc2 : Chg [w.heap.size + 1 + 1, w.heap.size + 1] w2 (((w2.setCell ⟨w.heap.size + 1 + 1, 1, none⟩ (.slice pe g.es.length ce)).setCell ⟨w.heap.size + 1, 0, none⟩ (.slice pn g.ns.length cn)).setCell ⟨w.heap.size + 1, 1, none⟩ (.slice pe g.es.length ce)) :=
    (((Chg.refl _ w2).setCell (by simp) _).setCell (by simp) _).setCell (by simp) _
  refine ⟨_, _, rfl, (HO1.out.chg hc1 ?_).chg hc2 ?_, HO2.out.chg hc2 ?_, ?_, ?_, ?_⟩
  · intro x hx; have := g1 x hx; simp; omega
  · intro x hx; have := g1 x hx; simp; omega
  · intro x hx; have := g2 x hx; simp; omega
  · intro x hx; have := g1 x hx; omega
  · intro x hx; have := g2 x hx; omega
  · intro x hx hx2; have := hl1 x hx; have := g2 x hx2; omega

set_option maxHeartbeats 1000000 in
theorem eqGraph_any (g : Gr) (v v' : Value) (B : Nat) (w : World) (hg : g.At B w v) (hg' : g.At B w v') (hB : B ≤ w.heap.size) :
    Calls Tryd.prog 11 #[v, v'] w fun e w' => e = .returned (.bool true) ∧ Below w.heap.size w w' := by
  obtain ⟨a, b, rfl, ha, hb⟩ := hg
  obtain ⟨a', b', rfl, ha', hb'⟩ := hg'
  go_enter Tryd.func11, Tryd.ntmps11
  go_wp2_with fail
  have HW := Lib.hid (((Below.refl B w).alloc hB (.cells #[a, b] 37)).alloc (by simp; omega) (.cells #[a', b'] 37))
  refine (eqNodeS_any g.ns a a' B _ (ha.below HW.out) (ha'.below HW.out) (by simp; omega)).mono ?_
  rintro e w1 ⟨rfl, hb1⟩
  have hs1 : w.heap.size + 2 ≤ w1.heap.size := by have := hb1.size; simp at this; omega
  have p1 : w1.cell? ⟨w.heap.size, 1, none⟩ = some b := (hb1.cell (by simp; omega)).trans (by simp [go_sem])
  have q1 : w1.cell? ⟨w.heap.size + 1, 1, none⟩ = some b' := (hb1.cell (by simp)).trans (by simp [go_sem])
  have HB1 := Lib.hid ((((Below.refl w.heap.size w).alloc (by simp) (.cells #[a, b] 37)).alloc (by simp) (.cells #[a', b'] 37)).trans (hb1.mono (by simp; omega)))
  clear hb1
  go_wp2_with fail
  refine (eqEdgeS_any g.es b b' B _ (hb.below (HB1.out.mono hB)) (hb'.below (HB1.out.mono hB)) (by omega)).mono ?_
  rintro e w2 ⟨rfl, hb2⟩
  have HB2 := Lib.hid (HB1.out.trans (hb2.mono (by omega)))
  clear hb2
  go_wp2_with fail
  go_ret
  exact ⟨rfl, HB2.out⟩
end Go.Proofs.YthpclghhlodnhaaDoor
