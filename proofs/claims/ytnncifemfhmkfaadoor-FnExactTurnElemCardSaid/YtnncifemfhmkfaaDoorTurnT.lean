/- Elements turned, in the model: spec.l3Turn, TurnElem. -/
import Derived.Test.YtnncifemfhmkfaaDoorTurnS
namespace Go.Proofs.YtnncifemfhmkfaaDoor
open Go.RowKit

set_option maxRecDepth 100000 in
set_option maxHeartbeats 8000000 in
theorem l3Turn_any (e : El) (u : Value) (B : Nat) (w : World) (hu : e.At B w u) (hB : B ≤ w.heap.size) (h1 : e.l.ks.size ≤ 2000000) (h2 : e.c.ks.size ≤ 2000000) :
    Calls Tryd.prog 25 #[u] w fun en w' => ∃ v' F, en = .returned v' ∧ e.turn.Has v' F w' ∧ (∀ x ∈ F, w.heap.size ≤ x) ∧ Below w.heap.size w w' := by
  obtain ⟨p, cap, p', cap', rfl, hl, hc⟩ := hu.form
  have HU := Lib.hid hu
  clear hu hl hc
  have H12 := Lib.hid (And.intro h1 h2)
  clear h1 h2
  obtain ⟨W0, eW⟩ : ∃ W0, W0 = (w.alloc (.cells #[.bool e.n, .string e.v, .int .i64 e.l.op, .string e.l.a, .slice p e.l.ks.list.length cap, .int .i64 e.c.op, .string e.c.a, .slice p' e.c.ks.list.length cap', .int .i64 e.d] 32)).alloc (.cells #[.bool false, .string ⟨#[]⟩, .int .i64 0, .string ⟨#[]⟩, .slice none 0 0, .int .i64 0, .string ⟨#[]⟩, .slice none 0 0, .int .i64 0] 32) := ⟨_, rfl⟩
  have HV := Lib.hid (show Below w.heap.size w W0 by rw [eW]; exact ((Below.refl w.heap.size w).alloc (by simp) _).alloc (by simp) _)
  have hs0 : w.heap.size + 2 ≤ W0.heap.size := by rw [eW]; simp
  have HK := Lib.hid (show ∀ wk, Below (w.heap.size + 2) W0 wk → w.heap.size + 2 ≤ wk.heap.size ∧ wk.cell? ⟨w.heap.size, 0, none⟩ = some (.bool e.n) ∧ wk.cell? ⟨w.heap.size, 1, none⟩ = some (.string e.v) ∧ wk.cell? ⟨w.heap.size, 2, none⟩ = some (.int .i64 e.l.op) ∧ wk.cell? ⟨w.heap.size, 3, none⟩ = some (.string e.l.a) ∧ wk.cell? ⟨w.heap.size, 4, none⟩ = some (.slice p e.l.ks.list.length cap) ∧ wk.cell? ⟨w.heap.size, 5, none⟩ = some (.int .i64 e.c.op) ∧ wk.cell? ⟨w.heap.size, 6, none⟩ = some (.string e.c.a) ∧ wk.cell? ⟨w.heap.size, 7, none⟩ = some (.slice p' e.c.ks.list.length cap') ∧ wk.cell? ⟨w.heap.size, 8, none⟩ = some (.int .i64 e.d) ∧ wk.cell? ⟨w.heap.size + 1, 0, none⟩ = some (.bool false) ∧ wk.cell? ⟨w.heap.size + 1, 1, none⟩ = some (.string ⟨#[]⟩) ∧ wk.cell? ⟨w.heap.size + 1, 2, none⟩ = some (.int .i64 0) ∧ wk.cell? ⟨w.heap.size + 1, 3, none⟩ = some (.string ⟨#[]⟩) ∧ wk.cell? ⟨w.heap.size + 1, 4, none⟩ = some (.slice none 0 0) ∧ wk.cell? ⟨w.heap.size + 1, 5, none⟩ = some (.int .i64 0) ∧ wk.cell? ⟨w.heap.size + 1, 6, none⟩ = some (.string ⟨#[]⟩) ∧ wk.cell? ⟨w.heap.size + 1, 7, none⟩ = some (.slice none 0 0) ∧ wk.cell? ⟨w.heap.size + 1, 8, none⟩ = some (.int .i64 0) ∧ wk.frozen? ⟨w.heap.size + 1, 0, none⟩ = false ∧ wk.frozen? ⟨w.heap.size + 1, 1, none⟩ = false ∧ wk.frozen? ⟨w.heap.size + 1, 2, none⟩ = false ∧ wk.frozen? ⟨w.heap.size + 1, 3, none⟩ = false ∧ wk.frozen? ⟨w.heap.size + 1, 4, none⟩ = false ∧ wk.frozen? ⟨w.heap.size + 1, 5, none⟩ = false ∧ wk.frozen? ⟨w.heap.size + 1, 6, none⟩ = false ∧ wk.frozen? ⟨w.heap.size + 1, 7, none⟩ = false ∧ wk.frozen? ⟨w.heap.size + 1, 8, none⟩ = false from
    fun wk hk => by rw [eW] at hk; exact ⟨by have := hk.size; simp at this; omega, keepc hk (by omega) (by simp [go_sem]), keepc hk (by omega) (by simp [go_sem]), keepc hk (by omega) (by simp [go_sem]), keepc hk (by omega) (by simp [go_sem]), keepc hk (by omega) (by simp [go_sem]), keepc hk (by omega) (by simp [go_sem]), keepc hk (by omega) (by simp [go_sem]), keepc hk (by omega) (by simp [go_sem]), keepc hk (by omega) (by simp [go_sem]), keepc hk (by omega) (by simp [go_sem]), keepc hk (by omega) (by simp [go_sem]), keepc hk (by omega) (by simp [go_sem]), keepc hk (by omega) (by simp [go_sem]), keepc hk (by omega) (by simp [go_sem]), keepc hk (by omega) (by simp [go_sem]), keepc hk (by omega) (by simp [go_sem]), keepc hk (by omega) (by simp [go_sem]), keepc hk (by omega) (by simp [go_sem]), (hk.frozen (by simp)).trans (by simp [go_sem]), (hk.frozen (by simp)).trans (by simp [go_sem]), (hk.frozen (by simp)).trans (by simp [go_sem]), (hk.frozen (by simp)).trans (by simp [go_sem]), (hk.frozen (by simp)).trans (by simp [go_sem]), (hk.frozen (by simp)).trans (by simp [go_sem]), (hk.frozen (by simp)).trans (by simp [go_sem]), (hk.frozen (by simp)).trans (by simp [go_sem]), (hk.frozen (by simp)).trans (by simp [go_sem])⟩)
  have HA := Lib.hid (Below.refl (w.heap.size + 2) W0)
  have HEA := Lib.hid (show ∀ wk, Below (w.heap.size + 2) W0 wk → e.At B wk (.agg #[.bool e.n, .string e.v, .int .i64 e.l.op, .string e.l.a, .slice p e.l.ks.list.length cap, .int .i64 e.c.op, .string e.c.a, .slice p' e.c.ks.list.length cap', .int .i64 e.d]) from fun wk hk => HU.out.below ((HV.out.trans (hk.mono (by omega))).mono hB) (Nat.le_refl _))
  have EW := Lib.hid eW
  clear eW HU
  go_enter Tryd.func25, Tryd.ntmps25
  go_wp2_with fail
  rw [← EW.out]
  refine (l3Copy_any e _ B _ (HEA.out _ HA.out) (by omega) H12.out.1 H12.out.2).mono ?_
  rintro en w1 ⟨v1, F, rfl, hh, hF, hb1⟩
  have hz1 := hb1.size
  have HA := Lib.hid (HA.out.trans (hb1.mono (by omega)))
  have HF := Lib.hid (show ∀ x ∈ F, w.heap.size + 2 ≤ x ∧ x < w1.heap.size from fun x hx => ⟨by have := hF x hx; omega, hh.lt x hx⟩)
  obtain ⟨pl, cl, pc, cc, rfl, _, _⟩ := hh.at.form
  have HH := Lib.hid hh
  clear hh hF hb1
  obtain ⟨hz, c0, c1, c2, c3, c4, c5, c6, c7, c8, d0, d1, d2, d3, d4, d5, d6, d7, d8, f0, f1, f2, f3, f4, f5, f6, f7, f8⟩ := HK.out _ HA.out
  have hq1 : w.heap.size < w1.heap.size := by omega
  have hq2 : w.heap.size + 1 < w1.heap.size := by omega
  have HT := Lib.hid (And.intro (fun h : (e.d == 1) = true => show turnD e.d = 2 by rw [beq_iff_eq.1 h]; rfl) (And.intro (fun h : (e.d == 2) = true => show turnD e.d = 1 by rw [beq_iff_eq.1 h]; rfl) (fun (h : (e.d == 1) = false) (h2 : (e.d == 2) = false) => turnD_same (beq_eq_false_iff_ne.1 h) (beq_eq_false_iff_ne.1 h2))))
  have hw1 : (e.d == 1) = true → IntKind.i64.wrap (3 - e.d) = 2 := fun h => by rw [beq_iff_eq.1 h]; rfl
  have hw2 : (e.d == 2) = true → IntKind.i64.wrap (3 - e.d) = 1 := fun h => by rw [beq_iff_eq.1 h]; rfl
  cases hb1 : (e.d == 1) with
  | true =>
    have HT := Lib.hid (HT.out.1 hb1)
    have hw := hw1 hb1
    clear hw1 hw2
    go_wp2_with fail
    have hq := HV.out.trans (HA.out.mono (show w.heap.size ≤ w.heap.size + 2 by omega))
    refine bodyPost_ret (v := .agg #[.bool e.n, .string e.v, .int .i64 e.l.op, .string e.l.a, .slice pl e.l.ks.list.length cl, .int .i64 e.c.op, .string e.c.a, .slice pc e.c.ks.list.length cc, .int .i64 2]) (by simp [results, Tryd.results25, go_sem, hq2, d0, d1, d2, d3, d4, d5, d6, d7, d8]) rfl ⟨_, F, rfl, HT.out ▸ (HH.out.chg (G := [w.heap.size + 1]) (Chg.trans ((((((((((Chg.refl _ w1).setCell (by simp) _).setCell (by simp) _).setCell (by simp) _).setCell (by simp) _).setCell (by simp) _).setCell (by simp) _).setCell (by simp) _).setCell (by simp) _).setCell (by simp) _) (Chg.of_below ((Below.refl _ _).alloc (Nat.le_refl _) _) _)) (fun x hx => by have := HF.out x hx; simp; omega)).turned, fun x hx => by have := HF.out x hx; omega, ((((((((((hq).setCell (by simp) _).setCell (by simp) _).setCell (by simp) _).setCell (by simp) _).setCell (by simp) _).setCell (by simp) _).setCell (by simp) _).setCell (by simp) _).setCell (by simp) _).alloc (by simp; omega) _⟩
  | false =>
    cases hb2 : (e.d == 2) with
    | true =>
      have HT := Lib.hid (HT.out.2.1 hb2)
      have hw := hw2 hb2
      clear hw1 hw2
      go_wp2_with fail
      have hq := HV.out.trans (HA.out.mono (show w.heap.size ≤ w.heap.size + 2 by omega))
      refine bodyPost_ret (v := .agg #[.bool e.n, .string e.v, .int .i64 e.l.op, .string e.l.a, .slice pl e.l.ks.list.length cl, .int .i64 e.c.op, .string e.c.a, .slice pc e.c.ks.list.length cc, .int .i64 1]) (by simp [results, Tryd.results25, go_sem, hq2, d0, d1, d2, d3, d4, d5, d6, d7, d8]) rfl ⟨_, F, rfl, HT.out ▸ (HH.out.chg (G := [w.heap.size + 1]) (Chg.trans ((((((((((Chg.refl _ w1).setCell (by simp) _).setCell (by simp) _).setCell (by simp) _).setCell (by simp) _).setCell (by simp) _).setCell (by simp) _).setCell (by simp) _).setCell (by simp) _).setCell (by simp) _) (Chg.of_below ((Below.refl _ _).alloc (Nat.le_refl _) _) _)) (fun x hx => by have := HF.out x hx; simp; omega)).turned, fun x hx => by have := HF.out x hx; omega, ((((((((((hq).setCell (by simp) _).setCell (by simp) _).setCell (by simp) _).setCell (by simp) _).setCell (by simp) _).setCell (by simp) _).setCell (by simp) _).setCell (by simp) _).setCell (by simp) _).alloc (by simp; omega) _⟩
    | false =>
      have HT := Lib.hid (HT.out.2.2 hb1 hb2)
      clear hw1 hw2
      go_wp2_with fail
      have hq := HV.out.trans (HA.out.mono (show w.heap.size ≤ w.heap.size + 2 by omega))
      refine bodyPost_ret (v := .agg #[.bool e.n, .string e.v, .int .i64 e.l.op, .string e.l.a, .slice pl e.l.ks.list.length cl, .int .i64 e.c.op, .string e.c.a, .slice pc e.c.ks.list.length cc, .int .i64 e.d]) (by simp [results, Tryd.results25, go_sem, hq2, d0, d1, d2, d3, d4, d5, d6, d7, d8]) rfl ⟨_, F, rfl, HT.out ▸ (HH.out.chg (G := [w.heap.size + 1]) (Chg.trans ((((((((((Chg.refl _ w1).setCell (by simp) _).setCell (by simp) _).setCell (by simp) _).setCell (by simp) _).setCell (by simp) _).setCell (by simp) _).setCell (by simp) _).setCell (by simp) _).setCell (by simp) _) (Chg.of_below ((Below.refl _ _).alloc (Nat.le_refl _) _) _)) (fun x hx => by have := HF.out x hx; simp; omega)).turned, fun x hx => by have := HF.out x hx; omega, ((((((((((hq).setCell (by simp) _).setCell (by simp) _).setCell (by simp) _).setCell (by simp) _).setCell (by simp) _).setCell (by simp) _).setCell (by simp) _).setCell (by simp) _).setCell (by simp) _).alloc (by simp; omega) _⟩
theorem turn_form {e : El} {v : Value} {F : List Nat} {w : World} (h : e.turn.Has v F w) : ∃ pl cl pc cc, v = .agg #[.bool e.n, .string e.v, .int .i64 e.l.op, .string e.l.a, .slice pl e.l.ks.list.length cl, .int .i64 e.c.op, .string e.c.a, .slice pc e.c.ks.list.length cc, .int .i64 (turnD e.d)] := by
  obtain ⟨pl, cl, pc, cc, rfl, _, _⟩ := h.at.form
  exact ⟨pl, cl, pc, cc, rfl⟩
set_option maxRecDepth 100000 in
set_option maxHeartbeats 8000000 in
theorem specTurnElem_any (e : El) (u : Value) (B : Nat) (w : World) (hu : e.At B w u) (hB : B ≤ w.heap.size) (hs : e.Sm) :
    Calls Tryd.prog 12 #[u] w fun en w' => ∃ v' F, en = .returned (.tuple #[v', .bool (elemV e)]) ∧ (turnR e).Has v' F w' ∧ (∀ x ∈ F, w.heap.size ≤ x) ∧ Below w.heap.size w w' := by
  obtain ⟨p, cap, p', cap', rfl, hl, hc⟩ := hu.form
  have HU := Lib.hid hu
  clear hu hl hc
  have HSM := Lib.hid hs
  clear hs
  obtain ⟨W0, eW⟩ : ∃ W0, W0 = (w.alloc (.cells #[.bool e.n, .string e.v, .int .i64 e.l.op, .string e.l.a, .slice p e.l.ks.list.length cap, .int .i64 e.c.op, .string e.c.a, .slice p' e.c.ks.list.length cap', .int .i64 e.d] 32)).alloc (.cells #[.bool false, .string ⟨#[]⟩, .int .i64 0, .string ⟨#[]⟩, .slice none 0 0, .int .i64 0, .string ⟨#[]⟩, .slice none 0 0, .int .i64 0] 32) := ⟨_, rfl⟩
  have HV := Lib.hid (show Below w.heap.size w W0 by rw [eW]; exact ((Below.refl w.heap.size w).alloc (by simp) _).alloc (by simp) _)
  have hs0 : w.heap.size + 2 ≤ W0.heap.size := by rw [eW]; simp
  have HK := Lib.hid (show ∀ wk, Below (w.heap.size + 2) W0 wk → w.heap.size + 2 ≤ wk.heap.size ∧ wk.cell? ⟨w.heap.size, 0, none⟩ = some (.bool e.n) ∧ wk.cell? ⟨w.heap.size, 1, none⟩ = some (.string e.v) ∧ wk.cell? ⟨w.heap.size, 2, none⟩ = some (.int .i64 e.l.op) ∧ wk.cell? ⟨w.heap.size, 3, none⟩ = some (.string e.l.a) ∧ wk.cell? ⟨w.heap.size, 4, none⟩ = some (.slice p e.l.ks.list.length cap) ∧ wk.cell? ⟨w.heap.size, 5, none⟩ = some (.int .i64 e.c.op) ∧ wk.cell? ⟨w.heap.size, 6, none⟩ = some (.string e.c.a) ∧ wk.cell? ⟨w.heap.size, 7, none⟩ = some (.slice p' e.c.ks.list.length cap') ∧ wk.cell? ⟨w.heap.size, 8, none⟩ = some (.int .i64 e.d) ∧ wk.cell? ⟨w.heap.size + 1, 0, none⟩ = some (.bool false) ∧ wk.cell? ⟨w.heap.size + 1, 1, none⟩ = some (.string ⟨#[]⟩) ∧ wk.cell? ⟨w.heap.size + 1, 2, none⟩ = some (.int .i64 0) ∧ wk.cell? ⟨w.heap.size + 1, 3, none⟩ = some (.string ⟨#[]⟩) ∧ wk.cell? ⟨w.heap.size + 1, 4, none⟩ = some (.slice none 0 0) ∧ wk.cell? ⟨w.heap.size + 1, 5, none⟩ = some (.int .i64 0) ∧ wk.cell? ⟨w.heap.size + 1, 6, none⟩ = some (.string ⟨#[]⟩) ∧ wk.cell? ⟨w.heap.size + 1, 7, none⟩ = some (.slice none 0 0) ∧ wk.cell? ⟨w.heap.size + 1, 8, none⟩ = some (.int .i64 0) ∧ wk.frozen? ⟨w.heap.size + 1, 0, none⟩ = false ∧ wk.frozen? ⟨w.heap.size + 1, 1, none⟩ = false ∧ wk.frozen? ⟨w.heap.size + 1, 2, none⟩ = false ∧ wk.frozen? ⟨w.heap.size + 1, 3, none⟩ = false ∧ wk.frozen? ⟨w.heap.size + 1, 4, none⟩ = false ∧ wk.frozen? ⟨w.heap.size + 1, 5, none⟩ = false ∧ wk.frozen? ⟨w.heap.size + 1, 6, none⟩ = false ∧ wk.frozen? ⟨w.heap.size + 1, 7, none⟩ = false ∧ wk.frozen? ⟨w.heap.size + 1, 8, none⟩ = false from
    fun wk hk => by rw [eW] at hk; exact ⟨by have := hk.size; simp at this; omega, keepc hk (by omega) (by simp [go_sem]), keepc hk (by omega) (by simp [go_sem]), keepc hk (by omega) (by simp [go_sem]), keepc hk (by omega) (by simp [go_sem]), keepc hk (by omega) (by simp [go_sem]), keepc hk (by omega) (by simp [go_sem]), keepc hk (by omega) (by simp [go_sem]), keepc hk (by omega) (by simp [go_sem]), keepc hk (by omega) (by simp [go_sem]), keepc hk (by omega) (by simp [go_sem]), keepc hk (by omega) (by simp [go_sem]), keepc hk (by omega) (by simp [go_sem]), keepc hk (by omega) (by simp [go_sem]), keepc hk (by omega) (by simp [go_sem]), keepc hk (by omega) (by simp [go_sem]), keepc hk (by omega) (by simp [go_sem]), keepc hk (by omega) (by simp [go_sem]), keepc hk (by omega) (by simp [go_sem]), (hk.frozen (by simp)).trans (by simp [go_sem]), (hk.frozen (by simp)).trans (by simp [go_sem]), (hk.frozen (by simp)).trans (by simp [go_sem]), (hk.frozen (by simp)).trans (by simp [go_sem]), (hk.frozen (by simp)).trans (by simp [go_sem]), (hk.frozen (by simp)).trans (by simp [go_sem]), (hk.frozen (by simp)).trans (by simp [go_sem]), (hk.frozen (by simp)).trans (by simp [go_sem]), (hk.frozen (by simp)).trans (by simp [go_sem])⟩)
  have HA := Lib.hid (Below.refl (w.heap.size + 2) W0)
  have HEA := Lib.hid (show ∀ wk, Below (w.heap.size + 2) W0 wk → e.At B wk (.agg #[.bool e.n, .string e.v, .int .i64 e.l.op, .string e.l.a, .slice p e.l.ks.list.length cap, .int .i64 e.c.op, .string e.c.a, .slice p' e.c.ks.list.length cap', .int .i64 e.d]) from fun wk hk => HU.out.below ((HV.out.trans (hk.mono (by omega))).mono hB) (Nat.le_refl _))
  have EW := Lib.hid eW
  clear eW HU
  go_enter Tryd.func12, Tryd.ntmps12
  go_wp2_with fail
  rw [← EW.out]
  refine (specElemValid_any e _ B _ (HEA.out _ HA.out) (by omega) HSM.out).mono ?_
  rintro en w1 ⟨rfl, hb1⟩
  have hz1 := hb1.size
  have HA := Lib.hid (HA.out.trans (hb1.mono (by omega)))
  clear hb1
  obtain ⟨hz, c0, c1, c2, c3, c4, c5, c6, c7, c8, d0, d1, d2, d3, d4, d5, d6, d7, d8, f0, f1, f2, f3, f4, f5, f6, f7, f8⟩ := HK.out _ HA.out
  cases hV : elemV e with
  | false =>
    have HT := Lib.hid (turnR_bad hV)
    have HVE := Lib.hid hV
    clear hV
    have hq := HV.out.trans (HA.out.mono (show w.heap.size ≤ w.heap.size + 2 by omega))
    go_wp2_with fail
    refine bodyPost_ret (v := .tuple #[.agg #[.bool false, .string ⟨#[]⟩, .int .i64 0, .string ⟨#[]⟩, .slice none 0 0, .int .i64 0, .string ⟨#[]⟩, .slice none 0 0, .int .i64 0], .bool false]) (by simp [results, Tryd.results12, go_sem, d0, d1, d2, d3, d4, d5, d6, d7, d8]) rfl ⟨_, [], by rw [HVE.out], by rw [HT.out]; exact noEl_has _, by simp, ((((((((((hq).setCell (by simp) _).setCell (by simp) _).setCell (by simp) _).setCell (by simp) _).setCell (by simp) _).setCell (by simp) _).setCell (by simp) _).setCell (by simp) _).setCell (by simp) _)⟩
  | true =>
    have HT := Lib.hid (turnR_ok hV)
    have HVE := Lib.hid hV
    have HKS := Lib.hid (elemV_ks hV)
    clear hV
    go_wp2_with fail
    refine (l3Turn_any e _ B _ (HEA.out _ HA.out) (by omega) (by have := HKS.out; omega) (by have := HKS.out; omega)).mono ?_
    rintro en w2 ⟨v1, F, rfl, hh, hF, hb2⟩
    have hz2 := hb2.size
    have HA := Lib.hid (HA.out.trans (hb2.mono (by omega)))
    have HF := Lib.hid (show ∀ x ∈ F, w.heap.size + 2 ≤ x ∧ x < w2.heap.size from fun x hx => ⟨by have := hF x hx; omega, hh.lt x hx⟩)
    obtain ⟨pl, cl, pc, cc, rfl⟩ := turn_form hh
    have HH := Lib.hid hh
    clear hh hF hb2
    clear hz c0 c1 c2 c3 c4 c5 c6 c7 c8 d0 d1 d2 d3 d4 d5 d6 d7 d8 f0 f1 f2 f3 f4 f5 f6 f7 f8
    obtain ⟨hz, c0, c1, c2, c3, c4, c5, c6, c7, c8, d0, d1, d2, d3, d4, d5, d6, d7, d8, f0, f1, f2, f3, f4, f5, f6, f7, f8⟩ := HK.out _ HA.out
    have hq := HV.out.trans (HA.out.mono (show w.heap.size ≤ w.heap.size + 2 by omega))
    go_wp2_with fail
    refine bodyPost_ret (v := .tuple #[.agg #[.bool e.n, .string e.v, .int .i64 e.l.op, .string e.l.a, .slice pl e.l.ks.list.length cl, .int .i64 e.c.op, .string e.c.a, .slice pc e.c.ks.list.length cc, .int .i64 (turnD e.d)], .bool true]) (by simp [results, Tryd.results12, go_sem, d0, d1, d2, d3, d4, d5, d6, d7, d8]) rfl ⟨_, F, by rw [HVE.out], by rw [HT.out]; exact HH.out.chg (G := [w.heap.size + 1]) ((((((((((Chg.refl _ w2).setCell (by simp) _).setCell (by simp) _).setCell (by simp) _).setCell (by simp) _).setCell (by simp) _).setCell (by simp) _).setCell (by simp) _).setCell (by simp) _).setCell (by simp) _) (fun x hx => by have := HF.out x hx; simp; omega), fun x hx => by have := HF.out x hx; omega, ((((((((((hq).setCell (by simp) _).setCell (by simp) _).setCell (by simp) _).setCell (by simp) _).setCell (by simp) _).setCell (by simp) _).setCell (by simp) _).setCell (by simp) _).setCell (by simp) _)⟩
end Go.Proofs.YtnncifemfhmkfaaDoor
