/- Elements turned: impl.TurnElem (its body since d968230: a copy, then the direction). -/
import Derived.Test.YtnncifemfhmkfaaDoorTurnT
import Derived.Test.YtnncifemfhmkfaaDoorCopyE
namespace Go.Proofs.YtnncifemfhmkfaaDoor
open Go.RowKit

set_option maxRecDepth 100000 in
set_option maxHeartbeats 8000000 in
theorem turnElem_any (e : El) (u : Value) (B : Nat) (w : World) (hu : e.At B w u) (hB : B ≤ w.heap.size) (hs : e.Sm) (hvars : Vars w) :
    Calls Tryd.prog 13 #[u] w fun en w' => ∃ v' F, en = .returned (.tuple #[v', .bool (elemV e)]) ∧ (turnR e).Has v' F w' ∧ (∀ x ∈ F, w.heap.size ≤ x) ∧ Below w.heap.size w w' := by
  have HSM := Lib.hid hs
  have HVV := Lib.hid hvars
  have HIN := Lib.hid (show ∀ (p : Option Addr) (cap : Nat) (p' : Option Addr) (cap' : Nat), u = .agg #[.bool e.n, .string e.v, .int .i64 e.l.op, .string e.l.a, .slice p e.l.ks.list.length cap, .int .i64 e.c.op, .string e.c.a, .slice p' e.c.ks.list.length cap', .int .i64 e.d] → e.l.ks.In B w (.slice p e.l.ks.list.length cap) ∧ e.c.ks.In B w (.slice p' e.c.ks.list.length cap') from fun p cap p' cap' he => by
    obtain ⟨k, k', h1, h2, h3⟩ := hu
    rw [he] at h1
    simp only [Value.agg.injEq, Array.mk.injEq, List.cons.injEq, true_and, and_true] at h1
    obtain ⟨rfl, rfl⟩ := h1
    exact ⟨h2, h3⟩)
  clear hs hvars
  obtain ⟨p, cap, p', cap', rfl, hl, hc⟩ := hu.form
  have HU := Lib.hid hu
  obtain ⟨il, ic⟩ := HIN.out p cap p' cap' rfl
  have HL := Lib.hid il
  have HC := Lib.hid ic
  clear hu hl hc il ic HIN
  obtain ⟨W0, eW⟩ : ∃ W0, W0 = (w.alloc (.cells #[.bool e.n, .string e.v, .int .i64 e.l.op, .string e.l.a, .slice p e.l.ks.list.length cap, .int .i64 e.c.op, .string e.c.a, .slice p' e.c.ks.list.length cap', .int .i64 e.d] 32)).alloc (.cells #[.bool false, .string ⟨#[]⟩, .int .i64 0, .string ⟨#[]⟩, .slice none 0 0, .int .i64 0, .string ⟨#[]⟩, .slice none 0 0, .int .i64 0] 32) := ⟨_, rfl⟩
  have HV := Lib.hid (show Below w.heap.size w W0 by rw [eW]; exact ((Below.refl w.heap.size w).alloc (by simp) _).alloc (by simp) _)
  have hs0 : w.heap.size + 2 ≤ W0.heap.size := by rw [eW]; simp
  have HK := Lib.hid (show ∀ wk, Below (w.heap.size + 2) W0 wk → w.heap.size + 2 ≤ wk.heap.size ∧ wk.cell? ⟨w.heap.size, 0, none⟩ = some (.bool e.n) ∧ wk.cell? ⟨w.heap.size, 1, none⟩ = some (.string e.v) ∧ wk.cell? ⟨w.heap.size, 2, none⟩ = some (.int .i64 e.l.op) ∧ wk.cell? ⟨w.heap.size, 3, none⟩ = some (.string e.l.a) ∧ wk.cell? ⟨w.heap.size, 4, none⟩ = some (.slice p e.l.ks.list.length cap) ∧ wk.cell? ⟨w.heap.size, 5, none⟩ = some (.int .i64 e.c.op) ∧ wk.cell? ⟨w.heap.size, 6, none⟩ = some (.string e.c.a) ∧ wk.cell? ⟨w.heap.size, 7, none⟩ = some (.slice p' e.c.ks.list.length cap') ∧ wk.cell? ⟨w.heap.size, 8, none⟩ = some (.int .i64 e.d) ∧ wk.cell? ⟨w.heap.size + 1, 0, none⟩ = some (.bool false) ∧ wk.cell? ⟨w.heap.size + 1, 1, none⟩ = some (.string ⟨#[]⟩) ∧ wk.cell? ⟨w.heap.size + 1, 2, none⟩ = some (.int .i64 0) ∧ wk.cell? ⟨w.heap.size + 1, 3, none⟩ = some (.string ⟨#[]⟩) ∧ wk.cell? ⟨w.heap.size + 1, 4, none⟩ = some (.slice none 0 0) ∧ wk.cell? ⟨w.heap.size + 1, 5, none⟩ = some (.int .i64 0) ∧ wk.cell? ⟨w.heap.size + 1, 6, none⟩ = some (.string ⟨#[]⟩) ∧ wk.cell? ⟨w.heap.size + 1, 7, none⟩ = some (.slice none 0 0) ∧ wk.cell? ⟨w.heap.size + 1, 8, none⟩ = some (.int .i64 0) ∧ wk.frozen? ⟨w.heap.size + 1, 0, none⟩ = false ∧ wk.frozen? ⟨w.heap.size + 1, 1, none⟩ = false ∧ wk.frozen? ⟨w.heap.size + 1, 2, none⟩ = false ∧ wk.frozen? ⟨w.heap.size + 1, 3, none⟩ = false ∧ wk.frozen? ⟨w.heap.size + 1, 4, none⟩ = false ∧ wk.frozen? ⟨w.heap.size + 1, 5, none⟩ = false ∧ wk.frozen? ⟨w.heap.size + 1, 6, none⟩ = false ∧ wk.frozen? ⟨w.heap.size + 1, 7, none⟩ = false ∧ wk.frozen? ⟨w.heap.size + 1, 8, none⟩ = false from
    fun wk hk => by rw [eW] at hk; exact ⟨by have := hk.size; simp at this; omega, keepc hk (by omega) (by simp [go_sem]), keepc hk (by omega) (by simp [go_sem]), keepc hk (by omega) (by simp [go_sem]), keepc hk (by omega) (by simp [go_sem]), keepc hk (by omega) (by simp [go_sem]), keepc hk (by omega) (by simp [go_sem]), keepc hk (by omega) (by simp [go_sem]), keepc hk (by omega) (by simp [go_sem]), keepc hk (by omega) (by simp [go_sem]), keepc hk (by omega) (by simp [go_sem]), keepc hk (by omega) (by simp [go_sem]), keepc hk (by omega) (by simp [go_sem]), keepc hk (by omega) (by simp [go_sem]), keepc hk (by omega) (by simp [go_sem]), keepc hk (by omega) (by simp [go_sem]), keepc hk (by omega) (by simp [go_sem]), keepc hk (by omega) (by simp [go_sem]), keepc hk (by omega) (by simp [go_sem]), (hk.frozen (by simp)).trans (by simp [go_sem]), (hk.frozen (by simp)).trans (by simp [go_sem]), (hk.frozen (by simp)).trans (by simp [go_sem]), (hk.frozen (by simp)).trans (by simp [go_sem]), (hk.frozen (by simp)).trans (by simp [go_sem]), (hk.frozen (by simp)).trans (by simp [go_sem]), (hk.frozen (by simp)).trans (by simp [go_sem]), (hk.frozen (by simp)).trans (by simp [go_sem]), (hk.frozen (by simp)).trans (by simp [go_sem])⟩)
  have HA := Lib.hid (Below.refl (w.heap.size + 2) W0)
  have HEA := Lib.hid (show ∀ wk, Below (w.heap.size + 2) W0 wk → e.At B wk (.agg #[.bool e.n, .string e.v, .int .i64 e.l.op, .string e.l.a, .slice p e.l.ks.list.length cap, .int .i64 e.c.op, .string e.c.a, .slice p' e.c.ks.list.length cap', .int .i64 e.d]) from fun wk hk => HU.out.below ((HV.out.trans (hk.mono (by omega))).mono hB) (Nat.le_refl _))
  have EW := Lib.hid eW
  clear eW HU
  go_enter Tryd.func13, Tryd.ntmps13
  go_wp2_with fail
  rw [← EW.out]
  have HBK := Lib.hid (show ∀ wk, Below (w.heap.size + 2) W0 wk → Below B w wk from fun wk hk => (HV.out.trans (hk.mono (by omega))).mono hB)
  refine (elemValid_any e _ B _ (HEA.out _ HA.out) (by omega) HSM.out (HVV.out.below HV.out)).mono ?_
  rintro en w1 ⟨rfl, hb1⟩
  have hz1 := hb1.size
  have HA := Lib.hid (HA.out.trans (hb1.mono (by omega)))
  clear hb1
  obtain ⟨hz, c0, c1, c2, c3, c4, c5, c6, c7, c8, d0, d1, d2, d3, d4, d5, d6, d7, d8, f0, f1, f2, f3, f4, f5, f6, f7, f8⟩ := HK.out _ HA.out
  cases hV : elemV e with
  | false =>
    have HT := Lib.hid (turnR_bad hV)
    have HVE := Lib.hid hV
    clear hV
    have hq := HV.out.trans (HA.out.mono (show w.heap.size ≤ w.heap.size + 2 by omega))
    go_wp2_with fail
    refine bodyPost_ret (v := .tuple #[.agg #[.bool false, .string ⟨#[]⟩, .int .i64 0, .string ⟨#[]⟩, .slice none 0 0, .int .i64 0, .string ⟨#[]⟩, .slice none 0 0, .int .i64 0], .bool false]) (by simp [results, Tryd.results13, go_sem, d0, d1, d2, d3, d4, d5, d6, d7, d8]) rfl ⟨_, [], by rw [HVE.out], by rw [HT.out]; exact noEl_has _, by simp, ((((((((((hq).setCell (by simp) _).setCell (by simp) _).setCell (by simp) _).setCell (by simp) _).setCell (by simp) _).setCell (by simp) _).setCell (by simp) _).setCell (by simp) _).setCell (by simp) _)⟩
  | true =>
    have HT := Lib.hid (turnR_ok hV)
    have HVE := Lib.hid hV
    have H12 := Lib.hid (show e.l.ks.size ≤ 2000000 ∧ e.c.ks.size ≤ 2000000 by have := elemV_ks hV; omega)
    clear hV
    go_wp2_with fail
    refine (copyElem_any e _ B _ (HEA.out _ HA.out) (by omega) H12.out.1 H12.out.2).mono ?_
    rintro en w2 ⟨v1, F, rfl, hh, hF, hb2⟩
    have hz2 := hb2.size
    have HA2 := Lib.hid (HA.out.trans (hb2.mono (by omega)))
    have HF := Lib.hid (show ∀ x ∈ F, w.heap.size + 2 ≤ x from fun x hx => by have := hF x hx; omega)
    obtain ⟨pl, cl, pc, cc, rfl, _, _⟩ := hh.at.form
    have HFIN := Lib.hid (fun (E : World) (D : Int) (hD : turnD e.d = D) (hE : Chg [w.heap.size + 1] w2 E) => show ∃ v' F, Ending.returned (.tuple #[.agg #[.bool e.n, .string e.v, .int .i64 e.l.op, .string e.l.a, .slice pl e.l.ks.list.length cl, .int .i64 e.c.op, .string e.c.a, .slice pc e.c.ks.list.length cc, .int .i64 D], .bool true]) = .returned (.tuple #[v', .bool (elemV e)]) ∧ (turnR e).Has v' F E ∧ (∀ x ∈ F, w.heap.size ≤ x) ∧ Below w.heap.size w E from
      ⟨_, F, by rw [HVE.out], by rw [HT.out]; have := El.Has.turned (hh.chg hE (fun x hx hm => by have := HF.out x hx; simp at hm; omega)); rw [hD] at this; exact this, fun x hx => by have := HF.out x hx; omega,
        (HV.out.trans (HA2.out.mono (by omega))).trans (hE.below (by omega) (by simp))⟩)
    clear hh hF hb2 c0 c1 c2 c3 c4 c5 c6 c7 c8 d0 d1 d2 d3 d4 d5 d6 d7 d8 f0 f1 f2 f3 f4 f5 f6 f7 f8
    obtain ⟨hzz, c0, c1, c2, c3, c4, c5, c6, c7, c8, d0, d1, d2, d3, d4, d5, d6, d7, d8, f0, f1, f2, f3, f4, f5, f6, f7, f8⟩ := HK.out _ HA2.out
    have hq1 : w.heap.size < w2.heap.size := by omega
    have hq2 : w.heap.size + 1 < w2.heap.size := by omega
    by_cases k1 : e.d = 1
    · have b1 : (e.d == 1) = true := beq_iff_eq.2 k1
      have hw : IntKind.i64.wrap (3 - e.d) = 2 := by rw [k1]; rfl
      have HD := Lib.hid (show turnD e.d = 2 by rw [k1]; rfl)
      clear k1
      go_wp2_with fail
      refine bodyPost_ret (v := .tuple #[.agg #[.bool e.n, .string e.v, .int .i64 e.l.op, .string e.l.a, .slice pl e.l.ks.list.length cl, .int .i64 e.c.op, .string e.c.a, .slice pc e.c.ks.list.length cc, .int .i64 2], .bool true]) (by simp [results, Tryd.results13, go_sem, hq2, d0, d1, d2, d3, d4, d5, d6, d7, d8]) rfl (HFIN.out _ _ HD.out ?_)
      repeat (first | with_reducible exact Chg.refl _ _ | with_reducible refine Chg.setCell ?_ (by simp) _ | with_reducible refine Chg.then_below ?_ ((Below.refl _ _).alloc (Nat.le_refl _) _))
    · have b1 : (e.d == 1) = false := beq_eq_false_iff_ne.2 k1
      by_cases k2 : e.d = 2
      · have b2 : (e.d == 2) = true := beq_iff_eq.2 k2
        have hw : IntKind.i64.wrap (3 - e.d) = 1 := by rw [k2]; rfl
        have HD := Lib.hid (show turnD e.d = 1 by rw [k2]; rfl)
        clear k1 k2
        go_wp2_with fail
        refine bodyPost_ret (v := .tuple #[.agg #[.bool e.n, .string e.v, .int .i64 e.l.op, .string e.l.a, .slice pl e.l.ks.list.length cl, .int .i64 e.c.op, .string e.c.a, .slice pc e.c.ks.list.length cc, .int .i64 1], .bool true]) (by simp [results, Tryd.results13, go_sem, hq2, d0, d1, d2, d3, d4, d5, d6, d7, d8]) rfl (HFIN.out _ _ HD.out ?_)
        repeat (first | with_reducible exact Chg.refl _ _ | with_reducible refine Chg.setCell ?_ (by simp) _ | with_reducible refine Chg.then_below ?_ ((Below.refl _ _).alloc (Nat.le_refl _) _))
      · have b2 : (e.d == 2) = false := beq_eq_false_iff_ne.2 k2
        have HD := Lib.hid (turnD_same k1 k2)
        clear k1 k2
        go_wp2_with fail
        refine bodyPost_ret (v := .tuple #[.agg #[.bool e.n, .string e.v, .int .i64 e.l.op, .string e.l.a, .slice pl e.l.ks.list.length cl, .int .i64 e.c.op, .string e.c.a, .slice pc e.c.ks.list.length cc, .int .i64 e.d], .bool true]) (by simp [results, Tryd.results13, go_sem, hq2, d0, d1, d2, d3, d4, d5, d6, d7, d8]) rfl (HFIN.out _ _ HD.out ?_)
        repeat (first | with_reducible exact Chg.refl _ _ | with_reducible refine Chg.setCell ?_ (by simp) _ | with_reducible refine Chg.then_below ?_ ((Below.refl _ _).alloc (Nat.le_refl _) _))
end Go.Proofs.YtnncifemfhmkfaaDoor
