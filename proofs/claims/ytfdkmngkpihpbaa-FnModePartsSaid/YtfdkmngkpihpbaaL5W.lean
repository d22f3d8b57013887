/- l5Wrong: a walk like another one. -/
import Derived.Test.YtfdkmngkpihpbaaL5C
import Derived.Test.YtfdkmngkpihpbaaL5D
namespace Go.Proofs.Ytfdkmngkpihpbaa
open Go.RowKit

def WrongW (a N M : Nat) (w : World) (e : Ending) (w' : World) : Prop :=
  ∃ (y : Wk) (u : Value) (F : List Nat), e = .returned u ∧ (y.Has u F w' ∧ (∀ z ∈ F, w.heap.size ≤ z) ∧ y.need ≤ M + 1) ∧ Dr w' a (N + 3) ∧ Chg [a] w w'
/-- A place of the first row: its cell, and what a store leaves. -/
theorem Two.cellA {ns es : List Int} {b lo : Nat} {p : Option Addr} {n c : Nat} {v2 : Value} {E : World} (h : WTwo ns es b lo (.slice p n c) v2 E) {q : Nat} (hq : q < ns.length) :
    ∃ bx, p = some ⟨bx, 0, none⟩ ∧ (lo ≤ bx ∧ bx ≠ b) ∧ E.cell? ⟨bx, q, none⟩ = some (.int .i64 ns[q]) ∧ E.frozen? ⟨bx, q, none⟩ = false ∧
      ∀ z : Int, ∃ F, (⟨ns.set q z, es⟩ : Wk).Has (.agg #[.slice p n c, v2]) F (E.setCell ⟨bx, q, none⟩ (.int .i64 z)) ∧ ∀ y ∈ F, lo ≤ y := by
  obtain ⟨⟨h1, h2⟩, ⟨h3, h4⟩, ⟨h5, h6⟩, F1, F2, h7, h8, h9, h10, h11⟩ := h
  have o1 := OwnS.own (enc := intCells) (fun _ => rfl) h7
  have o2 := OwnS.own (enc := intCells) (fun _ => rfl) h8
  obtain ⟨p', c', e1, g2, g3, g4⟩ := h7
  cases e1
  rcases g4 with ⟨rfl, _⟩ | ⟨bx, cur, rfl, rfl, hg, hs, ht⟩
  · simp at hq
  refine ⟨bx, rfl, h9 bx (by simp), ?_, by simp [World.frozen?, hg], fun z => ?_⟩
  · obtain ⟨b', off, e, _, hc⟩ := o1.sl.it hq
    cases e
    simpa using hc
  · refine ⟨[bx] ++ F2, ⟨_, _, [bx], F2, rfl, rfl, ?_, o2.chg (G := [bx]) ((Chg.refl _ _).setCell (by simp) _) (fun y hy hm => ?_), h11⟩, fun y hy => ?_⟩
    · have := o1.store1 (k := q) hq (fun _ => rfl) z (.int .i64 z) rfl
      rw [Nat.zero_add] at this
      exact this
    · simp at hm; subst hm; exact h11 _ (by simp) hy
    · rcases List.mem_append.1 hy with h | h
      · exact (h9 y h).1
      · exact (h10 y h).1
theorem OwnSl.cut {α : Type} {enc : α → List Value} {sz : Nat} {w : World} {p : Option Addr} {len cap : Nat} {xs : List α} {F : List Nat} (h : OwnSl sz enc w (.slice p len cap) xs F) {k : Nat} (hk : k ≤ xs.length) : OwnSl sz enc w (.slice p k cap) (xs.take k) F := by
  obtain ⟨p', len', cap', h1, h2, h3, h4, h5⟩ := h
  cases h1
  refine ⟨p, k, cap, rfl, by simp; omega, by omega, h4, ?_⟩
  rcases h5 with ⟨rfl, rfl⟩ | ⟨b, off, rfl, rfl, h6, h7, h8⟩
  · exact .inl ⟨by simp, rfl⟩
  · refine .inr ⟨b, off, rfl, rfl, h6, h7, fun i hi j x hx => ?_⟩
    simp only [List.length_take] at hi
    rw [List.getElem_take] at hx
    exact h8 i (by omega) j x hx

set_option maxRecDepth 100000 in
set_option maxHeartbeats 16000000 in
theorem l5Wrong_any (x : Wk) (v : Value) (B a N M : Nat) (w : World) (hx : x.At B w v) (hB : B ≤ w.heap.size) (hM : x.need ≤ M) (hM2 : M ≤ 1000) (h : Dr w a N) (hN : N ≤ 900000) :
    Calls Try.prog 86 #[.pointer (some ⟨a, 0, none⟩), v] w (WrongW a N M w) := by
  have hal := h.lt
  have HNEED := Lib.hid hM
  have hn1 : x.ns.length ≤ 1000 := by unfold Wk.need at hM; omega
  have hn2 : x.es.length ≤ 1000 := by unfold Wk.need at hM; omega
  obtain ⟨px, cx, qx, dx, rfl⟩ := hx.form
  have CC := Lib.hid (fun (E : World) (hE : Below B w E) => l5Copy_any x _ B E (hx.to hE (Nat.le_refl _)) (by have := hE.size; omega) (by omega))
  clear hx hM
  go_enter Try.func86, Try.ntmps86
  go_wp2_with fail
  obtain ⟨W1, eW1⟩ : ∃ E, E = (w.alloc (.cells #[.slice px x.ns.length cx, .slice qx x.es.length dx] 25)).alloc (.cells #[.slice none 0 0, .slice none 0 0] 25) := ⟨_, rfl⟩
  have sW1 : W1.heap.size = w.heap.size + 2 := by rw [eW1]; simp
  have HW1 := Lib.hid (show Below w.heap.size w W1 by rw [eW1]; exact ((Below.refl _ _).alloc (Nat.le_refl _) _).alloc (by simp) _)
  have HRES := Lib.hid (show (W1.cell? ⟨w.heap.size + 1, 0, none⟩ = some (.slice none 0 0) ∧ W1.cell? ⟨w.heap.size + 1, 1, none⟩ = some (.slice none 0 0)) ∧ W1.frozen? ⟨w.heap.size + 1, 0, none⟩ = false ∧ W1.frozen? ⟨w.heap.size + 1, 1, none⟩ = false by rw [eW1]; exact ⟨⟨by simp [go_sem], by simp [go_sem]⟩, by simp [go_sem], by simp [go_sem]⟩)
  have HFIN := Lib.hid (fun (E : World) (s1 s2 : Value) (y : Wk) (F : List Nat) (hF : y.Has (.agg #[s1, s2]) F E) (hFl : ∀ z ∈ F, w.heap.size + 2 ≤ z) (hn : y.need ≤ M + 1) (hd : Dr E a (N + 3)) (hc : Chg [a] W1 E) =>
    show WrongW a N M w (.returned (.agg #[s1, s2])) ((E.setCell ⟨w.heap.size + 1, 0, none⟩ s1).setCell ⟨w.heap.size + 1, 1, none⟩ s2) from by
      have hs : Chg [w.heap.size + 1] E ((E.setCell ⟨w.heap.size + 1, 0, none⟩ s1).setCell ⟨w.heap.size + 1, 1, none⟩ s2) := ((Chg.refl _ _).setCell (by simp) _).setCell (by simp) _
      exact ⟨y, _, F, rfl, ⟨hF.chg hs (fun z hz => by have := hFl z hz; simp; omega), fun z hz => by have := hFl z hz; omega, hn⟩, hd.chg hs (by simp; omega), ((Chg.of_below HW1.out [a]).trans hc).past hs (by simp)⟩)
  rw [← eW1]
  refine (CC.out W1 (HW1.out.mono hB)).mono ?_
  rintro en u1 ⟨vu, rfl, ⟨sa, sb, F1, F2, rfl, o1, o2, f1, f2, dj⟩, hb1⟩
  obtain ⟨p1, c1, rfl⟩ := o1.form
  obtain ⟨p2, c2, rfl⟩ := o2.form
  have su1 : w.heap.size + 2 ≤ u1.heap.size := by have := hb1.size; omega
  obtain ⟨W2, eW2⟩ : ∃ E, E = u1.alloc (.cells #[.slice p1 x.ns.length c1, .slice p2 x.es.length c2] 25) := ⟨_, rfl⟩
  have sW2 : W2.heap.size = u1.heap.size + 1 := by rw [eW2]; simp
  have kW2 : Chg [] u1 W2 := by rw [eW2]; exact (Chg.refl _ _).alloc _
  have HT := Lib.hid (show WTwo x.ns x.es u1.heap.size (w.heap.size + 2) (.slice p1 x.ns.length c1) (.slice p2 x.es.length c2) W2 from
    ⟨⟨by omega, by omega⟩, ⟨by rw [eW2]; simp [go_sem], by rw [eW2]; simp [go_sem]⟩, ⟨by rw [eW2]; simp [go_sem], by rw [eW2]; simp [go_sem]⟩, F1, F2, OwnS.chg o1 kW2 (by simp), OwnS.chg o2 kW2 (by simp), fun y hy => ⟨by have := f1 y hy; omega, by have := o1.lt y hy; omega⟩, fun y hy => ⟨by have := f2 y hy; omega, by have := o2.lt y hy; omega⟩, dj⟩)
  have HC2 := Lib.hid (((Chg.of_below hb1 [a]).trans (kW2.mono (by simp))) : Chg [a] W1 W2)
  have d2 : Dr W2 a N := ((h.below HW1.out).below hb1).chg kW2 (by simp)
  clear o1 o2 f1 f2 dj hb1 kW2
  go_upto_region 2 with fail
  rw [← eW2]
  clear eW2
  by_cases hz : x.ns.length = 0
  · have q0 : ((x.ns.length : Int) == 0) = true := beq_iff_eq.2 (by omega)
    clear hz
    obtain ⟨⟨y0, y1⟩, y2, y3⟩ := HRES.out
    have r0 := HC2.out.cellOf (by simp; omega) y0
    have r1 := HC2.out.cellOf (by simp; omega) y1
    have r2 := HC2.out.frozenOf (by simp; omega) (by omega) y2
    have r3 := HC2.out.frozenOf (by simp; omega) (by omega) y3
    have b0 := HT.out.2.1.1
    have b1 := HT.out.2.1.2
    obtain ⟨F, hF, hFl⟩ := WTwo.has HT.out
    have HH := Lib.hid (HFIN.out W2 _ _ _ F hF (fun y hy => by have := (hFl y hy).1; omega) (by have := HNEED.out; unfold Wk.need at this ⊢; simp only; omega) (d2.mono (by omega)) HC2.out)
    clear hF hFl y0 y1 y2 y3
    go_wp2_with fail
    exact bodyPost_ret (v := .agg #[.slice p1 x.ns.length c1, .slice p2 x.es.length c2]) (by simp [results, Try.results86, go_sem, r0, r1]) rfl HH.out
  · have q0 : ((x.ns.length : Int) == 0) = false := beq_eq_false_iff_ne.2 (by omega)
    have hpos : 0 < x.ns.length := by omega
    clear hz
    have y0 := HT.out.2.1.1
    have y1 := HT.out.2.1.2
    go_wp2_with fail
    refine (pick_nat 20 a N W2 d2 (by omega) (by decide)).mono ?_
    rintro en wr ⟨t, rfl, ht, hd, k3⟩
    have HC3 := Lib.hid (HC2.out.trans k3)
    have HT3 := Lib.hid (HT.out.chg k3 (by simp; omega))
    have hsz := HC3.out.size
    clear k3 d2 y0 y1
    have GT := Lib.hid (fun (E : World) (hE : Chg [a] wr E) => HT3.out.chg hE (by simp; omega))
    have HK := Lib.hid (fun (E : World) (hE : Chg [a] wr E) => (GT.out E hE).2.1)
    have HB := Lib.hid (fun (E : World) (hE : Chg [a] wr E) => And.intro (HK.out E hE).1 (And.intro (HK.out E hE).2 (And.intro ((HC3.out.trans hE).cellOf (b := w.heap.size + 1) (o := 0) (by simp; omega) HRES.out.1.1) (And.intro ((HC3.out.trans hE).cellOf (b := w.heap.size + 1) (o := 1) (by simp; omega) HRES.out.1.2) (And.intro ((HC3.out.trans hE).frozenOf (b := w.heap.size + 1) (o := 0) (by simp; omega) (by omega) HRES.out.2.1) ((HC3.out.trans hE).frozenOf (b := w.heap.size + 1) (o := 1) (by simp; omega) (by omega) HRES.out.2.2))))))
    have har : a < wr.heap.size := by omega
    obtain ⟨bx, rfl, hbx, _, _, _⟩ := HT3.out.cellA hpos
    have hne := hbx.2
    have hlo := hbx.1
    clear hbx
    rcases (by omega : t = 0 ∨ t = 1 ∨ t = 2 ∨ 3 ≤ t) with rfl | rfl | rfl | ht3
    · go_upto_region 6 with fail
      refine wp_region_E (last := 11) (S := fun w' => w'.cell? ⟨u1.heap.size, 0, none⟩ = some (.slice (some ⟨bx, 0, none⟩) x.ns.length c1) ∧ w'.cell? ⟨u1.heap.size, 1, none⟩ = some (.slice p2 x.es.length c2)) (by kernel_rfl) ?_ (fun hHeld => ?_)
      · exact HK.out _ (show Chg [a] wr _ by ((repeat (first | with_reducible assumption | with_reducible exact Chg.refl _ _ | refine Chg.alloc ?_ _ | refine Chg.drew ?_)); first | done | fail "chg"))
      have cW : Chg [a] wr wr.drew := Chg.drew (Chg.refl _ _)
      have dW : Dr wr.drew a (N + 1) := hd.drew
      have yW : a < wr.drew.heap.size := har
      generalize wr.drew = W0 at cW dW yW hHeld ⊢
      (refine takeE (i := 0) (v := ?_) [] rfl (by kernel_rfl) (by kernel_rfl) (fun _ _ _ h => h) (Or.inl ⟨by kernel_rfl, ?_⟩) (by assumption) ?_; rotate_left; (focus (intro w hSw; (try dsimp only at hSw); go_simp; first | done | with_reducible rfl | fail "takeE")); (try simp only [Act.put, List.setIfInBounds_toArray, List.set_cons_zero, List.set_cons_succ]))
      (refine takeE (i := 1) (v := ?_) [] rfl (by kernel_rfl) (by kernel_rfl) (fun _ _ _ h => h) (Or.inl ⟨by kernel_rfl, ?_⟩) (by assumption) ?_; rotate_left; (focus (intro w hSw; (try dsimp only at hSw); go_simp; first | done | with_reducible rfl | fail "takeE")); (try simp only [Act.put, List.setIfInBounds_toArray, List.set_cons_zero, List.set_cons_succ]))
      (refine takeE (i := 2) (v := ?_) [] rfl (by kernel_rfl) (by kernel_rfl) (fun _ _ _ h => h) (Or.inl ⟨by kernel_rfl, ?_⟩) (by assumption) ?_; rotate_left; (focus (intro w hSw; (try dsimp only at hSw); go_simp; first | done | with_reducible rfl | fail "takeE")); (try simp only [Act.put, List.setIfInBounds_toArray, List.set_cons_zero, List.set_cons_succ]))
      (refine takeE (i := 3) (v := ?_) [] rfl (by kernel_rfl) (by kernel_rfl) (fun _ _ _ h => h) (Or.inl ⟨by kernel_rfl, ?_⟩) (by assumption) ?_; rotate_left; (focus (intro w hSw; (try dsimp only at hSw); go_simp; first | done | with_reducible rfl | fail "takeE")); (try simp only [Act.put, List.setIfInBounds_toArray, List.set_cons_zero, List.set_cons_succ]))
      (refine takeE (i := 4) (v := ?_) [] rfl (by kernel_rfl) (by kernel_rfl) (fun _ _ _ h => h) (Or.inl ⟨by kernel_rfl, ?_⟩) (by assumption) ?_; rotate_left; (focus (intro w hSw; (try dsimp only at hSw); go_simp; first | done | with_reducible rfl | fail "takeE")); (try simp only [Act.put, List.setIfInBounds_toArray, List.set_cons_zero, List.set_cons_succ]))
      (refine takeE (i := 5) (v := ?_) [] rfl (by kernel_rfl) (by kernel_rfl) (fun _ _ _ h => h) (Or.inl ⟨by kernel_rfl, ?_⟩) (by assumption) ?_; rotate_left; (focus (intro w hSw; (try dsimp only at hSw); go_simp; first | done | with_reducible rfl | fail "takeE")); (try simp only [Act.put, List.setIfInBounds_toArray, List.set_cons_zero, List.set_cons_succ]))
      (refine takeE (i := 7) (v := ?_) [] rfl (by kernel_rfl) (by kernel_rfl) (fun _ _ _ h => h) (Or.inl ⟨by kernel_rfl, ?_⟩) (by assumption) ?_; rotate_left; (focus (intro w hSw; (try dsimp only at hSw); go_simp; first | done | with_reducible rfl | fail "takeE")); (try simp only [Act.put, List.setIfInBounds_toArray, List.set_cons_zero, List.set_cons_succ]))
      refine upE (rs := [6, 8]) (by kernel_rfl) (by simp) (AllE'.cons (i := 6) rfl (by kernel_rfl) (fun K hK => ?_) (AllE'.cons (i := 8) rfl (by kernel_rfl) (fun K hK => ?_) AllE'.nil))
      · go_simp
        go_at_call 87
        refine Calls.mono (pick_nat x.ns.length a (N + 1) _ (by ((repeat (first | with_reducible assumption | refine Dr.alloc ?_ _ | refine Dr.drew ?_)); first | done | fail "drk")) (by omega) hpos) ?_
        rintro en U1 ⟨q, rfl, hq1, dU1, kU1⟩
        have cU1 : Chg [a] wr U1 := (show Chg [a] wr _ by ((repeat (first | with_reducible assumption | with_reducible exact Chg.refl _ _ | refine Chg.alloc ?_ _ | refine Chg.drew ?_)); first | done | fail "chg")).trans kU1
        have yU1 : a < U1.heap.size := by have := cU1.size; omega
        go_wp2_with fail
        refine hK.out _ _ (HK.out _ (show Chg [a] wr _ by ((repeat (first | with_reducible assumption | with_reducible exact Chg.refl _ _ | refine Chg.alloc ?_ _ | refine Chg.drew ?_)); first | done | fail "chg"))) (fun hHeld => ?_)
        clear hK K
        (try simp only [Act.put, List.setIfInBounds_toArray, List.set_cons_zero, List.set_cons_succ])
        refine oneE (i := 8) rfl (by kernel_rfl) (by kernel_rfl) (fun K hK => ?_)
        go_simp
        refine made (K := K) intB_spec 4 (by rfl) (by kernel_rfl) ?_
        intro U2 kU2 zU2 sB
        have cU2 : Chg [a] wr U2 := (show Chg [a] wr _ by ((repeat (first | with_reducible assumption | with_reducible exact Chg.refl _ _ | refine Chg.alloc ?_ _ | refine Chg.drew ?_)); first | done | fail "chg")).trans (kU2.mono (by simp))
        have dU2 : Dr U2 a (N + 1 + 1) := (show Dr _ a (N + 1 + 1) by ((repeat (first | with_reducible assumption | refine Dr.alloc ?_ _ | refine Dr.drew ?_)); first | done | fail "drk")).chg kU2 (by simp)
        have nB : U1.heap.size ≠ a := by omega
        have yU2 : a < U2.heap.size := by have := cU2.size; omega
        refine hK.out _ _ (HK.out _ (show Chg [a] wr _ by ((repeat (first | with_reducible assumption | with_reducible exact Chg.refl _ _ | refine Chg.alloc ?_ _ | refine Chg.drew ?_)); first | done | fail "chg"))) (fun hHeld => ?_)
        clear hK K
        (try simp only [Act.put, List.setIfInBounds_toArray, List.set_cons_zero, List.set_cons_succ])
        refine oneE (i := 9) rfl (by kernel_rfl) (by kernel_rfl) (fun K hK => ?_)
        go_simp
        go_at_call 51
        refine Calls.mono (num_dr a (N + 1 + 1) _ 4 _ _ (by ((repeat (first | with_reducible assumption | refine Dr.alloc ?_ _ | refine Dr.drew ?_)); first | done | fail "drk")) (by omega) sB (by decide) nB) ?_
        rintro en U3 ⟨z, rfl, hz0, hz1, dU3, kU3⟩
        have cU3 : Chg [a] wr U3 := (show Chg [a] wr _ by ((repeat (first | with_reducible assumption | with_reducible exact Chg.refl _ _ | refine Chg.alloc ?_ _ | refine Chg.drew ?_)); first | done | fail "chg")).trans kU3
        have yU3 : a < U3.heap.size := by have := cU3.size; omega
        go_wp2_with fail
        refine hK.out _ _ (HK.out _ (show Chg [a] wr _ by ((repeat (first | with_reducible assumption | with_reducible exact Chg.refl _ _ | refine Chg.alloc ?_ _ | refine Chg.drew ?_)); first | done | fail "chg"))) (fun hHeld => ?_)
        clear hK K
        (try simp only [Act.put, List.setIfInBounds_toArray, List.set_cons_zero, List.set_cons_succ])
        (refine takeE (i := 10) (v := ?_) [] rfl (by kernel_rfl) (by kernel_rfl) (fun _ _ _ h => h) (Or.inl ⟨by kernel_rfl, ?_⟩) (by assumption) ?_; rotate_left; (focus (intro w hSw; (try dsimp only at hSw); go_simp; first | done | with_reducible rfl | fail "takeE")); (try simp only [Act.put, List.setIfInBounds_toArray, List.set_cons_zero, List.set_cons_succ]))
        refine lastE rfl (by kernel_rfl) (by kernel_rfl) (fun K hK => ?_)
        obtain ⟨b', hpx, hb9, cx, fx, HX⟩ := (GT.out _ (show Chg [a] wr _ from cU3)).cellA hq1
        cases hpx
        have hbl := hb9.1
        have hbn := hb9.2
        go_simp
        refine hK.out _ _ ?_
        clear hK K
        refine doneE (by kernel_rfl) ?_ _
        have hs : Chg [bx] U3 (U3.setCell ⟨bx, q, none⟩ (.int .i64 z)) := (Chg.refl _ _).setCell (by simp) _
        have hB6 := HB.out _ (show Chg [a] wr U3 from cU3)
        have hd := (dU3.mono (show _ ≤ N + 3 by omega)).set (b := bx) (o := q) (x := .int .i64 z) (by omega)
        have hc := (HC3.out.trans cU3).past hs (by simp; omega)
        obtain ⟨F, hF, hFl⟩ := HX z
        generalize U3.setCell ⟨bx, q, none⟩ (.int .i64 z) = E at hs hd hc hF ⊢
        obtain ⟨t0, t1, t2, t3, t4, t5⟩ := hB6
        have b0 := hs.cellOf (by simp; omega) t0
        have b1 := hs.cellOf (by simp; omega) t1
        have r0 := hs.cellOf (by simp; omega) t2
        have r1 := hs.cellOf (by simp; omega) t3
        have r2 := hs.frozenOf (by simp; omega) (by have := cU3.size; omega) t4
        have r3 := hs.frozenOf (by simp; omega) (by have := cU3.size; omega) t5
        have HH := Lib.hid (HFIN.out E _ _ _ F hF (fun y hy => by have := hFl y hy; omega) (by have := HNEED.out; unfold Wk.need at this ⊢; simp only [List.length_set]; omega) hd hc)
        clear hs hd hc hF hFl t0 t1 t2 t3 t4 t5 HX hHeld
        go_wp2_with fail
        exact bodyPost_ret (v := .agg #[.slice (some ⟨bx, 0, none⟩) x.ns.length c1, .slice p2 x.es.length c2]) (by simp [results, Try.results86, go_sem, r0, r1]) rfl HH.out
      · go_simp
        refine made (K := K) intB_spec 4 (by rfl) (by kernel_rfl) ?_
        intro U4 kU4 zU4 sB
        have cU4 : Chg [a] wr U4 := (show Chg [a] wr _ by ((repeat (first | with_reducible assumption | with_reducible exact Chg.refl _ _ | refine Chg.alloc ?_ _ | refine Chg.drew ?_)); first | done | fail "chg")).trans (kU4.mono (by simp))
        have dU4 : Dr U4 a (N + 1) := (show Dr _ a (N + 1) by ((repeat (first | with_reducible assumption | refine Dr.alloc ?_ _ | refine Dr.drew ?_)); first | done | fail "drk")).chg kU4 (by simp)
        have nB : W0.heap.size ≠ a := by omega
        have yU4 : a < U4.heap.size := by have := cU4.size; omega
        refine hK.out _ _ (HK.out _ (show Chg [a] wr _ by ((repeat (first | with_reducible assumption | with_reducible exact Chg.refl _ _ | refine Chg.alloc ?_ _ | refine Chg.drew ?_)); first | done | fail "chg"))) (fun hHeld => ?_)
        clear hK K
        (try simp only [Act.put, List.setIfInBounds_toArray, List.set_cons_zero, List.set_cons_succ])
        refine oneE (i := 6) rfl (by kernel_rfl) (by kernel_rfl) (fun K hK => ?_)
        go_simp
        go_at_call 87
        refine Calls.mono (pick_nat x.ns.length a (N + 1) _ (by ((repeat (first | with_reducible assumption | refine Dr.alloc ?_ _ | refine Dr.drew ?_)); first | done | fail "drk")) (by omega) hpos) ?_
        rintro en U5 ⟨q, rfl, hq1, dU5, kU5⟩
        have cU5 : Chg [a] wr U5 := (show Chg [a] wr _ by ((repeat (first | with_reducible assumption | with_reducible exact Chg.refl _ _ | refine Chg.alloc ?_ _ | refine Chg.drew ?_)); first | done | fail "chg")).trans kU5
        replace sB := sB.chg kU5 (by simpa using nB)
        have yU5 : a < U5.heap.size := by have := cU5.size; omega
        go_wp2_with fail
        refine hK.out _ _ (HK.out _ (show Chg [a] wr _ by ((repeat (first | with_reducible assumption | with_reducible exact Chg.refl _ _ | refine Chg.alloc ?_ _ | refine Chg.drew ?_)); first | done | fail "chg"))) (fun hHeld => ?_)
        clear hK K
        (try simp only [Act.put, List.setIfInBounds_toArray, List.set_cons_zero, List.set_cons_succ])
        refine oneE (i := 9) rfl (by kernel_rfl) (by kernel_rfl) (fun K hK => ?_)
        go_simp
        go_at_call 51
        refine Calls.mono (num_dr a (N + 1 + 1) _ 4 _ _ (by ((repeat (first | with_reducible assumption | refine Dr.alloc ?_ _ | refine Dr.drew ?_)); first | done | fail "drk")) (by omega) sB (by decide) nB) ?_
        rintro en U6 ⟨z, rfl, hz0, hz1, dU6, kU6⟩
        have cU6 : Chg [a] wr U6 := (show Chg [a] wr _ by ((repeat (first | with_reducible assumption | with_reducible exact Chg.refl _ _ | refine Chg.alloc ?_ _ | refine Chg.drew ?_)); first | done | fail "chg")).trans kU6
        have yU6 : a < U6.heap.size := by have := cU6.size; omega
        go_wp2_with fail
        refine hK.out _ _ (HK.out _ (show Chg [a] wr _ by ((repeat (first | with_reducible assumption | with_reducible exact Chg.refl _ _ | refine Chg.alloc ?_ _ | refine Chg.drew ?_)); first | done | fail "chg"))) (fun hHeld => ?_)
        clear hK K
        (try simp only [Act.put, List.setIfInBounds_toArray, List.set_cons_zero, List.set_cons_succ])
        (refine takeE (i := 10) (v := ?_) [] rfl (by kernel_rfl) (by kernel_rfl) (fun _ _ _ h => h) (Or.inl ⟨by kernel_rfl, ?_⟩) (by assumption) ?_; rotate_left; (focus (intro w hSw; (try dsimp only at hSw); go_simp; first | done | with_reducible rfl | fail "takeE")); (try simp only [Act.put, List.setIfInBounds_toArray, List.set_cons_zero, List.set_cons_succ]))
        refine lastE rfl (by kernel_rfl) (by kernel_rfl) (fun K hK => ?_)
        obtain ⟨b', hpx, hb9, cx, fx, HX⟩ := (GT.out _ (show Chg [a] wr _ from cU6)).cellA hq1
        cases hpx
        have hbl := hb9.1
        have hbn := hb9.2
        go_simp
        refine hK.out _ _ ?_
        clear hK K
        refine doneE (by kernel_rfl) ?_ _
        have hs : Chg [bx] U6 (U6.setCell ⟨bx, q, none⟩ (.int .i64 z)) := (Chg.refl _ _).setCell (by simp) _
        have hB6 := HB.out _ (show Chg [a] wr U6 from cU6)
        have hd := (dU6.mono (show _ ≤ N + 3 by omega)).set (b := bx) (o := q) (x := .int .i64 z) (by omega)
        have hc := (HC3.out.trans cU6).past hs (by simp; omega)
        obtain ⟨F, hF, hFl⟩ := HX z
        generalize U6.setCell ⟨bx, q, none⟩ (.int .i64 z) = E at hs hd hc hF ⊢
        obtain ⟨t0, t1, t2, t3, t4, t5⟩ := hB6
        have b0 := hs.cellOf (by simp; omega) t0
        have b1 := hs.cellOf (by simp; omega) t1
        have r0 := hs.cellOf (by simp; omega) t2
        have r1 := hs.cellOf (by simp; omega) t3
        have r2 := hs.frozenOf (by simp; omega) (by have := cU6.size; omega) t4
        have r3 := hs.frozenOf (by simp; omega) (by have := cU6.size; omega) t5
        have HH := Lib.hid (HFIN.out E _ _ _ F hF (fun y hy => by have := hFl y hy; omega) (by have := HNEED.out; unfold Wk.need at this ⊢; simp only [List.length_set]; omega) hd hc)
        clear hs hd hc hF hFl t0 t1 t2 t3 t4 t5 HX hHeld
        go_wp2_with fail
        exact bodyPost_ret (v := .agg #[.slice (some ⟨bx, 0, none⟩) x.ns.length c1, .slice p2 x.es.length c2]) (by simp [results, Try.results86, go_sem, r0, r1]) rfl HH.out
    · go_upto_region 8 with fail
      refine wp_region_E (last := 8) (S := fun w' => w'.cell? ⟨u1.heap.size, 0, none⟩ = some (.slice (some ⟨bx, 0, none⟩) x.ns.length c1) ∧ w'.cell? ⟨u1.heap.size, 1, none⟩ = some (.slice p2 x.es.length c2)) (by kernel_rfl) ?_ (fun hHeld => ?_)
      · exact HK.out _ (show Chg [a] wr _ by ((repeat (first | with_reducible assumption | with_reducible exact Chg.refl _ _ | refine Chg.alloc ?_ _ | refine Chg.drew ?_)); first | done | fail "chg"))
      have cW : Chg [a] wr wr.drew := Chg.drew (Chg.refl _ _)
      have dW : Dr wr.drew a (N + 1) := hd.drew
      have yW : a < wr.drew.heap.size := har
      generalize wr.drew = W0 at cW dW yW hHeld ⊢
      (refine takeE (i := 0) (v := ?_) [] rfl (by kernel_rfl) (by kernel_rfl) (fun _ _ _ h => h) (Or.inl ⟨by kernel_rfl, ?_⟩) (by assumption) ?_; rotate_left; (focus (intro w hSw; (try dsimp only at hSw); go_simp; first | done | with_reducible rfl | fail "takeE")); (try simp only [Act.put, List.setIfInBounds_toArray, List.set_cons_zero, List.set_cons_succ]))
      (refine takeE (i := 1) (v := ?_) [] rfl (by kernel_rfl) (by kernel_rfl) (fun _ _ _ h => h) (Or.inl ⟨by kernel_rfl, ?_⟩) (by assumption) ?_; rotate_left; (focus (intro w hSw; (try dsimp only at hSw); go_simp; first | done | with_reducible rfl | fail "takeE")); (try simp only [Act.put, List.setIfInBounds_toArray, List.set_cons_zero, List.set_cons_succ]))
      (refine takeE (i := 2) (v := ?_) [] rfl (by kernel_rfl) (by kernel_rfl) (fun _ _ _ h => h) (Or.inl ⟨by kernel_rfl, ?_⟩) (by assumption) ?_; rotate_left; (focus (intro w hSw; (try dsimp only at hSw); go_simp; first | done | with_reducible rfl | fail "takeE")); (try simp only [Act.put, List.setIfInBounds_toArray, List.set_cons_zero, List.set_cons_succ]))
      refine oneE (i := 3) rfl (by kernel_rfl) (by kernel_rfl) (fun K hK => ?_)
      go_simp
      refine made (K := K) intB_spec 2 (by rfl) (by kernel_rfl) ?_
      intro U1 kU1 zU1 sB
      have cU1 : Chg [a] wr U1 := (show Chg [a] wr _ by ((repeat (first | with_reducible assumption | with_reducible exact Chg.refl _ _ | refine Chg.alloc ?_ _ | refine Chg.drew ?_)); first | done | fail "chg")).trans (kU1.mono (by simp))
      have dU1 : Dr U1 a (N + 1) := (show Dr _ a (N + 1) by ((repeat (first | with_reducible assumption | refine Dr.alloc ?_ _ | refine Dr.drew ?_)); first | done | fail "drk")).chg kU1 (by simp)
      have nB : W0.heap.size ≠ a := by omega
      have yU1 : a < U1.heap.size := by have := cU1.size; omega
      refine hK.out _ _ (HK.out _ (show Chg [a] wr _ by ((repeat (first | with_reducible assumption | with_reducible exact Chg.refl _ _ | refine Chg.alloc ?_ _ | refine Chg.drew ?_)); first | done | fail "chg"))) (fun hHeld => ?_)
      clear hK K
      (try simp only [Act.put, List.setIfInBounds_toArray, List.set_cons_zero, List.set_cons_succ])
      refine oneE (i := 4) rfl (by kernel_rfl) (by kernel_rfl) (fun K hK => ?_)
      go_simp
      go_at_call 51
      refine Calls.mono (num_dr a (N + 1) _ 2 _ _ (by ((repeat (first | with_reducible assumption | refine Dr.alloc ?_ _ | refine Dr.drew ?_)); first | done | fail "drk")) (by omega) sB (by decide) nB) ?_
      rintro en U2 ⟨z, rfl, hz0, hz1, dU2, kU2⟩
      have cU2 : Chg [a] wr U2 := (show Chg [a] wr _ by ((repeat (first | with_reducible assumption | with_reducible exact Chg.refl _ _ | refine Chg.alloc ?_ _ | refine Chg.drew ?_)); first | done | fail "chg")).trans kU2
      have yU2 : a < U2.heap.size := by have := cU2.size; omega
      go_wp2_with fail
      refine hK.out _ _ (HK.out _ (show Chg [a] wr _ by ((repeat (first | with_reducible assumption | with_reducible exact Chg.refl _ _ | refine Chg.alloc ?_ _ | refine Chg.drew ?_)); first | done | fail "chg"))) (fun hHeld => ?_)
      clear hK K
      (try simp only [Act.put, List.setIfInBounds_toArray, List.set_cons_zero, List.set_cons_succ])
      refine oneE (i := 5) rfl (by kernel_rfl) (by kernel_rfl) (fun K hK => ?_)
      go_simp
      refine hK.out _ _ (HK.out _ (show Chg [a] wr _ by ((repeat (first | with_reducible assumption | with_reducible exact Chg.refl _ _ | refine Chg.alloc ?_ _ | refine Chg.drew ?_)); first | done | fail "chg"))) (fun hHeld => ?_)
      clear hK K
      (try simp only [Act.put, List.setIfInBounds_toArray, List.set_cons_zero, List.set_cons_succ])
      refine oneE (i := 6) rfl (by kernel_rfl) (by kernel_rfl) (fun K hK => ?_)
      have HT := GT.out _ (show Chg [a] wr _ from cU2)
      refine wp_app (.tmp 31) (.tmp 35) 23 (by rfl) _ _ (by rfl) (by rfl) _ (appB HT (Chg.refl [] _) (by simp) z (by omega)) ?_
      rintro v' w' ⟨hT, ⟨e0, e1, e2, e3⟩, ⟨pv, cv, rfl⟩, G, hG, hGl⟩
      have HT2 := Lib.hid hT
      have HG := Lib.hid hG
      have HGl := Lib.hid hGl
      clear hT hG hGl HT
      refine hK.out _ _ ⟨e0, e1⟩ (fun hHeld => ?_)
      clear hK K
      (try simp only [Act.put, List.setIfInBounds_toArray, List.set_cons_zero, List.set_cons_succ])
      (refine takeE (i := 7) (v := ?_) [] rfl (by kernel_rfl) (by kernel_rfl) (fun _ _ _ h => h) (Or.inl ⟨by kernel_rfl, ?_⟩) (by assumption) ?_; rotate_left; (focus (intro w hSw; (try dsimp only at hSw); go_simp; first | done | with_reducible rfl | fail "takeE")); (try simp only [Act.put, List.setIfInBounds_toArray, List.set_cons_zero, List.set_cons_succ]))
      refine lastE rfl (by kernel_rfl) (by kernel_rfl) (fun K hK => ?_)
      go_simp
      refine hK.out _ _ ?_
      clear hK K
      refine doneE (by kernel_rfl) ?_ _
      have hB6 := HB.out _ (show Chg [a] wr U2 from cU2)
      have hd := (dU2.mono (show _ ≤ N + 3 by omega)).chg HG.out (fun x hx => by have := HGl.out x hx; omega)
      have hc := (HC3.out.trans cU2).past HG.out (fun x hx => .inr (by have := HGl.out x hx; omega))
      generalize w'.setCell ⟨u1.heap.size, 1, none⟩ (.slice pv (x.es.length + 1) cv) = E at HT2 HG hd hc ⊢
      obtain ⟨t0, t1, t2, t3, t4, t5⟩ := hB6
      have b0 := HT2.out.2.1.1
      have b1 := HT2.out.2.1.2
      have hGn : w.heap.size + 1 ∉ G := fun hm => by have := HGl.out _ hm; omega
      have r0 := HG.out.cellOf hGn t2
      have r1 := HG.out.cellOf hGn t3
      have r2 := HG.out.frozenOf hGn (by have := cU2.size; omega) t4
      have r3 := HG.out.frozenOf hGn (by have := cU2.size; omega) t5
      obtain ⟨F, hF, hFl⟩ := WTwo.has HT2.out
      have HH := Lib.hid (HFIN.out E _ _ _ F hF (fun y hy => by have := (hFl y hy).1; omega) (by have := HNEED.out; unfold Wk.need at this ⊢; simp only [List.length_append, List.length_singleton]; omega) hd hc)
      clear hd hc hF hFl t0 t1 t2 t3 t4 t5 HG HT2 hHeld
      go_wp2_with fail
      exact bodyPost_ret (v := .agg #[.slice (some ⟨bx, 0, none⟩) x.ns.length c1, .slice pv (x.es.length + 1) cv]) (by simp [results, Try.results86, go_sem, r0, r1]) rfl HH.out
    · obtain ⟨m, hm⟩ : ∃ m : Nat, (x.ns.length : Int) - 1 = (m : Int) := ⟨x.ns.length - 1, by omega⟩
      have hm1 : m < x.ns.length := by omega
      have hm2 : (x.ns.length : Int) ≤ (c1 : Int) := by obtain ⟨_, _, _, F1, F2, o1, _⟩ := HT3.out; obtain ⟨_, _, e1, e2, _⟩ := o1; cases e1; omega
      have hm3 : (m : Int) ≤ (c1 : Int) := by omega
      have hm4 : m ≤ c1 := by omega
      obtain ⟨t0, t1, r0, r1, r2, r3⟩ := HB.out wr (Chg.refl _ _)
      obtain ⟨f0, f1⟩ := HT3.out.2.2.1
      have HH := Lib.hid (show WrongW a N M w (.returned (.agg #[.slice (some ⟨bx, 0, none⟩) m c1, .slice p2 x.es.length c2])) (((wr.setCell ⟨u1.heap.size, 0, none⟩ (.slice (some ⟨bx, 0, none⟩) m c1)).setCell ⟨w.heap.size + 1, 0, none⟩ (.slice (some ⟨bx, 0, none⟩) m c1)).setCell ⟨w.heap.size + 1, 1, none⟩ (.slice p2 x.es.length c2)) from by
        have hs : Chg [u1.heap.size] wr (wr.setCell ⟨u1.heap.size, 0, none⟩ (.slice (some ⟨bx, 0, none⟩) m c1)) := (Chg.refl _ _).setCell (by simp) _
        obtain ⟨_, _, _, F1, F2, o1, o2, g1, g2, dj⟩ := HT3.out.chg (Chg.refl [] wr) (by simp)
        have q1 := (OwnSl.cut (OwnS.own (enc := intCells) (fun _ => rfl) o1) (k := m) (by omega)).chg hs (fun y hy hn => (g1 y hy).2 (by simpa using hn))
        have q2 := (OwnS.own (enc := intCells) (fun _ => rfl) o2).chg hs (fun y hy hn => (g2 y hy).2 (by simpa using hn))
        exact HFIN.out _ _ _ ⟨x.ns.take m, x.es⟩ (F1 ++ F2) ⟨_, _, F1, F2, rfl, rfl, q1, q2, dj⟩ (fun y hy => by rcases List.mem_append.1 hy with h | h; (exact (g1 y h).1); (exact (g2 y h).1)) (by have := HNEED.out; unfold Wk.need at this ⊢; simp only [List.length_take]; omega) ((hd.chg hs (by simp; omega)).mono (by omega)) (HC3.out.past hs (by simp; omega)))
      have hq1 : w.heap.size + 1 < u1.heap.size := by omega
      go_wp2_with fail
      exact bodyPost_ret (v := .agg #[.slice (some ⟨bx, 0, none⟩) m c1, .slice p2 x.es.length c2]) (by simp [results, Try.results86, go_sem, r0, r1]) rfl HH.out
    · have t0 : ((t : Int) == 0) = false := beq_eq_false_iff_ne.2 (by omega)
      have t1 : ((t : Int) == 1) = false := beq_eq_false_iff_ne.2 (by omega)
      have t2 : ((t : Int) == 2) = false := beq_eq_false_iff_ne.2 (by omega)
      obtain ⟨b0, b1, r0, r1, r2, r3⟩ := HB.out wr (Chg.refl _ _)
      obtain ⟨F, hF, hFl⟩ := WTwo.has HT3.out
      have HH := Lib.hid (HFIN.out wr _ _ _ F hF (fun y hy => by have := (hFl y hy).1; omega) (by have := HNEED.out; unfold Wk.need at this ⊢; simp only; omega) (hd.mono (by omega)) HC3.out)
      clear hF hFl
      go_wp2_with fail
      exact bodyPost_ret (v := .agg #[.slice (some ⟨bx, 0, none⟩) x.ns.length c1, .slice p2 x.es.length c2]) (by simp [results, Try.results86, go_sem, r0, r1]) rfl HH.out
end Go.Proofs.Ytfdkmngkpihpbaa
