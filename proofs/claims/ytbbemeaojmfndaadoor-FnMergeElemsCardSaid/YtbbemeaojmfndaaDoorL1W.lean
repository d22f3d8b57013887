/- l1Wrong: a graph like another one. -/
import Derived.Test.YtbbemeaojmfndaaDoorCopy
import Derived.Test.YtbbemeaojmfndaaDoorL1D
import Derived.Test.YtbbemeaojmfndaaDoorM1q1p1
namespace Go.Proofs.YtbbemeaojmfndaaDoor
open Go.RowKit

theorem Gr.At.form' {g : Gr} {B : Nat} {w : World} {v : Value} (h : g.At B w v) : ∃ p c q d, v = .agg #[.slice p g.ns.length c, .slice q g.es.length d] := by
  obtain ⟨a, b, rfl, h1, h2⟩ := h
  obtain ⟨p, c, rfl⟩ := h1.form
  obtain ⟨q, d, rfl⟩ := h2.form
  exact ⟨p, c, q, d, rfl⟩
def WrongG (a N M : Nat) (w : World) (e : Ending) (w' : World) : Prop :=
  ∃ (y : Gr) (u : Value) (F : List Nat), e = .returned u ∧ (y.Has u F w' ∧ (∀ z ∈ F, w.heap.size ≤ z) ∧ y.Ok ∧ y.ns.length ≤ M + 1 ∧ y.es.length ≤ M + 1) ∧ Dr w' a (N + 5) ∧ Chg [a] w w'
theorem ok_set1 {g : Gr} (h : g.Ok) {q : Nat} (hq : q < g.ns.length) {x : ByteArray} (hx : x.size ≤ 100) : (⟨g.ns.set q ⟨x, g.ns[q].n⟩, g.es⟩ : Gr).Ok :=
  ⟨fun y hy => by
    rcases List.mem_or_eq_of_mem_set hy with h1 | rfl
    · exact h.1 y h1
    · exact ⟨small_len hx, (h.1 _ (List.getElem_mem hq)).2⟩, h.2⟩
theorem ok_set2 {g : Gr} (h : g.Ok) {q : Nat} (hq : q < g.ns.length) {z : Int} (h0 : -1000 ≤ z) (h1 : z ≤ 1000) : (⟨g.ns.set q ⟨g.ns[q].l, z⟩, g.es⟩ : Gr).Ok :=
  ⟨fun y hy => by
    rcases List.mem_or_eq_of_mem_set hy with h2 | rfl
    · exact h.1 y h2
    · exact ⟨(h.1 _ (List.getElem_mem hq)).1, by unfold I64; simp only; omega⟩, h.2⟩
theorem ok_app {g : Gr} (h : g.Ok) {z r : Int} (h0 : -1000 ≤ z) (h1 : z ≤ 1000) (h2 : -1000 ≤ r) (h3 : r ≤ 1000) : (⟨g.ns, g.es ++ [⟨z, r, ⟨#[]⟩, 0⟩]⟩ : Gr).Ok :=
  ⟨h.1, fun y hy => by
    rcases List.mem_append.1 hy with hy | hy
    · exact h.2 y hy
    · simp at hy; subst hy; exact ⟨by unfold I64; simp only; omega, by unfold I64; simp only; omega, small_len (by show (0 : Nat) ≤ 100; decide), by unfold I64; simp only; omega⟩⟩
/-- A place of the row of nodes: its cells, and what a store leaves. -/
theorem Two.cellN {ns : List Nd} {es : List Ed} {b lo : Nat} {p : Option Addr} {n c : Nat} {v2 : Value} {E : World} (h : GTwo ns es b lo (.slice p n c) v2 E) {q : Nat} (hq : q < ns.length) :
    ∃ bx, p = some ⟨bx, 0, none⟩ ∧ (lo ≤ bx ∧ bx ≠ b) ∧ E.cell? ⟨bx, q * 2, none⟩ = some (.string ns[q].l) ∧ E.cell? ⟨bx, q * 2 + 1, none⟩ = some (.int .i64 ns[q].n) ∧ E.frozen? ⟨bx, q * 2, none⟩ = false ∧ E.frozen? ⟨bx, q * 2 + 1, none⟩ = false ∧
      (∀ s : ByteArray, ∃ F, (⟨ns.set q ⟨s, ns[q].n⟩, es⟩ : Gr).Has (.agg #[.slice p n c, v2]) F (E.setCell ⟨bx, q * 2, none⟩ (.string s)) ∧ ∀ y ∈ F, lo ≤ y) ∧
      (∀ z : Int, ∃ F, (⟨ns.set q ⟨ns[q].l, z⟩, es⟩ : Gr).Has (.agg #[.slice p n c, v2]) F (E.setCell ⟨bx, q * 2 + 1, none⟩ (.int .i64 z)) ∧ ∀ y ∈ F, lo ≤ y) := by
  obtain ⟨⟨h1, h2⟩, ⟨h3, h4⟩, ⟨h5, h6⟩, F1, F2, h7, h8, h9, h10, h11⟩ := h
  have o1 := OwnS.own (enc := Nd.cells) (fun _ => rfl) h7
  have o2 := OwnS.own (enc := Ed.cells) (fun _ => rfl) h8
  obtain ⟨p', c', e1, g2, g3, g4⟩ := h7
  cases e1
  rcases g4 with ⟨rfl, _⟩ | ⟨bx, cur, rfl, rfl, hg, hs, ht⟩
  · simp at hq
  have hF : ∀ y ∈ [bx] ++ F2, lo ≤ y := fun y hy => by
    rcases List.mem_append.1 hy with h | h
    · exact (h9 y h).1
    · exact (h10 y h).1
  have hk : ∀ (o : Nat) (u : Value), OwnSl 4 Ed.cells (E.setCell ⟨bx, o, none⟩ u) v2 es F2 := fun o u => o2.chg (G := [bx]) ((Chg.refl _ _).setCell (by simp) _) (fun y hy hm => by simp at hm; subst hm; exact h11 _ (by simp) hy)
  obtain ⟨b', off, e, _, c0, c1⟩ := o1.sl.nd hq
  cases e
  rw [Nat.zero_add] at c0 c1
  refine ⟨bx, rfl, h9 bx (by simp), c0, c1, by simp [World.frozen?, hg], by simp [World.frozen?, hg], fun s => ?_, fun z => ?_⟩
  · refine ⟨[bx] ++ F2, ⟨[bx], F2, rfl, _, _, rfl, ?_, hk _ _, fun _ _ => Nat.zero_le _, fun _ _ => Nat.zero_le _, h11⟩, hF⟩
    have := o1.store (k := q) hq (fun _ => rfl) 0 (by decide) ⟨s, ns[q].n⟩ (.string s) rfl
    rw [Nat.zero_add, Nat.add_zero] at this
    exact this
  · refine ⟨[bx] ++ F2, ⟨[bx], F2, rfl, _, _, rfl, ?_, hk _ _, fun _ _ => Nat.zero_le _, fun _ _ => Nat.zero_le _, h11⟩, hF⟩
    have := o1.store (k := q) hq (fun _ => rfl) 1 (by decide) ⟨ns[q].l, z⟩ (.int .i64 z) rfl
    rw [Nat.zero_add] at this
    exact this

set_option maxRecDepth 100000 in
set_option maxHeartbeats 16000000 in
theorem l1Wrong_any (g : Gr) (v : Value) (B a N M : Nat) (w : World) (hx : g.At B w v) (hB : B ≤ w.heap.size) (hok : g.Ok) (hM : g.ns.length ≤ M ∧ g.es.length ≤ M) (hM2 : M ≤ 3000) (h : Dr w a N) (hN : N ≤ 900000) :
    Calls Tryd.prog 67 #[.pointer (some ⟨a, 0, none⟩), v] w (WrongG a N M w) := by
  have hal := h.lt
  have HNEED := Lib.hid hM
  have HOK := Lib.hid hok
  have hn1 : g.ns.length ≤ 3000 := by omega
  have hn2 : g.es.length ≤ 3000 := by omega
  obtain ⟨px, cx, qx, dx, rfl⟩ := Gr.At.form' hx
  have CC := Lib.hid (fun (E : World) (hE : Below B w E) => l1CopyB_any g _ B E (hx.below hE) (by have := hE.size; omega) (by omega) (by omega))
  clear hx hM hok
  go_enter Tryd.func67, Tryd.ntmps67
  go_wp2_with fail
  obtain ⟨W1, eW1⟩ : ∃ E, E = (w.alloc (.cells #[.slice px g.ns.length cx, .slice qx g.es.length dx] 36)).alloc (.cells #[.slice none 0 0, .slice none 0 0] 36) := ⟨_, rfl⟩
  have sW1 : W1.heap.size = w.heap.size + 2 := by rw [eW1]; simp
  have HW1 := Lib.hid (show Below w.heap.size w W1 by rw [eW1]; exact ((Below.refl _ _).alloc (Nat.le_refl _) _).alloc (by simp) _)
  have HRES := Lib.hid (show (W1.cell? ⟨w.heap.size + 1, 0, none⟩ = some (.slice none 0 0) ∧ W1.cell? ⟨w.heap.size + 1, 1, none⟩ = some (.slice none 0 0)) ∧ W1.frozen? ⟨w.heap.size + 1, 0, none⟩ = false ∧ W1.frozen? ⟨w.heap.size + 1, 1, none⟩ = false by rw [eW1]; exact ⟨⟨by simp [go_sem], by simp [go_sem]⟩, by simp [go_sem], by simp [go_sem]⟩)
  have HFIN := Lib.hid (fun (E : World) (s1 s2 : Value) (y : Gr) (F : List Nat) (hF : y.Has (.agg #[s1, s2]) F E) (hFl : ∀ z ∈ F, w.heap.size + 2 ≤ z) (hk : y.Ok) (hn : y.ns.length ≤ M + 1) (hn' : y.es.length ≤ M + 1) (hd : Dr E a (N + 5)) (hc : Chg [a] W1 E) =>
    show WrongG a N M w (.returned (.agg #[s1, s2])) ((E.setCell ⟨w.heap.size + 1, 0, none⟩ s1).setCell ⟨w.heap.size + 1, 1, none⟩ s2) from by
      have hs : Chg [w.heap.size + 1] E ((E.setCell ⟨w.heap.size + 1, 0, none⟩ s1).setCell ⟨w.heap.size + 1, 1, none⟩ s2) := ((Chg.refl _ _).setCell (by simp) _).setCell (by simp) _
      exact ⟨y, _, F, rfl, ⟨hF.chg hs (fun z hz => by have := hFl z hz; simp; omega), fun z hz => by have := hFl z hz; omega, hk, hn, hn'⟩, hd.chg hs (by simp; omega), ((Chg.of_below HW1.out [a]).trans hc).past hs (by simp)⟩)
  rw [← eW1]
  refine (CC.out W1 (HW1.out.mono hB)).mono ?_
  rintro en u1 ⟨vu, F1, F2, rfl, ⟨sa, sb, rfl, o1, o2, f1, f2, dj⟩, hb1⟩
  have o1' : OwnS 2 Nd.cells 77 u1 sa g.ns F1 := o1
  have o2' : OwnS 4 Ed.cells 110 u1 sb g.es F2 := o2
  clear o1 o2
  obtain ⟨p1, c1, rfl⟩ := o1'.form
  obtain ⟨p2, c2, rfl⟩ := o2'.form
  have su1 : w.heap.size + 2 ≤ u1.heap.size := by have := hb1.size; omega
  obtain ⟨W2, eW2⟩ : ∃ E, E = u1.alloc (.cells #[.slice p1 g.ns.length c1, .slice p2 g.es.length c2] 36) := ⟨_, rfl⟩
  have sW2 : W2.heap.size = u1.heap.size + 1 := by rw [eW2]; simp
  have kW2 : Chg [] u1 W2 := by rw [eW2]; exact (Chg.refl _ _).alloc _
  have HT := Lib.hid (show GTwo g.ns g.es u1.heap.size (w.heap.size + 2) (.slice p1 g.ns.length c1) (.slice p2 g.es.length c2) W2 from
    ⟨⟨by omega, by omega⟩, ⟨by rw [eW2]; simp [go_sem], by rw [eW2]; simp [go_sem]⟩, ⟨by rw [eW2]; simp [go_sem], by rw [eW2]; simp [go_sem]⟩, F1, F2, OwnS.chg o1' kW2 (by simp), OwnS.chg o2' kW2 (by simp), fun y hy => ⟨by have := f1 y hy; omega, by have := o1'.lt y hy; omega⟩, fun y hy => ⟨by have := f2 y hy; omega, by have := o2'.lt y hy; omega⟩, dj⟩)
  have HC2 := Lib.hid (((Chg.of_below hb1 [a]).trans (kW2.mono (by simp))) : Chg [a] W1 W2)
  have d2 : Dr W2 a N := ((h.below HW1.out).below hb1).chg kW2 (by simp)
  clear o1' o2' f1 f2 dj hb1 kW2
  go_upto_region 2 with fail
  rw [← eW2]
  clear eW2
  have y0 := HT.out.2.1.1
  have y1 := HT.out.2.1.2
  go_wp2_with fail
  refine (pick_nat 16 a N W2 d2 (by omega) (by decide)).mono ?_
  rintro en w3 ⟨t, rfl, ht, hd, k3⟩
  have HC3 := Lib.hid (HC2.out.trans k3)
  have HT3 := Lib.hid (HT.out.chg k3 (by simp; omega))
  have hsz := HC3.out.size
  clear k3 d2 y0 y1
  have hstop : ∀ (E : World), Chg [a] w3 E → Dr E a (N + 3) → (E.cell? ⟨u1.heap.size, 0, none⟩ = some (.slice p1 g.ns.length c1) ∧ E.cell? ⟨u1.heap.size, 1, none⟩ = some (.slice p2 g.es.length c2)) ∧ ((E.cell? ⟨w.heap.size + 1, 0, none⟩ = some (.slice none 0 0) ∧ E.cell? ⟨w.heap.size + 1, 1, none⟩ = some (.slice none 0 0)) ∧ E.frozen? ⟨w.heap.size + 1, 0, none⟩ = false ∧ E.frozen? ⟨w.heap.size + 1, 1, none⟩ = false) ∧
      WrongG a N M w (.returned (.agg #[.slice p1 g.ns.length c1, .slice p2 g.es.length c2])) ((E.setCell ⟨w.heap.size + 1, 0, none⟩ (.slice p1 g.ns.length c1)).setCell ⟨w.heap.size + 1, 1, none⟩ (.slice p2 g.es.length c2)) := fun E hE hD => by
    have hc := HC3.out.trans hE
    have hT := HT3.out.chg hE (by simp; omega)
    obtain ⟨F, hF, hFl⟩ := Two.has (g := g) hT
    exact ⟨hT.2.1, ⟨⟨hc.cellOf (by simp; omega) HRES.out.1.1, hc.cellOf (by simp; omega) HRES.out.1.2⟩, hc.frozenOf (by simp; omega) (by omega) HRES.out.2.1, hc.frozenOf (by simp; omega) (by omega) HRES.out.2.2⟩,
      HFIN.out E _ _ _ F hF (fun y hy => by have := (hFl y hy).1; omega) HOK.out (Nat.le_succ_of_le HNEED.out.1) (Nat.le_succ_of_le HNEED.out.2) (hD.mono (by omega)) hc⟩
  have HSTOP := Lib.hid hstop
  clear hstop
  by_cases hz : 0 < t
  · have q0 : (0 < t) = True := eq_true hz
    clear hz
    obtain ⟨⟨b0, b1⟩, ⟨⟨r0, r1⟩, r2, r3⟩, hh⟩ := HSTOP.out w3 (Chg.refl _ _) (hd.mono (by omega))
    have HH := Lib.hid hh
    clear hh
    go_wp2_with fail
    exact bodyPost_ret (v := .agg #[.slice p1 g.ns.length c1, .slice p2 g.es.length c2]) (by simp [results, Tryd.results67, go_sem, r0, r1]) rfl HH.out
  have q0 : (0 < t) = False := eq_false hz
  clear hz
  by_cases hz : g.ns.length = 0
  · have q1 : ((g.ns.length : Int) == 0) = true := beq_iff_eq.2 (by omega)
    clear hz
    obtain ⟨⟨b0, b1⟩, ⟨⟨r0, r1⟩, r2, r3⟩, hh⟩ := HSTOP.out w3 (Chg.refl _ _) (hd.mono (by omega))
    have HH := Lib.hid hh
    clear hh
    go_wp2_with fail
    exact bodyPost_ret (v := .agg #[.slice p1 g.ns.length c1, .slice p2 g.es.length c2]) (by simp [results, Tryd.results67, go_sem, r0, r1]) rfl HH.out
  have q1 : ((g.ns.length : Int) == 0) = false := beq_eq_false_iff_ne.2 (by omega)
  have hpos : 0 < g.ns.length := by omega
  clear hz
  obtain ⟨⟨y0, y1⟩, _, _⟩ := HSTOP.out w3 (Chg.refl _ _) (hd.mono (by omega))
  go_wp2_with fail
  refine (pick_nat g.ns.length a (N + 1) w3 hd (by omega) hpos).mono ?_
  rintro en w4 ⟨q, rfl, hq1, hd4, k4⟩
  have HC4 := Lib.hid (HC3.out.trans k4)
  have HT4 := Lib.hid (HT3.out.chg k4 (by simp; omega))
  clear hd k4 y0 y1 HC3 HT3 HSTOP
  have hsz4 := HC4.out.size
  go_wp2_with fail
  refine (pick_nat 5 a (N + 2) w4 hd4 (by omega) (by decide)).mono ?_
  rintro en wr ⟨t', rfl, ht', hd, k5⟩
  have HC3 := Lib.hid (HC4.out.trans k5)
  have HT3 := Lib.hid (HT4.out.chg k5 (by simp; omega))
  clear hd4 k5 HC4 HT4
  have hszr := HC3.out.size
  have GT := Lib.hid (fun (E : World) (hE : Chg [a] wr E) => HT3.out.chg hE (by simp; omega))
  have HK := Lib.hid (fun (E : World) (hE : Chg [a] wr E) => (GT.out E hE).2.1)
  have HB := Lib.hid (fun (E : World) (hE : Chg [a] wr E) => And.intro (HK.out E hE).1 (And.intro (HK.out E hE).2 (And.intro ((HC3.out.trans hE).cellOf (b := w.heap.size + 1) (o := 0) (by simp; omega) HRES.out.1.1) (And.intro ((HC3.out.trans hE).cellOf (b := w.heap.size + 1) (o := 1) (by simp; omega) HRES.out.1.2) (And.intro ((HC3.out.trans hE).frozenOf (b := w.heap.size + 1) (o := 0) (by simp; omega) (by omega) HRES.out.2.1) ((HC3.out.trans hE).frozenOf (b := w.heap.size + 1) (o := 1) (by simp; omega) (by omega) HRES.out.2.2))))))
  have har : a < wr.heap.size := by omega
  obtain ⟨bx, rfl, hbx, _⟩ := HT3.out.cellN hpos
  have hne := hbx.2
  have hlo := hbx.1
  clear hbx
  have hq2 : (q : Int) < (g.ns.length : Int) := by omega
  rcases (by omega : t' = 0 ∨ t' = 1 ∨ t' = 2 ∨ t' = 3 ∨ 4 ≤ t') with rfl | rfl | rfl | rfl | ht3
  · skip
    go_upto_region 7 with fail
    refine wp_region_E (last := 8) (S := fun w' => w'.cell? ⟨u1.heap.size, 0, none⟩ = some (.slice (some ⟨bx, 0, none⟩) g.ns.length c1) ∧ w'.cell? ⟨u1.heap.size, 1, none⟩ = some (.slice p2 g.es.length c2)) (by kernel_rfl) ?_ (fun hHeld => ?_)
    · exact HK.out _ (show Chg [a] wr _ by ((repeat (first | with_reducible assumption | with_reducible exact Chg.refl _ _ | refine Chg.alloc ?_ _ | refine Chg.drew ?_)); first | done | fail "chg"))
    have cW : Chg [a] wr wr.drew := Chg.drew (Chg.refl _ _)
    have dW : Dr wr.drew a (N + 3) := hd.drew
    have yW : a < wr.drew.heap.size := har
    generalize wr.drew = W0 at cW dW yW hHeld ⊢
    (refine takeE (i := 0) (v := ?_) [] rfl (by kernel_rfl) (by kernel_rfl) (fun _ _ _ h => h) (Or.inl ⟨by kernel_rfl, ?_⟩) (by assumption) ?_; rotate_left; (focus (intro w hSw; (try dsimp only at hSw); go_simp; first | done | with_reducible rfl | fail "takeE")); (try simp only [Act.put, List.setIfInBounds_toArray, List.set_cons_zero, List.set_cons_succ]))
    (refine takeE (i := 1) (v := ?_) [] rfl (by kernel_rfl) (by kernel_rfl) (fun _ _ _ h => h) (Or.inl ⟨by kernel_rfl, ?_⟩) (by assumption) ?_; rotate_left; (focus (intro w hSw; (try dsimp only at hSw); go_simp; first | done | with_reducible rfl | fail "takeE")); (try simp only [Act.put, List.setIfInBounds_toArray, List.set_cons_zero, List.set_cons_succ]))
    (refine takeE (i := 2) (v := ?_) [] rfl (by kernel_rfl) (by kernel_rfl) (fun _ _ _ h => h) (Or.inl ⟨by kernel_rfl, ?_⟩) (by assumption) ?_; rotate_left; (focus (intro w hSw; (try dsimp only at hSw); go_simp; first | done | with_reducible rfl | fail "takeE")); (try simp only [Act.put, List.setIfInBounds_toArray, List.set_cons_zero, List.set_cons_succ]))
    (refine takeE (i := 3) (v := ?_) [] rfl (by kernel_rfl) (by kernel_rfl) (fun _ _ _ h => h) (Or.inl ⟨by kernel_rfl, ?_⟩) (by assumption) ?_; rotate_left; (focus (intro w hSw; (try dsimp only at hSw); go_simp; first | done | with_reducible rfl | fail "takeE")); (try simp only [Act.put, List.setIfInBounds_toArray, List.set_cons_zero, List.set_cons_succ]))
    refine oneE (i := 4) rfl (by kernel_rfl) (by kernel_rfl) (fun K hK => ?_)
    go_simp
    refine made (K := K) strB_spec 3 (by rfl) (by kernel_rfl) ?_
    intro U1 kU1 zU1 sA
    have cU1 : Chg [a] wr U1 := (show Chg [a] wr _ by ((repeat (first | with_reducible assumption | with_reducible exact Chg.refl _ _ | refine Chg.alloc ?_ _ | refine Chg.drew ?_)); first | done | fail "chg")).trans (kU1.mono (by simp))
    have dU1 : Dr U1 a (N + 3) := (show Dr _ a (N + 3) by ((repeat (first | with_reducible assumption | refine Dr.alloc ?_ _ | refine Dr.drew ?_)); first | done | fail "drk")).chg kU1 (by simp)
    have nA : W0.heap.size ≠ a := by omega
    have yU1 : a < U1.heap.size := by have := cU1.size; omega
    refine hK.out _ _ (HK.out _ (show Chg [a] wr _ by ((repeat (first | with_reducible assumption | with_reducible exact Chg.refl _ _ | refine Chg.alloc ?_ _ | refine Chg.drew ?_)); first | done | fail "chg"))) (fun hHeld => ?_)
    clear hK K
    (try simp only [Act.put, List.setIfInBounds_toArray, List.set_cons_zero, List.set_cons_succ])
    refine oneE (i := 5) rfl (by kernel_rfl) (by kernel_rfl) (fun K hK => ?_)
    go_simp
    go_at_call 56
    refine Calls.mono (of_dr a (N + 3) _ 3 _ _ (by ((repeat (first | with_reducible assumption | refine Dr.alloc ?_ _ | refine Dr.drew ?_)); first | done | fail "drk")) (by omega) sA (by decide) nA) ?_
    rintro en U2 ⟨x, rfl, hx, dU2, kU2⟩
    have cU2 : Chg [a] wr U2 := (show Chg [a] wr _ by ((repeat (first | with_reducible assumption | with_reducible exact Chg.refl _ _ | refine Chg.alloc ?_ _ | refine Chg.drew ?_)); first | done | fail "chg")).trans kU2
    have yU2 : a < U2.heap.size := by have := cU2.size; omega
    go_wp2_with fail
    refine hK.out _ _ (HK.out _ (show Chg [a] wr _ by ((repeat (first | with_reducible assumption | with_reducible exact Chg.refl _ _ | refine Chg.alloc ?_ _ | refine Chg.drew ?_)); first | done | fail "chg"))) (fun hHeld => ?_)
    clear hK K
    (try simp only [Act.put, List.setIfInBounds_toArray, List.set_cons_zero, List.set_cons_succ])
    (refine takeE (i := 6) (v := ?_) [7] rfl (by kernel_rfl) (by kernel_rfl) (fun _ _ _ h => h) (Or.inl ⟨by kernel_rfl, ?_⟩) (by assumption) ?_; rotate_left; (focus (intro w hSw; (try dsimp only at hSw); go_simp; first | done | with_reducible rfl | fail "takeE")); (try simp only [Act.put, List.setIfInBounds_toArray, List.set_cons_zero, List.set_cons_succ]))
    (refine takeE (i := 7) (v := ?_) [] rfl (by kernel_rfl) (by kernel_rfl) (fun _ _ _ h => h) (Or.inl ⟨by kernel_rfl, ?_⟩) (by assumption) ?_; rotate_left; (focus (intro w hSw; (try dsimp only at hSw); go_simp; first | done | with_reducible rfl | fail "takeE")); (try simp only [Act.put, List.setIfInBounds_toArray, List.set_cons_zero, List.set_cons_succ]))
    refine lastE rfl (by kernel_rfl) (by kernel_rfl) (fun K hK => ?_)
    obtain ⟨b', hpx, hb9, c0x, c1x, f0x, f1x, HX⟩ := (GT.out _ (show Chg [a] wr _ from cU2)).cellN hq1
    cases hpx
    have hbl := hb9.1
    have hbn := hb9.2
    go_simp
    refine hK.out _ _ ?_
    clear hK K
    refine doneE (by kernel_rfl) ?_ _
    have hs : Chg [bx] U2 (U2.setCell ⟨bx, q * 2, none⟩ (.string x)) := (Chg.refl _ _).setCell (by simp) _
    have hB6 := HB.out _ (show Chg [a] wr U2 from cU2)
    have hd := (dU2.mono (show _ ≤ N + 5 by omega)).chg hs (by simp; omega)
    have hc := (HC3.out.trans cU2).past hs (by simp; omega)
    obtain ⟨F, hF, hFl⟩ := HX.1 x
    generalize U2.setCell ⟨bx, q * 2, none⟩ (.string x) = E at hs hd hc hF ⊢
    obtain ⟨t0, t1, t2, t3, t4, t5⟩ := hB6
    have b0 := hs.cellOf (by simp; omega) t0
    have b1 := hs.cellOf (by simp; omega) t1
    have r0 := hs.cellOf (by simp; omega) t2
    have r1 := hs.cellOf (by simp; omega) t3
    have r2 := hs.frozenOf (by simp; omega) (by have := cU2.size; omega) t4
    have r3 := hs.frozenOf (by simp; omega) (by have := cU2.size; omega) t5
    have HH := Lib.hid (HFIN.out E _ _ _ F hF (fun y hy => by have := hFl y hy; omega) (ok_set1 HOK.out hq1 hx) (by rw [List.length_set]; exact Nat.le_succ_of_le HNEED.out.1) (Nat.le_succ_of_le HNEED.out.2) hd hc)
    clear hs hd hc hF hFl t0 t1 t2 t3 t4 t5 HX hHeld
    go_wp2_with fail
    exact bodyPost_ret (v := .agg #[.slice (some ⟨bx, 0, none⟩) g.ns.length c1, .slice p2 g.es.length c2]) (by simp [results, Tryd.results67, go_sem, r0, r1]) rfl HH.out
  · skip
    go_upto_region 9 with fail
    refine wp_region_E (last := 8) (S := fun w' => w'.cell? ⟨u1.heap.size, 0, none⟩ = some (.slice (some ⟨bx, 0, none⟩) g.ns.length c1) ∧ w'.cell? ⟨u1.heap.size, 1, none⟩ = some (.slice p2 g.es.length c2)) (by kernel_rfl) ?_ (fun hHeld => ?_)
    · exact HK.out _ (show Chg [a] wr _ by ((repeat (first | with_reducible assumption | with_reducible exact Chg.refl _ _ | refine Chg.alloc ?_ _ | refine Chg.drew ?_)); first | done | fail "chg"))
    have cW : Chg [a] wr wr.drew := Chg.drew (Chg.refl _ _)
    have dW : Dr wr.drew a (N + 3) := hd.drew
    have yW : a < wr.drew.heap.size := har
    generalize wr.drew = W0 at cW dW yW hHeld ⊢
    (refine takeE (i := 0) (v := ?_) [] rfl (by kernel_rfl) (by kernel_rfl) (fun _ _ _ h => h) (Or.inl ⟨by kernel_rfl, ?_⟩) (by assumption) ?_; rotate_left; (focus (intro w hSw; (try dsimp only at hSw); go_simp; first | done | with_reducible rfl | fail "takeE")); (try simp only [Act.put, List.setIfInBounds_toArray, List.set_cons_zero, List.set_cons_succ]))
    (refine takeE (i := 1) (v := ?_) [] rfl (by kernel_rfl) (by kernel_rfl) (fun _ _ _ h => h) (Or.inl ⟨by kernel_rfl, ?_⟩) (by assumption) ?_; rotate_left; (focus (intro w hSw; (try dsimp only at hSw); go_simp; first | done | with_reducible rfl | fail "takeE")); (try simp only [Act.put, List.setIfInBounds_toArray, List.set_cons_zero, List.set_cons_succ]))
    (refine takeE (i := 2) (v := ?_) [] rfl (by kernel_rfl) (by kernel_rfl) (fun _ _ _ h => h) (Or.inl ⟨by kernel_rfl, ?_⟩) (by assumption) ?_; rotate_left; (focus (intro w hSw; (try dsimp only at hSw); go_simp; first | done | with_reducible rfl | fail "takeE")); (try simp only [Act.put, List.setIfInBounds_toArray, List.set_cons_zero, List.set_cons_succ]))
    (refine takeE (i := 3) (v := ?_) [] rfl (by kernel_rfl) (by kernel_rfl) (fun _ _ _ h => h) (Or.inl ⟨by kernel_rfl, ?_⟩) (by assumption) ?_; rotate_left; (focus (intro w hSw; (try dsimp only at hSw); go_simp; first | done | with_reducible rfl | fail "takeE")); (try simp only [Act.put, List.setIfInBounds_toArray, List.set_cons_zero, List.set_cons_succ]))
    refine oneE (i := 4) rfl (by kernel_rfl) (by kernel_rfl) (fun K hK => ?_)
    go_simp
    refine made (K := K) intB_spec 2 (by rfl) (by kernel_rfl) ?_
    intro U1 kU1 zU1 sB
    have cU1 : Chg [a] wr U1 := (show Chg [a] wr _ by ((repeat (first | with_reducible assumption | with_reducible exact Chg.refl _ _ | refine Chg.alloc ?_ _ | refine Chg.drew ?_)); first | done | fail "chg")).trans (kU1.mono (by simp))
    have dU1 : Dr U1 a (N + 3) := (show Dr _ a (N + 3) by ((repeat (first | with_reducible assumption | refine Dr.alloc ?_ _ | refine Dr.drew ?_)); first | done | fail "drk")).chg kU1 (by simp)
    have nB : W0.heap.size ≠ a := by omega
    have yU1 : a < U1.heap.size := by have := cU1.size; omega
    refine hK.out _ _ (HK.out _ (show Chg [a] wr _ by ((repeat (first | with_reducible assumption | with_reducible exact Chg.refl _ _ | refine Chg.alloc ?_ _ | refine Chg.drew ?_)); first | done | fail "chg"))) (fun hHeld => ?_)
    clear hK K
    (try simp only [Act.put, List.setIfInBounds_toArray, List.set_cons_zero, List.set_cons_succ])
    refine oneE (i := 5) rfl (by kernel_rfl) (by kernel_rfl) (fun K hK => ?_)
    go_simp
    go_at_call 53
    refine Calls.mono (num_dr a (N + 3) _ 2 _ _ (by ((repeat (first | with_reducible assumption | refine Dr.alloc ?_ _ | refine Dr.drew ?_)); first | done | fail "drk")) (by omega) sB (by decide) nB) ?_
    rintro en U2 ⟨z, rfl, hz0, hz1, dU2, kU2⟩
    have cU2 : Chg [a] wr U2 := (show Chg [a] wr _ by ((repeat (first | with_reducible assumption | with_reducible exact Chg.refl _ _ | refine Chg.alloc ?_ _ | refine Chg.drew ?_)); first | done | fail "chg")).trans kU2
    have yU2 : a < U2.heap.size := by have := cU2.size; omega
    go_wp2_with fail
    refine hK.out _ _ (HK.out _ (show Chg [a] wr _ by ((repeat (first | with_reducible assumption | with_reducible exact Chg.refl _ _ | refine Chg.alloc ?_ _ | refine Chg.drew ?_)); first | done | fail "chg"))) (fun hHeld => ?_)
    clear hK K
    (try simp only [Act.put, List.setIfInBounds_toArray, List.set_cons_zero, List.set_cons_succ])
    (refine takeE (i := 6) (v := ?_) [7] rfl (by kernel_rfl) (by kernel_rfl) (fun _ _ _ h => h) (Or.inl ⟨by kernel_rfl, ?_⟩) (by assumption) ?_; rotate_left; (focus (intro w hSw; (try dsimp only at hSw); go_simp; first | done | with_reducible rfl | fail "takeE")); (try simp only [Act.put, List.setIfInBounds_toArray, List.set_cons_zero, List.set_cons_succ]))
    (refine takeE (i := 7) (v := ?_) [] rfl (by kernel_rfl) (by kernel_rfl) (fun _ _ _ h => h) (Or.inl ⟨by kernel_rfl, ?_⟩) (by assumption) ?_; rotate_left; (focus (intro w hSw; (try dsimp only at hSw); go_simp; first | done | with_reducible rfl | fail "takeE")); (try simp only [Act.put, List.setIfInBounds_toArray, List.set_cons_zero, List.set_cons_succ]))
    refine lastE rfl (by kernel_rfl) (by kernel_rfl) (fun K hK => ?_)
    obtain ⟨b', hpx, hb9, c0x, c1x, f0x, f1x, HX⟩ := (GT.out _ (show Chg [a] wr _ from cU2)).cellN hq1
    cases hpx
    have hbl := hb9.1
    have hbn := hb9.2
    go_simp
    refine hK.out _ _ ?_
    clear hK K
    refine doneE (by kernel_rfl) ?_ _
    have hs : Chg [bx] U2 (U2.setCell ⟨bx, q * 2 + 1, none⟩ (.int .i64 z)) := (Chg.refl _ _).setCell (by simp) _
    have hB6 := HB.out _ (show Chg [a] wr U2 from cU2)
    have hd := (dU2.mono (show _ ≤ N + 5 by omega)).chg hs (by simp; omega)
    have hc := (HC3.out.trans cU2).past hs (by simp; omega)
    obtain ⟨F, hF, hFl⟩ := HX.2 z
    generalize U2.setCell ⟨bx, q * 2 + 1, none⟩ (.int .i64 z) = E at hs hd hc hF ⊢
    obtain ⟨t0, t1, t2, t3, t4, t5⟩ := hB6
    have b0 := hs.cellOf (by simp; omega) t0
    have b1 := hs.cellOf (by simp; omega) t1
    have r0 := hs.cellOf (by simp; omega) t2
    have r1 := hs.cellOf (by simp; omega) t3
    have r2 := hs.frozenOf (by simp; omega) (by have := cU2.size; omega) t4
    have r3 := hs.frozenOf (by simp; omega) (by have := cU2.size; omega) t5
    have HH := Lib.hid (HFIN.out E _ _ _ F hF (fun y hy => by have := hFl y hy; omega) (ok_set2 HOK.out hq1 hz0 hz1) (by rw [List.length_set]; exact Nat.le_succ_of_le HNEED.out.1) (Nat.le_succ_of_le HNEED.out.2) hd hc)
    clear hs hd hc hF hFl t0 t1 t2 t3 t4 t5 HX hHeld
    go_wp2_with fail
    exact bodyPost_ret (v := .agg #[.slice (some ⟨bx, 0, none⟩) g.ns.length c1, .slice p2 g.es.length c2]) (by simp [results, Tryd.results67, go_sem, r0, r1]) rfl HH.out
  · skip
    go_upto_region 11 with fail
    refine wp_region_E (last := 12) (S := fun w' => w'.cell? ⟨u1.heap.size, 0, none⟩ = some (.slice (some ⟨bx, 0, none⟩) g.ns.length c1) ∧ w'.cell? ⟨u1.heap.size, 1, none⟩ = some (.slice p2 g.es.length c2)) (by kernel_rfl) ?_ (fun hHeld => ?_)
    · exact HK.out _ (show Chg [a] wr _ by ((repeat (first | with_reducible assumption | with_reducible exact Chg.refl _ _ | refine Chg.alloc ?_ _ | refine Chg.drew ?_)); first | done | fail "chg"))
    have cW : Chg [a] wr wr.drew := Chg.drew (Chg.refl _ _)
    have dW : Dr wr.drew a (N + 3) := hd.drew
    have yW : a < wr.drew.heap.size := har
    generalize wr.drew = W0 at cW dW yW hHeld ⊢
    (refine takeE (i := 0) (v := ?_) [] rfl (by kernel_rfl) (by kernel_rfl) (fun _ _ _ h => h) (Or.inl ⟨by kernel_rfl, ?_⟩) (by assumption) ?_; rotate_left; (focus (intro w hSw; (try dsimp only at hSw); go_simp; first | done | with_reducible rfl | fail "takeE")); (try simp only [Act.put, List.setIfInBounds_toArray, List.set_cons_zero, List.set_cons_succ]))
    (refine takeE (i := 1) (v := ?_) [] rfl (by kernel_rfl) (by kernel_rfl) (fun _ _ _ h => h) (Or.inl ⟨by kernel_rfl, ?_⟩) (by assumption) ?_; rotate_left; (focus (intro w hSw; (try dsimp only at hSw); go_simp; first | done | with_reducible rfl | fail "takeE")); (try simp only [Act.put, List.setIfInBounds_toArray, List.set_cons_zero, List.set_cons_succ]))
    (refine takeE (i := 2) (v := ?_) [] rfl (by kernel_rfl) (by kernel_rfl) (fun _ _ _ h => h) (Or.inl ⟨by kernel_rfl, ?_⟩) (by assumption) ?_; rotate_left; (focus (intro w hSw; (try dsimp only at hSw); go_simp; first | done | with_reducible rfl | fail "takeE")); (try simp only [Act.put, List.setIfInBounds_toArray, List.set_cons_zero, List.set_cons_succ]))
    (refine takeE (i := 5) (v := ?_) [] rfl (by kernel_rfl) (by kernel_rfl) (fun _ _ _ h => h) (Or.inl ⟨by kernel_rfl, ?_⟩) (by assumption) ?_; rotate_left; (focus (intro w hSw; (try dsimp only at hSw); go_simp; first | done | with_reducible rfl | fail "takeE")); (try simp only [Act.put, List.setIfInBounds_toArray, List.set_cons_zero, List.set_cons_succ]))
    refine upE (rs := [3, 6]) (by kernel_rfl) (by simp) (AllE'.cons (i := 3) rfl (by kernel_rfl) (fun K hK => ?_) (AllE'.cons (i := 6) rfl (by kernel_rfl) (fun K hK => ?_) AllE'.nil))
    · go_simp
      refine made (K := K) intB_spec 3 (by rfl) (by kernel_rfl) ?_
      intro U1 kU1 zU1 sB
      have cU1 : Chg [a] wr U1 := (show Chg [a] wr _ by ((repeat (first | with_reducible assumption | with_reducible exact Chg.refl _ _ | refine Chg.alloc ?_ _ | refine Chg.drew ?_)); first | done | fail "chg")).trans (kU1.mono (by simp))
      have dU1 : Dr U1 a (N + 3) := (show Dr _ a (N + 3) by ((repeat (first | with_reducible assumption | refine Dr.alloc ?_ _ | refine Dr.drew ?_)); first | done | fail "drk")).chg kU1 (by simp)
      have nB : W0.heap.size ≠ a := by omega
      have yU1 : a < U1.heap.size := by have := cU1.size; omega
      refine hK.out _ _ (HK.out _ (show Chg [a] wr _ by ((repeat (first | with_reducible assumption | with_reducible exact Chg.refl _ _ | refine Chg.alloc ?_ _ | refine Chg.drew ?_)); first | done | fail "chg"))) (fun hHeld => ?_)
      clear hK K
      (try simp only [Act.put, List.setIfInBounds_toArray, List.set_cons_zero, List.set_cons_succ])
      refine upE (rs := [4, 6]) (by kernel_rfl) (by simp) (AllE'.cons (i := 4) rfl (by kernel_rfl) (fun K hK => ?_) (AllE'.cons (i := 6) rfl (by kernel_rfl) (fun K hK => ?_) AllE'.nil))
      · go_simp
        go_at_call 53
        refine Calls.mono (num_dr a (N + 3) _ 3 _ _ (by ((repeat (first | with_reducible assumption | refine Dr.alloc ?_ _ | refine Dr.drew ?_)); first | done | fail "drk")) (by omega) sB (by decide) nB) ?_
        rintro en U2 ⟨z, rfl, hz0, hz1, dU2, kU2⟩
        have cU2 : Chg [a] wr U2 := (show Chg [a] wr _ by ((repeat (first | with_reducible assumption | with_reducible exact Chg.refl _ _ | refine Chg.alloc ?_ _ | refine Chg.drew ?_)); first | done | fail "chg")).trans kU2
        have yU2 : a < U2.heap.size := by have := cU2.size; omega
        go_wp2_with fail
        refine hK.out _ _ (HK.out _ (show Chg [a] wr _ by ((repeat (first | with_reducible assumption | with_reducible exact Chg.refl _ _ | refine Chg.alloc ?_ _ | refine Chg.drew ?_)); first | done | fail "chg"))) (fun hHeld => ?_)
        clear hK K
        (try simp only [Act.put, List.setIfInBounds_toArray, List.set_cons_zero, List.set_cons_succ])
        refine oneE (i := 6) rfl (by kernel_rfl) (by kernel_rfl) (fun K hK => ?_)
        go_simp
        refine made (K := K) intB_spec 2 (by rfl) (by kernel_rfl) ?_
        intro U3 kU3 zU3 sC
        have cU3 : Chg [a] wr U3 := (show Chg [a] wr _ by ((repeat (first | with_reducible assumption | with_reducible exact Chg.refl _ _ | refine Chg.alloc ?_ _ | refine Chg.drew ?_)); first | done | fail "chg")).trans (kU3.mono (by simp))
        have dU3 : Dr U3 a (N + 3 + 1) := (show Dr _ a (N + 3 + 1) by ((repeat (first | with_reducible assumption | refine Dr.alloc ?_ _ | refine Dr.drew ?_)); first | done | fail "drk")).chg kU3 (by simp)
        have nC : U2.heap.size ≠ a := by omega
        have yU3 : a < U3.heap.size := by have := cU3.size; omega
        refine hK.out _ _ (HK.out _ (show Chg [a] wr _ by ((repeat (first | with_reducible assumption | with_reducible exact Chg.refl _ _ | refine Chg.alloc ?_ _ | refine Chg.drew ?_)); first | done | fail "chg"))) (fun hHeld => ?_)
        clear hK K
        (try simp only [Act.put, List.setIfInBounds_toArray, List.set_cons_zero, List.set_cons_succ])
        refine oneE (i := 7) rfl (by kernel_rfl) (by kernel_rfl) (fun K hK => ?_)
        go_simp
        go_at_call 53
        refine Calls.mono (num_dr a (N + 3 + 1) _ 2 _ _ (by ((repeat (first | with_reducible assumption | refine Dr.alloc ?_ _ | refine Dr.drew ?_)); first | done | fail "drk")) (by omega) sC (by decide) nC) ?_
        rintro en U4 ⟨r, rfl, hr0, hr1, dU4, kU4⟩
        have cU4 : Chg [a] wr U4 := (show Chg [a] wr _ by ((repeat (first | with_reducible assumption | with_reducible exact Chg.refl _ _ | refine Chg.alloc ?_ _ | refine Chg.drew ?_)); first | done | fail "chg")).trans kU4
        have yU4 : a < U4.heap.size := by have := cU4.size; omega
        go_wp2_with fail
        refine hK.out _ _ (HK.out _ (show Chg [a] wr _ by ((repeat (first | with_reducible assumption | with_reducible exact Chg.refl _ _ | refine Chg.alloc ?_ _ | refine Chg.drew ?_)); first | done | fail "chg"))) (fun hHeld => ?_)
        clear hK K
        (try simp only [Act.put, List.setIfInBounds_toArray, List.set_cons_zero, List.set_cons_succ])
        (refine takeE (i := 8) (v := ?_) [] rfl (by kernel_rfl) (by kernel_rfl) (fun _ _ _ h => h) (Or.inl ⟨by kernel_rfl, ?_⟩) (by assumption) ?_; rotate_left; (focus (intro w hSw; (try dsimp only at hSw); go_simp; first | done | with_reducible rfl | fail "takeE")); (try simp only [Act.put, List.setIfInBounds_toArray, List.set_cons_zero, List.set_cons_succ]))
        refine oneE (i := 9) rfl (by kernel_rfl) (by kernel_rfl) (fun K hK => ?_)
        go_simp
        refine hK.out _ _ (HK.out _ (show Chg [a] wr _ by ((repeat (first | with_reducible assumption | with_reducible exact Chg.refl _ _ | refine Chg.alloc ?_ _ | refine Chg.drew ?_)); first | done | fail "chg"))) (fun hHeld => ?_)
        clear hK K
        (try simp only [Act.put, List.setIfInBounds_toArray, List.set_cons_zero, List.set_cons_succ])
        refine oneE (i := 10) rfl (by kernel_rfl) (by kernel_rfl) (fun K hK => ?_)
        have HT := GT.out _ (show Chg [a] wr _ from cU4)
        refine wp_app (.tmp 49) (.tmp 57) 34 (by rfl) _ _ (by rfl) (by rfl) _ (appE HT ⟨z, r, ⟨#[]⟩, 0⟩ (by omega)) ?_
        rintro v' w' ⟨hT, ⟨e0, e1, e2, e3⟩, ⟨pv, cv, rfl⟩, G, hG, hGl⟩
        have HT2 := Lib.hid hT
        have HG := Lib.hid hG
        have HGl := Lib.hid hGl
        clear hT hG hGl HT
        refine hK.out _ _ ⟨e0, e1⟩ (fun hHeld => ?_)
        clear hK K
        (try simp only [Act.put, List.setIfInBounds_toArray, List.set_cons_zero, List.set_cons_succ])
        (refine takeE (i := 11) (v := ?_) [] rfl (by kernel_rfl) (by kernel_rfl) (fun _ _ _ h => h) (Or.inl ⟨by kernel_rfl, ?_⟩) (by assumption) ?_; rotate_left; (focus (intro w hSw; (try dsimp only at hSw); go_simp; first | done | with_reducible rfl | fail "takeE")); (try simp only [Act.put, List.setIfInBounds_toArray, List.set_cons_zero, List.set_cons_succ]))
        refine lastE rfl (by kernel_rfl) (by kernel_rfl) (fun K hK => ?_)
        go_simp
        refine hK.out _ _ ?_
        clear hK K
        refine doneE (by kernel_rfl) ?_ _
        have hB6 := HB.out _ (show Chg [a] wr U4 from cU4)
        have hd := (dU4.mono (show _ ≤ N + 5 by omega)).chg HG.out (fun x hx => by have := HGl.out x hx; omega)
        have hc := (HC3.out.trans cU4).past HG.out (fun x hx => .inr (by have := HGl.out x hx; omega))
        generalize w'.setCell ⟨u1.heap.size, 1, none⟩ (.slice pv (g.es.length + 1) cv) = E at HT2 HG hd hc ⊢
        obtain ⟨t0, t1, t2, t3, t4, t5⟩ := hB6
        have b0 := HT2.out.2.1.1
        have b1 := HT2.out.2.1.2
        have hGn : w.heap.size + 1 ∉ G := fun hm => by have := HGl.out _ hm; omega
        have r0 := HG.out.cellOf hGn t2
        have r1 := HG.out.cellOf hGn t3
        have r2 := HG.out.frozenOf hGn (by have := cU4.size; omega) t4
        have r3 := HG.out.frozenOf hGn (by have := cU4.size; omega) t5
        obtain ⟨F, hF, hFl⟩ := Two.has (g := ⟨g.ns, g.es ++ [⟨z, r, ⟨#[]⟩, 0⟩]⟩) HT2.out
        have HH := Lib.hid (HFIN.out E _ _ _ F hF (fun y hy => by have := (hFl y hy).1; omega) (ok_app HOK.out hz0 hz1 hr0 hr1) (Nat.le_succ_of_le HNEED.out.1) (by rw [List.length_append]; exact Nat.succ_le_succ HNEED.out.2) hd hc)
        clear hd hc hF hFl t0 t1 t2 t3 t4 t5 HG HT2 hHeld
        go_wp2_with fail
        exact bodyPost_ret (v := .agg #[.slice (some ⟨bx, 0, none⟩) g.ns.length c1, .slice pv (g.es.length + 1) cv]) (by simp [results, Tryd.results67, go_sem, r0, r1]) rfl HH.out
      · go_simp
        refine made (K := K) intB_spec 2 (by rfl) (by kernel_rfl) ?_
        intro U5 kU5 zU5 sC
        have cU5 : Chg [a] wr U5 := (show Chg [a] wr _ by ((repeat (first | with_reducible assumption | with_reducible exact Chg.refl _ _ | refine Chg.alloc ?_ _ | refine Chg.drew ?_)); first | done | fail "chg")).trans (kU5.mono (by simp))
        have dU5 : Dr U5 a (N + 3) := (show Dr _ a (N + 3) by ((repeat (first | with_reducible assumption | refine Dr.alloc ?_ _ | refine Dr.drew ?_)); first | done | fail "drk")).chg kU5 (by simp)
        have nC : U1.heap.size ≠ a := by omega
        replace sB := sB.chg kU5 (by simp)
        have yU5 : a < U5.heap.size := by have := cU5.size; omega
        refine hK.out _ _ (HK.out _ (show Chg [a] wr _ by ((repeat (first | with_reducible assumption | with_reducible exact Chg.refl _ _ | refine Chg.alloc ?_ _ | refine Chg.drew ?_)); first | done | fail "chg"))) (fun hHeld => ?_)
        clear hK K
        (try simp only [Act.put, List.setIfInBounds_toArray, List.set_cons_zero, List.set_cons_succ])
        refine oneE (i := 4) rfl (by kernel_rfl) (by kernel_rfl) (fun K hK => ?_)
        go_simp
        go_at_call 53
        refine Calls.mono (num_dr a (N + 3) _ 3 _ _ (by ((repeat (first | with_reducible assumption | refine Dr.alloc ?_ _ | refine Dr.drew ?_)); first | done | fail "drk")) (by omega) sB (by decide) nB) ?_
        rintro en U6 ⟨z, rfl, hz0, hz1, dU6, kU6⟩
        have cU6 : Chg [a] wr U6 := (show Chg [a] wr _ by ((repeat (first | with_reducible assumption | with_reducible exact Chg.refl _ _ | refine Chg.alloc ?_ _ | refine Chg.drew ?_)); first | done | fail "chg")).trans kU6
        replace sC := sC.chg kU6 (by simpa using nC)
        have yU6 : a < U6.heap.size := by have := cU6.size; omega
        go_wp2_with fail
        refine hK.out _ _ (HK.out _ (show Chg [a] wr _ by ((repeat (first | with_reducible assumption | with_reducible exact Chg.refl _ _ | refine Chg.alloc ?_ _ | refine Chg.drew ?_)); first | done | fail "chg"))) (fun hHeld => ?_)
        clear hK K
        (try simp only [Act.put, List.setIfInBounds_toArray, List.set_cons_zero, List.set_cons_succ])
        refine oneE (i := 7) rfl (by kernel_rfl) (by kernel_rfl) (fun K hK => ?_)
        go_simp
        go_at_call 53
        refine Calls.mono (num_dr a (N + 3 + 1) _ 2 _ _ (by ((repeat (first | with_reducible assumption | refine Dr.alloc ?_ _ | refine Dr.drew ?_)); first | done | fail "drk")) (by omega) sC (by decide) nC) ?_
        rintro en U7 ⟨r, rfl, hr0, hr1, dU7, kU7⟩
        have cU7 : Chg [a] wr U7 := (show Chg [a] wr _ by ((repeat (first | with_reducible assumption | with_reducible exact Chg.refl _ _ | refine Chg.alloc ?_ _ | refine Chg.drew ?_)); first | done | fail "chg")).trans kU7
        have yU7 : a < U7.heap.size := by have := cU7.size; omega
        go_wp2_with fail
        refine hK.out _ _ (HK.out _ (show Chg [a] wr _ by ((repeat (first | with_reducible assumption | with_reducible exact Chg.refl _ _ | refine Chg.alloc ?_ _ | refine Chg.drew ?_)); first | done | fail "chg"))) (fun hHeld => ?_)
        clear hK K
        (try simp only [Act.put, List.setIfInBounds_toArray, List.set_cons_zero, List.set_cons_succ])
        (refine takeE (i := 8) (v := ?_) [] rfl (by kernel_rfl) (by kernel_rfl) (fun _ _ _ h => h) (Or.inl ⟨by kernel_rfl, ?_⟩) (by assumption) ?_; rotate_left; (focus (intro w hSw; (try dsimp only at hSw); go_simp; first | done | with_reducible rfl | fail "takeE")); (try simp only [Act.put, List.setIfInBounds_toArray, List.set_cons_zero, List.set_cons_succ]))
        refine oneE (i := 9) rfl (by kernel_rfl) (by kernel_rfl) (fun K hK => ?_)
        go_simp
        refine hK.out _ _ (HK.out _ (show Chg [a] wr _ by ((repeat (first | with_reducible assumption | with_reducible exact Chg.refl _ _ | refine Chg.alloc ?_ _ | refine Chg.drew ?_)); first | done | fail "chg"))) (fun hHeld => ?_)
        clear hK K
        (try simp only [Act.put, List.setIfInBounds_toArray, List.set_cons_zero, List.set_cons_succ])
        refine oneE (i := 10) rfl (by kernel_rfl) (by kernel_rfl) (fun K hK => ?_)
        have HT := GT.out _ (show Chg [a] wr _ from cU7)
        refine wp_app (.tmp 49) (.tmp 57) 34 (by rfl) _ _ (by rfl) (by rfl) _ (appE HT ⟨z, r, ⟨#[]⟩, 0⟩ (by omega)) ?_
        rintro v' w' ⟨hT, ⟨e0, e1, e2, e3⟩, ⟨pv, cv, rfl⟩, G, hG, hGl⟩
        have HT2 := Lib.hid hT
        have HG := Lib.hid hG
        have HGl := Lib.hid hGl
        clear hT hG hGl HT
        refine hK.out _ _ ⟨e0, e1⟩ (fun hHeld => ?_)
        clear hK K
        (try simp only [Act.put, List.setIfInBounds_toArray, List.set_cons_zero, List.set_cons_succ])
        (refine takeE (i := 11) (v := ?_) [] rfl (by kernel_rfl) (by kernel_rfl) (fun _ _ _ h => h) (Or.inl ⟨by kernel_rfl, ?_⟩) (by assumption) ?_; rotate_left; (focus (intro w hSw; (try dsimp only at hSw); go_simp; first | done | with_reducible rfl | fail "takeE")); (try simp only [Act.put, List.setIfInBounds_toArray, List.set_cons_zero, List.set_cons_succ]))
        refine lastE rfl (by kernel_rfl) (by kernel_rfl) (fun K hK => ?_)
        go_simp
        refine hK.out _ _ ?_
        clear hK K
        refine doneE (by kernel_rfl) ?_ _
        have hB6 := HB.out _ (show Chg [a] wr U7 from cU7)
        have hd := (dU7.mono (show _ ≤ N + 5 by omega)).chg HG.out (fun x hx => by have := HGl.out x hx; omega)
        have hc := (HC3.out.trans cU7).past HG.out (fun x hx => .inr (by have := HGl.out x hx; omega))
        generalize w'.setCell ⟨u1.heap.size, 1, none⟩ (.slice pv (g.es.length + 1) cv) = E at HT2 HG hd hc ⊢
        obtain ⟨t0, t1, t2, t3, t4, t5⟩ := hB6
        have b0 := HT2.out.2.1.1
        have b1 := HT2.out.2.1.2
        have hGn : w.heap.size + 1 ∉ G := fun hm => by have := HGl.out _ hm; omega
        have r0 := HG.out.cellOf hGn t2
        have r1 := HG.out.cellOf hGn t3
        have r2 := HG.out.frozenOf hGn (by have := cU7.size; omega) t4
        have r3 := HG.out.frozenOf hGn (by have := cU7.size; omega) t5
        obtain ⟨F, hF, hFl⟩ := Two.has (g := ⟨g.ns, g.es ++ [⟨z, r, ⟨#[]⟩, 0⟩]⟩) HT2.out
        have HH := Lib.hid (HFIN.out E _ _ _ F hF (fun y hy => by have := (hFl y hy).1; omega) (ok_app HOK.out hz0 hz1 hr0 hr1) (Nat.le_succ_of_le HNEED.out.1) (by rw [List.length_append]; exact Nat.succ_le_succ HNEED.out.2) hd hc)
        clear hd hc hF hFl t0 t1 t2 t3 t4 t5 HG HT2 hHeld
        go_wp2_with fail
        exact bodyPost_ret (v := .agg #[.slice (some ⟨bx, 0, none⟩) g.ns.length c1, .slice pv (g.es.length + 1) cv]) (by simp [results, Tryd.results67, go_sem, r0, r1]) rfl HH.out
    · go_simp
      refine made (K := K) intB_spec 2 (by rfl) (by kernel_rfl) ?_
      intro U8 kU8 zU8 sC
      have cU8 : Chg [a] wr U8 := (show Chg [a] wr _ by ((repeat (first | with_reducible assumption | with_reducible exact Chg.refl _ _ | refine Chg.alloc ?_ _ | refine Chg.drew ?_)); first | done | fail "chg")).trans (kU8.mono (by simp))
      have dU8 : Dr U8 a (N + 3) := (show Dr _ a (N + 3) by ((repeat (first | with_reducible assumption | refine Dr.alloc ?_ _ | refine Dr.drew ?_)); first | done | fail "drk")).chg kU8 (by simp)
      have nC : W0.heap.size ≠ a := by omega
      have yU8 : a < U8.heap.size := by have := cU8.size; omega
      refine hK.out _ _ (HK.out _ (show Chg [a] wr _ by ((repeat (first | with_reducible assumption | with_reducible exact Chg.refl _ _ | refine Chg.alloc ?_ _ | refine Chg.drew ?_)); first | done | fail "chg"))) (fun hHeld => ?_)
      clear hK K
      (try simp only [Act.put, List.setIfInBounds_toArray, List.set_cons_zero, List.set_cons_succ])
      refine oneE (i := 3) rfl (by kernel_rfl) (by kernel_rfl) (fun K hK => ?_)
      go_simp
      refine made (K := K) intB_spec 3 (by rfl) (by kernel_rfl) ?_
      intro U9 kU9 zU9 sB
      have cU9 : Chg [a] wr U9 := (show Chg [a] wr _ by ((repeat (first | with_reducible assumption | with_reducible exact Chg.refl _ _ | refine Chg.alloc ?_ _ | refine Chg.drew ?_)); first | done | fail "chg")).trans (kU9.mono (by simp))
      have dU9 : Dr U9 a (N + 3) := (show Dr _ a (N + 3) by ((repeat (first | with_reducible assumption | refine Dr.alloc ?_ _ | refine Dr.drew ?_)); first | done | fail "drk")).chg kU9 (by simp)
      have nB : U8.heap.size ≠ a := by omega
      replace sC := sC.chg kU9 (by simp)
      have yU9 : a < U9.heap.size := by have := cU9.size; omega
      refine hK.out _ _ (HK.out _ (show Chg [a] wr _ by ((repeat (first | with_reducible assumption | with_reducible exact Chg.refl _ _ | refine Chg.alloc ?_ _ | refine Chg.drew ?_)); first | done | fail "chg"))) (fun hHeld => ?_)
      clear hK K
      (try simp only [Act.put, List.setIfInBounds_toArray, List.set_cons_zero, List.set_cons_succ])
      refine oneE (i := 4) rfl (by kernel_rfl) (by kernel_rfl) (fun K hK => ?_)
      go_simp
      go_at_call 53
      refine Calls.mono (num_dr a (N + 3) _ 3 _ _ (by ((repeat (first | with_reducible assumption | refine Dr.alloc ?_ _ | refine Dr.drew ?_)); first | done | fail "drk")) (by omega) sB (by decide) nB) ?_
      rintro en U10 ⟨z, rfl, hz0, hz1, dU10, kU10⟩
      have cU10 : Chg [a] wr U10 := (show Chg [a] wr _ by ((repeat (first | with_reducible assumption | with_reducible exact Chg.refl _ _ | refine Chg.alloc ?_ _ | refine Chg.drew ?_)); first | done | fail "chg")).trans kU10
      replace sC := sC.chg kU10 (by simpa using nC)
      have yU10 : a < U10.heap.size := by have := cU10.size; omega
      go_wp2_with fail
      refine hK.out _ _ (HK.out _ (show Chg [a] wr _ by ((repeat (first | with_reducible assumption | with_reducible exact Chg.refl _ _ | refine Chg.alloc ?_ _ | refine Chg.drew ?_)); first | done | fail "chg"))) (fun hHeld => ?_)
      clear hK K
      (try simp only [Act.put, List.setIfInBounds_toArray, List.set_cons_zero, List.set_cons_succ])
      refine oneE (i := 7) rfl (by kernel_rfl) (by kernel_rfl) (fun K hK => ?_)
      go_simp
      go_at_call 53
      refine Calls.mono (num_dr a (N + 3 + 1) _ 2 _ _ (by ((repeat (first | with_reducible assumption | refine Dr.alloc ?_ _ | refine Dr.drew ?_)); first | done | fail "drk")) (by omega) sC (by decide) nC) ?_
      rintro en U11 ⟨r, rfl, hr0, hr1, dU11, kU11⟩
      have cU11 : Chg [a] wr U11 := (show Chg [a] wr _ by ((repeat (first | with_reducible assumption | with_reducible exact Chg.refl _ _ | refine Chg.alloc ?_ _ | refine Chg.drew ?_)); first | done | fail "chg")).trans kU11
      have yU11 : a < U11.heap.size := by have := cU11.size; omega
      go_wp2_with fail
      refine hK.out _ _ (HK.out _ (show Chg [a] wr _ by ((repeat (first | with_reducible assumption | with_reducible exact Chg.refl _ _ | refine Chg.alloc ?_ _ | refine Chg.drew ?_)); first | done | fail "chg"))) (fun hHeld => ?_)
      clear hK K
      (try simp only [Act.put, List.setIfInBounds_toArray, List.set_cons_zero, List.set_cons_succ])
      (refine takeE (i := 8) (v := ?_) [] rfl (by kernel_rfl) (by kernel_rfl) (fun _ _ _ h => h) (Or.inl ⟨by kernel_rfl, ?_⟩) (by assumption) ?_; rotate_left; (focus (intro w hSw; (try dsimp only at hSw); go_simp; first | done | with_reducible rfl | fail "takeE")); (try simp only [Act.put, List.setIfInBounds_toArray, List.set_cons_zero, List.set_cons_succ]))
      refine oneE (i := 9) rfl (by kernel_rfl) (by kernel_rfl) (fun K hK => ?_)
      go_simp
      refine hK.out _ _ (HK.out _ (show Chg [a] wr _ by ((repeat (first | with_reducible assumption | with_reducible exact Chg.refl _ _ | refine Chg.alloc ?_ _ | refine Chg.drew ?_)); first | done | fail "chg"))) (fun hHeld => ?_)
      clear hK K
      (try simp only [Act.put, List.setIfInBounds_toArray, List.set_cons_zero, List.set_cons_succ])
      refine oneE (i := 10) rfl (by kernel_rfl) (by kernel_rfl) (fun K hK => ?_)
      have HT := GT.out _ (show Chg [a] wr _ from cU11)
      refine wp_app (.tmp 49) (.tmp 57) 34 (by rfl) _ _ (by rfl) (by rfl) _ (appE HT ⟨z, r, ⟨#[]⟩, 0⟩ (by omega)) ?_
      rintro v' w' ⟨hT, ⟨e0, e1, e2, e3⟩, ⟨pv, cv, rfl⟩, G, hG, hGl⟩
      have HT2 := Lib.hid hT
      have HG := Lib.hid hG
      have HGl := Lib.hid hGl
      clear hT hG hGl HT
      refine hK.out _ _ ⟨e0, e1⟩ (fun hHeld => ?_)
      clear hK K
      (try simp only [Act.put, List.setIfInBounds_toArray, List.set_cons_zero, List.set_cons_succ])
      (refine takeE (i := 11) (v := ?_) [] rfl (by kernel_rfl) (by kernel_rfl) (fun _ _ _ h => h) (Or.inl ⟨by kernel_rfl, ?_⟩) (by assumption) ?_; rotate_left; (focus (intro w hSw; (try dsimp only at hSw); go_simp; first | done | with_reducible rfl | fail "takeE")); (try simp only [Act.put, List.setIfInBounds_toArray, List.set_cons_zero, List.set_cons_succ]))
      refine lastE rfl (by kernel_rfl) (by kernel_rfl) (fun K hK => ?_)
      go_simp
      refine hK.out _ _ ?_
      clear hK K
      refine doneE (by kernel_rfl) ?_ _
      have hB6 := HB.out _ (show Chg [a] wr U11 from cU11)
      have hd := (dU11.mono (show _ ≤ N + 5 by omega)).chg HG.out (fun x hx => by have := HGl.out x hx; omega)
      have hc := (HC3.out.trans cU11).past HG.out (fun x hx => .inr (by have := HGl.out x hx; omega))
      generalize w'.setCell ⟨u1.heap.size, 1, none⟩ (.slice pv (g.es.length + 1) cv) = E at HT2 HG hd hc ⊢
      obtain ⟨t0, t1, t2, t3, t4, t5⟩ := hB6
      have b0 := HT2.out.2.1.1
      have b1 := HT2.out.2.1.2
      have hGn : w.heap.size + 1 ∉ G := fun hm => by have := HGl.out _ hm; omega
      have r0 := HG.out.cellOf hGn t2
      have r1 := HG.out.cellOf hGn t3
      have r2 := HG.out.frozenOf hGn (by have := cU11.size; omega) t4
      have r3 := HG.out.frozenOf hGn (by have := cU11.size; omega) t5
      obtain ⟨F, hF, hFl⟩ := Two.has (g := ⟨g.ns, g.es ++ [⟨z, r, ⟨#[]⟩, 0⟩]⟩) HT2.out
      have HH := Lib.hid (HFIN.out E _ _ _ F hF (fun y hy => by have := (hFl y hy).1; omega) (ok_app HOK.out hz0 hz1 hr0 hr1) (Nat.le_succ_of_le HNEED.out.1) (by rw [List.length_append]; exact Nat.succ_le_succ HNEED.out.2) hd hc)
      clear hd hc hF hFl t0 t1 t2 t3 t4 t5 HG HT2 hHeld
      go_wp2_with fail
      exact bodyPost_ret (v := .agg #[.slice (some ⟨bx, 0, none⟩) g.ns.length c1, .slice pv (g.es.length + 1) cv]) (by simp [results, Tryd.results67, go_sem, r0, r1]) rfl HH.out
  · obtain ⟨t0, t1, r0, r1, r2, r3⟩ := HB.out wr (Chg.refl _ _)
    obtain ⟨f0, f1⟩ := HT3.out.2.2.1
    have hu : u1.heap.size < wr.heap.size := by obtain ⟨⟨h, _⟩, _⟩ := HT3.out; exact h
    have hu2 : w.heap.size + 1 < u1.heap.size := by omega
    have hu3 : w.heap.size + 1 < wr.heap.size := by omega
    obtain ⟨E, eE⟩ : ∃ E, E = ((((wr.setCell ⟨u1.heap.size, 0, none⟩ (.slice (some ⟨wr.heap.size, 0, none⟩) 0 0)).setCell ⟨w.heap.size + 1, 0, none⟩ (.slice (some ⟨wr.heap.size, 0, none⟩) 0 0)).setCell ⟨w.heap.size + 1, 1, none⟩ (.slice p2 g.es.length c2)).alloc (.cells #[] 77)) := ⟨_, rfl⟩
    have HH := Lib.hid (show WrongG a N M w (.returned (.agg #[.slice (some ⟨wr.heap.size, 0, none⟩) 0 0, .slice p2 g.es.length c2])) E from by
      have hs : Chg [u1.heap.size, w.heap.size + 1] wr E := by rw [eE]; exact ((((Chg.refl _ _).setCell (by simp) _).setCell (by simp) _).setCell (by simp) _).alloc _
      obtain ⟨_, _, _, F1, F2, o1, o2, g1, g2, dj⟩ := HT3.out
      have q2 := (OwnS.own (enc := Ed.cells) (fun _ => rfl) o2).chg hs (fun y hy hn => by have := (g2 y hy).2; have := (g2 y hy).1; simp at hn; omega)
      exact ⟨⟨[], g.es⟩, _, F2, rfl, ⟨⟨[], F2, rfl, _, _, rfl, ⟨_, _, _, rfl, rfl, Nat.le_refl _, Nat.zero_le _, .inl ⟨rfl, rfl⟩⟩, q2, fun _ _ => Nat.zero_le _, fun _ _ => Nat.zero_le _, by simp⟩, fun y hy => by have := (g2 y hy).1; omega, ⟨by simp, HOK.out.2⟩, by simp, Nat.le_succ_of_le HNEED.out.2⟩, (hd.chg hs (by simp; omega)).mono (by omega), ((Chg.of_below HW1.out [a]).trans HC3.out).past hs (by simp; omega)⟩)
    have HE := Lib.hid (show E.cell? ⟨w.heap.size + 1, 0, none⟩ = some (.slice (some ⟨wr.heap.size, 0, none⟩) 0 0) ∧ E.cell? ⟨w.heap.size + 1, 1, none⟩ = some (.slice p2 g.es.length c2) from by
      have hn : u1.heap.size ≠ w.heap.size + 1 := by omega
      rw [eE]
      refine ⟨((Chg.refl [] _).alloc _).cellOf (by simp) ?_, ((Chg.refl [] _).alloc _).cellOf (by simp) ?_⟩
      · rw [set_near _ _ _ _ _ (by omega)]; exact set_same _ _ _ _ _ (((Chg.refl [u1.heap.size] wr).setCell (p := ⟨u1.heap.size, 0, none⟩) (by simp) _).cellOf (by simp; omega) r0)
      · exact set_same _ _ _ (.slice none 0 0) _ ((set_near _ _ _ _ _ (by omega)).trans (((Chg.refl [u1.heap.size] wr).setCell (p := ⟨u1.heap.size, 0, none⟩) (by simp) _).cellOf (by simp; omega) r1)))
    go_wp2_with fail
    rw [← eE]
    obtain ⟨e0, e1⟩ := HE.out
    exact bodyPost_ret (v := .agg #[.slice (some ⟨wr.heap.size, 0, none⟩) 0 0, .slice p2 g.es.length c2]) (by simp [results, Tryd.results67, go_sem, e0, e1]) rfl HH.out
  · have t0 : ((t' : Int) == 0) = false := beq_eq_false_iff_ne.2 (by omega)
    have t1 : ((t' : Int) == 1) = false := beq_eq_false_iff_ne.2 (by omega)
    have t2 : ((t' : Int) == 2) = false := beq_eq_false_iff_ne.2 (by omega)
    have t3 : ((t' : Int) == 3) = false := beq_eq_false_iff_ne.2 (by omega)
    obtain ⟨b0, b1, r0, r1, r2, r3⟩ := HB.out wr (Chg.refl _ _)
    obtain ⟨F, hF, hFl⟩ := Two.has (g := g) HT3.out
    have HH := Lib.hid (HFIN.out wr _ _ _ F hF (fun y hy => by have := (hFl y hy).1; omega) HOK.out (Nat.le_succ_of_le HNEED.out.1) (Nat.le_succ_of_le HNEED.out.2) (hd.mono (by omega)) HC3.out)
    clear hF hFl
    go_wp2_with fail
    exact bodyPost_ret (v := .agg #[.slice (some ⟨bx, 0, none⟩) g.ns.length c1, .slice p2 g.es.length c2]) (by simp [results, Tryd.results67, go_sem, r0, r1]) rfl HH.out
end Go.Proofs.YtbbemeaojmfndaaDoor
