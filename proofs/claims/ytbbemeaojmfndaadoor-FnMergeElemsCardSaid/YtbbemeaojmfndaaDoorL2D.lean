/- l2Some: an expression is drawn. -/
import Derived.Test.YtbbemeaojmfndaaDoorM4q0p1
namespace Go.Proofs.YtbbemeaojmfndaaDoor
open Go.RowKit

/-- A drawn expression in memory of the call's own. -/
def SomeX (n c a N : Nat) (w : World) (e : Ending) (w' : World) : Prop :=
  ∃ (x : Ex) (p : Option Addr) (cp : Nat) (F : List Nat), e = .returned (.agg #[.int .i64 x.op, .string x.a, .slice p x.ks.list.length cp]) ∧ (x.ks.Own w' (.slice p x.ks.list.length cp) F ∧ (∀ z ∈ F, w.heap.size ≤ z) ∧ x.Dn n) ∧ Dr w' a (N + c) ∧ Chg [a] w w'
theorem SomeX.fin {n c a N rb : Nat} {w W1 E : World} (h1 : Chg [] w W1) (hr : w.heap.size ≤ rb) (hal : a < w.heap.size) (o : Int) (at' : ByteArray) (ks : Fo) (p : Option Addr) (m cp : Nat) (F : List Nat) (hk : ks.Own E (.slice p m cp) F) (hl : ∀ z ∈ F, rb < z) (hd : Dr E a (N + c)) (hc : Chg [a] W1 E) (hdn : (⟨o, at', ks⟩ : Ex).Dn n) :
    SomeX n c a N w (.returned (.agg #[.int .i64 o, .string at', .slice p m cp])) (((E.setCell ⟨rb, 0, none⟩ (.int .i64 o)).setCell ⟨rb, 1, none⟩ (.string at')).setCell ⟨rb, 2, none⟩ (.slice p m cp)) := by
  have hs3 : Chg [rb] E (((E.setCell ⟨rb, 0, none⟩ (.int .i64 o)).setCell ⟨rb, 1, none⟩ (.string at')).setCell ⟨rb, 2, none⟩ (.slice p m cp)) := (((Chg.refl _ _).setCell (by simp) _).setCell (by simp) _).setCell (by simp) _
  obtain ⟨p', cp', hk'⟩ := hk.in.form
  cases hk'
  refine ⟨⟨o, at', ks⟩, p, cp, F, rfl, ⟨hk.chg hs3 (fun z hz => by have := hl z hz; simp; omega), fun z hz => by have := hl z hz; omega, hdn⟩, hd.chg hs3 (by simp; omega), ?_⟩
  exact ((h1.mono (by simp)).trans hc).past hs3 (by simpa using .inr hr)
theorem SomeX.two {x y : Ex} {k l : Value} {F G : List Nat} {w2 E : World} {T : TypeId} (hx : x.ks.Own E k F) (hy : y.ks.Own E l G) (hF : ∀ z ∈ F, z < w2.heap.size) (hG : ∀ z ∈ G, w2.heap.size ≤ z) :
    (Fo.of [x, y]).Own (E.alloc (.cells #[.int .i64 x.op, .string x.a, k, .int .i64 y.op, .string y.a, l] T)) (.slice (some ⟨E.heap.size, 0, none⟩) 2 2) (E.heap.size :: (F ++ G)) :=
  own_two hx hy (fun z hz hm => by have := hF z hz; have := hG z hm; omega)

set_option maxRecDepth 100000 in
set_option maxHeartbeats 16000000 in
theorem l2Some0 (kind : Int) (a N : Nat) (w : World) (h : Dr w a N) (hN : N ≤ 900300) :
    Calls Tryd.prog 54 #[.pointer (some ⟨a, 0, none⟩), .int .i64 kind, .int .i64 0] w (SomeX 0 2 a N w) := by
  have hal := h.lt
  go_enter Tryd.func54, Tryd.ntmps54
  obtain ⟨W1, eW1⟩ : ∃ E, E = w.alloc (.cells #[.int .i64 0, .string ⟨#[]⟩, .slice none 0 0] 25) := ⟨_, rfl⟩
  have sW1 : w.heap.size + 1 ≤ W1.heap.size := by rw [eW1]; simp
  have HW1 := Lib.hid (show Chg [] w W1 by rw [eW1]; exact (Chg.refl _ _).alloc _)
  have HFIN := Lib.hid (fun (E : World) o at' ks p m cp F hk hl hd hc hdn => SomeX.fin (n := 0) (c := 2) (a := a) (N := N) (rb := w.heap.size) (E := E) HW1.out (Nat.le_refl _) hal o at' ks p m cp F hk hl hd hc hdn)
  have HR := Lib.hid (fun (E : World) (hE : Chg [a] W1 E) => show (E.cell? ⟨w.heap.size, 0, none⟩ = some (.int .i64 0) ∧ E.cell? ⟨w.heap.size, 1, none⟩ = some (.string ⟨#[]⟩) ∧ E.cell? ⟨w.heap.size, 2, none⟩ = some (.slice none 0 0)) ∧ E.frozen? ⟨w.heap.size, 0, none⟩ = false ∧ E.frozen? ⟨w.heap.size, 1, none⟩ = false ∧ E.frozen? ⟨w.heap.size, 2, none⟩ = false from
    ⟨⟨hE.cellOf (by simp; omega) (by rw [eW1]; simp [go_sem]), hE.cellOf (by simp; omega) (by rw [eW1]; simp [go_sem]), hE.cellOf (by simp; omega) (by rw [eW1]; simp [go_sem])⟩, hE.frozenOf (by simp; omega) (by omega) (by rw [eW1]; simp [go_sem]), hE.frozenOf (by simp; omega) (by omega) (by rw [eW1]; simp [go_sem]), hE.frozenOf (by simp; omega) (by omega) (by rw [eW1]; simp [go_sem])⟩)
  have dW := h.chg HW1.out (by simp)
  have cW := Chg.refl [a] W1
  go_wp2_with fail
  rw [← eW1]
  clear eW1
  refine (pick_nat 8 a (N) _ dW (by omega) (by decide)).mono ?_
  rintro en w8 ⟨q8, rfl, hq8, d8, k8⟩
  have c8 : Chg [a] W1 w8 := cW.trans k8
  have s8 := c8.size
  clear k8
  by_cases hz8 : q8 = 0
  · subst hz8
    obtain ⟨⟨t0, t1, t2⟩, z0, z1, z2⟩ := HR.out _ c8
    have HH := Lib.hid (HFIN.out w8 2 ⟨#[]⟩ .nil none 0 0 [] (Fo.Own.empty _) (by simp) (d8.mono (by omega)) c8 ((Ex.dn_leaf (by decide)).mono (by omega)))
    clear d8 c8
    go_wp2_with fail
    exact bodyPost_ret (v := .agg #[.int .i64 2, .string ⟨#[]⟩, .slice none 0 0]) (by simp [results, Tryd.results54, go_sem, t0, t1, t2]) rfl HH.out
  · have q0 : ((q8 : Int) == 0) = false := beq_eq_false_iff_ne.2 (by omega)
    by_cases hk1 : kind = 1
    · subst hk1
      go_wp2_with fail
      refine (of_dr a (N + 1) _ 5 _ _ (d8.alloc _) (by omega) (Cs.fresh strB strB_spec _ _ _ rfl (by rfl) (by kernel_rfl)) (by decide) (by have := d8.lt; omega)).mono ?_
      rintro en w9 ⟨s9, rfl, hs9, d9, k9⟩
      have c9 : Chg [a] W1 w9 := (c8.alloc _).trans k9
      clear k9
      obtain ⟨⟨t0, t1, t2⟩, z0, z1, z2⟩ := HR.out _ c9
      have HH := Lib.hid (HFIN.out w9 1 s9 .nil none 0 0 [] (Fo.Own.empty _) (by simp) (d9.mono (by omega)) c9 ((Ex.dn_leaf ⟨by decide, by decide, hs9⟩).mono (by omega)))
      clear d8 d9 c8 c9
      go_wp2_with fail
      exact bodyPost_ret (v := .agg #[.int .i64 1, .string s9, .slice none 0 0]) (by simp [results, Tryd.results54, go_sem, t0, t1, t2]) rfl HH.out
    · have qk : (kind == 1) = false := beq_eq_false_iff_ne.2 hk1
      go_wp2_with fail
      refine (of_dr a (N + 1) _ 6 _ _ (d8.alloc _) (by omega) (Cs.fresh strB strB_spec _ _ _ rfl (by rfl) (by kernel_rfl)) (by decide) (by have := d8.lt; omega)).mono ?_
      rintro en w9 ⟨s9, rfl, hs9, d9, k9⟩
      have c9 : Chg [a] W1 w9 := (c8.alloc _).trans k9
      clear k9
      obtain ⟨⟨t0, t1, t2⟩, z0, z1, z2⟩ := HR.out _ c9
      have HH := Lib.hid (HFIN.out w9 1 s9 .nil none 0 0 [] (Fo.Own.empty _) (by simp) (d9.mono (by omega)) c9 ((Ex.dn_leaf ⟨by decide, by decide, hs9⟩).mono (by omega)))
      clear d8 d9 c8 c9
      go_wp2_with fail
      exact bodyPost_ret (v := .agg #[.int .i64 1, .string s9, .slice none 0 0]) (by simp [results, Tryd.results54, go_sem, t0, t1, t2]) rfl HH.out
set_option maxRecDepth 100000 in
set_option maxHeartbeats 16000000 in
theorem l2Some1 (kind : Int) (a N : Nat) (w : World) (h : Dr w a N) (hN : N ≤ 900200) :
    Calls Tryd.prog 54 #[.pointer (some ⟨a, 0, none⟩), .int .i64 kind, .int .i64 1] w (SomeX 2 6 a N w) := by
  have hal := h.lt
  go_enter Tryd.func54, Tryd.ntmps54
  obtain ⟨W1, eW1⟩ : ∃ E, E = w.alloc (.cells #[.int .i64 0, .string ⟨#[]⟩, .slice none 0 0] 25) := ⟨_, rfl⟩
  have sW1 : w.heap.size + 1 ≤ W1.heap.size := by rw [eW1]; simp
  have HW1 := Lib.hid (show Chg [] w W1 by rw [eW1]; exact (Chg.refl _ _).alloc _)
  have HFIN := Lib.hid (fun (E : World) o at' ks p m cp F hk hl hd hc hdn => SomeX.fin (n := 2) (c := 6) (a := a) (N := N) (rb := w.heap.size) (E := E) HW1.out (Nat.le_refl _) hal o at' ks p m cp F hk hl hd hc hdn)
  have HR := Lib.hid (fun (E : World) (hE : Chg [a] W1 E) => show (E.cell? ⟨w.heap.size, 0, none⟩ = some (.int .i64 0) ∧ E.cell? ⟨w.heap.size, 1, none⟩ = some (.string ⟨#[]⟩) ∧ E.cell? ⟨w.heap.size, 2, none⟩ = some (.slice none 0 0)) ∧ E.frozen? ⟨w.heap.size, 0, none⟩ = false ∧ E.frozen? ⟨w.heap.size, 1, none⟩ = false ∧ E.frozen? ⟨w.heap.size, 2, none⟩ = false from
    ⟨⟨hE.cellOf (by simp; omega) (by rw [eW1]; simp [go_sem]), hE.cellOf (by simp; omega) (by rw [eW1]; simp [go_sem]), hE.cellOf (by simp; omega) (by rw [eW1]; simp [go_sem])⟩, hE.frozenOf (by simp; omega) (by omega) (by rw [eW1]; simp [go_sem]), hE.frozenOf (by simp; omega) (by omega) (by rw [eW1]; simp [go_sem]), hE.frozenOf (by simp; omega) (by omega) (by rw [eW1]; simp [go_sem])⟩)
  have dW := h.chg HW1.out (by simp)
  have cW := Chg.refl [a] W1
  go_wp2_with fail
  rw [← eW1]
  clear eW1
  refine (pick_nat 3 a N _ dW (by omega) (by decide)).mono ?_
  rintro en w2 ⟨q, rfl, hq, d2, k2⟩
  have c2 : Chg [a] W1 w2 := k2
  clear k2
  by_cases hz : q = 0
  · subst hz
    go_wp2_with fail
    refine (pick_nat 8 a (N + 1) _ d2 (by omega) (by decide)).mono ?_
    rintro en w8 ⟨q8, rfl, hq8, d8, k8⟩
    have c8 : Chg [a] W1 w8 := c2.trans k8
    have s8 := c8.size
    clear k8
    by_cases hz8 : q8 = 0
    · subst hz8
      obtain ⟨⟨t0, t1, t2⟩, z0, z1, z2⟩ := HR.out _ c8
      have HH := Lib.hid (HFIN.out w8 2 ⟨#[]⟩ .nil none 0 0 [] (Fo.Own.empty _) (by simp) (d8.mono (by omega)) c8 ((Ex.dn_leaf (by decide)).mono (by omega)))
      clear d8 c8
      go_wp2_with fail
      exact bodyPost_ret (v := .agg #[.int .i64 2, .string ⟨#[]⟩, .slice none 0 0]) (by simp [results, Tryd.results54, go_sem, t0, t1, t2]) rfl HH.out
    · have q0 : ((q8 : Int) == 0) = false := beq_eq_false_iff_ne.2 (by omega)
      by_cases hk1 : kind = 1
      · subst hk1
        go_wp2_with fail
        refine (of_dr a (N + 1 + 1) _ 5 _ _ (d8.alloc _) (by omega) (Cs.fresh strB strB_spec _ _ _ rfl (by rfl) (by kernel_rfl)) (by decide) (by have := d8.lt; omega)).mono ?_
        rintro en w9 ⟨s9, rfl, hs9, d9, k9⟩
        have c9 : Chg [a] W1 w9 := (c8.alloc _).trans k9
        clear k9
        obtain ⟨⟨t0, t1, t2⟩, z0, z1, z2⟩ := HR.out _ c9
        have HH := Lib.hid (HFIN.out w9 1 s9 .nil none 0 0 [] (Fo.Own.empty _) (by simp) (d9.mono (by omega)) c9 ((Ex.dn_leaf ⟨by decide, by decide, hs9⟩).mono (by omega)))
        clear d8 d9 c8 c9
        go_wp2_with fail
        exact bodyPost_ret (v := .agg #[.int .i64 1, .string s9, .slice none 0 0]) (by simp [results, Tryd.results54, go_sem, t0, t1, t2]) rfl HH.out
      · have qk : (kind == 1) = false := beq_eq_false_iff_ne.2 hk1
        go_wp2_with fail
        refine (of_dr a (N + 1 + 1) _ 6 _ _ (d8.alloc _) (by omega) (Cs.fresh strB strB_spec _ _ _ rfl (by rfl) (by kernel_rfl)) (by decide) (by have := d8.lt; omega)).mono ?_
        rintro en w9 ⟨s9, rfl, hs9, d9, k9⟩
        have c9 : Chg [a] W1 w9 := (c8.alloc _).trans k9
        clear k9
        obtain ⟨⟨t0, t1, t2⟩, z0, z1, z2⟩ := HR.out _ c9
        have HH := Lib.hid (HFIN.out w9 1 s9 .nil none 0 0 [] (Fo.Own.empty _) (by simp) (d9.mono (by omega)) c9 ((Ex.dn_leaf ⟨by decide, by decide, hs9⟩).mono (by omega)))
        clear d8 d9 c8 c9
        go_wp2_with fail
        exact bodyPost_ret (v := .agg #[.int .i64 1, .string s9, .slice none 0 0]) (by simp [results, Tryd.results54, go_sem, t0, t1, t2]) rfl HH.out
  · have q0 : ((q : Int) == 0) = false := beq_eq_false_iff_ne.2 (by omega)
    go_wp2_with fail
    refine (pick_nat 3 a (N + 1) _ d2 (by omega) (by decide)).mono ?_
    rintro en w3 ⟨t, rfl, ht, d3, k3⟩
    have c3 := c2.trans k3
    clear k3 d2
    by_cases h0 : t = 0
    · subst h0
      go_wp2_with fail
      refine (l2Some0 kind a (N + 1 + 1) _ d3 (by omega)).mono ?_
      rintro en w4 ⟨x, p, cp, F, rfl, ⟨ho, hl, hdn⟩, d4, k4⟩
      have c4 := c3.trans k4
      have s4 : w.heap.size < w4.heap.size := by have := c4.size; omega
      obtain ⟨⟨t0, t1, t2⟩, z0, z1, z2⟩ := HR.out _ c4
      have hh := (HFIN.out (w4.alloc (.cells #[.int .i64 x.op, .string x.a, .slice p x.ks.list.length cp] 25)) 3 ⟨#[]⟩ (Fo.of [x]) (some ⟨w4.heap.size, 0, none⟩) 1 1 _ (own_one ho) (fun z hz => by
        rcases List.mem_cons.1 hz with rfl | hz
        · omega
        · have := hl z hz; have := c3.size; omega) ((d4.alloc _).mono (by omega)) (c4.alloc _) ((Ex.dn_one (by decide) hdn).mono (by omega)))
      rw [World.setCell_alloc_past _ _ _ _ s4, World.setCell_alloc_past _ _ _ _ (by simpa using s4), World.setCell_alloc_past _ _ _ _ (by simpa using s4)] at hh
      have HH := Lib.hid hh
      clear hh d4 k4 c4 ho hl hdn d3 c3
      go_wp2_with fail
      exact bodyPost_ret (v := .agg #[.int .i64 3, .string ⟨#[]⟩, .slice (some ⟨w4.heap.size, 0, none⟩) 1 1]) (by simp [results, Tryd.results54, go_sem, t0, t1, t2, s4]) rfl HH.out
    · have p0 : ((t : Int) == 0) = false := beq_eq_false_iff_ne.2 (by omega)
      by_cases h1 : t = 1
      · subst h1
        go_wp2_with fail
        refine (l2Some0 kind a (N + 1 + 1) _ d3 (by omega)).mono ?_
        rintro en w4 ⟨x, p, cp, F, rfl, ⟨ho, hl, hdn⟩, d4, k4⟩
        have c4 := c3.trans k4
        have HO := Lib.hid ho
        have HL := Lib.hid hl
        have HDN := Lib.hid hdn
        have HFL := Lib.hid ho.lt
        clear k4 ho hl hdn d3
        go_wp2_with fail
        refine (l2Some0 kind a (N + 1 + 1 + 2) _ d4 (by omega)).mono ?_
        rintro en w5 ⟨y, p', cp', G, rfl, ⟨ho', hl', hdn'⟩, d5, k5⟩
        have c5 := c4.trans k5
        have s5 : w.heap.size < w5.heap.size := by have := c5.size; omega
        have hal4 := d4.lt
        have hx := HO.out.chg k5 (fun z hz hm => by simp at hm; have := HL.out z hz; have := c3.size; omega)
        obtain ⟨⟨t0, t1, t2⟩, z0, z1, z2⟩ := HR.out _ c5
        have hh := (HFIN.out (w5.alloc (.cells #[.int .i64 x.op, .string x.a, .slice p x.ks.list.length cp, .int .i64 y.op, .string y.a, .slice p' y.ks.list.length cp'] 25)) 4 ⟨#[]⟩ (Fo.of [x, y]) (some ⟨w5.heap.size, 0, none⟩) 2 2 _ (SomeX.two hx ho' HFL.out hl') (fun z hz => by
          have := c3.size
          have := c4.size
          rcases List.mem_cons.1 hz with rfl | hz
          · omega
          · rcases List.mem_append.1 hz with hz | hz
            · have := HL.out z hz; omega
            · have := hl' z hz; omega) ((d5.alloc _).mono (by omega)) (c5.alloc _) ((Ex.dn_two (by decide) HDN.out hdn').mono (by omega)))
        rw [World.setCell_alloc_past _ _ _ _ s5, World.setCell_alloc_past _ _ _ _ (by simpa using s5), World.setCell_alloc_past _ _ _ _ (by simpa using s5)] at hh
        have HH := Lib.hid hh
        clear hh d4 d5 k5 c5 c4 c3 ho' hl' hdn' hx
        go_wp2_with fail
        exact bodyPost_ret (v := .agg #[.int .i64 4, .string ⟨#[]⟩, .slice (some ⟨w5.heap.size, 0, none⟩) 2 2]) (by simp [results, Tryd.results54, go_sem, t0, t1, t2, s5]) rfl HH.out
      · have p1 : ((t : Int) == 1) = false := beq_eq_false_iff_ne.2 (by omega)
        go_wp2_with fail
        refine (l2Some0 kind a (N + 1 + 1) _ d3 (by omega)).mono ?_
        rintro en w4 ⟨x, p, cp, F, rfl, ⟨ho, hl, hdn⟩, d4, k4⟩
        have c4 := c3.trans k4
        have HO := Lib.hid ho
        have HL := Lib.hid hl
        have HDN := Lib.hid hdn
        have HFL := Lib.hid ho.lt
        clear k4 ho hl hdn d3
        go_wp2_with fail
        refine (l2Some0 kind a (N + 1 + 1 + 2) _ d4 (by omega)).mono ?_
        rintro en w5 ⟨y, p', cp', G, rfl, ⟨ho', hl', hdn'⟩, d5, k5⟩
        have c5 := c4.trans k5
        have s5 : w.heap.size < w5.heap.size := by have := c5.size; omega
        have hal4 := d4.lt
        have hx := HO.out.chg k5 (fun z hz hm => by simp at hm; have := HL.out z hz; have := c3.size; omega)
        obtain ⟨⟨t0, t1, t2⟩, z0, z1, z2⟩ := HR.out _ c5
        have hh := (HFIN.out (w5.alloc (.cells #[.int .i64 x.op, .string x.a, .slice p x.ks.list.length cp, .int .i64 y.op, .string y.a, .slice p' y.ks.list.length cp'] 25)) 5 ⟨#[]⟩ (Fo.of [x, y]) (some ⟨w5.heap.size, 0, none⟩) 2 2 _ (SomeX.two hx ho' HFL.out hl') (fun z hz => by
          have := c3.size
          have := c4.size
          rcases List.mem_cons.1 hz with rfl | hz
          · omega
          · rcases List.mem_append.1 hz with hz | hz
            · have := HL.out z hz; omega
            · have := hl' z hz; omega) ((d5.alloc _).mono (by omega)) (c5.alloc _) ((Ex.dn_two (by decide) HDN.out hdn').mono (by omega)))
        rw [World.setCell_alloc_past _ _ _ _ s5, World.setCell_alloc_past _ _ _ _ (by simpa using s5), World.setCell_alloc_past _ _ _ _ (by simpa using s5)] at hh
        have HH := Lib.hid hh
        clear hh d4 d5 k5 c5 c4 c3 ho' hl' hdn' hx
        go_wp2_with fail
        exact bodyPost_ret (v := .agg #[.int .i64 5, .string ⟨#[]⟩, .slice (some ⟨w5.heap.size, 0, none⟩) 2 2]) (by simp [results, Tryd.results54, go_sem, t0, t1, t2, s5]) rfl HH.out

set_option maxRecDepth 100000 in
set_option maxHeartbeats 16000000 in
theorem l2Some2 (kind : Int) (a N : Nat) (w : World) (h : Dr w a N) (hN : N ≤ 900100) :
    Calls Tryd.prog 54 #[.pointer (some ⟨a, 0, none⟩), .int .i64 kind, .int .i64 2] w (SomeX 6 14 a N w) := by
  have hal := h.lt
  go_enter Tryd.func54, Tryd.ntmps54
  obtain ⟨W1, eW1⟩ : ∃ E, E = w.alloc (.cells #[.int .i64 0, .string ⟨#[]⟩, .slice none 0 0] 25) := ⟨_, rfl⟩
  have sW1 : w.heap.size + 1 ≤ W1.heap.size := by rw [eW1]; simp
  have HW1 := Lib.hid (show Chg [] w W1 by rw [eW1]; exact (Chg.refl _ _).alloc _)
  have HFIN := Lib.hid (fun (E : World) o at' ks p m cp F hk hl hd hc hdn => SomeX.fin (n := 6) (c := 14) (a := a) (N := N) (rb := w.heap.size) (E := E) HW1.out (Nat.le_refl _) hal o at' ks p m cp F hk hl hd hc hdn)
  have HR := Lib.hid (fun (E : World) (hE : Chg [a] W1 E) => show (E.cell? ⟨w.heap.size, 0, none⟩ = some (.int .i64 0) ∧ E.cell? ⟨w.heap.size, 1, none⟩ = some (.string ⟨#[]⟩) ∧ E.cell? ⟨w.heap.size, 2, none⟩ = some (.slice none 0 0)) ∧ E.frozen? ⟨w.heap.size, 0, none⟩ = false ∧ E.frozen? ⟨w.heap.size, 1, none⟩ = false ∧ E.frozen? ⟨w.heap.size, 2, none⟩ = false from
    ⟨⟨hE.cellOf (by simp; omega) (by rw [eW1]; simp [go_sem]), hE.cellOf (by simp; omega) (by rw [eW1]; simp [go_sem]), hE.cellOf (by simp; omega) (by rw [eW1]; simp [go_sem])⟩, hE.frozenOf (by simp; omega) (by omega) (by rw [eW1]; simp [go_sem]), hE.frozenOf (by simp; omega) (by omega) (by rw [eW1]; simp [go_sem]), hE.frozenOf (by simp; omega) (by omega) (by rw [eW1]; simp [go_sem])⟩)
  have dW := h.chg HW1.out (by simp)
  have cW := Chg.refl [a] W1
  go_wp2_with fail
  rw [← eW1]
  clear eW1
  refine (pick_nat 3 a N _ dW (by omega) (by decide)).mono ?_
  rintro en w2 ⟨q, rfl, hq, d2, k2⟩
  have c2 : Chg [a] W1 w2 := k2
  clear k2
  by_cases hz : q = 0
  · subst hz
    go_wp2_with fail
    refine (pick_nat 8 a (N + 1) _ d2 (by omega) (by decide)).mono ?_
    rintro en w8 ⟨q8, rfl, hq8, d8, k8⟩
    have c8 : Chg [a] W1 w8 := c2.trans k8
    have s8 := c8.size
    clear k8
    by_cases hz8 : q8 = 0
    · subst hz8
      obtain ⟨⟨t0, t1, t2⟩, z0, z1, z2⟩ := HR.out _ c8
      have HH := Lib.hid (HFIN.out w8 2 ⟨#[]⟩ .nil none 0 0 [] (Fo.Own.empty _) (by simp) (d8.mono (by omega)) c8 ((Ex.dn_leaf (by decide)).mono (by omega)))
      clear d8 c8
      go_wp2_with fail
      exact bodyPost_ret (v := .agg #[.int .i64 2, .string ⟨#[]⟩, .slice none 0 0]) (by simp [results, Tryd.results54, go_sem, t0, t1, t2]) rfl HH.out
    · have q0 : ((q8 : Int) == 0) = false := beq_eq_false_iff_ne.2 (by omega)
      by_cases hk1 : kind = 1
      · subst hk1
        go_wp2_with fail
        refine (of_dr a (N + 1 + 1) _ 5 _ _ (d8.alloc _) (by omega) (Cs.fresh strB strB_spec _ _ _ rfl (by rfl) (by kernel_rfl)) (by decide) (by have := d8.lt; omega)).mono ?_
        rintro en w9 ⟨s9, rfl, hs9, d9, k9⟩
        have c9 : Chg [a] W1 w9 := (c8.alloc _).trans k9
        clear k9
        obtain ⟨⟨t0, t1, t2⟩, z0, z1, z2⟩ := HR.out _ c9
        have HH := Lib.hid (HFIN.out w9 1 s9 .nil none 0 0 [] (Fo.Own.empty _) (by simp) (d9.mono (by omega)) c9 ((Ex.dn_leaf ⟨by decide, by decide, hs9⟩).mono (by omega)))
        clear d8 d9 c8 c9
        go_wp2_with fail
        exact bodyPost_ret (v := .agg #[.int .i64 1, .string s9, .slice none 0 0]) (by simp [results, Tryd.results54, go_sem, t0, t1, t2]) rfl HH.out
      · have qk : (kind == 1) = false := beq_eq_false_iff_ne.2 hk1
        go_wp2_with fail
        refine (of_dr a (N + 1 + 1) _ 6 _ _ (d8.alloc _) (by omega) (Cs.fresh strB strB_spec _ _ _ rfl (by rfl) (by kernel_rfl)) (by decide) (by have := d8.lt; omega)).mono ?_
        rintro en w9 ⟨s9, rfl, hs9, d9, k9⟩
        have c9 : Chg [a] W1 w9 := (c8.alloc _).trans k9
        clear k9
        obtain ⟨⟨t0, t1, t2⟩, z0, z1, z2⟩ := HR.out _ c9
        have HH := Lib.hid (HFIN.out w9 1 s9 .nil none 0 0 [] (Fo.Own.empty _) (by simp) (d9.mono (by omega)) c9 ((Ex.dn_leaf ⟨by decide, by decide, hs9⟩).mono (by omega)))
        clear d8 d9 c8 c9
        go_wp2_with fail
        exact bodyPost_ret (v := .agg #[.int .i64 1, .string s9, .slice none 0 0]) (by simp [results, Tryd.results54, go_sem, t0, t1, t2]) rfl HH.out
  · have q0 : ((q : Int) == 0) = false := beq_eq_false_iff_ne.2 (by omega)
    go_wp2_with fail
    refine (pick_nat 3 a (N + 1) _ d2 (by omega) (by decide)).mono ?_
    rintro en w3 ⟨t, rfl, ht, d3, k3⟩
    have c3 := c2.trans k3
    clear k3 d2
    by_cases h0 : t = 0
    · subst h0
      go_wp2_with fail
      refine (l2Some1 kind a (N + 1 + 1) _ d3 (by omega)).mono ?_
      rintro en w4 ⟨x, p, cp, F, rfl, ⟨ho, hl, hdn⟩, d4, k4⟩
      have c4 := c3.trans k4
      have s4 : w.heap.size < w4.heap.size := by have := c4.size; omega
      obtain ⟨⟨t0, t1, t2⟩, z0, z1, z2⟩ := HR.out _ c4
      have hh := (HFIN.out (w4.alloc (.cells #[.int .i64 x.op, .string x.a, .slice p x.ks.list.length cp] 25)) 3 ⟨#[]⟩ (Fo.of [x]) (some ⟨w4.heap.size, 0, none⟩) 1 1 _ (own_one ho) (fun z hz => by
        rcases List.mem_cons.1 hz with rfl | hz
        · omega
        · have := hl z hz; have := c3.size; omega) ((d4.alloc _).mono (by omega)) (c4.alloc _) ((Ex.dn_one (by decide) hdn).mono (by omega)))
      rw [World.setCell_alloc_past _ _ _ _ s4, World.setCell_alloc_past _ _ _ _ (by simpa using s4), World.setCell_alloc_past _ _ _ _ (by simpa using s4)] at hh
      have HH := Lib.hid hh
      clear hh d4 k4 c4 ho hl hdn d3 c3
      go_wp2_with fail
      exact bodyPost_ret (v := .agg #[.int .i64 3, .string ⟨#[]⟩, .slice (some ⟨w4.heap.size, 0, none⟩) 1 1]) (by simp [results, Tryd.results54, go_sem, t0, t1, t2, s4]) rfl HH.out
    · have p0 : ((t : Int) == 0) = false := beq_eq_false_iff_ne.2 (by omega)
      by_cases h1 : t = 1
      · subst h1
        go_wp2_with fail
        refine (l2Some1 kind a (N + 1 + 1) _ d3 (by omega)).mono ?_
        rintro en w4 ⟨x, p, cp, F, rfl, ⟨ho, hl, hdn⟩, d4, k4⟩
        have c4 := c3.trans k4
        have HO := Lib.hid ho
        have HL := Lib.hid hl
        have HDN := Lib.hid hdn
        have HFL := Lib.hid ho.lt
        clear k4 ho hl hdn d3
        go_wp2_with fail
        refine (l2Some1 kind a (N + 1 + 1 + 6) _ d4 (by omega)).mono ?_
        rintro en w5 ⟨y, p', cp', G, rfl, ⟨ho', hl', hdn'⟩, d5, k5⟩
        have c5 := c4.trans k5
        have s5 : w.heap.size < w5.heap.size := by have := c5.size; omega
        have hal4 := d4.lt
        have hx := HO.out.chg k5 (fun z hz hm => by simp at hm; have := HL.out z hz; have := c3.size; omega)
        obtain ⟨⟨t0, t1, t2⟩, z0, z1, z2⟩ := HR.out _ c5
        have hh := (HFIN.out (w5.alloc (.cells #[.int .i64 x.op, .string x.a, .slice p x.ks.list.length cp, .int .i64 y.op, .string y.a, .slice p' y.ks.list.length cp'] 25)) 4 ⟨#[]⟩ (Fo.of [x, y]) (some ⟨w5.heap.size, 0, none⟩) 2 2 _ (SomeX.two hx ho' HFL.out hl') (fun z hz => by
          have := c3.size
          have := c4.size
          rcases List.mem_cons.1 hz with rfl | hz
          · omega
          · rcases List.mem_append.1 hz with hz | hz
            · have := HL.out z hz; omega
            · have := hl' z hz; omega) ((d5.alloc _).mono (by omega)) (c5.alloc _) ((Ex.dn_two (by decide) HDN.out hdn').mono (by omega)))
        rw [World.setCell_alloc_past _ _ _ _ s5, World.setCell_alloc_past _ _ _ _ (by simpa using s5), World.setCell_alloc_past _ _ _ _ (by simpa using s5)] at hh
        have HH := Lib.hid hh
        clear hh d4 d5 k5 c5 c4 c3 ho' hl' hdn' hx
        go_wp2_with fail
        exact bodyPost_ret (v := .agg #[.int .i64 4, .string ⟨#[]⟩, .slice (some ⟨w5.heap.size, 0, none⟩) 2 2]) (by simp [results, Tryd.results54, go_sem, t0, t1, t2, s5]) rfl HH.out
      · have p1 : ((t : Int) == 1) = false := beq_eq_false_iff_ne.2 (by omega)
        go_wp2_with fail
        refine (l2Some1 kind a (N + 1 + 1) _ d3 (by omega)).mono ?_
        rintro en w4 ⟨x, p, cp, F, rfl, ⟨ho, hl, hdn⟩, d4, k4⟩
        have c4 := c3.trans k4
        have HO := Lib.hid ho
        have HL := Lib.hid hl
        have HDN := Lib.hid hdn
        have HFL := Lib.hid ho.lt
        clear k4 ho hl hdn d3
        go_wp2_with fail
        refine (l2Some1 kind a (N + 1 + 1 + 6) _ d4 (by omega)).mono ?_
        rintro en w5 ⟨y, p', cp', G, rfl, ⟨ho', hl', hdn'⟩, d5, k5⟩
        have c5 := c4.trans k5
        have s5 : w.heap.size < w5.heap.size := by have := c5.size; omega
        have hal4 := d4.lt
        have hx := HO.out.chg k5 (fun z hz hm => by simp at hm; have := HL.out z hz; have := c3.size; omega)
        obtain ⟨⟨t0, t1, t2⟩, z0, z1, z2⟩ := HR.out _ c5
        have hh := (HFIN.out (w5.alloc (.cells #[.int .i64 x.op, .string x.a, .slice p x.ks.list.length cp, .int .i64 y.op, .string y.a, .slice p' y.ks.list.length cp'] 25)) 5 ⟨#[]⟩ (Fo.of [x, y]) (some ⟨w5.heap.size, 0, none⟩) 2 2 _ (SomeX.two hx ho' HFL.out hl') (fun z hz => by
          have := c3.size
          have := c4.size
          rcases List.mem_cons.1 hz with rfl | hz
          · omega
          · rcases List.mem_append.1 hz with hz | hz
            · have := HL.out z hz; omega
            · have := hl' z hz; omega) ((d5.alloc _).mono (by omega)) (c5.alloc _) ((Ex.dn_two (by decide) HDN.out hdn').mono (by omega)))
        rw [World.setCell_alloc_past _ _ _ _ s5, World.setCell_alloc_past _ _ _ _ (by simpa using s5), World.setCell_alloc_past _ _ _ _ (by simpa using s5)] at hh
        have HH := Lib.hid hh
        clear hh d4 d5 k5 c5 c4 c3 ho' hl' hdn' hx
        go_wp2_with fail
        exact bodyPost_ret (v := .agg #[.int .i64 5, .string ⟨#[]⟩, .slice (some ⟨w5.heap.size, 0, none⟩) 2 2]) (by simp [results, Tryd.results54, go_sem, t0, t1, t2, s5]) rfl HH.out

set_option maxRecDepth 100000 in
set_option maxHeartbeats 16000000 in
theorem l2Some3 (kind : Int) (a N : Nat) (w : World) (h : Dr w a N) (hN : N ≤ 900000) :
    Calls Tryd.prog 54 #[.pointer (some ⟨a, 0, none⟩), .int .i64 kind, .int .i64 3] w (SomeX 14 30 a N w) := by
  have hal := h.lt
  go_enter Tryd.func54, Tryd.ntmps54
  obtain ⟨W1, eW1⟩ : ∃ E, E = w.alloc (.cells #[.int .i64 0, .string ⟨#[]⟩, .slice none 0 0] 25) := ⟨_, rfl⟩
  have sW1 : w.heap.size + 1 ≤ W1.heap.size := by rw [eW1]; simp
  have HW1 := Lib.hid (show Chg [] w W1 by rw [eW1]; exact (Chg.refl _ _).alloc _)
  have HFIN := Lib.hid (fun (E : World) o at' ks p m cp F hk hl hd hc hdn => SomeX.fin (n := 14) (c := 30) (a := a) (N := N) (rb := w.heap.size) (E := E) HW1.out (Nat.le_refl _) hal o at' ks p m cp F hk hl hd hc hdn)
  have HR := Lib.hid (fun (E : World) (hE : Chg [a] W1 E) => show (E.cell? ⟨w.heap.size, 0, none⟩ = some (.int .i64 0) ∧ E.cell? ⟨w.heap.size, 1, none⟩ = some (.string ⟨#[]⟩) ∧ E.cell? ⟨w.heap.size, 2, none⟩ = some (.slice none 0 0)) ∧ E.frozen? ⟨w.heap.size, 0, none⟩ = false ∧ E.frozen? ⟨w.heap.size, 1, none⟩ = false ∧ E.frozen? ⟨w.heap.size, 2, none⟩ = false from
    ⟨⟨hE.cellOf (by simp; omega) (by rw [eW1]; simp [go_sem]), hE.cellOf (by simp; omega) (by rw [eW1]; simp [go_sem]), hE.cellOf (by simp; omega) (by rw [eW1]; simp [go_sem])⟩, hE.frozenOf (by simp; omega) (by omega) (by rw [eW1]; simp [go_sem]), hE.frozenOf (by simp; omega) (by omega) (by rw [eW1]; simp [go_sem]), hE.frozenOf (by simp; omega) (by omega) (by rw [eW1]; simp [go_sem])⟩)
  have dW := h.chg HW1.out (by simp)
  have cW := Chg.refl [a] W1
  go_wp2_with fail
  rw [← eW1]
  clear eW1
  refine (pick_nat 3 a N _ dW (by omega) (by decide)).mono ?_
  rintro en w2 ⟨q, rfl, hq, d2, k2⟩
  have c2 : Chg [a] W1 w2 := k2
  clear k2
  by_cases hz : q = 0
  · subst hz
    go_wp2_with fail
    refine (pick_nat 8 a (N + 1) _ d2 (by omega) (by decide)).mono ?_
    rintro en w8 ⟨q8, rfl, hq8, d8, k8⟩
    have c8 : Chg [a] W1 w8 := c2.trans k8
    have s8 := c8.size
    clear k8
    by_cases hz8 : q8 = 0
    · subst hz8
      obtain ⟨⟨t0, t1, t2⟩, z0, z1, z2⟩ := HR.out _ c8
      have HH := Lib.hid (HFIN.out w8 2 ⟨#[]⟩ .nil none 0 0 [] (Fo.Own.empty _) (by simp) (d8.mono (by omega)) c8 ((Ex.dn_leaf (by decide)).mono (by omega)))
      clear d8 c8
      go_wp2_with fail
      exact bodyPost_ret (v := .agg #[.int .i64 2, .string ⟨#[]⟩, .slice none 0 0]) (by simp [results, Tryd.results54, go_sem, t0, t1, t2]) rfl HH.out
    · have q0 : ((q8 : Int) == 0) = false := beq_eq_false_iff_ne.2 (by omega)
      by_cases hk1 : kind = 1
      · subst hk1
        go_wp2_with fail
        refine (of_dr a (N + 1 + 1) _ 5 _ _ (d8.alloc _) (by omega) (Cs.fresh strB strB_spec _ _ _ rfl (by rfl) (by kernel_rfl)) (by decide) (by have := d8.lt; omega)).mono ?_
        rintro en w9 ⟨s9, rfl, hs9, d9, k9⟩
        have c9 : Chg [a] W1 w9 := (c8.alloc _).trans k9
        clear k9
        obtain ⟨⟨t0, t1, t2⟩, z0, z1, z2⟩ := HR.out _ c9
        have HH := Lib.hid (HFIN.out w9 1 s9 .nil none 0 0 [] (Fo.Own.empty _) (by simp) (d9.mono (by omega)) c9 ((Ex.dn_leaf ⟨by decide, by decide, hs9⟩).mono (by omega)))
        clear d8 d9 c8 c9
        go_wp2_with fail
        exact bodyPost_ret (v := .agg #[.int .i64 1, .string s9, .slice none 0 0]) (by simp [results, Tryd.results54, go_sem, t0, t1, t2]) rfl HH.out
      · have qk : (kind == 1) = false := beq_eq_false_iff_ne.2 hk1
        go_wp2_with fail
        refine (of_dr a (N + 1 + 1) _ 6 _ _ (d8.alloc _) (by omega) (Cs.fresh strB strB_spec _ _ _ rfl (by rfl) (by kernel_rfl)) (by decide) (by have := d8.lt; omega)).mono ?_
        rintro en w9 ⟨s9, rfl, hs9, d9, k9⟩
        have c9 : Chg [a] W1 w9 := (c8.alloc _).trans k9
        clear k9
        obtain ⟨⟨t0, t1, t2⟩, z0, z1, z2⟩ := HR.out _ c9
        have HH := Lib.hid (HFIN.out w9 1 s9 .nil none 0 0 [] (Fo.Own.empty _) (by simp) (d9.mono (by omega)) c9 ((Ex.dn_leaf ⟨by decide, by decide, hs9⟩).mono (by omega)))
        clear d8 d9 c8 c9
        go_wp2_with fail
        exact bodyPost_ret (v := .agg #[.int .i64 1, .string s9, .slice none 0 0]) (by simp [results, Tryd.results54, go_sem, t0, t1, t2]) rfl HH.out
  · have q0 : ((q : Int) == 0) = false := beq_eq_false_iff_ne.2 (by omega)
    go_wp2_with fail
    refine (pick_nat 3 a (N + 1) _ d2 (by omega) (by decide)).mono ?_
    rintro en w3 ⟨t, rfl, ht, d3, k3⟩
    have c3 := c2.trans k3
    clear k3 d2
    by_cases h0 : t = 0
    · subst h0
      go_wp2_with fail
      refine (l2Some2 kind a (N + 1 + 1) _ d3 (by omega)).mono ?_
      rintro en w4 ⟨x, p, cp, F, rfl, ⟨ho, hl, hdn⟩, d4, k4⟩
      have c4 := c3.trans k4
      have s4 : w.heap.size < w4.heap.size := by have := c4.size; omega
      obtain ⟨⟨t0, t1, t2⟩, z0, z1, z2⟩ := HR.out _ c4
      have hh := (HFIN.out (w4.alloc (.cells #[.int .i64 x.op, .string x.a, .slice p x.ks.list.length cp] 25)) 3 ⟨#[]⟩ (Fo.of [x]) (some ⟨w4.heap.size, 0, none⟩) 1 1 _ (own_one ho) (fun z hz => by
        rcases List.mem_cons.1 hz with rfl | hz
        · omega
        · have := hl z hz; have := c3.size; omega) ((d4.alloc _).mono (by omega)) (c4.alloc _) ((Ex.dn_one (by decide) hdn).mono (by omega)))
      rw [World.setCell_alloc_past _ _ _ _ s4, World.setCell_alloc_past _ _ _ _ (by simpa using s4), World.setCell_alloc_past _ _ _ _ (by simpa using s4)] at hh
      have HH := Lib.hid hh
      clear hh d4 k4 c4 ho hl hdn d3 c3
      go_wp2_with fail
      exact bodyPost_ret (v := .agg #[.int .i64 3, .string ⟨#[]⟩, .slice (some ⟨w4.heap.size, 0, none⟩) 1 1]) (by simp [results, Tryd.results54, go_sem, t0, t1, t2, s4]) rfl HH.out
    · have p0 : ((t : Int) == 0) = false := beq_eq_false_iff_ne.2 (by omega)
      by_cases h1 : t = 1
      · subst h1
        go_wp2_with fail
        refine (l2Some2 kind a (N + 1 + 1) _ d3 (by omega)).mono ?_
        rintro en w4 ⟨x, p, cp, F, rfl, ⟨ho, hl, hdn⟩, d4, k4⟩
        have c4 := c3.trans k4
        have HO := Lib.hid ho
        have HL := Lib.hid hl
        have HDN := Lib.hid hdn
        have HFL := Lib.hid ho.lt
        clear k4 ho hl hdn d3
        go_wp2_with fail
        refine (l2Some2 kind a (N + 1 + 1 + 14) _ d4 (by omega)).mono ?_
        rintro en w5 ⟨y, p', cp', G, rfl, ⟨ho', hl', hdn'⟩, d5, k5⟩
        have c5 := c4.trans k5
        have s5 : w.heap.size < w5.heap.size := by have := c5.size; omega
        have hal4 := d4.lt
        have hx := HO.out.chg k5 (fun z hz hm => by simp at hm; have := HL.out z hz; have := c3.size; omega)
        obtain ⟨⟨t0, t1, t2⟩, z0, z1, z2⟩ := HR.out _ c5
        have hh := (HFIN.out (w5.alloc (.cells #[.int .i64 x.op, .string x.a, .slice p x.ks.list.length cp, .int .i64 y.op, .string y.a, .slice p' y.ks.list.length cp'] 25)) 4 ⟨#[]⟩ (Fo.of [x, y]) (some ⟨w5.heap.size, 0, none⟩) 2 2 _ (SomeX.two hx ho' HFL.out hl') (fun z hz => by
          have := c3.size
          have := c4.size
          rcases List.mem_cons.1 hz with rfl | hz
          · omega
          · rcases List.mem_append.1 hz with hz | hz
            · have := HL.out z hz; omega
            · have := hl' z hz; omega) ((d5.alloc _).mono (by omega)) (c5.alloc _) ((Ex.dn_two (by decide) HDN.out hdn').mono (by omega)))
        rw [World.setCell_alloc_past _ _ _ _ s5, World.setCell_alloc_past _ _ _ _ (by simpa using s5), World.setCell_alloc_past _ _ _ _ (by simpa using s5)] at hh
        have HH := Lib.hid hh
        clear hh d4 d5 k5 c5 c4 c3 ho' hl' hdn' hx
        go_wp2_with fail
        exact bodyPost_ret (v := .agg #[.int .i64 4, .string ⟨#[]⟩, .slice (some ⟨w5.heap.size, 0, none⟩) 2 2]) (by simp [results, Tryd.results54, go_sem, t0, t1, t2, s5]) rfl HH.out
      · have p1 : ((t : Int) == 1) = false := beq_eq_false_iff_ne.2 (by omega)
        go_wp2_with fail
        refine (l2Some2 kind a (N + 1 + 1) _ d3 (by omega)).mono ?_
        rintro en w4 ⟨x, p, cp, F, rfl, ⟨ho, hl, hdn⟩, d4, k4⟩
        have c4 := c3.trans k4
        have HO := Lib.hid ho
        have HL := Lib.hid hl
        have HDN := Lib.hid hdn
        have HFL := Lib.hid ho.lt
        clear k4 ho hl hdn d3
        go_wp2_with fail
        refine (l2Some2 kind a (N + 1 + 1 + 14) _ d4 (by omega)).mono ?_
        rintro en w5 ⟨y, p', cp', G, rfl, ⟨ho', hl', hdn'⟩, d5, k5⟩
        have c5 := c4.trans k5
        have s5 : w.heap.size < w5.heap.size := by have := c5.size; omega
        have hal4 := d4.lt
        have hx := HO.out.chg k5 (fun z hz hm => by simp at hm; have := HL.out z hz; have := c3.size; omega)
        obtain ⟨⟨t0, t1, t2⟩, z0, z1, z2⟩ := HR.out _ c5
        have hh := (HFIN.out (w5.alloc (.cells #[.int .i64 x.op, .string x.a, .slice p x.ks.list.length cp, .int .i64 y.op, .string y.a, .slice p' y.ks.list.length cp'] 25)) 5 ⟨#[]⟩ (Fo.of [x, y]) (some ⟨w5.heap.size, 0, none⟩) 2 2 _ (SomeX.two hx ho' HFL.out hl') (fun z hz => by
          have := c3.size
          have := c4.size
          rcases List.mem_cons.1 hz with rfl | hz
          · omega
          · rcases List.mem_append.1 hz with hz | hz
            · have := HL.out z hz; omega
            · have := hl' z hz; omega) ((d5.alloc _).mono (by omega)) (c5.alloc _) ((Ex.dn_two (by decide) HDN.out hdn').mono (by omega)))
        rw [World.setCell_alloc_past _ _ _ _ s5, World.setCell_alloc_past _ _ _ _ (by simpa using s5), World.setCell_alloc_past _ _ _ _ (by simpa using s5)] at hh
        have HH := Lib.hid hh
        clear hh d4 d5 k5 c5 c4 c3 ho' hl' hdn' hx
        go_wp2_with fail
        exact bodyPost_ret (v := .agg #[.int .i64 5, .string ⟨#[]⟩, .slice (some ⟨w5.heap.size, 0, none⟩) 2 2]) (by simp [results, Tryd.results54, go_sem, t0, t1, t2, s5]) rfl HH.out

end Go.Proofs.YtbbemeaojmfndaaDoor
