/- DrawJoinWalks: two parts of a drawn walk, each like it or nearly. -/
import Derived.Test.YtchhobphockhhaaL5T
import Derived.Test.YtchhobphockhhaaLModeParts
namespace Go.Proofs.Ytchhobphockhhaa
open Go.RowKit

/-- A new variable of two slices, empty. -/
def NewVar (b : Nat) (w : World) : Prop := b < w.heap.size ∧ w.cell? ⟨b, 0, none⟩ = some (.slice none 0 0) ∧ w.cell? ⟨b, 1, none⟩ = some (.slice none 0 0) ∧ w.frozen? ⟨b, 0, none⟩ = false ∧ w.frozen? ⟨b, 1, none⟩ = false
theorem NewVar.below {b : Nat} {w w' : World} (h : NewVar b w) (hb : Below w.heap.size w w') : NewVar b w' :=
  ⟨Nat.lt_of_lt_of_le h.1 hb.size, keepc hb h.1 h.2.1, keepc hb h.1 h.2.2.1, (hb.frozen (p := ⟨b, 0, none⟩) h.1).trans h.2.2.2.1, (hb.frozen (p := ⟨b, 1, none⟩) h.1).trans h.2.2.2.2⟩
theorem madeVar {K : Act → World → Prop} {A : Act} {E : World} {T : TypeId} (hk : ∀ w1, Below E.heap.size E w1 → NewVar E.heap.size w1 → K A w1) : K A (E.alloc (.cells #[.slice none 0 0, .slice none 0 0] T)) :=
  hk _ ((Below.refl _ _).alloc (Nat.le_refl _) _) ⟨by simp, by simp [go_sem], by simp [go_sem], by simp [go_sem], by simp [go_sem]⟩
/-- A variable that holds a walk in memory of the call's own. -/
def VarW (y : Wk) (b lo : Nat) (w : World) : Prop :=
  ∃ p c q d F, (w.cell? ⟨b, 0, none⟩ = some (.slice p y.ns.length c) ∧ w.cell? ⟨b, 1, none⟩ = some (.slice q y.es.length d)) ∧ y.Has (.agg #[.slice p y.ns.length c, .slice q y.es.length d]) F w ∧ (∀ z ∈ F, lo ≤ z) ∧ lo ≤ b ∧ b < w.heap.size
theorem VarW.mk {y : Wk} {b lo cA cB : Nat} {U : World} {pA pB : Option Addr} {FA FB : List Nat} (nv : NewVar b U) (oA : OwnI U (.slice pA y.ns.length cA) y.ns FA) (oB : OwnI U (.slice pB y.es.length cB) y.es FB) (fA : ∀ z ∈ FA, lo ≤ z) (fB : ∀ z ∈ FB, lo ≤ z) (nA : ∀ z ∈ FA, z ≠ b) (nB : ∀ z ∈ FB, z ≠ b) (dj : ∀ z ∈ FA, z ∉ FB) (hb : lo ≤ b) :
    VarW y b lo ((U.setCell ⟨b, 0, none⟩ (.slice pA y.ns.length cA)).setCell ⟨b, 1, none⟩ (.slice pB y.es.length cB)) := by
  have hs : Chg [b] U ((U.setCell ⟨b, 0, none⟩ (.slice pA y.ns.length cA)).setCell ⟨b, 1, none⟩ (.slice pB y.es.length cB)) := ((Chg.refl _ _).setCell (by simp) _).setCell (by simp) _
  refine ⟨pA, cA, pB, cB, FA ++ FB, ⟨?_, ?_⟩, ⟨_, _, FA, FB, rfl, rfl, (OwnI.own oA).chg hs (fun z hz hm => nA z hz (by simpa using hm)), (OwnI.own oB).chg hs (fun z hz hm => nB z hz (by simpa using hm)), dj⟩, fun z hz => ?_, hb, by simpa using nv.1⟩
  · rw [set_near _ _ _ _ _ (by omega)]; exact set_same _ _ _ _ _ nv.2.1
  · exact set_same _ _ _ (.slice none 0 0) _ ((set_near _ _ _ _ _ (by omega)).trans nv.2.2.1)
  · rcases List.mem_append.1 hz with h | h
    · exact fA z h
    · exact fB z h
theorem VarW.chg {y : Wk} {b lo : Nat} {G : List Nat} {w w' : World} (h : VarW y b lo w) (hc : Chg G w w') (hG : ∀ x ∈ G, x < lo) : VarW y b lo w' := by
  obtain ⟨p, c, q, d, F, ⟨h1, h2⟩, h3, h4, h5, h6⟩ := h
  have hb : b ∉ G := fun hm => by have := hG b hm; omega
  exact ⟨p, c, q, d, F, ⟨hc.cellOf hb h1, hc.cellOf hb h2⟩, h3.chg hc (fun z hz hm => by have := hG z hm; have := h4 z hz; omega), h4, h5, Nat.lt_of_lt_of_le h6 hc.size⟩

set_option maxRecDepth 100000 in
set_option maxHeartbeats 32000000 in
theorem drawJoinWalks_any (zs : List Int) (v : Value) (B : Nat) (w : World) (hv : Sl 1 byCells B w v zs) (hB : B ≤ w.heap.size) (hz : ∀ z ∈ zs, 0 ≤ z ∧ z ≤ 255) :
    Calls Try.prog 15 #[v] w (CaseWW w) := by
  obtain ⟨p, cap, rfl⟩ := hv.form
  have HV := Lib.hid hv
  clear hv
  go_enter Try.func15, Try.ntmps15
  go_wp2_with fail
  obtain ⟨W1, eW1⟩ : ∃ E, E = (w.alloc (.cells #[.slice none 0 0, .slice none 0 0] 25)).alloc (.cells #[.slice none 0 0, .slice none 0 0] 25) := ⟨_, rfl⟩
  obtain ⟨sW1, sW1'⟩ : w.heap.size + 2 ≤ W1.heap.size ∧ W1.heap.size ≤ w.heap.size + 2 := by rw [eW1]; constructor <;> simp
  have HW1 := Lib.hid (show Chg [] w W1 by rw [eW1]; exact ((Chg.refl _ _).alloc _).alloc _)
  have HRES := Lib.hid (show (W1.cell? ⟨w.heap.size, 0, none⟩ = some (.slice none 0 0) ∧ W1.cell? ⟨w.heap.size, 1, none⟩ = some (.slice none 0 0) ∧ W1.cell? ⟨w.heap.size + 1, 0, none⟩ = some (.slice none 0 0) ∧ W1.cell? ⟨w.heap.size + 1, 1, none⟩ = some (.slice none 0 0)) ∧ W1.frozen? ⟨w.heap.size, 0, none⟩ = false ∧ W1.frozen? ⟨w.heap.size, 1, none⟩ = false ∧ W1.frozen? ⟨w.heap.size + 1, 0, none⟩ = false ∧ W1.frozen? ⟨w.heap.size + 1, 1, none⟩ = false by rw [eW1]; exact ⟨⟨by simp [go_sem], by simp [go_sem], by simp [go_sem], by simp [go_sem]⟩, by simp [go_sem], by simp [go_sem], by simp [go_sem], by simp [go_sem]⟩)
  rw [← eW1]
  clear eW1
  refine (open_any zs _ B W1 (HV.out.below (HW1.out.of0.mono hB)) (by omega) hz).mono ?_
  rintro en u1 ⟨rfl, hr1, hs1, hb1⟩
  have d1 : Dr u1 W1.heap.size 0 := ⟨0, Nat.le_refl _, hr1⟩
  have HB1 := Lib.hid (Chg.of_below hb1 [])
  have s1 := d1.lt
  clear hr1 hb1 hs1
  go_wp2_with fail
  refine (l5Draw_any W1.heap.size 0 u1 d1 (by omega)).mono ?_
  rintro en u2 ⟨g, vg, Fg, x, vx, Fx, rfl, hg, hx, hl1, hl2, d2, k2⟩
  obtain ⟨pg, cg, qg, dg, rfl⟩ := hg.1.form
  obtain ⟨px, cx, qx, dx, rfl⟩ := hx.1.form
  have HL := Lib.hid (And.intro hl1 hl2)
  have HX := Lib.hid hx
  have s2 := k2.size
  have HK2 := Lib.hid (((HW1.out.trans HB1.out).past k2 (by simp; omega)) : Chg [] w u2)
  have HKW := Lib.hid (((HB1.out.mono (by simp)).trans k2) : Chg [W1.heap.size] W1 u2)
  clear hl1 hl2 hg hx k2 d1
  go_upto_region 3 with fail
  obtain ⟨W3, eW3⟩ : ∃ E, E = (u2.alloc (.cells #[.slice pg g.ns.length cg, .slice qg g.es.length dg] 55)).alloc (.cells #[.slice px x.ns.length cx, .slice qx x.es.length dx] 25) := ⟨_, rfl⟩
  have kW3 : Chg [] u2 W3 := by rw [eW3]; exact ((Chg.refl _ _).alloc _).alloc _
  obtain ⟨sW3, sW3'⟩ : u2.heap.size + 2 ≤ W3.heap.size ∧ W3.heap.size ≤ u2.heap.size + 2 := by rw [eW3]; constructor <;> simp
  have HC3 := Lib.hid (show W3.cell? ⟨u2.heap.size + 1, 0, none⟩ = some (.slice px x.ns.length cx) ∧ W3.cell? ⟨u2.heap.size + 1, 1, none⟩ = some (.slice qx x.es.length dx) by rw [eW3]; exact ⟨by simp [go_sem], by simp [go_sem]⟩)
  rw [← eW3]
  clear eW3
  have HX3 := Lib.hid (HX.out.chg kW3 (by simp))
  have d3 := d2.chg kW3 (by simp)
  have HK3 := Lib.hid (HK2.out.trans kW3)
  have HKW3 := Lib.hid (HKW.out.trans (kW3.mono (by simp)))
  clear kW3 d2
  obtain ⟨i0, i1⟩ := HC3.out
  have hpos : 0 < x.ns.length := by have := HL.out.1; omega
  go_wp2_with fail
  refine (pick_nat x.ns.length W1.heap.size 7010 W3 (d3.mono (by omega)) (by omega) hpos).mono ?_
  rintro en W ⟨k, rfl, hlt, d4, k4⟩
  have HXW := Lib.hid (HX3.out.chg k4 (by simp; omega))
  have HKWW := Lib.hid (HKW3.out.trans k4)
  have HKX0 := Lib.hid (HK3.out.past k4 (by simp; omega))
  have HCW := Lib.hid (And.intro (k4.cellOf (b := u2.heap.size + 1) (o := 0) (by simp; omega) HC3.out.1) (k4.cellOf (b := u2.heap.size + 1) (o := 1) (by simp; omega) HC3.out.2))
  have sW := k4.size
  have HD := Lib.hid d4
  clear k4 d3 d4 i0 i1
  obtain ⟨bw, ebw, hbw⟩ : ∃ bw, bw = u2.heap.size + 1 ∧ bw < W.heap.size := ⟨_, rfl, by omega⟩
  rw [← ebw] at HCW ⊢
  have hbne : bw ≠ w.heap.size ∧ bw ≠ w.heap.size + 1 ∧ bw ≠ W1.heap.size := by omega
  have hwne : w.heap.size + 1 < W1.heap.size ∧ W1.heap.size < W.heap.size := by omega
  clear ebw HC3 sW3 sW3' sW
  have HKX := Lib.hid (fun (E : World) (hE : Below W.heap.size W E) => And.intro (keepc hE hbw HCW.out.1) (keepc hE hbw HCW.out.2))
  have HA := Lib.hid (fun (E : World) (hE : Below W.heap.size W E) => (HXW.out.1.at.to hE (Nat.le_refl _)))
  have hke : k ≤ x.es.length := by have := HL.out.1; omega
  have hlen : x.ns.length ≤ 10 ∧ x.es.length ≤ 10 := by have := HL.out; omega
  obtain ⟨v0, v1, e1, a1, a2⟩ := HA.out _ (Below.refl _ _)
  cases e1
  obtain ⟨b, off, rfl, hbb, _⟩ := a1.it hlt
  have hmx := a1.max
  have hmy := a2.max
  unfold maxLen at hmx hmy
  have g1 : (k : Int) + 1 ≤ (cx : Int) := by omega
  have g2 : (k : Int) ≤ (dx : Int) := by omega
  have g3 : (k : Int) ≤ (x.ns.length : Int) := by omega
  have g4 : (k : Int) ≤ (x.es.length : Int) := by omega
  have g5 : k ≤ x.ns.length := by omega
  have g6 : k + 1 ≤ cx := by omega
  have g7 : k ≤ dx := by omega
  have g8 : (0 : Int) ≤ (k : Int) + 1 := by omega
  have g9 : IntKind.i64.wrap ((k : Int) + 1) = (k : Int) + 1 := by rw [IntKind.wrap_i64]; omega
  have q0 : (cx = k) = False := eq_false (by omega)
  have q1 : (cx - k = 0) = False := eq_false (by omega)
  clear a1 a2
  have HPA := Lib.hid (fun (E : World) (hE : Below W.heap.size W E) => partA_at (k := k) (HA.out E hE) (by omega) hke)
  obtain ⟨ya, hya⟩ : ∃ y, y = partA x k := ⟨_, rfl⟩
  have HYA := Lib.hid (show ya.need ≤ 11 by have := HL.out; rw [hya]; unfold partA; unfold Wk.need; simp only [List.length_take]; omega)
  have hya2 : ya.ns.length ≤ 20 ∧ ya.es.length ≤ 20 := by have := HYA.out; unfold Wk.need at this; omega
  rw [← hya] at HPA
  clear hya
  go_upto_region 4 with fail
  go_cut [8] (fun t wx => ∃ ba, t = .pointer (some ⟨ba, 0, none⟩) ∧ VarW ya ba W.heap.size wx ∧ Below W.heap.size W wx)
  case first =>
    have SN := Lib.hid (fun (E : World) (hE : Below W.heap.size W E) => (show Sl 1 intCells W.heap.size E (.slice (some ⟨b, off, none⟩) (k + 1) cx) ya.ns from by obtain ⟨_, _, e, h1, _⟩ := HPA.out E hE; cases e; exact h1))
    have SE := Lib.hid (fun (E : World) (hE : Below W.heap.size W E) => (show Sl 1 intCells W.heap.size E (.slice qx k dx) ya.es from by obtain ⟨_, _, e, _, h1⟩ := HPA.out E hE; cases e; exact h1))
    refine wp_region_E (last := 15) (S := fun w' => w'.cell? ⟨bw, 0, none⟩ = some (.slice (some ⟨b, off, none⟩) x.ns.length cx) ∧ w'.cell? ⟨bw, 1, none⟩ = some (.slice qx x.es.length dx)) (by kernel_rfl) ?_ (fun hHeld => ?_)
    · exact HKX.out _ ((Below.refl _ _).drew)
    have cW0 : Below W.heap.size W W.drew := (Below.refl _ _).drew
    generalize W.drew = W0 at cW0 hHeld ⊢
    have yW0 := cW0.size
    (refine takeE (i := 1) (v := ?_) [] rfl (by kernel_rfl) (by kernel_rfl) (fun _ _ _ h => h) (Or.inl ⟨by kernel_rfl, ?_⟩) (by assumption) ?_; rotate_left; (focus (intro w hSw; (try dsimp only at hSw); go_simp; first | done | with_reducible rfl | fail "takeE")); (try simp only [Act.put, List.setIfInBounds_toArray, List.set_cons_zero, List.set_cons_succ]))
    (refine takeE (i := 2) (v := ?_) [] rfl (by kernel_rfl) (by kernel_rfl) (fun _ _ _ h => h) (Or.inl ⟨by kernel_rfl, ?_⟩) (by assumption) ?_; rotate_left; (focus (intro w hSw; (try dsimp only at hSw); go_simp; first | done | with_reducible rfl | fail "takeE")); (try simp only [Act.put, List.setIfInBounds_toArray, List.set_cons_zero, List.set_cons_succ]))
    (refine takeE (i := 3) (v := ?_) [] rfl (by kernel_rfl) (by kernel_rfl) (fun _ _ _ h => h) (Or.inl ⟨by kernel_rfl, ?_⟩) (by assumption) ?_; rotate_left; (focus (intro w hSw; (try dsimp only at hSw); go_simp; first | done | with_reducible rfl | fail "takeE")); (try simp only [Act.put, List.setIfInBounds_toArray, List.set_cons_zero, List.set_cons_succ]))
    (refine takeE (i := 4) (v := ?_) [] rfl (by kernel_rfl) (by kernel_rfl) (fun _ _ _ h => h) (Or.inl ⟨by kernel_rfl, ?_⟩) (by assumption) ?_; rotate_left; (focus (intro w hSw; (try dsimp only at hSw); go_simp; first | done | with_reducible rfl | fail "takeE")); (try simp only [Act.put, List.setIfInBounds_toArray, List.set_cons_zero, List.set_cons_succ]))
    (refine takeE (i := 5) (v := ?_) [] rfl (by kernel_rfl) (by kernel_rfl) (fun _ _ _ h => h) (Or.inl ⟨by kernel_rfl, ?_⟩) (by assumption) ?_; rotate_left; (focus (intro w hSw; (try dsimp only at hSw); go_simp; first | done | with_reducible rfl | fail "takeE")); (try simp only [Act.put, List.setIfInBounds_toArray, List.set_cons_zero, List.set_cons_succ]))
    (refine takeE (i := 8) (v := ?_) [] rfl (by kernel_rfl) (by kernel_rfl) (fun _ _ _ h => h) (Or.inl ⟨by kernel_rfl, ?_⟩) (by assumption) ?_; rotate_left; (focus (intro w hSw; (try dsimp only at hSw); go_simp; first | done | with_reducible rfl | fail "takeE")); (try simp only [Act.put, List.setIfInBounds_toArray, List.set_cons_zero, List.set_cons_succ]))
    (refine takeE (i := 9) (v := ?_) [] rfl (by kernel_rfl) (by kernel_rfl) (fun _ _ _ h => h) (Or.inl ⟨by kernel_rfl, ?_⟩) (by assumption) ?_; rotate_left; (focus (intro w hSw; (try dsimp only at hSw); go_simp; first | done | with_reducible rfl | fail "takeE")); (try simp only [Act.put, List.setIfInBounds_toArray, List.set_cons_zero, List.set_cons_succ]))
    (refine takeE (i := 10) (v := ?_) [] rfl (by kernel_rfl) (by kernel_rfl) (fun _ _ _ h => h) (Or.inl ⟨by kernel_rfl, ?_⟩) (by assumption) ?_; rotate_left; (focus (intro w hSw; (try dsimp only at hSw); go_simp; first | done | with_reducible rfl | fail "takeE")); (try simp only [Act.put, List.setIfInBounds_toArray, List.set_cons_zero, List.set_cons_succ]))
    (refine takeE (i := 11) (v := ?_) [] rfl (by kernel_rfl) (by kernel_rfl) (fun _ _ _ h => h) (Or.inl ⟨by kernel_rfl, ?_⟩) (by assumption) ?_; rotate_left; (focus (intro w hSw; (try dsimp only at hSw); go_simp; first | done | with_reducible rfl | fail "takeE")); (try simp only [Act.put, List.setIfInBounds_toArray, List.set_cons_zero, List.set_cons_succ]))
    refine upE (rs := [0, 7, 14]) (by kernel_rfl) (by simp) (AllE'.cons (i := 0) rfl (by kernel_rfl) (fun K hK => ?_) (AllE'.cons (i := 7) rfl (by kernel_rfl) (fun K hK => ?_) (AllE'.cons (i := 14) rfl (by kernel_rfl) (fun K hK => ?_) AllE'.nil)))
    · go_simp
      refine made (K := K) intB_spec 0 (by rfl) (by kernel_rfl) ?_
      intro U1 k0 z0 s0
      have kU1 : Below W0.heap.size W0 U1 := k0.of0
      clear k0 s0 z0
      have cU1 : Below W.heap.size W U1 := cW0.trans (kU1.mono cW0.size)
      have yU1 := kU1.size
      refine hK.out _ _ (HKX.out _ cU1) (fun hHeld => ?_)
      clear hK K
      (try simp only [Act.put, List.setIfInBounds_toArray, List.set_cons_zero, List.set_cons_succ])
      refine upE (rs := [6, 7, 14]) (by kernel_rfl) (by simp) (AllE'.cons (i := 6) rfl (by kernel_rfl) (fun K hK => ?_) (AllE'.cons (i := 7) rfl (by kernel_rfl) (fun K hK => ?_) (AllE'.cons (i := 14) rfl (by kernel_rfl) (fun K hK => ?_) AllE'.nil)))
      · refine wp_app (.tmp 22) (.tmp 27) 23 (by rfl) _ _ (by rfl) (by rfl) _ (onto_none (OwnI.empty U1 _) (SN.out U1 cU1) (by omega) _) ?_
        rintro v' U2 ⟨FA, oA, hA, kU2⟩
        obtain ⟨pA, cA, rfl⟩ := OwnI.form oA
        have cU2 : Below W.heap.size W U2 := cU1.trans (kU2.mono cU1.size)
        have yU2 := kU2.size
        have fA : ∀ z ∈ FA, W.heap.size ≤ z := fun z hz => by have := hA z hz; have := cU1.size; omega
        have lA := OwnI.lt oA
        refine hK.out _ _ (HKX.out _ cU2) (fun hHeld => ?_)
        clear hK K
        (try simp only [Act.put, List.setIfInBounds_toArray, List.set_cons_zero, List.set_cons_succ])
        refine upE (rs := [7, 14]) (by kernel_rfl) (by simp) (AllE'.cons (i := 7) rfl (by kernel_rfl) (fun K hK => ?_) (AllE'.cons (i := 14) rfl (by kernel_rfl) (fun K hK => ?_) AllE'.nil))
        · go_simp
          refine made (K := K) intB_spec 0 (by rfl) (by kernel_rfl) ?_
          intro U3 k0 z0 s0
          have kU3 : Below U2.heap.size U2 U3 := k0.of0
          clear k0 s0 z0
          have cU3 : Below W.heap.size W U3 := cU2.trans (kU3.mono cU2.size)
          have yU3 := kU3.size
          replace oA := OwnI.below oA kU3
          refine hK.out _ _ (HKX.out _ cU3) (fun hHeld => ?_)
          clear hK K
          (try simp only [Act.put, List.setIfInBounds_toArray, List.set_cons_zero, List.set_cons_succ])
          refine upE (rs := [12, 14]) (by kernel_rfl) (by simp) (AllE'.cons (i := 12) rfl (by kernel_rfl) (fun K hK => ?_) (AllE'.cons (i := 14) rfl (by kernel_rfl) (fun K hK => ?_) AllE'.nil))
          · refine wp_app (.tmp 29) (.tmp 33) 23 (by rfl) _ _ (by rfl) (by rfl) _ (onto_none (OwnI.empty U3 _) (SE.out U3 cU3) (by omega) _) ?_
            rintro v' U4 ⟨FB, oB, hB, kU4⟩
            obtain ⟨pB, cB, rfl⟩ := OwnI.form oB
            have cU4 : Below W.heap.size W U4 := cU3.trans (kU4.mono cU3.size)
            have yU4 := kU4.size
            replace oA := OwnI.below oA kU4
            have fB : ∀ z ∈ FB, W.heap.size ≤ z := fun z hz => by have := hB z hz; have := cU3.size; omega
            have lB := OwnI.lt oB
            have dj : ∀ z ∈ FA, z ∉ FB := fun z h1 h2 => by have := lA z h1; have := hB z h2; omega
            refine hK.out _ _ (HKX.out _ cU4) (fun hHeld => ?_)
            clear hK K
            (try simp only [Act.put, List.setIfInBounds_toArray, List.set_cons_zero, List.set_cons_succ])
            (refine takeE (i := 13) (v := ?_) [] rfl (by kernel_rfl) (by kernel_rfl) (fun _ _ _ h => h) (Or.inl ⟨by kernel_rfl, ?_⟩) (by assumption) ?_; rotate_left; (focus (intro w hSw; (try dsimp only at hSw); go_simp; first | done | with_reducible rfl | fail "takeE")); (try simp only [Act.put, List.setIfInBounds_toArray, List.set_cons_zero, List.set_cons_succ]))
            refine oneE (i := 14) rfl (by kernel_rfl) (by kernel_rfl) (fun K hK => ?_)
            go_simp
            refine madeVar (K := K) ?_
            intro U5 kU5 nv
            have cU5 : Below W.heap.size W U5 := cU4.trans (kU5.mono cU4.size)
            have yU5 := kU5.size
            replace oA := OwnI.below oA kU5
            replace oB := OwnI.below oB kU5
            have bv : W.heap.size ≤ U4.heap.size := cU4.size
            have sv := nv.1
            have nA : ∀ z ∈ FA, z ≠ U4.heap.size := fun z hz => by have := lA z hz; omega
            have nB : ∀ z ∈ FB, z ≠ U4.heap.size := fun z hz => by have := lB z hz; omega
            refine hK.out _ _ (HKX.out _ cU5) (fun hHeld => ?_)
            clear hK K
            (try simp only [Act.put, List.setIfInBounds_toArray, List.set_cons_zero, List.set_cons_succ])
            refine lastE rfl (by kernel_rfl) (by kernel_rfl) (fun K hK => ?_)
            obtain ⟨v0, v1, v2, v3, v4⟩ := nv
            go_simp
            refine hK.out _ _ ?_
            clear hK K
            refine doneE (by kernel_rfl) ?_ _
            go_wp2_with fail
            go_meet
            exact ⟨_, rfl, VarW.mk ⟨v0, v1, v2, v3, v4⟩ oA oB fA fB nA nB dj bv, (cU5.setCell (by show W.heap.size ≤ _; omega) _).setCell (by show W.heap.size ≤ _; omega) _⟩
          · go_simp
            refine madeVar (K := K) ?_
            intro U6 kU6 nv
            have cU6 : Below W.heap.size W U6 := cU3.trans (kU6.mono cU3.size)
            have yU6 := kU6.size
            replace oA := OwnI.below oA kU6
            have bv : W.heap.size ≤ U3.heap.size := cU3.size
            have sv := nv.1
            have nA : ∀ z ∈ FA, z ≠ U3.heap.size := fun z hz => by have := lA z hz; omega
            refine hK.out _ _ (HKX.out _ cU6) (fun hHeld => ?_)
            clear hK K
            (try simp only [Act.put, List.setIfInBounds_toArray, List.set_cons_zero, List.set_cons_succ])
            refine oneE (i := 12) rfl (by kernel_rfl) (by kernel_rfl) (fun K hK => ?_)
            refine wp_app (.tmp 29) (.tmp 33) 23 (by rfl) _ _ (by rfl) (by rfl) _ (onto_none (OwnI.empty U6 _) (SE.out U6 cU6) (by omega) _) ?_
            rintro v' U7 ⟨FB, oB, hB, kU7⟩
            obtain ⟨pB, cB, rfl⟩ := OwnI.form oB
            have cU7 : Below W.heap.size W U7 := cU6.trans (kU7.mono cU6.size)
            have yU7 := kU7.size
            replace oA := OwnI.below oA kU7
            replace nv := nv.below kU7
            have fB : ∀ z ∈ FB, W.heap.size ≤ z := fun z hz => by have := hB z hz; have := cU6.size; omega
            have lB := OwnI.lt oB
            have dj : ∀ z ∈ FA, z ∉ FB := fun z h1 h2 => by have := lA z h1; have := hB z h2; omega
            have nB : ∀ z ∈ FB, z ≠ U3.heap.size := fun z hz => by have := hB z hz; omega
            refine hK.out _ _ (HKX.out _ cU7) (fun hHeld => ?_)
            clear hK K
            (try simp only [Act.put, List.setIfInBounds_toArray, List.set_cons_zero, List.set_cons_succ])
            (refine takeE (i := 13) (v := ?_) [] rfl (by kernel_rfl) (by kernel_rfl) (fun _ _ _ h => h) (Or.inl ⟨by kernel_rfl, ?_⟩) (by assumption) ?_; rotate_left; (focus (intro w hSw; (try dsimp only at hSw); go_simp; first | done | with_reducible rfl | fail "takeE")); (try simp only [Act.put, List.setIfInBounds_toArray, List.set_cons_zero, List.set_cons_succ]))
            refine lastE rfl (by kernel_rfl) (by kernel_rfl) (fun K hK => ?_)
            obtain ⟨v0, v1, v2, v3, v4⟩ := nv
            go_simp
            refine hK.out _ _ ?_
            clear hK K
            refine doneE (by kernel_rfl) ?_ _
            go_wp2_with fail
            go_meet
            exact ⟨_, rfl, VarW.mk ⟨v0, v1, v2, v3, v4⟩ oA oB fA fB nA nB dj bv, (cU7.setCell (by show W.heap.size ≤ _; omega) _).setCell (by show W.heap.size ≤ _; omega) _⟩
        · go_simp
          refine madeVar (K := K) ?_
          intro U8 kU8 nv
          have cU8 : Below W.heap.size W U8 := cU2.trans (kU8.mono cU2.size)
          have yU8 := kU8.size
          replace oA := OwnI.below oA kU8
          have bv : W.heap.size ≤ U2.heap.size := cU2.size
          have sv := nv.1
          have nA : ∀ z ∈ FA, z ≠ U2.heap.size := fun z hz => by have := lA z hz; omega
          refine hK.out _ _ (HKX.out _ cU8) (fun hHeld => ?_)
          clear hK K
          (try simp only [Act.put, List.setIfInBounds_toArray, List.set_cons_zero, List.set_cons_succ])
          refine oneE (i := 7) rfl (by kernel_rfl) (by kernel_rfl) (fun K hK => ?_)
          go_simp
          refine made (K := K) intB_spec 0 (by rfl) (by kernel_rfl) ?_
          intro U9 k0 z0 s0
          have kU9 : Below U8.heap.size U8 U9 := k0.of0
          clear k0 s0 z0
          have cU9 : Below W.heap.size W U9 := cU8.trans (kU9.mono cU8.size)
          have yU9 := kU9.size
          replace oA := OwnI.below oA kU9
          replace nv := nv.below kU9
          refine hK.out _ _ (HKX.out _ cU9) (fun hHeld => ?_)
          clear hK K
          (try simp only [Act.put, List.setIfInBounds_toArray, List.set_cons_zero, List.set_cons_succ])
          refine oneE (i := 12) rfl (by kernel_rfl) (by kernel_rfl) (fun K hK => ?_)
          refine wp_app (.tmp 29) (.tmp 33) 23 (by rfl) _ _ (by rfl) (by rfl) _ (onto_none (OwnI.empty U9 _) (SE.out U9 cU9) (by omega) _) ?_
          rintro v' U10 ⟨FB, oB, hB, kU10⟩
          obtain ⟨pB, cB, rfl⟩ := OwnI.form oB
          have cU10 : Below W.heap.size W U10 := cU9.trans (kU10.mono cU9.size)
          have yU10 := kU10.size
          replace oA := OwnI.below oA kU10
          replace nv := nv.below kU10
          have fB : ∀ z ∈ FB, W.heap.size ≤ z := fun z hz => by have := hB z hz; have := cU9.size; omega
          have lB := OwnI.lt oB
          have dj : ∀ z ∈ FA, z ∉ FB := fun z h1 h2 => by have := lA z h1; have := hB z h2; omega
          have nB : ∀ z ∈ FB, z ≠ U2.heap.size := fun z hz => by have := hB z hz; omega
          refine hK.out _ _ (HKX.out _ cU10) (fun hHeld => ?_)
          clear hK K
          (try simp only [Act.put, List.setIfInBounds_toArray, List.set_cons_zero, List.set_cons_succ])
          (refine takeE (i := 13) (v := ?_) [] rfl (by kernel_rfl) (by kernel_rfl) (fun _ _ _ h => h) (Or.inl ⟨by kernel_rfl, ?_⟩) (by assumption) ?_; rotate_left; (focus (intro w hSw; (try dsimp only at hSw); go_simp; first | done | with_reducible rfl | fail "takeE")); (try simp only [Act.put, List.setIfInBounds_toArray, List.set_cons_zero, List.set_cons_succ]))
          refine lastE rfl (by kernel_rfl) (by kernel_rfl) (fun K hK => ?_)
          obtain ⟨v0, v1, v2, v3, v4⟩ := nv
          go_simp
          refine hK.out _ _ ?_
          clear hK K
          refine doneE (by kernel_rfl) ?_ _
          go_wp2_with fail
          go_meet
          exact ⟨_, rfl, VarW.mk ⟨v0, v1, v2, v3, v4⟩ oA oB fA fB nA nB dj bv, (cU10.setCell (by show W.heap.size ≤ _; omega) _).setCell (by show W.heap.size ≤ _; omega) _⟩
      · go_simp
        refine made (K := K) intB_spec 0 (by rfl) (by kernel_rfl) ?_
        intro U11 k0 z0 s0
        have kU11 : Below U1.heap.size U1 U11 := k0.of0
        clear k0 s0 z0
        have cU11 : Below W.heap.size W U11 := cU1.trans (kU11.mono cU1.size)
        have yU11 := kU11.size
        refine hK.out _ _ (HKX.out _ cU11) (fun hHeld => ?_)
        clear hK K
        (try simp only [Act.put, List.setIfInBounds_toArray, List.set_cons_zero, List.set_cons_succ])
        refine upE (rs := [6, 14]) (by kernel_rfl) (by simp) (AllE'.cons (i := 6) rfl (by kernel_rfl) (fun K hK => ?_) (AllE'.cons (i := 14) rfl (by kernel_rfl) (fun K hK => ?_) AllE'.nil))
        · refine wp_app (.tmp 22) (.tmp 27) 23 (by rfl) _ _ (by rfl) (by rfl) _ (onto_none (OwnI.empty U11 _) (SN.out U11 cU11) (by omega) _) ?_
          rintro v' U12 ⟨FA, oA, hA, kU12⟩
          obtain ⟨pA, cA, rfl⟩ := OwnI.form oA
          have cU12 : Below W.heap.size W U12 := cU11.trans (kU12.mono cU11.size)
          have yU12 := kU12.size
          have fA : ∀ z ∈ FA, W.heap.size ≤ z := fun z hz => by have := hA z hz; have := cU11.size; omega
          have lA := OwnI.lt oA
          refine hK.out _ _ (HKX.out _ cU12) (fun hHeld => ?_)
          clear hK K
          (try simp only [Act.put, List.setIfInBounds_toArray, List.set_cons_zero, List.set_cons_succ])
          refine upE (rs := [12, 14]) (by kernel_rfl) (by simp) (AllE'.cons (i := 12) rfl (by kernel_rfl) (fun K hK => ?_) (AllE'.cons (i := 14) rfl (by kernel_rfl) (fun K hK => ?_) AllE'.nil))
          · refine wp_app (.tmp 29) (.tmp 33) 23 (by rfl) _ _ (by rfl) (by rfl) _ (onto_none (OwnI.empty U12 _) (SE.out U12 cU12) (by omega) _) ?_
            rintro v' U13 ⟨FB, oB, hB, kU13⟩
            obtain ⟨pB, cB, rfl⟩ := OwnI.form oB
            have cU13 : Below W.heap.size W U13 := cU12.trans (kU13.mono cU12.size)
            have yU13 := kU13.size
            replace oA := OwnI.below oA kU13
            have fB : ∀ z ∈ FB, W.heap.size ≤ z := fun z hz => by have := hB z hz; have := cU12.size; omega
            have lB := OwnI.lt oB
            have dj : ∀ z ∈ FA, z ∉ FB := fun z h1 h2 => by have := lA z h1; have := hB z h2; omega
            refine hK.out _ _ (HKX.out _ cU13) (fun hHeld => ?_)
            clear hK K
            (try simp only [Act.put, List.setIfInBounds_toArray, List.set_cons_zero, List.set_cons_succ])
            (refine takeE (i := 13) (v := ?_) [] rfl (by kernel_rfl) (by kernel_rfl) (fun _ _ _ h => h) (Or.inl ⟨by kernel_rfl, ?_⟩) (by assumption) ?_; rotate_left; (focus (intro w hSw; (try dsimp only at hSw); go_simp; first | done | with_reducible rfl | fail "takeE")); (try simp only [Act.put, List.setIfInBounds_toArray, List.set_cons_zero, List.set_cons_succ]))
            refine oneE (i := 14) rfl (by kernel_rfl) (by kernel_rfl) (fun K hK => ?_)
            go_simp
            refine madeVar (K := K) ?_
            intro U14 kU14 nv
            have cU14 : Below W.heap.size W U14 := cU13.trans (kU14.mono cU13.size)
            have yU14 := kU14.size
            replace oA := OwnI.below oA kU14
            replace oB := OwnI.below oB kU14
            have bv : W.heap.size ≤ U13.heap.size := cU13.size
            have sv := nv.1
            have nA : ∀ z ∈ FA, z ≠ U13.heap.size := fun z hz => by have := lA z hz; omega
            have nB : ∀ z ∈ FB, z ≠ U13.heap.size := fun z hz => by have := lB z hz; omega
            refine hK.out _ _ (HKX.out _ cU14) (fun hHeld => ?_)
            clear hK K
            (try simp only [Act.put, List.setIfInBounds_toArray, List.set_cons_zero, List.set_cons_succ])
            refine lastE rfl (by kernel_rfl) (by kernel_rfl) (fun K hK => ?_)
            obtain ⟨v0, v1, v2, v3, v4⟩ := nv
            go_simp
            refine hK.out _ _ ?_
            clear hK K
            refine doneE (by kernel_rfl) ?_ _
            go_wp2_with fail
            go_meet
            exact ⟨_, rfl, VarW.mk ⟨v0, v1, v2, v3, v4⟩ oA oB fA fB nA nB dj bv, (cU14.setCell (by show W.heap.size ≤ _; omega) _).setCell (by show W.heap.size ≤ _; omega) _⟩
          · go_simp
            refine madeVar (K := K) ?_
            intro U15 kU15 nv
            have cU15 : Below W.heap.size W U15 := cU12.trans (kU15.mono cU12.size)
            have yU15 := kU15.size
            replace oA := OwnI.below oA kU15
            have bv : W.heap.size ≤ U12.heap.size := cU12.size
            have sv := nv.1
            have nA : ∀ z ∈ FA, z ≠ U12.heap.size := fun z hz => by have := lA z hz; omega
            refine hK.out _ _ (HKX.out _ cU15) (fun hHeld => ?_)
            clear hK K
            (try simp only [Act.put, List.setIfInBounds_toArray, List.set_cons_zero, List.set_cons_succ])
            refine oneE (i := 12) rfl (by kernel_rfl) (by kernel_rfl) (fun K hK => ?_)
            refine wp_app (.tmp 29) (.tmp 33) 23 (by rfl) _ _ (by rfl) (by rfl) _ (onto_none (OwnI.empty U15 _) (SE.out U15 cU15) (by omega) _) ?_
            rintro v' U16 ⟨FB, oB, hB, kU16⟩
            obtain ⟨pB, cB, rfl⟩ := OwnI.form oB
            have cU16 : Below W.heap.size W U16 := cU15.trans (kU16.mono cU15.size)
            have yU16 := kU16.size
            replace oA := OwnI.below oA kU16
            replace nv := nv.below kU16
            have fB : ∀ z ∈ FB, W.heap.size ≤ z := fun z hz => by have := hB z hz; have := cU15.size; omega
            have lB := OwnI.lt oB
            have dj : ∀ z ∈ FA, z ∉ FB := fun z h1 h2 => by have := lA z h1; have := hB z h2; omega
            have nB : ∀ z ∈ FB, z ≠ U12.heap.size := fun z hz => by have := hB z hz; omega
            refine hK.out _ _ (HKX.out _ cU16) (fun hHeld => ?_)
            clear hK K
            (try simp only [Act.put, List.setIfInBounds_toArray, List.set_cons_zero, List.set_cons_succ])
            (refine takeE (i := 13) (v := ?_) [] rfl (by kernel_rfl) (by kernel_rfl) (fun _ _ _ h => h) (Or.inl ⟨by kernel_rfl, ?_⟩) (by assumption) ?_; rotate_left; (focus (intro w hSw; (try dsimp only at hSw); go_simp; first | done | with_reducible rfl | fail "takeE")); (try simp only [Act.put, List.setIfInBounds_toArray, List.set_cons_zero, List.set_cons_succ]))
            refine lastE rfl (by kernel_rfl) (by kernel_rfl) (fun K hK => ?_)
            obtain ⟨v0, v1, v2, v3, v4⟩ := nv
            go_simp
            refine hK.out _ _ ?_
            clear hK K
            refine doneE (by kernel_rfl) ?_ _
            go_wp2_with fail
            go_meet
            exact ⟨_, rfl, VarW.mk ⟨v0, v1, v2, v3, v4⟩ oA oB fA fB nA nB dj bv, (cU16.setCell (by show W.heap.size ≤ _; omega) _).setCell (by show W.heap.size ≤ _; omega) _⟩
        · go_simp
          refine madeVar (K := K) ?_
          intro U17 kU17 nv
          have cU17 : Below W.heap.size W U17 := cU11.trans (kU17.mono cU11.size)
          have yU17 := kU17.size
          have bv : W.heap.size ≤ U11.heap.size := cU11.size
          have sv := nv.1
          refine hK.out _ _ (HKX.out _ cU17) (fun hHeld => ?_)
          clear hK K
          (try simp only [Act.put, List.setIfInBounds_toArray, List.set_cons_zero, List.set_cons_succ])
          refine oneE (i := 6) rfl (by kernel_rfl) (by kernel_rfl) (fun K hK => ?_)
          refine wp_app (.tmp 22) (.tmp 27) 23 (by rfl) _ _ (by rfl) (by rfl) _ (onto_none (OwnI.empty U17 _) (SN.out U17 cU17) (by omega) _) ?_
          rintro v' U18 ⟨FA, oA, hA, kU18⟩
          obtain ⟨pA, cA, rfl⟩ := OwnI.form oA
          have cU18 : Below W.heap.size W U18 := cU17.trans (kU18.mono cU17.size)
          have yU18 := kU18.size
          replace nv := nv.below kU18
          have fA : ∀ z ∈ FA, W.heap.size ≤ z := fun z hz => by have := hA z hz; have := cU17.size; omega
          have lA := OwnI.lt oA
          have nA : ∀ z ∈ FA, z ≠ U11.heap.size := fun z hz => by have := hA z hz; omega
          refine hK.out _ _ (HKX.out _ cU18) (fun hHeld => ?_)
          clear hK K
          (try simp only [Act.put, List.setIfInBounds_toArray, List.set_cons_zero, List.set_cons_succ])
          refine oneE (i := 12) rfl (by kernel_rfl) (by kernel_rfl) (fun K hK => ?_)
          refine wp_app (.tmp 29) (.tmp 33) 23 (by rfl) _ _ (by rfl) (by rfl) _ (onto_none (OwnI.empty U18 _) (SE.out U18 cU18) (by omega) _) ?_
          rintro v' U19 ⟨FB, oB, hB, kU19⟩
          obtain ⟨pB, cB, rfl⟩ := OwnI.form oB
          have cU19 : Below W.heap.size W U19 := cU18.trans (kU19.mono cU18.size)
          have yU19 := kU19.size
          replace oA := OwnI.below oA kU19
          replace nv := nv.below kU19
          have fB : ∀ z ∈ FB, W.heap.size ≤ z := fun z hz => by have := hB z hz; have := cU18.size; omega
          have lB := OwnI.lt oB
          have dj : ∀ z ∈ FA, z ∉ FB := fun z h1 h2 => by have := lA z h1; have := hB z h2; omega
          have nB : ∀ z ∈ FB, z ≠ U11.heap.size := fun z hz => by have := hB z hz; omega
          refine hK.out _ _ (HKX.out _ cU19) (fun hHeld => ?_)
          clear hK K
          (try simp only [Act.put, List.setIfInBounds_toArray, List.set_cons_zero, List.set_cons_succ])
          (refine takeE (i := 13) (v := ?_) [] rfl (by kernel_rfl) (by kernel_rfl) (fun _ _ _ h => h) (Or.inl ⟨by kernel_rfl, ?_⟩) (by assumption) ?_; rotate_left; (focus (intro w hSw; (try dsimp only at hSw); go_simp; first | done | with_reducible rfl | fail "takeE")); (try simp only [Act.put, List.setIfInBounds_toArray, List.set_cons_zero, List.set_cons_succ]))
          refine lastE rfl (by kernel_rfl) (by kernel_rfl) (fun K hK => ?_)
          obtain ⟨v0, v1, v2, v3, v4⟩ := nv
          go_simp
          refine hK.out _ _ ?_
          clear hK K
          refine doneE (by kernel_rfl) ?_ _
          go_wp2_with fail
          go_meet
          exact ⟨_, rfl, VarW.mk ⟨v0, v1, v2, v3, v4⟩ oA oB fA fB nA nB dj bv, (cU19.setCell (by show W.heap.size ≤ _; omega) _).setCell (by show W.heap.size ≤ _; omega) _⟩
      · go_simp
        refine madeVar (K := K) ?_
        intro U20 kU20 nv
        have cU20 : Below W.heap.size W U20 := cU1.trans (kU20.mono cU1.size)
        have yU20 := kU20.size
        have bv : W.heap.size ≤ U1.heap.size := cU1.size
        have sv := nv.1
        refine hK.out _ _ (HKX.out _ cU20) (fun hHeld => ?_)
        clear hK K
        (try simp only [Act.put, List.setIfInBounds_toArray, List.set_cons_zero, List.set_cons_succ])
        refine upE (rs := [6, 7]) (by kernel_rfl) (by simp) (AllE'.cons (i := 6) rfl (by kernel_rfl) (fun K hK => ?_) (AllE'.cons (i := 7) rfl (by kernel_rfl) (fun K hK => ?_) AllE'.nil))
        · refine wp_app (.tmp 22) (.tmp 27) 23 (by rfl) _ _ (by rfl) (by rfl) _ (onto_none (OwnI.empty U20 _) (SN.out U20 cU20) (by omega) _) ?_
          rintro v' U21 ⟨FA, oA, hA, kU21⟩
          obtain ⟨pA, cA, rfl⟩ := OwnI.form oA
          have cU21 : Below W.heap.size W U21 := cU20.trans (kU21.mono cU20.size)
          have yU21 := kU21.size
          replace nv := nv.below kU21
          have fA : ∀ z ∈ FA, W.heap.size ≤ z := fun z hz => by have := hA z hz; have := cU20.size; omega
          have lA := OwnI.lt oA
          have nA : ∀ z ∈ FA, z ≠ U1.heap.size := fun z hz => by have := hA z hz; omega
          refine hK.out _ _ (HKX.out _ cU21) (fun hHeld => ?_)
          clear hK K
          (try simp only [Act.put, List.setIfInBounds_toArray, List.set_cons_zero, List.set_cons_succ])
          refine oneE (i := 7) rfl (by kernel_rfl) (by kernel_rfl) (fun K hK => ?_)
          go_simp
          refine made (K := K) intB_spec 0 (by rfl) (by kernel_rfl) ?_
          intro U22 k0 z0 s0
          have kU22 : Below U21.heap.size U21 U22 := k0.of0
          clear k0 s0 z0
          have cU22 : Below W.heap.size W U22 := cU21.trans (kU22.mono cU21.size)
          have yU22 := kU22.size
          replace oA := OwnI.below oA kU22
          replace nv := nv.below kU22
          refine hK.out _ _ (HKX.out _ cU22) (fun hHeld => ?_)
          clear hK K
          (try simp only [Act.put, List.setIfInBounds_toArray, List.set_cons_zero, List.set_cons_succ])
          refine oneE (i := 12) rfl (by kernel_rfl) (by kernel_rfl) (fun K hK => ?_)
          refine wp_app (.tmp 29) (.tmp 33) 23 (by rfl) _ _ (by rfl) (by rfl) _ (onto_none (OwnI.empty U22 _) (SE.out U22 cU22) (by omega) _) ?_
          rintro v' U23 ⟨FB, oB, hB, kU23⟩
          obtain ⟨pB, cB, rfl⟩ := OwnI.form oB
          have cU23 : Below W.heap.size W U23 := cU22.trans (kU23.mono cU22.size)
          have yU23 := kU23.size
          replace oA := OwnI.below oA kU23
          replace nv := nv.below kU23
          have fB : ∀ z ∈ FB, W.heap.size ≤ z := fun z hz => by have := hB z hz; have := cU22.size; omega
          have lB := OwnI.lt oB
          have dj : ∀ z ∈ FA, z ∉ FB := fun z h1 h2 => by have := lA z h1; have := hB z h2; omega
          have nB : ∀ z ∈ FB, z ≠ U1.heap.size := fun z hz => by have := hB z hz; omega
          refine hK.out _ _ (HKX.out _ cU23) (fun hHeld => ?_)
          clear hK K
          (try simp only [Act.put, List.setIfInBounds_toArray, List.set_cons_zero, List.set_cons_succ])
          (refine takeE (i := 13) (v := ?_) [] rfl (by kernel_rfl) (by kernel_rfl) (fun _ _ _ h => h) (Or.inl ⟨by kernel_rfl, ?_⟩) (by assumption) ?_; rotate_left; (focus (intro w hSw; (try dsimp only at hSw); go_simp; first | done | with_reducible rfl | fail "takeE")); (try simp only [Act.put, List.setIfInBounds_toArray, List.set_cons_zero, List.set_cons_succ]))
          refine lastE rfl (by kernel_rfl) (by kernel_rfl) (fun K hK => ?_)
          obtain ⟨v0, v1, v2, v3, v4⟩ := nv
          go_simp
          refine hK.out _ _ ?_
          clear hK K
          refine doneE (by kernel_rfl) ?_ _
          go_wp2_with fail
          go_meet
          exact ⟨_, rfl, VarW.mk ⟨v0, v1, v2, v3, v4⟩ oA oB fA fB nA nB dj bv, (cU23.setCell (by show W.heap.size ≤ _; omega) _).setCell (by show W.heap.size ≤ _; omega) _⟩
        · go_simp
          refine made (K := K) intB_spec 0 (by rfl) (by kernel_rfl) ?_
          intro U24 k0 z0 s0
          have kU24 : Below U20.heap.size U20 U24 := k0.of0
          clear k0 s0 z0
          have cU24 : Below W.heap.size W U24 := cU20.trans (kU24.mono cU20.size)
          have yU24 := kU24.size
          replace nv := nv.below kU24
          refine hK.out _ _ (HKX.out _ cU24) (fun hHeld => ?_)
          clear hK K
          (try simp only [Act.put, List.setIfInBounds_toArray, List.set_cons_zero, List.set_cons_succ])
          refine oneE (i := 6) rfl (by kernel_rfl) (by kernel_rfl) (fun K hK => ?_)
          refine wp_app (.tmp 22) (.tmp 27) 23 (by rfl) _ _ (by rfl) (by rfl) _ (onto_none (OwnI.empty U24 _) (SN.out U24 cU24) (by omega) _) ?_
          rintro v' U25 ⟨FA, oA, hA, kU25⟩
          obtain ⟨pA, cA, rfl⟩ := OwnI.form oA
          have cU25 : Below W.heap.size W U25 := cU24.trans (kU25.mono cU24.size)
          have yU25 := kU25.size
          replace nv := nv.below kU25
          have fA : ∀ z ∈ FA, W.heap.size ≤ z := fun z hz => by have := hA z hz; have := cU24.size; omega
          have lA := OwnI.lt oA
          have nA : ∀ z ∈ FA, z ≠ U1.heap.size := fun z hz => by have := hA z hz; omega
          refine hK.out _ _ (HKX.out _ cU25) (fun hHeld => ?_)
          clear hK K
          (try simp only [Act.put, List.setIfInBounds_toArray, List.set_cons_zero, List.set_cons_succ])
          refine oneE (i := 12) rfl (by kernel_rfl) (by kernel_rfl) (fun K hK => ?_)
          refine wp_app (.tmp 29) (.tmp 33) 23 (by rfl) _ _ (by rfl) (by rfl) _ (onto_none (OwnI.empty U25 _) (SE.out U25 cU25) (by omega) _) ?_
          rintro v' U26 ⟨FB, oB, hB, kU26⟩
          obtain ⟨pB, cB, rfl⟩ := OwnI.form oB
          have cU26 : Below W.heap.size W U26 := cU25.trans (kU26.mono cU25.size)
          have yU26 := kU26.size
          replace oA := OwnI.below oA kU26
          replace nv := nv.below kU26
          have fB : ∀ z ∈ FB, W.heap.size ≤ z := fun z hz => by have := hB z hz; have := cU25.size; omega
          have lB := OwnI.lt oB
          have dj : ∀ z ∈ FA, z ∉ FB := fun z h1 h2 => by have := lA z h1; have := hB z h2; omega
          have nB : ∀ z ∈ FB, z ≠ U1.heap.size := fun z hz => by have := hB z hz; omega
          refine hK.out _ _ (HKX.out _ cU26) (fun hHeld => ?_)
          clear hK K
          (try simp only [Act.put, List.setIfInBounds_toArray, List.set_cons_zero, List.set_cons_succ])
          (refine takeE (i := 13) (v := ?_) [] rfl (by kernel_rfl) (by kernel_rfl) (fun _ _ _ h => h) (Or.inl ⟨by kernel_rfl, ?_⟩) (by assumption) ?_; rotate_left; (focus (intro w hSw; (try dsimp only at hSw); go_simp; first | done | with_reducible rfl | fail "takeE")); (try simp only [Act.put, List.setIfInBounds_toArray, List.set_cons_zero, List.set_cons_succ]))
          refine lastE rfl (by kernel_rfl) (by kernel_rfl) (fun K hK => ?_)
          obtain ⟨v0, v1, v2, v3, v4⟩ := nv
          go_simp
          refine hK.out _ _ ?_
          clear hK K
          refine doneE (by kernel_rfl) ?_ _
          go_wp2_with fail
          go_meet
          exact ⟨_, rfl, VarW.mk ⟨v0, v1, v2, v3, v4⟩ oA oB fA fB nA nB dj bv, (cU26.setCell (by show W.heap.size ≤ _; omega) _).setCell (by show W.heap.size ≤ _; omega) _⟩
    · go_simp
      refine made (K := K) intB_spec 0 (by rfl) (by kernel_rfl) ?_
      intro U27 k0 z0 s0
      have kU27 : Below W0.heap.size W0 U27 := k0.of0
      clear k0 s0 z0
      have cU27 : Below W.heap.size W U27 := cW0.trans (kU27.mono cW0.size)
      have yU27 := kU27.size
      refine hK.out _ _ (HKX.out _ cU27) (fun hHeld => ?_)
      clear hK K
      (try simp only [Act.put, List.setIfInBounds_toArray, List.set_cons_zero, List.set_cons_succ])
      refine upE (rs := [0, 14]) (by kernel_rfl) (by simp) (AllE'.cons (i := 0) rfl (by kernel_rfl) (fun K hK => ?_) (AllE'.cons (i := 14) rfl (by kernel_rfl) (fun K hK => ?_) AllE'.nil))
      · go_simp
        refine made (K := K) intB_spec 0 (by rfl) (by kernel_rfl) ?_
        intro U28 k0 z0 s0
        have kU28 : Below U27.heap.size U27 U28 := k0.of0
        clear k0 s0 z0
        have cU28 : Below W.heap.size W U28 := cU27.trans (kU28.mono cU27.size)
        have yU28 := kU28.size
        refine hK.out _ _ (HKX.out _ cU28) (fun hHeld => ?_)
        clear hK K
        (try simp only [Act.put, List.setIfInBounds_toArray, List.set_cons_zero, List.set_cons_succ])
        refine upE (rs := [6, 14]) (by kernel_rfl) (by simp) (AllE'.cons (i := 6) rfl (by kernel_rfl) (fun K hK => ?_) (AllE'.cons (i := 14) rfl (by kernel_rfl) (fun K hK => ?_) AllE'.nil))
        · refine wp_app (.tmp 22) (.tmp 27) 23 (by rfl) _ _ (by rfl) (by rfl) _ (onto_none (OwnI.empty U28 _) (SN.out U28 cU28) (by omega) _) ?_
          rintro v' U29 ⟨FA, oA, hA, kU29⟩
          obtain ⟨pA, cA, rfl⟩ := OwnI.form oA
          have cU29 : Below W.heap.size W U29 := cU28.trans (kU29.mono cU28.size)
          have yU29 := kU29.size
          have fA : ∀ z ∈ FA, W.heap.size ≤ z := fun z hz => by have := hA z hz; have := cU28.size; omega
          have lA := OwnI.lt oA
          refine hK.out _ _ (HKX.out _ cU29) (fun hHeld => ?_)
          clear hK K
          (try simp only [Act.put, List.setIfInBounds_toArray, List.set_cons_zero, List.set_cons_succ])
          refine upE (rs := [12, 14]) (by kernel_rfl) (by simp) (AllE'.cons (i := 12) rfl (by kernel_rfl) (fun K hK => ?_) (AllE'.cons (i := 14) rfl (by kernel_rfl) (fun K hK => ?_) AllE'.nil))
          · refine wp_app (.tmp 29) (.tmp 33) 23 (by rfl) _ _ (by rfl) (by rfl) _ (onto_none (OwnI.empty U29 _) (SE.out U29 cU29) (by omega) _) ?_
            rintro v' U30 ⟨FB, oB, hB, kU30⟩
            obtain ⟨pB, cB, rfl⟩ := OwnI.form oB
            have cU30 : Below W.heap.size W U30 := cU29.trans (kU30.mono cU29.size)
            have yU30 := kU30.size
            replace oA := OwnI.below oA kU30
            have fB : ∀ z ∈ FB, W.heap.size ≤ z := fun z hz => by have := hB z hz; have := cU29.size; omega
            have lB := OwnI.lt oB
            have dj : ∀ z ∈ FA, z ∉ FB := fun z h1 h2 => by have := lA z h1; have := hB z h2; omega
            refine hK.out _ _ (HKX.out _ cU30) (fun hHeld => ?_)
            clear hK K
            (try simp only [Act.put, List.setIfInBounds_toArray, List.set_cons_zero, List.set_cons_succ])
            (refine takeE (i := 13) (v := ?_) [] rfl (by kernel_rfl) (by kernel_rfl) (fun _ _ _ h => h) (Or.inl ⟨by kernel_rfl, ?_⟩) (by assumption) ?_; rotate_left; (focus (intro w hSw; (try dsimp only at hSw); go_simp; first | done | with_reducible rfl | fail "takeE")); (try simp only [Act.put, List.setIfInBounds_toArray, List.set_cons_zero, List.set_cons_succ]))
            refine oneE (i := 14) rfl (by kernel_rfl) (by kernel_rfl) (fun K hK => ?_)
            go_simp
            refine madeVar (K := K) ?_
            intro U31 kU31 nv
            have cU31 : Below W.heap.size W U31 := cU30.trans (kU31.mono cU30.size)
            have yU31 := kU31.size
            replace oA := OwnI.below oA kU31
            replace oB := OwnI.below oB kU31
            have bv : W.heap.size ≤ U30.heap.size := cU30.size
            have sv := nv.1
            have nA : ∀ z ∈ FA, z ≠ U30.heap.size := fun z hz => by have := lA z hz; omega
            have nB : ∀ z ∈ FB, z ≠ U30.heap.size := fun z hz => by have := lB z hz; omega
            refine hK.out _ _ (HKX.out _ cU31) (fun hHeld => ?_)
            clear hK K
            (try simp only [Act.put, List.setIfInBounds_toArray, List.set_cons_zero, List.set_cons_succ])
            refine lastE rfl (by kernel_rfl) (by kernel_rfl) (fun K hK => ?_)
            obtain ⟨v0, v1, v2, v3, v4⟩ := nv
            go_simp
            refine hK.out _ _ ?_
            clear hK K
            refine doneE (by kernel_rfl) ?_ _
            go_wp2_with fail
            go_meet
            exact ⟨_, rfl, VarW.mk ⟨v0, v1, v2, v3, v4⟩ oA oB fA fB nA nB dj bv, (cU31.setCell (by show W.heap.size ≤ _; omega) _).setCell (by show W.heap.size ≤ _; omega) _⟩
          · go_simp
            refine madeVar (K := K) ?_
            intro U32 kU32 nv
            have cU32 : Below W.heap.size W U32 := cU29.trans (kU32.mono cU29.size)
            have yU32 := kU32.size
            replace oA := OwnI.below oA kU32
            have bv : W.heap.size ≤ U29.heap.size := cU29.size
            have sv := nv.1
            have nA : ∀ z ∈ FA, z ≠ U29.heap.size := fun z hz => by have := lA z hz; omega
            refine hK.out _ _ (HKX.out _ cU32) (fun hHeld => ?_)
            clear hK K
            (try simp only [Act.put, List.setIfInBounds_toArray, List.set_cons_zero, List.set_cons_succ])
            refine oneE (i := 12) rfl (by kernel_rfl) (by kernel_rfl) (fun K hK => ?_)
            refine wp_app (.tmp 29) (.tmp 33) 23 (by rfl) _ _ (by rfl) (by rfl) _ (onto_none (OwnI.empty U32 _) (SE.out U32 cU32) (by omega) _) ?_
            rintro v' U33 ⟨FB, oB, hB, kU33⟩
            obtain ⟨pB, cB, rfl⟩ := OwnI.form oB
            have cU33 : Below W.heap.size W U33 := cU32.trans (kU33.mono cU32.size)
            have yU33 := kU33.size
            replace oA := OwnI.below oA kU33
            replace nv := nv.below kU33
            have fB : ∀ z ∈ FB, W.heap.size ≤ z := fun z hz => by have := hB z hz; have := cU32.size; omega
            have lB := OwnI.lt oB
            have dj : ∀ z ∈ FA, z ∉ FB := fun z h1 h2 => by have := lA z h1; have := hB z h2; omega
            have nB : ∀ z ∈ FB, z ≠ U29.heap.size := fun z hz => by have := hB z hz; omega
            refine hK.out _ _ (HKX.out _ cU33) (fun hHeld => ?_)
            clear hK K
            (try simp only [Act.put, List.setIfInBounds_toArray, List.set_cons_zero, List.set_cons_succ])
            (refine takeE (i := 13) (v := ?_) [] rfl (by kernel_rfl) (by kernel_rfl) (fun _ _ _ h => h) (Or.inl ⟨by kernel_rfl, ?_⟩) (by assumption) ?_; rotate_left; (focus (intro w hSw; (try dsimp only at hSw); go_simp; first | done | with_reducible rfl | fail "takeE")); (try simp only [Act.put, List.setIfInBounds_toArray, List.set_cons_zero, List.set_cons_succ]))
            refine lastE rfl (by kernel_rfl) (by kernel_rfl) (fun K hK => ?_)
            obtain ⟨v0, v1, v2, v3, v4⟩ := nv
            go_simp
            refine hK.out _ _ ?_
            clear hK K
            refine doneE (by kernel_rfl) ?_ _
            go_wp2_with fail
            go_meet
            exact ⟨_, rfl, VarW.mk ⟨v0, v1, v2, v3, v4⟩ oA oB fA fB nA nB dj bv, (cU33.setCell (by show W.heap.size ≤ _; omega) _).setCell (by show W.heap.size ≤ _; omega) _⟩
        · go_simp
          refine madeVar (K := K) ?_
          intro U34 kU34 nv
          have cU34 : Below W.heap.size W U34 := cU28.trans (kU34.mono cU28.size)
          have yU34 := kU34.size
          have bv : W.heap.size ≤ U28.heap.size := cU28.size
          have sv := nv.1
          refine hK.out _ _ (HKX.out _ cU34) (fun hHeld => ?_)
          clear hK K
          (try simp only [Act.put, List.setIfInBounds_toArray, List.set_cons_zero, List.set_cons_succ])
          refine oneE (i := 6) rfl (by kernel_rfl) (by kernel_rfl) (fun K hK => ?_)
          refine wp_app (.tmp 22) (.tmp 27) 23 (by rfl) _ _ (by rfl) (by rfl) _ (onto_none (OwnI.empty U34 _) (SN.out U34 cU34) (by omega) _) ?_
          rintro v' U35 ⟨FA, oA, hA, kU35⟩
          obtain ⟨pA, cA, rfl⟩ := OwnI.form oA
          have cU35 : Below W.heap.size W U35 := cU34.trans (kU35.mono cU34.size)
          have yU35 := kU35.size
          replace nv := nv.below kU35
          have fA : ∀ z ∈ FA, W.heap.size ≤ z := fun z hz => by have := hA z hz; have := cU34.size; omega
          have lA := OwnI.lt oA
          have nA : ∀ z ∈ FA, z ≠ U28.heap.size := fun z hz => by have := hA z hz; omega
          refine hK.out _ _ (HKX.out _ cU35) (fun hHeld => ?_)
          clear hK K
          (try simp only [Act.put, List.setIfInBounds_toArray, List.set_cons_zero, List.set_cons_succ])
          refine oneE (i := 12) rfl (by kernel_rfl) (by kernel_rfl) (fun K hK => ?_)
          refine wp_app (.tmp 29) (.tmp 33) 23 (by rfl) _ _ (by rfl) (by rfl) _ (onto_none (OwnI.empty U35 _) (SE.out U35 cU35) (by omega) _) ?_
          rintro v' U36 ⟨FB, oB, hB, kU36⟩
          obtain ⟨pB, cB, rfl⟩ := OwnI.form oB
          have cU36 : Below W.heap.size W U36 := cU35.trans (kU36.mono cU35.size)
          have yU36 := kU36.size
          replace oA := OwnI.below oA kU36
          replace nv := nv.below kU36
          have fB : ∀ z ∈ FB, W.heap.size ≤ z := fun z hz => by have := hB z hz; have := cU35.size; omega
          have lB := OwnI.lt oB
          have dj : ∀ z ∈ FA, z ∉ FB := fun z h1 h2 => by have := lA z h1; have := hB z h2; omega
          have nB : ∀ z ∈ FB, z ≠ U28.heap.size := fun z hz => by have := hB z hz; omega
          refine hK.out _ _ (HKX.out _ cU36) (fun hHeld => ?_)
          clear hK K
          (try simp only [Act.put, List.setIfInBounds_toArray, List.set_cons_zero, List.set_cons_succ])
          (refine takeE (i := 13) (v := ?_) [] rfl (by kernel_rfl) (by kernel_rfl) (fun _ _ _ h => h) (Or.inl ⟨by kernel_rfl, ?_⟩) (by assumption) ?_; rotate_left; (focus (intro w hSw; (try dsimp only at hSw); go_simp; first | done | with_reducible rfl | fail "takeE")); (try simp only [Act.put, List.setIfInBounds_toArray, List.set_cons_zero, List.set_cons_succ]))
          refine lastE rfl (by kernel_rfl) (by kernel_rfl) (fun K hK => ?_)
          obtain ⟨v0, v1, v2, v3, v4⟩ := nv
          go_simp
          refine hK.out _ _ ?_
          clear hK K
          refine doneE (by kernel_rfl) ?_ _
          go_wp2_with fail
          go_meet
          exact ⟨_, rfl, VarW.mk ⟨v0, v1, v2, v3, v4⟩ oA oB fA fB nA nB dj bv, (cU36.setCell (by show W.heap.size ≤ _; omega) _).setCell (by show W.heap.size ≤ _; omega) _⟩
      · go_simp
        refine madeVar (K := K) ?_
        intro U37 kU37 nv
        have cU37 : Below W.heap.size W U37 := cU27.trans (kU37.mono cU27.size)
        have yU37 := kU37.size
        have bv : W.heap.size ≤ U27.heap.size := cU27.size
        have sv := nv.1
        refine hK.out _ _ (HKX.out _ cU37) (fun hHeld => ?_)
        clear hK K
        (try simp only [Act.put, List.setIfInBounds_toArray, List.set_cons_zero, List.set_cons_succ])
        refine oneE (i := 0) rfl (by kernel_rfl) (by kernel_rfl) (fun K hK => ?_)
        go_simp
        refine made (K := K) intB_spec 0 (by rfl) (by kernel_rfl) ?_
        intro U38 k0 z0 s0
        have kU38 : Below U37.heap.size U37 U38 := k0.of0
        clear k0 s0 z0
        have cU38 : Below W.heap.size W U38 := cU37.trans (kU38.mono cU37.size)
        have yU38 := kU38.size
        replace nv := nv.below kU38
        refine hK.out _ _ (HKX.out _ cU38) (fun hHeld => ?_)
        clear hK K
        (try simp only [Act.put, List.setIfInBounds_toArray, List.set_cons_zero, List.set_cons_succ])
        refine oneE (i := 6) rfl (by kernel_rfl) (by kernel_rfl) (fun K hK => ?_)
        refine wp_app (.tmp 22) (.tmp 27) 23 (by rfl) _ _ (by rfl) (by rfl) _ (onto_none (OwnI.empty U38 _) (SN.out U38 cU38) (by omega) _) ?_
        rintro v' U39 ⟨FA, oA, hA, kU39⟩
        obtain ⟨pA, cA, rfl⟩ := OwnI.form oA
        have cU39 : Below W.heap.size W U39 := cU38.trans (kU39.mono cU38.size)
        have yU39 := kU39.size
        replace nv := nv.below kU39
        have fA : ∀ z ∈ FA, W.heap.size ≤ z := fun z hz => by have := hA z hz; have := cU38.size; omega
        have lA := OwnI.lt oA
        have nA : ∀ z ∈ FA, z ≠ U27.heap.size := fun z hz => by have := hA z hz; omega
        refine hK.out _ _ (HKX.out _ cU39) (fun hHeld => ?_)
        clear hK K
        (try simp only [Act.put, List.setIfInBounds_toArray, List.set_cons_zero, List.set_cons_succ])
        refine oneE (i := 12) rfl (by kernel_rfl) (by kernel_rfl) (fun K hK => ?_)
        refine wp_app (.tmp 29) (.tmp 33) 23 (by rfl) _ _ (by rfl) (by rfl) _ (onto_none (OwnI.empty U39 _) (SE.out U39 cU39) (by omega) _) ?_
        rintro v' U40 ⟨FB, oB, hB, kU40⟩
        obtain ⟨pB, cB, rfl⟩ := OwnI.form oB
        have cU40 : Below W.heap.size W U40 := cU39.trans (kU40.mono cU39.size)
        have yU40 := kU40.size
        replace oA := OwnI.below oA kU40
        replace nv := nv.below kU40
        have fB : ∀ z ∈ FB, W.heap.size ≤ z := fun z hz => by have := hB z hz; have := cU39.size; omega
        have lB := OwnI.lt oB
        have dj : ∀ z ∈ FA, z ∉ FB := fun z h1 h2 => by have := lA z h1; have := hB z h2; omega
        have nB : ∀ z ∈ FB, z ≠ U27.heap.size := fun z hz => by have := hB z hz; omega
        refine hK.out _ _ (HKX.out _ cU40) (fun hHeld => ?_)
        clear hK K
        (try simp only [Act.put, List.setIfInBounds_toArray, List.set_cons_zero, List.set_cons_succ])
        (refine takeE (i := 13) (v := ?_) [] rfl (by kernel_rfl) (by kernel_rfl) (fun _ _ _ h => h) (Or.inl ⟨by kernel_rfl, ?_⟩) (by assumption) ?_; rotate_left; (focus (intro w hSw; (try dsimp only at hSw); go_simp; first | done | with_reducible rfl | fail "takeE")); (try simp only [Act.put, List.setIfInBounds_toArray, List.set_cons_zero, List.set_cons_succ]))
        refine lastE rfl (by kernel_rfl) (by kernel_rfl) (fun K hK => ?_)
        obtain ⟨v0, v1, v2, v3, v4⟩ := nv
        go_simp
        refine hK.out _ _ ?_
        clear hK K
        refine doneE (by kernel_rfl) ?_ _
        go_wp2_with fail
        go_meet
        exact ⟨_, rfl, VarW.mk ⟨v0, v1, v2, v3, v4⟩ oA oB fA fB nA nB dj bv, (cU40.setCell (by show W.heap.size ≤ _; omega) _).setCell (by show W.heap.size ≤ _; omega) _⟩
    · go_simp
      refine madeVar (K := K) ?_
      intro U41 kU41 nv
      have cU41 : Below W.heap.size W U41 := cW0.trans (kU41.mono cW0.size)
      have yU41 := kU41.size
      have bv : W.heap.size ≤ W0.heap.size := cW0.size
      have sv := nv.1
      refine hK.out _ _ (HKX.out _ cU41) (fun hHeld => ?_)
      clear hK K
      (try simp only [Act.put, List.setIfInBounds_toArray, List.set_cons_zero, List.set_cons_succ])
      refine upE (rs := [0, 7]) (by kernel_rfl) (by simp) (AllE'.cons (i := 0) rfl (by kernel_rfl) (fun K hK => ?_) (AllE'.cons (i := 7) rfl (by kernel_rfl) (fun K hK => ?_) AllE'.nil))
      · go_simp
        refine made (K := K) intB_spec 0 (by rfl) (by kernel_rfl) ?_
        intro U42 k0 z0 s0
        have kU42 : Below U41.heap.size U41 U42 := k0.of0
        clear k0 s0 z0
        have cU42 : Below W.heap.size W U42 := cU41.trans (kU42.mono cU41.size)
        have yU42 := kU42.size
        replace nv := nv.below kU42
        refine hK.out _ _ (HKX.out _ cU42) (fun hHeld => ?_)
        clear hK K
        (try simp only [Act.put, List.setIfInBounds_toArray, List.set_cons_zero, List.set_cons_succ])
        refine upE (rs := [6, 7]) (by kernel_rfl) (by simp) (AllE'.cons (i := 6) rfl (by kernel_rfl) (fun K hK => ?_) (AllE'.cons (i := 7) rfl (by kernel_rfl) (fun K hK => ?_) AllE'.nil))
        · refine wp_app (.tmp 22) (.tmp 27) 23 (by rfl) _ _ (by rfl) (by rfl) _ (onto_none (OwnI.empty U42 _) (SN.out U42 cU42) (by omega) _) ?_
          rintro v' U43 ⟨FA, oA, hA, kU43⟩
          obtain ⟨pA, cA, rfl⟩ := OwnI.form oA
          have cU43 : Below W.heap.size W U43 := cU42.trans (kU43.mono cU42.size)
          have yU43 := kU43.size
          replace nv := nv.below kU43
          have fA : ∀ z ∈ FA, W.heap.size ≤ z := fun z hz => by have := hA z hz; have := cU42.size; omega
          have lA := OwnI.lt oA
          have nA : ∀ z ∈ FA, z ≠ W0.heap.size := fun z hz => by have := hA z hz; omega
          refine hK.out _ _ (HKX.out _ cU43) (fun hHeld => ?_)
          clear hK K
          (try simp only [Act.put, List.setIfInBounds_toArray, List.set_cons_zero, List.set_cons_succ])
          refine oneE (i := 7) rfl (by kernel_rfl) (by kernel_rfl) (fun K hK => ?_)
          go_simp
          refine made (K := K) intB_spec 0 (by rfl) (by kernel_rfl) ?_
          intro U44 k0 z0 s0
          have kU44 : Below U43.heap.size U43 U44 := k0.of0
          clear k0 s0 z0
          have cU44 : Below W.heap.size W U44 := cU43.trans (kU44.mono cU43.size)
          have yU44 := kU44.size
          replace oA := OwnI.below oA kU44
          replace nv := nv.below kU44
          refine hK.out _ _ (HKX.out _ cU44) (fun hHeld => ?_)
          clear hK K
          (try simp only [Act.put, List.setIfInBounds_toArray, List.set_cons_zero, List.set_cons_succ])
          refine oneE (i := 12) rfl (by kernel_rfl) (by kernel_rfl) (fun K hK => ?_)
          refine wp_app (.tmp 29) (.tmp 33) 23 (by rfl) _ _ (by rfl) (by rfl) _ (onto_none (OwnI.empty U44 _) (SE.out U44 cU44) (by omega) _) ?_
          rintro v' U45 ⟨FB, oB, hB, kU45⟩
          obtain ⟨pB, cB, rfl⟩ := OwnI.form oB
          have cU45 : Below W.heap.size W U45 := cU44.trans (kU45.mono cU44.size)
          have yU45 := kU45.size
          replace oA := OwnI.below oA kU45
          replace nv := nv.below kU45
          have fB : ∀ z ∈ FB, W.heap.size ≤ z := fun z hz => by have := hB z hz; have := cU44.size; omega
          have lB := OwnI.lt oB
          have dj : ∀ z ∈ FA, z ∉ FB := fun z h1 h2 => by have := lA z h1; have := hB z h2; omega
          have nB : ∀ z ∈ FB, z ≠ W0.heap.size := fun z hz => by have := hB z hz; omega
          refine hK.out _ _ (HKX.out _ cU45) (fun hHeld => ?_)
          clear hK K
          (try simp only [Act.put, List.setIfInBounds_toArray, List.set_cons_zero, List.set_cons_succ])
          (refine takeE (i := 13) (v := ?_) [] rfl (by kernel_rfl) (by kernel_rfl) (fun _ _ _ h => h) (Or.inl ⟨by kernel_rfl, ?_⟩) (by assumption) ?_; rotate_left; (focus (intro w hSw; (try dsimp only at hSw); go_simp; first | done | with_reducible rfl | fail "takeE")); (try simp only [Act.put, List.setIfInBounds_toArray, List.set_cons_zero, List.set_cons_succ]))
          refine lastE rfl (by kernel_rfl) (by kernel_rfl) (fun K hK => ?_)
          obtain ⟨v0, v1, v2, v3, v4⟩ := nv
          go_simp
          refine hK.out _ _ ?_
          clear hK K
          refine doneE (by kernel_rfl) ?_ _
          go_wp2_with fail
          go_meet
          exact ⟨_, rfl, VarW.mk ⟨v0, v1, v2, v3, v4⟩ oA oB fA fB nA nB dj bv, (cU45.setCell (by show W.heap.size ≤ _; omega) _).setCell (by show W.heap.size ≤ _; omega) _⟩
        · go_simp
          refine made (K := K) intB_spec 0 (by rfl) (by kernel_rfl) ?_
          intro U46 k0 z0 s0
          have kU46 : Below U42.heap.size U42 U46 := k0.of0
          clear k0 s0 z0
          have cU46 : Below W.heap.size W U46 := cU42.trans (kU46.mono cU42.size)
          have yU46 := kU46.size
          replace nv := nv.below kU46
          refine hK.out _ _ (HKX.out _ cU46) (fun hHeld => ?_)
          clear hK K
          (try simp only [Act.put, List.setIfInBounds_toArray, List.set_cons_zero, List.set_cons_succ])
          refine oneE (i := 6) rfl (by kernel_rfl) (by kernel_rfl) (fun K hK => ?_)
          refine wp_app (.tmp 22) (.tmp 27) 23 (by rfl) _ _ (by rfl) (by rfl) _ (onto_none (OwnI.empty U46 _) (SN.out U46 cU46) (by omega) _) ?_
          rintro v' U47 ⟨FA, oA, hA, kU47⟩
          obtain ⟨pA, cA, rfl⟩ := OwnI.form oA
          have cU47 : Below W.heap.size W U47 := cU46.trans (kU47.mono cU46.size)
          have yU47 := kU47.size
          replace nv := nv.below kU47
          have fA : ∀ z ∈ FA, W.heap.size ≤ z := fun z hz => by have := hA z hz; have := cU46.size; omega
          have lA := OwnI.lt oA
          have nA : ∀ z ∈ FA, z ≠ W0.heap.size := fun z hz => by have := hA z hz; omega
          refine hK.out _ _ (HKX.out _ cU47) (fun hHeld => ?_)
          clear hK K
          (try simp only [Act.put, List.setIfInBounds_toArray, List.set_cons_zero, List.set_cons_succ])
          refine oneE (i := 12) rfl (by kernel_rfl) (by kernel_rfl) (fun K hK => ?_)
          refine wp_app (.tmp 29) (.tmp 33) 23 (by rfl) _ _ (by rfl) (by rfl) _ (onto_none (OwnI.empty U47 _) (SE.out U47 cU47) (by omega) _) ?_
          rintro v' U48 ⟨FB, oB, hB, kU48⟩
          obtain ⟨pB, cB, rfl⟩ := OwnI.form oB
          have cU48 : Below W.heap.size W U48 := cU47.trans (kU48.mono cU47.size)
          have yU48 := kU48.size
          replace oA := OwnI.below oA kU48
          replace nv := nv.below kU48
          have fB : ∀ z ∈ FB, W.heap.size ≤ z := fun z hz => by have := hB z hz; have := cU47.size; omega
          have lB := OwnI.lt oB
          have dj : ∀ z ∈ FA, z ∉ FB := fun z h1 h2 => by have := lA z h1; have := hB z h2; omega
          have nB : ∀ z ∈ FB, z ≠ W0.heap.size := fun z hz => by have := hB z hz; omega
          refine hK.out _ _ (HKX.out _ cU48) (fun hHeld => ?_)
          clear hK K
          (try simp only [Act.put, List.setIfInBounds_toArray, List.set_cons_zero, List.set_cons_succ])
          (refine takeE (i := 13) (v := ?_) [] rfl (by kernel_rfl) (by kernel_rfl) (fun _ _ _ h => h) (Or.inl ⟨by kernel_rfl, ?_⟩) (by assumption) ?_; rotate_left; (focus (intro w hSw; (try dsimp only at hSw); go_simp; first | done | with_reducible rfl | fail "takeE")); (try simp only [Act.put, List.setIfInBounds_toArray, List.set_cons_zero, List.set_cons_succ]))
          refine lastE rfl (by kernel_rfl) (by kernel_rfl) (fun K hK => ?_)
          obtain ⟨v0, v1, v2, v3, v4⟩ := nv
          go_simp
          refine hK.out _ _ ?_
          clear hK K
          refine doneE (by kernel_rfl) ?_ _
          go_wp2_with fail
          go_meet
          exact ⟨_, rfl, VarW.mk ⟨v0, v1, v2, v3, v4⟩ oA oB fA fB nA nB dj bv, (cU48.setCell (by show W.heap.size ≤ _; omega) _).setCell (by show W.heap.size ≤ _; omega) _⟩
      · go_simp
        refine made (K := K) intB_spec 0 (by rfl) (by kernel_rfl) ?_
        intro U49 k0 z0 s0
        have kU49 : Below U41.heap.size U41 U49 := k0.of0
        clear k0 s0 z0
        have cU49 : Below W.heap.size W U49 := cU41.trans (kU49.mono cU41.size)
        have yU49 := kU49.size
        replace nv := nv.below kU49
        refine hK.out _ _ (HKX.out _ cU49) (fun hHeld => ?_)
        clear hK K
        (try simp only [Act.put, List.setIfInBounds_toArray, List.set_cons_zero, List.set_cons_succ])
        refine oneE (i := 0) rfl (by kernel_rfl) (by kernel_rfl) (fun K hK => ?_)
        go_simp
        refine made (K := K) intB_spec 0 (by rfl) (by kernel_rfl) ?_
        intro U50 k0 z0 s0
        have kU50 : Below U49.heap.size U49 U50 := k0.of0
        clear k0 s0 z0
        have cU50 : Below W.heap.size W U50 := cU49.trans (kU50.mono cU49.size)
        have yU50 := kU50.size
        replace nv := nv.below kU50
        refine hK.out _ _ (HKX.out _ cU50) (fun hHeld => ?_)
        clear hK K
        (try simp only [Act.put, List.setIfInBounds_toArray, List.set_cons_zero, List.set_cons_succ])
        refine oneE (i := 6) rfl (by kernel_rfl) (by kernel_rfl) (fun K hK => ?_)
        refine wp_app (.tmp 22) (.tmp 27) 23 (by rfl) _ _ (by rfl) (by rfl) _ (onto_none (OwnI.empty U50 _) (SN.out U50 cU50) (by omega) _) ?_
        rintro v' U51 ⟨FA, oA, hA, kU51⟩
        obtain ⟨pA, cA, rfl⟩ := OwnI.form oA
        have cU51 : Below W.heap.size W U51 := cU50.trans (kU51.mono cU50.size)
        have yU51 := kU51.size
        replace nv := nv.below kU51
        have fA : ∀ z ∈ FA, W.heap.size ≤ z := fun z hz => by have := hA z hz; have := cU50.size; omega
        have lA := OwnI.lt oA
        have nA : ∀ z ∈ FA, z ≠ W0.heap.size := fun z hz => by have := hA z hz; omega
        refine hK.out _ _ (HKX.out _ cU51) (fun hHeld => ?_)
        clear hK K
        (try simp only [Act.put, List.setIfInBounds_toArray, List.set_cons_zero, List.set_cons_succ])
        refine oneE (i := 12) rfl (by kernel_rfl) (by kernel_rfl) (fun K hK => ?_)
        refine wp_app (.tmp 29) (.tmp 33) 23 (by rfl) _ _ (by rfl) (by rfl) _ (onto_none (OwnI.empty U51 _) (SE.out U51 cU51) (by omega) _) ?_
        rintro v' U52 ⟨FB, oB, hB, kU52⟩
        obtain ⟨pB, cB, rfl⟩ := OwnI.form oB
        have cU52 : Below W.heap.size W U52 := cU51.trans (kU52.mono cU51.size)
        have yU52 := kU52.size
        replace oA := OwnI.below oA kU52
        replace nv := nv.below kU52
        have fB : ∀ z ∈ FB, W.heap.size ≤ z := fun z hz => by have := hB z hz; have := cU51.size; omega
        have lB := OwnI.lt oB
        have dj : ∀ z ∈ FA, z ∉ FB := fun z h1 h2 => by have := lA z h1; have := hB z h2; omega
        have nB : ∀ z ∈ FB, z ≠ W0.heap.size := fun z hz => by have := hB z hz; omega
        refine hK.out _ _ (HKX.out _ cU52) (fun hHeld => ?_)
        clear hK K
        (try simp only [Act.put, List.setIfInBounds_toArray, List.set_cons_zero, List.set_cons_succ])
        (refine takeE (i := 13) (v := ?_) [] rfl (by kernel_rfl) (by kernel_rfl) (fun _ _ _ h => h) (Or.inl ⟨by kernel_rfl, ?_⟩) (by assumption) ?_; rotate_left; (focus (intro w hSw; (try dsimp only at hSw); go_simp; first | done | with_reducible rfl | fail "takeE")); (try simp only [Act.put, List.setIfInBounds_toArray, List.set_cons_zero, List.set_cons_succ]))
        refine lastE rfl (by kernel_rfl) (by kernel_rfl) (fun K hK => ?_)
        obtain ⟨v0, v1, v2, v3, v4⟩ := nv
        go_simp
        refine hK.out _ _ ?_
        clear hK K
        refine doneE (by kernel_rfl) ?_ _
        go_wp2_with fail
        go_meet
        exact ⟨_, rfl, VarW.mk ⟨v0, v1, v2, v3, v4⟩ oA oB fA fB nA nB dj bv, (cU52.setCell (by show W.heap.size ≤ _; omega) _).setCell (by show W.heap.size ≤ _; omega) _⟩
  case rest =>
    obtain ⟨ba, rfl, hva, hbx⟩ := hcut
    have HVA := Lib.hid hva
    have HBX := Lib.hid hbx
    obtain ⟨W5, eW5⟩ : ∃ E, E = wc := ⟨_, rfl⟩
    subst eW5
    have hk4 := HBX.out
    have HXX := Lib.hid (HXW.out.chg (Chg.of_below hk4 []) (by simp))
    have HKWX := Lib.hid (HKWW.out.trans (Chg.of_below hk4 _))
    have HKX1 := Lib.hid (HKX0.out.trans (Chg.of_below hk4 []))
    have HDX := Lib.hid (HD.out.below hk4)
    have sX := hk4.size
    have HA2 := Lib.hid (fun (E : World) (hE : Below W5.heap.size W5 E) => (HXX.out.1.at.to hE (Nat.le_refl _)))
    have HKXO := Lib.hid (fun (E : World) (hE : Below W5.heap.size W5 E) => HKX.out E (hk4.trans (hE.mono sX)))
    have hwne2 : w.heap.size + 1 < W1.heap.size ∧ W1.heap.size < W.heap.size ∧ W.heap.size ≤ W5.heap.size := by omega
    clear hk4 HPA HKX HA HXW HD HKWW HKX0 HCW hya2 hva hbx HBX hwne
    have HKX := HKXO
    clear HKXO
    obtain ⟨v2, HPB, HQ⟩ : ∃ v2 : Value, RowKit.Hid (∀ (E : World), Below W5.heap.size W5 E → (partB x k).At W5.heap.size E (.agg #[.slice (some ⟨b, off + k, none⟩) (x.ns.length - k) (cx - k), v2])) ∧ RowKit.Hid (v2 = if dx = k then .slice qx 0 0 else .slice (qx.map (fun a => a.add k)) (x.es.length - k) (dx - k)) := by
      by_cases hd : dx = k
      · refine ⟨.slice qx 0 0, Lib.hid (fun E hE => ?_), Lib.hid (by rw [if_pos hd])⟩
        have hh := partB_at0 (k := k) (HA2.out E hE) g5 (by omega)
        rw [map_add] at hh
        exact hh
      · refine ⟨_, Lib.hid (fun E hE => ?_), Lib.hid (by rw [if_neg hd])⟩
        have hh := partB_at (k := k) (HA2.out E hE) g5 hke
        rw [map_add] at hh
        exact hh
    obtain ⟨yb, hyb⟩ : ∃ y, y = partB x k := ⟨_, rfl⟩
    have HYB := Lib.hid (show yb.need ≤ 11 by have := HL.out; rw [hyb]; unfold partB; unfold Wk.need; simp only [List.length_drop]; omega)
    have hyb2 : yb.ns.length ≤ 20 ∧ yb.es.length ≤ 20 := by have := HYB.out; unfold Wk.need at this; omega
    rw [← hyb] at HPB
    clear hyb
    have SN := Lib.hid (fun (E : World) (hE : Below W5.heap.size W5 E) => (show Sl 1 intCells W5.heap.size E (.slice (some ⟨b, off + k, none⟩) (x.ns.length - k) (cx - k)) yb.ns from by obtain ⟨_, _, e, h1, _⟩ := HPB.out E hE; cases e; exact h1))
    have SE := Lib.hid (fun (E : World) (hE : Below W5.heap.size W5 E) => (show Sl 1 intCells W5.heap.size E v2 yb.es from by obtain ⟨_, _, e, _, h1⟩ := HPB.out E hE; cases e; exact h1))
    clear HPB
    go_upto_region 5 with fail
    go_cut [9] (fun t wx => ∃ bb, t = .pointer (some ⟨bb, 0, none⟩) ∧ VarW yb bb W5.heap.size wx ∧ Below W5.heap.size W5 wx)
    case first =>
      by_cases hd : dx = k
      · have hv2 := HQ.out
        rw [if_pos hd] at hv2
        subst hd hv2
        refine wp_region_E (last := 14) (S := fun w' => w'.cell? ⟨bw, 0, none⟩ = some (.slice (some ⟨b, off, none⟩) x.ns.length cx) ∧ w'.cell? ⟨bw, 1, none⟩ = some (.slice qx x.es.length dx)) (by kernel_rfl) ?_ (fun hHeld => ?_)
        · exact HKX.out _ ((Below.refl _ _).drew)
        have cW0 : Below W5.heap.size W5 W5.drew := (Below.refl _ _).drew
        generalize W5.drew = W0 at cW0 hHeld ⊢
        have yW0 := cW0.size
        (refine takeE (i := 1) (v := ?_) [] rfl (by kernel_rfl) (by kernel_rfl) (fun _ _ _ h => h) (Or.inl ⟨by kernel_rfl, ?_⟩) (by assumption) ?_; rotate_left; (focus (intro w hSw; (try dsimp only at hSw); go_simp; first | done | with_reducible rfl | fail "takeE")); (try simp only [Act.put, List.setIfInBounds_toArray, List.set_cons_zero, List.set_cons_succ]))
        (refine takeE (i := 2) (v := ?_) [] rfl (by kernel_rfl) (by kernel_rfl) (fun _ _ _ h => h) (Or.inl ⟨by kernel_rfl, ?_⟩) (by assumption) ?_; rotate_left; (focus (intro w hSw; (try dsimp only at hSw); go_simp; first | done | with_reducible rfl | fail "takeE")); (try simp only [Act.put, List.setIfInBounds_toArray, List.set_cons_zero, List.set_cons_succ]))
        (refine takeE (i := 3) (v := ?_) [] rfl (by kernel_rfl) (by kernel_rfl) (fun _ _ _ h => h) (Or.inl ⟨by kernel_rfl, ?_⟩) (by assumption) ?_; rotate_left; (focus (intro w hSw; (try dsimp only at hSw); go_simp; first | done | with_reducible rfl | fail "takeE")); (try simp only [Act.put, List.setIfInBounds_toArray, List.set_cons_zero, List.set_cons_succ]))
        (refine takeE (i := 4) (v := ?_) [] rfl (by kernel_rfl) (by kernel_rfl) (fun _ _ _ h => h) (Or.inl ⟨by kernel_rfl, ?_⟩) (by assumption) ?_; rotate_left; (focus (intro w hSw; (try dsimp only at hSw); go_simp; first | done | with_reducible rfl | fail "takeE")); (try simp only [Act.put, List.setIfInBounds_toArray, List.set_cons_zero, List.set_cons_succ]))
        (refine takeE (i := 7) (v := ?_) [] rfl (by kernel_rfl) (by kernel_rfl) (fun _ _ _ h => h) (Or.inl ⟨by kernel_rfl, ?_⟩) (by assumption) ?_; rotate_left; (focus (intro w hSw; (try dsimp only at hSw); go_simp; first | done | with_reducible rfl | fail "takeE")); (try simp only [Act.put, List.setIfInBounds_toArray, List.set_cons_zero, List.set_cons_succ]))
        (refine takeE (i := 8) (v := ?_) [] rfl (by kernel_rfl) (by kernel_rfl) (fun _ _ _ h => h) (Or.inl ⟨by kernel_rfl, ?_⟩) (by assumption) ?_; rotate_left; (focus (intro w hSw; (try dsimp only at hSw); go_simp; first | done | with_reducible rfl | fail "takeE")); (try simp only [Act.put, List.setIfInBounds_toArray, List.set_cons_zero, List.set_cons_succ]))
        (refine takeE (i := 9) (v := ?_) [] rfl (by kernel_rfl) (by kernel_rfl) (fun _ _ _ h => h) (Or.inl ⟨by kernel_rfl, ?_⟩) (by assumption) ?_; rotate_left; (focus (intro w hSw; (try dsimp only at hSw); go_simp; first | done | with_reducible rfl | fail "takeE")); (try simp only [Act.put, List.setIfInBounds_toArray, List.set_cons_zero, List.set_cons_succ]))
        (refine takeE (i := 10) (v := ?_) [] rfl (by kernel_rfl) (by kernel_rfl) (fun _ _ _ h => h) (Or.inl ⟨by kernel_rfl, ?_⟩) (by assumption) ?_; rotate_left; (focus (intro w hSw; (try dsimp only at hSw); go_simp; first | done | with_reducible rfl | fail "takeE")); (try simp only [Act.put, List.setIfInBounds_toArray, List.set_cons_zero, List.set_cons_succ]))
        refine upE (rs := [0, 6, 13]) (by kernel_rfl) (by simp) (AllE'.cons (i := 0) rfl (by kernel_rfl) (fun K hK => ?_) (AllE'.cons (i := 6) rfl (by kernel_rfl) (fun K hK => ?_) (AllE'.cons (i := 13) rfl (by kernel_rfl) (fun K hK => ?_) AllE'.nil)))
        · go_simp
          refine made (K := K) intB_spec 0 (by rfl) (by kernel_rfl) ?_
          intro U1 k0 z0 s0
          have kU1 : Below W0.heap.size W0 U1 := k0.of0
          clear k0 s0 z0
          have cU1 : Below W5.heap.size W5 U1 := cW0.trans (kU1.mono cW0.size)
          have yU1 := kU1.size
          refine hK.out _ _ (HKX.out _ cU1) (fun hHeld => ?_)
          clear hK K
          (try simp only [Act.put, List.setIfInBounds_toArray, List.set_cons_zero, List.set_cons_succ])
          refine upE (rs := [5, 6, 13]) (by kernel_rfl) (by simp) (AllE'.cons (i := 5) rfl (by kernel_rfl) (fun K hK => ?_) (AllE'.cons (i := 6) rfl (by kernel_rfl) (fun K hK => ?_) (AllE'.cons (i := 13) rfl (by kernel_rfl) (fun K hK => ?_) AllE'.nil)))
          · refine wp_app (.tmp 36) (.tmp 40) 23 (by rfl) _ _ (by rfl) (by rfl) _ (onto_none (OwnI.empty U1 _) (SN.out U1 cU1) (by omega) _) ?_
            rintro v' U2 ⟨FA, oA, hA, kU2⟩
            obtain ⟨pA, cA, rfl⟩ := OwnI.form oA
            have cU2 : Below W5.heap.size W5 U2 := cU1.trans (kU2.mono cU1.size)
            have yU2 := kU2.size
            have fA : ∀ z ∈ FA, W5.heap.size ≤ z := fun z hz => by have := hA z hz; have := cU1.size; omega
            have lA := OwnI.lt oA
            refine hK.out _ _ (HKX.out _ cU2) (fun hHeld => ?_)
            clear hK K
            (try simp only [Act.put, List.setIfInBounds_toArray, List.set_cons_zero, List.set_cons_succ])
            refine upE (rs := [6, 13]) (by kernel_rfl) (by simp) (AllE'.cons (i := 6) rfl (by kernel_rfl) (fun K hK => ?_) (AllE'.cons (i := 13) rfl (by kernel_rfl) (fun K hK => ?_) AllE'.nil))
            · go_simp
              refine made (K := K) intB_spec 0 (by rfl) (by kernel_rfl) ?_
              intro U3 k0 z0 s0
              have kU3 : Below U2.heap.size U2 U3 := k0.of0
              clear k0 s0 z0
              have cU3 : Below W5.heap.size W5 U3 := cU2.trans (kU3.mono cU2.size)
              have yU3 := kU3.size
              replace oA := OwnI.below oA kU3
              refine hK.out _ _ (HKX.out _ cU3) (fun hHeld => ?_)
              clear hK K
              (try simp only [Act.put, List.setIfInBounds_toArray, List.set_cons_zero, List.set_cons_succ])
              refine upE (rs := [11, 13]) (by kernel_rfl) (by simp) (AllE'.cons (i := 11) rfl (by kernel_rfl) (fun K hK => ?_) (AllE'.cons (i := 13) rfl (by kernel_rfl) (fun K hK => ?_) AllE'.nil))
              · refine wp_app (.tmp 42) (.tmp 46) 23 (by rfl) _ _ (by rfl) (by rfl) _ (onto_none (OwnI.empty U3 _) (SE.out U3 cU3) (by omega) _) ?_
                rintro v' U4 ⟨FB, oB, hB, kU4⟩
                obtain ⟨pB, cB, rfl⟩ := OwnI.form oB
                have cU4 : Below W5.heap.size W5 U4 := cU3.trans (kU4.mono cU3.size)
                have yU4 := kU4.size
                replace oA := OwnI.below oA kU4
                have fB : ∀ z ∈ FB, W5.heap.size ≤ z := fun z hz => by have := hB z hz; have := cU3.size; omega
                have lB := OwnI.lt oB
                have dj : ∀ z ∈ FA, z ∉ FB := fun z h1 h2 => by have := lA z h1; have := hB z h2; omega
                refine hK.out _ _ (HKX.out _ cU4) (fun hHeld => ?_)
                clear hK K
                (try simp only [Act.put, List.setIfInBounds_toArray, List.set_cons_zero, List.set_cons_succ])
                (refine takeE (i := 12) (v := ?_) [] rfl (by kernel_rfl) (by kernel_rfl) (fun _ _ _ h => h) (Or.inl ⟨by kernel_rfl, ?_⟩) (by assumption) ?_; rotate_left; (focus (intro w hSw; (try dsimp only at hSw); go_simp; first | done | with_reducible rfl | fail "takeE")); (try simp only [Act.put, List.setIfInBounds_toArray, List.set_cons_zero, List.set_cons_succ]))
                refine oneE (i := 13) rfl (by kernel_rfl) (by kernel_rfl) (fun K hK => ?_)
                go_simp
                refine madeVar (K := K) ?_
                intro U5 kU5 nv
                have cU5 : Below W5.heap.size W5 U5 := cU4.trans (kU5.mono cU4.size)
                have yU5 := kU5.size
                replace oA := OwnI.below oA kU5
                replace oB := OwnI.below oB kU5
                have bv : W5.heap.size ≤ U4.heap.size := cU4.size
                have sv := nv.1
                have nA : ∀ z ∈ FA, z ≠ U4.heap.size := fun z hz => by have := lA z hz; omega
                have nB : ∀ z ∈ FB, z ≠ U4.heap.size := fun z hz => by have := lB z hz; omega
                refine hK.out _ _ (HKX.out _ cU5) (fun hHeld => ?_)
                clear hK K
                (try simp only [Act.put, List.setIfInBounds_toArray, List.set_cons_zero, List.set_cons_succ])
                refine lastE rfl (by kernel_rfl) (by kernel_rfl) (fun K hK => ?_)
                obtain ⟨v0, v1, v2, v3, v4⟩ := nv
                go_simp
                refine hK.out _ _ ?_
                clear hK K
                refine doneE (by kernel_rfl) ?_ _
                go_wp2_with fail
                go_meet
                exact ⟨_, rfl, VarW.mk ⟨v0, v1, v2, v3, v4⟩ oA oB fA fB nA nB dj bv, (cU5.setCell (by show W5.heap.size ≤ _; omega) _).setCell (by show W5.heap.size ≤ _; omega) _⟩
              · go_simp
                refine madeVar (K := K) ?_
                intro U6 kU6 nv
                have cU6 : Below W5.heap.size W5 U6 := cU3.trans (kU6.mono cU3.size)
                have yU6 := kU6.size
                replace oA := OwnI.below oA kU6
                have bv : W5.heap.size ≤ U3.heap.size := cU3.size
                have sv := nv.1
                have nA : ∀ z ∈ FA, z ≠ U3.heap.size := fun z hz => by have := lA z hz; omega
                refine hK.out _ _ (HKX.out _ cU6) (fun hHeld => ?_)
                clear hK K
                (try simp only [Act.put, List.setIfInBounds_toArray, List.set_cons_zero, List.set_cons_succ])
                refine oneE (i := 11) rfl (by kernel_rfl) (by kernel_rfl) (fun K hK => ?_)
                refine wp_app (.tmp 42) (.tmp 46) 23 (by rfl) _ _ (by rfl) (by rfl) _ (onto_none (OwnI.empty U6 _) (SE.out U6 cU6) (by omega) _) ?_
                rintro v' U7 ⟨FB, oB, hB, kU7⟩
                obtain ⟨pB, cB, rfl⟩ := OwnI.form oB
                have cU7 : Below W5.heap.size W5 U7 := cU6.trans (kU7.mono cU6.size)
                have yU7 := kU7.size
                replace oA := OwnI.below oA kU7
                replace nv := nv.below kU7
                have fB : ∀ z ∈ FB, W5.heap.size ≤ z := fun z hz => by have := hB z hz; have := cU6.size; omega
                have lB := OwnI.lt oB
                have dj : ∀ z ∈ FA, z ∉ FB := fun z h1 h2 => by have := lA z h1; have := hB z h2; omega
                have nB : ∀ z ∈ FB, z ≠ U3.heap.size := fun z hz => by have := hB z hz; omega
                refine hK.out _ _ (HKX.out _ cU7) (fun hHeld => ?_)
                clear hK K
                (try simp only [Act.put, List.setIfInBounds_toArray, List.set_cons_zero, List.set_cons_succ])
                (refine takeE (i := 12) (v := ?_) [] rfl (by kernel_rfl) (by kernel_rfl) (fun _ _ _ h => h) (Or.inl ⟨by kernel_rfl, ?_⟩) (by assumption) ?_; rotate_left; (focus (intro w hSw; (try dsimp only at hSw); go_simp; first | done | with_reducible rfl | fail "takeE")); (try simp only [Act.put, List.setIfInBounds_toArray, List.set_cons_zero, List.set_cons_succ]))
                refine lastE rfl (by kernel_rfl) (by kernel_rfl) (fun K hK => ?_)
                obtain ⟨v0, v1, v2, v3, v4⟩ := nv
                go_simp
                refine hK.out _ _ ?_
                clear hK K
                refine doneE (by kernel_rfl) ?_ _
                go_wp2_with fail
                go_meet
                exact ⟨_, rfl, VarW.mk ⟨v0, v1, v2, v3, v4⟩ oA oB fA fB nA nB dj bv, (cU7.setCell (by show W5.heap.size ≤ _; omega) _).setCell (by show W5.heap.size ≤ _; omega) _⟩
            · go_simp
              refine madeVar (K := K) ?_
              intro U8 kU8 nv
              have cU8 : Below W5.heap.size W5 U8 := cU2.trans (kU8.mono cU2.size)
              have yU8 := kU8.size
              replace oA := OwnI.below oA kU8
              have bv : W5.heap.size ≤ U2.heap.size := cU2.size
              have sv := nv.1
              have nA : ∀ z ∈ FA, z ≠ U2.heap.size := fun z hz => by have := lA z hz; omega
              refine hK.out _ _ (HKX.out _ cU8) (fun hHeld => ?_)
              clear hK K
              (try simp only [Act.put, List.setIfInBounds_toArray, List.set_cons_zero, List.set_cons_succ])
              refine oneE (i := 6) rfl (by kernel_rfl) (by kernel_rfl) (fun K hK => ?_)
              go_simp
              refine made (K := K) intB_spec 0 (by rfl) (by kernel_rfl) ?_
              intro U9 k0 z0 s0
              have kU9 : Below U8.heap.size U8 U9 := k0.of0
              clear k0 s0 z0
              have cU9 : Below W5.heap.size W5 U9 := cU8.trans (kU9.mono cU8.size)
              have yU9 := kU9.size
              replace oA := OwnI.below oA kU9
              replace nv := nv.below kU9
              refine hK.out _ _ (HKX.out _ cU9) (fun hHeld => ?_)
              clear hK K
              (try simp only [Act.put, List.setIfInBounds_toArray, List.set_cons_zero, List.set_cons_succ])
              refine oneE (i := 11) rfl (by kernel_rfl) (by kernel_rfl) (fun K hK => ?_)
              refine wp_app (.tmp 42) (.tmp 46) 23 (by rfl) _ _ (by rfl) (by rfl) _ (onto_none (OwnI.empty U9 _) (SE.out U9 cU9) (by omega) _) ?_
              rintro v' U10 ⟨FB, oB, hB, kU10⟩
              obtain ⟨pB, cB, rfl⟩ := OwnI.form oB
              have cU10 : Below W5.heap.size W5 U10 := cU9.trans (kU10.mono cU9.size)
              have yU10 := kU10.size
              replace oA := OwnI.below oA kU10
              replace nv := nv.below kU10
              have fB : ∀ z ∈ FB, W5.heap.size ≤ z := fun z hz => by have := hB z hz; have := cU9.size; omega
              have lB := OwnI.lt oB
              have dj : ∀ z ∈ FA, z ∉ FB := fun z h1 h2 => by have := lA z h1; have := hB z h2; omega
              have nB : ∀ z ∈ FB, z ≠ U2.heap.size := fun z hz => by have := hB z hz; omega
              refine hK.out _ _ (HKX.out _ cU10) (fun hHeld => ?_)
              clear hK K
              (try simp only [Act.put, List.setIfInBounds_toArray, List.set_cons_zero, List.set_cons_succ])
              (refine takeE (i := 12) (v := ?_) [] rfl (by kernel_rfl) (by kernel_rfl) (fun _ _ _ h => h) (Or.inl ⟨by kernel_rfl, ?_⟩) (by assumption) ?_; rotate_left; (focus (intro w hSw; (try dsimp only at hSw); go_simp; first | done | with_reducible rfl | fail "takeE")); (try simp only [Act.put, List.setIfInBounds_toArray, List.set_cons_zero, List.set_cons_succ]))
              refine lastE rfl (by kernel_rfl) (by kernel_rfl) (fun K hK => ?_)
              obtain ⟨v0, v1, v2, v3, v4⟩ := nv
              go_simp
              refine hK.out _ _ ?_
              clear hK K
              refine doneE (by kernel_rfl) ?_ _
              go_wp2_with fail
              go_meet
              exact ⟨_, rfl, VarW.mk ⟨v0, v1, v2, v3, v4⟩ oA oB fA fB nA nB dj bv, (cU10.setCell (by show W5.heap.size ≤ _; omega) _).setCell (by show W5.heap.size ≤ _; omega) _⟩
          · go_simp
            refine made (K := K) intB_spec 0 (by rfl) (by kernel_rfl) ?_
            intro U11 k0 z0 s0
            have kU11 : Below U1.heap.size U1 U11 := k0.of0
            clear k0 s0 z0
            have cU11 : Below W5.heap.size W5 U11 := cU1.trans (kU11.mono cU1.size)
            have yU11 := kU11.size
            refine hK.out _ _ (HKX.out _ cU11) (fun hHeld => ?_)
            clear hK K
            (try simp only [Act.put, List.setIfInBounds_toArray, List.set_cons_zero, List.set_cons_succ])
            refine upE (rs := [5, 13]) (by kernel_rfl) (by simp) (AllE'.cons (i := 5) rfl (by kernel_rfl) (fun K hK => ?_) (AllE'.cons (i := 13) rfl (by kernel_rfl) (fun K hK => ?_) AllE'.nil))
            · refine wp_app (.tmp 36) (.tmp 40) 23 (by rfl) _ _ (by rfl) (by rfl) _ (onto_none (OwnI.empty U11 _) (SN.out U11 cU11) (by omega) _) ?_
              rintro v' U12 ⟨FA, oA, hA, kU12⟩
              obtain ⟨pA, cA, rfl⟩ := OwnI.form oA
              have cU12 : Below W5.heap.size W5 U12 := cU11.trans (kU12.mono cU11.size)
              have yU12 := kU12.size
              have fA : ∀ z ∈ FA, W5.heap.size ≤ z := fun z hz => by have := hA z hz; have := cU11.size; omega
              have lA := OwnI.lt oA
              refine hK.out _ _ (HKX.out _ cU12) (fun hHeld => ?_)
              clear hK K
              (try simp only [Act.put, List.setIfInBounds_toArray, List.set_cons_zero, List.set_cons_succ])
              refine upE (rs := [11, 13]) (by kernel_rfl) (by simp) (AllE'.cons (i := 11) rfl (by kernel_rfl) (fun K hK => ?_) (AllE'.cons (i := 13) rfl (by kernel_rfl) (fun K hK => ?_) AllE'.nil))
              · refine wp_app (.tmp 42) (.tmp 46) 23 (by rfl) _ _ (by rfl) (by rfl) _ (onto_none (OwnI.empty U12 _) (SE.out U12 cU12) (by omega) _) ?_
                rintro v' U13 ⟨FB, oB, hB, kU13⟩
                obtain ⟨pB, cB, rfl⟩ := OwnI.form oB
                have cU13 : Below W5.heap.size W5 U13 := cU12.trans (kU13.mono cU12.size)
                have yU13 := kU13.size
                replace oA := OwnI.below oA kU13
                have fB : ∀ z ∈ FB, W5.heap.size ≤ z := fun z hz => by have := hB z hz; have := cU12.size; omega
                have lB := OwnI.lt oB
                have dj : ∀ z ∈ FA, z ∉ FB := fun z h1 h2 => by have := lA z h1; have := hB z h2; omega
                refine hK.out _ _ (HKX.out _ cU13) (fun hHeld => ?_)
                clear hK K
                (try simp only [Act.put, List.setIfInBounds_toArray, List.set_cons_zero, List.set_cons_succ])
                (refine takeE (i := 12) (v := ?_) [] rfl (by kernel_rfl) (by kernel_rfl) (fun _ _ _ h => h) (Or.inl ⟨by kernel_rfl, ?_⟩) (by assumption) ?_; rotate_left; (focus (intro w hSw; (try dsimp only at hSw); go_simp; first | done | with_reducible rfl | fail "takeE")); (try simp only [Act.put, List.setIfInBounds_toArray, List.set_cons_zero, List.set_cons_succ]))
                refine oneE (i := 13) rfl (by kernel_rfl) (by kernel_rfl) (fun K hK => ?_)
                go_simp
                refine madeVar (K := K) ?_
                intro U14 kU14 nv
                have cU14 : Below W5.heap.size W5 U14 := cU13.trans (kU14.mono cU13.size)
                have yU14 := kU14.size
                replace oA := OwnI.below oA kU14
                replace oB := OwnI.below oB kU14
                have bv : W5.heap.size ≤ U13.heap.size := cU13.size
                have sv := nv.1
                have nA : ∀ z ∈ FA, z ≠ U13.heap.size := fun z hz => by have := lA z hz; omega
                have nB : ∀ z ∈ FB, z ≠ U13.heap.size := fun z hz => by have := lB z hz; omega
                refine hK.out _ _ (HKX.out _ cU14) (fun hHeld => ?_)
                clear hK K
                (try simp only [Act.put, List.setIfInBounds_toArray, List.set_cons_zero, List.set_cons_succ])
                refine lastE rfl (by kernel_rfl) (by kernel_rfl) (fun K hK => ?_)
                obtain ⟨v0, v1, v2, v3, v4⟩ := nv
                go_simp
                refine hK.out _ _ ?_
                clear hK K
                refine doneE (by kernel_rfl) ?_ _
                go_wp2_with fail
                go_meet
                exact ⟨_, rfl, VarW.mk ⟨v0, v1, v2, v3, v4⟩ oA oB fA fB nA nB dj bv, (cU14.setCell (by show W5.heap.size ≤ _; omega) _).setCell (by show W5.heap.size ≤ _; omega) _⟩
              · go_simp
                refine madeVar (K := K) ?_
                intro U15 kU15 nv
                have cU15 : Below W5.heap.size W5 U15 := cU12.trans (kU15.mono cU12.size)
                have yU15 := kU15.size
                replace oA := OwnI.below oA kU15
                have bv : W5.heap.size ≤ U12.heap.size := cU12.size
                have sv := nv.1
                have nA : ∀ z ∈ FA, z ≠ U12.heap.size := fun z hz => by have := lA z hz; omega
                refine hK.out _ _ (HKX.out _ cU15) (fun hHeld => ?_)
                clear hK K
                (try simp only [Act.put, List.setIfInBounds_toArray, List.set_cons_zero, List.set_cons_succ])
                refine oneE (i := 11) rfl (by kernel_rfl) (by kernel_rfl) (fun K hK => ?_)
                refine wp_app (.tmp 42) (.tmp 46) 23 (by rfl) _ _ (by rfl) (by rfl) _ (onto_none (OwnI.empty U15 _) (SE.out U15 cU15) (by omega) _) ?_
                rintro v' U16 ⟨FB, oB, hB, kU16⟩
                obtain ⟨pB, cB, rfl⟩ := OwnI.form oB
                have cU16 : Below W5.heap.size W5 U16 := cU15.trans (kU16.mono cU15.size)
                have yU16 := kU16.size
                replace oA := OwnI.below oA kU16
                replace nv := nv.below kU16
                have fB : ∀ z ∈ FB, W5.heap.size ≤ z := fun z hz => by have := hB z hz; have := cU15.size; omega
                have lB := OwnI.lt oB
                have dj : ∀ z ∈ FA, z ∉ FB := fun z h1 h2 => by have := lA z h1; have := hB z h2; omega
                have nB : ∀ z ∈ FB, z ≠ U12.heap.size := fun z hz => by have := hB z hz; omega
                refine hK.out _ _ (HKX.out _ cU16) (fun hHeld => ?_)
                clear hK K
                (try simp only [Act.put, List.setIfInBounds_toArray, List.set_cons_zero, List.set_cons_succ])
                (refine takeE (i := 12) (v := ?_) [] rfl (by kernel_rfl) (by kernel_rfl) (fun _ _ _ h => h) (Or.inl ⟨by kernel_rfl, ?_⟩) (by assumption) ?_; rotate_left; (focus (intro w hSw; (try dsimp only at hSw); go_simp; first | done | with_reducible rfl | fail "takeE")); (try simp only [Act.put, List.setIfInBounds_toArray, List.set_cons_zero, List.set_cons_succ]))
                refine lastE rfl (by kernel_rfl) (by kernel_rfl) (fun K hK => ?_)
                obtain ⟨v0, v1, v2, v3, v4⟩ := nv
                go_simp
                refine hK.out _ _ ?_
                clear hK K
                refine doneE (by kernel_rfl) ?_ _
                go_wp2_with fail
                go_meet
                exact ⟨_, rfl, VarW.mk ⟨v0, v1, v2, v3, v4⟩ oA oB fA fB nA nB dj bv, (cU16.setCell (by show W5.heap.size ≤ _; omega) _).setCell (by show W5.heap.size ≤ _; omega) _⟩
            · go_simp
              refine madeVar (K := K) ?_
              intro U17 kU17 nv
              have cU17 : Below W5.heap.size W5 U17 := cU11.trans (kU17.mono cU11.size)
              have yU17 := kU17.size
              have bv : W5.heap.size ≤ U11.heap.size := cU11.size
              have sv := nv.1
              refine hK.out _ _ (HKX.out _ cU17) (fun hHeld => ?_)
              clear hK K
              (try simp only [Act.put, List.setIfInBounds_toArray, List.set_cons_zero, List.set_cons_succ])
              refine oneE (i := 5) rfl (by kernel_rfl) (by kernel_rfl) (fun K hK => ?_)
              refine wp_app (.tmp 36) (.tmp 40) 23 (by rfl) _ _ (by rfl) (by rfl) _ (onto_none (OwnI.empty U17 _) (SN.out U17 cU17) (by omega) _) ?_
              rintro v' U18 ⟨FA, oA, hA, kU18⟩
              obtain ⟨pA, cA, rfl⟩ := OwnI.form oA
              have cU18 : Below W5.heap.size W5 U18 := cU17.trans (kU18.mono cU17.size)
              have yU18 := kU18.size
              replace nv := nv.below kU18
              have fA : ∀ z ∈ FA, W5.heap.size ≤ z := fun z hz => by have := hA z hz; have := cU17.size; omega
              have lA := OwnI.lt oA
              have nA : ∀ z ∈ FA, z ≠ U11.heap.size := fun z hz => by have := hA z hz; omega
              refine hK.out _ _ (HKX.out _ cU18) (fun hHeld => ?_)
              clear hK K
              (try simp only [Act.put, List.setIfInBounds_toArray, List.set_cons_zero, List.set_cons_succ])
              refine oneE (i := 11) rfl (by kernel_rfl) (by kernel_rfl) (fun K hK => ?_)
              refine wp_app (.tmp 42) (.tmp 46) 23 (by rfl) _ _ (by rfl) (by rfl) _ (onto_none (OwnI.empty U18 _) (SE.out U18 cU18) (by omega) _) ?_
              rintro v' U19 ⟨FB, oB, hB, kU19⟩
              obtain ⟨pB, cB, rfl⟩ := OwnI.form oB
              have cU19 : Below W5.heap.size W5 U19 := cU18.trans (kU19.mono cU18.size)
              have yU19 := kU19.size
              replace oA := OwnI.below oA kU19
              replace nv := nv.below kU19
              have fB : ∀ z ∈ FB, W5.heap.size ≤ z := fun z hz => by have := hB z hz; have := cU18.size; omega
              have lB := OwnI.lt oB
              have dj : ∀ z ∈ FA, z ∉ FB := fun z h1 h2 => by have := lA z h1; have := hB z h2; omega
              have nB : ∀ z ∈ FB, z ≠ U11.heap.size := fun z hz => by have := hB z hz; omega
              refine hK.out _ _ (HKX.out _ cU19) (fun hHeld => ?_)
              clear hK K
              (try simp only [Act.put, List.setIfInBounds_toArray, List.set_cons_zero, List.set_cons_succ])
              (refine takeE (i := 12) (v := ?_) [] rfl (by kernel_rfl) (by kernel_rfl) (fun _ _ _ h => h) (Or.inl ⟨by kernel_rfl, ?_⟩) (by assumption) ?_; rotate_left; (focus (intro w hSw; (try dsimp only at hSw); go_simp; first | done | with_reducible rfl | fail "takeE")); (try simp only [Act.put, List.setIfInBounds_toArray, List.set_cons_zero, List.set_cons_succ]))
              refine lastE rfl (by kernel_rfl) (by kernel_rfl) (fun K hK => ?_)
              obtain ⟨v0, v1, v2, v3, v4⟩ := nv
              go_simp
              refine hK.out _ _ ?_
              clear hK K
              refine doneE (by kernel_rfl) ?_ _
              go_wp2_with fail
              go_meet
              exact ⟨_, rfl, VarW.mk ⟨v0, v1, v2, v3, v4⟩ oA oB fA fB nA nB dj bv, (cU19.setCell (by show W5.heap.size ≤ _; omega) _).setCell (by show W5.heap.size ≤ _; omega) _⟩
          · go_simp
            refine madeVar (K := K) ?_
            intro U20 kU20 nv
            have cU20 : Below W5.heap.size W5 U20 := cU1.trans (kU20.mono cU1.size)
            have yU20 := kU20.size
            have bv : W5.heap.size ≤ U1.heap.size := cU1.size
            have sv := nv.1
            refine hK.out _ _ (HKX.out _ cU20) (fun hHeld => ?_)
            clear hK K
            (try simp only [Act.put, List.setIfInBounds_toArray, List.set_cons_zero, List.set_cons_succ])
            refine upE (rs := [5, 6]) (by kernel_rfl) (by simp) (AllE'.cons (i := 5) rfl (by kernel_rfl) (fun K hK => ?_) (AllE'.cons (i := 6) rfl (by kernel_rfl) (fun K hK => ?_) AllE'.nil))
            · refine wp_app (.tmp 36) (.tmp 40) 23 (by rfl) _ _ (by rfl) (by rfl) _ (onto_none (OwnI.empty U20 _) (SN.out U20 cU20) (by omega) _) ?_
              rintro v' U21 ⟨FA, oA, hA, kU21⟩
              obtain ⟨pA, cA, rfl⟩ := OwnI.form oA
              have cU21 : Below W5.heap.size W5 U21 := cU20.trans (kU21.mono cU20.size)
              have yU21 := kU21.size
              replace nv := nv.below kU21
              have fA : ∀ z ∈ FA, W5.heap.size ≤ z := fun z hz => by have := hA z hz; have := cU20.size; omega
              have lA := OwnI.lt oA
              have nA : ∀ z ∈ FA, z ≠ U1.heap.size := fun z hz => by have := hA z hz; omega
              refine hK.out _ _ (HKX.out _ cU21) (fun hHeld => ?_)
              clear hK K
              (try simp only [Act.put, List.setIfInBounds_toArray, List.set_cons_zero, List.set_cons_succ])
              refine oneE (i := 6) rfl (by kernel_rfl) (by kernel_rfl) (fun K hK => ?_)
              go_simp
              refine made (K := K) intB_spec 0 (by rfl) (by kernel_rfl) ?_
              intro U22 k0 z0 s0
              have kU22 : Below U21.heap.size U21 U22 := k0.of0
              clear k0 s0 z0
              have cU22 : Below W5.heap.size W5 U22 := cU21.trans (kU22.mono cU21.size)
              have yU22 := kU22.size
              replace oA := OwnI.below oA kU22
              replace nv := nv.below kU22
              refine hK.out _ _ (HKX.out _ cU22) (fun hHeld => ?_)
              clear hK K
              (try simp only [Act.put, List.setIfInBounds_toArray, List.set_cons_zero, List.set_cons_succ])
              refine oneE (i := 11) rfl (by kernel_rfl) (by kernel_rfl) (fun K hK => ?_)
              refine wp_app (.tmp 42) (.tmp 46) 23 (by rfl) _ _ (by rfl) (by rfl) _ (onto_none (OwnI.empty U22 _) (SE.out U22 cU22) (by omega) _) ?_
              rintro v' U23 ⟨FB, oB, hB, kU23⟩
              obtain ⟨pB, cB, rfl⟩ := OwnI.form oB
              have cU23 : Below W5.heap.size W5 U23 := cU22.trans (kU23.mono cU22.size)
              have yU23 := kU23.size
              replace oA := OwnI.below oA kU23
              replace nv := nv.below kU23
              have fB : ∀ z ∈ FB, W5.heap.size ≤ z := fun z hz => by have := hB z hz; have := cU22.size; omega
              have lB := OwnI.lt oB
              have dj : ∀ z ∈ FA, z ∉ FB := fun z h1 h2 => by have := lA z h1; have := hB z h2; omega
              have nB : ∀ z ∈ FB, z ≠ U1.heap.size := fun z hz => by have := hB z hz; omega
              refine hK.out _ _ (HKX.out _ cU23) (fun hHeld => ?_)
              clear hK K
              (try simp only [Act.put, List.setIfInBounds_toArray, List.set_cons_zero, List.set_cons_succ])
              (refine takeE (i := 12) (v := ?_) [] rfl (by kernel_rfl) (by kernel_rfl) (fun _ _ _ h => h) (Or.inl ⟨by kernel_rfl, ?_⟩) (by assumption) ?_; rotate_left; (focus (intro w hSw; (try dsimp only at hSw); go_simp; first | done | with_reducible rfl | fail "takeE")); (try simp only [Act.put, List.setIfInBounds_toArray, List.set_cons_zero, List.set_cons_succ]))
              refine lastE rfl (by kernel_rfl) (by kernel_rfl) (fun K hK => ?_)
              obtain ⟨v0, v1, v2, v3, v4⟩ := nv
              go_simp
              refine hK.out _ _ ?_
              clear hK K
              refine doneE (by kernel_rfl) ?_ _
              go_wp2_with fail
              go_meet
              exact ⟨_, rfl, VarW.mk ⟨v0, v1, v2, v3, v4⟩ oA oB fA fB nA nB dj bv, (cU23.setCell (by show W5.heap.size ≤ _; omega) _).setCell (by show W5.heap.size ≤ _; omega) _⟩
            · go_simp
              refine made (K := K) intB_spec 0 (by rfl) (by kernel_rfl) ?_
              intro U24 k0 z0 s0
              have kU24 : Below U20.heap.size U20 U24 := k0.of0
              clear k0 s0 z0
              have cU24 : Below W5.heap.size W5 U24 := cU20.trans (kU24.mono cU20.size)
              have yU24 := kU24.size
              replace nv := nv.below kU24
              refine hK.out _ _ (HKX.out _ cU24) (fun hHeld => ?_)
              clear hK K
              (try simp only [Act.put, List.setIfInBounds_toArray, List.set_cons_zero, List.set_cons_succ])
              refine oneE (i := 5) rfl (by kernel_rfl) (by kernel_rfl) (fun K hK => ?_)
              refine wp_app (.tmp 36) (.tmp 40) 23 (by rfl) _ _ (by rfl) (by rfl) _ (onto_none (OwnI.empty U24 _) (SN.out U24 cU24) (by omega) _) ?_
              rintro v' U25 ⟨FA, oA, hA, kU25⟩
              obtain ⟨pA, cA, rfl⟩ := OwnI.form oA
              have cU25 : Below W5.heap.size W5 U25 := cU24.trans (kU25.mono cU24.size)
              have yU25 := kU25.size
              replace nv := nv.below kU25
              have fA : ∀ z ∈ FA, W5.heap.size ≤ z := fun z hz => by have := hA z hz; have := cU24.size; omega
              have lA := OwnI.lt oA
              have nA : ∀ z ∈ FA, z ≠ U1.heap.size := fun z hz => by have := hA z hz; omega
              refine hK.out _ _ (HKX.out _ cU25) (fun hHeld => ?_)
              clear hK K
              (try simp only [Act.put, List.setIfInBounds_toArray, List.set_cons_zero, List.set_cons_succ])
              refine oneE (i := 11) rfl (by kernel_rfl) (by kernel_rfl) (fun K hK => ?_)
              refine wp_app (.tmp 42) (.tmp 46) 23 (by rfl) _ _ (by rfl) (by rfl) _ (onto_none (OwnI.empty U25 _) (SE.out U25 cU25) (by omega) _) ?_
              rintro v' U26 ⟨FB, oB, hB, kU26⟩
              obtain ⟨pB, cB, rfl⟩ := OwnI.form oB
              have cU26 : Below W5.heap.size W5 U26 := cU25.trans (kU26.mono cU25.size)
              have yU26 := kU26.size
              replace oA := OwnI.below oA kU26
              replace nv := nv.below kU26
              have fB : ∀ z ∈ FB, W5.heap.size ≤ z := fun z hz => by have := hB z hz; have := cU25.size; omega
              have lB := OwnI.lt oB
              have dj : ∀ z ∈ FA, z ∉ FB := fun z h1 h2 => by have := lA z h1; have := hB z h2; omega
              have nB : ∀ z ∈ FB, z ≠ U1.heap.size := fun z hz => by have := hB z hz; omega
              refine hK.out _ _ (HKX.out _ cU26) (fun hHeld => ?_)
              clear hK K
              (try simp only [Act.put, List.setIfInBounds_toArray, List.set_cons_zero, List.set_cons_succ])
              (refine takeE (i := 12) (v := ?_) [] rfl (by kernel_rfl) (by kernel_rfl) (fun _ _ _ h => h) (Or.inl ⟨by kernel_rfl, ?_⟩) (by assumption) ?_; rotate_left; (focus (intro w hSw; (try dsimp only at hSw); go_simp; first | done | with_reducible rfl | fail "takeE")); (try simp only [Act.put, List.setIfInBounds_toArray, List.set_cons_zero, List.set_cons_succ]))
              refine lastE rfl (by kernel_rfl) (by kernel_rfl) (fun K hK => ?_)
              obtain ⟨v0, v1, v2, v3, v4⟩ := nv
              go_simp
              refine hK.out _ _ ?_
              clear hK K
              refine doneE (by kernel_rfl) ?_ _
              go_wp2_with fail
              go_meet
              exact ⟨_, rfl, VarW.mk ⟨v0, v1, v2, v3, v4⟩ oA oB fA fB nA nB dj bv, (cU26.setCell (by show W5.heap.size ≤ _; omega) _).setCell (by show W5.heap.size ≤ _; omega) _⟩
        · go_simp
          refine made (K := K) intB_spec 0 (by rfl) (by kernel_rfl) ?_
          intro U27 k0 z0 s0
          have kU27 : Below W0.heap.size W0 U27 := k0.of0
          clear k0 s0 z0
          have cU27 : Below W5.heap.size W5 U27 := cW0.trans (kU27.mono cW0.size)
          have yU27 := kU27.size
          refine hK.out _ _ (HKX.out _ cU27) (fun hHeld => ?_)
          clear hK K
          (try simp only [Act.put, List.setIfInBounds_toArray, List.set_cons_zero, List.set_cons_succ])
          refine upE (rs := [0, 13]) (by kernel_rfl) (by simp) (AllE'.cons (i := 0) rfl (by kernel_rfl) (fun K hK => ?_) (AllE'.cons (i := 13) rfl (by kernel_rfl) (fun K hK => ?_) AllE'.nil))
          · go_simp
            refine made (K := K) intB_spec 0 (by rfl) (by kernel_rfl) ?_
            intro U28 k0 z0 s0
            have kU28 : Below U27.heap.size U27 U28 := k0.of0
            clear k0 s0 z0
            have cU28 : Below W5.heap.size W5 U28 := cU27.trans (kU28.mono cU27.size)
            have yU28 := kU28.size
            refine hK.out _ _ (HKX.out _ cU28) (fun hHeld => ?_)
            clear hK K
            (try simp only [Act.put, List.setIfInBounds_toArray, List.set_cons_zero, List.set_cons_succ])
            refine upE (rs := [5, 13]) (by kernel_rfl) (by simp) (AllE'.cons (i := 5) rfl (by kernel_rfl) (fun K hK => ?_) (AllE'.cons (i := 13) rfl (by kernel_rfl) (fun K hK => ?_) AllE'.nil))
            · refine wp_app (.tmp 36) (.tmp 40) 23 (by rfl) _ _ (by rfl) (by rfl) _ (onto_none (OwnI.empty U28 _) (SN.out U28 cU28) (by omega) _) ?_
              rintro v' U29 ⟨FA, oA, hA, kU29⟩
              obtain ⟨pA, cA, rfl⟩ := OwnI.form oA
              have cU29 : Below W5.heap.size W5 U29 := cU28.trans (kU29.mono cU28.size)
              have yU29 := kU29.size
              have fA : ∀ z ∈ FA, W5.heap.size ≤ z := fun z hz => by have := hA z hz; have := cU28.size; omega
              have lA := OwnI.lt oA
              refine hK.out _ _ (HKX.out _ cU29) (fun hHeld => ?_)
              clear hK K
              (try simp only [Act.put, List.setIfInBounds_toArray, List.set_cons_zero, List.set_cons_succ])
              refine upE (rs := [11, 13]) (by kernel_rfl) (by simp) (AllE'.cons (i := 11) rfl (by kernel_rfl) (fun K hK => ?_) (AllE'.cons (i := 13) rfl (by kernel_rfl) (fun K hK => ?_) AllE'.nil))
              · refine wp_app (.tmp 42) (.tmp 46) 23 (by rfl) _ _ (by rfl) (by rfl) _ (onto_none (OwnI.empty U29 _) (SE.out U29 cU29) (by omega) _) ?_
                rintro v' U30 ⟨FB, oB, hB, kU30⟩
                obtain ⟨pB, cB, rfl⟩ := OwnI.form oB
                have cU30 : Below W5.heap.size W5 U30 := cU29.trans (kU30.mono cU29.size)
                have yU30 := kU30.size
                replace oA := OwnI.below oA kU30
                have fB : ∀ z ∈ FB, W5.heap.size ≤ z := fun z hz => by have := hB z hz; have := cU29.size; omega
                have lB := OwnI.lt oB
                have dj : ∀ z ∈ FA, z ∉ FB := fun z h1 h2 => by have := lA z h1; have := hB z h2; omega
                refine hK.out _ _ (HKX.out _ cU30) (fun hHeld => ?_)
                clear hK K
                (try simp only [Act.put, List.setIfInBounds_toArray, List.set_cons_zero, List.set_cons_succ])
                (refine takeE (i := 12) (v := ?_) [] rfl (by kernel_rfl) (by kernel_rfl) (fun _ _ _ h => h) (Or.inl ⟨by kernel_rfl, ?_⟩) (by assumption) ?_; rotate_left; (focus (intro w hSw; (try dsimp only at hSw); go_simp; first | done | with_reducible rfl | fail "takeE")); (try simp only [Act.put, List.setIfInBounds_toArray, List.set_cons_zero, List.set_cons_succ]))
                refine oneE (i := 13) rfl (by kernel_rfl) (by kernel_rfl) (fun K hK => ?_)
                go_simp
                refine madeVar (K := K) ?_
                intro U31 kU31 nv
                have cU31 : Below W5.heap.size W5 U31 := cU30.trans (kU31.mono cU30.size)
                have yU31 := kU31.size
                replace oA := OwnI.below oA kU31
                replace oB := OwnI.below oB kU31
                have bv : W5.heap.size ≤ U30.heap.size := cU30.size
                have sv := nv.1
                have nA : ∀ z ∈ FA, z ≠ U30.heap.size := fun z hz => by have := lA z hz; omega
                have nB : ∀ z ∈ FB, z ≠ U30.heap.size := fun z hz => by have := lB z hz; omega
                refine hK.out _ _ (HKX.out _ cU31) (fun hHeld => ?_)
                clear hK K
                (try simp only [Act.put, List.setIfInBounds_toArray, List.set_cons_zero, List.set_cons_succ])
                refine lastE rfl (by kernel_rfl) (by kernel_rfl) (fun K hK => ?_)
                obtain ⟨v0, v1, v2, v3, v4⟩ := nv
                go_simp
                refine hK.out _ _ ?_
                clear hK K
                refine doneE (by kernel_rfl) ?_ _
                go_wp2_with fail
                go_meet
                exact ⟨_, rfl, VarW.mk ⟨v0, v1, v2, v3, v4⟩ oA oB fA fB nA nB dj bv, (cU31.setCell (by show W5.heap.size ≤ _; omega) _).setCell (by show W5.heap.size ≤ _; omega) _⟩
              · go_simp
                refine madeVar (K := K) ?_
                intro U32 kU32 nv
                have cU32 : Below W5.heap.size W5 U32 := cU29.trans (kU32.mono cU29.size)
                have yU32 := kU32.size
                replace oA := OwnI.below oA kU32
                have bv : W5.heap.size ≤ U29.heap.size := cU29.size
                have sv := nv.1
                have nA : ∀ z ∈ FA, z ≠ U29.heap.size := fun z hz => by have := lA z hz; omega
                refine hK.out _ _ (HKX.out _ cU32) (fun hHeld => ?_)
                clear hK K
                (try simp only [Act.put, List.setIfInBounds_toArray, List.set_cons_zero, List.set_cons_succ])
                refine oneE (i := 11) rfl (by kernel_rfl) (by kernel_rfl) (fun K hK => ?_)
                refine wp_app (.tmp 42) (.tmp 46) 23 (by rfl) _ _ (by rfl) (by rfl) _ (onto_none (OwnI.empty U32 _) (SE.out U32 cU32) (by omega) _) ?_
                rintro v' U33 ⟨FB, oB, hB, kU33⟩
                obtain ⟨pB, cB, rfl⟩ := OwnI.form oB
                have cU33 : Below W5.heap.size W5 U33 := cU32.trans (kU33.mono cU32.size)
                have yU33 := kU33.size
                replace oA := OwnI.below oA kU33
                replace nv := nv.below kU33
                have fB : ∀ z ∈ FB, W5.heap.size ≤ z := fun z hz => by have := hB z hz; have := cU32.size; omega
                have lB := OwnI.lt oB
                have dj : ∀ z ∈ FA, z ∉ FB := fun z h1 h2 => by have := lA z h1; have := hB z h2; omega
                have nB : ∀ z ∈ FB, z ≠ U29.heap.size := fun z hz => by have := hB z hz; omega
                refine hK.out _ _ (HKX.out _ cU33) (fun hHeld => ?_)
                clear hK K
                (try simp only [Act.put, List.setIfInBounds_toArray, List.set_cons_zero, List.set_cons_succ])
                (refine takeE (i := 12) (v := ?_) [] rfl (by kernel_rfl) (by kernel_rfl) (fun _ _ _ h => h) (Or.inl ⟨by kernel_rfl, ?_⟩) (by assumption) ?_; rotate_left; (focus (intro w hSw; (try dsimp only at hSw); go_simp; first | done | with_reducible rfl | fail "takeE")); (try simp only [Act.put, List.setIfInBounds_toArray, List.set_cons_zero, List.set_cons_succ]))
                refine lastE rfl (by kernel_rfl) (by kernel_rfl) (fun K hK => ?_)
                obtain ⟨v0, v1, v2, v3, v4⟩ := nv
                go_simp
                refine hK.out _ _ ?_
                clear hK K
                refine doneE (by kernel_rfl) ?_ _
                go_wp2_with fail
                go_meet
                exact ⟨_, rfl, VarW.mk ⟨v0, v1, v2, v3, v4⟩ oA oB fA fB nA nB dj bv, (cU33.setCell (by show W5.heap.size ≤ _; omega) _).setCell (by show W5.heap.size ≤ _; omega) _⟩
            · go_simp
              refine madeVar (K := K) ?_
              intro U34 kU34 nv
              have cU34 : Below W5.heap.size W5 U34 := cU28.trans (kU34.mono cU28.size)
              have yU34 := kU34.size
              have bv : W5.heap.size ≤ U28.heap.size := cU28.size
              have sv := nv.1
              refine hK.out _ _ (HKX.out _ cU34) (fun hHeld => ?_)
              clear hK K
              (try simp only [Act.put, List.setIfInBounds_toArray, List.set_cons_zero, List.set_cons_succ])
              refine oneE (i := 5) rfl (by kernel_rfl) (by kernel_rfl) (fun K hK => ?_)
              refine wp_app (.tmp 36) (.tmp 40) 23 (by rfl) _ _ (by rfl) (by rfl) _ (onto_none (OwnI.empty U34 _) (SN.out U34 cU34) (by omega) _) ?_
              rintro v' U35 ⟨FA, oA, hA, kU35⟩
              obtain ⟨pA, cA, rfl⟩ := OwnI.form oA
              have cU35 : Below W5.heap.size W5 U35 := cU34.trans (kU35.mono cU34.size)
              have yU35 := kU35.size
              replace nv := nv.below kU35
              have fA : ∀ z ∈ FA, W5.heap.size ≤ z := fun z hz => by have := hA z hz; have := cU34.size; omega
              have lA := OwnI.lt oA
              have nA : ∀ z ∈ FA, z ≠ U28.heap.size := fun z hz => by have := hA z hz; omega
              refine hK.out _ _ (HKX.out _ cU35) (fun hHeld => ?_)
              clear hK K
              (try simp only [Act.put, List.setIfInBounds_toArray, List.set_cons_zero, List.set_cons_succ])
              refine oneE (i := 11) rfl (by kernel_rfl) (by kernel_rfl) (fun K hK => ?_)
              refine wp_app (.tmp 42) (.tmp 46) 23 (by rfl) _ _ (by rfl) (by rfl) _ (onto_none (OwnI.empty U35 _) (SE.out U35 cU35) (by omega) _) ?_
              rintro v' U36 ⟨FB, oB, hB, kU36⟩
              obtain ⟨pB, cB, rfl⟩ := OwnI.form oB
              have cU36 : Below W5.heap.size W5 U36 := cU35.trans (kU36.mono cU35.size)
              have yU36 := kU36.size
              replace oA := OwnI.below oA kU36
              replace nv := nv.below kU36
              have fB : ∀ z ∈ FB, W5.heap.size ≤ z := fun z hz => by have := hB z hz; have := cU35.size; omega
              have lB := OwnI.lt oB
              have dj : ∀ z ∈ FA, z ∉ FB := fun z h1 h2 => by have := lA z h1; have := hB z h2; omega
              have nB : ∀ z ∈ FB, z ≠ U28.heap.size := fun z hz => by have := hB z hz; omega
              refine hK.out _ _ (HKX.out _ cU36) (fun hHeld => ?_)
              clear hK K
              (try simp only [Act.put, List.setIfInBounds_toArray, List.set_cons_zero, List.set_cons_succ])
              (refine takeE (i := 12) (v := ?_) [] rfl (by kernel_rfl) (by kernel_rfl) (fun _ _ _ h => h) (Or.inl ⟨by kernel_rfl, ?_⟩) (by assumption) ?_; rotate_left; (focus (intro w hSw; (try dsimp only at hSw); go_simp; first | done | with_reducible rfl | fail "takeE")); (try simp only [Act.put, List.setIfInBounds_toArray, List.set_cons_zero, List.set_cons_succ]))
              refine lastE rfl (by kernel_rfl) (by kernel_rfl) (fun K hK => ?_)
              obtain ⟨v0, v1, v2, v3, v4⟩ := nv
              go_simp
              refine hK.out _ _ ?_
              clear hK K
              refine doneE (by kernel_rfl) ?_ _
              go_wp2_with fail
              go_meet
              exact ⟨_, rfl, VarW.mk ⟨v0, v1, v2, v3, v4⟩ oA oB fA fB nA nB dj bv, (cU36.setCell (by show W5.heap.size ≤ _; omega) _).setCell (by show W5.heap.size ≤ _; omega) _⟩
          · go_simp
            refine madeVar (K := K) ?_
            intro U37 kU37 nv
            have cU37 : Below W5.heap.size W5 U37 := cU27.trans (kU37.mono cU27.size)
            have yU37 := kU37.size
            have bv : W5.heap.size ≤ U27.heap.size := cU27.size
            have sv := nv.1
            refine hK.out _ _ (HKX.out _ cU37) (fun hHeld => ?_)
            clear hK K
            (try simp only [Act.put, List.setIfInBounds_toArray, List.set_cons_zero, List.set_cons_succ])
            refine oneE (i := 0) rfl (by kernel_rfl) (by kernel_rfl) (fun K hK => ?_)
            go_simp
            refine made (K := K) intB_spec 0 (by rfl) (by kernel_rfl) ?_
            intro U38 k0 z0 s0
            have kU38 : Below U37.heap.size U37 U38 := k0.of0
            clear k0 s0 z0
            have cU38 : Below W5.heap.size W5 U38 := cU37.trans (kU38.mono cU37.size)
            have yU38 := kU38.size
            replace nv := nv.below kU38
            refine hK.out _ _ (HKX.out _ cU38) (fun hHeld => ?_)
            clear hK K
            (try simp only [Act.put, List.setIfInBounds_toArray, List.set_cons_zero, List.set_cons_succ])
            refine oneE (i := 5) rfl (by kernel_rfl) (by kernel_rfl) (fun K hK => ?_)
            refine wp_app (.tmp 36) (.tmp 40) 23 (by rfl) _ _ (by rfl) (by rfl) _ (onto_none (OwnI.empty U38 _) (SN.out U38 cU38) (by omega) _) ?_
            rintro v' U39 ⟨FA, oA, hA, kU39⟩
            obtain ⟨pA, cA, rfl⟩ := OwnI.form oA
            have cU39 : Below W5.heap.size W5 U39 := cU38.trans (kU39.mono cU38.size)
            have yU39 := kU39.size
            replace nv := nv.below kU39
            have fA : ∀ z ∈ FA, W5.heap.size ≤ z := fun z hz => by have := hA z hz; have := cU38.size; omega
            have lA := OwnI.lt oA
            have nA : ∀ z ∈ FA, z ≠ U27.heap.size := fun z hz => by have := hA z hz; omega
            refine hK.out _ _ (HKX.out _ cU39) (fun hHeld => ?_)
            clear hK K
            (try simp only [Act.put, List.setIfInBounds_toArray, List.set_cons_zero, List.set_cons_succ])
            refine oneE (i := 11) rfl (by kernel_rfl) (by kernel_rfl) (fun K hK => ?_)
            refine wp_app (.tmp 42) (.tmp 46) 23 (by rfl) _ _ (by rfl) (by rfl) _ (onto_none (OwnI.empty U39 _) (SE.out U39 cU39) (by omega) _) ?_
            rintro v' U40 ⟨FB, oB, hB, kU40⟩
            obtain ⟨pB, cB, rfl⟩ := OwnI.form oB
            have cU40 : Below W5.heap.size W5 U40 := cU39.trans (kU40.mono cU39.size)
            have yU40 := kU40.size
            replace oA := OwnI.below oA kU40
            replace nv := nv.below kU40
            have fB : ∀ z ∈ FB, W5.heap.size ≤ z := fun z hz => by have := hB z hz; have := cU39.size; omega
            have lB := OwnI.lt oB
            have dj : ∀ z ∈ FA, z ∉ FB := fun z h1 h2 => by have := lA z h1; have := hB z h2; omega
            have nB : ∀ z ∈ FB, z ≠ U27.heap.size := fun z hz => by have := hB z hz; omega
            refine hK.out _ _ (HKX.out _ cU40) (fun hHeld => ?_)
            clear hK K
            (try simp only [Act.put, List.setIfInBounds_toArray, List.set_cons_zero, List.set_cons_succ])
            (refine takeE (i := 12) (v := ?_) [] rfl (by kernel_rfl) (by kernel_rfl) (fun _ _ _ h => h) (Or.inl ⟨by kernel_rfl, ?_⟩) (by assumption) ?_; rotate_left; (focus (intro w hSw; (try dsimp only at hSw); go_simp; first | done | with_reducible rfl | fail "takeE")); (try simp only [Act.put, List.setIfInBounds_toArray, List.set_cons_zero, List.set_cons_succ]))
            refine lastE rfl (by kernel_rfl) (by kernel_rfl) (fun K hK => ?_)
            obtain ⟨v0, v1, v2, v3, v4⟩ := nv
            go_simp
            refine hK.out _ _ ?_
            clear hK K
            refine doneE (by kernel_rfl) ?_ _
            go_wp2_with fail
            go_meet
            exact ⟨_, rfl, VarW.mk ⟨v0, v1, v2, v3, v4⟩ oA oB fA fB nA nB dj bv, (cU40.setCell (by show W5.heap.size ≤ _; omega) _).setCell (by show W5.heap.size ≤ _; omega) _⟩
        · go_simp
          refine madeVar (K := K) ?_
          intro U41 kU41 nv
          have cU41 : Below W5.heap.size W5 U41 := cW0.trans (kU41.mono cW0.size)
          have yU41 := kU41.size
          have bv : W5.heap.size ≤ W0.heap.size := cW0.size
          have sv := nv.1
          refine hK.out _ _ (HKX.out _ cU41) (fun hHeld => ?_)
          clear hK K
          (try simp only [Act.put, List.setIfInBounds_toArray, List.set_cons_zero, List.set_cons_succ])
          refine upE (rs := [0, 6]) (by kernel_rfl) (by simp) (AllE'.cons (i := 0) rfl (by kernel_rfl) (fun K hK => ?_) (AllE'.cons (i := 6) rfl (by kernel_rfl) (fun K hK => ?_) AllE'.nil))
          · go_simp
            refine made (K := K) intB_spec 0 (by rfl) (by kernel_rfl) ?_
            intro U42 k0 z0 s0
            have kU42 : Below U41.heap.size U41 U42 := k0.of0
            clear k0 s0 z0
            have cU42 : Below W5.heap.size W5 U42 := cU41.trans (kU42.mono cU41.size)
            have yU42 := kU42.size
            replace nv := nv.below kU42
            refine hK.out _ _ (HKX.out _ cU42) (fun hHeld => ?_)
            clear hK K
            (try simp only [Act.put, List.setIfInBounds_toArray, List.set_cons_zero, List.set_cons_succ])
            refine upE (rs := [5, 6]) (by kernel_rfl) (by simp) (AllE'.cons (i := 5) rfl (by kernel_rfl) (fun K hK => ?_) (AllE'.cons (i := 6) rfl (by kernel_rfl) (fun K hK => ?_) AllE'.nil))
            · refine wp_app (.tmp 36) (.tmp 40) 23 (by rfl) _ _ (by rfl) (by rfl) _ (onto_none (OwnI.empty U42 _) (SN.out U42 cU42) (by omega) _) ?_
              rintro v' U43 ⟨FA, oA, hA, kU43⟩
              obtain ⟨pA, cA, rfl⟩ := OwnI.form oA
              have cU43 : Below W5.heap.size W5 U43 := cU42.trans (kU43.mono cU42.size)
              have yU43 := kU43.size
              replace nv := nv.below kU43
              have fA : ∀ z ∈ FA, W5.heap.size ≤ z := fun z hz => by have := hA z hz; have := cU42.size; omega
              have lA := OwnI.lt oA
              have nA : ∀ z ∈ FA, z ≠ W0.heap.size := fun z hz => by have := hA z hz; omega
              refine hK.out _ _ (HKX.out _ cU43) (fun hHeld => ?_)
              clear hK K
              (try simp only [Act.put, List.setIfInBounds_toArray, List.set_cons_zero, List.set_cons_succ])
              refine oneE (i := 6) rfl (by kernel_rfl) (by kernel_rfl) (fun K hK => ?_)
              go_simp
              refine made (K := K) intB_spec 0 (by rfl) (by kernel_rfl) ?_
              intro U44 k0 z0 s0
              have kU44 : Below U43.heap.size U43 U44 := k0.of0
              clear k0 s0 z0
              have cU44 : Below W5.heap.size W5 U44 := cU43.trans (kU44.mono cU43.size)
              have yU44 := kU44.size
              replace oA := OwnI.below oA kU44
              replace nv := nv.below kU44
              refine hK.out _ _ (HKX.out _ cU44) (fun hHeld => ?_)
              clear hK K
              (try simp only [Act.put, List.setIfInBounds_toArray, List.set_cons_zero, List.set_cons_succ])
              refine oneE (i := 11) rfl (by kernel_rfl) (by kernel_rfl) (fun K hK => ?_)
              refine wp_app (.tmp 42) (.tmp 46) 23 (by rfl) _ _ (by rfl) (by rfl) _ (onto_none (OwnI.empty U44 _) (SE.out U44 cU44) (by omega) _) ?_
              rintro v' U45 ⟨FB, oB, hB, kU45⟩
              obtain ⟨pB, cB, rfl⟩ := OwnI.form oB
              have cU45 : Below W5.heap.size W5 U45 := cU44.trans (kU45.mono cU44.size)
              have yU45 := kU45.size
              replace oA := OwnI.below oA kU45
              replace nv := nv.below kU45
              have fB : ∀ z ∈ FB, W5.heap.size ≤ z := fun z hz => by have := hB z hz; have := cU44.size; omega
              have lB := OwnI.lt oB
              have dj : ∀ z ∈ FA, z ∉ FB := fun z h1 h2 => by have := lA z h1; have := hB z h2; omega
              have nB : ∀ z ∈ FB, z ≠ W0.heap.size := fun z hz => by have := hB z hz; omega
              refine hK.out _ _ (HKX.out _ cU45) (fun hHeld => ?_)
              clear hK K
              (try simp only [Act.put, List.setIfInBounds_toArray, List.set_cons_zero, List.set_cons_succ])
              (refine takeE (i := 12) (v := ?_) [] rfl (by kernel_rfl) (by kernel_rfl) (fun _ _ _ h => h) (Or.inl ⟨by kernel_rfl, ?_⟩) (by assumption) ?_; rotate_left; (focus (intro w hSw; (try dsimp only at hSw); go_simp; first | done | with_reducible rfl | fail "takeE")); (try simp only [Act.put, List.setIfInBounds_toArray, List.set_cons_zero, List.set_cons_succ]))
              refine lastE rfl (by kernel_rfl) (by kernel_rfl) (fun K hK => ?_)
              obtain ⟨v0, v1, v2, v3, v4⟩ := nv
              go_simp
              refine hK.out _ _ ?_
              clear hK K
              refine doneE (by kernel_rfl) ?_ _
              go_wp2_with fail
              go_meet
              exact ⟨_, rfl, VarW.mk ⟨v0, v1, v2, v3, v4⟩ oA oB fA fB nA nB dj bv, (cU45.setCell (by show W5.heap.size ≤ _; omega) _).setCell (by show W5.heap.size ≤ _; omega) _⟩
            · go_simp
              refine made (K := K) intB_spec 0 (by rfl) (by kernel_rfl) ?_
              intro U46 k0 z0 s0
              have kU46 : Below U42.heap.size U42 U46 := k0.of0
              clear k0 s0 z0
              have cU46 : Below W5.heap.size W5 U46 := cU42.trans (kU46.mono cU42.size)
              have yU46 := kU46.size
              replace nv := nv.below kU46
              refine hK.out _ _ (HKX.out _ cU46) (fun hHeld => ?_)
              clear hK K
              (try simp only [Act.put, List.setIfInBounds_toArray, List.set_cons_zero, List.set_cons_succ])
              refine oneE (i := 5) rfl (by kernel_rfl) (by kernel_rfl) (fun K hK => ?_)
              refine wp_app (.tmp 36) (.tmp 40) 23 (by rfl) _ _ (by rfl) (by rfl) _ (onto_none (OwnI.empty U46 _) (SN.out U46 cU46) (by omega) _) ?_
              rintro v' U47 ⟨FA, oA, hA, kU47⟩
              obtain ⟨pA, cA, rfl⟩ := OwnI.form oA
              have cU47 : Below W5.heap.size W5 U47 := cU46.trans (kU47.mono cU46.size)
              have yU47 := kU47.size
              replace nv := nv.below kU47
              have fA : ∀ z ∈ FA, W5.heap.size ≤ z := fun z hz => by have := hA z hz; have := cU46.size; omega
              have lA := OwnI.lt oA
              have nA : ∀ z ∈ FA, z ≠ W0.heap.size := fun z hz => by have := hA z hz; omega
              refine hK.out _ _ (HKX.out _ cU47) (fun hHeld => ?_)
              clear hK K
              (try simp only [Act.put, List.setIfInBounds_toArray, List.set_cons_zero, List.set_cons_succ])
              refine oneE (i := 11) rfl (by kernel_rfl) (by kernel_rfl) (fun K hK => ?_)
              refine wp_app (.tmp 42) (.tmp 46) 23 (by rfl) _ _ (by rfl) (by rfl) _ (onto_none (OwnI.empty U47 _) (SE.out U47 cU47) (by omega) _) ?_
              rintro v' U48 ⟨FB, oB, hB, kU48⟩
              obtain ⟨pB, cB, rfl⟩ := OwnI.form oB
              have cU48 : Below W5.heap.size W5 U48 := cU47.trans (kU48.mono cU47.size)
              have yU48 := kU48.size
              replace oA := OwnI.below oA kU48
              replace nv := nv.below kU48
              have fB : ∀ z ∈ FB, W5.heap.size ≤ z := fun z hz => by have := hB z hz; have := cU47.size; omega
              have lB := OwnI.lt oB
              have dj : ∀ z ∈ FA, z ∉ FB := fun z h1 h2 => by have := lA z h1; have := hB z h2; omega
              have nB : ∀ z ∈ FB, z ≠ W0.heap.size := fun z hz => by have := hB z hz; omega
              refine hK.out _ _ (HKX.out _ cU48) (fun hHeld => ?_)
              clear hK K
              (try simp only [Act.put, List.setIfInBounds_toArray, List.set_cons_zero, List.set_cons_succ])
              (refine takeE (i := 12) (v := ?_) [] rfl (by kernel_rfl) (by kernel_rfl) (fun _ _ _ h => h) (Or.inl ⟨by kernel_rfl, ?_⟩) (by assumption) ?_; rotate_left; (focus (intro w hSw; (try dsimp only at hSw); go_simp; first | done | with_reducible rfl | fail "takeE")); (try simp only [Act.put, List.setIfInBounds_toArray, List.set_cons_zero, List.set_cons_succ]))
              refine lastE rfl (by kernel_rfl) (by kernel_rfl) (fun K hK => ?_)
              obtain ⟨v0, v1, v2, v3, v4⟩ := nv
              go_simp
              refine hK.out _ _ ?_
              clear hK K
              refine doneE (by kernel_rfl) ?_ _
              go_wp2_with fail
              go_meet
              exact ⟨_, rfl, VarW.mk ⟨v0, v1, v2, v3, v4⟩ oA oB fA fB nA nB dj bv, (cU48.setCell (by show W5.heap.size ≤ _; omega) _).setCell (by show W5.heap.size ≤ _; omega) _⟩
          · go_simp
            refine made (K := K) intB_spec 0 (by rfl) (by kernel_rfl) ?_
            intro U49 k0 z0 s0
            have kU49 : Below U41.heap.size U41 U49 := k0.of0
            clear k0 s0 z0
            have cU49 : Below W5.heap.size W5 U49 := cU41.trans (kU49.mono cU41.size)
            have yU49 := kU49.size
            replace nv := nv.below kU49
            refine hK.out _ _ (HKX.out _ cU49) (fun hHeld => ?_)
            clear hK K
            (try simp only [Act.put, List.setIfInBounds_toArray, List.set_cons_zero, List.set_cons_succ])
            refine oneE (i := 0) rfl (by kernel_rfl) (by kernel_rfl) (fun K hK => ?_)
            go_simp
            refine made (K := K) intB_spec 0 (by rfl) (by kernel_rfl) ?_
            intro U50 k0 z0 s0
            have kU50 : Below U49.heap.size U49 U50 := k0.of0
            clear k0 s0 z0
            have cU50 : Below W5.heap.size W5 U50 := cU49.trans (kU50.mono cU49.size)
            have yU50 := kU50.size
            replace nv := nv.below kU50
            refine hK.out _ _ (HKX.out _ cU50) (fun hHeld => ?_)
            clear hK K
            (try simp only [Act.put, List.setIfInBounds_toArray, List.set_cons_zero, List.set_cons_succ])
            refine oneE (i := 5) rfl (by kernel_rfl) (by kernel_rfl) (fun K hK => ?_)
            refine wp_app (.tmp 36) (.tmp 40) 23 (by rfl) _ _ (by rfl) (by rfl) _ (onto_none (OwnI.empty U50 _) (SN.out U50 cU50) (by omega) _) ?_
            rintro v' U51 ⟨FA, oA, hA, kU51⟩
            obtain ⟨pA, cA, rfl⟩ := OwnI.form oA
            have cU51 : Below W5.heap.size W5 U51 := cU50.trans (kU51.mono cU50.size)
            have yU51 := kU51.size
            replace nv := nv.below kU51
            have fA : ∀ z ∈ FA, W5.heap.size ≤ z := fun z hz => by have := hA z hz; have := cU50.size; omega
            have lA := OwnI.lt oA
            have nA : ∀ z ∈ FA, z ≠ W0.heap.size := fun z hz => by have := hA z hz; omega
            refine hK.out _ _ (HKX.out _ cU51) (fun hHeld => ?_)
            clear hK K
            (try simp only [Act.put, List.setIfInBounds_toArray, List.set_cons_zero, List.set_cons_succ])
            refine oneE (i := 11) rfl (by kernel_rfl) (by kernel_rfl) (fun K hK => ?_)
            refine wp_app (.tmp 42) (.tmp 46) 23 (by rfl) _ _ (by rfl) (by rfl) _ (onto_none (OwnI.empty U51 _) (SE.out U51 cU51) (by omega) _) ?_
            rintro v' U52 ⟨FB, oB, hB, kU52⟩
            obtain ⟨pB, cB, rfl⟩ := OwnI.form oB
            have cU52 : Below W5.heap.size W5 U52 := cU51.trans (kU52.mono cU51.size)
            have yU52 := kU52.size
            replace oA := OwnI.below oA kU52
            replace nv := nv.below kU52
            have fB : ∀ z ∈ FB, W5.heap.size ≤ z := fun z hz => by have := hB z hz; have := cU51.size; omega
            have lB := OwnI.lt oB
            have dj : ∀ z ∈ FA, z ∉ FB := fun z h1 h2 => by have := lA z h1; have := hB z h2; omega
            have nB : ∀ z ∈ FB, z ≠ W0.heap.size := fun z hz => by have := hB z hz; omega
            refine hK.out _ _ (HKX.out _ cU52) (fun hHeld => ?_)
            clear hK K
            (try simp only [Act.put, List.setIfInBounds_toArray, List.set_cons_zero, List.set_cons_succ])
            (refine takeE (i := 12) (v := ?_) [] rfl (by kernel_rfl) (by kernel_rfl) (fun _ _ _ h => h) (Or.inl ⟨by kernel_rfl, ?_⟩) (by assumption) ?_; rotate_left; (focus (intro w hSw; (try dsimp only at hSw); go_simp; first | done | with_reducible rfl | fail "takeE")); (try simp only [Act.put, List.setIfInBounds_toArray, List.set_cons_zero, List.set_cons_succ]))
            refine lastE rfl (by kernel_rfl) (by kernel_rfl) (fun K hK => ?_)
            obtain ⟨v0, v1, v2, v3, v4⟩ := nv
            go_simp
            refine hK.out _ _ ?_
            clear hK K
            refine doneE (by kernel_rfl) ?_ _
            go_wp2_with fail
            go_meet
            exact ⟨_, rfl, VarW.mk ⟨v0, v1, v2, v3, v4⟩ oA oB fA fB nA nB dj bv, (cU52.setCell (by show W5.heap.size ≤ _; omega) _).setCell (by show W5.heap.size ≤ _; omega) _⟩
      · have hv2 := HQ.out
        rw [if_neg hd] at hv2
        have q2 : (dx = k) = False := eq_false hd
        subst hv2
        refine wp_region_E (last := 14) (S := fun w' => w'.cell? ⟨bw, 0, none⟩ = some (.slice (some ⟨b, off, none⟩) x.ns.length cx) ∧ w'.cell? ⟨bw, 1, none⟩ = some (.slice qx x.es.length dx)) (by kernel_rfl) ?_ (fun hHeld => ?_)
        · exact HKX.out _ ((Below.refl _ _).drew)
        have cW0 : Below W5.heap.size W5 W5.drew := (Below.refl _ _).drew
        generalize W5.drew = W0 at cW0 hHeld ⊢
        have yW0 := cW0.size
        (refine takeE (i := 1) (v := ?_) [] rfl (by kernel_rfl) (by kernel_rfl) (fun _ _ _ h => h) (Or.inl ⟨by kernel_rfl, ?_⟩) (by assumption) ?_; rotate_left; (focus (intro w hSw; (try dsimp only at hSw); go_simp; first | done | with_reducible rfl | fail "takeE")); (try simp only [Act.put, List.setIfInBounds_toArray, List.set_cons_zero, List.set_cons_succ]))
        (refine takeE (i := 2) (v := ?_) [] rfl (by kernel_rfl) (by kernel_rfl) (fun _ _ _ h => h) (Or.inl ⟨by kernel_rfl, ?_⟩) (by assumption) ?_; rotate_left; (focus (intro w hSw; (try dsimp only at hSw); go_simp; first | done | with_reducible rfl | fail "takeE")); (try simp only [Act.put, List.setIfInBounds_toArray, List.set_cons_zero, List.set_cons_succ]))
        (refine takeE (i := 3) (v := ?_) [] rfl (by kernel_rfl) (by kernel_rfl) (fun _ _ _ h => h) (Or.inl ⟨by kernel_rfl, ?_⟩) (by assumption) ?_; rotate_left; (focus (intro w hSw; (try dsimp only at hSw); go_simp; first | done | with_reducible rfl | fail "takeE")); (try simp only [Act.put, List.setIfInBounds_toArray, List.set_cons_zero, List.set_cons_succ]))
        (refine takeE (i := 4) (v := ?_) [] rfl (by kernel_rfl) (by kernel_rfl) (fun _ _ _ h => h) (Or.inl ⟨by kernel_rfl, ?_⟩) (by assumption) ?_; rotate_left; (focus (intro w hSw; (try dsimp only at hSw); go_simp; first | done | with_reducible rfl | fail "takeE")); (try simp only [Act.put, List.setIfInBounds_toArray, List.set_cons_zero, List.set_cons_succ]))
        (refine takeE (i := 7) (v := ?_) [] rfl (by kernel_rfl) (by kernel_rfl) (fun _ _ _ h => h) (Or.inl ⟨by kernel_rfl, ?_⟩) (by assumption) ?_; rotate_left; (focus (intro w hSw; (try dsimp only at hSw); go_simp; first | done | with_reducible rfl | fail "takeE")); (try simp only [Act.put, List.setIfInBounds_toArray, List.set_cons_zero, List.set_cons_succ]))
        (refine takeE (i := 8) (v := ?_) [] rfl (by kernel_rfl) (by kernel_rfl) (fun _ _ _ h => h) (Or.inl ⟨by kernel_rfl, ?_⟩) (by assumption) ?_; rotate_left; (focus (intro w hSw; (try dsimp only at hSw); go_simp; first | done | with_reducible rfl | fail "takeE")); (try simp only [Act.put, List.setIfInBounds_toArray, List.set_cons_zero, List.set_cons_succ]))
        (refine takeE (i := 9) (v := ?_) [] rfl (by kernel_rfl) (by kernel_rfl) (fun _ _ _ h => h) (Or.inl ⟨by kernel_rfl, ?_⟩) (by assumption) ?_; rotate_left; (focus (intro w hSw; (try dsimp only at hSw); go_simp; first | done | with_reducible rfl | fail "takeE")); (try simp only [Act.put, List.setIfInBounds_toArray, List.set_cons_zero, List.set_cons_succ]))
        (refine takeE (i := 10) (v := ?_) [] rfl (by kernel_rfl) (by kernel_rfl) (fun _ _ _ h => h) (Or.inl ⟨by kernel_rfl, ?_⟩) (by assumption) ?_; rotate_left; (focus (intro w hSw; (try dsimp only at hSw); go_simp; first | done | with_reducible rfl | fail "takeE")); (try simp only [Act.put, List.setIfInBounds_toArray, List.set_cons_zero, List.set_cons_succ]))
        refine upE (rs := [0, 6, 13]) (by kernel_rfl) (by simp) (AllE'.cons (i := 0) rfl (by kernel_rfl) (fun K hK => ?_) (AllE'.cons (i := 6) rfl (by kernel_rfl) (fun K hK => ?_) (AllE'.cons (i := 13) rfl (by kernel_rfl) (fun K hK => ?_) AllE'.nil)))
        · go_simp
          refine made (K := K) intB_spec 0 (by rfl) (by kernel_rfl) ?_
          intro U1 k0 z0 s0
          have kU1 : Below W0.heap.size W0 U1 := k0.of0
          clear k0 s0 z0
          have cU1 : Below W5.heap.size W5 U1 := cW0.trans (kU1.mono cW0.size)
          have yU1 := kU1.size
          refine hK.out _ _ (HKX.out _ cU1) (fun hHeld => ?_)
          clear hK K
          (try simp only [Act.put, List.setIfInBounds_toArray, List.set_cons_zero, List.set_cons_succ])
          refine upE (rs := [5, 6, 13]) (by kernel_rfl) (by simp) (AllE'.cons (i := 5) rfl (by kernel_rfl) (fun K hK => ?_) (AllE'.cons (i := 6) rfl (by kernel_rfl) (fun K hK => ?_) (AllE'.cons (i := 13) rfl (by kernel_rfl) (fun K hK => ?_) AllE'.nil)))
          · refine wp_app (.tmp 36) (.tmp 40) 23 (by rfl) _ _ (by rfl) (by rfl) _ (onto_none (OwnI.empty U1 _) (SN.out U1 cU1) (by omega) _) ?_
            rintro v' U2 ⟨FA, oA, hA, kU2⟩
            obtain ⟨pA, cA, rfl⟩ := OwnI.form oA
            have cU2 : Below W5.heap.size W5 U2 := cU1.trans (kU2.mono cU1.size)
            have yU2 := kU2.size
            have fA : ∀ z ∈ FA, W5.heap.size ≤ z := fun z hz => by have := hA z hz; have := cU1.size; omega
            have lA := OwnI.lt oA
            refine hK.out _ _ (HKX.out _ cU2) (fun hHeld => ?_)
            clear hK K
            (try simp only [Act.put, List.setIfInBounds_toArray, List.set_cons_zero, List.set_cons_succ])
            refine upE (rs := [6, 13]) (by kernel_rfl) (by simp) (AllE'.cons (i := 6) rfl (by kernel_rfl) (fun K hK => ?_) (AllE'.cons (i := 13) rfl (by kernel_rfl) (fun K hK => ?_) AllE'.nil))
            · go_simp
              refine made (K := K) intB_spec 0 (by rfl) (by kernel_rfl) ?_
              intro U3 k0 z0 s0
              have kU3 : Below U2.heap.size U2 U3 := k0.of0
              clear k0 s0 z0
              have cU3 : Below W5.heap.size W5 U3 := cU2.trans (kU3.mono cU2.size)
              have yU3 := kU3.size
              replace oA := OwnI.below oA kU3
              refine hK.out _ _ (HKX.out _ cU3) (fun hHeld => ?_)
              clear hK K
              (try simp only [Act.put, List.setIfInBounds_toArray, List.set_cons_zero, List.set_cons_succ])
              refine upE (rs := [11, 13]) (by kernel_rfl) (by simp) (AllE'.cons (i := 11) rfl (by kernel_rfl) (fun K hK => ?_) (AllE'.cons (i := 13) rfl (by kernel_rfl) (fun K hK => ?_) AllE'.nil))
              · refine wp_app (.tmp 42) (.tmp 46) 23 (by rfl) _ _ (by rfl) (by rfl) _ (onto_none (OwnI.empty U3 _) (SE.out U3 cU3) (by omega) _) ?_
                rintro v' U4 ⟨FB, oB, hB, kU4⟩
                obtain ⟨pB, cB, rfl⟩ := OwnI.form oB
                have cU4 : Below W5.heap.size W5 U4 := cU3.trans (kU4.mono cU3.size)
                have yU4 := kU4.size
                replace oA := OwnI.below oA kU4
                have fB : ∀ z ∈ FB, W5.heap.size ≤ z := fun z hz => by have := hB z hz; have := cU3.size; omega
                have lB := OwnI.lt oB
                have dj : ∀ z ∈ FA, z ∉ FB := fun z h1 h2 => by have := lA z h1; have := hB z h2; omega
                refine hK.out _ _ (HKX.out _ cU4) (fun hHeld => ?_)
                clear hK K
                (try simp only [Act.put, List.setIfInBounds_toArray, List.set_cons_zero, List.set_cons_succ])
                (refine takeE (i := 12) (v := ?_) [] rfl (by kernel_rfl) (by kernel_rfl) (fun _ _ _ h => h) (Or.inl ⟨by kernel_rfl, ?_⟩) (by assumption) ?_; rotate_left; (focus (intro w hSw; (try dsimp only at hSw); go_simp; first | done | with_reducible rfl | fail "takeE")); (try simp only [Act.put, List.setIfInBounds_toArray, List.set_cons_zero, List.set_cons_succ]))
                refine oneE (i := 13) rfl (by kernel_rfl) (by kernel_rfl) (fun K hK => ?_)
                go_simp
                refine madeVar (K := K) ?_
                intro U5 kU5 nv
                have cU5 : Below W5.heap.size W5 U5 := cU4.trans (kU5.mono cU4.size)
                have yU5 := kU5.size
                replace oA := OwnI.below oA kU5
                replace oB := OwnI.below oB kU5
                have bv : W5.heap.size ≤ U4.heap.size := cU4.size
                have sv := nv.1
                have nA : ∀ z ∈ FA, z ≠ U4.heap.size := fun z hz => by have := lA z hz; omega
                have nB : ∀ z ∈ FB, z ≠ U4.heap.size := fun z hz => by have := lB z hz; omega
                refine hK.out _ _ (HKX.out _ cU5) (fun hHeld => ?_)
                clear hK K
                (try simp only [Act.put, List.setIfInBounds_toArray, List.set_cons_zero, List.set_cons_succ])
                refine lastE rfl (by kernel_rfl) (by kernel_rfl) (fun K hK => ?_)
                obtain ⟨v0, v1, v2, v3, v4⟩ := nv
                go_simp
                refine hK.out _ _ ?_
                clear hK K
                refine doneE (by kernel_rfl) ?_ _
                go_wp2_with fail
                go_meet
                exact ⟨_, rfl, VarW.mk ⟨v0, v1, v2, v3, v4⟩ oA oB fA fB nA nB dj bv, (cU5.setCell (by show W5.heap.size ≤ _; omega) _).setCell (by show W5.heap.size ≤ _; omega) _⟩
              · go_simp
                refine madeVar (K := K) ?_
                intro U6 kU6 nv
                have cU6 : Below W5.heap.size W5 U6 := cU3.trans (kU6.mono cU3.size)
                have yU6 := kU6.size
                replace oA := OwnI.below oA kU6
                have bv : W5.heap.size ≤ U3.heap.size := cU3.size
                have sv := nv.1
                have nA : ∀ z ∈ FA, z ≠ U3.heap.size := fun z hz => by have := lA z hz; omega
                refine hK.out _ _ (HKX.out _ cU6) (fun hHeld => ?_)
                clear hK K
                (try simp only [Act.put, List.setIfInBounds_toArray, List.set_cons_zero, List.set_cons_succ])
                refine oneE (i := 11) rfl (by kernel_rfl) (by kernel_rfl) (fun K hK => ?_)
                refine wp_app (.tmp 42) (.tmp 46) 23 (by rfl) _ _ (by rfl) (by rfl) _ (onto_none (OwnI.empty U6 _) (SE.out U6 cU6) (by omega) _) ?_
                rintro v' U7 ⟨FB, oB, hB, kU7⟩
                obtain ⟨pB, cB, rfl⟩ := OwnI.form oB
                have cU7 : Below W5.heap.size W5 U7 := cU6.trans (kU7.mono cU6.size)
                have yU7 := kU7.size
                replace oA := OwnI.below oA kU7
                replace nv := nv.below kU7
                have fB : ∀ z ∈ FB, W5.heap.size ≤ z := fun z hz => by have := hB z hz; have := cU6.size; omega
                have lB := OwnI.lt oB
                have dj : ∀ z ∈ FA, z ∉ FB := fun z h1 h2 => by have := lA z h1; have := hB z h2; omega
                have nB : ∀ z ∈ FB, z ≠ U3.heap.size := fun z hz => by have := hB z hz; omega
                refine hK.out _ _ (HKX.out _ cU7) (fun hHeld => ?_)
                clear hK K
                (try simp only [Act.put, List.setIfInBounds_toArray, List.set_cons_zero, List.set_cons_succ])
                (refine takeE (i := 12) (v := ?_) [] rfl (by kernel_rfl) (by kernel_rfl) (fun _ _ _ h => h) (Or.inl ⟨by kernel_rfl, ?_⟩) (by assumption) ?_; rotate_left; (focus (intro w hSw; (try dsimp only at hSw); go_simp; first | done | with_reducible rfl | fail "takeE")); (try simp only [Act.put, List.setIfInBounds_toArray, List.set_cons_zero, List.set_cons_succ]))
                refine lastE rfl (by kernel_rfl) (by kernel_rfl) (fun K hK => ?_)
                obtain ⟨v0, v1, v2, v3, v4⟩ := nv
                go_simp
                refine hK.out _ _ ?_
                clear hK K
                refine doneE (by kernel_rfl) ?_ _
                go_wp2_with fail
                go_meet
                exact ⟨_, rfl, VarW.mk ⟨v0, v1, v2, v3, v4⟩ oA oB fA fB nA nB dj bv, (cU7.setCell (by show W5.heap.size ≤ _; omega) _).setCell (by show W5.heap.size ≤ _; omega) _⟩
            · go_simp
              refine madeVar (K := K) ?_
              intro U8 kU8 nv
              have cU8 : Below W5.heap.size W5 U8 := cU2.trans (kU8.mono cU2.size)
              have yU8 := kU8.size
              replace oA := OwnI.below oA kU8
              have bv : W5.heap.size ≤ U2.heap.size := cU2.size
              have sv := nv.1
              have nA : ∀ z ∈ FA, z ≠ U2.heap.size := fun z hz => by have := lA z hz; omega
              refine hK.out _ _ (HKX.out _ cU8) (fun hHeld => ?_)
              clear hK K
              (try simp only [Act.put, List.setIfInBounds_toArray, List.set_cons_zero, List.set_cons_succ])
              refine oneE (i := 6) rfl (by kernel_rfl) (by kernel_rfl) (fun K hK => ?_)
              go_simp
              refine made (K := K) intB_spec 0 (by rfl) (by kernel_rfl) ?_
              intro U9 k0 z0 s0
              have kU9 : Below U8.heap.size U8 U9 := k0.of0
              clear k0 s0 z0
              have cU9 : Below W5.heap.size W5 U9 := cU8.trans (kU9.mono cU8.size)
              have yU9 := kU9.size
              replace oA := OwnI.below oA kU9
              replace nv := nv.below kU9
              refine hK.out _ _ (HKX.out _ cU9) (fun hHeld => ?_)
              clear hK K
              (try simp only [Act.put, List.setIfInBounds_toArray, List.set_cons_zero, List.set_cons_succ])
              refine oneE (i := 11) rfl (by kernel_rfl) (by kernel_rfl) (fun K hK => ?_)
              refine wp_app (.tmp 42) (.tmp 46) 23 (by rfl) _ _ (by rfl) (by rfl) _ (onto_none (OwnI.empty U9 _) (SE.out U9 cU9) (by omega) _) ?_
              rintro v' U10 ⟨FB, oB, hB, kU10⟩
              obtain ⟨pB, cB, rfl⟩ := OwnI.form oB
              have cU10 : Below W5.heap.size W5 U10 := cU9.trans (kU10.mono cU9.size)
              have yU10 := kU10.size
              replace oA := OwnI.below oA kU10
              replace nv := nv.below kU10
              have fB : ∀ z ∈ FB, W5.heap.size ≤ z := fun z hz => by have := hB z hz; have := cU9.size; omega
              have lB := OwnI.lt oB
              have dj : ∀ z ∈ FA, z ∉ FB := fun z h1 h2 => by have := lA z h1; have := hB z h2; omega
              have nB : ∀ z ∈ FB, z ≠ U2.heap.size := fun z hz => by have := hB z hz; omega
              refine hK.out _ _ (HKX.out _ cU10) (fun hHeld => ?_)
              clear hK K
              (try simp only [Act.put, List.setIfInBounds_toArray, List.set_cons_zero, List.set_cons_succ])
              (refine takeE (i := 12) (v := ?_) [] rfl (by kernel_rfl) (by kernel_rfl) (fun _ _ _ h => h) (Or.inl ⟨by kernel_rfl, ?_⟩) (by assumption) ?_; rotate_left; (focus (intro w hSw; (try dsimp only at hSw); go_simp; first | done | with_reducible rfl | fail "takeE")); (try simp only [Act.put, List.setIfInBounds_toArray, List.set_cons_zero, List.set_cons_succ]))
              refine lastE rfl (by kernel_rfl) (by kernel_rfl) (fun K hK => ?_)
              obtain ⟨v0, v1, v2, v3, v4⟩ := nv
              go_simp
              refine hK.out _ _ ?_
              clear hK K
              refine doneE (by kernel_rfl) ?_ _
              go_wp2_with fail
              go_meet
              exact ⟨_, rfl, VarW.mk ⟨v0, v1, v2, v3, v4⟩ oA oB fA fB nA nB dj bv, (cU10.setCell (by show W5.heap.size ≤ _; omega) _).setCell (by show W5.heap.size ≤ _; omega) _⟩
          · go_simp
            refine made (K := K) intB_spec 0 (by rfl) (by kernel_rfl) ?_
            intro U11 k0 z0 s0
            have kU11 : Below U1.heap.size U1 U11 := k0.of0
            clear k0 s0 z0
            have cU11 : Below W5.heap.size W5 U11 := cU1.trans (kU11.mono cU1.size)
            have yU11 := kU11.size
            refine hK.out _ _ (HKX.out _ cU11) (fun hHeld => ?_)
            clear hK K
            (try simp only [Act.put, List.setIfInBounds_toArray, List.set_cons_zero, List.set_cons_succ])
            refine upE (rs := [5, 13]) (by kernel_rfl) (by simp) (AllE'.cons (i := 5) rfl (by kernel_rfl) (fun K hK => ?_) (AllE'.cons (i := 13) rfl (by kernel_rfl) (fun K hK => ?_) AllE'.nil))
            · refine wp_app (.tmp 36) (.tmp 40) 23 (by rfl) _ _ (by rfl) (by rfl) _ (onto_none (OwnI.empty U11 _) (SN.out U11 cU11) (by omega) _) ?_
              rintro v' U12 ⟨FA, oA, hA, kU12⟩
              obtain ⟨pA, cA, rfl⟩ := OwnI.form oA
              have cU12 : Below W5.heap.size W5 U12 := cU11.trans (kU12.mono cU11.size)
              have yU12 := kU12.size
              have fA : ∀ z ∈ FA, W5.heap.size ≤ z := fun z hz => by have := hA z hz; have := cU11.size; omega
              have lA := OwnI.lt oA
              refine hK.out _ _ (HKX.out _ cU12) (fun hHeld => ?_)
              clear hK K
              (try simp only [Act.put, List.setIfInBounds_toArray, List.set_cons_zero, List.set_cons_succ])
              refine upE (rs := [11, 13]) (by kernel_rfl) (by simp) (AllE'.cons (i := 11) rfl (by kernel_rfl) (fun K hK => ?_) (AllE'.cons (i := 13) rfl (by kernel_rfl) (fun K hK => ?_) AllE'.nil))
              · refine wp_app (.tmp 42) (.tmp 46) 23 (by rfl) _ _ (by rfl) (by rfl) _ (onto_none (OwnI.empty U12 _) (SE.out U12 cU12) (by omega) _) ?_
                rintro v' U13 ⟨FB, oB, hB, kU13⟩
                obtain ⟨pB, cB, rfl⟩ := OwnI.form oB
                have cU13 : Below W5.heap.size W5 U13 := cU12.trans (kU13.mono cU12.size)
                have yU13 := kU13.size
                replace oA := OwnI.below oA kU13
                have fB : ∀ z ∈ FB, W5.heap.size ≤ z := fun z hz => by have := hB z hz; have := cU12.size; omega
                have lB := OwnI.lt oB
                have dj : ∀ z ∈ FA, z ∉ FB := fun z h1 h2 => by have := lA z h1; have := hB z h2; omega
                refine hK.out _ _ (HKX.out _ cU13) (fun hHeld => ?_)
                clear hK K
                (try simp only [Act.put, List.setIfInBounds_toArray, List.set_cons_zero, List.set_cons_succ])
                (refine takeE (i := 12) (v := ?_) [] rfl (by kernel_rfl) (by kernel_rfl) (fun _ _ _ h => h) (Or.inl ⟨by kernel_rfl, ?_⟩) (by assumption) ?_; rotate_left; (focus (intro w hSw; (try dsimp only at hSw); go_simp; first | done | with_reducible rfl | fail "takeE")); (try simp only [Act.put, List.setIfInBounds_toArray, List.set_cons_zero, List.set_cons_succ]))
                refine oneE (i := 13) rfl (by kernel_rfl) (by kernel_rfl) (fun K hK => ?_)
                go_simp
                refine madeVar (K := K) ?_
                intro U14 kU14 nv
                have cU14 : Below W5.heap.size W5 U14 := cU13.trans (kU14.mono cU13.size)
                have yU14 := kU14.size
                replace oA := OwnI.below oA kU14
                replace oB := OwnI.below oB kU14
                have bv : W5.heap.size ≤ U13.heap.size := cU13.size
                have sv := nv.1
                have nA : ∀ z ∈ FA, z ≠ U13.heap.size := fun z hz => by have := lA z hz; omega
                have nB : ∀ z ∈ FB, z ≠ U13.heap.size := fun z hz => by have := lB z hz; omega
                refine hK.out _ _ (HKX.out _ cU14) (fun hHeld => ?_)
                clear hK K
                (try simp only [Act.put, List.setIfInBounds_toArray, List.set_cons_zero, List.set_cons_succ])
                refine lastE rfl (by kernel_rfl) (by kernel_rfl) (fun K hK => ?_)
                obtain ⟨v0, v1, v2, v3, v4⟩ := nv
                go_simp
                refine hK.out _ _ ?_
                clear hK K
                refine doneE (by kernel_rfl) ?_ _
                go_wp2_with fail
                go_meet
                exact ⟨_, rfl, VarW.mk ⟨v0, v1, v2, v3, v4⟩ oA oB fA fB nA nB dj bv, (cU14.setCell (by show W5.heap.size ≤ _; omega) _).setCell (by show W5.heap.size ≤ _; omega) _⟩
              · go_simp
                refine madeVar (K := K) ?_
                intro U15 kU15 nv
                have cU15 : Below W5.heap.size W5 U15 := cU12.trans (kU15.mono cU12.size)
                have yU15 := kU15.size
                replace oA := OwnI.below oA kU15
                have bv : W5.heap.size ≤ U12.heap.size := cU12.size
                have sv := nv.1
                have nA : ∀ z ∈ FA, z ≠ U12.heap.size := fun z hz => by have := lA z hz; omega
                refine hK.out _ _ (HKX.out _ cU15) (fun hHeld => ?_)
                clear hK K
                (try simp only [Act.put, List.setIfInBounds_toArray, List.set_cons_zero, List.set_cons_succ])
                refine oneE (i := 11) rfl (by kernel_rfl) (by kernel_rfl) (fun K hK => ?_)
                refine wp_app (.tmp 42) (.tmp 46) 23 (by rfl) _ _ (by rfl) (by rfl) _ (onto_none (OwnI.empty U15 _) (SE.out U15 cU15) (by omega) _) ?_
                rintro v' U16 ⟨FB, oB, hB, kU16⟩
                obtain ⟨pB, cB, rfl⟩ := OwnI.form oB
                have cU16 : Below W5.heap.size W5 U16 := cU15.trans (kU16.mono cU15.size)
                have yU16 := kU16.size
                replace oA := OwnI.below oA kU16
                replace nv := nv.below kU16
                have fB : ∀ z ∈ FB, W5.heap.size ≤ z := fun z hz => by have := hB z hz; have := cU15.size; omega
                have lB := OwnI.lt oB
                have dj : ∀ z ∈ FA, z ∉ FB := fun z h1 h2 => by have := lA z h1; have := hB z h2; omega
                have nB : ∀ z ∈ FB, z ≠ U12.heap.size := fun z hz => by have := hB z hz; omega
                refine hK.out _ _ (HKX.out _ cU16) (fun hHeld => ?_)
                clear hK K
                (try simp only [Act.put, List.setIfInBounds_toArray, List.set_cons_zero, List.set_cons_succ])
                (refine takeE (i := 12) (v := ?_) [] rfl (by kernel_rfl) (by kernel_rfl) (fun _ _ _ h => h) (Or.inl ⟨by kernel_rfl, ?_⟩) (by assumption) ?_; rotate_left; (focus (intro w hSw; (try dsimp only at hSw); go_simp; first | done | with_reducible rfl | fail "takeE")); (try simp only [Act.put, List.setIfInBounds_toArray, List.set_cons_zero, List.set_cons_succ]))
                refine lastE rfl (by kernel_rfl) (by kernel_rfl) (fun K hK => ?_)
                obtain ⟨v0, v1, v2, v3, v4⟩ := nv
                go_simp
                refine hK.out _ _ ?_
                clear hK K
                refine doneE (by kernel_rfl) ?_ _
                go_wp2_with fail
                go_meet
                exact ⟨_, rfl, VarW.mk ⟨v0, v1, v2, v3, v4⟩ oA oB fA fB nA nB dj bv, (cU16.setCell (by show W5.heap.size ≤ _; omega) _).setCell (by show W5.heap.size ≤ _; omega) _⟩
            · go_simp
              refine madeVar (K := K) ?_
              intro U17 kU17 nv
              have cU17 : Below W5.heap.size W5 U17 := cU11.trans (kU17.mono cU11.size)
              have yU17 := kU17.size
              have bv : W5.heap.size ≤ U11.heap.size := cU11.size
              have sv := nv.1
              refine hK.out _ _ (HKX.out _ cU17) (fun hHeld => ?_)
              clear hK K
              (try simp only [Act.put, List.setIfInBounds_toArray, List.set_cons_zero, List.set_cons_succ])
              refine oneE (i := 5) rfl (by kernel_rfl) (by kernel_rfl) (fun K hK => ?_)
              refine wp_app (.tmp 36) (.tmp 40) 23 (by rfl) _ _ (by rfl) (by rfl) _ (onto_none (OwnI.empty U17 _) (SN.out U17 cU17) (by omega) _) ?_
              rintro v' U18 ⟨FA, oA, hA, kU18⟩
              obtain ⟨pA, cA, rfl⟩ := OwnI.form oA
              have cU18 : Below W5.heap.size W5 U18 := cU17.trans (kU18.mono cU17.size)
              have yU18 := kU18.size
              replace nv := nv.below kU18
              have fA : ∀ z ∈ FA, W5.heap.size ≤ z := fun z hz => by have := hA z hz; have := cU17.size; omega
              have lA := OwnI.lt oA
              have nA : ∀ z ∈ FA, z ≠ U11.heap.size := fun z hz => by have := hA z hz; omega
              refine hK.out _ _ (HKX.out _ cU18) (fun hHeld => ?_)
              clear hK K
              (try simp only [Act.put, List.setIfInBounds_toArray, List.set_cons_zero, List.set_cons_succ])
              refine oneE (i := 11) rfl (by kernel_rfl) (by kernel_rfl) (fun K hK => ?_)
              refine wp_app (.tmp 42) (.tmp 46) 23 (by rfl) _ _ (by rfl) (by rfl) _ (onto_none (OwnI.empty U18 _) (SE.out U18 cU18) (by omega) _) ?_
              rintro v' U19 ⟨FB, oB, hB, kU19⟩
              obtain ⟨pB, cB, rfl⟩ := OwnI.form oB
              have cU19 : Below W5.heap.size W5 U19 := cU18.trans (kU19.mono cU18.size)
              have yU19 := kU19.size
              replace oA := OwnI.below oA kU19
              replace nv := nv.below kU19
              have fB : ∀ z ∈ FB, W5.heap.size ≤ z := fun z hz => by have := hB z hz; have := cU18.size; omega
              have lB := OwnI.lt oB
              have dj : ∀ z ∈ FA, z ∉ FB := fun z h1 h2 => by have := lA z h1; have := hB z h2; omega
              have nB : ∀ z ∈ FB, z ≠ U11.heap.size := fun z hz => by have := hB z hz; omega
              refine hK.out _ _ (HKX.out _ cU19) (fun hHeld => ?_)
              clear hK K
              (try simp only [Act.put, List.setIfInBounds_toArray, List.set_cons_zero, List.set_cons_succ])
              (refine takeE (i := 12) (v := ?_) [] rfl (by kernel_rfl) (by kernel_rfl) (fun _ _ _ h => h) (Or.inl ⟨by kernel_rfl, ?_⟩) (by assumption) ?_; rotate_left; (focus (intro w hSw; (try dsimp only at hSw); go_simp; first | done | with_reducible rfl | fail "takeE")); (try simp only [Act.put, List.setIfInBounds_toArray, List.set_cons_zero, List.set_cons_succ]))
              refine lastE rfl (by kernel_rfl) (by kernel_rfl) (fun K hK => ?_)
              obtain ⟨v0, v1, v2, v3, v4⟩ := nv
              go_simp
              refine hK.out _ _ ?_
              clear hK K
              refine doneE (by kernel_rfl) ?_ _
              go_wp2_with fail
              go_meet
              exact ⟨_, rfl, VarW.mk ⟨v0, v1, v2, v3, v4⟩ oA oB fA fB nA nB dj bv, (cU19.setCell (by show W5.heap.size ≤ _; omega) _).setCell (by show W5.heap.size ≤ _; omega) _⟩
          · go_simp
            refine madeVar (K := K) ?_
            intro U20 kU20 nv
            have cU20 : Below W5.heap.size W5 U20 := cU1.trans (kU20.mono cU1.size)
            have yU20 := kU20.size
            have bv : W5.heap.size ≤ U1.heap.size := cU1.size
            have sv := nv.1
            refine hK.out _ _ (HKX.out _ cU20) (fun hHeld => ?_)
            clear hK K
            (try simp only [Act.put, List.setIfInBounds_toArray, List.set_cons_zero, List.set_cons_succ])
            refine upE (rs := [5, 6]) (by kernel_rfl) (by simp) (AllE'.cons (i := 5) rfl (by kernel_rfl) (fun K hK => ?_) (AllE'.cons (i := 6) rfl (by kernel_rfl) (fun K hK => ?_) AllE'.nil))
            · refine wp_app (.tmp 36) (.tmp 40) 23 (by rfl) _ _ (by rfl) (by rfl) _ (onto_none (OwnI.empty U20 _) (SN.out U20 cU20) (by omega) _) ?_
              rintro v' U21 ⟨FA, oA, hA, kU21⟩
              obtain ⟨pA, cA, rfl⟩ := OwnI.form oA
              have cU21 : Below W5.heap.size W5 U21 := cU20.trans (kU21.mono cU20.size)
              have yU21 := kU21.size
              replace nv := nv.below kU21
              have fA : ∀ z ∈ FA, W5.heap.size ≤ z := fun z hz => by have := hA z hz; have := cU20.size; omega
              have lA := OwnI.lt oA
              have nA : ∀ z ∈ FA, z ≠ U1.heap.size := fun z hz => by have := hA z hz; omega
              refine hK.out _ _ (HKX.out _ cU21) (fun hHeld => ?_)
              clear hK K
              (try simp only [Act.put, List.setIfInBounds_toArray, List.set_cons_zero, List.set_cons_succ])
              refine oneE (i := 6) rfl (by kernel_rfl) (by kernel_rfl) (fun K hK => ?_)
              go_simp
              refine made (K := K) intB_spec 0 (by rfl) (by kernel_rfl) ?_
              intro U22 k0 z0 s0
              have kU22 : Below U21.heap.size U21 U22 := k0.of0
              clear k0 s0 z0
              have cU22 : Below W5.heap.size W5 U22 := cU21.trans (kU22.mono cU21.size)
              have yU22 := kU22.size
              replace oA := OwnI.below oA kU22
              replace nv := nv.below kU22
              refine hK.out _ _ (HKX.out _ cU22) (fun hHeld => ?_)
              clear hK K
              (try simp only [Act.put, List.setIfInBounds_toArray, List.set_cons_zero, List.set_cons_succ])
              refine oneE (i := 11) rfl (by kernel_rfl) (by kernel_rfl) (fun K hK => ?_)
              refine wp_app (.tmp 42) (.tmp 46) 23 (by rfl) _ _ (by rfl) (by rfl) _ (onto_none (OwnI.empty U22 _) (SE.out U22 cU22) (by omega) _) ?_
              rintro v' U23 ⟨FB, oB, hB, kU23⟩
              obtain ⟨pB, cB, rfl⟩ := OwnI.form oB
              have cU23 : Below W5.heap.size W5 U23 := cU22.trans (kU23.mono cU22.size)
              have yU23 := kU23.size
              replace oA := OwnI.below oA kU23
              replace nv := nv.below kU23
              have fB : ∀ z ∈ FB, W5.heap.size ≤ z := fun z hz => by have := hB z hz; have := cU22.size; omega
              have lB := OwnI.lt oB
              have dj : ∀ z ∈ FA, z ∉ FB := fun z h1 h2 => by have := lA z h1; have := hB z h2; omega
              have nB : ∀ z ∈ FB, z ≠ U1.heap.size := fun z hz => by have := hB z hz; omega
              refine hK.out _ _ (HKX.out _ cU23) (fun hHeld => ?_)
              clear hK K
              (try simp only [Act.put, List.setIfInBounds_toArray, List.set_cons_zero, List.set_cons_succ])
              (refine takeE (i := 12) (v := ?_) [] rfl (by kernel_rfl) (by kernel_rfl) (fun _ _ _ h => h) (Or.inl ⟨by kernel_rfl, ?_⟩) (by assumption) ?_; rotate_left; (focus (intro w hSw; (try dsimp only at hSw); go_simp; first | done | with_reducible rfl | fail "takeE")); (try simp only [Act.put, List.setIfInBounds_toArray, List.set_cons_zero, List.set_cons_succ]))
              refine lastE rfl (by kernel_rfl) (by kernel_rfl) (fun K hK => ?_)
              obtain ⟨v0, v1, v2, v3, v4⟩ := nv
              go_simp
              refine hK.out _ _ ?_
              clear hK K
              refine doneE (by kernel_rfl) ?_ _
              go_wp2_with fail
              go_meet
              exact ⟨_, rfl, VarW.mk ⟨v0, v1, v2, v3, v4⟩ oA oB fA fB nA nB dj bv, (cU23.setCell (by show W5.heap.size ≤ _; omega) _).setCell (by show W5.heap.size ≤ _; omega) _⟩
            · go_simp
              refine made (K := K) intB_spec 0 (by rfl) (by kernel_rfl) ?_
              intro U24 k0 z0 s0
              have kU24 : Below U20.heap.size U20 U24 := k0.of0
              clear k0 s0 z0
              have cU24 : Below W5.heap.size W5 U24 := cU20.trans (kU24.mono cU20.size)
              have yU24 := kU24.size
              replace nv := nv.below kU24
              refine hK.out _ _ (HKX.out _ cU24) (fun hHeld => ?_)
              clear hK K
              (try simp only [Act.put, List.setIfInBounds_toArray, List.set_cons_zero, List.set_cons_succ])
              refine oneE (i := 5) rfl (by kernel_rfl) (by kernel_rfl) (fun K hK => ?_)
              refine wp_app (.tmp 36) (.tmp 40) 23 (by rfl) _ _ (by rfl) (by rfl) _ (onto_none (OwnI.empty U24 _) (SN.out U24 cU24) (by omega) _) ?_
              rintro v' U25 ⟨FA, oA, hA, kU25⟩
              obtain ⟨pA, cA, rfl⟩ := OwnI.form oA
              have cU25 : Below W5.heap.size W5 U25 := cU24.trans (kU25.mono cU24.size)
              have yU25 := kU25.size
              replace nv := nv.below kU25
              have fA : ∀ z ∈ FA, W5.heap.size ≤ z := fun z hz => by have := hA z hz; have := cU24.size; omega
              have lA := OwnI.lt oA
              have nA : ∀ z ∈ FA, z ≠ U1.heap.size := fun z hz => by have := hA z hz; omega
              refine hK.out _ _ (HKX.out _ cU25) (fun hHeld => ?_)
              clear hK K
              (try simp only [Act.put, List.setIfInBounds_toArray, List.set_cons_zero, List.set_cons_succ])
              refine oneE (i := 11) rfl (by kernel_rfl) (by kernel_rfl) (fun K hK => ?_)
              refine wp_app (.tmp 42) (.tmp 46) 23 (by rfl) _ _ (by rfl) (by rfl) _ (onto_none (OwnI.empty U25 _) (SE.out U25 cU25) (by omega) _) ?_
              rintro v' U26 ⟨FB, oB, hB, kU26⟩
              obtain ⟨pB, cB, rfl⟩ := OwnI.form oB
              have cU26 : Below W5.heap.size W5 U26 := cU25.trans (kU26.mono cU25.size)
              have yU26 := kU26.size
              replace oA := OwnI.below oA kU26
              replace nv := nv.below kU26
              have fB : ∀ z ∈ FB, W5.heap.size ≤ z := fun z hz => by have := hB z hz; have := cU25.size; omega
              have lB := OwnI.lt oB
              have dj : ∀ z ∈ FA, z ∉ FB := fun z h1 h2 => by have := lA z h1; have := hB z h2; omega
              have nB : ∀ z ∈ FB, z ≠ U1.heap.size := fun z hz => by have := hB z hz; omega
              refine hK.out _ _ (HKX.out _ cU26) (fun hHeld => ?_)
              clear hK K
              (try simp only [Act.put, List.setIfInBounds_toArray, List.set_cons_zero, List.set_cons_succ])
              (refine takeE (i := 12) (v := ?_) [] rfl (by kernel_rfl) (by kernel_rfl) (fun _ _ _ h => h) (Or.inl ⟨by kernel_rfl, ?_⟩) (by assumption) ?_; rotate_left; (focus (intro w hSw; (try dsimp only at hSw); go_simp; first | done | with_reducible rfl | fail "takeE")); (try simp only [Act.put, List.setIfInBounds_toArray, List.set_cons_zero, List.set_cons_succ]))
              refine lastE rfl (by kernel_rfl) (by kernel_rfl) (fun K hK => ?_)
              obtain ⟨v0, v1, v2, v3, v4⟩ := nv
              go_simp
              refine hK.out _ _ ?_
              clear hK K
              refine doneE (by kernel_rfl) ?_ _
              go_wp2_with fail
              go_meet
              exact ⟨_, rfl, VarW.mk ⟨v0, v1, v2, v3, v4⟩ oA oB fA fB nA nB dj bv, (cU26.setCell (by show W5.heap.size ≤ _; omega) _).setCell (by show W5.heap.size ≤ _; omega) _⟩
        · go_simp
          refine made (K := K) intB_spec 0 (by rfl) (by kernel_rfl) ?_
          intro U27 k0 z0 s0
          have kU27 : Below W0.heap.size W0 U27 := k0.of0
          clear k0 s0 z0
          have cU27 : Below W5.heap.size W5 U27 := cW0.trans (kU27.mono cW0.size)
          have yU27 := kU27.size
          refine hK.out _ _ (HKX.out _ cU27) (fun hHeld => ?_)
          clear hK K
          (try simp only [Act.put, List.setIfInBounds_toArray, List.set_cons_zero, List.set_cons_succ])
          refine upE (rs := [0, 13]) (by kernel_rfl) (by simp) (AllE'.cons (i := 0) rfl (by kernel_rfl) (fun K hK => ?_) (AllE'.cons (i := 13) rfl (by kernel_rfl) (fun K hK => ?_) AllE'.nil))
          · go_simp
            refine made (K := K) intB_spec 0 (by rfl) (by kernel_rfl) ?_
            intro U28 k0 z0 s0
            have kU28 : Below U27.heap.size U27 U28 := k0.of0
            clear k0 s0 z0
            have cU28 : Below W5.heap.size W5 U28 := cU27.trans (kU28.mono cU27.size)
            have yU28 := kU28.size
            refine hK.out _ _ (HKX.out _ cU28) (fun hHeld => ?_)
            clear hK K
            (try simp only [Act.put, List.setIfInBounds_toArray, List.set_cons_zero, List.set_cons_succ])
            refine upE (rs := [5, 13]) (by kernel_rfl) (by simp) (AllE'.cons (i := 5) rfl (by kernel_rfl) (fun K hK => ?_) (AllE'.cons (i := 13) rfl (by kernel_rfl) (fun K hK => ?_) AllE'.nil))
            · refine wp_app (.tmp 36) (.tmp 40) 23 (by rfl) _ _ (by rfl) (by rfl) _ (onto_none (OwnI.empty U28 _) (SN.out U28 cU28) (by omega) _) ?_
              rintro v' U29 ⟨FA, oA, hA, kU29⟩
              obtain ⟨pA, cA, rfl⟩ := OwnI.form oA
              have cU29 : Below W5.heap.size W5 U29 := cU28.trans (kU29.mono cU28.size)
              have yU29 := kU29.size
              have fA : ∀ z ∈ FA, W5.heap.size ≤ z := fun z hz => by have := hA z hz; have := cU28.size; omega
              have lA := OwnI.lt oA
              refine hK.out _ _ (HKX.out _ cU29) (fun hHeld => ?_)
              clear hK K
              (try simp only [Act.put, List.setIfInBounds_toArray, List.set_cons_zero, List.set_cons_succ])
              refine upE (rs := [11, 13]) (by kernel_rfl) (by simp) (AllE'.cons (i := 11) rfl (by kernel_rfl) (fun K hK => ?_) (AllE'.cons (i := 13) rfl (by kernel_rfl) (fun K hK => ?_) AllE'.nil))
              · refine wp_app (.tmp 42) (.tmp 46) 23 (by rfl) _ _ (by rfl) (by rfl) _ (onto_none (OwnI.empty U29 _) (SE.out U29 cU29) (by omega) _) ?_
                rintro v' U30 ⟨FB, oB, hB, kU30⟩
                obtain ⟨pB, cB, rfl⟩ := OwnI.form oB
                have cU30 : Below W5.heap.size W5 U30 := cU29.trans (kU30.mono cU29.size)
                have yU30 := kU30.size
                replace oA := OwnI.below oA kU30
                have fB : ∀ z ∈ FB, W5.heap.size ≤ z := fun z hz => by have := hB z hz; have := cU29.size; omega
                have lB := OwnI.lt oB
                have dj : ∀ z ∈ FA, z ∉ FB := fun z h1 h2 => by have := lA z h1; have := hB z h2; omega
                refine hK.out _ _ (HKX.out _ cU30) (fun hHeld => ?_)
                clear hK K
                (try simp only [Act.put, List.setIfInBounds_toArray, List.set_cons_zero, List.set_cons_succ])
                (refine takeE (i := 12) (v := ?_) [] rfl (by kernel_rfl) (by kernel_rfl) (fun _ _ _ h => h) (Or.inl ⟨by kernel_rfl, ?_⟩) (by assumption) ?_; rotate_left; (focus (intro w hSw; (try dsimp only at hSw); go_simp; first | done | with_reducible rfl | fail "takeE")); (try simp only [Act.put, List.setIfInBounds_toArray, List.set_cons_zero, List.set_cons_succ]))
                refine oneE (i := 13) rfl (by kernel_rfl) (by kernel_rfl) (fun K hK => ?_)
                go_simp
                refine madeVar (K := K) ?_
                intro U31 kU31 nv
                have cU31 : Below W5.heap.size W5 U31 := cU30.trans (kU31.mono cU30.size)
                have yU31 := kU31.size
                replace oA := OwnI.below oA kU31
                replace oB := OwnI.below oB kU31
                have bv : W5.heap.size ≤ U30.heap.size := cU30.size
                have sv := nv.1
                have nA : ∀ z ∈ FA, z ≠ U30.heap.size := fun z hz => by have := lA z hz; omega
                have nB : ∀ z ∈ FB, z ≠ U30.heap.size := fun z hz => by have := lB z hz; omega
                refine hK.out _ _ (HKX.out _ cU31) (fun hHeld => ?_)
                clear hK K
                (try simp only [Act.put, List.setIfInBounds_toArray, List.set_cons_zero, List.set_cons_succ])
                refine lastE rfl (by kernel_rfl) (by kernel_rfl) (fun K hK => ?_)
                obtain ⟨v0, v1, v2, v3, v4⟩ := nv
                go_simp
                refine hK.out _ _ ?_
                clear hK K
                refine doneE (by kernel_rfl) ?_ _
                go_wp2_with fail
                go_meet
                exact ⟨_, rfl, VarW.mk ⟨v0, v1, v2, v3, v4⟩ oA oB fA fB nA nB dj bv, (cU31.setCell (by show W5.heap.size ≤ _; omega) _).setCell (by show W5.heap.size ≤ _; omega) _⟩
              · go_simp
                refine madeVar (K := K) ?_
                intro U32 kU32 nv
                have cU32 : Below W5.heap.size W5 U32 := cU29.trans (kU32.mono cU29.size)
                have yU32 := kU32.size
                replace oA := OwnI.below oA kU32
                have bv : W5.heap.size ≤ U29.heap.size := cU29.size
                have sv := nv.1
                have nA : ∀ z ∈ FA, z ≠ U29.heap.size := fun z hz => by have := lA z hz; omega
                refine hK.out _ _ (HKX.out _ cU32) (fun hHeld => ?_)
                clear hK K
                (try simp only [Act.put, List.setIfInBounds_toArray, List.set_cons_zero, List.set_cons_succ])
                refine oneE (i := 11) rfl (by kernel_rfl) (by kernel_rfl) (fun K hK => ?_)
                refine wp_app (.tmp 42) (.tmp 46) 23 (by rfl) _ _ (by rfl) (by rfl) _ (onto_none (OwnI.empty U32 _) (SE.out U32 cU32) (by omega) _) ?_
                rintro v' U33 ⟨FB, oB, hB, kU33⟩
                obtain ⟨pB, cB, rfl⟩ := OwnI.form oB
                have cU33 : Below W5.heap.size W5 U33 := cU32.trans (kU33.mono cU32.size)
                have yU33 := kU33.size
                replace oA := OwnI.below oA kU33
                replace nv := nv.below kU33
                have fB : ∀ z ∈ FB, W5.heap.size ≤ z := fun z hz => by have := hB z hz; have := cU32.size; omega
                have lB := OwnI.lt oB
                have dj : ∀ z ∈ FA, z ∉ FB := fun z h1 h2 => by have := lA z h1; have := hB z h2; omega
                have nB : ∀ z ∈ FB, z ≠ U29.heap.size := fun z hz => by have := hB z hz; omega
                refine hK.out _ _ (HKX.out _ cU33) (fun hHeld => ?_)
                clear hK K
                (try simp only [Act.put, List.setIfInBounds_toArray, List.set_cons_zero, List.set_cons_succ])
                (refine takeE (i := 12) (v := ?_) [] rfl (by kernel_rfl) (by kernel_rfl) (fun _ _ _ h => h) (Or.inl ⟨by kernel_rfl, ?_⟩) (by assumption) ?_; rotate_left; (focus (intro w hSw; (try dsimp only at hSw); go_simp; first | done | with_reducible rfl | fail "takeE")); (try simp only [Act.put, List.setIfInBounds_toArray, List.set_cons_zero, List.set_cons_succ]))
                refine lastE rfl (by kernel_rfl) (by kernel_rfl) (fun K hK => ?_)
                obtain ⟨v0, v1, v2, v3, v4⟩ := nv
                go_simp
                refine hK.out _ _ ?_
                clear hK K
                refine doneE (by kernel_rfl) ?_ _
                go_wp2_with fail
                go_meet
                exact ⟨_, rfl, VarW.mk ⟨v0, v1, v2, v3, v4⟩ oA oB fA fB nA nB dj bv, (cU33.setCell (by show W5.heap.size ≤ _; omega) _).setCell (by show W5.heap.size ≤ _; omega) _⟩
            · go_simp
              refine madeVar (K := K) ?_
              intro U34 kU34 nv
              have cU34 : Below W5.heap.size W5 U34 := cU28.trans (kU34.mono cU28.size)
              have yU34 := kU34.size
              have bv : W5.heap.size ≤ U28.heap.size := cU28.size
              have sv := nv.1
              refine hK.out _ _ (HKX.out _ cU34) (fun hHeld => ?_)
              clear hK K
              (try simp only [Act.put, List.setIfInBounds_toArray, List.set_cons_zero, List.set_cons_succ])
              refine oneE (i := 5) rfl (by kernel_rfl) (by kernel_rfl) (fun K hK => ?_)
              refine wp_app (.tmp 36) (.tmp 40) 23 (by rfl) _ _ (by rfl) (by rfl) _ (onto_none (OwnI.empty U34 _) (SN.out U34 cU34) (by omega) _) ?_
              rintro v' U35 ⟨FA, oA, hA, kU35⟩
              obtain ⟨pA, cA, rfl⟩ := OwnI.form oA
              have cU35 : Below W5.heap.size W5 U35 := cU34.trans (kU35.mono cU34.size)
              have yU35 := kU35.size
              replace nv := nv.below kU35
              have fA : ∀ z ∈ FA, W5.heap.size ≤ z := fun z hz => by have := hA z hz; have := cU34.size; omega
              have lA := OwnI.lt oA
              have nA : ∀ z ∈ FA, z ≠ U28.heap.size := fun z hz => by have := hA z hz; omega
              refine hK.out _ _ (HKX.out _ cU35) (fun hHeld => ?_)
              clear hK K
              (try simp only [Act.put, List.setIfInBounds_toArray, List.set_cons_zero, List.set_cons_succ])
              refine oneE (i := 11) rfl (by kernel_rfl) (by kernel_rfl) (fun K hK => ?_)
              refine wp_app (.tmp 42) (.tmp 46) 23 (by rfl) _ _ (by rfl) (by rfl) _ (onto_none (OwnI.empty U35 _) (SE.out U35 cU35) (by omega) _) ?_
              rintro v' U36 ⟨FB, oB, hB, kU36⟩
              obtain ⟨pB, cB, rfl⟩ := OwnI.form oB
              have cU36 : Below W5.heap.size W5 U36 := cU35.trans (kU36.mono cU35.size)
              have yU36 := kU36.size
              replace oA := OwnI.below oA kU36
              replace nv := nv.below kU36
              have fB : ∀ z ∈ FB, W5.heap.size ≤ z := fun z hz => by have := hB z hz; have := cU35.size; omega
              have lB := OwnI.lt oB
              have dj : ∀ z ∈ FA, z ∉ FB := fun z h1 h2 => by have := lA z h1; have := hB z h2; omega
              have nB : ∀ z ∈ FB, z ≠ U28.heap.size := fun z hz => by have := hB z hz; omega
              refine hK.out _ _ (HKX.out _ cU36) (fun hHeld => ?_)
              clear hK K
              (try simp only [Act.put, List.setIfInBounds_toArray, List.set_cons_zero, List.set_cons_succ])
              (refine takeE (i := 12) (v := ?_) [] rfl (by kernel_rfl) (by kernel_rfl) (fun _ _ _ h => h) (Or.inl ⟨by kernel_rfl, ?_⟩) (by assumption) ?_; rotate_left; (focus (intro w hSw; (try dsimp only at hSw); go_simp; first | done | with_reducible rfl | fail "takeE")); (try simp only [Act.put, List.setIfInBounds_toArray, List.set_cons_zero, List.set_cons_succ]))
              refine lastE rfl (by kernel_rfl) (by kernel_rfl) (fun K hK => ?_)
              obtain ⟨v0, v1, v2, v3, v4⟩ := nv
              go_simp
              refine hK.out _ _ ?_
              clear hK K
              refine doneE (by kernel_rfl) ?_ _
              go_wp2_with fail
              go_meet
              exact ⟨_, rfl, VarW.mk ⟨v0, v1, v2, v3, v4⟩ oA oB fA fB nA nB dj bv, (cU36.setCell (by show W5.heap.size ≤ _; omega) _).setCell (by show W5.heap.size ≤ _; omega) _⟩
          · go_simp
            refine madeVar (K := K) ?_
            intro U37 kU37 nv
            have cU37 : Below W5.heap.size W5 U37 := cU27.trans (kU37.mono cU27.size)
            have yU37 := kU37.size
            have bv : W5.heap.size ≤ U27.heap.size := cU27.size
            have sv := nv.1
            refine hK.out _ _ (HKX.out _ cU37) (fun hHeld => ?_)
            clear hK K
            (try simp only [Act.put, List.setIfInBounds_toArray, List.set_cons_zero, List.set_cons_succ])
            refine oneE (i := 0) rfl (by kernel_rfl) (by kernel_rfl) (fun K hK => ?_)
            go_simp
            refine made (K := K) intB_spec 0 (by rfl) (by kernel_rfl) ?_
            intro U38 k0 z0 s0
            have kU38 : Below U37.heap.size U37 U38 := k0.of0
            clear k0 s0 z0
            have cU38 : Below W5.heap.size W5 U38 := cU37.trans (kU38.mono cU37.size)
            have yU38 := kU38.size
            replace nv := nv.below kU38
            refine hK.out _ _ (HKX.out _ cU38) (fun hHeld => ?_)
            clear hK K
            (try simp only [Act.put, List.setIfInBounds_toArray, List.set_cons_zero, List.set_cons_succ])
            refine oneE (i := 5) rfl (by kernel_rfl) (by kernel_rfl) (fun K hK => ?_)
            refine wp_app (.tmp 36) (.tmp 40) 23 (by rfl) _ _ (by rfl) (by rfl) _ (onto_none (OwnI.empty U38 _) (SN.out U38 cU38) (by omega) _) ?_
            rintro v' U39 ⟨FA, oA, hA, kU39⟩
            obtain ⟨pA, cA, rfl⟩ := OwnI.form oA
            have cU39 : Below W5.heap.size W5 U39 := cU38.trans (kU39.mono cU38.size)
            have yU39 := kU39.size
            replace nv := nv.below kU39
            have fA : ∀ z ∈ FA, W5.heap.size ≤ z := fun z hz => by have := hA z hz; have := cU38.size; omega
            have lA := OwnI.lt oA
            have nA : ∀ z ∈ FA, z ≠ U27.heap.size := fun z hz => by have := hA z hz; omega
            refine hK.out _ _ (HKX.out _ cU39) (fun hHeld => ?_)
            clear hK K
            (try simp only [Act.put, List.setIfInBounds_toArray, List.set_cons_zero, List.set_cons_succ])
            refine oneE (i := 11) rfl (by kernel_rfl) (by kernel_rfl) (fun K hK => ?_)
            refine wp_app (.tmp 42) (.tmp 46) 23 (by rfl) _ _ (by rfl) (by rfl) _ (onto_none (OwnI.empty U39 _) (SE.out U39 cU39) (by omega) _) ?_
            rintro v' U40 ⟨FB, oB, hB, kU40⟩
            obtain ⟨pB, cB, rfl⟩ := OwnI.form oB
            have cU40 : Below W5.heap.size W5 U40 := cU39.trans (kU40.mono cU39.size)
            have yU40 := kU40.size
            replace oA := OwnI.below oA kU40
            replace nv := nv.below kU40
            have fB : ∀ z ∈ FB, W5.heap.size ≤ z := fun z hz => by have := hB z hz; have := cU39.size; omega
            have lB := OwnI.lt oB
            have dj : ∀ z ∈ FA, z ∉ FB := fun z h1 h2 => by have := lA z h1; have := hB z h2; omega
            have nB : ∀ z ∈ FB, z ≠ U27.heap.size := fun z hz => by have := hB z hz; omega
            refine hK.out _ _ (HKX.out _ cU40) (fun hHeld => ?_)
            clear hK K
            (try simp only [Act.put, List.setIfInBounds_toArray, List.set_cons_zero, List.set_cons_succ])
            (refine takeE (i := 12) (v := ?_) [] rfl (by kernel_rfl) (by kernel_rfl) (fun _ _ _ h => h) (Or.inl ⟨by kernel_rfl, ?_⟩) (by assumption) ?_; rotate_left; (focus (intro w hSw; (try dsimp only at hSw); go_simp; first | done | with_reducible rfl | fail "takeE")); (try simp only [Act.put, List.setIfInBounds_toArray, List.set_cons_zero, List.set_cons_succ]))
            refine lastE rfl (by kernel_rfl) (by kernel_rfl) (fun K hK => ?_)
            obtain ⟨v0, v1, v2, v3, v4⟩ := nv
            go_simp
            refine hK.out _ _ ?_
            clear hK K
            refine doneE (by kernel_rfl) ?_ _
            go_wp2_with fail
            go_meet
            exact ⟨_, rfl, VarW.mk ⟨v0, v1, v2, v3, v4⟩ oA oB fA fB nA nB dj bv, (cU40.setCell (by show W5.heap.size ≤ _; omega) _).setCell (by show W5.heap.size ≤ _; omega) _⟩
        · go_simp
          refine madeVar (K := K) ?_
          intro U41 kU41 nv
          have cU41 : Below W5.heap.size W5 U41 := cW0.trans (kU41.mono cW0.size)
          have yU41 := kU41.size
          have bv : W5.heap.size ≤ W0.heap.size := cW0.size
          have sv := nv.1
          refine hK.out _ _ (HKX.out _ cU41) (fun hHeld => ?_)
          clear hK K
          (try simp only [Act.put, List.setIfInBounds_toArray, List.set_cons_zero, List.set_cons_succ])
          refine upE (rs := [0, 6]) (by kernel_rfl) (by simp) (AllE'.cons (i := 0) rfl (by kernel_rfl) (fun K hK => ?_) (AllE'.cons (i := 6) rfl (by kernel_rfl) (fun K hK => ?_) AllE'.nil))
          · go_simp
            refine made (K := K) intB_spec 0 (by rfl) (by kernel_rfl) ?_
            intro U42 k0 z0 s0
            have kU42 : Below U41.heap.size U41 U42 := k0.of0
            clear k0 s0 z0
            have cU42 : Below W5.heap.size W5 U42 := cU41.trans (kU42.mono cU41.size)
            have yU42 := kU42.size
            replace nv := nv.below kU42
            refine hK.out _ _ (HKX.out _ cU42) (fun hHeld => ?_)
            clear hK K
            (try simp only [Act.put, List.setIfInBounds_toArray, List.set_cons_zero, List.set_cons_succ])
            refine upE (rs := [5, 6]) (by kernel_rfl) (by simp) (AllE'.cons (i := 5) rfl (by kernel_rfl) (fun K hK => ?_) (AllE'.cons (i := 6) rfl (by kernel_rfl) (fun K hK => ?_) AllE'.nil))
            · refine wp_app (.tmp 36) (.tmp 40) 23 (by rfl) _ _ (by rfl) (by rfl) _ (onto_none (OwnI.empty U42 _) (SN.out U42 cU42) (by omega) _) ?_
              rintro v' U43 ⟨FA, oA, hA, kU43⟩
              obtain ⟨pA, cA, rfl⟩ := OwnI.form oA
              have cU43 : Below W5.heap.size W5 U43 := cU42.trans (kU43.mono cU42.size)
              have yU43 := kU43.size
              replace nv := nv.below kU43
              have fA : ∀ z ∈ FA, W5.heap.size ≤ z := fun z hz => by have := hA z hz; have := cU42.size; omega
              have lA := OwnI.lt oA
              have nA : ∀ z ∈ FA, z ≠ W0.heap.size := fun z hz => by have := hA z hz; omega
              refine hK.out _ _ (HKX.out _ cU43) (fun hHeld => ?_)
              clear hK K
              (try simp only [Act.put, List.setIfInBounds_toArray, List.set_cons_zero, List.set_cons_succ])
              refine oneE (i := 6) rfl (by kernel_rfl) (by kernel_rfl) (fun K hK => ?_)
              go_simp
              refine made (K := K) intB_spec 0 (by rfl) (by kernel_rfl) ?_
              intro U44 k0 z0 s0
              have kU44 : Below U43.heap.size U43 U44 := k0.of0
              clear k0 s0 z0
              have cU44 : Below W5.heap.size W5 U44 := cU43.trans (kU44.mono cU43.size)
              have yU44 := kU44.size
              replace oA := OwnI.below oA kU44
              replace nv := nv.below kU44
              refine hK.out _ _ (HKX.out _ cU44) (fun hHeld => ?_)
              clear hK K
              (try simp only [Act.put, List.setIfInBounds_toArray, List.set_cons_zero, List.set_cons_succ])
              refine oneE (i := 11) rfl (by kernel_rfl) (by kernel_rfl) (fun K hK => ?_)
              refine wp_app (.tmp 42) (.tmp 46) 23 (by rfl) _ _ (by rfl) (by rfl) _ (onto_none (OwnI.empty U44 _) (SE.out U44 cU44) (by omega) _) ?_
              rintro v' U45 ⟨FB, oB, hB, kU45⟩
              obtain ⟨pB, cB, rfl⟩ := OwnI.form oB
              have cU45 : Below W5.heap.size W5 U45 := cU44.trans (kU45.mono cU44.size)
              have yU45 := kU45.size
              replace oA := OwnI.below oA kU45
              replace nv := nv.below kU45
              have fB : ∀ z ∈ FB, W5.heap.size ≤ z := fun z hz => by have := hB z hz; have := cU44.size; omega
              have lB := OwnI.lt oB
              have dj : ∀ z ∈ FA, z ∉ FB := fun z h1 h2 => by have := lA z h1; have := hB z h2; omega
              have nB : ∀ z ∈ FB, z ≠ W0.heap.size := fun z hz => by have := hB z hz; omega
              refine hK.out _ _ (HKX.out _ cU45) (fun hHeld => ?_)
              clear hK K
              (try simp only [Act.put, List.setIfInBounds_toArray, List.set_cons_zero, List.set_cons_succ])
              (refine takeE (i := 12) (v := ?_) [] rfl (by kernel_rfl) (by kernel_rfl) (fun _ _ _ h => h) (Or.inl ⟨by kernel_rfl, ?_⟩) (by assumption) ?_; rotate_left; (focus (intro w hSw; (try dsimp only at hSw); go_simp; first | done | with_reducible rfl | fail "takeE")); (try simp only [Act.put, List.setIfInBounds_toArray, List.set_cons_zero, List.set_cons_succ]))
              refine lastE rfl (by kernel_rfl) (by kernel_rfl) (fun K hK => ?_)
              obtain ⟨v0, v1, v2, v3, v4⟩ := nv
              go_simp
              refine hK.out _ _ ?_
              clear hK K
              refine doneE (by kernel_rfl) ?_ _
              go_wp2_with fail
              go_meet
              exact ⟨_, rfl, VarW.mk ⟨v0, v1, v2, v3, v4⟩ oA oB fA fB nA nB dj bv, (cU45.setCell (by show W5.heap.size ≤ _; omega) _).setCell (by show W5.heap.size ≤ _; omega) _⟩
            · go_simp
              refine made (K := K) intB_spec 0 (by rfl) (by kernel_rfl) ?_
              intro U46 k0 z0 s0
              have kU46 : Below U42.heap.size U42 U46 := k0.of0
              clear k0 s0 z0
              have cU46 : Below W5.heap.size W5 U46 := cU42.trans (kU46.mono cU42.size)
              have yU46 := kU46.size
              replace nv := nv.below kU46
              refine hK.out _ _ (HKX.out _ cU46) (fun hHeld => ?_)
              clear hK K
              (try simp only [Act.put, List.setIfInBounds_toArray, List.set_cons_zero, List.set_cons_succ])
              refine oneE (i := 5) rfl (by kernel_rfl) (by kernel_rfl) (fun K hK => ?_)
              refine wp_app (.tmp 36) (.tmp 40) 23 (by rfl) _ _ (by rfl) (by rfl) _ (onto_none (OwnI.empty U46 _) (SN.out U46 cU46) (by omega) _) ?_
              rintro v' U47 ⟨FA, oA, hA, kU47⟩
              obtain ⟨pA, cA, rfl⟩ := OwnI.form oA
              have cU47 : Below W5.heap.size W5 U47 := cU46.trans (kU47.mono cU46.size)
              have yU47 := kU47.size
              replace nv := nv.below kU47
              have fA : ∀ z ∈ FA, W5.heap.size ≤ z := fun z hz => by have := hA z hz; have := cU46.size; omega
              have lA := OwnI.lt oA
              have nA : ∀ z ∈ FA, z ≠ W0.heap.size := fun z hz => by have := hA z hz; omega
              refine hK.out _ _ (HKX.out _ cU47) (fun hHeld => ?_)
              clear hK K
              (try simp only [Act.put, List.setIfInBounds_toArray, List.set_cons_zero, List.set_cons_succ])
              refine oneE (i := 11) rfl (by kernel_rfl) (by kernel_rfl) (fun K hK => ?_)
              refine wp_app (.tmp 42) (.tmp 46) 23 (by rfl) _ _ (by rfl) (by rfl) _ (onto_none (OwnI.empty U47 _) (SE.out U47 cU47) (by omega) _) ?_
              rintro v' U48 ⟨FB, oB, hB, kU48⟩
              obtain ⟨pB, cB, rfl⟩ := OwnI.form oB
              have cU48 : Below W5.heap.size W5 U48 := cU47.trans (kU48.mono cU47.size)
              have yU48 := kU48.size
              replace oA := OwnI.below oA kU48
              replace nv := nv.below kU48
              have fB : ∀ z ∈ FB, W5.heap.size ≤ z := fun z hz => by have := hB z hz; have := cU47.size; omega
              have lB := OwnI.lt oB
              have dj : ∀ z ∈ FA, z ∉ FB := fun z h1 h2 => by have := lA z h1; have := hB z h2; omega
              have nB : ∀ z ∈ FB, z ≠ W0.heap.size := fun z hz => by have := hB z hz; omega
              refine hK.out _ _ (HKX.out _ cU48) (fun hHeld => ?_)
              clear hK K
              (try simp only [Act.put, List.setIfInBounds_toArray, List.set_cons_zero, List.set_cons_succ])
              (refine takeE (i := 12) (v := ?_) [] rfl (by kernel_rfl) (by kernel_rfl) (fun _ _ _ h => h) (Or.inl ⟨by kernel_rfl, ?_⟩) (by assumption) ?_; rotate_left; (focus (intro w hSw; (try dsimp only at hSw); go_simp; first | done | with_reducible rfl | fail "takeE")); (try simp only [Act.put, List.setIfInBounds_toArray, List.set_cons_zero, List.set_cons_succ]))
              refine lastE rfl (by kernel_rfl) (by kernel_rfl) (fun K hK => ?_)
              obtain ⟨v0, v1, v2, v3, v4⟩ := nv
              go_simp
              refine hK.out _ _ ?_
              clear hK K
              refine doneE (by kernel_rfl) ?_ _
              go_wp2_with fail
              go_meet
              exact ⟨_, rfl, VarW.mk ⟨v0, v1, v2, v3, v4⟩ oA oB fA fB nA nB dj bv, (cU48.setCell (by show W5.heap.size ≤ _; omega) _).setCell (by show W5.heap.size ≤ _; omega) _⟩
          · go_simp
            refine made (K := K) intB_spec 0 (by rfl) (by kernel_rfl) ?_
            intro U49 k0 z0 s0
            have kU49 : Below U41.heap.size U41 U49 := k0.of0
            clear k0 s0 z0
            have cU49 : Below W5.heap.size W5 U49 := cU41.trans (kU49.mono cU41.size)
            have yU49 := kU49.size
            replace nv := nv.below kU49
            refine hK.out _ _ (HKX.out _ cU49) (fun hHeld => ?_)
            clear hK K
            (try simp only [Act.put, List.setIfInBounds_toArray, List.set_cons_zero, List.set_cons_succ])
            refine oneE (i := 0) rfl (by kernel_rfl) (by kernel_rfl) (fun K hK => ?_)
            go_simp
            refine made (K := K) intB_spec 0 (by rfl) (by kernel_rfl) ?_
            intro U50 k0 z0 s0
            have kU50 : Below U49.heap.size U49 U50 := k0.of0
            clear k0 s0 z0
            have cU50 : Below W5.heap.size W5 U50 := cU49.trans (kU50.mono cU49.size)
            have yU50 := kU50.size
            replace nv := nv.below kU50
            refine hK.out _ _ (HKX.out _ cU50) (fun hHeld => ?_)
            clear hK K
            (try simp only [Act.put, List.setIfInBounds_toArray, List.set_cons_zero, List.set_cons_succ])
            refine oneE (i := 5) rfl (by kernel_rfl) (by kernel_rfl) (fun K hK => ?_)
            refine wp_app (.tmp 36) (.tmp 40) 23 (by rfl) _ _ (by rfl) (by rfl) _ (onto_none (OwnI.empty U50 _) (SN.out U50 cU50) (by omega) _) ?_
            rintro v' U51 ⟨FA, oA, hA, kU51⟩
            obtain ⟨pA, cA, rfl⟩ := OwnI.form oA
            have cU51 : Below W5.heap.size W5 U51 := cU50.trans (kU51.mono cU50.size)
            have yU51 := kU51.size
            replace nv := nv.below kU51
            have fA : ∀ z ∈ FA, W5.heap.size ≤ z := fun z hz => by have := hA z hz; have := cU50.size; omega
            have lA := OwnI.lt oA
            have nA : ∀ z ∈ FA, z ≠ W0.heap.size := fun z hz => by have := hA z hz; omega
            refine hK.out _ _ (HKX.out _ cU51) (fun hHeld => ?_)
            clear hK K
            (try simp only [Act.put, List.setIfInBounds_toArray, List.set_cons_zero, List.set_cons_succ])
            refine oneE (i := 11) rfl (by kernel_rfl) (by kernel_rfl) (fun K hK => ?_)
            refine wp_app (.tmp 42) (.tmp 46) 23 (by rfl) _ _ (by rfl) (by rfl) _ (onto_none (OwnI.empty U51 _) (SE.out U51 cU51) (by omega) _) ?_
            rintro v' U52 ⟨FB, oB, hB, kU52⟩
            obtain ⟨pB, cB, rfl⟩ := OwnI.form oB
            have cU52 : Below W5.heap.size W5 U52 := cU51.trans (kU52.mono cU51.size)
            have yU52 := kU52.size
            replace oA := OwnI.below oA kU52
            replace nv := nv.below kU52
            have fB : ∀ z ∈ FB, W5.heap.size ≤ z := fun z hz => by have := hB z hz; have := cU51.size; omega
            have lB := OwnI.lt oB
            have dj : ∀ z ∈ FA, z ∉ FB := fun z h1 h2 => by have := lA z h1; have := hB z h2; omega
            have nB : ∀ z ∈ FB, z ≠ W0.heap.size := fun z hz => by have := hB z hz; omega
            refine hK.out _ _ (HKX.out _ cU52) (fun hHeld => ?_)
            clear hK K
            (try simp only [Act.put, List.setIfInBounds_toArray, List.set_cons_zero, List.set_cons_succ])
            (refine takeE (i := 12) (v := ?_) [] rfl (by kernel_rfl) (by kernel_rfl) (fun _ _ _ h => h) (Or.inl ⟨by kernel_rfl, ?_⟩) (by assumption) ?_; rotate_left; (focus (intro w hSw; (try dsimp only at hSw); go_simp; first | done | with_reducible rfl | fail "takeE")); (try simp only [Act.put, List.setIfInBounds_toArray, List.set_cons_zero, List.set_cons_succ]))
            refine lastE rfl (by kernel_rfl) (by kernel_rfl) (fun K hK => ?_)
            obtain ⟨v0, v1, v2, v3, v4⟩ := nv
            go_simp
            refine hK.out _ _ ?_
            clear hK K
            refine doneE (by kernel_rfl) ?_ _
            go_wp2_with fail
            go_meet
            exact ⟨_, rfl, VarW.mk ⟨v0, v1, v2, v3, v4⟩ oA oB fA fB nA nB dj bv, (cU52.setCell (by show W5.heap.size ≤ _; omega) _).setCell (by show W5.heap.size ≤ _; omega) _⟩
    case rest =>
      obtain ⟨bb, rfl, hvb, hbx⟩ := hcut
      obtain ⟨W9, eW9⟩ : ∃ E, E = wc := ⟨_, rfl⟩
      subst eW9
      have HVA9 := HVA.out.chg (Chg.of_below hbx []) (by simp)
      obtain ⟨pa, ca, qa, da, FA, ⟨a0, a1⟩, ha2, ha3, ha4, ha5⟩ := HVA9
      obtain ⟨pb, cb, qb, db, FB, ⟨b0, b1⟩, hb2, hb3, hb4, hb5⟩ := hvb
      have HAA := Lib.hid ha2
      have HBB := Lib.hid hb2
      have HAC := Lib.hid (And.intro a0 a1)
      have HBC := Lib.hid (And.intro b0 b1)
      have HKW9 := Lib.hid (HKWX.out.trans (Chg.of_below hbx _))
      have HKX9 := Lib.hid (HKX1.out.trans (Chg.of_below hbx []))
      have HD9 := Lib.hid (HDX.out.below hbx)
      have s9 := hbx.size
      clear HVA HKX HA2 HXX HKWX HKX1 HDX SN SE HQ hbx a0 a1 b0 b1
      have HR := Lib.hid (fun (E : World) (hE : Chg [W1.heap.size] W9 E) =>
        let h := HKW9.out.trans hE
        And.intro (And.intro (h.cellOf (b := w.heap.size) (o := 0) (by simp; omega) HRES.out.1.1) (And.intro (h.cellOf (b := w.heap.size) (o := 1) (by simp; omega) HRES.out.1.2.1) (And.intro (h.cellOf (b := w.heap.size + 1) (o := 0) (by simp; omega) HRES.out.1.2.2.1) (h.cellOf (b := w.heap.size + 1) (o := 1) (by simp; omega) HRES.out.1.2.2.2))))
          (And.intro (h.frozenOf (b := w.heap.size) (o := 0) (by simp; omega) (by omega) HRES.out.2.1) (And.intro (h.frozenOf (b := w.heap.size) (o := 1) (by simp; omega) (by omega) HRES.out.2.2.1) (And.intro (h.frozenOf (b := w.heap.size + 1) (o := 0) (by simp; omega) (by omega) HRES.out.2.2.2.1) (h.frozenOf (b := w.heap.size + 1) (o := 1) (by simp; omega) (by omega) HRES.out.2.2.2.2)))))
      have HK := Lib.hid (fun (E : World) (hE : Chg [W1.heap.size, w.heap.size, w.heap.size + 1] W9 E) => And.intro (And.intro (hE.cellOf (b := ba) (o := 0) (by simp; omega) HAC.out.1) (hE.cellOf (b := ba) (o := 1) (by simp; omega) HAC.out.2)) (And.intro (hE.cellOf (b := bb) (o := 0) (by simp; omega) HBC.out.1) (hE.cellOf (b := bb) (o := 1) (by simp; omega) HBC.out.2)))
      have CA := Lib.hid (fun (E : World) (hE : Chg [] W9 E) => l5Wrong_any ya _ E.heap.size W1.heap.size 7011 11 E (HAA.out.chg hE (by simp)).at (Nat.le_refl _) HYA.out (by omega) (HD9.out.chg hE (by simp)) (by omega))
      have kr := Chg.refl [W1.heap.size, w.heap.size, w.heap.size + 1] W9
      go_upto_region 6 with fail
      go_region_held3 (fun w' => (w'.cell? ⟨ba, 0, none⟩ = some (.slice pa ya.ns.length ca) ∧ w'.cell? ⟨ba, 1, none⟩ = some (.slice qa ya.es.length da)) ∧ w'.cell? ⟨bb, 0, none⟩ = some (.slice pb yb.ns.length cb) ∧ w'.cell? ⟨bb, 1, none⟩ = some (.slice qb yb.es.length db))
        (exact HK.out _ (show Chg [W1.heap.size, w.heap.size, w.heap.size + 1] W9 _ by ((repeat (first | with_reducible assumption | with_reducible exact Chg.refl _ _ | refine Chg.setCell ?_ (by simp) _ | refine Chg.alloc ?_ _ | refine Chg.drew ?_)); first | done | fail "chn4")))
        (first
          | (go_at_call 54; refine CW2.out.mono ?_; rintro en u5 ⟨y2, vy2, Fy2, rfl, ⟨hy, hyl, hyn⟩, _, k4⟩; obtain ⟨py2, cy2, qy2, dy2, rfl⟩ := hy.form; have k5 : Chg [W1.heap.size] W9 u5 := HK4.out.trans k4; have s5 := k5.size; have s45 := HK4.out.size; have kk := k5.mono (show ∀ z ∈ [W1.heap.size], z ∈ [W1.heap.size, w.heap.size, w.heap.size + 1] by simp); obtain ⟨⟨r0, r1, r2, r3⟩, r4, r5, r6, r7⟩ := HR.out _ k5; have HY2 := Lib.hid hy; have HYL2 := Lib.hid hyl; have HYN2 := Lib.hid hyn; have HK5 := Lib.hid k5; have HY1 := Lib.hid (HY.out.chg k4 (fun z hz => by have := HYL.out z hz; (try simp at this); simp; omega)); clear hy hyl hyn k4 k5)
          | (go_at_call 54; refine (CA.out _ (Chg.drew (Chg.refl _ _))).mono ?_; rintro en u4 ⟨y1, vy1, Fy1, rfl, ⟨hy, hyl, hyn⟩, dy4, k4⟩; obtain ⟨py1, cy1, qy1, dy1, rfl⟩ := hy.form; have k4' : Chg [W1.heap.size] W9 u4 := (Chg.drew (Chg.refl _ _)).trans k4; have kk := k4'.mono (show ∀ z ∈ [W1.heap.size], z ∈ [W1.heap.size, w.heap.size, w.heap.size + 1] by simp); have HY := Lib.hid hy; have HYL := Lib.hid hyl; have HYN := Lib.hid hyn; have HK4 := Lib.hid k4'; have CW2 := Lib.hid (l5Wrong_any yb _ u4.heap.size W1.heap.size _ 11 u4 (HBB.out.chg k4' (fun z hz => by have := hb3 z hz; simp; omega)).at (Nat.le_refl _) HYB.out (by omega) dy4 (by omega)); clear hy hyl hyn k4 k4' dy4)
          | fail "no arm")
      all_goals
        go_wp2_with fail
        refine bodyPost_ret (v := .tuple #[.agg #[.slice py1 y1.ns.length cy1, .slice qy1 y1.es.length dy1], .agg #[.slice py2 y2.ns.length cy2, .slice qy2 y2.es.length dy2]]) (by simp [results, Try.results15, go_sem, r0, r1, r2, r3]) rfl ?_
        have hs : ∀ E, Chg [w.heap.size, w.heap.size + 1] u5 E → CaseWW w (.returned (.tuple #[.agg #[.slice py1 y1.ns.length cy1, .slice qy1 y1.es.length dy1], .agg #[.slice py2 y2.ns.length cy2, .slice qy2 y2.es.length dy2]])) E := by
          intro E hE
          have hE5 := (HK5.out.mono (show ∀ z ∈ [W1.heap.size], z ∈ [W1.heap.size, w.heap.size, w.heap.size + 1] by simp)).trans (hE.mono (by simp))
          exact ⟨y1, _, Fy1, y2, _, Fy2, rfl, ⟨HY1.out.chg hE (fun z hz => by have := HYL.out z hz; (try simp at this); simp; omega), fun z hz => by have := HYL.out z hz; (try simp at this); omega, by have := HYN.out; omega⟩, ⟨HY2.out.chg hE (fun z hz => by have := HYL2.out z hz; (try simp at this); simp; omega), fun z hz => by have := HYL2.out z hz; (try simp at this); omega, by have := HYN2.out; omega⟩, (HKX9.out.past hE5 (by simp; omega)).of0⟩
        refine hs _ ?_
        repeat (first | exact Chg.refl _ _ | refine Chg.setCell ?_ (by simp) _ | refine Chg.drew ?_)
end Go.Proofs.Ytchhobphockhhaa
