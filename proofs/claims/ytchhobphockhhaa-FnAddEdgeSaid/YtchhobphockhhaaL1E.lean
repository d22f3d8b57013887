/- DrawAddEdge: a graph that is drawn, or nearly valid, and an edge. -/
import Derived.Test.YtchhobphockhhaaL1G
import Derived.Test.YtchhobphockhhaaNVar
namespace Go.Proofs.Ytchhobphockhhaa
open Go.RowKit

/-- A drawn graph and a drawn edge. -/
def CaseGE (w : World) (e : Ending) (w' : World) : Prop :=
  ∃ (g : Gr) (vg : Value) (Fg : List Nat) (x : Ed), e = .returned (.tuple #[vg, .agg #[.int .i64 x.f, .int .i64 x.t, .string x.l, .int .i64 x.n]]) ∧ GX g vg Fg w.heap.size w' ∧ x.Ok ∧ Below w.heap.size w w'
/-- A variable of a graph, of an edge: what it holds, and that it can be written. -/
def GVal (b : Nat) (s1 s2 : Value) (w : World) : Prop := b < w.heap.size ∧ w.cell? ⟨b, 0, none⟩ = some s1 ∧ w.cell? ⟨b, 1, none⟩ = some s2 ∧ w.frozen? ⟨b, 0, none⟩ = false ∧ w.frozen? ⟨b, 1, none⟩ = false
abbrev GV (b : Nat) (w : World) : Prop := GVal b (.slice none 0 0) (.slice none 0 0) w
def EVal (b : Nat) (x : Ed) (w : World) : Prop := b < w.heap.size ∧ w.cell? ⟨b, 0, none⟩ = some (.int .i64 x.f) ∧ w.cell? ⟨b, 1, none⟩ = some (.int .i64 x.t) ∧ w.cell? ⟨b, 2, none⟩ = some (.string x.l) ∧ w.cell? ⟨b, 3, none⟩ = some (.int .i64 x.n) ∧
  w.frozen? ⟨b, 0, none⟩ = false ∧ w.frozen? ⟨b, 1, none⟩ = false ∧ w.frozen? ⟨b, 2, none⟩ = false ∧ w.frozen? ⟨b, 3, none⟩ = false
abbrev EV (b : Nat) (w : World) : Prop := EVal b ⟨0, 0, ⟨#[]⟩, 0⟩ w
theorem GVal.chg {F : List Nat} {b : Nat} {s1 s2 : Value} {w w' : World} (h : GVal b s1 s2 w) (hc : Chg F w w') (hb : b ∉ F) : GVal b s1 s2 w' :=
  ⟨Nat.lt_of_lt_of_le h.1 hc.size, hc.cellOf hb h.2.1, hc.cellOf hb h.2.2.1, hc.frozenOf hb h.1 h.2.2.2.1, hc.frozenOf hb h.1 h.2.2.2.2⟩
theorem EVal.chg {F : List Nat} {b : Nat} {x : Ed} {w w' : World} (h : EVal b x w) (hc : Chg F w w') (hb : b ∉ F) : EVal b x w' :=
  ⟨Nat.lt_of_lt_of_le h.1 hc.size, hc.cellOf hb h.2.1, hc.cellOf hb h.2.2.1, hc.cellOf hb h.2.2.2.1, hc.cellOf hb h.2.2.2.2.1, hc.frozenOf hb h.1 h.2.2.2.2.2.1, hc.frozenOf hb h.1 h.2.2.2.2.2.2.1, hc.frozenOf hb h.1 h.2.2.2.2.2.2.2.1, hc.frozenOf hb h.1 h.2.2.2.2.2.2.2.2⟩
theorem EVal.set {b : Nat} {x y : Ed} {w : World} (h : EVal b y w) : EVal b x ((((w.setCell ⟨b, 0, none⟩ (.int .i64 x.f)).setCell ⟨b, 1, none⟩ (.int .i64 x.t)).setCell ⟨b, 2, none⟩ (.string x.l)).setCell ⟨b, 3, none⟩ (.int .i64 x.n)) := by
  obtain ⟨h0, c0, c1, c2, c3, f0, f1, f2, f3⟩ := h
  refine ⟨by simpa using h0, ?_, ?_, ?_, ?_, by simpa [go_sem] using f0, by simpa [go_sem] using f1, by simpa [go_sem] using f2, by simpa [go_sem] using f3⟩
  · rw [set_near _ _ _ _ _ (by omega), set_near _ _ _ _ _ (by omega), set_near _ _ _ _ _ (by omega)]; exact set_same _ _ _ _ _ c0
  · rw [set_near _ _ _ _ _ (by omega), set_near _ _ _ _ _ (by omega)]; exact set_same _ _ _ _ _ ((set_near _ _ _ _ _ (by omega)).trans c1)
  · rw [set_near _ _ _ _ _ (by omega)]; exact set_same _ _ _ _ _ (((set_near _ _ _ _ _ (by omega)).trans (set_near _ _ _ _ _ (by omega))).trans c2)
  · exact set_same _ _ _ _ _ ((((set_near _ _ _ _ _ (by omega)).trans (set_near _ _ _ _ _ (by omega))).trans (set_near _ _ _ _ _ (by omega))).trans c3)
theorem EVal.set1 {b : Nat} {x : Ed} {w : World} (h : EVal b x w) (z : Int) : EVal b ⟨x.f, z, x.l, x.n⟩ (w.setCell ⟨b, 1, none⟩ (.int .i64 z)) := by
  obtain ⟨h0, c0, c1, c2, c3, f0, f1, f2, f3⟩ := h
  exact ⟨by simpa using h0, (set_near _ _ _ _ _ (by omega)).trans c0, set_same _ _ _ _ _ c1, (set_near _ _ _ _ _ (by omega)).trans c2, (set_near _ _ _ _ _ (by omega)).trans c3, by simpa [go_sem] using f0, by simpa [go_sem] using f1, by simpa [go_sem] using f2, by simpa [go_sem] using f3⟩
/-- A new variable of an edge. -/
theorem madeEV {K : Act → World → Prop} {A : Act} {E : World} {T : TypeId} (hk : ∀ w1, Chg [] E w1 → E.heap.size < w1.heap.size → EV E.heap.size w1 → K A w1) : K A (E.alloc (.cells #[.int .i64 0, .int .i64 0, .string ⟨#[]⟩, .int .i64 0] T)) :=
  hk _ ((Chg.refl _ _).alloc _) (by simp) ⟨by simp, by simp [go_sem], by simp [go_sem], by simp [go_sem], by simp [go_sem], by simp [go_sem], by simp [go_sem], by simp [go_sem], by simp [go_sem]⟩

set_option maxRecDepth 100000 in
set_option maxHeartbeats 32000000 in
theorem drawAddEdge_any (zs : List Int) (v : Value) (B : Nat) (w : World) (hv : Sl 1 byCells B w v zs) (hB : B ≤ w.heap.size) (hz : ∀ z ∈ zs, 0 ≤ z ∧ z ≤ 255) :
    Calls Try.prog 31 #[v] w (CaseGE w) := by
  obtain ⟨p, cap, rfl⟩ := hv.form
  have HV := Lib.hid hv
  clear hv
  go_enter Try.func31, Try.ntmps31
  go_wp2_with fail
  obtain ⟨W1, eW1⟩ : ∃ E, E = (w.alloc (.cells #[.slice none 0 0, .slice none 0 0] 55)).alloc (.cells #[.int .i64 0, .int .i64 0, .string ⟨#[]⟩, .int .i64 0] 57) := ⟨_, rfl⟩
  obtain ⟨sW1, sW1'⟩ : w.heap.size + 2 ≤ W1.heap.size ∧ W1.heap.size ≤ w.heap.size + 2 := by rw [eW1]; constructor <;> simp
  have HW1 := Lib.hid (show Chg [] w W1 by rw [eW1]; exact ((Chg.refl _ _).alloc _).alloc _)
  have HRES := Lib.hid (show (GV w.heap.size W1 ∧ EV (w.heap.size + 1) W1) by rw [eW1]; exact ⟨⟨by simp; omega, by simp [go_sem], by simp [go_sem], by simp [go_sem], by simp [go_sem]⟩, by simp, by simp [go_sem], by simp [go_sem], by simp [go_sem], by simp [go_sem], by simp [go_sem], by simp [go_sem], by simp [go_sem], by simp [go_sem]⟩)
  rw [← eW1]
  clear eW1
  refine (open_any zs _ B W1 (HV.out.below (HW1.out.of0.mono hB)) (by omega) hz).mono ?_
  rintro en u1 ⟨rfl, hr1, hs1, hb1⟩
  have d1 : Dr u1 W1.heap.size 0 := ⟨0, Nat.le_refl _, hr1⟩
  have HB1 := Lib.hid (Chg.of_below hb1 [])
  have s1 := d1.lt
  clear hr1 hb1 hs1
  go_wp2_with fail
  refine (l1Draw_any W1.heap.size 0 u1 d1 (by omega)).mono ?_
  rintro en u2 ⟨g, vg, Fg, rfl, hg, hgl, hok, hln, d2, k2⟩
  have s2 := k2.size
  obtain ⟨pg, cg, qg, dg, rfl⟩ := Gr.At.form' hg.at
  go_upto_region 3 with fail
  obtain ⟨wr, ewr⟩ : ∃ E, E = u2.alloc (.cells #[.slice pg g.ns.length cg, .slice qg g.es.length dg] 55) := ⟨_, rfl⟩
  have zwr : u2.heap.size < wr.heap.size := by rw [ewr]; simp
  have k3 : Chg [] u2 wr := by rw [ewr]; exact (Chg.refl _ _).alloc _
  have HC3 := Lib.hid (show wr.cell? ⟨u2.heap.size, 0, none⟩ = some (.slice pg g.ns.length cg) ∧ wr.cell? ⟨u2.heap.size, 1, none⟩ = some (.slice qg g.es.length dg) by rw [ewr]; exact ⟨by simp [go_sem], by simp [go_sem]⟩)
  rw [← ewr]
  clear ewr
  have HKW := Lib.hid ((((HB1.out.mono (by simp)).trans k2).trans (k3.mono (by simp))) : Chg [W1.heap.size] W1 wr)
  have hd : Dr wr W1.heap.size 7000 := (d2.mono (by omega)).chg k3 (by simp)
  have HOK := Lib.hid hok
  have HLN := Lib.hid hln
  have HG := Lib.hid (show GX g _ _ u1.heap.size wr from ⟨hg.chg k3 (by simp), hgl, hok, by have := hln.1; omega, by have := hln.2; omega⟩)
  clear k2 k3 d1 d2 hok hln hg hgl
  obtain ⟨a, ea, ha, ha2⟩ : ∃ a, RowKit.Hid (a = W1.heap.size) ∧ a < u1.heap.size ∧ w.heap.size + 1 < a := ⟨_, Lib.hid rfl, by omega, by omega⟩
  rw [← ea.out] at hd HKW ⊢
  have HR := Lib.hid (fun (E : World) (hE : Chg [a] wr E) => (show GV w.heap.size E ∧ EV (w.heap.size + 1) E from
    let h := HKW.out.trans hE
    ⟨HRES.out.1.chg h (by simp; omega), HRES.out.2.chg h (by simp; omega)⟩))
  have HKX := Lib.hid ((HW1.out.past HKW.out (by rw [ea.out]; simp; omega)) : Chg [] w wr)
  have HK := Lib.hid (fun (E : World) (hE : Chg [a] wr E) => And.intro (hE.cellOf (b := u2.heap.size) (o := 0) (by simp; omega) HC3.out.1) (hE.cellOf (b := u2.heap.size) (o := 1) (by simp; omega) HC3.out.2))
  have har : a < wr.heap.size := by omega
  have hnl : (g.ns.length : Int) ≤ 1000 := by have := HLN.out.1; omega
  go_cut [6] (fun t wx => ∃ b x, t = .pointer (some ⟨b, 0, none⟩) ∧ wr.heap.size ≤ b ∧ EVal b x wx ∧ x.Ok ∧ Dr wx a 7004 ∧ Chg [a] wr wx)
  case first =>
    refine wp_region_E (last := 18) (S := fun w' => w'.cell? ⟨u2.heap.size, 0, none⟩ = some (.slice pg g.ns.length cg) ∧ w'.cell? ⟨u2.heap.size, 1, none⟩ = some (.slice qg g.es.length dg)) (by kernel_rfl) ?_ (fun hHeld => ?_)
    · exact HK.out _ (Chg.drew (Chg.refl _ _))
    have cW : Chg [a] wr wr.drew := Chg.drew (Chg.refl _ _)
    have dW : Dr wr.drew a 7000 := hd.drew
    generalize wr.drew = W0 at cW dW hHeld ⊢
    (refine takeE (i := 0) (v := ?_) [] rfl (by kernel_rfl) (by kernel_rfl) (fun _ _ _ h => h) (Or.inl ⟨by kernel_rfl, ?_⟩) (by assumption) ?_; rotate_left; (focus (intro w hSw; (try dsimp only at hSw); go_simp; first | done | with_reducible rfl | fail "takeE")); (try simp only [Act.put, List.setIfInBounds_toArray, List.set_cons_zero, List.set_cons_succ]))
    (refine takeE (i := 1) (v := ?_) [] rfl (by kernel_rfl) (by kernel_rfl) (fun _ _ _ h => h) (Or.inl ⟨by kernel_rfl, ?_⟩) (by assumption) ?_; rotate_left; (focus (intro w hSw; (try dsimp only at hSw); go_simp; first | done | with_reducible rfl | fail "takeE")); (try simp only [Act.put, List.setIfInBounds_toArray, List.set_cons_zero, List.set_cons_succ]))
    (refine takeE (i := 2) (v := ?_) [] rfl (by kernel_rfl) (by kernel_rfl) (fun _ _ _ h => h) (Or.inl ⟨by kernel_rfl, ?_⟩) (by assumption) ?_; rotate_left; (focus (intro w hSw; (try dsimp only at hSw); go_simp; first | done | with_reducible rfl | fail "takeE")); (try simp only [Act.put, List.setIfInBounds_toArray, List.set_cons_zero, List.set_cons_succ]))
    (refine takeE (i := 3) (v := ?_) [] rfl (by kernel_rfl) (by kernel_rfl) (fun _ _ _ h => h) (Or.inl ⟨by kernel_rfl, ?_⟩) (by assumption) ?_; rotate_left; (focus (intro w hSw; (try dsimp only at hSw); go_simp; first | done | with_reducible rfl | fail "takeE")); (try simp only [Act.put, List.setIfInBounds_toArray, List.set_cons_zero, List.set_cons_succ]))
    (refine takeE (i := 5) (v := ?_) [] rfl (by kernel_rfl) (by kernel_rfl) (fun _ _ _ h => h) (Or.inl ⟨by kernel_rfl, ?_⟩) (by assumption) ?_; rotate_left; (focus (intro w hSw; (try dsimp only at hSw); go_simp; first | done | with_reducible rfl | fail "takeE")); (try simp only [Act.put, List.setIfInBounds_toArray, List.set_cons_zero, List.set_cons_succ]))
    (refine takeE (i := 6) (v := ?_) [] rfl (by kernel_rfl) (by kernel_rfl) (fun _ _ _ h => h) (Or.inl ⟨by kernel_rfl, ?_⟩) (by assumption) ?_; rotate_left; (focus (intro w hSw; (try dsimp only at hSw); go_simp; first | done | with_reducible rfl | fail "takeE")); (try simp only [Act.put, List.setIfInBounds_toArray, List.set_cons_zero, List.set_cons_succ]))
    (refine takeE (i := 7) (v := ?_) [] rfl (by kernel_rfl) (by kernel_rfl) (fun _ _ _ h => h) (Or.inl ⟨by kernel_rfl, ?_⟩) (by assumption) ?_; rotate_left; (focus (intro w hSw; (try dsimp only at hSw); go_simp; first | done | with_reducible rfl | fail "takeE")); (try simp only [Act.put, List.setIfInBounds_toArray, List.set_cons_zero, List.set_cons_succ]))
    (refine takeE (i := 8) (v := ?_) [] rfl (by kernel_rfl) (by kernel_rfl) (fun _ _ _ h => h) (Or.inl ⟨by kernel_rfl, ?_⟩) (by assumption) ?_; rotate_left; (focus (intro w hSw; (try dsimp only at hSw); go_simp; first | done | with_reducible rfl | fail "takeE")); (try simp only [Act.put, List.setIfInBounds_toArray, List.set_cons_zero, List.set_cons_succ]))
    (refine takeE (i := 10) (v := ?_) [] rfl (by kernel_rfl) (by kernel_rfl) (fun _ _ _ h => h) (Or.inl ⟨by kernel_rfl, ?_⟩) (by assumption) ?_; rotate_left; (focus (intro w hSw; (try dsimp only at hSw); go_simp; first | done | with_reducible rfl | fail "takeE")); (try simp only [Act.put, List.setIfInBounds_toArray, List.set_cons_zero, List.set_cons_succ]))
    (refine takeE (i := 13) (v := ?_) [] rfl (by kernel_rfl) (by kernel_rfl) (fun _ _ _ h => h) (Or.inl ⟨by kernel_rfl, ?_⟩) (by assumption) ?_; rotate_left; (focus (intro w hSw; (try dsimp only at hSw); go_simp; first | done | with_reducible rfl | fail "takeE")); (try simp only [Act.put, List.setIfInBounds_toArray, List.set_cons_zero, List.set_cons_succ]))
    generalize hF : wpAnyE _ _ _ _ _ _ = F
    show F 9 #[true, true, true, true, false, true, true, true, true, false, true, false, false, true, false, false, false, false, false] _ _
    have K4111 : ∀ (E : World), ∀ (bA : Nat), ∀ (bB : Nat), ∀ (bV : Nat), ∀ (pp : Int), ∀ (rr : Int), ∀ (xx : ByteArray), ∀ (zz : Int), ∀ (cE : Chg [a] wr E), ∀ (dE : Dr E a 7004), ∀ (nv : EV bV E), ∀ (bv : wr.heap.size ≤ bV), ∀ (hpp : 0 ≤ pp ∧ pp ≤ 1000), ∀ (hrr : 0 ≤ rr ∧ rr ≤ 1000), ∀ (hxx : xx.size ≤ 100), ∀ (hzz : -1000 ≤ zz ∧ zz ≤ 1000), F 1 #[true, true, true, true, true, true, true, true, true, true, true, true, true, true, true, true, true, true, false] (⟨#[.slice p zs.length cap, undef, .pointer (some ⟨w.heap.size, 0, none⟩), .pointer (some ⟨w.heap.size + 1, 0, none⟩), .pointer (some ⟨a, 0, none⟩), .pointer (some ⟨u2.heap.size, 0, none⟩), .pointer (some ⟨bV, 0, none⟩), .slice p zs.length cap, .pointer (some ⟨a, 0, none⟩), .pointer (some ⟨a, 0, none⟩), .agg #[.slice pg g.ns.length cg, .slice qg g.es.length dg], .pointer (some ⟨a, 0, none⟩), .pointer (some ⟨u2.heap.size, 0, none⟩), .slice pg g.ns.length cg, .int .i64 g.ns.length, .int .i64 pp, .pointer (some ⟨a, 0, none⟩), .pointer (some ⟨u2.heap.size, 0, none⟩), .slice pg g.ns.length cg, .int .i64 g.ns.length, .int .i64 rr, .pointer (some ⟨a, 0, none⟩), .slice (some ⟨bA, 0, none⟩) 4 4, .string xx, .pointer (some ⟨a, 0, none⟩), .slice (some ⟨bB, 0, none⟩) 4 4, .int .i64 zz, .agg #[.int .i64 pp, .int .i64 rr, .string xx, .int .i64 zz], undef, undef, undef, undef, undef, undef, undef, undef, undef, undef, undef], []⟩ : Act) E := by
      intro E bA bB bV pp rr xx zz cE dE nv bv hpp hrr hxx hzz
      rw [← hF]
      refine lastE rfl (by kernel_rfl) (by kernel_rfl) (fun K hK => ?_)
      obtain ⟨v0, v1, v2, v3, v4, v5, v6, v7, v8⟩ := nv
      have hx := EVal.set (x := ⟨pp, rr, xx, zz⟩) (show EV bV E from ⟨v0, v1, v2, v3, v4, v5, v6, v7, v8⟩)
      have hs : Chg [bV] E ((((E.setCell ⟨bV, 0, none⟩ (.int .i64 pp)).setCell ⟨bV, 1, none⟩ (.int .i64 rr)).setCell ⟨bV, 2, none⟩ (.string xx)).setCell ⟨bV, 3, none⟩ (.int .i64 zz)) := ((((Chg.refl _ _).setCell (by simp) _).setCell (by simp) _).setCell (by simp) _).setCell (by simp) _
      have HX := Lib.hid hx
      have HS := Lib.hid hs
      clear hx hs
      go_simp
      refine hK.out _ _ ?_
      clear hK K
      refine doneE (by kernel_rfl) ?_ _
      go_wp2_with fail
      go_meet
      exact ⟨_, ⟨pp, rr, xx, zz⟩, rfl, bv, HX.out, ⟨by unfold I64; simp only; omega, by unfold I64; simp only; omega, small_len hxx, by unfold I64; simp only; omega⟩, dE.chg HS.out (by simp; omega), cE.past HS.out (by simp; omega)⟩
    have K3111 : ∀ (E : World), ∀ (bA : Nat), ∀ (bB : Nat), ∀ (bV : Nat), ∀ (pp : Int), ∀ (rr : Int), ∀ (xx : ByteArray), ∀ (cE : Chg [a] wr E), ∀ (dE : Dr E a 7003), ∀ (sB : Cs intP E bB 4), ∀ (nB : bB ≠ a), ∀ (nv : EV bV E), ∀ (bv : wr.heap.size ≤ bV), ∀ (hpp : 0 ≤ pp ∧ pp ≤ 1000), ∀ (hrr : 0 ≤ rr ∧ rr ≤ 1000), ∀ (hxx : xx.size ≤ 100), F 3 #[true, true, true, true, true, true, true, true, true, true, true, true, true, true, true, false, false, true, false] (⟨#[.slice p zs.length cap, undef, .pointer (some ⟨w.heap.size, 0, none⟩), .pointer (some ⟨w.heap.size + 1, 0, none⟩), .pointer (some ⟨a, 0, none⟩), .pointer (some ⟨u2.heap.size, 0, none⟩), .pointer (some ⟨bV, 0, none⟩), .slice p zs.length cap, .pointer (some ⟨a, 0, none⟩), .pointer (some ⟨a, 0, none⟩), .agg #[.slice pg g.ns.length cg, .slice qg g.es.length dg], .pointer (some ⟨a, 0, none⟩), .pointer (some ⟨u2.heap.size, 0, none⟩), .slice pg g.ns.length cg, .int .i64 g.ns.length, .int .i64 pp, .pointer (some ⟨a, 0, none⟩), .pointer (some ⟨u2.heap.size, 0, none⟩), .slice pg g.ns.length cg, .int .i64 g.ns.length, .int .i64 rr, .pointer (some ⟨a, 0, none⟩), .slice (some ⟨bA, 0, none⟩) 4 4, .string xx, .pointer (some ⟨a, 0, none⟩), .slice (some ⟨bB, 0, none⟩) 4 4, undef, undef, undef, undef, undef, undef, undef, undef, undef, undef, undef, undef, undef], []⟩ : Act) E := by
      intro E bA bB bV pp rr xx cE dE sB nB nv bv hpp hrr hxx
      rw [← hF]
      refine upE (rs := [15]) (by kernel_rfl) (by simp) (AllE'.cons (i := 15) rfl (by kernel_rfl) (fun K hK => ?_) AllE'.nil)
      · go_simp
        go_at_call 82
        refine Calls.mono (num_dr a 7003 _ 4 _ E dE (by omega) sB (by decide) nB) ?_
        rintro en U ⟨q, rfl, hq0, hq1, dU, kU⟩
        have cU : Chg [a] wr U := cE.trans kU
        go_wp2_with fail
        refine hK.out _ _ (HK.out _ cU) (fun hHeld => ?_)
        clear hK K
        simp only [List.setIfInBounds_toArray, List.set_cons_zero, List.set_cons_succ]
        (refine takeE (i := 16) (v := ?_) [] rfl (by kernel_rfl) (by kernel_rfl) (fun _ _ _ h => h) (Or.inl ⟨by kernel_rfl, ?_⟩) (by assumption) ?_; rotate_left; (focus (intro w hSw; (try dsimp only at hSw); go_simp; first | done | with_reducible rfl | fail "takeE")); (try simp only [Act.put, List.setIfInBounds_toArray, List.set_cons_zero, List.set_cons_succ]))
        rw [hF]
        exact K4111 U bA bB bV pp rr xx q cU dU (nv.chg kU (by simp; omega)) bv hpp hrr hxx ⟨hq0, hq1⟩
    have K4110 : ∀ (E : World), ∀ (bA : Nat), ∀ (bB : Nat), ∀ (pp : Int), ∀ (rr : Int), ∀ (xx : ByteArray), ∀ (zz : Int), ∀ (cE : Chg [a] wr E), ∀ (dE : Dr E a 7004), ∀ (hpp : 0 ≤ pp ∧ pp ≤ 1000), ∀ (hrr : 0 ≤ rr ∧ rr ≤ 1000), ∀ (hxx : xx.size ≤ 100), ∀ (hzz : -1000 ≤ zz ∧ zz ≤ 1000), F 2 #[true, true, true, true, true, true, true, true, true, true, true, true, true, true, true, true, true, false, false] (⟨#[.slice p zs.length cap, undef, .pointer (some ⟨w.heap.size, 0, none⟩), .pointer (some ⟨w.heap.size + 1, 0, none⟩), .pointer (some ⟨a, 0, none⟩), .pointer (some ⟨u2.heap.size, 0, none⟩), undef, .slice p zs.length cap, .pointer (some ⟨a, 0, none⟩), .pointer (some ⟨a, 0, none⟩), .agg #[.slice pg g.ns.length cg, .slice qg g.es.length dg], .pointer (some ⟨a, 0, none⟩), .pointer (some ⟨u2.heap.size, 0, none⟩), .slice pg g.ns.length cg, .int .i64 g.ns.length, .int .i64 pp, .pointer (some ⟨a, 0, none⟩), .pointer (some ⟨u2.heap.size, 0, none⟩), .slice pg g.ns.length cg, .int .i64 g.ns.length, .int .i64 rr, .pointer (some ⟨a, 0, none⟩), .slice (some ⟨bA, 0, none⟩) 4 4, .string xx, .pointer (some ⟨a, 0, none⟩), .slice (some ⟨bB, 0, none⟩) 4 4, .int .i64 zz, .agg #[.int .i64 pp, .int .i64 rr, .string xx, .int .i64 zz], undef, undef, undef, undef, undef, undef, undef, undef, undef, undef, undef], []⟩ : Act) E := by
      intro E bA bB pp rr xx zz cE dE hpp hrr hxx hzz
      rw [← hF]
      refine upE (rs := [17]) (by kernel_rfl) (by simp) (AllE'.cons (i := 17) rfl (by kernel_rfl) (fun K hK => ?_) AllE'.nil)
      · go_simp
        refine madeEV (K := K) ?_
        intro U kU zU nv'
        have cU : Chg [a] wr U := cE.trans (kU.mono (by simp))
        have dU : Dr U a 7004 := dE.chg kU (by simp)
        refine hK.out _ _ (HK.out _ cU) (fun hHeld => ?_)
        clear hK K
        simp only [List.setIfInBounds_toArray, List.set_cons_zero, List.set_cons_succ]
        rw [hF]
        exact K4111 U bA bB E.heap.size pp rr xx zz cU dU nv' cE.size hpp hrr hxx hzz
    have K2111 : ∀ (E : World), ∀ (bA : Nat), ∀ (bB : Nat), ∀ (bV : Nat), ∀ (pp : Int), ∀ (rr : Int), ∀ (cE : Chg [a] wr E), ∀ (dE : Dr E a 7002), ∀ (sA : Cs strP E bA 4), ∀ (nA : bA ≠ a), ∀ (sB : Cs intP E bB 4), ∀ (nB : bB ≠ a), ∀ (nv : EV bV E), ∀ (bv : wr.heap.size ≤ bV), ∀ (hpp : 0 ≤ pp ∧ pp ≤ 1000), ∀ (hrr : 0 ≤ rr ∧ rr ≤ 1000), F 4 #[true, true, true, true, true, true, true, true, true, true, true, true, false, true, true, false, false, true, false] (⟨#[.slice p zs.length cap, undef, .pointer (some ⟨w.heap.size, 0, none⟩), .pointer (some ⟨w.heap.size + 1, 0, none⟩), .pointer (some ⟨a, 0, none⟩), .pointer (some ⟨u2.heap.size, 0, none⟩), .pointer (some ⟨bV, 0, none⟩), .slice p zs.length cap, .pointer (some ⟨a, 0, none⟩), .pointer (some ⟨a, 0, none⟩), .agg #[.slice pg g.ns.length cg, .slice qg g.es.length dg], .pointer (some ⟨a, 0, none⟩), .pointer (some ⟨u2.heap.size, 0, none⟩), .slice pg g.ns.length cg, .int .i64 g.ns.length, .int .i64 pp, .pointer (some ⟨a, 0, none⟩), .pointer (some ⟨u2.heap.size, 0, none⟩), .slice pg g.ns.length cg, .int .i64 g.ns.length, .int .i64 rr, .pointer (some ⟨a, 0, none⟩), .slice (some ⟨bA, 0, none⟩) 4 4, undef, .pointer (some ⟨a, 0, none⟩), .slice (some ⟨bB, 0, none⟩) 4 4, undef, undef, undef, undef, undef, undef, undef, undef, undef, undef, undef, undef, undef], []⟩ : Act) E := by
      intro E bA bB bV pp rr cE dE sA nA sB nB nv bv hpp hrr
      rw [← hF]
      refine upE (rs := [12]) (by kernel_rfl) (by simp) (AllE'.cons (i := 12) rfl (by kernel_rfl) (fun K hK => ?_) AllE'.nil)
      · go_simp
        go_at_call 81
        refine Calls.mono (of_dr a 7002 _ 4 _ E dE (by omega) sA (by decide) nA) ?_
        rintro en U ⟨q, rfl, hq, dU, kU⟩
        have cU : Chg [a] wr U := cE.trans kU
        go_wp2_with fail
        refine hK.out _ _ (HK.out _ cU) (fun hHeld => ?_)
        clear hK K
        simp only [List.setIfInBounds_toArray, List.set_cons_zero, List.set_cons_succ]
        rw [hF]
        exact K3111 U bA bB bV pp rr q cU dU (sB.chg kU (by simpa using nB)) nB (nv.chg kU (by simp; omega)) bv hpp hrr hq
    have K3101 : ∀ (E : World), ∀ (bA : Nat), ∀ (bV : Nat), ∀ (pp : Int), ∀ (rr : Int), ∀ (xx : ByteArray), ∀ (cE : Chg [a] wr E), ∀ (dE : Dr E a 7003), ∀ (nv : EV bV E), ∀ (bv : wr.heap.size ≤ bV), ∀ (hpp : 0 ≤ pp ∧ pp ≤ 1000), ∀ (hrr : 0 ≤ rr ∧ rr ≤ 1000), ∀ (hxx : xx.size ≤ 100), F 4 #[true, true, true, true, true, true, true, true, true, true, true, true, true, true, false, false, false, true, false] (⟨#[.slice p zs.length cap, undef, .pointer (some ⟨w.heap.size, 0, none⟩), .pointer (some ⟨w.heap.size + 1, 0, none⟩), .pointer (some ⟨a, 0, none⟩), .pointer (some ⟨u2.heap.size, 0, none⟩), .pointer (some ⟨bV, 0, none⟩), .slice p zs.length cap, .pointer (some ⟨a, 0, none⟩), .pointer (some ⟨a, 0, none⟩), .agg #[.slice pg g.ns.length cg, .slice qg g.es.length dg], .pointer (some ⟨a, 0, none⟩), .pointer (some ⟨u2.heap.size, 0, none⟩), .slice pg g.ns.length cg, .int .i64 g.ns.length, .int .i64 pp, .pointer (some ⟨a, 0, none⟩), .pointer (some ⟨u2.heap.size, 0, none⟩), .slice pg g.ns.length cg, .int .i64 g.ns.length, .int .i64 rr, .pointer (some ⟨a, 0, none⟩), .slice (some ⟨bA, 0, none⟩) 4 4, .string xx, .pointer (some ⟨a, 0, none⟩), undef, undef, undef, undef, undef, undef, undef, undef, undef, undef, undef, undef, undef, undef], []⟩ : Act) E := by
      intro E bA bV pp rr xx cE dE nv bv hpp hrr hxx
      rw [← hF]
      refine upE (rs := [14]) (by kernel_rfl) (by simp) (AllE'.cons (i := 14) rfl (by kernel_rfl) (fun K hK => ?_) AllE'.nil)
      · go_simp
        refine made (K := K) intB_spec 4 (by rfl) (by kernel_rfl) ?_
        intro U kU zU sB'
        have cU : Chg [a] wr U := cE.trans (kU.mono (by simp))
        have dU : Dr U a 7003 := dE.chg kU (by simp)
        have nn : E.heap.size ≠ a := by have := cE.size; omega
        refine hK.out _ _ (HK.out _ cU) (fun hHeld => ?_)
        clear hK K
        simp only [List.setIfInBounds_toArray, List.set_cons_zero, List.set_cons_succ]
        rw [hF]
        exact K3111 U bA E.heap.size bV pp rr xx cU dU sB' nn (nv.chg kU (by simp)) bv hpp hrr hxx
    have K3110 : ∀ (E : World), ∀ (bA : Nat), ∀ (bB : Nat), ∀ (pp : Int), ∀ (rr : Int), ∀ (xx : ByteArray), ∀ (cE : Chg [a] wr E), ∀ (dE : Dr E a 7003), ∀ (sB : Cs intP E bB 4), ∀ (nB : bB ≠ a), ∀ (hpp : 0 ≤ pp ∧ pp ≤ 1000), ∀ (hrr : 0 ≤ rr ∧ rr ≤ 1000), ∀ (hxx : xx.size ≤ 100), F 4 #[true, true, true, true, true, true, true, true, true, true, true, true, true, true, true, false, false, false, false] (⟨#[.slice p zs.length cap, undef, .pointer (some ⟨w.heap.size, 0, none⟩), .pointer (some ⟨w.heap.size + 1, 0, none⟩), .pointer (some ⟨a, 0, none⟩), .pointer (some ⟨u2.heap.size, 0, none⟩), undef, .slice p zs.length cap, .pointer (some ⟨a, 0, none⟩), .pointer (some ⟨a, 0, none⟩), .agg #[.slice pg g.ns.length cg, .slice qg g.es.length dg], .pointer (some ⟨a, 0, none⟩), .pointer (some ⟨u2.heap.size, 0, none⟩), .slice pg g.ns.length cg, .int .i64 g.ns.length, .int .i64 pp, .pointer (some ⟨a, 0, none⟩), .pointer (some ⟨u2.heap.size, 0, none⟩), .slice pg g.ns.length cg, .int .i64 g.ns.length, .int .i64 rr, .pointer (some ⟨a, 0, none⟩), .slice (some ⟨bA, 0, none⟩) 4 4, .string xx, .pointer (some ⟨a, 0, none⟩), .slice (some ⟨bB, 0, none⟩) 4 4, undef, undef, undef, undef, undef, undef, undef, undef, undef, undef, undef, undef, undef], []⟩ : Act) E := by
      intro E bA bB pp rr xx cE dE sB nB hpp hrr hxx
      rw [← hF]
      refine upE (rs := [15, 17]) (by kernel_rfl) (by simp) (AllE'.cons (i := 15) rfl (by kernel_rfl) (fun K hK => ?_) (AllE'.cons (i := 17) rfl (by kernel_rfl) (fun K hK => ?_) AllE'.nil))
      · go_simp
        go_at_call 82
        refine Calls.mono (num_dr a 7003 _ 4 _ E dE (by omega) sB (by decide) nB) ?_
        rintro en U ⟨q, rfl, hq0, hq1, dU, kU⟩
        have cU : Chg [a] wr U := cE.trans kU
        go_wp2_with fail
        refine hK.out _ _ (HK.out _ cU) (fun hHeld => ?_)
        clear hK K
        simp only [List.setIfInBounds_toArray, List.set_cons_zero, List.set_cons_succ]
        (refine takeE (i := 16) (v := ?_) [] rfl (by kernel_rfl) (by kernel_rfl) (fun _ _ _ h => h) (Or.inl ⟨by kernel_rfl, ?_⟩) (by assumption) ?_; rotate_left; (focus (intro w hSw; (try dsimp only at hSw); go_simp; first | done | with_reducible rfl | fail "takeE")); (try simp only [Act.put, List.setIfInBounds_toArray, List.set_cons_zero, List.set_cons_succ]))
        rw [hF]
        exact K4110 U bA bB pp rr xx q cU dU hpp hrr hxx ⟨hq0, hq1⟩
      · go_simp
        refine madeEV (K := K) ?_
        intro U kU zU nv'
        have cU : Chg [a] wr U := cE.trans (kU.mono (by simp))
        have dU : Dr U a 7003 := dE.chg kU (by simp)
        refine hK.out _ _ (HK.out _ cU) (fun hHeld => ?_)
        clear hK K
        simp only [List.setIfInBounds_toArray, List.set_cons_zero, List.set_cons_succ]
        rw [hF]
        exact K3111 U bA bB E.heap.size pp rr xx cU dU (sB.chg kU (by simp)) nB nv' cE.size hpp hrr hxx
    have K1111 : ∀ (E : World), ∀ (bA : Nat), ∀ (bB : Nat), ∀ (bV : Nat), ∀ (pp : Int), ∀ (cE : Chg [a] wr E), ∀ (dE : Dr E a 7001), ∀ (sA : Cs strP E bA 4), ∀ (nA : bA ≠ a), ∀ (sB : Cs intP E bB 4), ∀ (nB : bB ≠ a), ∀ (nv : EV bV E), ∀ (bv : wr.heap.size ≤ bV), ∀ (hpp : 0 ≤ pp ∧ pp ≤ 1000), F 5 #[true, true, true, true, true, true, true, true, true, false, true, true, false, true, true, false, false, true, false] (⟨#[.slice p zs.length cap, undef, .pointer (some ⟨w.heap.size, 0, none⟩), .pointer (some ⟨w.heap.size + 1, 0, none⟩), .pointer (some ⟨a, 0, none⟩), .pointer (some ⟨u2.heap.size, 0, none⟩), .pointer (some ⟨bV, 0, none⟩), .slice p zs.length cap, .pointer (some ⟨a, 0, none⟩), .pointer (some ⟨a, 0, none⟩), .agg #[.slice pg g.ns.length cg, .slice qg g.es.length dg], .pointer (some ⟨a, 0, none⟩), .pointer (some ⟨u2.heap.size, 0, none⟩), .slice pg g.ns.length cg, .int .i64 g.ns.length, .int .i64 pp, .pointer (some ⟨a, 0, none⟩), .pointer (some ⟨u2.heap.size, 0, none⟩), .slice pg g.ns.length cg, .int .i64 g.ns.length, undef, .pointer (some ⟨a, 0, none⟩), .slice (some ⟨bA, 0, none⟩) 4 4, undef, .pointer (some ⟨a, 0, none⟩), .slice (some ⟨bB, 0, none⟩) 4 4, undef, undef, undef, undef, undef, undef, undef, undef, undef, undef, undef, undef, undef], []⟩ : Act) E := by
      intro E bA bB bV pp cE dE sA nA sB nB nv bv hpp
      rw [← hF]
      refine upE (rs := [9]) (by kernel_rfl) (by simp) (AllE'.cons (i := 9) rfl (by kernel_rfl) (fun K hK => ?_) AllE'.nil)
      · go_simp
        go_at_call 53
        refine Calls.mono (pick_sm _ a 7001 E dE (by omega) hnl) ?_
        rintro en U ⟨q, rfl, hq0, hq1, dU, kU⟩
        have cU : Chg [a] wr U := cE.trans kU
        go_wp2_with fail
        refine hK.out _ _ (HK.out _ cU) (fun hHeld => ?_)
        clear hK K
        simp only [List.setIfInBounds_toArray, List.set_cons_zero, List.set_cons_succ]
        rw [hF]
        exact K2111 U bA bB bV pp q cU dU (sA.chg kU (by simpa using nA)) nA (sB.chg kU (by simpa using nB)) nB (nv.chg kU (by simp; omega)) bv hpp ⟨hq0, hq1⟩
    have K2011 : ∀ (E : World), ∀ (bB : Nat), ∀ (bV : Nat), ∀ (pp : Int), ∀ (rr : Int), ∀ (cE : Chg [a] wr E), ∀ (dE : Dr E a 7002), ∀ (sB : Cs intP E bB 4), ∀ (nB : bB ≠ a), ∀ (nv : EV bV E), ∀ (bv : wr.heap.size ≤ bV), ∀ (hpp : 0 ≤ pp ∧ pp ≤ 1000), ∀ (hrr : 0 ≤ rr ∧ rr ≤ 1000), F 5 #[true, true, true, true, true, true, true, true, true, true, true, false, false, true, true, false, false, true, false] (⟨#[.slice p zs.length cap, undef, .pointer (some ⟨w.heap.size, 0, none⟩), .pointer (some ⟨w.heap.size + 1, 0, none⟩), .pointer (some ⟨a, 0, none⟩), .pointer (some ⟨u2.heap.size, 0, none⟩), .pointer (some ⟨bV, 0, none⟩), .slice p zs.length cap, .pointer (some ⟨a, 0, none⟩), .pointer (some ⟨a, 0, none⟩), .agg #[.slice pg g.ns.length cg, .slice qg g.es.length dg], .pointer (some ⟨a, 0, none⟩), .pointer (some ⟨u2.heap.size, 0, none⟩), .slice pg g.ns.length cg, .int .i64 g.ns.length, .int .i64 pp, .pointer (some ⟨a, 0, none⟩), .pointer (some ⟨u2.heap.size, 0, none⟩), .slice pg g.ns.length cg, .int .i64 g.ns.length, .int .i64 rr, .pointer (some ⟨a, 0, none⟩), undef, undef, .pointer (some ⟨a, 0, none⟩), .slice (some ⟨bB, 0, none⟩) 4 4, undef, undef, undef, undef, undef, undef, undef, undef, undef, undef, undef, undef, undef], []⟩ : Act) E := by
      intro E bB bV pp rr cE dE sB nB nv bv hpp hrr
      rw [← hF]
      refine upE (rs := [11]) (by kernel_rfl) (by simp) (AllE'.cons (i := 11) rfl (by kernel_rfl) (fun K hK => ?_) AllE'.nil)
      · go_simp
        refine made (K := K) strB_spec 4 (by rfl) (by kernel_rfl) ?_
        intro U kU zU sA'
        have cU : Chg [a] wr U := cE.trans (kU.mono (by simp))
        have dU : Dr U a 7002 := dE.chg kU (by simp)
        have nn : E.heap.size ≠ a := by have := cE.size; omega
        refine hK.out _ _ (HK.out _ cU) (fun hHeld => ?_)
        clear hK K
        simp only [List.setIfInBounds_toArray, List.set_cons_zero, List.set_cons_succ]
        rw [hF]
        exact K2111 U E.heap.size bB bV pp rr cU dU sA' nn (sB.chg kU (by simp)) nB (nv.chg kU (by simp)) bv hpp hrr
    have K2101 : ∀ (E : World), ∀ (bA : Nat), ∀ (bV : Nat), ∀ (pp : Int), ∀ (rr : Int), ∀ (cE : Chg [a] wr E), ∀ (dE : Dr E a 7002), ∀ (sA : Cs strP E bA 4), ∀ (nA : bA ≠ a), ∀ (nv : EV bV E), ∀ (bv : wr.heap.size ≤ bV), ∀ (hpp : 0 ≤ pp ∧ pp ≤ 1000), ∀ (hrr : 0 ≤ rr ∧ rr ≤ 1000), F 5 #[true, true, true, true, true, true, true, true, true, true, true, true, false, true, false, false, false, true, false] (⟨#[.slice p zs.length cap, undef, .pointer (some ⟨w.heap.size, 0, none⟩), .pointer (some ⟨w.heap.size + 1, 0, none⟩), .pointer (some ⟨a, 0, none⟩), .pointer (some ⟨u2.heap.size, 0, none⟩), .pointer (some ⟨bV, 0, none⟩), .slice p zs.length cap, .pointer (some ⟨a, 0, none⟩), .pointer (some ⟨a, 0, none⟩), .agg #[.slice pg g.ns.length cg, .slice qg g.es.length dg], .pointer (some ⟨a, 0, none⟩), .pointer (some ⟨u2.heap.size, 0, none⟩), .slice pg g.ns.length cg, .int .i64 g.ns.length, .int .i64 pp, .pointer (some ⟨a, 0, none⟩), .pointer (some ⟨u2.heap.size, 0, none⟩), .slice pg g.ns.length cg, .int .i64 g.ns.length, .int .i64 rr, .pointer (some ⟨a, 0, none⟩), .slice (some ⟨bA, 0, none⟩) 4 4, undef, .pointer (some ⟨a, 0, none⟩), undef, undef, undef, undef, undef, undef, undef, undef, undef, undef, undef, undef, undef, undef], []⟩ : Act) E := by
      intro E bA bV pp rr cE dE sA nA nv bv hpp hrr
      rw [← hF]
      refine upE (rs := [12, 14]) (by kernel_rfl) (by simp) (AllE'.cons (i := 12) rfl (by kernel_rfl) (fun K hK => ?_) (AllE'.cons (i := 14) rfl (by kernel_rfl) (fun K hK => ?_) AllE'.nil))
      · go_simp
        go_at_call 81
        refine Calls.mono (of_dr a 7002 _ 4 _ E dE (by omega) sA (by decide) nA) ?_
        rintro en U ⟨q, rfl, hq, dU, kU⟩
        have cU : Chg [a] wr U := cE.trans kU
        go_wp2_with fail
        refine hK.out _ _ (HK.out _ cU) (fun hHeld => ?_)
        clear hK K
        simp only [List.setIfInBounds_toArray, List.set_cons_zero, List.set_cons_succ]
        rw [hF]
        exact K3101 U bA bV pp rr q cU dU (nv.chg kU (by simp; omega)) bv hpp hrr hq
      · go_simp
        refine made (K := K) intB_spec 4 (by rfl) (by kernel_rfl) ?_
        intro U kU zU sB'
        have cU : Chg [a] wr U := cE.trans (kU.mono (by simp))
        have dU : Dr U a 7002 := dE.chg kU (by simp)
        have nn : E.heap.size ≠ a := by have := cE.size; omega
        refine hK.out _ _ (HK.out _ cU) (fun hHeld => ?_)
        clear hK K
        simp only [List.setIfInBounds_toArray, List.set_cons_zero, List.set_cons_succ]
        rw [hF]
        exact K2111 U bA E.heap.size bV pp rr cU dU (sA.chg kU (by simp)) nA sB' nn (nv.chg kU (by simp)) bv hpp hrr
    have K2110 : ∀ (E : World), ∀ (bA : Nat), ∀ (bB : Nat), ∀ (pp : Int), ∀ (rr : Int), ∀ (cE : Chg [a] wr E), ∀ (dE : Dr E a 7002), ∀ (sA : Cs strP E bA 4), ∀ (nA : bA ≠ a), ∀ (sB : Cs intP E bB 4), ∀ (nB : bB ≠ a), ∀ (hpp : 0 ≤ pp ∧ pp ≤ 1000), ∀ (hrr : 0 ≤ rr ∧ rr ≤ 1000), F 5 #[true, true, true, true, true, true, true, true, true, true, true, true, false, true, true, false, false, false, false] (⟨#[.slice p zs.length cap, undef, .pointer (some ⟨w.heap.size, 0, none⟩), .pointer (some ⟨w.heap.size + 1, 0, none⟩), .pointer (some ⟨a, 0, none⟩), .pointer (some ⟨u2.heap.size, 0, none⟩), undef, .slice p zs.length cap, .pointer (some ⟨a, 0, none⟩), .pointer (some ⟨a, 0, none⟩), .agg #[.slice pg g.ns.length cg, .slice qg g.es.length dg], .pointer (some ⟨a, 0, none⟩), .pointer (some ⟨u2.heap.size, 0, none⟩), .slice pg g.ns.length cg, .int .i64 g.ns.length, .int .i64 pp, .pointer (some ⟨a, 0, none⟩), .pointer (some ⟨u2.heap.size, 0, none⟩), .slice pg g.ns.length cg, .int .i64 g.ns.length, .int .i64 rr, .pointer (some ⟨a, 0, none⟩), .slice (some ⟨bA, 0, none⟩) 4 4, undef, .pointer (some ⟨a, 0, none⟩), .slice (some ⟨bB, 0, none⟩) 4 4, undef, undef, undef, undef, undef, undef, undef, undef, undef, undef, undef, undef, undef], []⟩ : Act) E := by
      intro E bA bB pp rr cE dE sA nA sB nB hpp hrr
      rw [← hF]
      refine upE (rs := [12, 17]) (by kernel_rfl) (by simp) (AllE'.cons (i := 12) rfl (by kernel_rfl) (fun K hK => ?_) (AllE'.cons (i := 17) rfl (by kernel_rfl) (fun K hK => ?_) AllE'.nil))
      · go_simp
        go_at_call 81
        refine Calls.mono (of_dr a 7002 _ 4 _ E dE (by omega) sA (by decide) nA) ?_
        rintro en U ⟨q, rfl, hq, dU, kU⟩
        have cU : Chg [a] wr U := cE.trans kU
        go_wp2_with fail
        refine hK.out _ _ (HK.out _ cU) (fun hHeld => ?_)
        clear hK K
        simp only [List.setIfInBounds_toArray, List.set_cons_zero, List.set_cons_succ]
        rw [hF]
        exact K3110 U bA bB pp rr q cU dU (sB.chg kU (by simpa using nB)) nB hpp hrr hq
      · go_simp
        refine madeEV (K := K) ?_
        intro U kU zU nv'
        have cU : Chg [a] wr U := cE.trans (kU.mono (by simp))
        have dU : Dr U a 7002 := dE.chg kU (by simp)
        refine hK.out _ _ (HK.out _ cU) (fun hHeld => ?_)
        clear hK K
        simp only [List.setIfInBounds_toArray, List.set_cons_zero, List.set_cons_succ]
        rw [hF]
        exact K2111 U bA bB E.heap.size pp rr cU dU (sA.chg kU (by simp)) nA (sB.chg kU (by simp)) nB nv' cE.size hpp hrr
    have K3100 : ∀ (E : World), ∀ (bA : Nat), ∀ (pp : Int), ∀ (rr : Int), ∀ (xx : ByteArray), ∀ (cE : Chg [a] wr E), ∀ (dE : Dr E a 7003), ∀ (hpp : 0 ≤ pp ∧ pp ≤ 1000), ∀ (hrr : 0 ≤ rr ∧ rr ≤ 1000), ∀ (hxx : xx.size ≤ 100), F 5 #[true, true, true, true, true, true, true, true, true, true, true, true, true, true, false, false, false, false, false] (⟨#[.slice p zs.length cap, undef, .pointer (some ⟨w.heap.size, 0, none⟩), .pointer (some ⟨w.heap.size + 1, 0, none⟩), .pointer (some ⟨a, 0, none⟩), .pointer (some ⟨u2.heap.size, 0, none⟩), undef, .slice p zs.length cap, .pointer (some ⟨a, 0, none⟩), .pointer (some ⟨a, 0, none⟩), .agg #[.slice pg g.ns.length cg, .slice qg g.es.length dg], .pointer (some ⟨a, 0, none⟩), .pointer (some ⟨u2.heap.size, 0, none⟩), .slice pg g.ns.length cg, .int .i64 g.ns.length, .int .i64 pp, .pointer (some ⟨a, 0, none⟩), .pointer (some ⟨u2.heap.size, 0, none⟩), .slice pg g.ns.length cg, .int .i64 g.ns.length, .int .i64 rr, .pointer (some ⟨a, 0, none⟩), .slice (some ⟨bA, 0, none⟩) 4 4, .string xx, .pointer (some ⟨a, 0, none⟩), undef, undef, undef, undef, undef, undef, undef, undef, undef, undef, undef, undef, undef, undef], []⟩ : Act) E := by
      intro E bA pp rr xx cE dE hpp hrr hxx
      rw [← hF]
      refine upE (rs := [14, 17]) (by kernel_rfl) (by simp) (AllE'.cons (i := 14) rfl (by kernel_rfl) (fun K hK => ?_) (AllE'.cons (i := 17) rfl (by kernel_rfl) (fun K hK => ?_) AllE'.nil))
      · go_simp
        refine made (K := K) intB_spec 4 (by rfl) (by kernel_rfl) ?_
        intro U kU zU sB'
        have cU : Chg [a] wr U := cE.trans (kU.mono (by simp))
        have dU : Dr U a 7003 := dE.chg kU (by simp)
        have nn : E.heap.size ≠ a := by have := cE.size; omega
        refine hK.out _ _ (HK.out _ cU) (fun hHeld => ?_)
        clear hK K
        simp only [List.setIfInBounds_toArray, List.set_cons_zero, List.set_cons_succ]
        rw [hF]
        exact K3110 U bA E.heap.size pp rr xx cU dU sB' nn hpp hrr hxx
      · go_simp
        refine madeEV (K := K) ?_
        intro U kU zU nv'
        have cU : Chg [a] wr U := cE.trans (kU.mono (by simp))
        have dU : Dr U a 7003 := dE.chg kU (by simp)
        refine hK.out _ _ (HK.out _ cU) (fun hHeld => ?_)
        clear hK K
        simp only [List.setIfInBounds_toArray, List.set_cons_zero, List.set_cons_succ]
        rw [hF]
        exact K3101 U bA E.heap.size pp rr xx cU dU nv' cE.size hpp hrr hxx
    have K0111 : ∀ (E : World), ∀ (bA : Nat), ∀ (bB : Nat), ∀ (bV : Nat), ∀ (cE : Chg [a] wr E), ∀ (dE : Dr E a 7000), ∀ (sA : Cs strP E bA 4), ∀ (nA : bA ≠ a), ∀ (sB : Cs intP E bB 4), ∀ (nB : bB ≠ a), ∀ (nv : EV bV E), ∀ (bv : wr.heap.size ≤ bV), F 6 #[true, true, true, true, false, true, true, true, true, false, true, true, false, true, true, false, false, true, false] (⟨#[.slice p zs.length cap, undef, .pointer (some ⟨w.heap.size, 0, none⟩), .pointer (some ⟨w.heap.size + 1, 0, none⟩), .pointer (some ⟨a, 0, none⟩), .pointer (some ⟨u2.heap.size, 0, none⟩), .pointer (some ⟨bV, 0, none⟩), .slice p zs.length cap, .pointer (some ⟨a, 0, none⟩), .pointer (some ⟨a, 0, none⟩), .agg #[.slice pg g.ns.length cg, .slice qg g.es.length dg], .pointer (some ⟨a, 0, none⟩), .pointer (some ⟨u2.heap.size, 0, none⟩), .slice pg g.ns.length cg, .int .i64 g.ns.length, undef, .pointer (some ⟨a, 0, none⟩), .pointer (some ⟨u2.heap.size, 0, none⟩), .slice pg g.ns.length cg, .int .i64 g.ns.length, undef, .pointer (some ⟨a, 0, none⟩), .slice (some ⟨bA, 0, none⟩) 4 4, undef, .pointer (some ⟨a, 0, none⟩), .slice (some ⟨bB, 0, none⟩) 4 4, undef, undef, undef, undef, undef, undef, undef, undef, undef, undef, undef, undef, undef], []⟩ : Act) E := by
      intro E bA bB bV cE dE sA nA sB nB nv bv
      rw [← hF]
      refine upE (rs := [4]) (by kernel_rfl) (by simp) (AllE'.cons (i := 4) rfl (by kernel_rfl) (fun K hK => ?_) AllE'.nil)
      · go_simp
        go_at_call 53
        refine Calls.mono (pick_sm _ a 7000 E dE (by omega) hnl) ?_
        rintro en U ⟨q, rfl, hq0, hq1, dU, kU⟩
        have cU : Chg [a] wr U := cE.trans kU
        go_wp2_with fail
        refine hK.out _ _ (HK.out _ cU) (fun hHeld => ?_)
        clear hK K
        simp only [List.setIfInBounds_toArray, List.set_cons_zero, List.set_cons_succ]
        rw [hF]
        exact K1111 U bA bB bV q cU dU (sA.chg kU (by simpa using nA)) nA (sB.chg kU (by simpa using nB)) nB (nv.chg kU (by simp; omega)) bv ⟨hq0, hq1⟩
    have K1011 : ∀ (E : World), ∀ (bB : Nat), ∀ (bV : Nat), ∀ (pp : Int), ∀ (cE : Chg [a] wr E), ∀ (dE : Dr E a 7001), ∀ (sB : Cs intP E bB 4), ∀ (nB : bB ≠ a), ∀ (nv : EV bV E), ∀ (bv : wr.heap.size ≤ bV), ∀ (hpp : 0 ≤ pp ∧ pp ≤ 1000), F 6 #[true, true, true, true, true, true, true, true, true, false, true, false, false, true, true, false, false, true, false] (⟨#[.slice p zs.length cap, undef, .pointer (some ⟨w.heap.size, 0, none⟩), .pointer (some ⟨w.heap.size + 1, 0, none⟩), .pointer (some ⟨a, 0, none⟩), .pointer (some ⟨u2.heap.size, 0, none⟩), .pointer (some ⟨bV, 0, none⟩), .slice p zs.length cap, .pointer (some ⟨a, 0, none⟩), .pointer (some ⟨a, 0, none⟩), .agg #[.slice pg g.ns.length cg, .slice qg g.es.length dg], .pointer (some ⟨a, 0, none⟩), .pointer (some ⟨u2.heap.size, 0, none⟩), .slice pg g.ns.length cg, .int .i64 g.ns.length, .int .i64 pp, .pointer (some ⟨a, 0, none⟩), .pointer (some ⟨u2.heap.size, 0, none⟩), .slice pg g.ns.length cg, .int .i64 g.ns.length, undef, .pointer (some ⟨a, 0, none⟩), undef, undef, .pointer (some ⟨a, 0, none⟩), .slice (some ⟨bB, 0, none⟩) 4 4, undef, undef, undef, undef, undef, undef, undef, undef, undef, undef, undef, undef, undef], []⟩ : Act) E := by
      intro E bB bV pp cE dE sB nB nv bv hpp
      rw [← hF]
      refine upE (rs := [9, 11]) (by kernel_rfl) (by simp) (AllE'.cons (i := 9) rfl (by kernel_rfl) (fun K hK => ?_) (AllE'.cons (i := 11) rfl (by kernel_rfl) (fun K hK => ?_) AllE'.nil))
      · go_simp
        go_at_call 53
        refine Calls.mono (pick_sm _ a 7001 E dE (by omega) hnl) ?_
        rintro en U ⟨q, rfl, hq0, hq1, dU, kU⟩
        have cU : Chg [a] wr U := cE.trans kU
        go_wp2_with fail
        refine hK.out _ _ (HK.out _ cU) (fun hHeld => ?_)
        clear hK K
        simp only [List.setIfInBounds_toArray, List.set_cons_zero, List.set_cons_succ]
        rw [hF]
        exact K2011 U bB bV pp q cU dU (sB.chg kU (by simpa using nB)) nB (nv.chg kU (by simp; omega)) bv hpp ⟨hq0, hq1⟩
      · go_simp
        refine made (K := K) strB_spec 4 (by rfl) (by kernel_rfl) ?_
        intro U kU zU sA'
        have cU : Chg [a] wr U := cE.trans (kU.mono (by simp))
        have dU : Dr U a 7001 := dE.chg kU (by simp)
        have nn : E.heap.size ≠ a := by have := cE.size; omega
        refine hK.out _ _ (HK.out _ cU) (fun hHeld => ?_)
        clear hK K
        simp only [List.setIfInBounds_toArray, List.set_cons_zero, List.set_cons_succ]
        rw [hF]
        exact K1111 U E.heap.size bB bV pp cU dU sA' nn (sB.chg kU (by simp)) nB (nv.chg kU (by simp)) bv hpp
    have K1101 : ∀ (E : World), ∀ (bA : Nat), ∀ (bV : Nat), ∀ (pp : Int), ∀ (cE : Chg [a] wr E), ∀ (dE : Dr E a 7001), ∀ (sA : Cs strP E bA 4), ∀ (nA : bA ≠ a), ∀ (nv : EV bV E), ∀ (bv : wr.heap.size ≤ bV), ∀ (hpp : 0 ≤ pp ∧ pp ≤ 1000), F 6 #[true, true, true, true, true, true, true, true, true, false, true, true, false, true, false, false, false, true, false] (⟨#[.slice p zs.length cap, undef, .pointer (some ⟨w.heap.size, 0, none⟩), .pointer (some ⟨w.heap.size + 1, 0, none⟩), .pointer (some ⟨a, 0, none⟩), .pointer (some ⟨u2.heap.size, 0, none⟩), .pointer (some ⟨bV, 0, none⟩), .slice p zs.length cap, .pointer (some ⟨a, 0, none⟩), .pointer (some ⟨a, 0, none⟩), .agg #[.slice pg g.ns.length cg, .slice qg g.es.length dg], .pointer (some ⟨a, 0, none⟩), .pointer (some ⟨u2.heap.size, 0, none⟩), .slice pg g.ns.length cg, .int .i64 g.ns.length, .int .i64 pp, .pointer (some ⟨a, 0, none⟩), .pointer (some ⟨u2.heap.size, 0, none⟩), .slice pg g.ns.length cg, .int .i64 g.ns.length, undef, .pointer (some ⟨a, 0, none⟩), .slice (some ⟨bA, 0, none⟩) 4 4, undef, .pointer (some ⟨a, 0, none⟩), undef, undef, undef, undef, undef, undef, undef, undef, undef, undef, undef, undef, undef, undef], []⟩ : Act) E := by
      intro E bA bV pp cE dE sA nA nv bv hpp
      rw [← hF]
      refine upE (rs := [9, 14]) (by kernel_rfl) (by simp) (AllE'.cons (i := 9) rfl (by kernel_rfl) (fun K hK => ?_) (AllE'.cons (i := 14) rfl (by kernel_rfl) (fun K hK => ?_) AllE'.nil))
      · go_simp
        go_at_call 53
        refine Calls.mono (pick_sm _ a 7001 E dE (by omega) hnl) ?_
        rintro en U ⟨q, rfl, hq0, hq1, dU, kU⟩
        have cU : Chg [a] wr U := cE.trans kU
        go_wp2_with fail
        refine hK.out _ _ (HK.out _ cU) (fun hHeld => ?_)
        clear hK K
        simp only [List.setIfInBounds_toArray, List.set_cons_zero, List.set_cons_succ]
        rw [hF]
        exact K2101 U bA bV pp q cU dU (sA.chg kU (by simpa using nA)) nA (nv.chg kU (by simp; omega)) bv hpp ⟨hq0, hq1⟩
      · go_simp
        refine made (K := K) intB_spec 4 (by rfl) (by kernel_rfl) ?_
        intro U kU zU sB'
        have cU : Chg [a] wr U := cE.trans (kU.mono (by simp))
        have dU : Dr U a 7001 := dE.chg kU (by simp)
        have nn : E.heap.size ≠ a := by have := cE.size; omega
        refine hK.out _ _ (HK.out _ cU) (fun hHeld => ?_)
        clear hK K
        simp only [List.setIfInBounds_toArray, List.set_cons_zero, List.set_cons_succ]
        rw [hF]
        exact K1111 U bA E.heap.size bV pp cU dU (sA.chg kU (by simp)) nA sB' nn (nv.chg kU (by simp)) bv hpp
    have K1110 : ∀ (E : World), ∀ (bA : Nat), ∀ (bB : Nat), ∀ (pp : Int), ∀ (cE : Chg [a] wr E), ∀ (dE : Dr E a 7001), ∀ (sA : Cs strP E bA 4), ∀ (nA : bA ≠ a), ∀ (sB : Cs intP E bB 4), ∀ (nB : bB ≠ a), ∀ (hpp : 0 ≤ pp ∧ pp ≤ 1000), F 6 #[true, true, true, true, true, true, true, true, true, false, true, true, false, true, true, false, false, false, false] (⟨#[.slice p zs.length cap, undef, .pointer (some ⟨w.heap.size, 0, none⟩), .pointer (some ⟨w.heap.size + 1, 0, none⟩), .pointer (some ⟨a, 0, none⟩), .pointer (some ⟨u2.heap.size, 0, none⟩), undef, .slice p zs.length cap, .pointer (some ⟨a, 0, none⟩), .pointer (some ⟨a, 0, none⟩), .agg #[.slice pg g.ns.length cg, .slice qg g.es.length dg], .pointer (some ⟨a, 0, none⟩), .pointer (some ⟨u2.heap.size, 0, none⟩), .slice pg g.ns.length cg, .int .i64 g.ns.length, .int .i64 pp, .pointer (some ⟨a, 0, none⟩), .pointer (some ⟨u2.heap.size, 0, none⟩), .slice pg g.ns.length cg, .int .i64 g.ns.length, undef, .pointer (some ⟨a, 0, none⟩), .slice (some ⟨bA, 0, none⟩) 4 4, undef, .pointer (some ⟨a, 0, none⟩), .slice (some ⟨bB, 0, none⟩) 4 4, undef, undef, undef, undef, undef, undef, undef, undef, undef, undef, undef, undef, undef], []⟩ : Act) E := by
      intro E bA bB pp cE dE sA nA sB nB hpp
      rw [← hF]
      refine upE (rs := [9, 17]) (by kernel_rfl) (by simp) (AllE'.cons (i := 9) rfl (by kernel_rfl) (fun K hK => ?_) (AllE'.cons (i := 17) rfl (by kernel_rfl) (fun K hK => ?_) AllE'.nil))
      · go_simp
        go_at_call 53
        refine Calls.mono (pick_sm _ a 7001 E dE (by omega) hnl) ?_
        rintro en U ⟨q, rfl, hq0, hq1, dU, kU⟩
        have cU : Chg [a] wr U := cE.trans kU
        go_wp2_with fail
        refine hK.out _ _ (HK.out _ cU) (fun hHeld => ?_)
        clear hK K
        simp only [List.setIfInBounds_toArray, List.set_cons_zero, List.set_cons_succ]
        rw [hF]
        exact K2110 U bA bB pp q cU dU (sA.chg kU (by simpa using nA)) nA (sB.chg kU (by simpa using nB)) nB hpp ⟨hq0, hq1⟩
      · go_simp
        refine madeEV (K := K) ?_
        intro U kU zU nv'
        have cU : Chg [a] wr U := cE.trans (kU.mono (by simp))
        have dU : Dr U a 7001 := dE.chg kU (by simp)
        refine hK.out _ _ (HK.out _ cU) (fun hHeld => ?_)
        clear hK K
        simp only [List.setIfInBounds_toArray, List.set_cons_zero, List.set_cons_succ]
        rw [hF]
        exact K1111 U bA bB E.heap.size pp cU dU (sA.chg kU (by simp)) nA (sB.chg kU (by simp)) nB nv' cE.size hpp
    have K2001 : ∀ (E : World), ∀ (bV : Nat), ∀ (pp : Int), ∀ (rr : Int), ∀ (cE : Chg [a] wr E), ∀ (dE : Dr E a 7002), ∀ (nv : EV bV E), ∀ (bv : wr.heap.size ≤ bV), ∀ (hpp : 0 ≤ pp ∧ pp ≤ 1000), ∀ (hrr : 0 ≤ rr ∧ rr ≤ 1000), F 6 #[true, true, true, true, true, true, true, true, true, true, true, false, false, true, false, false, false, true, false] (⟨#[.slice p zs.length cap, undef, .pointer (some ⟨w.heap.size, 0, none⟩), .pointer (some ⟨w.heap.size + 1, 0, none⟩), .pointer (some ⟨a, 0, none⟩), .pointer (some ⟨u2.heap.size, 0, none⟩), .pointer (some ⟨bV, 0, none⟩), .slice p zs.length cap, .pointer (some ⟨a, 0, none⟩), .pointer (some ⟨a, 0, none⟩), .agg #[.slice pg g.ns.length cg, .slice qg g.es.length dg], .pointer (some ⟨a, 0, none⟩), .pointer (some ⟨u2.heap.size, 0, none⟩), .slice pg g.ns.length cg, .int .i64 g.ns.length, .int .i64 pp, .pointer (some ⟨a, 0, none⟩), .pointer (some ⟨u2.heap.size, 0, none⟩), .slice pg g.ns.length cg, .int .i64 g.ns.length, .int .i64 rr, .pointer (some ⟨a, 0, none⟩), undef, undef, .pointer (some ⟨a, 0, none⟩), undef, undef, undef, undef, undef, undef, undef, undef, undef, undef, undef, undef, undef, undef], []⟩ : Act) E := by
      intro E bV pp rr cE dE nv bv hpp hrr
      rw [← hF]
      refine upE (rs := [11, 14]) (by kernel_rfl) (by simp) (AllE'.cons (i := 11) rfl (by kernel_rfl) (fun K hK => ?_) (AllE'.cons (i := 14) rfl (by kernel_rfl) (fun K hK => ?_) AllE'.nil))
      · go_simp
        refine made (K := K) strB_spec 4 (by rfl) (by kernel_rfl) ?_
        intro U kU zU sA'
        have cU : Chg [a] wr U := cE.trans (kU.mono (by simp))
        have dU : Dr U a 7002 := dE.chg kU (by simp)
        have nn : E.heap.size ≠ a := by have := cE.size; omega
        refine hK.out _ _ (HK.out _ cU) (fun hHeld => ?_)
        clear hK K
        simp only [List.setIfInBounds_toArray, List.set_cons_zero, List.set_cons_succ]
        rw [hF]
        exact K2101 U E.heap.size bV pp rr cU dU sA' nn (nv.chg kU (by simp)) bv hpp hrr
      · go_simp
        refine made (K := K) intB_spec 4 (by rfl) (by kernel_rfl) ?_
        intro U kU zU sB'
        have cU : Chg [a] wr U := cE.trans (kU.mono (by simp))
        have dU : Dr U a 7002 := dE.chg kU (by simp)
        have nn : E.heap.size ≠ a := by have := cE.size; omega
        refine hK.out _ _ (HK.out _ cU) (fun hHeld => ?_)
        clear hK K
        simp only [List.setIfInBounds_toArray, List.set_cons_zero, List.set_cons_succ]
        rw [hF]
        exact K2011 U E.heap.size bV pp rr cU dU sB' nn (nv.chg kU (by simp)) bv hpp hrr
    have K2010 : ∀ (E : World), ∀ (bB : Nat), ∀ (pp : Int), ∀ (rr : Int), ∀ (cE : Chg [a] wr E), ∀ (dE : Dr E a 7002), ∀ (sB : Cs intP E bB 4), ∀ (nB : bB ≠ a), ∀ (hpp : 0 ≤ pp ∧ pp ≤ 1000), ∀ (hrr : 0 ≤ rr ∧ rr ≤ 1000), F 6 #[true, true, true, true, true, true, true, true, true, true, true, false, false, true, true, false, false, false, false] (⟨#[.slice p zs.length cap, undef, .pointer (some ⟨w.heap.size, 0, none⟩), .pointer (some ⟨w.heap.size + 1, 0, none⟩), .pointer (some ⟨a, 0, none⟩), .pointer (some ⟨u2.heap.size, 0, none⟩), undef, .slice p zs.length cap, .pointer (some ⟨a, 0, none⟩), .pointer (some ⟨a, 0, none⟩), .agg #[.slice pg g.ns.length cg, .slice qg g.es.length dg], .pointer (some ⟨a, 0, none⟩), .pointer (some ⟨u2.heap.size, 0, none⟩), .slice pg g.ns.length cg, .int .i64 g.ns.length, .int .i64 pp, .pointer (some ⟨a, 0, none⟩), .pointer (some ⟨u2.heap.size, 0, none⟩), .slice pg g.ns.length cg, .int .i64 g.ns.length, .int .i64 rr, .pointer (some ⟨a, 0, none⟩), undef, undef, .pointer (some ⟨a, 0, none⟩), .slice (some ⟨bB, 0, none⟩) 4 4, undef, undef, undef, undef, undef, undef, undef, undef, undef, undef, undef, undef, undef], []⟩ : Act) E := by
      intro E bB pp rr cE dE sB nB hpp hrr
      rw [← hF]
      refine upE (rs := [11, 17]) (by kernel_rfl) (by simp) (AllE'.cons (i := 11) rfl (by kernel_rfl) (fun K hK => ?_) (AllE'.cons (i := 17) rfl (by kernel_rfl) (fun K hK => ?_) AllE'.nil))
      · go_simp
        refine made (K := K) strB_spec 4 (by rfl) (by kernel_rfl) ?_
        intro U kU zU sA'
        have cU : Chg [a] wr U := cE.trans (kU.mono (by simp))
        have dU : Dr U a 7002 := dE.chg kU (by simp)
        have nn : E.heap.size ≠ a := by have := cE.size; omega
        refine hK.out _ _ (HK.out _ cU) (fun hHeld => ?_)
        clear hK K
        simp only [List.setIfInBounds_toArray, List.set_cons_zero, List.set_cons_succ]
        rw [hF]
        exact K2110 U E.heap.size bB pp rr cU dU sA' nn (sB.chg kU (by simp)) nB hpp hrr
      · go_simp
        refine madeEV (K := K) ?_
        intro U kU zU nv'
        have cU : Chg [a] wr U := cE.trans (kU.mono (by simp))
        have dU : Dr U a 7002 := dE.chg kU (by simp)
        refine hK.out _ _ (HK.out _ cU) (fun hHeld => ?_)
        clear hK K
        simp only [List.setIfInBounds_toArray, List.set_cons_zero, List.set_cons_succ]
        rw [hF]
        exact K2011 U bB E.heap.size pp rr cU dU (sB.chg kU (by simp)) nB nv' cE.size hpp hrr
    have K2100 : ∀ (E : World), ∀ (bA : Nat), ∀ (pp : Int), ∀ (rr : Int), ∀ (cE : Chg [a] wr E), ∀ (dE : Dr E a 7002), ∀ (sA : Cs strP E bA 4), ∀ (nA : bA ≠ a), ∀ (hpp : 0 ≤ pp ∧ pp ≤ 1000), ∀ (hrr : 0 ≤ rr ∧ rr ≤ 1000), F 6 #[true, true, true, true, true, true, true, true, true, true, true, true, false, true, false, false, false, false, false] (⟨#[.slice p zs.length cap, undef, .pointer (some ⟨w.heap.size, 0, none⟩), .pointer (some ⟨w.heap.size + 1, 0, none⟩), .pointer (some ⟨a, 0, none⟩), .pointer (some ⟨u2.heap.size, 0, none⟩), undef, .slice p zs.length cap, .pointer (some ⟨a, 0, none⟩), .pointer (some ⟨a, 0, none⟩), .agg #[.slice pg g.ns.length cg, .slice qg g.es.length dg], .pointer (some ⟨a, 0, none⟩), .pointer (some ⟨u2.heap.size, 0, none⟩), .slice pg g.ns.length cg, .int .i64 g.ns.length, .int .i64 pp, .pointer (some ⟨a, 0, none⟩), .pointer (some ⟨u2.heap.size, 0, none⟩), .slice pg g.ns.length cg, .int .i64 g.ns.length, .int .i64 rr, .pointer (some ⟨a, 0, none⟩), .slice (some ⟨bA, 0, none⟩) 4 4, undef, .pointer (some ⟨a, 0, none⟩), undef, undef, undef, undef, undef, undef, undef, undef, undef, undef, undef, undef, undef, undef], []⟩ : Act) E := by
      intro E bA pp rr cE dE sA nA hpp hrr
      rw [← hF]
      refine upE (rs := [12, 14, 17]) (by kernel_rfl) (by simp) (AllE'.cons (i := 12) rfl (by kernel_rfl) (fun K hK => ?_) (AllE'.cons (i := 14) rfl (by kernel_rfl) (fun K hK => ?_) (AllE'.cons (i := 17) rfl (by kernel_rfl) (fun K hK => ?_) AllE'.nil)))
      · go_simp
        go_at_call 81
        refine Calls.mono (of_dr a 7002 _ 4 _ E dE (by omega) sA (by decide) nA) ?_
        rintro en U ⟨q, rfl, hq, dU, kU⟩
        have cU : Chg [a] wr U := cE.trans kU
        go_wp2_with fail
        refine hK.out _ _ (HK.out _ cU) (fun hHeld => ?_)
        clear hK K
        simp only [List.setIfInBounds_toArray, List.set_cons_zero, List.set_cons_succ]
        rw [hF]
        exact K3100 U bA pp rr q cU dU hpp hrr hq
      · go_simp
        refine made (K := K) intB_spec 4 (by rfl) (by kernel_rfl) ?_
        intro U kU zU sB'
        have cU : Chg [a] wr U := cE.trans (kU.mono (by simp))
        have dU : Dr U a 7002 := dE.chg kU (by simp)
        have nn : E.heap.size ≠ a := by have := cE.size; omega
        refine hK.out _ _ (HK.out _ cU) (fun hHeld => ?_)
        clear hK K
        simp only [List.setIfInBounds_toArray, List.set_cons_zero, List.set_cons_succ]
        rw [hF]
        exact K2110 U bA E.heap.size pp rr cU dU (sA.chg kU (by simp)) nA sB' nn hpp hrr
      · go_simp
        refine madeEV (K := K) ?_
        intro U kU zU nv'
        have cU : Chg [a] wr U := cE.trans (kU.mono (by simp))
        have dU : Dr U a 7002 := dE.chg kU (by simp)
        refine hK.out _ _ (HK.out _ cU) (fun hHeld => ?_)
        clear hK K
        simp only [List.setIfInBounds_toArray, List.set_cons_zero, List.set_cons_succ]
        rw [hF]
        exact K2101 U bA E.heap.size pp rr cU dU (sA.chg kU (by simp)) nA nv' cE.size hpp hrr
    have K0011 : ∀ (E : World), ∀ (bB : Nat), ∀ (bV : Nat), ∀ (cE : Chg [a] wr E), ∀ (dE : Dr E a 7000), ∀ (sB : Cs intP E bB 4), ∀ (nB : bB ≠ a), ∀ (nv : EV bV E), ∀ (bv : wr.heap.size ≤ bV), F 7 #[true, true, true, true, false, true, true, true, true, false, true, false, false, true, true, false, false, true, false] (⟨#[.slice p zs.length cap, undef, .pointer (some ⟨w.heap.size, 0, none⟩), .pointer (some ⟨w.heap.size + 1, 0, none⟩), .pointer (some ⟨a, 0, none⟩), .pointer (some ⟨u2.heap.size, 0, none⟩), .pointer (some ⟨bV, 0, none⟩), .slice p zs.length cap, .pointer (some ⟨a, 0, none⟩), .pointer (some ⟨a, 0, none⟩), .agg #[.slice pg g.ns.length cg, .slice qg g.es.length dg], .pointer (some ⟨a, 0, none⟩), .pointer (some ⟨u2.heap.size, 0, none⟩), .slice pg g.ns.length cg, .int .i64 g.ns.length, undef, .pointer (some ⟨a, 0, none⟩), .pointer (some ⟨u2.heap.size, 0, none⟩), .slice pg g.ns.length cg, .int .i64 g.ns.length, undef, .pointer (some ⟨a, 0, none⟩), undef, undef, .pointer (some ⟨a, 0, none⟩), .slice (some ⟨bB, 0, none⟩) 4 4, undef, undef, undef, undef, undef, undef, undef, undef, undef, undef, undef, undef, undef], []⟩ : Act) E := by
      intro E bB bV cE dE sB nB nv bv
      rw [← hF]
      refine upE (rs := [4, 11]) (by kernel_rfl) (by simp) (AllE'.cons (i := 4) rfl (by kernel_rfl) (fun K hK => ?_) (AllE'.cons (i := 11) rfl (by kernel_rfl) (fun K hK => ?_) AllE'.nil))
      · go_simp
        go_at_call 53
        refine Calls.mono (pick_sm _ a 7000 E dE (by omega) hnl) ?_
        rintro en U ⟨q, rfl, hq0, hq1, dU, kU⟩
        have cU : Chg [a] wr U := cE.trans kU
        go_wp2_with fail
        refine hK.out _ _ (HK.out _ cU) (fun hHeld => ?_)
        clear hK K
        simp only [List.setIfInBounds_toArray, List.set_cons_zero, List.set_cons_succ]
        rw [hF]
        exact K1011 U bB bV q cU dU (sB.chg kU (by simpa using nB)) nB (nv.chg kU (by simp; omega)) bv ⟨hq0, hq1⟩
      · go_simp
        refine made (K := K) strB_spec 4 (by rfl) (by kernel_rfl) ?_
        intro U kU zU sA'
        have cU : Chg [a] wr U := cE.trans (kU.mono (by simp))
        have dU : Dr U a 7000 := dE.chg kU (by simp)
        have nn : E.heap.size ≠ a := by have := cE.size; omega
        refine hK.out _ _ (HK.out _ cU) (fun hHeld => ?_)
        clear hK K
        simp only [List.setIfInBounds_toArray, List.set_cons_zero, List.set_cons_succ]
        rw [hF]
        exact K0111 U E.heap.size bB bV cU dU sA' nn (sB.chg kU (by simp)) nB (nv.chg kU (by simp)) bv
    have K0101 : ∀ (E : World), ∀ (bA : Nat), ∀ (bV : Nat), ∀ (cE : Chg [a] wr E), ∀ (dE : Dr E a 7000), ∀ (sA : Cs strP E bA 4), ∀ (nA : bA ≠ a), ∀ (nv : EV bV E), ∀ (bv : wr.heap.size ≤ bV), F 7 #[true, true, true, true, false, true, true, true, true, false, true, true, false, true, false, false, false, true, false] (⟨#[.slice p zs.length cap, undef, .pointer (some ⟨w.heap.size, 0, none⟩), .pointer (some ⟨w.heap.size + 1, 0, none⟩), .pointer (some ⟨a, 0, none⟩), .pointer (some ⟨u2.heap.size, 0, none⟩), .pointer (some ⟨bV, 0, none⟩), .slice p zs.length cap, .pointer (some ⟨a, 0, none⟩), .pointer (some ⟨a, 0, none⟩), .agg #[.slice pg g.ns.length cg, .slice qg g.es.length dg], .pointer (some ⟨a, 0, none⟩), .pointer (some ⟨u2.heap.size, 0, none⟩), .slice pg g.ns.length cg, .int .i64 g.ns.length, undef, .pointer (some ⟨a, 0, none⟩), .pointer (some ⟨u2.heap.size, 0, none⟩), .slice pg g.ns.length cg, .int .i64 g.ns.length, undef, .pointer (some ⟨a, 0, none⟩), .slice (some ⟨bA, 0, none⟩) 4 4, undef, .pointer (some ⟨a, 0, none⟩), undef, undef, undef, undef, undef, undef, undef, undef, undef, undef, undef, undef, undef, undef], []⟩ : Act) E := by
      intro E bA bV cE dE sA nA nv bv
      rw [← hF]
      refine upE (rs := [4, 14]) (by kernel_rfl) (by simp) (AllE'.cons (i := 4) rfl (by kernel_rfl) (fun K hK => ?_) (AllE'.cons (i := 14) rfl (by kernel_rfl) (fun K hK => ?_) AllE'.nil))
      · go_simp
        go_at_call 53
        refine Calls.mono (pick_sm _ a 7000 E dE (by omega) hnl) ?_
        rintro en U ⟨q, rfl, hq0, hq1, dU, kU⟩
        have cU : Chg [a] wr U := cE.trans kU
        go_wp2_with fail
        refine hK.out _ _ (HK.out _ cU) (fun hHeld => ?_)
        clear hK K
        simp only [List.setIfInBounds_toArray, List.set_cons_zero, List.set_cons_succ]
        rw [hF]
        exact K1101 U bA bV q cU dU (sA.chg kU (by simpa using nA)) nA (nv.chg kU (by simp; omega)) bv ⟨hq0, hq1⟩
      · go_simp
        refine made (K := K) intB_spec 4 (by rfl) (by kernel_rfl) ?_
        intro U kU zU sB'
        have cU : Chg [a] wr U := cE.trans (kU.mono (by simp))
        have dU : Dr U a 7000 := dE.chg kU (by simp)
        have nn : E.heap.size ≠ a := by have := cE.size; omega
        refine hK.out _ _ (HK.out _ cU) (fun hHeld => ?_)
        clear hK K
        simp only [List.setIfInBounds_toArray, List.set_cons_zero, List.set_cons_succ]
        rw [hF]
        exact K0111 U bA E.heap.size bV cU dU (sA.chg kU (by simp)) nA sB' nn (nv.chg kU (by simp)) bv
    have K0110 : ∀ (E : World), ∀ (bA : Nat), ∀ (bB : Nat), ∀ (cE : Chg [a] wr E), ∀ (dE : Dr E a 7000), ∀ (sA : Cs strP E bA 4), ∀ (nA : bA ≠ a), ∀ (sB : Cs intP E bB 4), ∀ (nB : bB ≠ a), F 7 #[true, true, true, true, false, true, true, true, true, false, true, true, false, true, true, false, false, false, false] (⟨#[.slice p zs.length cap, undef, .pointer (some ⟨w.heap.size, 0, none⟩), .pointer (some ⟨w.heap.size + 1, 0, none⟩), .pointer (some ⟨a, 0, none⟩), .pointer (some ⟨u2.heap.size, 0, none⟩), undef, .slice p zs.length cap, .pointer (some ⟨a, 0, none⟩), .pointer (some ⟨a, 0, none⟩), .agg #[.slice pg g.ns.length cg, .slice qg g.es.length dg], .pointer (some ⟨a, 0, none⟩), .pointer (some ⟨u2.heap.size, 0, none⟩), .slice pg g.ns.length cg, .int .i64 g.ns.length, undef, .pointer (some ⟨a, 0, none⟩), .pointer (some ⟨u2.heap.size, 0, none⟩), .slice pg g.ns.length cg, .int .i64 g.ns.length, undef, .pointer (some ⟨a, 0, none⟩), .slice (some ⟨bA, 0, none⟩) 4 4, undef, .pointer (some ⟨a, 0, none⟩), .slice (some ⟨bB, 0, none⟩) 4 4, undef, undef, undef, undef, undef, undef, undef, undef, undef, undef, undef, undef, undef], []⟩ : Act) E := by
      intro E bA bB cE dE sA nA sB nB
      rw [← hF]
      refine upE (rs := [4, 17]) (by kernel_rfl) (by simp) (AllE'.cons (i := 4) rfl (by kernel_rfl) (fun K hK => ?_) (AllE'.cons (i := 17) rfl (by kernel_rfl) (fun K hK => ?_) AllE'.nil))
      · go_simp
        go_at_call 53
        refine Calls.mono (pick_sm _ a 7000 E dE (by omega) hnl) ?_
        rintro en U ⟨q, rfl, hq0, hq1, dU, kU⟩
        have cU : Chg [a] wr U := cE.trans kU
        go_wp2_with fail
        refine hK.out _ _ (HK.out _ cU) (fun hHeld => ?_)
        clear hK K
        simp only [List.setIfInBounds_toArray, List.set_cons_zero, List.set_cons_succ]
        rw [hF]
        exact K1110 U bA bB q cU dU (sA.chg kU (by simpa using nA)) nA (sB.chg kU (by simpa using nB)) nB ⟨hq0, hq1⟩
      · go_simp
        refine madeEV (K := K) ?_
        intro U kU zU nv'
        have cU : Chg [a] wr U := cE.trans (kU.mono (by simp))
        have dU : Dr U a 7000 := dE.chg kU (by simp)
        refine hK.out _ _ (HK.out _ cU) (fun hHeld => ?_)
        clear hK K
        simp only [List.setIfInBounds_toArray, List.set_cons_zero, List.set_cons_succ]
        rw [hF]
        exact K0111 U bA bB E.heap.size cU dU (sA.chg kU (by simp)) nA (sB.chg kU (by simp)) nB nv' cE.size
    have K1001 : ∀ (E : World), ∀ (bV : Nat), ∀ (pp : Int), ∀ (cE : Chg [a] wr E), ∀ (dE : Dr E a 7001), ∀ (nv : EV bV E), ∀ (bv : wr.heap.size ≤ bV), ∀ (hpp : 0 ≤ pp ∧ pp ≤ 1000), F 7 #[true, true, true, true, true, true, true, true, true, false, true, false, false, true, false, false, false, true, false] (⟨#[.slice p zs.length cap, undef, .pointer (some ⟨w.heap.size, 0, none⟩), .pointer (some ⟨w.heap.size + 1, 0, none⟩), .pointer (some ⟨a, 0, none⟩), .pointer (some ⟨u2.heap.size, 0, none⟩), .pointer (some ⟨bV, 0, none⟩), .slice p zs.length cap, .pointer (some ⟨a, 0, none⟩), .pointer (some ⟨a, 0, none⟩), .agg #[.slice pg g.ns.length cg, .slice qg g.es.length dg], .pointer (some ⟨a, 0, none⟩), .pointer (some ⟨u2.heap.size, 0, none⟩), .slice pg g.ns.length cg, .int .i64 g.ns.length, .int .i64 pp, .pointer (some ⟨a, 0, none⟩), .pointer (some ⟨u2.heap.size, 0, none⟩), .slice pg g.ns.length cg, .int .i64 g.ns.length, undef, .pointer (some ⟨a, 0, none⟩), undef, undef, .pointer (some ⟨a, 0, none⟩), undef, undef, undef, undef, undef, undef, undef, undef, undef, undef, undef, undef, undef, undef], []⟩ : Act) E := by
      intro E bV pp cE dE nv bv hpp
      rw [← hF]
      refine upE (rs := [9, 11, 14]) (by kernel_rfl) (by simp) (AllE'.cons (i := 9) rfl (by kernel_rfl) (fun K hK => ?_) (AllE'.cons (i := 11) rfl (by kernel_rfl) (fun K hK => ?_) (AllE'.cons (i := 14) rfl (by kernel_rfl) (fun K hK => ?_) AllE'.nil)))
      · go_simp
        go_at_call 53
        refine Calls.mono (pick_sm _ a 7001 E dE (by omega) hnl) ?_
        rintro en U ⟨q, rfl, hq0, hq1, dU, kU⟩
        have cU : Chg [a] wr U := cE.trans kU
        go_wp2_with fail
        refine hK.out _ _ (HK.out _ cU) (fun hHeld => ?_)
        clear hK K
        simp only [List.setIfInBounds_toArray, List.set_cons_zero, List.set_cons_succ]
        rw [hF]
        exact K2001 U bV pp q cU dU (nv.chg kU (by simp; omega)) bv hpp ⟨hq0, hq1⟩
      · go_simp
        refine made (K := K) strB_spec 4 (by rfl) (by kernel_rfl) ?_
        intro U kU zU sA'
        have cU : Chg [a] wr U := cE.trans (kU.mono (by simp))
        have dU : Dr U a 7001 := dE.chg kU (by simp)
        have nn : E.heap.size ≠ a := by have := cE.size; omega
        refine hK.out _ _ (HK.out _ cU) (fun hHeld => ?_)
        clear hK K
        simp only [List.setIfInBounds_toArray, List.set_cons_zero, List.set_cons_succ]
        rw [hF]
        exact K1101 U E.heap.size bV pp cU dU sA' nn (nv.chg kU (by simp)) bv hpp
      · go_simp
        refine made (K := K) intB_spec 4 (by rfl) (by kernel_rfl) ?_
        intro U kU zU sB'
        have cU : Chg [a] wr U := cE.trans (kU.mono (by simp))
        have dU : Dr U a 7001 := dE.chg kU (by simp)
        have nn : E.heap.size ≠ a := by have := cE.size; omega
        refine hK.out _ _ (HK.out _ cU) (fun hHeld => ?_)
        clear hK K
        simp only [List.setIfInBounds_toArray, List.set_cons_zero, List.set_cons_succ]
        rw [hF]
        exact K1011 U E.heap.size bV pp cU dU sB' nn (nv.chg kU (by simp)) bv hpp
    have K1010 : ∀ (E : World), ∀ (bB : Nat), ∀ (pp : Int), ∀ (cE : Chg [a] wr E), ∀ (dE : Dr E a 7001), ∀ (sB : Cs intP E bB 4), ∀ (nB : bB ≠ a), ∀ (hpp : 0 ≤ pp ∧ pp ≤ 1000), F 7 #[true, true, true, true, true, true, true, true, true, false, true, false, false, true, true, false, false, false, false] (⟨#[.slice p zs.length cap, undef, .pointer (some ⟨w.heap.size, 0, none⟩), .pointer (some ⟨w.heap.size + 1, 0, none⟩), .pointer (some ⟨a, 0, none⟩), .pointer (some ⟨u2.heap.size, 0, none⟩), undef, .slice p zs.length cap, .pointer (some ⟨a, 0, none⟩), .pointer (some ⟨a, 0, none⟩), .agg #[.slice pg g.ns.length cg, .slice qg g.es.length dg], .pointer (some ⟨a, 0, none⟩), .pointer (some ⟨u2.heap.size, 0, none⟩), .slice pg g.ns.length cg, .int .i64 g.ns.length, .int .i64 pp, .pointer (some ⟨a, 0, none⟩), .pointer (some ⟨u2.heap.size, 0, none⟩), .slice pg g.ns.length cg, .int .i64 g.ns.length, undef, .pointer (some ⟨a, 0, none⟩), undef, undef, .pointer (some ⟨a, 0, none⟩), .slice (some ⟨bB, 0, none⟩) 4 4, undef, undef, undef, undef, undef, undef, undef, undef, undef, undef, undef, undef, undef], []⟩ : Act) E := by
      intro E bB pp cE dE sB nB hpp
      rw [← hF]
      refine upE (rs := [9, 11, 17]) (by kernel_rfl) (by simp) (AllE'.cons (i := 9) rfl (by kernel_rfl) (fun K hK => ?_) (AllE'.cons (i := 11) rfl (by kernel_rfl) (fun K hK => ?_) (AllE'.cons (i := 17) rfl (by kernel_rfl) (fun K hK => ?_) AllE'.nil)))
      · go_simp
        go_at_call 53
        refine Calls.mono (pick_sm _ a 7001 E dE (by omega) hnl) ?_
        rintro en U ⟨q, rfl, hq0, hq1, dU, kU⟩
        have cU : Chg [a] wr U := cE.trans kU
        go_wp2_with fail
        refine hK.out _ _ (HK.out _ cU) (fun hHeld => ?_)
        clear hK K
        simp only [List.setIfInBounds_toArray, List.set_cons_zero, List.set_cons_succ]
        rw [hF]
        exact K2010 U bB pp q cU dU (sB.chg kU (by simpa using nB)) nB hpp ⟨hq0, hq1⟩
      · go_simp
        refine made (K := K) strB_spec 4 (by rfl) (by kernel_rfl) ?_
        intro U kU zU sA'
        have cU : Chg [a] wr U := cE.trans (kU.mono (by simp))
        have dU : Dr U a 7001 := dE.chg kU (by simp)
        have nn : E.heap.size ≠ a := by have := cE.size; omega
        refine hK.out _ _ (HK.out _ cU) (fun hHeld => ?_)
        clear hK K
        simp only [List.setIfInBounds_toArray, List.set_cons_zero, List.set_cons_succ]
        rw [hF]
        exact K1110 U E.heap.size bB pp cU dU sA' nn (sB.chg kU (by simp)) nB hpp
      · go_simp
        refine madeEV (K := K) ?_
        intro U kU zU nv'
        have cU : Chg [a] wr U := cE.trans (kU.mono (by simp))
        have dU : Dr U a 7001 := dE.chg kU (by simp)
        refine hK.out _ _ (HK.out _ cU) (fun hHeld => ?_)
        clear hK K
        simp only [List.setIfInBounds_toArray, List.set_cons_zero, List.set_cons_succ]
        rw [hF]
        exact K1011 U bB E.heap.size pp cU dU (sB.chg kU (by simp)) nB nv' cE.size hpp
    have K1100 : ∀ (E : World), ∀ (bA : Nat), ∀ (pp : Int), ∀ (cE : Chg [a] wr E), ∀ (dE : Dr E a 7001), ∀ (sA : Cs strP E bA 4), ∀ (nA : bA ≠ a), ∀ (hpp : 0 ≤ pp ∧ pp ≤ 1000), F 7 #[true, true, true, true, true, true, true, true, true, false, true, true, false, true, false, false, false, false, false] (⟨#[.slice p zs.length cap, undef, .pointer (some ⟨w.heap.size, 0, none⟩), .pointer (some ⟨w.heap.size + 1, 0, none⟩), .pointer (some ⟨a, 0, none⟩), .pointer (some ⟨u2.heap.size, 0, none⟩), undef, .slice p zs.length cap, .pointer (some ⟨a, 0, none⟩), .pointer (some ⟨a, 0, none⟩), .agg #[.slice pg g.ns.length cg, .slice qg g.es.length dg], .pointer (some ⟨a, 0, none⟩), .pointer (some ⟨u2.heap.size, 0, none⟩), .slice pg g.ns.length cg, .int .i64 g.ns.length, .int .i64 pp, .pointer (some ⟨a, 0, none⟩), .pointer (some ⟨u2.heap.size, 0, none⟩), .slice pg g.ns.length cg, .int .i64 g.ns.length, undef, .pointer (some ⟨a, 0, none⟩), .slice (some ⟨bA, 0, none⟩) 4 4, undef, .pointer (some ⟨a, 0, none⟩), undef, undef, undef, undef, undef, undef, undef, undef, undef, undef, undef, undef, undef, undef], []⟩ : Act) E := by
      intro E bA pp cE dE sA nA hpp
      rw [← hF]
      refine upE (rs := [9, 14, 17]) (by kernel_rfl) (by simp) (AllE'.cons (i := 9) rfl (by kernel_rfl) (fun K hK => ?_) (AllE'.cons (i := 14) rfl (by kernel_rfl) (fun K hK => ?_) (AllE'.cons (i := 17) rfl (by kernel_rfl) (fun K hK => ?_) AllE'.nil)))
      · go_simp
        go_at_call 53
        refine Calls.mono (pick_sm _ a 7001 E dE (by omega) hnl) ?_
        rintro en U ⟨q, rfl, hq0, hq1, dU, kU⟩
        have cU : Chg [a] wr U := cE.trans kU
        go_wp2_with fail
        refine hK.out _ _ (HK.out _ cU) (fun hHeld => ?_)
        clear hK K
        simp only [List.setIfInBounds_toArray, List.set_cons_zero, List.set_cons_succ]
        rw [hF]
        exact K2100 U bA pp q cU dU (sA.chg kU (by simpa using nA)) nA hpp ⟨hq0, hq1⟩
      · go_simp
        refine made (K := K) intB_spec 4 (by rfl) (by kernel_rfl) ?_
        intro U kU zU sB'
        have cU : Chg [a] wr U := cE.trans (kU.mono (by simp))
        have dU : Dr U a 7001 := dE.chg kU (by simp)
        have nn : E.heap.size ≠ a := by have := cE.size; omega
        refine hK.out _ _ (HK.out _ cU) (fun hHeld => ?_)
        clear hK K
        simp only [List.setIfInBounds_toArray, List.set_cons_zero, List.set_cons_succ]
        rw [hF]
        exact K1110 U bA E.heap.size pp cU dU (sA.chg kU (by simp)) nA sB' nn hpp
      · go_simp
        refine madeEV (K := K) ?_
        intro U kU zU nv'
        have cU : Chg [a] wr U := cE.trans (kU.mono (by simp))
        have dU : Dr U a 7001 := dE.chg kU (by simp)
        refine hK.out _ _ (HK.out _ cU) (fun hHeld => ?_)
        clear hK K
        simp only [List.setIfInBounds_toArray, List.set_cons_zero, List.set_cons_succ]
        rw [hF]
        exact K1101 U bA E.heap.size pp cU dU (sA.chg kU (by simp)) nA nv' cE.size hpp
    have K2000 : ∀ (E : World), ∀ (pp : Int), ∀ (rr : Int), ∀ (cE : Chg [a] wr E), ∀ (dE : Dr E a 7002), ∀ (hpp : 0 ≤ pp ∧ pp ≤ 1000), ∀ (hrr : 0 ≤ rr ∧ rr ≤ 1000), F 7 #[true, true, true, true, true, true, true, true, true, true, true, false, false, true, false, false, false, false, false] (⟨#[.slice p zs.length cap, undef, .pointer (some ⟨w.heap.size, 0, none⟩), .pointer (some ⟨w.heap.size + 1, 0, none⟩), .pointer (some ⟨a, 0, none⟩), .pointer (some ⟨u2.heap.size, 0, none⟩), undef, .slice p zs.length cap, .pointer (some ⟨a, 0, none⟩), .pointer (some ⟨a, 0, none⟩), .agg #[.slice pg g.ns.length cg, .slice qg g.es.length dg], .pointer (some ⟨a, 0, none⟩), .pointer (some ⟨u2.heap.size, 0, none⟩), .slice pg g.ns.length cg, .int .i64 g.ns.length, .int .i64 pp, .pointer (some ⟨a, 0, none⟩), .pointer (some ⟨u2.heap.size, 0, none⟩), .slice pg g.ns.length cg, .int .i64 g.ns.length, .int .i64 rr, .pointer (some ⟨a, 0, none⟩), undef, undef, .pointer (some ⟨a, 0, none⟩), undef, undef, undef, undef, undef, undef, undef, undef, undef, undef, undef, undef, undef, undef], []⟩ : Act) E := by
      intro E pp rr cE dE hpp hrr
      rw [← hF]
      refine upE (rs := [11, 14, 17]) (by kernel_rfl) (by simp) (AllE'.cons (i := 11) rfl (by kernel_rfl) (fun K hK => ?_) (AllE'.cons (i := 14) rfl (by kernel_rfl) (fun K hK => ?_) (AllE'.cons (i := 17) rfl (by kernel_rfl) (fun K hK => ?_) AllE'.nil)))
      · go_simp
        refine made (K := K) strB_spec 4 (by rfl) (by kernel_rfl) ?_
        intro U kU zU sA'
        have cU : Chg [a] wr U := cE.trans (kU.mono (by simp))
        have dU : Dr U a 7002 := dE.chg kU (by simp)
        have nn : E.heap.size ≠ a := by have := cE.size; omega
        refine hK.out _ _ (HK.out _ cU) (fun hHeld => ?_)
        clear hK K
        simp only [List.setIfInBounds_toArray, List.set_cons_zero, List.set_cons_succ]
        rw [hF]
        exact K2100 U E.heap.size pp rr cU dU sA' nn hpp hrr
      · go_simp
        refine made (K := K) intB_spec 4 (by rfl) (by kernel_rfl) ?_
        intro U kU zU sB'
        have cU : Chg [a] wr U := cE.trans (kU.mono (by simp))
        have dU : Dr U a 7002 := dE.chg kU (by simp)
        have nn : E.heap.size ≠ a := by have := cE.size; omega
        refine hK.out _ _ (HK.out _ cU) (fun hHeld => ?_)
        clear hK K
        simp only [List.setIfInBounds_toArray, List.set_cons_zero, List.set_cons_succ]
        rw [hF]
        exact K2010 U E.heap.size pp rr cU dU sB' nn hpp hrr
      · go_simp
        refine madeEV (K := K) ?_
        intro U kU zU nv'
        have cU : Chg [a] wr U := cE.trans (kU.mono (by simp))
        have dU : Dr U a 7002 := dE.chg kU (by simp)
        refine hK.out _ _ (HK.out _ cU) (fun hHeld => ?_)
        clear hK K
        simp only [List.setIfInBounds_toArray, List.set_cons_zero, List.set_cons_succ]
        rw [hF]
        exact K2001 U E.heap.size pp rr cU dU nv' cE.size hpp hrr
    have K0001 : ∀ (E : World), ∀ (bV : Nat), ∀ (cE : Chg [a] wr E), ∀ (dE : Dr E a 7000), ∀ (nv : EV bV E), ∀ (bv : wr.heap.size ≤ bV), F 8 #[true, true, true, true, false, true, true, true, true, false, true, false, false, true, false, false, false, true, false] (⟨#[.slice p zs.length cap, undef, .pointer (some ⟨w.heap.size, 0, none⟩), .pointer (some ⟨w.heap.size + 1, 0, none⟩), .pointer (some ⟨a, 0, none⟩), .pointer (some ⟨u2.heap.size, 0, none⟩), .pointer (some ⟨bV, 0, none⟩), .slice p zs.length cap, .pointer (some ⟨a, 0, none⟩), .pointer (some ⟨a, 0, none⟩), .agg #[.slice pg g.ns.length cg, .slice qg g.es.length dg], .pointer (some ⟨a, 0, none⟩), .pointer (some ⟨u2.heap.size, 0, none⟩), .slice pg g.ns.length cg, .int .i64 g.ns.length, undef, .pointer (some ⟨a, 0, none⟩), .pointer (some ⟨u2.heap.size, 0, none⟩), .slice pg g.ns.length cg, .int .i64 g.ns.length, undef, .pointer (some ⟨a, 0, none⟩), undef, undef, .pointer (some ⟨a, 0, none⟩), undef, undef, undef, undef, undef, undef, undef, undef, undef, undef, undef, undef, undef, undef], []⟩ : Act) E := by
      intro E bV cE dE nv bv
      rw [← hF]
      refine upE (rs := [4, 11, 14]) (by kernel_rfl) (by simp) (AllE'.cons (i := 4) rfl (by kernel_rfl) (fun K hK => ?_) (AllE'.cons (i := 11) rfl (by kernel_rfl) (fun K hK => ?_) (AllE'.cons (i := 14) rfl (by kernel_rfl) (fun K hK => ?_) AllE'.nil)))
      · go_simp
        go_at_call 53
        refine Calls.mono (pick_sm _ a 7000 E dE (by omega) hnl) ?_
        rintro en U ⟨q, rfl, hq0, hq1, dU, kU⟩
        have cU : Chg [a] wr U := cE.trans kU
        go_wp2_with fail
        refine hK.out _ _ (HK.out _ cU) (fun hHeld => ?_)
        clear hK K
        simp only [List.setIfInBounds_toArray, List.set_cons_zero, List.set_cons_succ]
        rw [hF]
        exact K1001 U bV q cU dU (nv.chg kU (by simp; omega)) bv ⟨hq0, hq1⟩
      · go_simp
        refine made (K := K) strB_spec 4 (by rfl) (by kernel_rfl) ?_
        intro U kU zU sA'
        have cU : Chg [a] wr U := cE.trans (kU.mono (by simp))
        have dU : Dr U a 7000 := dE.chg kU (by simp)
        have nn : E.heap.size ≠ a := by have := cE.size; omega
        refine hK.out _ _ (HK.out _ cU) (fun hHeld => ?_)
        clear hK K
        simp only [List.setIfInBounds_toArray, List.set_cons_zero, List.set_cons_succ]
        rw [hF]
        exact K0101 U E.heap.size bV cU dU sA' nn (nv.chg kU (by simp)) bv
      · go_simp
        refine made (K := K) intB_spec 4 (by rfl) (by kernel_rfl) ?_
        intro U kU zU sB'
        have cU : Chg [a] wr U := cE.trans (kU.mono (by simp))
        have dU : Dr U a 7000 := dE.chg kU (by simp)
        have nn : E.heap.size ≠ a := by have := cE.size; omega
        refine hK.out _ _ (HK.out _ cU) (fun hHeld => ?_)
        clear hK K
        simp only [List.setIfInBounds_toArray, List.set_cons_zero, List.set_cons_succ]
        rw [hF]
        exact K0011 U E.heap.size bV cU dU sB' nn (nv.chg kU (by simp)) bv
    have K0010 : ∀ (E : World), ∀ (bB : Nat), ∀ (cE : Chg [a] wr E), ∀ (dE : Dr E a 7000), ∀ (sB : Cs intP E bB 4), ∀ (nB : bB ≠ a), F 8 #[true, true, true, true, false, true, true, true, true, false, true, false, false, true, true, false, false, false, false] (⟨#[.slice p zs.length cap, undef, .pointer (some ⟨w.heap.size, 0, none⟩), .pointer (some ⟨w.heap.size + 1, 0, none⟩), .pointer (some ⟨a, 0, none⟩), .pointer (some ⟨u2.heap.size, 0, none⟩), undef, .slice p zs.length cap, .pointer (some ⟨a, 0, none⟩), .pointer (some ⟨a, 0, none⟩), .agg #[.slice pg g.ns.length cg, .slice qg g.es.length dg], .pointer (some ⟨a, 0, none⟩), .pointer (some ⟨u2.heap.size, 0, none⟩), .slice pg g.ns.length cg, .int .i64 g.ns.length, undef, .pointer (some ⟨a, 0, none⟩), .pointer (some ⟨u2.heap.size, 0, none⟩), .slice pg g.ns.length cg, .int .i64 g.ns.length, undef, .pointer (some ⟨a, 0, none⟩), undef, undef, .pointer (some ⟨a, 0, none⟩), .slice (some ⟨bB, 0, none⟩) 4 4, undef, undef, undef, undef, undef, undef, undef, undef, undef, undef, undef, undef, undef], []⟩ : Act) E := by
      intro E bB cE dE sB nB
      rw [← hF]
      refine upE (rs := [4, 11, 17]) (by kernel_rfl) (by simp) (AllE'.cons (i := 4) rfl (by kernel_rfl) (fun K hK => ?_) (AllE'.cons (i := 11) rfl (by kernel_rfl) (fun K hK => ?_) (AllE'.cons (i := 17) rfl (by kernel_rfl) (fun K hK => ?_) AllE'.nil)))
      · go_simp
        go_at_call 53
        refine Calls.mono (pick_sm _ a 7000 E dE (by omega) hnl) ?_
        rintro en U ⟨q, rfl, hq0, hq1, dU, kU⟩
        have cU : Chg [a] wr U := cE.trans kU
        go_wp2_with fail
        refine hK.out _ _ (HK.out _ cU) (fun hHeld => ?_)
        clear hK K
        simp only [List.setIfInBounds_toArray, List.set_cons_zero, List.set_cons_succ]
        rw [hF]
        exact K1010 U bB q cU dU (sB.chg kU (by simpa using nB)) nB ⟨hq0, hq1⟩
      · go_simp
        refine made (K := K) strB_spec 4 (by rfl) (by kernel_rfl) ?_
        intro U kU zU sA'
        have cU : Chg [a] wr U := cE.trans (kU.mono (by simp))
        have dU : Dr U a 7000 := dE.chg kU (by simp)
        have nn : E.heap.size ≠ a := by have := cE.size; omega
        refine hK.out _ _ (HK.out _ cU) (fun hHeld => ?_)
        clear hK K
        simp only [List.setIfInBounds_toArray, List.set_cons_zero, List.set_cons_succ]
        rw [hF]
        exact K0110 U E.heap.size bB cU dU sA' nn (sB.chg kU (by simp)) nB
      · go_simp
        refine madeEV (K := K) ?_
        intro U kU zU nv'
        have cU : Chg [a] wr U := cE.trans (kU.mono (by simp))
        have dU : Dr U a 7000 := dE.chg kU (by simp)
        refine hK.out _ _ (HK.out _ cU) (fun hHeld => ?_)
        clear hK K
        simp only [List.setIfInBounds_toArray, List.set_cons_zero, List.set_cons_succ]
        rw [hF]
        exact K0011 U bB E.heap.size cU dU (sB.chg kU (by simp)) nB nv' cE.size
    have K0100 : ∀ (E : World), ∀ (bA : Nat), ∀ (cE : Chg [a] wr E), ∀ (dE : Dr E a 7000), ∀ (sA : Cs strP E bA 4), ∀ (nA : bA ≠ a), F 8 #[true, true, true, true, false, true, true, true, true, false, true, true, false, true, false, false, false, false, false] (⟨#[.slice p zs.length cap, undef, .pointer (some ⟨w.heap.size, 0, none⟩), .pointer (some ⟨w.heap.size + 1, 0, none⟩), .pointer (some ⟨a, 0, none⟩), .pointer (some ⟨u2.heap.size, 0, none⟩), undef, .slice p zs.length cap, .pointer (some ⟨a, 0, none⟩), .pointer (some ⟨a, 0, none⟩), .agg #[.slice pg g.ns.length cg, .slice qg g.es.length dg], .pointer (some ⟨a, 0, none⟩), .pointer (some ⟨u2.heap.size, 0, none⟩), .slice pg g.ns.length cg, .int .i64 g.ns.length, undef, .pointer (some ⟨a, 0, none⟩), .pointer (some ⟨u2.heap.size, 0, none⟩), .slice pg g.ns.length cg, .int .i64 g.ns.length, undef, .pointer (some ⟨a, 0, none⟩), .slice (some ⟨bA, 0, none⟩) 4 4, undef, .pointer (some ⟨a, 0, none⟩), undef, undef, undef, undef, undef, undef, undef, undef, undef, undef, undef, undef, undef, undef], []⟩ : Act) E := by
      intro E bA cE dE sA nA
      rw [← hF]
      refine upE (rs := [4, 14, 17]) (by kernel_rfl) (by simp) (AllE'.cons (i := 4) rfl (by kernel_rfl) (fun K hK => ?_) (AllE'.cons (i := 14) rfl (by kernel_rfl) (fun K hK => ?_) (AllE'.cons (i := 17) rfl (by kernel_rfl) (fun K hK => ?_) AllE'.nil)))
      · go_simp
        go_at_call 53
        refine Calls.mono (pick_sm _ a 7000 E dE (by omega) hnl) ?_
        rintro en U ⟨q, rfl, hq0, hq1, dU, kU⟩
        have cU : Chg [a] wr U := cE.trans kU
        go_wp2_with fail
        refine hK.out _ _ (HK.out _ cU) (fun hHeld => ?_)
        clear hK K
        simp only [List.setIfInBounds_toArray, List.set_cons_zero, List.set_cons_succ]
        rw [hF]
        exact K1100 U bA q cU dU (sA.chg kU (by simpa using nA)) nA ⟨hq0, hq1⟩
      · go_simp
        refine made (K := K) intB_spec 4 (by rfl) (by kernel_rfl) ?_
        intro U kU zU sB'
        have cU : Chg [a] wr U := cE.trans (kU.mono (by simp))
        have dU : Dr U a 7000 := dE.chg kU (by simp)
        have nn : E.heap.size ≠ a := by have := cE.size; omega
        refine hK.out _ _ (HK.out _ cU) (fun hHeld => ?_)
        clear hK K
        simp only [List.setIfInBounds_toArray, List.set_cons_zero, List.set_cons_succ]
        rw [hF]
        exact K0110 U bA E.heap.size cU dU (sA.chg kU (by simp)) nA sB' nn
      · go_simp
        refine madeEV (K := K) ?_
        intro U kU zU nv'
        have cU : Chg [a] wr U := cE.trans (kU.mono (by simp))
        have dU : Dr U a 7000 := dE.chg kU (by simp)
        refine hK.out _ _ (HK.out _ cU) (fun hHeld => ?_)
        clear hK K
        simp only [List.setIfInBounds_toArray, List.set_cons_zero, List.set_cons_succ]
        rw [hF]
        exact K0101 U bA E.heap.size cU dU (sA.chg kU (by simp)) nA nv' cE.size
    have K1000 : ∀ (E : World), ∀ (pp : Int), ∀ (cE : Chg [a] wr E), ∀ (dE : Dr E a 7001), ∀ (hpp : 0 ≤ pp ∧ pp ≤ 1000), F 8 #[true, true, true, true, true, true, true, true, true, false, true, false, false, true, false, false, false, false, false] (⟨#[.slice p zs.length cap, undef, .pointer (some ⟨w.heap.size, 0, none⟩), .pointer (some ⟨w.heap.size + 1, 0, none⟩), .pointer (some ⟨a, 0, none⟩), .pointer (some ⟨u2.heap.size, 0, none⟩), undef, .slice p zs.length cap, .pointer (some ⟨a, 0, none⟩), .pointer (some ⟨a, 0, none⟩), .agg #[.slice pg g.ns.length cg, .slice qg g.es.length dg], .pointer (some ⟨a, 0, none⟩), .pointer (some ⟨u2.heap.size, 0, none⟩), .slice pg g.ns.length cg, .int .i64 g.ns.length, .int .i64 pp, .pointer (some ⟨a, 0, none⟩), .pointer (some ⟨u2.heap.size, 0, none⟩), .slice pg g.ns.length cg, .int .i64 g.ns.length, undef, .pointer (some ⟨a, 0, none⟩), undef, undef, .pointer (some ⟨a, 0, none⟩), undef, undef, undef, undef, undef, undef, undef, undef, undef, undef, undef, undef, undef, undef], []⟩ : Act) E := by
      intro E pp cE dE hpp
      rw [← hF]
      refine upE (rs := [9, 11, 14, 17]) (by kernel_rfl) (by simp) (AllE'.cons (i := 9) rfl (by kernel_rfl) (fun K hK => ?_) (AllE'.cons (i := 11) rfl (by kernel_rfl) (fun K hK => ?_) (AllE'.cons (i := 14) rfl (by kernel_rfl) (fun K hK => ?_) (AllE'.cons (i := 17) rfl (by kernel_rfl) (fun K hK => ?_) AllE'.nil))))
      · go_simp
        go_at_call 53
        refine Calls.mono (pick_sm _ a 7001 E dE (by omega) hnl) ?_
        rintro en U ⟨q, rfl, hq0, hq1, dU, kU⟩
        have cU : Chg [a] wr U := cE.trans kU
        go_wp2_with fail
        refine hK.out _ _ (HK.out _ cU) (fun hHeld => ?_)
        clear hK K
        simp only [List.setIfInBounds_toArray, List.set_cons_zero, List.set_cons_succ]
        rw [hF]
        exact K2000 U pp q cU dU hpp ⟨hq0, hq1⟩
      · go_simp
        refine made (K := K) strB_spec 4 (by rfl) (by kernel_rfl) ?_
        intro U kU zU sA'
        have cU : Chg [a] wr U := cE.trans (kU.mono (by simp))
        have dU : Dr U a 7001 := dE.chg kU (by simp)
        have nn : E.heap.size ≠ a := by have := cE.size; omega
        refine hK.out _ _ (HK.out _ cU) (fun hHeld => ?_)
        clear hK K
        simp only [List.setIfInBounds_toArray, List.set_cons_zero, List.set_cons_succ]
        rw [hF]
        exact K1100 U E.heap.size pp cU dU sA' nn hpp
      · go_simp
        refine made (K := K) intB_spec 4 (by rfl) (by kernel_rfl) ?_
        intro U kU zU sB'
        have cU : Chg [a] wr U := cE.trans (kU.mono (by simp))
        have dU : Dr U a 7001 := dE.chg kU (by simp)
        have nn : E.heap.size ≠ a := by have := cE.size; omega
        refine hK.out _ _ (HK.out _ cU) (fun hHeld => ?_)
        clear hK K
        simp only [List.setIfInBounds_toArray, List.set_cons_zero, List.set_cons_succ]
        rw [hF]
        exact K1010 U E.heap.size pp cU dU sB' nn hpp
      · go_simp
        refine madeEV (K := K) ?_
        intro U kU zU nv'
        have cU : Chg [a] wr U := cE.trans (kU.mono (by simp))
        have dU : Dr U a 7001 := dE.chg kU (by simp)
        refine hK.out _ _ (HK.out _ cU) (fun hHeld => ?_)
        clear hK K
        simp only [List.setIfInBounds_toArray, List.set_cons_zero, List.set_cons_succ]
        rw [hF]
        exact K1001 U E.heap.size pp cU dU nv' cE.size hpp
    have K0000 : ∀ (E : World), ∀ (cE : Chg [a] wr E), ∀ (dE : Dr E a 7000), F 9 #[true, true, true, true, false, true, true, true, true, false, true, false, false, true, false, false, false, false, false] (⟨#[.slice p zs.length cap, undef, .pointer (some ⟨w.heap.size, 0, none⟩), .pointer (some ⟨w.heap.size + 1, 0, none⟩), .pointer (some ⟨a, 0, none⟩), .pointer (some ⟨u2.heap.size, 0, none⟩), undef, .slice p zs.length cap, .pointer (some ⟨a, 0, none⟩), .pointer (some ⟨a, 0, none⟩), .agg #[.slice pg g.ns.length cg, .slice qg g.es.length dg], .pointer (some ⟨a, 0, none⟩), .pointer (some ⟨u2.heap.size, 0, none⟩), .slice pg g.ns.length cg, .int .i64 g.ns.length, undef, .pointer (some ⟨a, 0, none⟩), .pointer (some ⟨u2.heap.size, 0, none⟩), .slice pg g.ns.length cg, .int .i64 g.ns.length, undef, .pointer (some ⟨a, 0, none⟩), undef, undef, .pointer (some ⟨a, 0, none⟩), undef, undef, undef, undef, undef, undef, undef, undef, undef, undef, undef, undef, undef, undef], []⟩ : Act) E := by
      intro E cE dE
      rw [← hF]
      refine upE (rs := [4, 11, 14, 17]) (by kernel_rfl) (by simp) (AllE'.cons (i := 4) rfl (by kernel_rfl) (fun K hK => ?_) (AllE'.cons (i := 11) rfl (by kernel_rfl) (fun K hK => ?_) (AllE'.cons (i := 14) rfl (by kernel_rfl) (fun K hK => ?_) (AllE'.cons (i := 17) rfl (by kernel_rfl) (fun K hK => ?_) AllE'.nil))))
      · go_simp
        go_at_call 53
        refine Calls.mono (pick_sm _ a 7000 E dE (by omega) hnl) ?_
        rintro en U ⟨q, rfl, hq0, hq1, dU, kU⟩
        have cU : Chg [a] wr U := cE.trans kU
        go_wp2_with fail
        refine hK.out _ _ (HK.out _ cU) (fun hHeld => ?_)
        clear hK K
        simp only [List.setIfInBounds_toArray, List.set_cons_zero, List.set_cons_succ]
        rw [hF]
        exact K1000 U q cU dU ⟨hq0, hq1⟩
      · go_simp
        refine made (K := K) strB_spec 4 (by rfl) (by kernel_rfl) ?_
        intro U kU zU sA'
        have cU : Chg [a] wr U := cE.trans (kU.mono (by simp))
        have dU : Dr U a 7000 := dE.chg kU (by simp)
        have nn : E.heap.size ≠ a := by have := cE.size; omega
        refine hK.out _ _ (HK.out _ cU) (fun hHeld => ?_)
        clear hK K
        simp only [List.setIfInBounds_toArray, List.set_cons_zero, List.set_cons_succ]
        rw [hF]
        exact K0100 U E.heap.size cU dU sA' nn
      · go_simp
        refine made (K := K) intB_spec 4 (by rfl) (by kernel_rfl) ?_
        intro U kU zU sB'
        have cU : Chg [a] wr U := cE.trans (kU.mono (by simp))
        have dU : Dr U a 7000 := dE.chg kU (by simp)
        have nn : E.heap.size ≠ a := by have := cE.size; omega
        refine hK.out _ _ (HK.out _ cU) (fun hHeld => ?_)
        clear hK K
        simp only [List.setIfInBounds_toArray, List.set_cons_zero, List.set_cons_succ]
        rw [hF]
        exact K0010 U E.heap.size cU dU sB' nn
      · go_simp
        refine madeEV (K := K) ?_
        intro U kU zU nv'
        have cU : Chg [a] wr U := cE.trans (kU.mono (by simp))
        have dU : Dr U a 7000 := dE.chg kU (by simp)
        refine hK.out _ _ (HK.out _ cU) (fun hHeld => ?_)
        clear hK K
        simp only [List.setIfInBounds_toArray, List.set_cons_zero, List.set_cons_succ]
        rw [hF]
        exact K0001 U E.heap.size cU dU nv' cE.size
    exact K0000 W0 cW dW
  case rest =>
    obtain ⟨b, ⟨ef, et, el, en⟩, rfl, hb, hev, hxo, d4, c4⟩ := hcut
    obtain ⟨wp, ewp⟩ : ∃ E, E = wc := ⟨_, rfl⟩
    subst ewp
    have HE4 := Lib.hid hev
    have HX4 := Lib.hid hxo
    have HC4 := Lib.hid c4
    have s4 := c4.size
    clear hev hxo c4
    go_wp2_with fail
    refine (pick_nat 12 a 7004 _ d4 (by omega) (by decide)).mono ?_
    rintro en' wq ⟨t, rfl, ht, d5, k5⟩
    have s5 := k5.size
    have HQ := Lib.hid (HC4.out.trans k5)
    have HEV := Lib.hid (HE4.out.chg k5 (by simp; omega))
    clear k5 d4
    by_cases h0 : t = 0
    · have q0 : ((t : Int) == 0) = true := beq_iff_eq.2 (by omega)
      clear h0
      obtain ⟨v0, v1, v2, v3, v4, v5, v6, v7, v8⟩ := HEV.out
      clear v1 v2 v3 v4 v5 v6 v7 v8
      go_wp2_with fail
      refine (num_dr a 7005 wq.heap.size 2 _ _ (d5.alloc _) (by omega) (Cs.fresh intB intB_spec _ _ _ rfl rfl (by kernel_rfl)) (by decide) (by omega)).mono ?_
      rintro en' u6 ⟨z, rfl, hz0, hz1, d6, k6⟩
      have k6' : Chg [a] wq u6 := ((Chg.refl _ _).alloc _).trans k6
      have s6 := k6'.size
      have HQ6 := Lib.hid (HQ.out.trans k6')
      have HE6 := Lib.hid (HEV.out.chg k6' (by simp; omega))
      clear k6 k6'
      obtain ⟨v0, v1, v2, v3, v4, v5, v6, v7, v8⟩ := HE6.out
      go_upto_region 6 with fail
      obtain ⟨wz, ewz⟩ : ∃ E, E = u6.setCell ⟨b, 1, none⟩ (.int .i64 z) := ⟨_, rfl⟩
      have ks : Chg [b] u6 wz := by rw [ewz]; exact (Chg.refl _ _).setCell (by simp) _
      have HEZ := Lib.hid (show EVal b ⟨ef, z, el, en⟩ wz by rw [ewz]; exact EVal.set1 HE6.out z)
      rw [← ewz]
      clear ewz v0 v1 v2 v3 v4 v5 v6 v7 v8
      have dz := (d6.mono (show _ ≤ 7006 by omega)).chg ks (by simp; omega)
      have HQZ := Lib.hid (HQ6.out.past ks (by simp; omega))
      have HXZ := Lib.hid (show Ed.Ok ⟨ef, z, el, en⟩ from ⟨HX4.out.1, by unfold I64; simp only; omega, HX4.out.2.2⟩)
      have sz := HQZ.out.size
      clear ks HEV HQ HQ6 HE6 HE4 HC4 HX4 d5 d6
      have HS := Lib.hid (fun (E : World) (hE : Chg [a, w.heap.size, w.heap.size + 1] wz E) => (show (E.cell? ⟨u2.heap.size, 0, none⟩ = some (.slice pg g.ns.length cg) ∧ E.cell? ⟨u2.heap.size, 1, none⟩ = some (.slice qg g.es.length dg)) ∧ (E.cell? ⟨b, 0, none⟩ = some (.int .i64 ef) ∧ E.cell? ⟨b, 1, none⟩ = some (.int .i64 z) ∧ E.cell? ⟨b, 2, none⟩ = some (.string el) ∧ E.cell? ⟨b, 3, none⟩ = some (.int .i64 en)) from
        ⟨⟨hE.cellOf (by simp; omega) (HK.out wz HQZ.out).1, hE.cellOf (by simp; omega) (HK.out wz HQZ.out).2⟩, hE.cellOf (by simp; omega) HEZ.out.2.1, hE.cellOf (by simp; omega) HEZ.out.2.2.1, hE.cellOf (by simp; omega) HEZ.out.2.2.2.1, hE.cellOf (by simp; omega) HEZ.out.2.2.2.2.1⟩))
      go_upto_region 6 with fail
      refine wp_region_E (last := 5) (S := fun w' => (w'.cell? ⟨u2.heap.size, 0, none⟩ = some (.slice pg g.ns.length cg) ∧ w'.cell? ⟨u2.heap.size, 1, none⟩ = some (.slice qg g.es.length dg)) ∧ (w'.cell? ⟨b, 0, none⟩ = some (.int .i64 ef) ∧ w'.cell? ⟨b, 1, none⟩ = some (.int .i64 z) ∧ w'.cell? ⟨b, 2, none⟩ = some (.string el) ∧ w'.cell? ⟨b, 3, none⟩ = some (.int .i64 en))) (by kernel_rfl) ?_ (fun hHeld => ?_)
      · exact HS.out _ (Chg.drew (Chg.refl _ _))
      have cW : Chg [a] wz wz.drew := Chg.drew (Chg.refl _ _)
      have dW : Dr wz.drew a 7006 := dz.drew
      have yW : wz.heap.size ≤ wz.drew.heap.size := cW.size
      generalize wz.drew = W0 at cW dW yW hHeld ⊢
      (refine takeE (i := 0) (v := ?_) [] rfl (by kernel_rfl) (by kernel_rfl) (fun _ _ _ h => h) (Or.inl ⟨by kernel_rfl, ?_⟩) (by assumption) ?_; rotate_left; (focus (intro w hSw; (try dsimp only at hSw); go_simp; first | done | with_reducible rfl | fail "takeE")); (try simp only [Act.put, List.setIfInBounds_toArray, List.set_cons_zero, List.set_cons_succ]))
      (refine takeE (i := 1) (v := ?_) [] rfl (by kernel_rfl) (by kernel_rfl) (fun _ _ _ h => h) (Or.inl ⟨by kernel_rfl, ?_⟩) (by assumption) ?_; rotate_left; (focus (intro w hSw; (try dsimp only at hSw); go_simp; first | done | with_reducible rfl | fail "takeE")); (try simp only [Act.put, List.setIfInBounds_toArray, List.set_cons_zero, List.set_cons_succ]))
      (refine takeE (i := 3) (v := ?_) [] rfl (by kernel_rfl) (by kernel_rfl) (fun _ _ _ h => h) (Or.inl ⟨by kernel_rfl, ?_⟩) (by assumption) ?_; rotate_left; (focus (intro w hSw; (try dsimp only at hSw); go_simp; first | done | with_reducible rfl | fail "takeE")); (try simp only [Act.put, List.setIfInBounds_toArray, List.set_cons_zero, List.set_cons_succ]))
      refine oneE (i := 2) rfl (by kernel_rfl) (by kernel_rfl) (fun K hK => ?_)
      go_simp
      go_at_call 83
      refine Calls.mono (l1Wrong_any g _ W0.heap.size a 7006 1000 W0 (HG.out.chg (HQZ.out.trans cW) (by simp; omega)).1.at (Nat.le_refl _) HOK.out HLN.out (by omega) dW (by omega)) ?_
      rintro en U1 ⟨y, vy, Fy, rfl, ⟨hy, hyl, hyok, hyln⟩, dU1, kU1⟩
      obtain ⟨py, cy, qy, dy, rfl⟩ := Gr.At.form' hy.at
      have kU : Chg [a] wz U1 := cW.trans kU1
      have cU1 : Chg [a, w.heap.size, w.heap.size + 1] wz U1 := kU.mono (by simp)
      have cU2 : Chg [a] wr U1 := HQZ.out.trans kU
      have HY := Lib.hid hy
      have HYL := Lib.hid hyl
      have HYK := Lib.hid hyok
      have HYN := Lib.hid hyln
      have HU := Lib.hid cU2
      have yU1 := kU1.size
      clear hy hyl hyok hyln
      go_wp2_with fail
      refine hK.out _ _ (HS.out _ (cU1)) (fun hHeld => ?_)
      clear hK K
      (try simp only [Act.put, List.setIfInBounds_toArray, List.set_cons_zero, List.set_cons_succ])
      refine oneE (i := 4) rfl (by kernel_rfl) (by kernel_rfl) (fun K hK => ?_)
      obtain ⟨⟨g0, g1, g2, g3, g4⟩, v0, v1, v2, v3, v4, v5, v6, v7, v8⟩ := HR.out _ HU.out
      go_simp
      refine hK.out _ _ (HS.out _ (show Chg [a, w.heap.size, w.heap.size + 1] wz _ by ((repeat (first | with_reducible assumption | with_reducible exact Chg.refl _ _ | refine Chg.setCell ?_ (by simp) _ | refine Chg.alloc ?_ _ | refine Chg.drew ?_)); first | done | fail "chn5"))) (fun hHeld => ?_)
      clear hK K
      (try simp only [Act.put, List.setIfInBounds_toArray, List.set_cons_zero, List.set_cons_succ])
      refine lastE rfl (by kernel_rfl) (by kernel_rfl) (fun K hK => ?_)
      go_simp
      refine hK.out _ _ ?_
      clear hK K
      refine doneE (by kernel_rfl) ?_ _
      go_wp2_with fail
      refine bodyPost_ret (v := .tuple #[.agg #[.slice py y.ns.length cy, .slice qy y.es.length dy], .agg #[.int .i64 ef, .int .i64 z, .string el, .int .i64 en]]) (by simp [results, Try.results31, go_sem, g1, g2, v1, v2, v3, v4]) rfl ?_
      have hs : ∀ E, Chg [w.heap.size, w.heap.size + 1] U1 E → CaseGE w (.returned (.tuple #[.agg #[.slice py y.ns.length cy, .slice qy y.es.length dy], .agg #[.int .i64 ef, .int .i64 z, .string el, .int .i64 en]])) E := by
        intro E hE
        exact ⟨y, _, _, ⟨ef, z, el, en⟩, rfl, ⟨HY.out.chg hE (fun o hz hm => by have := HYL.out o hz; simp at hm; omega), fun o hz => by have := HYL.out o hz; omega, HYK.out, by have := HYN.out.1; omega, by have := HYN.out.2; omega⟩, HXZ.out, (HKX.out.past ((HU.out.mono (show ∀ o ∈ [a], o ∈ [a, w.heap.size, w.heap.size + 1] by simp)).trans (hE.mono (by simp))) (by simp; omega)).of0⟩
      refine hs _ ?_
      repeat (first | exact Chg.refl _ _ | refine Chg.setCell ?_ (by simp) _ | refine Chg.alloc ?_ _ | refine Chg.drew ?_)
    · have q0 : ((t : Int) == 0) = false := beq_eq_false_iff_ne.2 (by omega)
      have dq : Dr wq a 7006 := d5.mono (by omega)
      have HXO := HX4
      clear h0 d5 HX4 HE4 HC4
      have HS := Lib.hid (fun (E : World) (hE : Chg [a, w.heap.size, w.heap.size + 1] wq E) => (show (E.cell? ⟨u2.heap.size, 0, none⟩ = some (.slice pg g.ns.length cg) ∧ E.cell? ⟨u2.heap.size, 1, none⟩ = some (.slice qg g.es.length dg)) ∧ (E.cell? ⟨b, 0, none⟩ = some (.int .i64 ef) ∧ E.cell? ⟨b, 1, none⟩ = some (.int .i64 et) ∧ E.cell? ⟨b, 2, none⟩ = some (.string el) ∧ E.cell? ⟨b, 3, none⟩ = some (.int .i64 en)) from
        ⟨⟨hE.cellOf (by simp; omega) (HK.out wq HQ.out).1, hE.cellOf (by simp; omega) (HK.out wq HQ.out).2⟩, hE.cellOf (by simp; omega) HEV.out.2.1, hE.cellOf (by simp; omega) HEV.out.2.2.1, hE.cellOf (by simp; omega) HEV.out.2.2.2.1, hE.cellOf (by simp; omega) HEV.out.2.2.2.2.1⟩))
      go_upto_region 6 with fail
      refine wp_region_E (last := 5) (S := fun w' => (w'.cell? ⟨u2.heap.size, 0, none⟩ = some (.slice pg g.ns.length cg) ∧ w'.cell? ⟨u2.heap.size, 1, none⟩ = some (.slice qg g.es.length dg)) ∧ (w'.cell? ⟨b, 0, none⟩ = some (.int .i64 ef) ∧ w'.cell? ⟨b, 1, none⟩ = some (.int .i64 et) ∧ w'.cell? ⟨b, 2, none⟩ = some (.string el) ∧ w'.cell? ⟨b, 3, none⟩ = some (.int .i64 en))) (by kernel_rfl) ?_ (fun hHeld => ?_)
      · exact HS.out _ (Chg.drew (Chg.refl _ _))
      have cW : Chg [a] wq wq.drew := Chg.drew (Chg.refl _ _)
      have dW : Dr wq.drew a 7006 := dq.drew
      have yW : wq.heap.size ≤ wq.drew.heap.size := cW.size
      generalize wq.drew = W0 at cW dW yW hHeld ⊢
      (refine takeE (i := 0) (v := ?_) [] rfl (by kernel_rfl) (by kernel_rfl) (fun _ _ _ h => h) (Or.inl ⟨by kernel_rfl, ?_⟩) (by assumption) ?_; rotate_left; (focus (intro w hSw; (try dsimp only at hSw); go_simp; first | done | with_reducible rfl | fail "takeE")); (try simp only [Act.put, List.setIfInBounds_toArray, List.set_cons_zero, List.set_cons_succ]))
      (refine takeE (i := 1) (v := ?_) [] rfl (by kernel_rfl) (by kernel_rfl) (fun _ _ _ h => h) (Or.inl ⟨by kernel_rfl, ?_⟩) (by assumption) ?_; rotate_left; (focus (intro w hSw; (try dsimp only at hSw); go_simp; first | done | with_reducible rfl | fail "takeE")); (try simp only [Act.put, List.setIfInBounds_toArray, List.set_cons_zero, List.set_cons_succ]))
      (refine takeE (i := 3) (v := ?_) [] rfl (by kernel_rfl) (by kernel_rfl) (fun _ _ _ h => h) (Or.inl ⟨by kernel_rfl, ?_⟩) (by assumption) ?_; rotate_left; (focus (intro w hSw; (try dsimp only at hSw); go_simp; first | done | with_reducible rfl | fail "takeE")); (try simp only [Act.put, List.setIfInBounds_toArray, List.set_cons_zero, List.set_cons_succ]))
      refine oneE (i := 2) rfl (by kernel_rfl) (by kernel_rfl) (fun K hK => ?_)
      go_simp
      go_at_call 83
      refine Calls.mono (l1Wrong_any g _ W0.heap.size a 7006 1000 W0 (HG.out.chg (HQ.out.trans cW) (by simp; omega)).1.at (Nat.le_refl _) HOK.out HLN.out (by omega) dW (by omega)) ?_
      rintro en U1 ⟨y, vy, Fy, rfl, ⟨hy, hyl, hyok, hyln⟩, dU1, kU1⟩
      obtain ⟨py, cy, qy, dy, rfl⟩ := Gr.At.form' hy.at
      have kU : Chg [a] wq U1 := cW.trans kU1
      have cU1 : Chg [a, w.heap.size, w.heap.size + 1] wq U1 := kU.mono (by simp)
      have cU2 : Chg [a] wr U1 := HQ.out.trans kU
      have HY := Lib.hid hy
      have HYL := Lib.hid hyl
      have HYK := Lib.hid hyok
      have HYN := Lib.hid hyln
      have HU := Lib.hid cU2
      have yU1 := kU1.size
      clear hy hyl hyok hyln
      go_wp2_with fail
      refine hK.out _ _ (HS.out _ (cU1)) (fun hHeld => ?_)
      clear hK K
      (try simp only [Act.put, List.setIfInBounds_toArray, List.set_cons_zero, List.set_cons_succ])
      refine oneE (i := 4) rfl (by kernel_rfl) (by kernel_rfl) (fun K hK => ?_)
      obtain ⟨⟨g0, g1, g2, g3, g4⟩, v0, v1, v2, v3, v4, v5, v6, v7, v8⟩ := HR.out _ HU.out
      go_simp
      refine hK.out _ _ (HS.out _ (show Chg [a, w.heap.size, w.heap.size + 1] wq _ by ((repeat (first | with_reducible assumption | with_reducible exact Chg.refl _ _ | refine Chg.setCell ?_ (by simp) _ | refine Chg.alloc ?_ _ | refine Chg.drew ?_)); first | done | fail "chn5"))) (fun hHeld => ?_)
      clear hK K
      (try simp only [Act.put, List.setIfInBounds_toArray, List.set_cons_zero, List.set_cons_succ])
      refine lastE rfl (by kernel_rfl) (by kernel_rfl) (fun K hK => ?_)
      go_simp
      refine hK.out _ _ ?_
      clear hK K
      refine doneE (by kernel_rfl) ?_ _
      go_wp2_with fail
      refine bodyPost_ret (v := .tuple #[.agg #[.slice py y.ns.length cy, .slice qy y.es.length dy], .agg #[.int .i64 ef, .int .i64 et, .string el, .int .i64 en]]) (by simp [results, Try.results31, go_sem, g1, g2, v1, v2, v3, v4]) rfl ?_
      have hs : ∀ E, Chg [w.heap.size, w.heap.size + 1] U1 E → CaseGE w (.returned (.tuple #[.agg #[.slice py y.ns.length cy, .slice qy y.es.length dy], .agg #[.int .i64 ef, .int .i64 et, .string el, .int .i64 en]])) E := by
        intro E hE
        exact ⟨y, _, _, ⟨ef, et, el, en⟩, rfl, ⟨HY.out.chg hE (fun z hz hm => by have := HYL.out z hz; simp at hm; omega), fun z hz => by have := HYL.out z hz; omega, HYK.out, by have := HYN.out.1; omega, by have := HYN.out.2; omega⟩, HXO.out, (HKX.out.past ((HU.out.mono (show ∀ z ∈ [a], z ∈ [a, w.heap.size, w.heap.size + 1] by simp)).trans (hE.mono (by simp))) (by simp; omega)).of0⟩
      refine hs _ ?_
      repeat (first | exact Chg.refl _ _ | refine Chg.setCell ?_ (by simp) _ | refine Chg.alloc ?_ _ | refine Chg.drew ?_)
end Go.Proofs.Ytchhobphockhhaa
