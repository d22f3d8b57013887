/- l5Draw: some graph and some walk, in memory of the call's own. -/
import Derived.Test.YtfdkmngkpihpbaaL1D
import Derived.Test.YtfdkmngkpihpbaaDr2
import Derived.Test.YtfdkmngkpihpbaaHop3
import Derived.RegionTactic
namespace Go.Proofs.Ytfdkmngkpihpbaa
open Go.RowKit

/-- A drawn graph in memory of the call's own, from block lo on. -/
def GD (g : Gr) (v : Value) (F : List Nat) (lo : Nat) (w : World) : Prop := g.Has v F w ∧ (∀ y ∈ F, lo ≤ y) ∧ g.Ok ∧ g.ns.length ≤ 1000 ∧ g.es.length ≤ 1000
/-- A drawn walk. -/
def WD (x : Wk) (v : Value) (F : List Nat) (lo : Nat) (w : World) : Prop := x.Has v F w ∧ (∀ y ∈ F, lo ≤ y) ∧ x.need ≤ 40
def DrewGW (a N : Nat) (w : World) (e : Ending) (w' : World) : Prop :=
  ∃ (g : Gr) (vg : Value) (Fg : List Nat) (x : Wk) (vx : Value) (Fx : List Nat), e = .returned (.tuple #[vg, vx]) ∧ GD g vg Fg w.heap.size w' ∧ WD x vx Fx w.heap.size w' ∧ x.ns.length = x.es.length + 1 ∧ x.es.length ≤ 5 ∧ Dr w' a (N + 7010) ∧ Chg [a] w w'
theorem GD.chg {g : Gr} {v : Value} {F G : List Nat} {lo : Nat} {w w' : World} (h : GD g v F lo w) (hc : Chg G w w') (hG : ∀ x ∈ G, x < lo) : GD g v F lo w' :=
  ⟨h.1.chg hc (fun x hx hm => by have := hG x hm; have := h.2.1 x hx; omega), h.2⟩
theorem WD.chg {x : Wk} {v : Value} {F G : List Nat} {lo : Nat} {w w' : World} (h : WD x v F lo w) (hc : Chg G w w') (hG : ∀ x ∈ G, x < lo) : WD x v F lo w' :=
  ⟨h.1.chg hc (fun x hx hm => by have := hG x hm; have := h.2.1 x hx; omega), h.2⟩
theorem GD.lo {g : Gr} {v : Value} {F : List Nat} {lo lo' : Nat} {w : World} (h : GD g v F lo w) (hl : lo' ≤ lo) : GD g v F lo' w := ⟨h.1, fun y hy => Nat.le_trans hl (h.2.1 y hy), h.2.2⟩
theorem WD.lo {x : Wk} {v : Value} {F : List Nat} {lo lo' : Nat} {w : World} (h : WD x v F lo w) (hl : lo' ≤ lo) : WD x v F lo' w := ⟨h.1, fun y hy => Nat.le_trans hl (h.2.1 y hy), h.2.2⟩
theorem Gr.Has.form {g : Gr} {v : Value} {F : List Nat} {w : World} (h : g.Has v F w) : ∃ p c q d, v = .agg #[.slice p g.ns.length c, .slice q g.es.length d] := by
  obtain ⟨a, b, rfl, h1, h2⟩ := h.at
  obtain ⟨p, c, rfl⟩ := h1.form
  obtain ⟨q, d, rfl⟩ := h2.form
  exact ⟨p, c, q, d, rfl⟩
theorem Wk.Has.form {x : Wk} {v : Value} {F : List Nat} {w : World} (h : x.Has v F w) : ∃ p c q d, v = .agg #[.slice p x.ns.length c, .slice q x.es.length d] := h.at.form
/-- A hop's two cells. -/
theorem Sl.hq {B : Nat} {w : World} {p : Option Addr} {len cap : Nat} {xs : List (Int × Int)} (h : Sl 2 hqCells B w (.slice p len cap) xs) {k : Nat} (hk : k < xs.length) :
    ∃ b off, p = some ⟨b, off, none⟩ ∧ b < B ∧ w.cell? ⟨b, off + k * 2, none⟩ = some (.int .i64 xs[k].1) ∧ w.cell? ⟨b, off + k * 2 + 1, none⟩ = some (.int .i64 xs[k].2) := by
  obtain ⟨p', len', cap', h1, h2, h3, h4, h5⟩ := h
  cases h1
  obtain ⟨b, off, e1, e2, e3⟩ := h5 k hk
  exact ⟨b, off, e1, e2, e3 0 _ rfl, e3 1 _ rfl⟩
/-- A row of one, made by a list of one. -/
theorem ownOne (E : World) (q : Int) : OwnS 1 intCells 3 (E.alloc (.cells #[.int .i64 q] 3)) (.slice (some ⟨E.heap.size, 0, none⟩) 1 1) [q] [E.heap.size] :=
  ⟨_, 1, rfl, Nat.le_refl _, by unfold maxLen; omega, .inr ⟨E.heap.size, _, rfl, rfl, heap_alloc_new E _, rfl, by simp [flt, intCells]⟩⟩

theorem OwnS.mem {α : Type} {sz : Nat} {enc : α → List Value} {e : TypeId} {w : World} {b o len cap : Nat} {xs : List α} {F : List Nat} (h : OwnS sz enc e w (.slice (some ⟨b, o, none⟩) len cap) xs F) (hx : xs ≠ []) : b ∈ F := by
  obtain ⟨p, c, e1, h2, h3, h4⟩ := h
  cases e1
  rcases h4 with ⟨h, _⟩ | ⟨b', cur, e2, rfl, _⟩
  · exact absurd h hx
  · cases e2; simp

set_option maxRecDepth 100000 in
set_option maxHeartbeats 16000000 in
theorem l5Draw_any (a N : Nat) (w : World) (h : Dr w a N) (hN : N ≤ 800000) :
    Calls Try.prog 85 #[.pointer (some ⟨a, 0, none⟩)] w (DrewGW a N w) := by
  have hal := h.lt
  have CG := Lib.hid (fun (E : World) (hE : Dr E a N) => l1Draw_any a N E hE (by omega))
  go_enter Try.func85, Try.ntmps85
  go_wp2_with fail
  obtain ⟨W1, eW1⟩ : ∃ x, x = (w.alloc (.cells #[.slice none 0 0, .slice none 0 0] 71)).alloc (.cells #[.slice none 0 0, .slice none 0 0] 25) := ⟨_, rfl⟩
  have sW1 : W1.heap.size = w.heap.size + 2 := by rw [eW1]; simp
  have HW1 := Lib.hid (show Chg [] w W1 by rw [eW1]; exact ((Chg.refl _ _).alloc _).alloc _)
  have HRES := Lib.hid (show (W1.cell? ⟨w.heap.size, 0, none⟩ = some (.slice none 0 0) ∧ W1.cell? ⟨w.heap.size, 1, none⟩ = some (.slice none 0 0) ∧ W1.cell? ⟨w.heap.size + 1, 0, none⟩ = some (.slice none 0 0) ∧ W1.cell? ⟨w.heap.size + 1, 1, none⟩ = some (.slice none 0 0)) ∧ W1.frozen? ⟨w.heap.size, 0, none⟩ = false ∧ W1.frozen? ⟨w.heap.size, 1, none⟩ = false ∧ W1.frozen? ⟨w.heap.size + 1, 0, none⟩ = false ∧ W1.frozen? ⟨w.heap.size + 1, 1, none⟩ = false by rw [eW1]; exact ⟨⟨by simp [go_sem], by simp [go_sem], by simp [go_sem], by simp [go_sem]⟩, by simp [go_sem], by simp [go_sem], by simp [go_sem], by simp [go_sem]⟩)
  rw [← eW1]
  refine (CG.out W1 (h.chg HW1.out (by simp))).mono ?_
  rintro en u1 ⟨g, vg, Fg, rfl, hgh, hgF, hgok, ⟨hg1, hg2⟩, d1, k1⟩
  obtain ⟨pg, cg, qg, dg, rfl⟩ := hgh.form
  have su1 : w.heap.size + 2 ≤ u1.heap.size := by have := k1.size; omega
  have HGH := Lib.hid hgh
  have HGF := Lib.hid hgF
  have HGO := Lib.hid hgok
  have HK1 := Lib.hid k1
  clear hgh hgF hgok k1
  go_wp2_with fail
  obtain ⟨W2, eW2⟩ : ∃ x, x = u1.alloc (.cells #[.slice pg g.ns.length cg, .slice qg g.es.length dg] 71) := ⟨_, rfl⟩
  have sW2 : W2.heap.size = u1.heap.size + 1 := by rw [eW2]; simp
  have kW2 : Chg [] u1 W2 := by rw [eW2]; exact (Chg.refl _ _).alloc _
  have HGV := Lib.hid (show W2.cell? ⟨u1.heap.size, 0, none⟩ = some (.slice pg g.ns.length cg) ∧ W2.cell? ⟨u1.heap.size, 1, none⟩ = some (.slice qg g.es.length dg) by rw [eW2]; exact ⟨by simp [go_sem], by simp [go_sem]⟩)
  have HG2 := Lib.hid (HGH.out.chg kW2 (by simp))
  have HC2 := Lib.hid ((HK1.out.trans (kW2.mono (by simp))) : Chg [a] W1 W2)
  have d2 := d1.chg kW2 (by simp)
  rw [← eW2]
  clear eW2 kW2
  refine (pick_dr _ a _ W2 d2 (by omega)).mono ?_
  rintro en u2 ⟨q, rfl, _, _, d3, k3⟩
  have su2 : W2.heap.size ≤ u2.heap.size := k3.size
  go_wp2_with fail
  obtain ⟨W3, eW3⟩ : ∃ x, x = ((u2.alloc (.cells #[.int .i64 q] 3)).alloc (.cells #[] 3)).alloc (.cells #[.slice (some ⟨u2.heap.size, 0, none⟩) 1 1, .slice (some ⟨u2.heap.size + 1, 0, none⟩) 0 0] 25) := ⟨_, rfl⟩
  have sW3 : W3.heap.size = u2.heap.size + 3 := by rw [eW3]; simp
  have kW3 : Chg [] u2 W3 := by rw [eW3]; exact (((Chg.refl _ _).alloc _).alloc _).alloc _
  have HT3 : WTwo [q] [] (u2.heap.size + 1 + 1) W2.heap.size (.slice (some ⟨u2.heap.size, 0, none⟩) 1 1) (.slice (some ⟨u2.heap.size + 1, 0, none⟩) 0 0) W3 := by
    rw [eW3]
    refine ⟨⟨by simp, by omega⟩, ⟨by simp [go_sem], by simp [go_sem]⟩, ⟨by simp [go_sem], by simp [go_sem]⟩, [u2.heap.size], [], ?_, OwnS.empty _, by simp; omega, by simp, by simp⟩
    exact (ownOne u2 q).chg (((Chg.refl [] _).alloc _).alloc _) (by simp)
  have d3' := d3.chg kW3 (by simp)
  have HC3 := Lib.hid (k3.trans (kW3.mono (by simp)) : Chg [a] W2 W3)
  rw [← eW3]
  clear eW3 k3
  refine (pick_nat 5 a _ W3 d3' (by omega) (by decide)).mono ?_
  rintro en u3 ⟨q3, rfl, hq3, d4, k4⟩
  have HC4 := Lib.hid (HC3.out.trans k4)
  have HT4 := Lib.hid (HT3.chg k4 (by simp; omega))
  clear HT3 k4 d3 d3' d2 d1
  have HGA := Lib.hid (fun (E : World) (hE : Chg [a] W2 E) => And.intro (And.intro (hE.cellOf (by simp; omega) HGV.out.1) (hE.cellOf (by simp; omega) HGV.out.2)) (HG2.out.chg hE (fun y hy => by have := HGF.out y hy; simp; omega)))
  go_wp2_with fail
  go_loopw [6] (fun i wr => ∃ (q : Int) (k : Nat) (ns es : List Int) (v1 v2 : Value), i = .int .i64 q ∧ q ≤ k ∧ k ≤ 5 ∧ WTwo ns es (u2.heap.size + 1 + 1) W2.heap.size v1 v2 wr ∧ ns.length = es.length + 1 ∧ es.length ≤ 5 - k ∧ Dr wr a (N + 7002 + (5 - k)) ∧ Chg [a] W2 wr) (fun i _ => (intOf i).toNat)
  case atStart => exact ⟨q3, 5, [q], [], _, _, rfl, by omega, Nat.le_refl _, HT4.out, rfl, by simp, d4.mono (by omega), HC4.out⟩
  case round =>
    obtain ⟨q, k, ns, es, v1, v2, rfl, hqk, hk, hT, hln, hle, hd, hc⟩ := hrel
    have HT := Lib.hid hT
    have HC := Lib.hid hc
    clear hT hc HT4 HC4 HC3 d4
    obtain ⟨⟨hb3, _⟩, ⟨x0, x1⟩, ⟨x2, x3⟩, F1, F2, o1, o2, _⟩ := HT.out
    obtain ⟨p1, c1, rfl⟩ := o1.form
    obtain ⟨p2, c2, rfl⟩ := o2.form
    have HS1 := Lib.hid (OwnS.own (enc := intCells) (fun _ => rfl) o1).sl
    clear o1 o2
    have hwr := HC.out.size
    obtain ⟨⟨g0, g1⟩, hgh⟩ := HGA.out wr HC.out
    have HGH := Lib.hid hgh
    clear hgh
    by_cases hpos : 0 < q
    · have q0 : decide (0 < q) = true := decide_eq_true hpos
      obtain ⟨b, off, rfl, hbb, cz⟩ := HS1.out.it (k := es.length) (by omega)
      obtain ⟨z, ez⟩ : ∃ z, z = ns[es.length] := ⟨_, rfl⟩
      rw [← ez] at cz
      clear ez
      have CH := Lib.hid (l3Hops3_any g _ z wr.heap.size wr HGH.out.at (Nat.le_refl _) (by omega))
      unfold elem3 at CH
      have hm := HS1.out.max
      unfold maxLen at hm
      have hl1 : es.length < ns.length := by omega
      have hl2 : ns.length ≤ es.length + 1 := by omega
      have HLN := Lib.hid hln
      clear hln
      have hi1 : (ns.length : Int) - 1 = (es.length : Int) := by omega
      have hi2 : IntKind.i64.wrap ((ns.length : Int) - 1) = (es.length : Int) := by rw [IntKind.wrap_i64]; omega
      go_wp2_with fail
      refine CH.out.mono ?_
      rintro en u4 ⟨vh, xs, Fh, rfl, hoh, hxl, hFh, hb4⟩
      obtain ⟨ph, ch, rfl⟩ := OwnS.form hoh
      have HSH := Lib.hid (OwnS.own (enc := hqCells) (fun _ => rfl) hoh).sl
      have HFH := Lib.hid hFh
      have HOH := Lib.hid hoh
      have k4 : Chg [a] wr u4 := Chg.of_below hb4 [a]
      have d4 := hd.below hb4
      have y0 := k4.cellOf (by simp; omega) x0
      have y1 := k4.cellOf (by simp; omega) x1
      clear hoh hFh hb4 x0 x1 x2 x3 g0 g1
      by_cases hx0 : xs.length = 0
      · have q4 : ((xs.length : Int) == 0) = true := beq_iff_eq.2 (by omega)
        have q5 : (0 < xs.length) = False := eq_false (by omega)
        clear hx0
        go_wp2_with fail
        go_roundw
        case rel => exact ⟨q - 1, k - 1, ns, es, _, _, by go_num, by omega, by omega, HT.out.chg k4 (by simp; omega), HLN.out, by omega, d4.mono (by omega), HC.out.trans k4⟩
        case measure => simp [intOf]; omega
      · have q5 : decide (0 < (xs.length : Int)) = true := decide_eq_true (by omega)
        have hxp : 0 < xs.length := by omega
        clear hx0
        have hmh := HSH.out.max
        unfold maxLen at hmh
        go_wp2_with fail
        refine (pick_nat xs.length a _ u4 d4 (by omega) hxp).mono ?_
        rintro en u5 ⟨j, rfl, hj, d5, k5⟩
        obtain ⟨bh, oh, rfl, hbh, ch0, ch1⟩ := ((HSH.out.hq hj))
        obtain ⟨hop, ehop⟩ : ∃ h, h = xs[j] := ⟨_, rfl⟩
        rw [← ehop] at ch0 ch1
        clear ehop
        have hba : bh ≠ a := by have := HFH.out bh (by have := HOH.out; exact OwnS.mem this (List.length_pos_iff.1 hxp)); omega
        have cj0 := k5.cellOf (by simpa using hba) ch0
        have cj1 := k5.cellOf (by simpa using hba) ch1
        have z0 := k5.cellOf (by simp; omega) y0
        have z1 := k5.cellOf (by simp; omega) y1
        have hk5 : Chg [a] wr u5 := k4.trans k5
        have hs5 : wr.heap.size ≤ u5.heap.size := hk5.size
        clear y0 y1 ch0 ch1
        have hq1 : u2.heap.size + 1 + 1 < u5.heap.size := by omega
        have HA := Lib.hid (appA (w := u5.alloc (.cells #[.int .i64 hop.1, .int .i64 hop.2] 131)) HT.out (hk5.alloc _) (by simp; omega) hop.2 (by omega))
        have HCH := Lib.hid ((Chg.refl [] u5).alloc (.cells #[.int .i64 hop.1, .int .i64 hop.2] 131))
        have HK5 := Lib.hid hk5
        have hs5' : wr.heap.size < u5.heap.size + 1 := by omega
        clear hk5 k5 k4 cz
        simp only [World.size_alloc] at HA
        go_wp2_with (first
          | (at_builtin; refine wpApp rfl (.tmp 49) (.tmp 52) 23 rfl _ _ rfl rfl _ HA.out ?_; rintro v2 w2 ⟨hT, ⟨e0, e1, e2, e3⟩, ⟨pv, cv, rfl⟩, G, hG, hGl⟩; have HT2 := Lib.hid hT; have HG := Lib.hid hG; have HGl := Lib.hid hGl; have f0 : w2.cell? ⟨u5.heap.size, 0, none⟩ = some (.int .i64 hop.1) := (set_far w2 _ 0 _ u5.heap.size 0 (by omega)).symm.trans (hG.cellOf (fun hm => by have := hGl _ hm; omega) (by simp [go_sem])); have HB := Lib.hid (appB hT (Chg.refl [] _) (by simp) hop.1 (by omega)); simp only [World.size_setCell] at HB; clear hT hG hGl)
          | (at_builtin; refine wpApp rfl (.tmp 56) (.tmp 59) 23 rfl _ _ rfl rfl _ HB.out ?_; rintro v3 w3 ⟨hT, ⟨i0, i1, i2, i3⟩, ⟨pu, cu, rfl⟩, G', hG, hGl⟩; have HT3 := Lib.hid hT; have HG3 := Lib.hid hG; have HGl3 := Lib.hid hGl; clear hT hG hGl)
          | (at_builtin; fail "append"))
        go_roundw
        case rel =>
          have r1 := ((d5.alloc (.cells #[.int .i64 hop.1, .int .i64 hop.2] 131)).chg HG.out (fun x hx => by have := HGl.out x hx; omega)).chg HG3.out (fun x hx => by have := HGl3.out x hx; omega)
          have r2 := (((HC.out.trans HK5.out).alloc (.cells #[.int .i64 hop.1, .int .i64 hop.2] 131)).past HG.out (fun x hx => .inr (by have := HGl.out x hx; omega))).past HG3.out (fun x hx => .inr (by have := HGl3.out x hx; omega))
          exact ⟨q - 1, k - 1, _, _, _, _, by go_num, by omega, by omega, HT3.out, by simp; omega, by simp; omega, r1.mono (by omega), r2⟩
        case measure => simp [intOf]; omega
    · have q0 : decide (0 < q) = false := decide_eq_false hpos
      obtain ⟨⟨y0, y1, y2, y3⟩, y4, y5, y6, y7⟩ := HRES.out
      have hC1 : Chg [a] W1 wr := HC2.out.trans HC.out
      have z0 := hC1.cellOf (by simp; omega) y0
      have z1 := hC1.cellOf (by simp; omega) y1
      have z2 := hC1.cellOf (by simp; omega) y2
      have z3 := hC1.cellOf (by simp; omega) y3
      have z4 := hC1.frozenOf (by simp; omega) (by omega) y4
      have z5 := hC1.frozenOf (by simp; omega) (by omega) y5
      have z6 := hC1.frozenOf (by simp; omega) (by omega) y6
      have z7 := hC1.frozenOf (by simp; omega) (by omega) y7
      have HC1 := Lib.hid hC1
      clear y0 y1 y2 y3 y4 y5 y6 y7 hC1
      have HE := Lib.hid HT.out.has
      have HLN := Lib.hid hln
      clear hln
      have hq1 : w.heap.size + 1 < u2.heap.size + 1 + 1 := by omega
      have hq2 : w.heap.size + 1 < u1.heap.size := by omega
      go_wp2_with fail
      go_region
      all_goals
        go_wp2_with fail
        refine bodyPost_ret (v := .tuple #[.agg #[.slice pg g.ns.length cg, .slice qg g.es.length dg], .agg #[.slice p1 ns.length c1, .slice p2 es.length c2]]) (by simp [results, Try.results85, go_sem, z0, z1, z2, z3]) rfl ?_
        have hs : ∀ E, Chg [w.heap.size, w.heap.size + 1] wr E → DrewGW a N w (.returned (.tuple #[.agg #[.slice pg g.ns.length cg, .slice qg g.es.length dg], .agg #[.slice p1 ns.length c1, .slice p2 es.length c2]])) E := by
          intro E hE
          obtain ⟨F, hF, hFl⟩ := HE.out
          exact ⟨g, _, Fg, ⟨ns, es⟩, _, F, rfl, ⟨HGH.out.chg hE (fun x hx => by have := HGF.out x hx; simp; omega), fun x hx => by have := HGF.out x hx; omega, HGO.out, hg1, hg2⟩, ⟨hF.chg hE (fun x hx => by have := (hFl x hx).1; simp; omega), fun x hx => by have := (hFl x hx).1; omega, by have := HLN.out; unfold Wk.need; simp only; omega⟩, HLN.out, by simp only; omega, (hd.chg hE (by simp; omega)).mono (by omega), ((HW1.out.mono (by simp)).trans HC1.out).past hE (by simp)⟩
        refine hs _ ?_
        repeat (first | exact Chg.refl _ _ | refine Chg.setCell ?_ (by simp) _ | refine Chg.drew ?_)
end Go.Proofs.Ytfdkmngkpihpbaa
