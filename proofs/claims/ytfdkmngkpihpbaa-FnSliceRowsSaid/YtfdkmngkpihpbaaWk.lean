/- Walks: their data; what the laws do with them. -/
import Derived.Test.YtfdkmngkpihpbaaMarkG
import Derived.Test.YtfdkmngkpihpbaaLocV
namespace Go.Proofs.Ytfdkmngkpihpbaa
open Go.RowKit

structure Wk where
  ns : List Int
  es : List Int
def Wk.Ok (x : Wk) : Prop := (∀ n ∈ x.ns, I64 n) ∧ (∀ n ∈ x.es, I64 n)
/-- The value of a struct Walk whose two slices lie below B. -/
def Wk.At (x : Wk) (B : Nat) (w : World) (v : Value) : Prop := ∃ a b, v = .agg #[a, b] ∧ Sl 1 intCells B w a x.ns ∧ Sl 1 intCells B w b x.es
theorem Wk.At.to {x : Wk} {B B' : Nat} {w w' : World} {v : Value} (h : x.At B w v) (hb : Below B w w') (hB : B ≤ B') : x.At B' w' v := by
  obtain ⟨a, b, h1, h2, h3⟩ := h
  exact ⟨a, b, h1, (h2.below hb).mono hB, (h3.below hb).mono hB⟩
theorem Wk.At.form {x : Wk} {B : Nat} {w : World} {v : Value} (h : x.At B w v) : ∃ p c q d, v = .agg #[.slice p x.ns.length c, .slice q x.es.length d] := by
  obtain ⟨a, b, rfl, h1, h2⟩ := h
  obtain ⟨p, c, rfl⟩ := h1.form
  obtain ⟨q, d, rfl⟩ := h2.form
  exact ⟨p, c, q, d, rfl⟩
/-- A walk in memory of the call's own, in the blocks F. -/
def Wk.Has (x : Wk) (v : Value) (F : List Nat) (u : World) : Prop :=
  ∃ a b F1 F2, v = .agg #[a, b] ∧ F = F1 ++ F2 ∧ OwnSl 1 intCells u a x.ns F1 ∧ OwnSl 1 intCells u b x.es F2 ∧ ∀ y ∈ F1, y ∉ F2
theorem Wk.Has.at {x : Wk} {v : Value} {F : List Nat} {w : World} (h : x.Has v F w) : x.At w.heap.size w v := by
  obtain ⟨a, b, F1, F2, rfl, rfl, h1, h2, _⟩ := h
  exact ⟨a, b, rfl, h1.sl, h2.sl⟩
theorem Wk.Has.chg {x : Wk} {v : Value} {F G : List Nat} {w w' : World} (h : x.Has v F w) (hc : Chg G w w') (hd : ∀ y ∈ F, y ∉ G) : x.Has v F w' := by
  obtain ⟨a, b, F1, F2, rfl, rfl, h1, h2, h3⟩ := h
  exact ⟨a, b, F1, F2, rfl, rfl, h1.chg hc (fun y hy => hd y (List.mem_append_left _ hy)), h2.chg hc (fun y hy => hd y (List.mem_append_right _ hy)), h3⟩
theorem Wk.Has.below {x : Wk} {v : Value} {F : List Nat} {w w' : World} (h : x.Has v F w) (hb : Below w.heap.size w w') : x.Has v F w' := h.chg (Chg.of_below hb []) (by simp)
theorem Wk.Has.lt {x : Wk} {v : Value} {F : List Nat} {w : World} (h : x.Has v F w) : ∀ y ∈ F, y < w.heap.size := by
  obtain ⟨a, b, F1, F2, rfl, rfl, h1, h2, h3⟩ := h
  intro y hy
  rcases List.mem_append.1 hy with hy | hy
  · exact h1.lt y hy
  · exact h2.lt y hy
theorem Wk.goes (x : Wk) : Goes x.Has := fun _ _ _ _ _ h hc hd => h.chg hc hd
def Wk.need (x : Wk) : Nat := x.ns.length + x.es.length

set_option maxHeartbeats 400000 in
theorem szIntS_any (xs : List Int) (v : Value) (left : Int) (B : Nat) (w : World) (hv : Sl 1 intCells B w v xs) (_hB : B ≤ w.heap.size) (h0 : 0 ≤ left) (h1 : left ≤ 1048576) :
    Calls Try.prog 82 #[v, .int .i64 left] w (SzPost left xs.length w.heap.size w) := by
  obtain ⟨p, cap, rfl⟩ := hv.form
  have hm := hv.max
  unfold maxLen at hm
  by_cases hlt : left < xs.length
  · go_enter Try.func82, Try.ntmps82
    go_wp2_with fail
    go_ret
    exact ⟨-1, rfl, .inl rfl, Below.refl _ _⟩
  · have q1 : decide (left - (xs.length : Int) < 0) = false := by simp; omega
    have q1' : decide (left < (xs.length : Int)) = false := by simp; omega
    go_enter Try.func82, Try.ntmps82
    go_wp2_with fail
    go_ret
    exact ⟨left - xs.length, rfl, .inr ⟨by omega, rfl⟩, Below.refl _ _⟩

set_option maxHeartbeats 1000000 in
theorem szWalk_any (x : Wk) (v : Value) (left : Int) (B : Nat) (w : World) (hx : x.At B w v) (hB : B ≤ w.heap.size) (h0 : 0 ≤ left) (h1 : left ≤ 1048576) :
    Calls Try.prog 46 #[v, .int .i64 left] w (SzPost left x.need w.heap.size w) := by
  obtain ⟨a, b, rfl, ha, hb⟩ := hx
  have H1 := Lib.hid ha
  have H2 := Lib.hid hb
  clear ha hb
  go_enter Try.func46, Try.ntmps46
  go_wp2_with fail
  refine (szIntS_any x.ns a left B _ (H1.out.below ((Below.refl B w).alloc hB _)) (by simp; omega) h0 h1).mono ?_
  rintro e w1 ⟨r, rfl, hr, hb1⟩
  have hs1 : w.heap.size < w1.heap.size := by have := hb1.size; simp at this; omega
  have c1 := new_cell hb1 (j := 1) rfl
  have HB1 := Lib.hid (below_past hb1)
  clear hb1
  rcases hr with hr | ⟨hr0, hr⟩
  · have HR := Lib.hid hr
    have hneg : r < 0 := by omega
    clear hr
    go_wp2_with fail
    go_ret
    exact ⟨-1, rfl, .inl rfl, HB1.out⟩
  · have hr1 : r ≤ 1048576 := by omega
    have HR := Lib.hid hr
    clear hr
    go_wp2_with fail
    refine (szIntS_any x.es b r B _ (H2.out.below (HB1.out.mono hB)) (by omega) hr0 hr1).mono ?_
    rintro e w2 ⟨r2, rfl, hr2, hb2⟩
    have HB2 := Lib.hid (HB1.out.trans (hb2.mono (by omega)))
    clear hb2
    rcases hr2 with hr2 | ⟨hr20, hr2⟩
    · have hneg : r2 < 0 := by omega
      clear hr2
      go_wp2_with fail
      go_ret
      exact ⟨-1, rfl, .inl rfl, HB2.out⟩
    · have HR2 := Lib.hid hr2
      clear hr2
      go_wp2_with fail
      go_ret
      exact ⟨r2, rfl, .inr ⟨hr20, by have a := HR.out; have b := HR2.out; unfold Wk.need; omega⟩, HB2.out⟩

theorem infoIntW : (Try.prog.info? 3).map (fun i => (i.zero, i.size, i.bytes)) = some (some (.int .i64 0), 1, 8) := by kernel_rfl

set_option maxHeartbeats 1000000 in
theorem toIntS_any (xs : List Int) (v : Value) (B : Nat) (w : World) (hv : Sl 1 intCells B w v xs) (hB : B ≤ w.heap.size) (hn : xs.length ≤ 1048576) :
    Calls Try.prog 83 #[v] w fun e w' => ∃ v' F, e = .returned v' ∧ OwnSl 1 intCells w' v' xs F ∧ (∀ x ∈ F, w.heap.size ≤ x) ∧ Below w.heap.size w w' := by
  obtain ⟨p, cap, rfl⟩ := hv.form
  have hm := hv.max
  unfold maxLen at hm
  have hmk : ∀ w : World, (Instr.makeSlice 23 (.int .i64 (xs.length : Int)) (.int .i64 (xs.length : Int))).run Try.prog w = .ok (.slice (some ⟨w.heap.size, 0, none⟩) xs.length xs.length) (w.alloc (.cells (madeCells #[.int .i64 0] xs.length) 3)) := by
    intro w
    obtain ⟨i, hi, hzz⟩ := Option.map_eq_some_iff.1 infoIntW
    simp only [Prod.mk.injEq] at hzz
    obtain ⟨hz, hs, hb⟩ := hzz
    have hr := run_make (P := Try.prog) w 23 3 i _ Try.underlying23 hi hz .i64 .i64 xs.length xs.length (by omega) (Int.le_refl _) (by rw [hb]; omega) (by omega)
    rw [hs, Nat.mul_one] at hr
    exact hr
  have hbk := Blk.new w (madeCells #[.int .i64 0] xs.length) 3
  go_enter Try.func83, Try.ntmps83
  go_wp2_with fail
  go_loopw [4] (fun i wr => ∃ (k : Nat) (L : List Value), k ≤ xs.length ∧ i = .int .i64 k ∧ Part 1 intCells xs L k ∧ Blk wr w.heap.size 3 L ∧ Below w.heap.size w wr) (fun i _ => xs.length - (intOf i).toNat)
  case atStart => exact ⟨0, _, Nat.zero_le _, rfl, Part.zero (by simp [madeCells]), hbk, (Below.refl _ _).alloc (Nat.le_refl _) _⟩
  case round =>
    obtain ⟨k, L, hk, rfl, hp, hbl, hbw⟩ := hrel
    have hsz := hbw.size
    have hlt := hbl.lt
    have HB := Lib.hid hbw
    clear hbw hbk
    by_cases hlt2 : k < xs.length
    · obtain ⟨b, off, rfl, hb, c0⟩ := (hv.below (HB.out.mono hB)).it hlt2
      have hlen := hp.1
      have hx : Part 1 intCells xs (setAt L (k * 1) (intCells xs[k])) (k + 1) := hp.succ hlt2 (fun _ => rfl)
      obtain ⟨x, ex⟩ : ∃ x, x = xs[k] := ⟨_, rfl⟩
      rw [← ex] at c0 hx
      clear ex
      rw [Nat.mul_one] at hx
      have HP := Lib.hid hx
      clear hx hp
      have d0 := (hbl.cell k).trans (List.getElem?_eq_getElem (by omega))
      have g0 := hbl.frozen k
      have HBL := Lib.hid hbl
      clear hbl
      go_wp2_with fail
      go_roundw
      case rel => exact ⟨k + 1, _, by omega, by go_num, HP.out, HBL.out.set _ _, HB.out.setCell (Nat.le_refl _) _⟩
      case measure => simp [intOf]; omega
    · obtain rfl : k = xs.length := by omega
      have HBL := Lib.hid hbl
      clear hbl
      go_wp2_with fail
      go_ret
      exact ⟨_, [w.heap.size], rfl, ⟨_, _, _, rfl, rfl, Nat.le_refl _, by unfold maxLen; omega, .inr ⟨_, _, rfl, rfl, HBL.out.lt, fun o => HBL.out.frozen o, fun i hi j x hx => by rw [Nat.zero_add]; exact (HBL.out.cell _).trans (hp.2 i hi hi j x hx)⟩⟩, by simp, HB.out⟩

set_option maxHeartbeats 1000000 in
theorem toWalk_raw (g : Wk) (v : Value) (B : Nat) (w : World) (hg : g.At B w v) (hB : B ≤ w.heap.size) (h1 : g.ns.length ≤ 1048576) (h2 : g.es.length ≤ 1048576) :
    Calls Try.prog 47 #[v] w fun e w' => ∃ v' F1 F2, e = .returned v' ∧ (∃ a b, v' = .agg #[a, b] ∧ OwnSl 1 intCells w' a g.ns F1 ∧ OwnSl 1 intCells w' b g.es F2 ∧ (∀ x ∈ F1, w.heap.size ≤ x) ∧ (∀ x ∈ F2, w.heap.size ≤ x) ∧ (∀ x ∈ F1, x ∉ F2)) ∧ Below w.heap.size w w' := by
  obtain ⟨a, b, rfl, ha, hb⟩ := hg
  go_enter Try.func47, Try.ntmps47
  go_wp2_with fail
  have HW := Lib.hid ((((Below.refl B w).alloc hB (.cells #[a, b] 63)).alloc (by simp; omega) (.cells #[.slice none 0 0, .slice none 0 0] 25)).alloc (by simp; omega) (.cells #[.slice none 0 0, .slice none 0 0] 25))
  have HV := Lib.hid ((((Below.refl w.heap.size w).alloc (by simp) (.cells #[a, b] 63)).alloc (by simp) (.cells #[.slice none 0 0, .slice none 0 0] 25)).alloc (by simp <;> omega) (.cells #[.slice none 0 0, .slice none 0 0] 25))
  refine (toIntS_any g.ns a B _ (ha.below HW.out) (by simp; omega) h1).mono ?_
  rintro e w1 ⟨v1, F1, rfl, ho1, hf1, hb1⟩
  have hs1 : w.heap.size + 3 ≤ w1.heap.size := by have := hb1.size; simp at this; omega
  have p1 : w1.cell? ⟨w.heap.size, 1, none⟩ = some b := (hb1.cell (by simp; omega)).trans (by simp [go_sem])
  have q0 : w1.cell? ⟨w.heap.size + 1, 0, none⟩ = some (.slice none 0 0) := (hb1.cell (by simp)).trans (by simp [go_sem])
  have q1 : w1.cell? ⟨w.heap.size + 1, 1, none⟩ = some (.slice none 0 0) := (hb1.cell (by simp)).trans (by simp [go_sem])
  have q2 : w1.frozen? ⟨w.heap.size + 1, 0, none⟩ = false := (hb1.frozen (by simp)).trans (by simp [go_sem])
  have q3 : w1.frozen? ⟨w.heap.size + 1, 1, none⟩ = false := (hb1.frozen (by simp)).trans (by simp [go_sem])
  have r0 : w1.cell? ⟨w.heap.size + 1 + 1, 0, none⟩ = some (.slice none 0 0) := (hb1.cell (by simp)).trans (by simp [go_sem])
  have r1 : w1.cell? ⟨w.heap.size + 1 + 1, 1, none⟩ = some (.slice none 0 0) := (hb1.cell (by simp)).trans (by simp [go_sem])
  have r2 : w1.frozen? ⟨w.heap.size + 1 + 1, 0, none⟩ = false := (hb1.frozen (by simp)).trans (by simp [go_sem])
  have r3 : w1.frozen? ⟨w.heap.size + 1 + 1, 1, none⟩ = false := (hb1.frozen (by simp)).trans (by simp [go_sem])
  have HB1 := Lib.hid (HV.out.trans (hb1.mono (by simp; omega)))
  have HO1 := Lib.hid ho1
  have HF1 := Lib.hid (show ∀ x ∈ F1, w.heap.size + 3 ≤ x from fun x hx => by have := hf1 x hx; simp at this; omega)
  clear hf1
  have HC1 := Lib.hid (HW.out.trans (hb1.mono (by simp; omega)))
  clear hb1 ho1
  obtain ⟨pn, cn, rfl⟩ := HO1.out.sl.form
  go_wp2_with fail
  refine (toIntS_any g.es b B _ (hb.below (HC1.out.setCell (by simp; omega) _)) (by simp; omega) h2).mono ?_
  rintro e w2 ⟨v2, F2, rfl, ho2, hf2, hb2⟩
  have hz : (w1.setCell ⟨w.heap.size + 1 + 1, 0, none⟩ (.slice pn g.ns.length cn)).heap.size = w1.heap.size := by simp
  have hs2 : w1.heap.size ≤ w2.heap.size := by have := hb2.size; simp at this; omega
  have q0' : w2.cell? ⟨w.heap.size + 1, 0, none⟩ = some (.slice none 0 0) := ((hb2.cell (by simp; omega)).trans (set_far _ _ _ _ _ _ (by omega))).trans q0
  have q1' : w2.cell? ⟨w.heap.size + 1, 1, none⟩ = some (.slice none 0 0) := ((hb2.cell (by simp; omega)).trans (set_far _ _ _ _ _ _ (by omega))).trans q1
  have q2' : w2.frozen? ⟨w.heap.size + 1, 0, none⟩ = false := ((hb2.frozen (by simp; omega)).trans (by simp [go_sem])).trans q2
  have q3' : w2.frozen? ⟨w.heap.size + 1, 1, none⟩ = false := ((hb2.frozen (by simp; omega)).trans (by simp [go_sem])).trans q3
  have r0' : w2.cell? ⟨w.heap.size + 1 + 1, 0, none⟩ = some (.slice pn g.ns.length cn) := (hb2.cell (by simp; omega)).trans (set_same _ _ _ _ _ r0)
  have r1' : w2.cell? ⟨w.heap.size + 1 + 1, 1, none⟩ = some (.slice none 0 0) := ((hb2.cell (by simp; omega)).trans (set_near _ _ _ _ _ (by omega))).trans r1
  have r2' : w2.frozen? ⟨w.heap.size + 1 + 1, 0, none⟩ = false := ((hb2.frozen (by simp; omega)).trans (by simp [go_sem])).trans r2
  have r3' : w2.frozen? ⟨w.heap.size + 1 + 1, 1, none⟩ = false := ((hb2.frozen (by simp; omega)).trans (by simp [go_sem])).trans r3
  have HB2 := Lib.hid ((HB1.out.setCell (p := ⟨w.heap.size + 1 + 1, 0, none⟩) (by simp; omega) (.slice pn g.ns.length cn)).trans (hb2.mono (by simp; omega)))
  have HD2 := Lib.hid hb2
  have HO2 := Lib.hid ho2
  have HF2 := Lib.hid (show ∀ x ∈ F2, w1.heap.size ≤ x from fun x hx => by have := hf2 x hx; simp at this; omega)
  clear hf2
  clear hb2 ho2 p1 q0 q1 q2 q3 r0 r1 r2 r3
  obtain ⟨pe, ce, rfl⟩ := HO2.out.sl.form
  go_wp2_with fail
  refine bodyPost_ret (v := .agg #[.slice pn g.ns.length cn, .slice pe g.es.length ce]) (by simp [results, Try.results47, go_sem, q0', q1']) rfl ⟨_, F1, F2, rfl, ?_, ((HB2.out.setCell (by simp; omega) _).setCell (by simp) _).setCell (by simp) _⟩
  have g1 := fun x hx => HF1.out x hx
  have g2 := fun x hx => HF2.out x hx
  have hl1 := HO1.out.lt
  have hc1 : Chg [w.heap.size + 1 + 1] w1 w2 := ((Chg.refl [w.heap.size + 1 + 1] w1).setCell (by simp) _).then_below HD2.out
  have hc2 : Chg [w.heap.size + 1 + 1, w.heap.size + 1] w2 (((w2.setCell ⟨w.heap.size + 1 + 1, 1, none⟩ (.slice pe g.es.length ce)).setCell ⟨w.heap.size + 1, 0, none⟩ (.slice pn g.ns.length cn)).setCell ⟨w.heap.size + 1, 1, none⟩ (.slice pe g.es.length ce)) :=
    (((Chg.refl _ w2).setCell (by simp) _).setCell (by simp) _).setCell (by simp) _
  refine ⟨_, _, rfl, (HO1.out.chg hc1 ?_).chg hc2 ?_, HO2.out.chg hc2 ?_, ?_, ?_, ?_⟩
  · intro x hx; have := g1 x hx; simp; omega
  · intro x hx; have := g1 x hx; simp; omega
  · intro x hx; have := g2 x hx; simp; omega
  · intro x hx; have := g1 x hx; omega
  · intro x hx; have := g2 x hx; omega
  · intro x hx hx2; have := hl1 x hx; have := g2 x hx2; omega

theorem toWalk_any (x : Wk) (v : Value) (B : Nat) (w : World) (hx : x.At B w v) (hB : B ≤ w.heap.size) (hn : x.need ≤ 1048576) :
    Calls Try.prog 47 #[v] w fun e w' => ∃ v' F, e = .returned v' ∧ x.Has v' F w' ∧ (∀ y ∈ F, w.heap.size ≤ y) ∧ Below w.heap.size w w' := by
  have h1 : x.ns.length ≤ 1048576 := by unfold Wk.need at hn; omega
  have h2 : x.es.length ≤ 1048576 := by unfold Wk.need at hn; omega
  refine (toWalk_raw x v B w hx hB h1 h2).mono ?_
  rintro e w' ⟨v', F1, F2, rfl, ⟨a, b, rfl, o1, o2, l1, l2, hd⟩, hb⟩
  refine ⟨_, F1 ++ F2, rfl, ⟨a, b, F1, F2, rfl, rfl, o1, o2, hd⟩, fun y hy => ?_, hb⟩
  rcases List.mem_append.1 hy with hy | hy
  · exact l1 y hy
  · exact l2 y hy

set_option maxHeartbeats 1000000 in
theorem eqWalk_any (g : Wk) (v v' : Value) (B : Nat) (w : World) (hg : g.At B w v) (hg' : g.At B w v') (hB : B ≤ w.heap.size) :
    Calls Try.prog 48 #[v, v'] w fun e w' => e = .returned (.bool true) ∧ Below w.heap.size w w' := by
  obtain ⟨a, b, rfl, ha, hb⟩ := hg
  obtain ⟨a', b', rfl, ha', hb'⟩ := hg'
  go_enter Try.func48, Try.ntmps48
  go_wp2_with fail
  have HW := Lib.hid (((Below.refl B w).alloc hB (.cells #[a, b] 25)).alloc (by simp; omega) (.cells #[a', b'] 25))
  refine (eqIntS_any g.ns a a' B _ (ha.below HW.out) (ha'.below HW.out) (by simp; omega)).mono ?_
  rintro e w1 ⟨rfl, hb1⟩
  have hs1 : w.heap.size + 2 ≤ w1.heap.size := by have := hb1.size; simp at this; omega
  have p1 : w1.cell? ⟨w.heap.size, 1, none⟩ = some b := (hb1.cell (by simp; omega)).trans (by simp [go_sem])
  have q1 : w1.cell? ⟨w.heap.size + 1, 1, none⟩ = some b' := (hb1.cell (by simp)).trans (by simp [go_sem])
  have HB1 := Lib.hid ((((Below.refl w.heap.size w).alloc (by simp) (.cells #[a, b] 25)).alloc (by simp) (.cells #[a', b'] 25)).trans (hb1.mono (by simp; omega)))
  clear hb1
  go_wp2_with fail
  refine (eqIntS_any g.es b b' B _ (hb.below (HB1.out.mono hB)) (hb'.below (HB1.out.mono hB)) (by omega)).mono ?_
  rintro e w2 ⟨rfl, hb2⟩
  have HB2 := Lib.hid (HB1.out.trans (hb2.mono (by omega)))
  clear hb2
  go_wp2_with fail
  go_ret
  exact ⟨rfl, HB2.out⟩

def Wk.marked (x : Wk) (m : Int) : Wk := ⟨(List.range x.ns.length).map (mkInt m), (List.range x.es.length).map (mkInt (m + x.ns.length))⟩

end Go.Proofs.Ytfdkmngkpihpbaa
