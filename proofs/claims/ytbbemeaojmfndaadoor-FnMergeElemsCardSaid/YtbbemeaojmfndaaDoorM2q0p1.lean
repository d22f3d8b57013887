/- Lemmas on the data and the memory of this program's values: several texts in one. -/
import Derived.Test.YtbbemeaojmfndaaDoorExTo
import Derived.Test.YtbbemeaojmfndaaDoorM0q0p1
import Derived.Deep.RegionHeld3
import Derived.Deep.DeepCutAuto
import Derived.StillTailTactics
import Derived.Test.YtbbemeaojmfndaaDoorM1q0p1
namespace Go.Proofs.YtbbemeaojmfndaaDoor
open Go.RowKit

structure El where
  n : Bool
  v : ByteArray
  l : Ex
  c : Ex
  d : Int
/-- The value of a struct Elem. -/
def El.At (e : El) (B : Nat) (w : World) (u : Value) : Prop := ∃ k k', u = .agg #[.bool e.n, .string e.v, .int .i64 e.l.op, .string e.l.a, k, .int .i64 e.c.op, .string e.c.a, k', .int .i64 e.d] ∧ e.l.ks.In B w k ∧ e.c.ks.In B w k'
theorem El.At.below {e : El} {B B' : Nat} {w w' : World} {u : Value} (h : e.At B w u) (hb : Below B w w') (hB : B ≤ B') : e.At B' w' u := by
  obtain ⟨k, k', h1, h2, h3⟩ := h; exact ⟨k, k', h1, h2.below hb hB, h3.below hb hB⟩
theorem El.At.form {e : El} {B : Nat} {w : World} {u : Value} (h : e.At B w u) : ∃ p cap p' cap', u = .agg #[.bool e.n, .string e.v, .int .i64 e.l.op, .string e.l.a, .slice p e.l.ks.list.length cap, .int .i64 e.c.op, .string e.c.a, .slice p' e.c.ks.list.length cap', .int .i64 e.d] ∧ e.l.ks.In B w (.slice p e.l.ks.list.length cap) ∧ e.c.ks.In B w (.slice p' e.c.ks.list.length cap') := by
  obtain ⟨k, k', h1, h2, h3⟩ := h
  obtain ⟨p, cap, rfl⟩ := h2.form
  obtain ⟨p', cap', rfl⟩ := h3.form
  exact ⟨p, cap, p', cap', h1, h2, h3⟩
/-- An element in memory of the call's own, in the blocks F. -/
def El.Has (e : El) (u : Value) (F : List Nat) (w : World) : Prop := ∃ k k' F1 F2, u = .agg #[.bool e.n, .string e.v, .int .i64 e.l.op, .string e.l.a, k, .int .i64 e.c.op, .string e.c.a, k', .int .i64 e.d] ∧ F = F1 ++ F2 ∧ (∀ x ∈ F1, x ∉ F2) ∧ e.l.ks.Own w k F1 ∧ e.c.ks.Own w k' F2
theorem El.Has.at {e : El} {u : Value} {F : List Nat} {w : World} (h : e.Has u F w) : e.At w.heap.size w u := by
  obtain ⟨k, k', F1, F2, h1, _, _, h2, h3⟩ := h; exact ⟨k, k', h1, h2.in, h3.in⟩
theorem El.Has.chg {e : El} {u : Value} {F G : List Nat} {w w' : World} (h : e.Has u F w) (hc : Chg G w w') (hd : ∀ x ∈ F, x ∉ G) : e.Has u F w' := by
  obtain ⟨k, k', F1, F2, h1, rfl, h2, h3, h4⟩ := h
  exact ⟨k, k', F1, F2, h1, rfl, h2, h3.chg hc (fun x hx => hd x (List.mem_append_left _ hx)), h4.chg hc (fun x hx => hd x (List.mem_append_right _ hx))⟩
theorem El.Has.below {e : El} {u : Value} {F : List Nat} {w w' : World} (h : e.Has u F w) (hb : Below w.heap.size w w') : e.Has u F w' := h.chg (Chg.of_below hb []) (by simp)
theorem El.Has.lt {e : El} {u : Value} {F : List Nat} {w : World} (h : e.Has u F w) : ∀ x ∈ F, x < w.heap.size := by
  obtain ⟨k, k', F1, F2, h1, rfl, h2, h3, h4⟩ := h
  intro x hx
  rcases List.mem_append.1 hx with hx | hx
  · exact h3.lt x hx
  · exact h4.lt x hx
def El.Ok (e : El) : Prop := e.v.size ≤ maxLen ∧ e.l.Ok ∧ e.l.ks.Ok ∧ e.c.Ok ∧ e.c.ks.Ok ∧ I64 e.d
def elNeed (e : El) : Nat := e.v.size + exNeed e.l + exNeed e.c
theorem El.sm_need {e : El} (h : elNeed e ≤ 1048576) : e.v.size ≤ 1048576 ∧ e.l.a.size ≤ 1048576 ∧ e.l.ks.size ≤ 1048576 ∧ e.c.a.size ≤ 1048576 ∧ e.c.ks.size ≤ 1048576 ∧ e.l.ks.need ≤ 1048576 ∧ e.c.ks.need ≤ 1048576 := by
  have h1 := e.l.ks.size_need
  have h2 := e.c.ks.size_need
  unfold elNeed exNeed at h
  omega

set_option maxRecDepth 100000 in
set_option maxHeartbeats 1000000 in
theorem szElem_any (e : El) (u : Value) (left : Int) (B : Nat) (w : World) (hu : e.At B w u) (hB : B ≤ w.heap.size) (h0 : 0 ≤ left) (h1 : left ≤ 1048576) (hok : e.Ok) :
    Calls Tryd.prog 14 #[u, .int .i64 left] w (SzPost left (elNeed e) w.heap.size w) := by
  obtain ⟨p, cap, p', cap', rfl, hl, hc⟩ := hu.form
  obtain ⟨o1, o2, o3, o4, o5, _⟩ := hok
  unfold maxLen at o1
  have HOL := Lib.hid o3
  have HOC := Lib.hid o5
  have ol := o2.2
  have oc := o4.2
  clear hu o2 o3 o4 o5
  have HL := Lib.hid hl
  have HC := Lib.hid hc
  clear hl hc
  by_cases hlt : left < e.v.size
  · go_enter Tryd.func14, Tryd.ntmps14
    go_wp2_with fail
    go_ret
    exact ⟨-1, rfl, .inl rfl, (Below.refl _ _).alloc (Nat.le_refl _) _⟩
  have HB0 := Lib.hid (show Below w.heap.size w (w.alloc (.cells #[.bool e.n, .string e.v, .int .i64 e.l.op, .string e.l.a, .slice p e.l.ks.list.length cap, .int .i64 e.c.op, .string e.c.a, .slice p' e.c.ks.list.length cap', .int .i64 e.d] 47)) from (Below.refl _ _).alloc (Nat.le_refl _) _)
  go_enter Tryd.func14, Tryd.ntmps14
  go_wp2_with fail
  refine (szExpr_any e.l _ _ B _ ⟨_, rfl, HL.out.below (HB0.out.mono hB) (Nat.le_refl _)⟩ (by simp; omega) (by omega) (by omega) ol HOL.out).mono ?_
  rintro en w1 ⟨r, rfl, hr, hb1⟩
  have c5 := new_cell hb1 (j := 5) rfl
  have c6 := new_cell hb1 (j := 6) rfl
  have c7 := new_cell hb1 (j := 7) rfl
  have hs1 : w.heap.size < w1.heap.size := by have := hb1.size; simp at this; omega
  have HB1 := Lib.hid (below_past hb1)
  clear hb1
  rcases hr with hr | ⟨hr0, hr⟩
  · have hneg : r < 0 := by omega
    clear hr
    go_wp2_with fail
    go_ret
    exact ⟨-1, rfl, .inl rfl, HB1.out⟩
  have HR := Lib.hid hr
  have hrm : r ≤ 1048576 := by omega
  clear hr
  go_wp2_with fail
  refine (szExpr_any e.c _ _ B _ ⟨_, rfl, HC.out.below (HB1.out.mono hB) (Nat.le_refl _)⟩ (by omega) hr0 hrm oc HOC.out).mono ?_
  rintro en w2 ⟨s, rfl, hs, hb2⟩
  have HB2 := Lib.hid (HB1.out.trans (hb2.mono (by omega)))
  clear hb2
  rcases hs with hs | ⟨hs0, hs⟩
  · have hneg : s < 0 := by omega
    clear hs
    go_wp2_with fail
    go_ret
    exact ⟨-1, rfl, .inl rfl, HB2.out⟩
  have HS := Lib.hid (show s = left - elNeed e by have := HR.out; unfold elNeed; omega)
  clear hs
  go_wp2_with fail
  go_ret
  exact ⟨s, rfl, .inr ⟨hs0, HS.out⟩, HB2.out⟩

set_option maxRecDepth 100000 in
set_option maxHeartbeats 2000000 in
theorem toElem_any (e : El) (u : Value) (B : Nat) (w : World) (hu : e.At B w u) (hB : B ≤ w.heap.size) (h1 : e.l.ks.size ≤ 1048576) (h2 : e.c.ks.size ≤ 1048576) :
    Calls Tryd.prog 15 #[u] w fun en w' => ∃ v' F, en = .returned v' ∧ e.Has v' F w' ∧ (∀ x ∈ F, w.heap.size ≤ x) ∧ Below w.heap.size w w' := by
  obtain ⟨p, cap, p', cap', rfl, hl, hc⟩ := hu.form
  have HL := Lib.hid hl
  have HC := Lib.hid hc
  clear hu hl hc
  go_enter Tryd.func15, Tryd.ntmps15
  go_wp2_with fail
  refine (toExpr_any e.l _ B _ ⟨_, rfl, HL.out.below (by ((repeat (first | with_reducible assumption | with_reducible exact Below.refl _ _ | refine Below.setCell ?_ (by (first | omega | (simp; omega) | (simp; done) | fail "sml")) _ | refine Below.drew ?_ | refine Below.alloc ?_ (by (first | omega | (simp; omega) | (simp; done) | fail "sml")) _)); first | done | fail "chs")) (Nat.le_refl _)⟩ (by simp; omega) h1).mono ?_
  rintro en w1 ⟨v1, F1, rfl, ho1, hf1, hb1⟩
  have hs1 : w.heap.size + 3 ≤ w1.heap.size := by have := hb1.size; simp at this; omega
  have a5 : w1.cell? ⟨w.heap.size, 5, none⟩ = some (.int .i64 e.c.op) := (hb1.cell (by first | (simp; done) | (simp; omega))).trans (by simp [go_sem])
  have a6 : w1.cell? ⟨w.heap.size, 6, none⟩ = some (.string e.c.a) := (hb1.cell (by first | (simp; done) | (simp; omega))).trans (by simp [go_sem])
  have a7 : w1.cell? ⟨w.heap.size, 7, none⟩ = some (.slice p' e.c.ks.list.length cap') := (hb1.cell (by first | (simp; done) | (simp; omega))).trans (by simp [go_sem])
  have a8 : w1.cell? ⟨w.heap.size, 8, none⟩ = some (.int .i64 e.d) := (hb1.cell (by first | (simp; done) | (simp; omega))).trans (by simp [go_sem])
  have q0 : w1.cell? ⟨w.heap.size + 1, 0, none⟩ = some (.bool false) := (hb1.cell (by first | (simp; done) | (simp; omega))).trans (by simp [go_sem])
  have q1 : w1.cell? ⟨w.heap.size + 1, 1, none⟩ = some (.string ⟨#[]⟩) := (hb1.cell (by first | (simp; done) | (simp; omega))).trans (by simp [go_sem])
  have q2 : w1.cell? ⟨w.heap.size + 1, 2, none⟩ = some (.int .i64 0) := (hb1.cell (by first | (simp; done) | (simp; omega))).trans (by simp [go_sem])
  have q3 : w1.cell? ⟨w.heap.size + 1, 3, none⟩ = some (.string ⟨#[]⟩) := (hb1.cell (by first | (simp; done) | (simp; omega))).trans (by simp [go_sem])
  have q4 : w1.cell? ⟨w.heap.size + 1, 4, none⟩ = some (.slice none 0 0) := (hb1.cell (by first | (simp; done) | (simp; omega))).trans (by simp [go_sem])
  have q5 : w1.cell? ⟨w.heap.size + 1, 5, none⟩ = some (.int .i64 0) := (hb1.cell (by first | (simp; done) | (simp; omega))).trans (by simp [go_sem])
  have q6 : w1.cell? ⟨w.heap.size + 1, 6, none⟩ = some (.string ⟨#[]⟩) := (hb1.cell (by first | (simp; done) | (simp; omega))).trans (by simp [go_sem])
  have q7 : w1.cell? ⟨w.heap.size + 1, 7, none⟩ = some (.slice none 0 0) := (hb1.cell (by first | (simp; done) | (simp; omega))).trans (by simp [go_sem])
  have q8 : w1.cell? ⟨w.heap.size + 1, 8, none⟩ = some (.int .i64 0) := (hb1.cell (by first | (simp; done) | (simp; omega))).trans (by simp [go_sem])
  have r0 : w1.cell? ⟨w.heap.size + 1 + 1, 0, none⟩ = some (.bool e.n) := (hb1.cell (by first | (simp; done) | (simp; omega))).trans (by simp [go_sem])
  have r1 : w1.cell? ⟨w.heap.size + 1 + 1, 1, none⟩ = some (.string e.v) := (hb1.cell (by first | (simp; done) | (simp; omega))).trans (by simp [go_sem])
  have r2 : w1.cell? ⟨w.heap.size + 1 + 1, 2, none⟩ = some (.int .i64 0) := (hb1.cell (by first | (simp; done) | (simp; omega))).trans (by simp [go_sem])
  have r3 : w1.cell? ⟨w.heap.size + 1 + 1, 3, none⟩ = some (.string ⟨#[]⟩) := (hb1.cell (by first | (simp; done) | (simp; omega))).trans (by simp [go_sem])
  have r4 : w1.cell? ⟨w.heap.size + 1 + 1, 4, none⟩ = some (.slice none 0 0) := (hb1.cell (by first | (simp; done) | (simp; omega))).trans (by simp [go_sem])
  have r5 : w1.cell? ⟨w.heap.size + 1 + 1, 5, none⟩ = some (.int .i64 0) := (hb1.cell (by first | (simp; done) | (simp; omega))).trans (by simp [go_sem])
  have r6 : w1.cell? ⟨w.heap.size + 1 + 1, 6, none⟩ = some (.string ⟨#[]⟩) := (hb1.cell (by first | (simp; done) | (simp; omega))).trans (by simp [go_sem])
  have r7 : w1.cell? ⟨w.heap.size + 1 + 1, 7, none⟩ = some (.slice none 0 0) := (hb1.cell (by first | (simp; done) | (simp; omega))).trans (by simp [go_sem])
  have r8 : w1.cell? ⟨w.heap.size + 1 + 1, 8, none⟩ = some (.int .i64 0) := (hb1.cell (by first | (simp; done) | (simp; omega))).trans (by simp [go_sem])
  have f0 : w1.frozen? ⟨w.heap.size + 1, 0, none⟩ = false := (hb1.frozen (by first | (simp; done) | (simp; omega))).trans (by simp [go_sem])
  have f1 : w1.frozen? ⟨w.heap.size + 1, 1, none⟩ = false := (hb1.frozen (by first | (simp; done) | (simp; omega))).trans (by simp [go_sem])
  have f2 : w1.frozen? ⟨w.heap.size + 1, 2, none⟩ = false := (hb1.frozen (by first | (simp; done) | (simp; omega))).trans (by simp [go_sem])
  have f3 : w1.frozen? ⟨w.heap.size + 1, 3, none⟩ = false := (hb1.frozen (by first | (simp; done) | (simp; omega))).trans (by simp [go_sem])
  have f4 : w1.frozen? ⟨w.heap.size + 1, 4, none⟩ = false := (hb1.frozen (by first | (simp; done) | (simp; omega))).trans (by simp [go_sem])
  have f5 : w1.frozen? ⟨w.heap.size + 1, 5, none⟩ = false := (hb1.frozen (by first | (simp; done) | (simp; omega))).trans (by simp [go_sem])
  have f6 : w1.frozen? ⟨w.heap.size + 1, 6, none⟩ = false := (hb1.frozen (by first | (simp; done) | (simp; omega))).trans (by simp [go_sem])
  have f7 : w1.frozen? ⟨w.heap.size + 1, 7, none⟩ = false := (hb1.frozen (by first | (simp; done) | (simp; omega))).trans (by simp [go_sem])
  have f8 : w1.frozen? ⟨w.heap.size + 1, 8, none⟩ = false := (hb1.frozen (by first | (simp; done) | (simp; omega))).trans (by simp [go_sem])
  have g2 : w1.frozen? ⟨w.heap.size + 1 + 1, 2, none⟩ = false := (hb1.frozen (by first | (simp; done) | (simp; omega))).trans (by simp [go_sem])
  have g3 : w1.frozen? ⟨w.heap.size + 1 + 1, 3, none⟩ = false := (hb1.frozen (by first | (simp; done) | (simp; omega))).trans (by simp [go_sem])
  have g4 : w1.frozen? ⟨w.heap.size + 1 + 1, 4, none⟩ = false := (hb1.frozen (by first | (simp; done) | (simp; omega))).trans (by simp [go_sem])
  have g5 : w1.frozen? ⟨w.heap.size + 1 + 1, 5, none⟩ = false := (hb1.frozen (by first | (simp; done) | (simp; omega))).trans (by simp [go_sem])
  have g6 : w1.frozen? ⟨w.heap.size + 1 + 1, 6, none⟩ = false := (hb1.frozen (by first | (simp; done) | (simp; omega))).trans (by simp [go_sem])
  have g7 : w1.frozen? ⟨w.heap.size + 1 + 1, 7, none⟩ = false := (hb1.frozen (by first | (simp; done) | (simp; omega))).trans (by simp [go_sem])
  have g8 : w1.frozen? ⟨w.heap.size + 1 + 1, 8, none⟩ = false := (hb1.frozen (by first | (simp; done) | (simp; omega))).trans (by simp [go_sem])
  have HB1 := Lib.hid (below_past (below_past (below_past hb1)))
  have HF1 := Lib.hid (show ∀ x ∈ F1, w.heap.size + 3 ≤ x from fun x hx => by have := hf1 x hx; simp at this; omega)
  have HBX := Lib.hid (hb1.mono (show w.heap.size ≤ _ by simp; omega))
  clear hb1 hf1
  obtain ⟨k1, rfl, hk1⟩ := ho1
  obtain ⟨p1, c1, rfl⟩ := hk1.in.form
  have HO1 := Lib.hid hk1
  clear hk1
  go_wp2_with fail
  have HCH1 := Lib.hid (show Chg [w.heap.size + 1 + 1] w1 (((w1.setCell ⟨w.heap.size + 1 + 1, 2, none⟩ (.int .i64 e.l.op)).setCell ⟨w.heap.size + 1 + 1, 3, none⟩ (.string e.l.a)).setCell ⟨w.heap.size + 1 + 1, 4, none⟩ (.slice p1 e.l.ks.list.length c1)) from (((Chg.refl _ w1).setCell (by simp) _).setCell (by simp) _).setCell (by simp) _)
  have HBS := Lib.hid (show Below w.heap.size w (((w1.setCell ⟨w.heap.size + 1 + 1, 2, none⟩ (.int .i64 e.l.op)).setCell ⟨w.heap.size + 1 + 1, 3, none⟩ (.string e.l.a)).setCell ⟨w.heap.size + 1 + 1, 4, none⟩ (.slice p1 e.l.ks.list.length c1)) from ((HB1.out.setCell (by simp; omega) _).setCell (by simp; omega) _).setCell (by simp; omega) _)
  refine (toExpr_any e.c _ B _ ⟨_, rfl, HC.out.below (HBS.out.mono hB) (Nat.le_refl _)⟩ (by simp; omega) h2).mono ?_
  rintro en w2 ⟨v2, F2, rfl, ho2, hf2, hb2⟩
  have hs2 : w1.heap.size ≤ w2.heap.size := by have := hb2.size; simp at this; omega
  have a'8 : w2.cell? ⟨w.heap.size, 8, none⟩ = some (.int .i64 e.d) := (hb2.cell (by simp; omega)).trans (by simp [go_sem, a8])
  have q'0 : w2.cell? ⟨w.heap.size + 1, 0, none⟩ = some (.bool false) := (hb2.cell (by simp; omega)).trans (by simp [go_sem, q0])
  have q'1 : w2.cell? ⟨w.heap.size + 1, 1, none⟩ = some (.string ⟨#[]⟩) := (hb2.cell (by simp; omega)).trans (by simp [go_sem, q1])
  have q'2 : w2.cell? ⟨w.heap.size + 1, 2, none⟩ = some (.int .i64 0) := (hb2.cell (by simp; omega)).trans (by simp [go_sem, q2])
  have q'3 : w2.cell? ⟨w.heap.size + 1, 3, none⟩ = some (.string ⟨#[]⟩) := (hb2.cell (by simp; omega)).trans (by simp [go_sem, q3])
  have q'4 : w2.cell? ⟨w.heap.size + 1, 4, none⟩ = some (.slice none 0 0) := (hb2.cell (by simp; omega)).trans (by simp [go_sem, q4])
  have q'5 : w2.cell? ⟨w.heap.size + 1, 5, none⟩ = some (.int .i64 0) := (hb2.cell (by simp; omega)).trans (by simp [go_sem, q5])
  have q'6 : w2.cell? ⟨w.heap.size + 1, 6, none⟩ = some (.string ⟨#[]⟩) := (hb2.cell (by simp; omega)).trans (by simp [go_sem, q6])
  have q'7 : w2.cell? ⟨w.heap.size + 1, 7, none⟩ = some (.slice none 0 0) := (hb2.cell (by simp; omega)).trans (by simp [go_sem, q7])
  have q'8 : w2.cell? ⟨w.heap.size + 1, 8, none⟩ = some (.int .i64 0) := (hb2.cell (by simp; omega)).trans (by simp [go_sem, q8])
  have r'0 : w2.cell? ⟨w.heap.size + 1 + 1, 0, none⟩ = some (.bool e.n) := (hb2.cell (by simp; omega)).trans (by simp [go_sem, r0])
  have r'1 : w2.cell? ⟨w.heap.size + 1 + 1, 1, none⟩ = some (.string e.v) := (hb2.cell (by simp; omega)).trans (by simp [go_sem, r1])
  have r'2 : w2.cell? ⟨w.heap.size + 1 + 1, 2, none⟩ = some (.int .i64 e.l.op) := (hb2.cell (by simp; omega)).trans (by simp [go_sem, r2])
  have r'3 : w2.cell? ⟨w.heap.size + 1 + 1, 3, none⟩ = some (.string e.l.a) := (hb2.cell (by simp; omega)).trans (by simp [go_sem, r3])
  have r'4 : w2.cell? ⟨w.heap.size + 1 + 1, 4, none⟩ = some (.slice p1 e.l.ks.list.length c1) := (hb2.cell (by simp; omega)).trans (by simp [go_sem, r4])
  have r'5 : w2.cell? ⟨w.heap.size + 1 + 1, 5, none⟩ = some (.int .i64 0) := (hb2.cell (by simp; omega)).trans (by simp [go_sem, r5])
  have r'6 : w2.cell? ⟨w.heap.size + 1 + 1, 6, none⟩ = some (.string ⟨#[]⟩) := (hb2.cell (by simp; omega)).trans (by simp [go_sem, r6])
  have r'7 : w2.cell? ⟨w.heap.size + 1 + 1, 7, none⟩ = some (.slice none 0 0) := (hb2.cell (by simp; omega)).trans (by simp [go_sem, r7])
  have r'8 : w2.cell? ⟨w.heap.size + 1 + 1, 8, none⟩ = some (.int .i64 0) := (hb2.cell (by simp; omega)).trans (by simp [go_sem, r8])
  have f'0 : w2.frozen? ⟨w.heap.size + 1, 0, none⟩ = false := (hb2.frozen (by simp; omega)).trans (by simp [go_sem, f0])
  have f'1 : w2.frozen? ⟨w.heap.size + 1, 1, none⟩ = false := (hb2.frozen (by simp; omega)).trans (by simp [go_sem, f1])
  have f'2 : w2.frozen? ⟨w.heap.size + 1, 2, none⟩ = false := (hb2.frozen (by simp; omega)).trans (by simp [go_sem, f2])
  have f'3 : w2.frozen? ⟨w.heap.size + 1, 3, none⟩ = false := (hb2.frozen (by simp; omega)).trans (by simp [go_sem, f3])
  have f'4 : w2.frozen? ⟨w.heap.size + 1, 4, none⟩ = false := (hb2.frozen (by simp; omega)).trans (by simp [go_sem, f4])
  have f'5 : w2.frozen? ⟨w.heap.size + 1, 5, none⟩ = false := (hb2.frozen (by simp; omega)).trans (by simp [go_sem, f5])
  have f'6 : w2.frozen? ⟨w.heap.size + 1, 6, none⟩ = false := (hb2.frozen (by simp; omega)).trans (by simp [go_sem, f6])
  have f'7 : w2.frozen? ⟨w.heap.size + 1, 7, none⟩ = false := (hb2.frozen (by simp; omega)).trans (by simp [go_sem, f7])
  have f'8 : w2.frozen? ⟨w.heap.size + 1, 8, none⟩ = false := (hb2.frozen (by simp; omega)).trans (by simp [go_sem, f8])
  have g'5 : w2.frozen? ⟨w.heap.size + 1 + 1, 5, none⟩ = false := (hb2.frozen (by simp; omega)).trans (by simp [go_sem, g5])
  have g'6 : w2.frozen? ⟨w.heap.size + 1 + 1, 6, none⟩ = false := (hb2.frozen (by simp; omega)).trans (by simp [go_sem, g6])
  have g'7 : w2.frozen? ⟨w.heap.size + 1 + 1, 7, none⟩ = false := (hb2.frozen (by simp; omega)).trans (by simp [go_sem, g7])
  have g'8 : w2.frozen? ⟨w.heap.size + 1 + 1, 8, none⟩ = false := (hb2.frozen (by simp; omega)).trans (by simp [go_sem, g8])
  have HB2 := Lib.hid (HBS.out.trans (hb2.mono (by simp; omega)))
  have HF2 := Lib.hid (show ∀ x ∈ F2, w1.heap.size ≤ x from fun x hx => by have := hf2 x hx; simp at this; omega)
  have HO1' := Lib.hid ((HO1.out.chg HCH1.out (fun x hx => by have := HF1.out x hx; simp; omega)).below hb2)
  have HLT1 := Lib.hid HO1.out.lt
  clear hb2 hf2 a5 a6 a7 a8
  clear q0 q1 q2 q3 q4 q5 q6 q7 q8 r0 r1 r2 r3 r4 r5 r6 r7 r8 f0 f1 f2 f3 f4 f5 f6 f7 f8 g2 g3 g4 g5 g6 g7 g8
  obtain ⟨k2, rfl, hk2⟩ := ho2
  obtain ⟨p2, c2, rfl⟩ := hk2.in.form
  have HO2 := Lib.hid hk2
  clear hk2
  go_wp2_with fail
  refine bodyPost_ret (v := .agg #[.bool e.n, .string e.v, .int .i64 e.l.op, .string e.l.a, .slice p1 e.l.ks.list.length c1, .int .i64 e.c.op, .string e.c.a, .slice p2 e.c.ks.list.length c2, .int .i64 e.d]) (by simp [results, Tryd.results15, go_sem, q'0, q'1, q'2, q'3, q'4, q'5, q'6, q'7, q'8]) rfl ⟨_, F1 ++ F2, rfl, ⟨_, _, F1, F2, rfl, rfl, fun x hx hx2 => ?_, HO1'.out.chg (G := [w.heap.size + 1, w.heap.size + 1 + 1]) ?_ ?_, HO2.out.chg (G := [w.heap.size + 1, w.heap.size + 1 + 1]) ?_ ?_⟩, fun x hx => ?_, ?_⟩
  · have a1 := HLT1.out x hx; have a2 := HF2.out x hx2; omega
  · (repeat (first | refine Chg.setCell ?_ (by simp) _ | with_reducible exact Chg.refl _ _))
  · intro x hx; have := HF1.out x hx; simp; omega
  · (repeat (first | refine Chg.setCell ?_ (by simp) _ | with_reducible exact Chg.refl _ _))
  · intro x hx; have := HF2.out x hx; simp; omega
  · rcases List.mem_append.1 hx with hx | hx
    · have := HF1.out x hx; omega
    · have := HF2.out x hx; omega
  · repeat (first | with_reducible exact HB2.out | refine Below.setCell ?_ (by (first | omega | (simp; omega) | (simp; done) | fail "sml")) _)

set_option maxRecDepth 100000 in
set_option maxHeartbeats 1000000 in
theorem eqElem_any (e : El) (u u' : Value) (B : Nat) (w : World) (hu : e.At B w u) (hu' : e.At B w u') (hB : B ≤ w.heap.size) :
    Calls Tryd.prog 16 #[u, u'] w fun en w' => en = .returned (.bool true) ∧ Below w.heap.size w w' := by
  obtain ⟨p, cap, p', cap', rfl, hl, hc⟩ := hu.form
  obtain ⟨q, cbp, q', cbp', rfl, hm, hd⟩ := hu'.form
  have HL := Lib.hid hl
  have HC := Lib.hid hc
  have HM := Lib.hid hm
  have HD := Lib.hid hd
  clear hu hu' hl hc hm hd
  obtain ⟨W0, eW⟩ : ∃ W0, W0 = ((w.alloc (.cells #[.bool e.n, .string e.v, .int .i64 e.l.op, .string e.l.a, .slice p e.l.ks.list.length cap, .int .i64 e.c.op, .string e.c.a, .slice p' e.c.ks.list.length cap', .int .i64 e.d] 27)).alloc (.cells #[.bool e.n, .string e.v, .int .i64 e.l.op, .string e.l.a, .slice q e.l.ks.list.length cbp, .int .i64 e.c.op, .string e.c.a, .slice q' e.c.ks.list.length cbp', .int .i64 e.d] 27)) := ⟨_, rfl⟩
  have HV := Lib.hid (show Below w.heap.size w W0 by rw [eW]; exact ((Below.refl w.heap.size w).alloc (by simp) _).alloc (by simp) _)
  have hs0 : w.heap.size + 2 ≤ W0.heap.size := by rw [eW]; simp
  have HK := Lib.hid (show ∀ wk, Below (w.heap.size + 2) W0 wk → wk.cell? ⟨w.heap.size, 5, none⟩ = some (.int .i64 e.c.op) ∧ wk.cell? ⟨w.heap.size, 6, none⟩ = some (.string e.c.a) ∧ wk.cell? ⟨w.heap.size, 7, none⟩ = some (.slice p' e.c.ks.list.length cap') ∧ wk.cell? ⟨w.heap.size, 8, none⟩ = some (.int .i64 e.d) ∧ wk.cell? ⟨w.heap.size + 1, 5, none⟩ = some (.int .i64 e.c.op) ∧ wk.cell? ⟨w.heap.size + 1, 6, none⟩ = some (.string e.c.a) ∧ wk.cell? ⟨w.heap.size + 1, 7, none⟩ = some (.slice q' e.c.ks.list.length cbp') ∧ wk.cell? ⟨w.heap.size + 1, 8, none⟩ = some (.int .i64 e.d) from
    fun wk hk => by rw [eW] at hk; exact ⟨keepc hk (by omega) (by simp [go_sem]), keepc hk (by omega) (by simp [go_sem]), keepc hk (by omega) (by simp [go_sem]), keepc hk (by omega) (by simp [go_sem]), keepc hk (by omega) (by simp [go_sem]), keepc hk (by omega) (by simp [go_sem]), keepc hk (by omega) (by simp [go_sem]), keepc hk (by omega) (by simp [go_sem])⟩)
  have HA := Lib.hid (Below.refl (w.heap.size + 2) W0)
  have EW := Lib.hid eW
  clear eW
  go_enter Tryd.func16, Tryd.ntmps16
  go_wp2_with fail
  rw [← EW.out]
  refine (eqExpr_any e.l _ _ B _ ⟨_, rfl, HL.out.below (HV.out.mono hB) (Nat.le_refl _)⟩ ⟨_, rfl, HM.out.below (HV.out.mono hB) (Nat.le_refl _)⟩ (by omega)).mono ?_
  rintro en w1 ⟨rfl, hb1⟩
  have HA := Lib.hid (HA.out.trans (hb1.mono (by omega)))
  have hz1 := hb1.size
  have HV1 := Lib.hid (HV.out.trans (HA.out.mono (by omega)))
  clear hb1
  obtain ⟨a5, a6, a7, a8, b5, b6, b7, b8⟩ := HK.out w1 HA.out
  go_wp2_with fail
  refine (eqExpr_any e.c _ _ B _ ⟨_, rfl, HC.out.below (HV1.out.mono hB) (Nat.le_refl _)⟩ ⟨_, rfl, HD.out.below (HV1.out.mono hB) (Nat.le_refl _)⟩ (by omega)).mono ?_
  rintro en w2 ⟨rfl, hb2⟩
  have HA := Lib.hid (HA.out.trans (hb2.mono (by omega)))
  clear hb2 a5 a6 a7 a8 b5 b6 b7 b8
  obtain ⟨_, _, _, a8, _, _, _, b8⟩ := HK.out w2 HA.out
  go_wp2_with fail
  go_ret
  exact ⟨rfl, HV.out.trans (HA.out.mono (by omega))⟩
end Go.Proofs.YtbbemeaojmfndaaDoor
namespace Go.Proofs.YtbbemeaojmfndaaDoor
open Go.RowKit

def Fo.mk : Fo → Int → Fo
  | .nil, _ => .nil
  | .cons _ _ k r, m => .cons m (mt (m + 1)) (k.mk (m + 2)) (r.mk (m + 2 + 2 * k.size))
theorem Fo.mk_len (f : Fo) : ∀ m : Int, (f.mk m).list.length = f.list.length := by
  induction f with
  | nil => intro m; rfl
  | cons o a k r _ ih => intro m; simp only [Fo.mk, Fo.list, List.length_cons, ih]
theorem Fo.mk_size (f : Fo) : ∀ m : Int, (f.mk m).size = f.size := by
  induction f with
  | nil => intro m; rfl
  | cons o a k r ihk ih => intro m; simp only [Fo.mk, Fo.size, ihk, ih]
theorem Fo.mk_app (f g : Fo) : ∀ m : Int, (f.app g).mk m = (f.mk m).app (g.mk (m + 2 * f.size)) := by
  induction f with
  | nil => intro m; simp [Fo.app, Fo.mk, Fo.size]
  | cons o a k r _ ih =>
    intro m
    simp only [Fo.app, Fo.mk, ih, Fo.size]
    congr 3
    simp only [Int.natCast_add, Int.natCast_one]; omega

/-- A row that is parted at a place: the place's cells, and the row anew when they have been changed. -/
theorem Fo.own_focus {g h : Fo} {o : Int} {a : ByteArray} {ks : Fo} {w : World} {p : Option Addr} {n cap : Nat} {F : List Nat} (hO : (g.app (.cons o a ks h)).Own w (.slice p n cap) F) :
    ∃ b kv F1 Fk F2, p = some ⟨b, 0, none⟩ ∧ F = b :: (F1 ++ (Fk ++ F2)) ∧ b < w.heap.size ∧ b ∉ Fk ∧ (∀ o, w.frozen? ⟨b, o, none⟩ = false) ∧ w.cell? ⟨b, g.list.length * 3, none⟩ = some (.int .i64 o) ∧ w.cell? ⟨b, g.list.length * 3 + 1, none⟩ = some (.string a) ∧
      w.cell? ⟨b, g.list.length * 3 + 2, none⟩ = some kv ∧ ks.Own w kv Fk ∧
      ∀ (w' : World) (o' : Int) (a' : ByteArray) (ks' : Fo), Chg (b :: Fk) w w' → (∀ i, i ≠ g.list.length * 3 → i ≠ g.list.length * 3 + 1 → w'.cell? ⟨b, i, none⟩ = w.cell? ⟨b, i, none⟩) → (∀ o, w'.frozen? ⟨b, o, none⟩ = false) →
        w'.cell? ⟨b, g.list.length * 3, none⟩ = some (.int .i64 o') → w'.cell? ⟨b, g.list.length * 3 + 1, none⟩ = some (.string a') → ks'.Own w' kv Fk → (g.app (.cons o' a' ks' h)).Own w' (.slice p n cap) F := by
  obtain ⟨p', cap', e, h1, h2, h3⟩ := hO
  cases e
  rcases h3 with ⟨h3, _⟩ | ⟨b, F', rfl, rfl, hb, hlt, hfz, hrow⟩
  · rw [Fo.list_app] at h3; simp [Fo.list] at h3
  obtain ⟨F1, F3, rfl, hd, r1, r2⟩ := Fo.orow_app.1 hrow
  obtain ⟨c0, c1, kv, Fk, F2, rfl, hd2, c2, hk, r3⟩ := Fo.orow_cons.1 r2
  have e1 : 1 + g.list.length * 3 = g.list.length * 3 + 1 := by omega
  have e2 : 2 + g.list.length * 3 = g.list.length * 3 + 2 := by omega
  rw [Nat.zero_add] at c0
  rw [e1] at c1
  rw [e2] at c2
  have hlen : ∀ (o' : Int) (a' : ByteArray) (ks' : Fo), (g.app (.cons o' a' ks' h)).list.length = (g.app (.cons o a ks h)).list.length := fun o' a' ks' => by simp [Fo.list_app, Fo.list]
  refine ⟨b, kv, F1, Fk, F2, rfl, rfl, hlt, fun hx => hb (by simp [hx]), hfz, c0, c1, c2, hk, ?_⟩
  intro w' o' a' ks' hch hcell hfz' d0 d1 hk'
  refine ⟨_, cap, by rw [hlen o' a' ks'], by rw [hlen o' a' ks']; exact h1, h2, .inr ⟨b, F1 ++ (Fk ++ F2), rfl, rfl, hb, Nat.lt_of_lt_of_le hlt hch.size, hfz', ?_⟩⟩
  refine Fo.orow_app.2 ⟨F1, Fk ++ F2, rfl, hd, r1.chg hch (fun x hx hx2 => ?_) (fun i hi => hcell i (by omega) (by omega)), ?_⟩
  · rcases List.mem_cons.1 hx2 with rfl | hx2
    · exact hb (by simp [hx])
    · exact hd x hx (by simp [hx2])
  refine Fo.orow_cons.2 ⟨by rw [Nat.zero_add]; exact d0, by rw [e1]; exact d1, kv, Fk, F2, rfl, hd2, by rw [e2]; exact (hcell _ (by omega) (by omega)).trans c2, hk', r3.chg hch (fun x hx hx2 => ?_) (fun i hi => hcell _ (by omega) (by omega))⟩
  rcases List.mem_cons.1 hx2 with rfl | hx2
  · exact hb (by simp [hx])
  · exact hd2 x hx2 hx

def MarkFo (f : Fo) : Prop := ∀ (v : Value) (F : List Nat) (m : Int) (w : World), f.Own w v F → 1 ≤ m → m + 2 * f.size ≤ 100000000 →
  Calls Tryd.prog 77 #[v, .int .i64 m] w fun e w' => e = .returned (.int .i64 (m + 2 * f.size)) ∧ (f.mk m).Own w' v F ∧ Chg F w w'

set_option maxRecDepth 100000 in
set_option maxHeartbeats 4000000 in
theorem markExprS_step (f : Fo) (ih : ∀ (k : Nat) (hk : k < f.list.length), MarkFo f.list[k].ks) : MarkFo f := by
  intro v F m w hv hm hb
  have IH := Lib.hid ih
  clear ih
  obtain ⟨p, cap, rfl⟩ := hv.in.form
  obtain ⟨_, hm1, hm2⟩ := hv.in.max
  unfold maxLen at hm2
  have HV := Lib.hid hv
  clear hv
  go_enter Tryd.func77, Tryd.ntmps77
  go_wp2_with fail
  go_loopw [1, 5] (fun kk i wr => ∃ (g h : Fo), RowKit.Hid (f = g.app h) ∧ i = .int .i64 (g.list.length : Int) ∧ kk = .int .i64 (m + 2 * (g.size : Int)) ∧ RowKit.Hid (((g.mk m).app h).Own wr (.slice p f.list.length cap) F) ∧ RowKit.Hid (Chg F w wr)) (fun _ i _ => f.list.length - (intOf i).toNat)
  case atStart => exact ⟨.nil, f, Lib.hid rfl, rfl, by simp [Fo.size], Lib.hid HV.out, Lib.hid (Chg.refl _ _)⟩
  case round =>
    obtain ⟨g, h, hf, rfl, rfl, HO, HC⟩ := hrel
    have hlen : f.list.length = g.list.length + h.list.length := by rw [hf.out, Fo.list_app, List.length_append]
    cases h with
    | nil =>
      have hle : f.list.length = g.list.length := by simpa [Fo.list] using hlen
      have hnl : ¬ ((g.list.length : Int) < (f.list.length : Int)) := by omega
      have HE := Lib.hid (show m + 2 * (g.size : Int) = m + 2 * (f.size : Int) ∧ (f.mk m).Own wr (.slice p f.list.length cap) F by
        have e : f = g := by rw [hf.out, Fo.app_nil]
        have := HO.out; rw [Fo.app_nil] at this
        rw [e] at this ⊢; exact ⟨rfl, this⟩)
      clear hlen hle
      go_wp2_with fail
      go_ret
      exact ⟨by rw [← HE.out.1]; rfl, HE.out.2, HC.out⟩
    | cons o a ks h =>
      have hlt : g.list.length < f.list.length := by rw [hlen]; simp [Fo.list]
      have hlt2 : (g.list.length : Int) < (f.list.length : Int) := by omega
      have hge : f.list[g.list.length] = ⟨o, a, ks⟩ := by
        have hl : f.list = g.list ++ (⟨o, a, ks⟩ :: h.list) := by rw [hf.out, Fo.list_app]; rfl
        simp only [hl]
        rw [List.getElem_append_right (Nat.le_refl _)]; simp
      have hih := IH.out g.list.length hlt
      rw [hge] at hih
      have hsz : f.size = g.size + (ks.size + h.size + 1) := by rw [hf.out, Fo.size_app]; rfl
      have hO := HO.out
      obtain ⟨b, kv, F1, Fk, F2, rfl, hF, hbl, hbk, hfz, c0, c1, c2, hks, hback⟩ := Fo.own_focus hO
      rw [Fo.mk_len] at c0 c1 c2 hback
      have hbF : b ∈ F := by rw [hF]; simp
      have hsub : ∀ x ∈ Fk, x ∈ F := fun x hx => by rw [hF]; simp [hx]
      have HBACK := Lib.hid hback
      have HKS := Lib.hid hks
      have HIH := Lib.hid hih
      have HFZ := Lib.hid hfz
      have hfrz0 := hfz (g.list.length * 3)
      have hfrz1 := hfz (g.list.length * 3 + 1)
      have HSUB := Lib.hid hsub
      have HBK := Lib.hid hbk
      have HBF := Lib.hid hbF
      have HSZ := Lib.hid hsz
      have hb1 : m + 2 * (g.size : Int) + 2 + 2 * ks.size ≤ 100000000 := by omega
      have hb0 : (0 : Int) ≤ (g.size : Int) := by omega
      clear hO hback hks hih hfz hge hF hlen hsub hbk hbF hsz hb
      go_wp2_with fail
      refine (markText_any _ _ (by omega) (by omega)).mono ?_
      rintro e w1 ⟨rfl, hb1'⟩
      have hz1 : b < w1.heap.size := by have := hb1'.size; simp at this; omega
      have HW1 := Lib.hid (show Chg [b] wr w1 from ((Chg.refl [b] wr).setCell (p := ⟨b, g.list.length * 3, none⟩) (by simp) (.int .i64 (m + 2 * (g.size : Int)))).then_below hb1')
      have d0 : w1.cell? ⟨b, g.list.length * 3, none⟩ = some (.int .i64 (m + 2 * (g.size : Int))) := keepc hb1' (by simpa using hbl) (set_same _ _ _ _ _ c0)
      have d1 : w1.cell? ⟨b, g.list.length * 3 + 1, none⟩ = some (.string a) := keepc hb1' (by simpa using hbl) ((set_near _ _ _ _ _ (by omega)).trans c1)
      have d2 : w1.cell? ⟨b, g.list.length * 3 + 2, none⟩ = some kv := keepc hb1' (by simpa using hbl) ((set_near _ _ _ _ _ (by omega)).trans c2)
      have HD := Lib.hid (show (∀ i, i ≠ g.list.length * 3 → w1.cell? ⟨b, i, none⟩ = wr.cell? ⟨b, i, none⟩) ∧ (∀ o, w1.frozen? ⟨b, o, none⟩ = false) from
        ⟨fun i hi => (hb1'.cell (p := ⟨b, i, none⟩) (by simpa using hbl)).trans (set_near _ _ _ _ _ (fun e => hi e.symm)), fun o => (hb1'.frozen (p := ⟨b, o, none⟩) (by simpa using hbl)).trans (by simpa [go_sem] using HFZ.out o)⟩)
      have f1 := HD.out.2 (g.list.length * 3 + 1)
      have HKS1 := Lib.hid (HKS.out.chg HW1.out (fun x hx => by simp; rintro rfl; exact HBK.out hx))
      clear hb1' c0 c1 c2 hfrz0 hfrz1
      obtain ⟨pk, ck, rfl⟩ := HKS1.out.in.form
      go_wp2_with fail
      have HKS2 := Lib.hid (HKS1.out.chg (G := [b]) (w' := w1.setCell ⟨b, g.list.length * 3 + 1, none⟩ (.string (mt (m + 2 * (g.size : Int) + 1)))) ((Chg.refl [b] w1).setCell (by simp) _) (fun x hx => by simp; rintro rfl; exact HBK.out hx))
      refine (HIH.out _ _ _ _ HKS2.out (by omega) (by omega)).mono ?_
      rintro e w2 ⟨rfl, hk2, hc2⟩
      have HN := Lib.hid (show ((g.mk m).app (.cons (m + 2 * (g.size : Int)) (mt (m + 2 * (g.size : Int) + 1)) (ks.mk (m + 2 * (g.size : Int) + 1 + 1)) h)).Own w2 (.slice (some ⟨b, 0, none⟩) f.list.length cap) F from by
        have hbw : ∀ i, w2.cell? ⟨b, i, none⟩ = (w1.setCell ⟨b, g.list.length * 3 + 1, none⟩ (.string (mt (m + 2 * (g.size : Int) + 1)))).cell? ⟨b, i, none⟩ := fun i => World.cell?_of_block (a := ⟨b, i, none⟩) (hc2.block b (by simpa using hz1) HBK.out)
        have hbf : ∀ i, w2.frozen? ⟨b, i, none⟩ = (w1.setCell ⟨b, g.list.length * 3 + 1, none⟩ (.string (mt (m + 2 * (g.size : Int) + 1)))).frozen? ⟨b, i, none⟩ := fun i => World.frozen?_of_block (a := ⟨b, i, none⟩) (hc2.block b (by simpa using hz1) HBK.out)
        refine HBACK.out w2 _ _ _ ?_ (fun i h1 h2 => ?_) (fun o => ?_) ?_ ?_ hk2
        · exact ((HW1.out.mono (fun x hx => by simp at hx; simp [hx])).trans (((Chg.refl (b :: Fk) w1).setCell (by simp) _).trans (hc2.mono (fun x hx => by simp [hx]))))
        · exact (hbw i).trans ((set_near _ _ _ _ _ (fun e => h2 e.symm)).trans (HD.out.1 i h1))
        · exact (hbf o).trans (by simpa [go_sem] using HD.out.2 o)
        · exact (hbw _).trans ((set_near _ _ _ _ _ (by omega)).trans d0)
        · exact (hbw _).trans (set_same _ _ _ _ _ d1))
      have HC2 := Lib.hid (show Chg F w w2 from HC.out.trans ((HW1.out.mono (fun x hx => by simp at hx; subst hx; exact HBF.out)).trans (((Chg.refl F w1).setCell HBF.out _).trans (hc2.mono HSUB.out))))
      clear hk2 hc2 d0 d1 d2 f1
      go_wp2_with fail
      go_roundw
      case rel =>
        refine ⟨g.app (.cons o a ks .nil), h, Lib.hid ?_, ?_, ?_, Lib.hid ?_, Lib.hid HC2.out⟩
        · rw [hf.out, Fo.app_assoc]; rfl
        · rw [Fo.list_app]; simp [Fo.list]
        · rw [Fo.size_app]; simp only [Fo.size]; congr 1; simp only [Int.natCast_add]; omega
        · rw [Fo.mk_app, Fo.app_assoc]
          have := HN.out
          rw [show m + 2 * (g.size : Int) + 1 + 1 = m + 2 * (g.size : Int) + 2 by omega] at this
          exact this
      case measure => simp [intOf]; omega
theorem markExprS_any (f : Fo) : MarkFo f := Fo.by_parts markExprS_step f
theorem markExpr_any (e : Ex) (v : Value) (F : List Nat) (m : Int) (w : World) (hv : e.Has v F w) (hm : 1 ≤ m) (hb : m + 2 * e.ks.size ≤ 100000000) :
    Calls Tryd.prog 43 #[v, .int .i64 m] w fun en w' => en = .returned (.int .i64 (m + 2 * e.ks.size)) ∧ (⟨e.op, e.a, e.ks.mk m⟩ : Ex).Has v F w' ∧ Chg F w w' := by
  obtain ⟨k, rfl, hk⟩ := hv
  obtain ⟨p, cap, rfl⟩ := hk.in.form
  have HK := Lib.hid hk
  clear hk
  go_enter Tryd.func43, Tryd.ntmps43
  go_wp2_with fail
  refine (markExprS_any e.ks _ F m _ (HK.out.below ((Below.refl _ _).alloc (Nat.le_refl _) _)) hm hb).mono ?_
  rintro en w1 ⟨rfl, h1, hc1⟩
  have H1 := Lib.hid h1
  have HC1 := Lib.hid ((Chg.of_below ((Below.refl w.heap.size w).alloc (Nat.le_refl _) (.cells #[.int .i64 e.op, .string e.a, .slice p e.ks.list.length cap] 25)) F).trans hc1)
  clear h1 hc1
  go_wp2_with fail
  go_ret
  exact ⟨rfl, ⟨_, rfl, H1.out⟩, HC1.out⟩

def HeldFo (f : Fo) : Prop := ∀ (v : Value) (m : Int) (B : Nat) (w : World), (f.mk m).In B w v → B ≤ w.heap.size → 1 ≤ m → m + 2 * f.size ≤ 100000000 →
  Calls Tryd.prog 78 #[v, .int .i64 m] w fun e w' => e = .returned (.int .i64 (m + 2 * f.size)) ∧ Below w.heap.size w w'

set_option maxRecDepth 100000 in
set_option maxHeartbeats 4000000 in
theorem heldExprS_step (f : Fo) (ih : ∀ (k : Nat) (hk : k < f.list.length), HeldFo f.list[k].ks) : HeldFo f := by
  intro v m B w hv hB hm hb
  have IH := Lib.hid ih
  clear ih
  obtain ⟨p, cap, hve⟩ := hv.form
  rw [Fo.mk_len] at hve
  subst hve
  obtain ⟨hx, hm1, hm2⟩ := hv.max
  clear hx
  unfold maxLen at hm2
  have HV := Lib.hid hv
  clear hv
  go_enter Tryd.func78, Tryd.ntmps78
  go_wp2_with fail
  go_loopw [1, 5] (fun kk i wr => ∃ (g h : Fo), RowKit.Hid (f = g.app h) ∧ i = .int .i64 (g.list.length : Int) ∧ kk = .int .i64 (m + 2 * (g.size : Int)) ∧ Below w.heap.size w wr) (fun _ i _ => f.list.length - (intOf i).toNat)
  case atStart => exact ⟨.nil, f, Lib.hid rfl, rfl, by simp [Fo.size], Below.refl _ _⟩
  case round =>
    obtain ⟨g, h, hf, rfl, rfl, hbw⟩ := hrel
    have hsz0 := hbw.size
    have HB := Lib.hid hbw
    clear hbw
    have hlen : f.list.length = g.list.length + h.list.length := by rw [hf.out, Fo.list_app, List.length_append]
    cases h with
    | nil =>
      have hle : f.list.length = g.list.length := by simpa [Fo.list] using hlen
      have hnl : ¬ ((g.list.length : Int) < (f.list.length : Int)) := by omega
      have HE := Lib.hid (show m + 2 * (g.size : Int) = m + 2 * (f.size : Int) by rw [hf.out, Fo.app_nil])
      clear hlen hle
      go_wp2_with fail
      go_ret
      exact ⟨by rw [← HE.out]; rfl, HB.out⟩
    | cons o a ks h =>
      have hlt : g.list.length < f.list.length := by rw [hlen]; simp [Fo.list]
      have hlt2 : (g.list.length : Int) < (f.list.length : Int) := by omega
      have hge : f.list[g.list.length] = ⟨o, a, ks⟩ := by
        have hl : f.list = g.list ++ (⟨o, a, ks⟩ :: h.list) := by rw [hf.out, Fo.list_app]; rfl
        simp only [hl]
        rw [List.getElem_append_right (Nat.le_refl _)]; simp
      have hih := IH.out g.list.length hlt
      rw [hge] at hih
      have hsz : f.size = g.size + (ks.size + h.size + 1) := by rw [hf.out, Fo.size_app]; rfl
      obtain ⟨b, off, q, n, c, rfl, hbl, c0, c1, c2, hin⟩ := (HV.out.below (HB.out.mono hB) (Nat.le_refl _)).get g.list.length (by rw [Fo.mk_len]; exact hlt)
      have hmg : (f.mk m).list[g.list.length]'(by rw [Fo.mk_len]; exact hlt) = ⟨m + 2 * (g.size : Int), mt (m + 2 * (g.size : Int) + 1), ks.mk (m + 2 * (g.size : Int) + 2)⟩ := by
        have hl : (f.mk m).list = (g.mk m).list ++ (⟨m + 2 * (g.size : Int), mt (m + 2 * (g.size : Int) + 1), ks.mk (m + 2 * (g.size : Int) + 2)⟩ :: (h.mk (m + 2 * (g.size : Int) + 2 + 2 * ks.size)).list) := by rw [hf.out, Fo.mk_app, Fo.list_app]; rfl
        simp only [hl]
        rw [List.getElem_append_right (by rw [Fo.mk_len]; exact Nat.le_refl _)]; simp [Fo.mk_len]
      rw [hmg] at c0 c1 hin
      have d0 : wr.cell? ⟨b, off + g.list.length * 3, none⟩ = some (.int .i64 (m + 2 * (g.size : Int))) := c0
      have d1 : wr.cell? ⟨b, off + g.list.length * 3 + 1, none⟩ = some (.string (mt (m + 2 * (g.size : Int) + 1))) := c1
      have HIN := Lib.hid hin
      have HIH := Lib.hid hih
      have HSZ := Lib.hid hsz
      have hb1 : m + 2 * (g.size : Int) + 2 + 2 * ks.size ≤ 100000000 := by omega
      have hb0 : (0 : Int) ≤ (g.size : Int) := by omega
      clear c0 c1 hin hih hge hmg hlen hsz hb
      have zb : b < wr.drew.heap.size := by simp; omega
      have zb' : b < wr.heap.size := by omega
      have zw : w.heap.size ≤ wr.drew.heap.size := hsz0
      have HBd := Lib.hid HB.out.drew
      go_upto_region 7 with fail
      go_cut [28] (fun s wx => s = .bool false ∧ Below wr.heap.size wr wx)
      case first =>
        have rr := Below.refl wr.heap.size wr
        go_region_held3 (fun w' => w'.cell? ⟨b, off + g.list.length * 3 + 1, none⟩ = some (.string (mt (m + 2 * (g.size : Int) + 1))))
          (first | exact d1 | exact S6.out)
          (first | (go_at_call 91; refine (markText_any _ _ (by omega) (by omega)).mono ?_; rintro e wc ⟨rfl, hbc⟩; have S6 := Lib.hid (keepc hbc zb d1); have hbd := Below.trans (show Below wr.heap.size wr _ by ((repeat (first | with_reducible assumption | with_reducible exact Below.refl _ _ | refine Below.setCell ?_ (by (first | omega | (simp; omega) | (simp; done) | fail "sml")) _ | refine Below.drew ?_ | refine Below.alloc ?_ (by (first | omega | (simp; omega) | (simp; done) | fail "sml")) _)); first | done | fail "chs")) (hbc.mono (by simp)); clear hbc))
        all_goals (go_wp2_with fail; go_meet)
        all_goals exact ⟨rfl, by ((repeat (first | with_reducible assumption | with_reducible exact Below.refl _ _ | refine Below.setCell ?_ (by (first | omega | (simp; omega) | (simp; done) | fail "sml")) _ | refine Below.drew ?_ | refine Below.alloc ?_ (by (first | omega | (simp; omega) | (simp; done) | fail "sml")) _)); first | done | fail "chs")⟩
      case rest =>
        obtain ⟨rfl, hbx⟩ := hcut
        have hzx := hbx.size
        have e2 := keepc hbx zb' c2
        have HBx := Lib.hid (HB.out.trans (hbx.mono hsz0))
        have HINx := Lib.hid (HIN.out.below (hbx.mono (by omega)) (Nat.le_refl _))
        clear hbx d0 d1 c2 zb zw HBd
        go_wp2_with fail
        refine (HIH.out _ _ B _ (by rw [show m + 2 * (g.size : Int) + 1 + 1 = m + 2 * (g.size : Int) + 2 by omega]; exact HINx.out) (by omega) (by omega) (by omega)).mono ?_
        rintro e w2 ⟨rfl, hb2⟩
        have HB2 := Lib.hid (HBx.out.trans (hb2.mono (by omega)))
        clear hb2
        have hn2 : ¬ (m + 2 * (g.size : Int) + 1 + 1 + 2 * (ks.size : Int) < 0) := by omega
        go_wp2_with fail
        go_roundw
        case rel =>
          refine ⟨g.app (.cons o a ks .nil), h, Lib.hid ?_, ?_, ?_, HB2.out⟩
          · rw [hf.out, Fo.app_assoc]; rfl
          · rw [Fo.list_app]; simp [Fo.list]
          · rw [Fo.size_app]; simp only [Fo.size]; congr 1; simp only [Int.natCast_add]; omega
        case measure => simp [intOf]; omega
theorem heldExprS_any (f : Fo) : HeldFo f := Fo.by_parts heldExprS_step f
theorem heldExpr_any (e : Ex) (v : Value) (m : Int) (B : Nat) (w : World) (hv : (⟨e.op, e.a, e.ks.mk m⟩ : Ex).At B w v) (hB : B ≤ w.heap.size) (hm : 1 ≤ m) (hb : m + 2 * e.ks.size ≤ 100000000) :
    Calls Tryd.prog 44 #[v, .int .i64 m] w fun en w' => en = .returned (.int .i64 (m + 2 * e.ks.size)) ∧ Below w.heap.size w w' := by
  obtain ⟨k, rfl, hk⟩ := hv
  obtain ⟨p, cap, hke⟩ := hk.form
  have HK := Lib.hid hk
  clear hk
  subst hke
  have hn : ¬ (m + 2 * (e.ks.size : Int) < 0) := by omega
  go_enter Tryd.func44, Tryd.ntmps44
  go_wp2_with fail
  refine (heldExprS_any e.ks _ m B _ (HK.out.below ((Below.refl B w).alloc hB _) (Nat.le_refl _)) (by simp; omega) hm hb).mono ?_
  rintro en w1 ⟨rfl, hb1⟩
  have HB1 := Lib.hid (below_past hb1)
  clear hb1
  go_wp2_with fail
  go_ret
  exact ⟨rfl, HB1.out⟩
end Go.Proofs.YtbbemeaojmfndaaDoor
namespace Go.Proofs.YtbbemeaojmfndaaDoor
open Go.RowKit

def El.mk2 (e : El) (m : Int) : El := ⟨e.n, e.v, ⟨e.l.op, e.l.a, e.l.ks.mk m⟩, ⟨e.c.op, e.c.a, e.c.ks.mk (m + 2 * e.l.ks.size)⟩, e.d⟩
theorem El.goes (e : El) : Goes e.Has := fun _ _ _ _ _ h hc hd => h.chg hc hd

set_option maxRecDepth 100000 in
set_option maxHeartbeats 2000000 in
theorem markElem_any (e : El) (u : Value) (F : List Nat) (m : Int) (w : World) (hu : e.Has u F w) (hm : 1 ≤ m) (hb : m + 2 * (e.l.ks.size + e.c.ks.size) ≤ 100000000) :
    Calls Tryd.prog 17 #[u, .int .i64 m] w fun en w' => en = .returned (.int .i64 (m + 2 * (e.l.ks.size + e.c.ks.size))) ∧ (e.mk2 m).Has u F w' ∧ Chg F w w' := by
  obtain ⟨k, k', F1, F2, rfl, rfl, hd, h1, h2⟩ := hu
  obtain ⟨p, cap, rfl⟩ := h1.in.form
  obtain ⟨p', cap', rfl⟩ := h2.in.form
  have hF1 := Lib.hid h1.lt
  have hF2 := Lib.hid h2.lt
  have HD := Lib.hid hd
  have HB0 := Lib.hid (show Below w.heap.size w (w.alloc (.cells #[.bool e.n, .string e.v, .int .i64 e.l.op, .string e.l.a, .slice p e.l.ks.list.length cap, .int .i64 e.c.op, .string e.c.a, .slice p' e.c.ks.list.length cap', .int .i64 e.d] 27)) from (Below.refl _ _).alloc (Nat.le_refl _) _)
  have H1 := Lib.hid (h1.below HB0.out)
  have H2 := Lib.hid (h2.below HB0.out)
  clear h1 h2 hd
  go_enter Tryd.func17, Tryd.ntmps17
  go_wp2_with fail
  refine (markExpr_any e.l _ F1 m _ ⟨_, rfl, H1.out⟩ hm (by omega)).mono ?_
  rintro en w1 ⟨rfl, ho1, hc1⟩
  have hk : ∀ i, w1.cell? ⟨w.heap.size, i, none⟩ = (w.alloc (.cells #[.bool e.n, .string e.v, .int .i64 e.l.op, .string e.l.a, .slice p e.l.ks.list.length cap, .int .i64 e.c.op, .string e.c.a, .slice p' e.c.ks.list.length cap', .int .i64 e.d] 27)).cell? ⟨w.heap.size, i, none⟩ := fun i => World.cell?_of_block (a := ⟨w.heap.size, i, none⟩) (hc1.block w.heap.size (by simp) (fun hx => by have := hF1.out _ hx; omega))
  have c5 : w1.cell? ⟨w.heap.size, 5, none⟩ = some (.int .i64 e.c.op) := (hk 5).trans (by simp [go_sem])
  have c6 : w1.cell? ⟨w.heap.size, 6, none⟩ = some (.string e.c.a) := (hk 6).trans (by simp [go_sem])
  have c7 : w1.cell? ⟨w.heap.size, 7, none⟩ = some (.slice p' e.c.ks.list.length cap') := (hk 7).trans (by simp [go_sem])
  have HO1 := Lib.hid ho1
  have HC1 := Lib.hid hc1
  have H2' := Lib.hid (H2.out.chg hc1 (fun x hx hx1 => HD.out x hx1 hx))
  clear hk ho1 hc1
  go_wp2_with fail
  refine (markExpr_any e.c _ F2 _ _ ⟨_, rfl, H2'.out⟩ (by omega) (by omega)).mono ?_
  rintro en w2 ⟨rfl, ho2, hc2⟩
  have HO2 := Lib.hid ho2
  have HC2 := Lib.hid ((Chg.of_below HB0.out (F1 ++ F2)).trans ((HC1.out.mono (fun x hx => List.mem_append_left _ hx)).trans (hc2.mono (fun x hx => List.mem_append_right _ hx))))
  have HO1' := Lib.hid (HO1.out.chg hc2 (fun x hx => HD.out x hx))
  clear ho2 hc2
  go_wp2_with fail
  go_ret
  obtain ⟨a1, e1, g1⟩ := HO1'.out
  obtain ⟨a2, e2, g2⟩ := HO2.out
  cases e1
  cases e2
  exact ⟨congrArg (fun z => Ending.returned (Value.int .i64 z)) (show m + 2 * (e.l.ks.size : Int) + 2 * (e.c.ks.size : Int) = m + 2 * ((e.l.ks.size : Int) + (e.c.ks.size : Int)) by omega), ⟨_, _, F1, F2, rfl, rfl, HD.out, g1, g2⟩, HC2.out⟩
set_option maxRecDepth 100000 in
set_option maxHeartbeats 2000000 in
theorem heldElem_any (e : El) (u : Value) (m : Int) (B : Nat) (w : World) (hu : (e.mk2 m).At B w u) (hB : B ≤ w.heap.size) (hm : 1 ≤ m) (hb : m + 2 * (e.l.ks.size + e.c.ks.size) ≤ 100000000) :
    Calls Tryd.prog 18 #[u, .int .i64 m] w fun en w' => en = .returned (.int .i64 (m + 2 * (e.l.ks.size + e.c.ks.size))) ∧ Below w.heap.size w w' := by
  obtain ⟨k, k', rfl, h1, h2⟩ := hu
  obtain ⟨p, cap, hk1⟩ := h1.form
  obtain ⟨p', cap', hk2⟩ := h2.form
  subst hk1 hk2
  have H1 := Lib.hid h1
  have H2 := Lib.hid h2
  clear h1 h2
  have hn1 : ¬ (m + 2 * (e.l.ks.size : Int) < 0) := by omega
  have hn2 : ¬ (m + 2 * (e.l.ks.size : Int) + 2 * (e.c.ks.size : Int) < 0) := by omega
  go_enter Tryd.func18, Tryd.ntmps18
  go_wp2_with fail
  refine (heldExpr_any e.l _ m B _ ⟨_, rfl, H1.out.below ((Below.refl B w).alloc hB _) (Nat.le_refl _)⟩ (by simp; omega) hm (by omega)).mono ?_
  rintro en w1 ⟨rfl, hb1⟩
  have c5 := new_cell hb1 (j := 5) rfl
  have c6 := new_cell hb1 (j := 6) rfl
  have c7 := new_cell hb1 (j := 7) rfl
  have hs1 : w.heap.size < w1.heap.size := by have := hb1.size; simp at this; omega
  have HB1 := Lib.hid (below_past hb1)
  clear hb1
  go_wp2_with fail
  refine (heldExpr_any e.c _ _ B _ ⟨_, rfl, H2.out.below (HB1.out.mono hB) (Nat.le_refl _)⟩ (by omega) (by omega) (by omega)).mono ?_
  rintro en w2 ⟨rfl, hb2⟩
  have HB2 := Lib.hid (HB1.out.trans (hb2.mono (by omega)))
  clear hb2
  go_wp2_with fail
  go_ret
  exact ⟨congrArg (fun z => Ending.returned (Value.int .i64 z)) (show m + 2 * (e.l.ks.size : Int) + 2 * (e.c.ks.size : Int) = m + 2 * ((e.l.ks.size : Int) + (e.c.ks.size : Int)) by omega), HB2.out⟩
end Go.Proofs.YtbbemeaojmfndaaDoor
namespace Go.Proofs.YtbbemeaojmfndaaDoor
open Go.RowKit

noncomputable def elEq (a b : El) : Bool := @decide (a = b) (Classical.propDecidable _)
theorem elEq_true {a b : El} (h : a = b) : elEq a b = true := by unfold elEq; simp [h]
theorem elEq_false {a b : El} (h : a ≠ b) : elEq a b = false := by unfold elEq; simp [h]
theorem elEq_iff {a b : El} : elEq a b = true ↔ a = b := by unfold elEq; simp
def El.Liv (e : El) (B : Nat) (w : World) (u : Value) : Prop := ∃ k k', u = .agg #[.bool e.n, .string e.v, .int .i64 e.l.op, .string e.l.a, k, .int .i64 e.c.op, .string e.c.a, k', .int .i64 e.d] ∧ e.l.ks.Live B w k ∧ e.c.ks.Live B w k'
theorem El.Has.liv {e : El} {u : Value} {F : List Nat} {w : World} (h : e.Has u F w) : e.Liv w.heap.size w u := by
  obtain ⟨k, k', F1, F2, h1, _, _, h2, h3⟩ := h; exact ⟨k, k', h1, h2.live, h3.live⟩
theorem El.Liv.below {e : El} {B B' : Nat} {w w' : World} {u : Value} (h : e.Liv B w u) (hb : Below B w w') (hB : B ≤ B') : e.Liv B' w' u := by
  obtain ⟨k, k', h1, h2, h3⟩ := h; exact ⟨k, k', h1, h2.below hb hB, h3.below hb hB⟩
theorem El.Liv.at {e : El} {B : Nat} {w : World} {u : Value} (h : e.Liv B w u) : e.At B w u := by
  obtain ⟨k, k', h1, h2, h3⟩ := h; exact ⟨k, k', h1, h2.in, h3.in⟩
end Go.Proofs.YtbbemeaojmfndaaDoor
namespace Go.Proofs.YtbbemeaojmfndaaDoor
open Go.RowKit

theorem Gr.At.form {g : Gr} {B : Nat} {w : World} {v : Value} (h : g.At B w v) : ∃ p c q d, v = .agg #[.slice p g.ns.length c, .slice q g.es.length d] := by
  obtain ⟨a, b, rfl, h1, h2⟩ := h
  obtain ⟨p, c, rfl⟩ := h1.form
  obtain ⟨q, d, rfl⟩ := h2.form
  exact ⟨p, c, q, d, rfl⟩
theorem Gr.At.to {g : Gr} {B B' : Nat} {w w' : World} {v : Value} (h : g.At B w v) (hb : Below B w w') (hB : B ≤ B') : g.At B' w' v := (h.below hb).mono hB
theorem El.At.to {e : El} {B B' : Nat} {w w' : World} {v : Value} (h : e.At B w v) (hb : Below B w w') (hB : B ≤ B') : e.At B' w' v := h.below hb hB
theorem Ex.At.to {e : Ex} {B B' : Nat} {w w' : World} {v : Value} (h : e.At B w v) (hb : Below B w w') (hB : B ≤ B') : e.At B' w' v := h.below hb hB
theorem Gr.goes (g : Gr) : Goes g.Has := fun _ _ _ _ _ h hc hd => h.chg hc hd
theorem Gr.Has.lt {g : Gr} {v : Value} {F : List Nat} {w : World} (h : g.Has v F w) : ∀ x ∈ F, x < w.heap.size := by
  obtain ⟨F1, F2, rfl, h⟩ := h
  intro x hx
  rcases List.mem_append.1 hx with hx | hx
  · exact h.lt.1 x hx
  · exact h.lt.2 x hx
end Go.Proofs.YtbbemeaojmfndaaDoor
