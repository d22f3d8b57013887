/- Elements as data and in memory; the laws' helpers on them. -/
import Derived.Test.YtggpnnoldjpmcaaExTo
namespace Go.Proofs.Ytggpnnoldjpmcaa
open Go.RowKit

structure El where
  n : Bool
  v : ByteArray
  l : Ex
  c : Ex
  d : Int
/-- The value of a struct Elem. -/
def El.At (e : El) (B : Nat) (w : World) (u : Value) : Prop := ∃ k k', u = .agg #[.bool e.n, .string e.v, .int .i64 e.l.op, .string e.l.a, k, .int .i64 e.c.op, .string e.c.a, k', .int .i64 e.d] ∧ e.l.ks.In B w k ∧ e.c.ks.In B w k'
theorem El.At.below {e : El} {B B' : Nat} {w w' : World} {u : Value} (h : e.At B w u) (hb : Below B w w') (hB : B ≤ B') : e.At B' w' u := by
  obtain ⟨k, k', h1, h2, h3⟩ := h; exact ⟨k, k', h1, h2.below hb hB, h3.below hb hB⟩
theorem El.At.form {e : El} {B : Nat} {w : World} {u : Value} (h : e.At B w u) : ∃ p cap p' cap', u = .agg #[.bool e.n, .string e.v, .int .i64 e.l.op, .string e.l.a, .slice p e.l.ks.list.length cap, .int .i64 e.c.op, .string e.c.a, .slice p' e.c.ks.list.length cap', .int .i64 e.d] ∧ e.l.ks.In B w (.slice p e.l.ks.list.length cap) ∧ e.c.ks.In B w (.slice p' e.c.ks.list.length cap') := by
  obtain ⟨k, k', h1, h2, h3⟩ := h
  obtain ⟨p, cap, rfl⟩ := h2.form
  obtain ⟨p', cap', rfl⟩ := h3.form
  exact ⟨p, cap, p', cap', h1, h2, h3⟩
/-- An element in memory of the call's own, in the blocks F. -/
def El.Has (e : El) (u : Value) (F : List Nat) (w : World) : Prop := ∃ k k' F1 F2, u = .agg #[.bool e.n, .string e.v, .int .i64 e.l.op, .string e.l.a, k, .int .i64 e.c.op, .string e.c.a, k', .int .i64 e.d] ∧ F = F1 ++ F2 ∧ (∀ x ∈ F1, x ∉ F2) ∧ e.l.ks.Own w k F1 ∧ e.c.ks.Own w k' F2
theorem El.Has.at {e : El} {u : Value} {F : List Nat} {w : World} (h : e.Has u F w) : e.At w.heap.size w u := by
  obtain ⟨k, k', F1, F2, h1, _, _, h2, h3⟩ := h; exact ⟨k, k', h1, h2.in, h3.in⟩
theorem El.Has.chg {e : El} {u : Value} {F G : List Nat} {w w' : World} (h : e.Has u F w) (hc : Chg G w w') (hd : ∀ x ∈ F, x ∉ G) : e.Has u F w' := by
  obtain ⟨k, k', F1, F2, h1, rfl, h2, h3, h4⟩ := h
  exact ⟨k, k', F1, F2, h1, rfl, h2, h3.chg hc (fun x hx => hd x (List.mem_append_left _ hx)), h4.chg hc (fun x hx => hd x (List.mem_append_right _ hx))⟩
theorem El.Has.below {e : El} {u : Value} {F : List Nat} {w w' : World} (h : e.Has u F w) (hb : Below w.heap.size w w') : e.Has u F w' := h.chg (Chg.of_below hb []) (by simp)
theorem El.Has.lt {e : El} {u : Value} {F : List Nat} {w : World} (h : e.Has u F w) : ∀ x ∈ F, x < w.heap.size := by
  obtain ⟨k, k', F1, F2, h1, rfl, h2, h3, h4⟩ := h
  intro x hx
  rcases List.mem_append.1 hx with hx | hx
  · exact h3.lt x hx
  · exact h4.lt x hx
def El.Ok (e : El) : Prop := e.v.size ≤ maxLen ∧ e.l.Ok ∧ e.l.ks.Ok ∧ e.c.Ok ∧ e.c.ks.Ok ∧ I64 e.d
def elNeed (e : El) : Nat := e.v.size + exNeed e.l + exNeed e.c
theorem El.sm_need {e : El} (h : elNeed e ≤ 1048576) : e.v.size ≤ 1048576 ∧ e.l.a.size ≤ 1048576 ∧ e.l.ks.size ≤ 1048576 ∧ e.c.a.size ≤ 1048576 ∧ e.c.ks.size ≤ 1048576 ∧ e.l.ks.need ≤ 1048576 ∧ e.c.ks.need ≤ 1048576 := by
  have h1 := e.l.ks.size_need
  have h2 := e.c.ks.size_need
  unfold elNeed exNeed at h
  omega

set_option maxRecDepth 100000 in
set_option maxHeartbeats 1000000 in
theorem szElem_any (e : El) (u : Value) (left : Int) (B : Nat) (w : World) (hu : e.At B w u) (hB : B ≤ w.heap.size) (h0 : 0 ≤ left) (h1 : left ≤ 1048576) (hok : e.Ok) :
    Calls Try.prog 115 #[u, .int .i64 left] w (SzPost left (elNeed e) w.heap.size w) := by
  obtain ⟨p, cap, p', cap', rfl, hl, hc⟩ := hu.form
  obtain ⟨o1, o2, o3, o4, o5, _⟩ := hok
  unfold maxLen at o1
  have HOL := Lib.hid o3
  have HOC := Lib.hid o5
  have ol := o2.2
  have oc := o4.2
  clear hu o2 o3 o4 o5
  have HL := Lib.hid hl
  have HC := Lib.hid hc
  clear hl hc
  by_cases hlt : left < e.v.size
  · go_enter Try.func115, Try.ntmps115
    go_wp2_with fail
    go_ret
    exact ⟨-1, rfl, .inl rfl, (Below.refl _ _).alloc (Nat.le_refl _) _⟩
  have HB0 := Lib.hid (show Below w.heap.size w (w.alloc (.cells #[.bool e.n, .string e.v, .int .i64 e.l.op, .string e.l.a, .slice p e.l.ks.list.length cap, .int .i64 e.c.op, .string e.c.a, .slice p' e.c.ks.list.length cap', .int .i64 e.d] 125)) from (Below.refl _ _).alloc (Nat.le_refl _) _)
  go_enter Try.func115, Try.ntmps115
  go_wp2_with fail
  refine (szExpr_any e.l _ _ B _ ⟨_, rfl, HL.out.below (HB0.out.mono hB) (Nat.le_refl _)⟩ (by simp; omega) (by omega) (by omega) ol HOL.out).mono ?_
  rintro en w1 ⟨r, rfl, hr, hb1⟩
  have c5 := new_cell hb1 (j := 5) rfl
  have c6 := new_cell hb1 (j := 6) rfl
  have c7 := new_cell hb1 (j := 7) rfl
  have hs1 : w.heap.size < w1.heap.size := by have := hb1.size; simp at this; omega
  have HB1 := Lib.hid (below_past hb1)
  clear hb1
  rcases hr with hr | ⟨hr0, hr⟩
  · have hneg : r < 0 := by omega
    clear hr
    go_wp2_with fail
    go_ret
    exact ⟨-1, rfl, .inl rfl, HB1.out⟩
  have HR := Lib.hid hr
  have hrm : r ≤ 1048576 := by omega
  clear hr
  go_wp2_with fail
  refine (szExpr_any e.c _ _ B _ ⟨_, rfl, HC.out.below (HB1.out.mono hB) (Nat.le_refl _)⟩ (by omega) hr0 hrm oc HOC.out).mono ?_
  rintro en w2 ⟨s, rfl, hs, hb2⟩
  have HB2 := Lib.hid (HB1.out.trans (hb2.mono (by omega)))
  clear hb2
  rcases hs with hs | ⟨hs0, hs⟩
  · have hneg : s < 0 := by omega
    clear hs
    go_wp2_with fail
    go_ret
    exact ⟨-1, rfl, .inl rfl, HB2.out⟩
  have HS := Lib.hid (show s = left - elNeed e by have := HR.out; unfold elNeed; omega)
  clear hs
  go_wp2_with fail
  go_ret
  exact ⟨s, rfl, .inr ⟨hs0, HS.out⟩, HB2.out⟩

set_option maxRecDepth 100000 in
set_option maxHeartbeats 2000000 in
theorem toElem_any (e : El) (u : Value) (B : Nat) (w : World) (hu : e.At B w u) (hB : B ≤ w.heap.size) (h1 : e.l.ks.size ≤ 1048576) (h2 : e.c.ks.size ≤ 1048576) :
    Calls Try.prog 117 #[u] w fun en w' => ∃ v' F, en = .returned v' ∧ e.Has v' F w' ∧ (∀ x ∈ F, w.heap.size ≤ x) ∧ Below w.heap.size w w' := by
  obtain ⟨p, cap, p', cap', rfl, hl, hc⟩ := hu.form
  have HL := Lib.hid hl
  have HC := Lib.hid hc
  clear hu hl hc
  go_enter Try.func117, Try.ntmps117
  go_wp2_with fail
  refine (toExpr_any e.l _ B _ ⟨_, rfl, HL.out.below (by ((repeat (first | with_reducible assumption | with_reducible exact Below.refl _ _ | refine Below.setCell ?_ (by (first | omega | (simp; omega) | (simp; done) | fail "sml")) _ | refine Below.drew ?_ | refine Below.alloc ?_ (by (first | omega | (simp; omega) | (simp; done) | fail "sml")) _)); first | done | fail "chs")) (Nat.le_refl _)⟩ (by simp; omega) h1).mono ?_
  rintro en w1 ⟨v1, F1, rfl, ho1, hf1, hb1⟩
  have hs1 : w.heap.size + 3 ≤ w1.heap.size := by have := hb1.size; simp at this; omega
  have a5 : w1.cell? ⟨w.heap.size, 5, none⟩ = some (.int .i64 e.c.op) := (hb1.cell (by first | (simp; done) | (simp; omega))).trans (by simp [go_sem])
  have a6 : w1.cell? ⟨w.heap.size, 6, none⟩ = some (.string e.c.a) := (hb1.cell (by first | (simp; done) | (simp; omega))).trans (by simp [go_sem])
  have a7 : w1.cell? ⟨w.heap.size, 7, none⟩ = some (.slice p' e.c.ks.list.length cap') := (hb1.cell (by first | (simp; done) | (simp; omega))).trans (by simp [go_sem])
  have a8 : w1.cell? ⟨w.heap.size, 8, none⟩ = some (.int .i64 e.d) := (hb1.cell (by first | (simp; done) | (simp; omega))).trans (by simp [go_sem])
  have q0 : w1.cell? ⟨w.heap.size + 1, 0, none⟩ = some (.bool false) := (hb1.cell (by first | (simp; done) | (simp; omega))).trans (by simp [go_sem])
  have q1 : w1.cell? ⟨w.heap.size + 1, 1, none⟩ = some (.string ⟨#[]⟩) := (hb1.cell (by first | (simp; done) | (simp; omega))).trans (by simp [go_sem])
  have q2 : w1.cell? ⟨w.heap.size + 1, 2, none⟩ = some (.int .i64 0) := (hb1.cell (by first | (simp; done) | (simp; omega))).trans (by simp [go_sem])
  have q3 : w1.cell? ⟨w.heap.size + 1, 3, none⟩ = some (.string ⟨#[]⟩) := (hb1.cell (by first | (simp; done) | (simp; omega))).trans (by simp [go_sem])
  have q4 : w1.cell? ⟨w.heap.size + 1, 4, none⟩ = some (.slice none 0 0) := (hb1.cell (by first | (simp; done) | (simp; omega))).trans (by simp [go_sem])
  have q5 : w1.cell? ⟨w.heap.size + 1, 5, none⟩ = some (.int .i64 0) := (hb1.cell (by first | (simp; done) | (simp; omega))).trans (by simp [go_sem])
  have q6 : w1.cell? ⟨w.heap.size + 1, 6, none⟩ = some (.string ⟨#[]⟩) := (hb1.cell (by first | (simp; done) | (simp; omega))).trans (by simp [go_sem])
  have q7 : w1.cell? ⟨w.heap.size + 1, 7, none⟩ = some (.slice none 0 0) := (hb1.cell (by first | (simp; done) | (simp; omega))).trans (by simp [go_sem])
  have q8 : w1.cell? ⟨w.heap.size + 1, 8, none⟩ = some (.int .i64 0) := (hb1.cell (by first | (simp; done) | (simp; omega))).trans (by simp [go_sem])
  have r0 : w1.cell? ⟨w.heap.size + 1 + 1, 0, none⟩ = some (.bool e.n) := (hb1.cell (by first | (simp; done) | (simp; omega))).trans (by simp [go_sem])
  have r1 : w1.cell? ⟨w.heap.size + 1 + 1, 1, none⟩ = some (.string e.v) := (hb1.cell (by first | (simp; done) | (simp; omega))).trans (by simp [go_sem])
  have r2 : w1.cell? ⟨w.heap.size + 1 + 1, 2, none⟩ = some (.int .i64 0) := (hb1.cell (by first | (simp; done) | (simp; omega))).trans (by simp [go_sem])
  have r3 : w1.cell? ⟨w.heap.size + 1 + 1, 3, none⟩ = some (.string ⟨#[]⟩) := (hb1.cell (by first | (simp; done) | (simp; omega))).trans (by simp [go_sem])
  have r4 : w1.cell? ⟨w.heap.size + 1 + 1, 4, none⟩ = some (.slice none 0 0) := (hb1.cell (by first | (simp; done) | (simp; omega))).trans (by simp [go_sem])
  have r5 : w1.cell? ⟨w.heap.size + 1 + 1, 5, none⟩ = some (.int .i64 0) := (hb1.cell (by first | (simp; done) | (simp; omega))).trans (by simp [go_sem])
  have r6 : w1.cell? ⟨w.heap.size + 1 + 1, 6, none⟩ = some (.string ⟨#[]⟩) := (hb1.cell (by first | (simp; done) | (simp; omega))).trans (by simp [go_sem])
  have r7 : w1.cell? ⟨w.heap.size + 1 + 1, 7, none⟩ = some (.slice none 0 0) := (hb1.cell (by first | (simp; done) | (simp; omega))).trans (by simp [go_sem])
  have r8 : w1.cell? ⟨w.heap.size + 1 + 1, 8, none⟩ = some (.int .i64 0) := (hb1.cell (by first | (simp; done) | (simp; omega))).trans (by simp [go_sem])
  have f0 : w1.frozen? ⟨w.heap.size + 1, 0, none⟩ = false := (hb1.frozen (by first | (simp; done) | (simp; omega))).trans (by simp [go_sem])
  have f1 : w1.frozen? ⟨w.heap.size + 1, 1, none⟩ = false := (hb1.frozen (by first | (simp; done) | (simp; omega))).trans (by simp [go_sem])
  have f2 : w1.frozen? ⟨w.heap.size + 1, 2, none⟩ = false := (hb1.frozen (by first | (simp; done) | (simp; omega))).trans (by simp [go_sem])
  have f3 : w1.frozen? ⟨w.heap.size + 1, 3, none⟩ = false := (hb1.frozen (by first | (simp; done) | (simp; omega))).trans (by simp [go_sem])
  have f4 : w1.frozen? ⟨w.heap.size + 1, 4, none⟩ = false := (hb1.frozen (by first | (simp; done) | (simp; omega))).trans (by simp [go_sem])
  have f5 : w1.frozen? ⟨w.heap.size + 1, 5, none⟩ = false := (hb1.frozen (by first | (simp; done) | (simp; omega))).trans (by simp [go_sem])
  have f6 : w1.frozen? ⟨w.heap.size + 1, 6, none⟩ = false := (hb1.frozen (by first | (simp; done) | (simp; omega))).trans (by simp [go_sem])
  have f7 : w1.frozen? ⟨w.heap.size + 1, 7, none⟩ = false := (hb1.frozen (by first | (simp; done) | (simp; omega))).trans (by simp [go_sem])
  have f8 : w1.frozen? ⟨w.heap.size + 1, 8, none⟩ = false := (hb1.frozen (by first | (simp; done) | (simp; omega))).trans (by simp [go_sem])
  have g2 : w1.frozen? ⟨w.heap.size + 1 + 1, 2, none⟩ = false := (hb1.frozen (by first | (simp; done) | (simp; omega))).trans (by simp [go_sem])
  have g3 : w1.frozen? ⟨w.heap.size + 1 + 1, 3, none⟩ = false := (hb1.frozen (by first | (simp; done) | (simp; omega))).trans (by simp [go_sem])
  have g4 : w1.frozen? ⟨w.heap.size + 1 + 1, 4, none⟩ = false := (hb1.frozen (by first | (simp; done) | (simp; omega))).trans (by simp [go_sem])
  have g5 : w1.frozen? ⟨w.heap.size + 1 + 1, 5, none⟩ = false := (hb1.frozen (by first | (simp; done) | (simp; omega))).trans (by simp [go_sem])
  have g6 : w1.frozen? ⟨w.heap.size + 1 + 1, 6, none⟩ = false := (hb1.frozen (by first | (simp; done) | (simp; omega))).trans (by simp [go_sem])
  have g7 : w1.frozen? ⟨w.heap.size + 1 + 1, 7, none⟩ = false := (hb1.frozen (by first | (simp; done) | (simp; omega))).trans (by simp [go_sem])
  have g8 : w1.frozen? ⟨w.heap.size + 1 + 1, 8, none⟩ = false := (hb1.frozen (by first | (simp; done) | (simp; omega))).trans (by simp [go_sem])
  have HB1 := Lib.hid (below_past (below_past (below_past hb1)))
  have HF1 := Lib.hid (show ∀ x ∈ F1, w.heap.size + 3 ≤ x from fun x hx => by have := hf1 x hx; simp at this; omega)
  have HBX := Lib.hid (hb1.mono (show w.heap.size ≤ _ by simp; omega))
  clear hb1 hf1
  obtain ⟨k1, rfl, hk1⟩ := ho1
  obtain ⟨p1, c1, rfl⟩ := hk1.in.form
  have HO1 := Lib.hid hk1
  clear hk1
  go_wp2_with fail
  have HCH1 := Lib.hid (show Chg [w.heap.size + 1 + 1] w1 (((w1.setCell ⟨w.heap.size + 1 + 1, 2, none⟩ (.int .i64 e.l.op)).setCell ⟨w.heap.size + 1 + 1, 3, none⟩ (.string e.l.a)).setCell ⟨w.heap.size + 1 + 1, 4, none⟩ (.slice p1 e.l.ks.list.length c1)) from (((Chg.refl _ w1).setCell (by simp) _).setCell (by simp) _).setCell (by simp) _)
  have HBS := Lib.hid (show Below w.heap.size w (((w1.setCell ⟨w.heap.size + 1 + 1, 2, none⟩ (.int .i64 e.l.op)).setCell ⟨w.heap.size + 1 + 1, 3, none⟩ (.string e.l.a)).setCell ⟨w.heap.size + 1 + 1, 4, none⟩ (.slice p1 e.l.ks.list.length c1)) from ((HB1.out.setCell (by simp; omega) _).setCell (by simp; omega) _).setCell (by simp; omega) _)
  refine (toExpr_any e.c _ B _ ⟨_, rfl, HC.out.below (HBS.out.mono hB) (Nat.le_refl _)⟩ (by simp; omega) h2).mono ?_
  rintro en w2 ⟨v2, F2, rfl, ho2, hf2, hb2⟩
  have hs2 : w1.heap.size ≤ w2.heap.size := by have := hb2.size; simp at this; omega
  have a'8 : w2.cell? ⟨w.heap.size, 8, none⟩ = some (.int .i64 e.d) := (hb2.cell (by simp; omega)).trans (by simp [go_sem, a8])
  have q'0 : w2.cell? ⟨w.heap.size + 1, 0, none⟩ = some (.bool false) := (hb2.cell (by simp; omega)).trans (by simp [go_sem, q0])
  have q'1 : w2.cell? ⟨w.heap.size + 1, 1, none⟩ = some (.string ⟨#[]⟩) := (hb2.cell (by simp; omega)).trans (by simp [go_sem, q1])
  have q'2 : w2.cell? ⟨w.heap.size + 1, 2, none⟩ = some (.int .i64 0) := (hb2.cell (by simp; omega)).trans (by simp [go_sem, q2])
  have q'3 : w2.cell? ⟨w.heap.size + 1, 3, none⟩ = some (.string ⟨#[]⟩) := (hb2.cell (by simp; omega)).trans (by simp [go_sem, q3])
  have q'4 : w2.cell? ⟨w.heap.size + 1, 4, none⟩ = some (.slice none 0 0) := (hb2.cell (by simp; omega)).trans (by simp [go_sem, q4])
  have q'5 : w2.cell? ⟨w.heap.size + 1, 5, none⟩ = some (.int .i64 0) := (hb2.cell (by simp; omega)).trans (by simp [go_sem, q5])
  have q'6 : w2.cell? ⟨w.heap.size + 1, 6, none⟩ = some (.string ⟨#[]⟩) := (hb2.cell (by simp; omega)).trans (by simp [go_sem, q6])
  have q'7 : w2.cell? ⟨w.heap.size + 1, 7, none⟩ = some (.slice none 0 0) := (hb2.cell (by simp; omega)).trans (by simp [go_sem, q7])
  have q'8 : w2.cell? ⟨w.heap.size + 1, 8, none⟩ = some (.int .i64 0) := (hb2.cell (by simp; omega)).trans (by simp [go_sem, q8])
  have r'0 : w2.cell? ⟨w.heap.size + 1 + 1, 0, none⟩ = some (.bool e.n) := (hb2.cell (by simp; omega)).trans (by simp [go_sem, r0])
  have r'1 : w2.cell? ⟨w.heap.size + 1 + 1, 1, none⟩ = some (.string e.v) := (hb2.cell (by simp; omega)).trans (by simp [go_sem, r1])
  have r'2 : w2.cell? ⟨w.heap.size + 1 + 1, 2, none⟩ = some (.int .i64 e.l.op) := (hb2.cell (by simp; omega)).trans (by simp [go_sem, r2])
  have r'3 : w2.cell? ⟨w.heap.size + 1 + 1, 3, none⟩ = some (.string e.l.a) := (hb2.cell (by simp; omega)).trans (by simp [go_sem, r3])
  have r'4 : w2.cell? ⟨w.heap.size + 1 + 1, 4, none⟩ = some (.slice p1 e.l.ks.list.length c1) := (hb2.cell (by simp; omega)).trans (by simp [go_sem, r4])
  have r'5 : w2.cell? ⟨w.heap.size + 1 + 1, 5, none⟩ = some (.int .i64 0) := (hb2.cell (by simp; omega)).trans (by simp [go_sem, r5])
  have r'6 : w2.cell? ⟨w.heap.size + 1 + 1, 6, none⟩ = some (.string ⟨#[]⟩) := (hb2.cell (by simp; omega)).trans (by simp [go_sem, r6])
  have r'7 : w2.cell? ⟨w.heap.size + 1 + 1, 7, none⟩ = some (.slice none 0 0) := (hb2.cell (by simp; omega)).trans (by simp [go_sem, r7])
  have r'8 : w2.cell? ⟨w.heap.size + 1 + 1, 8, none⟩ = some (.int .i64 0) := (hb2.cell (by simp; omega)).trans (by simp [go_sem, r8])
  have f'0 : w2.frozen? ⟨w.heap.size + 1, 0, none⟩ = false := (hb2.frozen (by simp; omega)).trans (by simp [go_sem, f0])
  have f'1 : w2.frozen? ⟨w.heap.size + 1, 1, none⟩ = false := (hb2.frozen (by simp; omega)).trans (by simp [go_sem, f1])
  have f'2 : w2.frozen? ⟨w.heap.size + 1, 2, none⟩ = false := (hb2.frozen (by simp; omega)).trans (by simp [go_sem, f2])
  have f'3 : w2.frozen? ⟨w.heap.size + 1, 3, none⟩ = false := (hb2.frozen (by simp; omega)).trans (by simp [go_sem, f3])
  have f'4 : w2.frozen? ⟨w.heap.size + 1, 4, none⟩ = false := (hb2.frozen (by simp; omega)).trans (by simp [go_sem, f4])
  have f'5 : w2.frozen? ⟨w.heap.size + 1, 5, none⟩ = false := (hb2.frozen (by simp; omega)).trans (by simp [go_sem, f5])
  have f'6 : w2.frozen? ⟨w.heap.size + 1, 6, none⟩ = false := (hb2.frozen (by simp; omega)).trans (by simp [go_sem, f6])
  have f'7 : w2.frozen? ⟨w.heap.size + 1, 7, none⟩ = false := (hb2.frozen (by simp; omega)).trans (by simp [go_sem, f7])
  have f'8 : w2.frozen? ⟨w.heap.size + 1, 8, none⟩ = false := (hb2.frozen (by simp; omega)).trans (by simp [go_sem, f8])
  have g'5 : w2.frozen? ⟨w.heap.size + 1 + 1, 5, none⟩ = false := (hb2.frozen (by simp; omega)).trans (by simp [go_sem, g5])
  have g'6 : w2.frozen? ⟨w.heap.size + 1 + 1, 6, none⟩ = false := (hb2.frozen (by simp; omega)).trans (by simp [go_sem, g6])
  have g'7 : w2.frozen? ⟨w.heap.size + 1 + 1, 7, none⟩ = false := (hb2.frozen (by simp; omega)).trans (by simp [go_sem, g7])
  have g'8 : w2.frozen? ⟨w.heap.size + 1 + 1, 8, none⟩ = false := (hb2.frozen (by simp; omega)).trans (by simp [go_sem, g8])
  have HB2 := Lib.hid (HBS.out.trans (hb2.mono (by simp; omega)))
  have HF2 := Lib.hid (show ∀ x ∈ F2, w1.heap.size ≤ x from fun x hx => by have := hf2 x hx; simp at this; omega)
  have HO1' := Lib.hid ((HO1.out.chg HCH1.out (fun x hx => by have := HF1.out x hx; simp; omega)).below hb2)
  have HLT1 := Lib.hid HO1.out.lt
  clear hb2 hf2 a5 a6 a7 a8
  clear q0 q1 q2 q3 q4 q5 q6 q7 q8 r0 r1 r2 r3 r4 r5 r6 r7 r8 f0 f1 f2 f3 f4 f5 f6 f7 f8 g2 g3 g4 g5 g6 g7 g8
  obtain ⟨k2, rfl, hk2⟩ := ho2
  obtain ⟨p2, c2, rfl⟩ := hk2.in.form
  have HO2 := Lib.hid hk2
  clear hk2
  go_wp2_with fail
  refine bodyPost_ret (v := .agg #[.bool e.n, .string e.v, .int .i64 e.l.op, .string e.l.a, .slice p1 e.l.ks.list.length c1, .int .i64 e.c.op, .string e.c.a, .slice p2 e.c.ks.list.length c2, .int .i64 e.d]) (by simp [results, Try.results117, go_sem, q'0, q'1, q'2, q'3, q'4, q'5, q'6, q'7, q'8]) rfl ⟨_, F1 ++ F2, rfl, ⟨_, _, F1, F2, rfl, rfl, fun x hx hx2 => ?_, HO1'.out.chg (G := [w.heap.size + 1, w.heap.size + 1 + 1]) ?_ ?_, HO2.out.chg (G := [w.heap.size + 1, w.heap.size + 1 + 1]) ?_ ?_⟩, fun x hx => ?_, ?_⟩
  · have a1 := HLT1.out x hx; have a2 := HF2.out x hx2; omega
  · (repeat (first | refine Chg.setCell ?_ (by simp) _ | with_reducible exact Chg.refl _ _))
  · intro x hx; have := HF1.out x hx; simp; omega
  · (repeat (first | refine Chg.setCell ?_ (by simp) _ | with_reducible exact Chg.refl _ _))
  · intro x hx; have := HF2.out x hx; simp; omega
  · rcases List.mem_append.1 hx with hx | hx
    · have := HF1.out x hx; omega
    · have := HF2.out x hx; omega
  · repeat (first | with_reducible exact HB2.out | refine Below.setCell ?_ (by (first | omega | (simp; omega) | (simp; done) | fail "sml")) _)

set_option maxRecDepth 100000 in
set_option maxHeartbeats 1000000 in
theorem eqElem_any (e : El) (u u' : Value) (B : Nat) (w : World) (hu : e.At B w u) (hu' : e.At B w u') (hB : B ≤ w.heap.size) :
    Calls Try.prog 119 #[u, u'] w fun en w' => en = .returned (.bool true) ∧ Below w.heap.size w w' := by
  obtain ⟨p, cap, p', cap', rfl, hl, hc⟩ := hu.form
  obtain ⟨q, cbp, q', cbp', rfl, hm, hd⟩ := hu'.form
  have HL := Lib.hid hl
  have HC := Lib.hid hc
  have HM := Lib.hid hm
  have HD := Lib.hid hd
  clear hu hu' hl hc hm hd
  obtain ⟨W0, eW⟩ : ∃ W0, W0 = ((w.alloc (.cells #[.bool e.n, .string e.v, .int .i64 e.l.op, .string e.l.a, .slice p e.l.ks.list.length cap, .int .i64 e.c.op, .string e.c.a, .slice p' e.c.ks.list.length cap', .int .i64 e.d] 76)).alloc (.cells #[.bool e.n, .string e.v, .int .i64 e.l.op, .string e.l.a, .slice q e.l.ks.list.length cbp, .int .i64 e.c.op, .string e.c.a, .slice q' e.c.ks.list.length cbp', .int .i64 e.d] 76)) := ⟨_, rfl⟩
  have HV := Lib.hid (show Below w.heap.size w W0 by rw [eW]; exact ((Below.refl w.heap.size w).alloc (by simp) _).alloc (by simp) _)
  have hs0 : w.heap.size + 2 ≤ W0.heap.size := by rw [eW]; simp
  have HK := Lib.hid (show ∀ wk, Below (w.heap.size + 2) W0 wk → wk.cell? ⟨w.heap.size, 5, none⟩ = some (.int .i64 e.c.op) ∧ wk.cell? ⟨w.heap.size, 6, none⟩ = some (.string e.c.a) ∧ wk.cell? ⟨w.heap.size, 7, none⟩ = some (.slice p' e.c.ks.list.length cap') ∧ wk.cell? ⟨w.heap.size, 8, none⟩ = some (.int .i64 e.d) ∧ wk.cell? ⟨w.heap.size + 1, 5, none⟩ = some (.int .i64 e.c.op) ∧ wk.cell? ⟨w.heap.size + 1, 6, none⟩ = some (.string e.c.a) ∧ wk.cell? ⟨w.heap.size + 1, 7, none⟩ = some (.slice q' e.c.ks.list.length cbp') ∧ wk.cell? ⟨w.heap.size + 1, 8, none⟩ = some (.int .i64 e.d) from
    fun wk hk => by rw [eW] at hk; exact ⟨keepc hk (by omega) (by simp [go_sem]), keepc hk (by omega) (by simp [go_sem]), keepc hk (by omega) (by simp [go_sem]), keepc hk (by omega) (by simp [go_sem]), keepc hk (by omega) (by simp [go_sem]), keepc hk (by omega) (by simp [go_sem]), keepc hk (by omega) (by simp [go_sem]), keepc hk (by omega) (by simp [go_sem])⟩)
  have HA := Lib.hid (Below.refl (w.heap.size + 2) W0)
  have EW := Lib.hid eW
  clear eW
  go_enter Try.func119, Try.ntmps119
  go_wp2_with fail
  rw [← EW.out]
  refine (eqExpr_any e.l _ _ B _ ⟨_, rfl, HL.out.below (HV.out.mono hB) (Nat.le_refl _)⟩ ⟨_, rfl, HM.out.below (HV.out.mono hB) (Nat.le_refl _)⟩ (by omega)).mono ?_
  rintro en w1 ⟨rfl, hb1⟩
  have HA := Lib.hid (HA.out.trans (hb1.mono (by omega)))
  have hz1 := hb1.size
  have HV1 := Lib.hid (HV.out.trans (HA.out.mono (by omega)))
  clear hb1
  obtain ⟨a5, a6, a7, a8, b5, b6, b7, b8⟩ := HK.out w1 HA.out
  go_wp2_with fail
  refine (eqExpr_any e.c _ _ B _ ⟨_, rfl, HC.out.below (HV1.out.mono hB) (Nat.le_refl _)⟩ ⟨_, rfl, HD.out.below (HV1.out.mono hB) (Nat.le_refl _)⟩ (by omega)).mono ?_
  rintro en w2 ⟨rfl, hb2⟩
  have HA := Lib.hid (HA.out.trans (hb2.mono (by omega)))
  clear hb2 a5 a6 a7 a8 b5 b6 b7 b8
  obtain ⟨_, _, _, a8, _, _, _, b8⟩ := HK.out w2 HA.out
  go_wp2_with fail
  go_ret
  exact ⟨rfl, HV.out.trans (HA.out.mono (by omega))⟩
end Go.Proofs.Ytggpnnoldjpmcaa
