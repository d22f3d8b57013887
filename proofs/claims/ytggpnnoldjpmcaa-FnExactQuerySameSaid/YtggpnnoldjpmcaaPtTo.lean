/- The laws' copies of patterns. -/
import Derived.Test.YtggpnnoldjpmcaaPtHelp
namespace Go.Proofs.Ytggpnnoldjpmcaa
open Go.RowKit

def ToPfPost (f : Pf) (w : World) (e : Ending) (w' : World) : Prop := ∃ v' F, e = .returned v' ∧ f.Own w' v' F ∧ (∀ x ∈ F, w.heap.size ≤ x) ∧ Below w.heap.size w w'
def ToPf (f : Pf) : Prop := ∀ (v : Value) (B : Nat) (w : World), f.Is false B w v → B ≤ w.heap.size → f.need ≤ 1048576 →
  Calls Try.prog 43 #[v] w (ToPfPost f w)
def ToPtPost (x : Pt) (w : World) (e : Ending) (w' : World) : Prop := ∃ v' F, e = .returned v' ∧ x.Has v' F w' ∧ (∀ y ∈ F, w.heap.size ≤ y) ∧ Below w.heap.size w w'

set_option maxRecDepth 100000 in
set_option maxHeartbeats 8000000 in
theorem toPat_of (x : Pt) (ih : ToPf x.ks) (v : Value) (B : Nat) (w : World) (hv : x.At B w v) (hB : B ≤ w.heap.size) (hs : ptNeed x ≤ 1048576) :
    Calls Try.prog 89 #[v] w (ToPtPost x w) := by
  have IH := Lib.hid ih
  clear ih
  have hs1 : x.e.l.ks.size ≤ 1048576 := (El.sm_need (e := x.e) (by unfold ptNeed at hs; omega)).2.2.1
  have hs2 : x.e.c.ks.size ≤ 1048576 := (El.sm_need (e := x.e) (by unfold ptNeed at hs; omega)).2.2.2.2.1
  have hs3 : x.ks.need ≤ 1048576 := by unfold ptNeed at hs; omega
  clear hs
  obtain ⟨p, pc, q, qc, r, rc, rfl, hl, hc, hk⟩ := Pt.AtL.form hv
  have HL := Lib.hid hl
  have HC := Lib.hid hc
  have HK := Lib.hid hk
  clear hv hl hc hk
  have HW0 := Lib.hid (show Below w.heap.size w (((w.alloc (.cells #[.int .i64 x.op, .bool x.e.n, .string x.e.v, .int .i64 x.e.l.op, .string x.e.l.a, .slice p x.e.l.ks.list.length pc, .int .i64 x.e.c.op, .string x.e.c.a, .slice q x.e.c.ks.list.length qc, .int .i64 x.e.d, .slice r x.ks.list.length rc, .int .i64 x.lo, .int .i64 x.hi] 127)).alloc (.cells #[.int .i64 0, .bool false, .string ⟨#[]⟩, .int .i64 0, .string ⟨#[]⟩, .slice none 0 0, .int .i64 0, .string ⟨#[]⟩, .slice none 0 0, .int .i64 0, .slice none 0 0, .int .i64 0, .int .i64 0] 78)).alloc (.cells #[.int .i64 x.op, .bool false, .string ⟨#[]⟩, .int .i64 0, .string ⟨#[]⟩, .slice none 0 0, .int .i64 0, .string ⟨#[]⟩, .slice none 0 0, .int .i64 0, .slice none 0 0, .int .i64 0, .int .i64 0] 78)) from (((Below.refl w.heap.size w).alloc (by (first | omega | (simp; omega) | (simp; done) | fail "sml")) _).alloc (by (first | omega | (simp; omega) | (simp; done) | fail "sml")) _).alloc (by (first | omega | (simp; omega) | (simp; done) | fail "sml")) _)
  go_enter Try.func89, Try.ntmps89
  go_wp2_with fail
  refine (toElem_any x.e _ B _ ⟨_, _, rfl, (HL.out.below (HW0.out.mono hB) (Nat.le_refl _)).1, (HC.out.below (HW0.out.mono hB) (Nat.le_refl _)).1⟩ (by simp; omega) hs1 hs2).mono ?_
  rintro en w1 ⟨v1, F1, rfl, ho1, hf1, hb1⟩
  have hz1 : w.heap.size + 3 ≤ w1.heap.size := by have := hb1.size; simp at this; omega
  have a10 : w1.cell? ⟨w.heap.size, 10, none⟩ = some (.slice r x.ks.list.length rc) := (hb1.cell (by first | (simp; done) | (simp; omega))).trans (by simp [go_sem])
  have a11 : w1.cell? ⟨w.heap.size, 11, none⟩ = some (.int .i64 x.lo) := (hb1.cell (by first | (simp; done) | (simp; omega))).trans (by simp [go_sem])
  have a12 : w1.cell? ⟨w.heap.size, 12, none⟩ = some (.int .i64 x.hi) := (hb1.cell (by first | (simp; done) | (simp; omega))).trans (by simp [go_sem])
  have q0 : w1.cell? ⟨w.heap.size + 1, 0, none⟩ = some (.int .i64 0) := (hb1.cell (by first | (simp; done) | (simp; omega))).trans (by simp [go_sem])
  have q1 : w1.cell? ⟨w.heap.size + 1, 1, none⟩ = some (.bool false) := (hb1.cell (by first | (simp; done) | (simp; omega))).trans (by simp [go_sem])
  have q2 : w1.cell? ⟨w.heap.size + 1, 2, none⟩ = some (.string ⟨#[]⟩) := (hb1.cell (by first | (simp; done) | (simp; omega))).trans (by simp [go_sem])
  have q3 : w1.cell? ⟨w.heap.size + 1, 3, none⟩ = some (.int .i64 0) := (hb1.cell (by first | (simp; done) | (simp; omega))).trans (by simp [go_sem])
  have q4 : w1.cell? ⟨w.heap.size + 1, 4, none⟩ = some (.string ⟨#[]⟩) := (hb1.cell (by first | (simp; done) | (simp; omega))).trans (by simp [go_sem])
  have q5 : w1.cell? ⟨w.heap.size + 1, 5, none⟩ = some (.slice none 0 0) := (hb1.cell (by first | (simp; done) | (simp; omega))).trans (by simp [go_sem])
  have q6 : w1.cell? ⟨w.heap.size + 1, 6, none⟩ = some (.int .i64 0) := (hb1.cell (by first | (simp; done) | (simp; omega))).trans (by simp [go_sem])
  have q7 : w1.cell? ⟨w.heap.size + 1, 7, none⟩ = some (.string ⟨#[]⟩) := (hb1.cell (by first | (simp; done) | (simp; omega))).trans (by simp [go_sem])
  have q8 : w1.cell? ⟨w.heap.size + 1, 8, none⟩ = some (.slice none 0 0) := (hb1.cell (by first | (simp; done) | (simp; omega))).trans (by simp [go_sem])
  have q9 : w1.cell? ⟨w.heap.size + 1, 9, none⟩ = some (.int .i64 0) := (hb1.cell (by first | (simp; done) | (simp; omega))).trans (by simp [go_sem])
  have q10 : w1.cell? ⟨w.heap.size + 1, 10, none⟩ = some (.slice none 0 0) := (hb1.cell (by first | (simp; done) | (simp; omega))).trans (by simp [go_sem])
  have q11 : w1.cell? ⟨w.heap.size + 1, 11, none⟩ = some (.int .i64 0) := (hb1.cell (by first | (simp; done) | (simp; omega))).trans (by simp [go_sem])
  have q12 : w1.cell? ⟨w.heap.size + 1, 12, none⟩ = some (.int .i64 0) := (hb1.cell (by first | (simp; done) | (simp; omega))).trans (by simp [go_sem])
  have f0 : w1.frozen? ⟨w.heap.size + 1, 0, none⟩ = false := (hb1.frozen (by first | (simp; done) | (simp; omega))).trans (by simp [go_sem])
  have f1 : w1.frozen? ⟨w.heap.size + 1, 1, none⟩ = false := (hb1.frozen (by first | (simp; done) | (simp; omega))).trans (by simp [go_sem])
  have f2 : w1.frozen? ⟨w.heap.size + 1, 2, none⟩ = false := (hb1.frozen (by first | (simp; done) | (simp; omega))).trans (by simp [go_sem])
  have f3 : w1.frozen? ⟨w.heap.size + 1, 3, none⟩ = false := (hb1.frozen (by first | (simp; done) | (simp; omega))).trans (by simp [go_sem])
  have f4 : w1.frozen? ⟨w.heap.size + 1, 4, none⟩ = false := (hb1.frozen (by first | (simp; done) | (simp; omega))).trans (by simp [go_sem])
  have f5 : w1.frozen? ⟨w.heap.size + 1, 5, none⟩ = false := (hb1.frozen (by first | (simp; done) | (simp; omega))).trans (by simp [go_sem])
  have f6 : w1.frozen? ⟨w.heap.size + 1, 6, none⟩ = false := (hb1.frozen (by first | (simp; done) | (simp; omega))).trans (by simp [go_sem])
  have f7 : w1.frozen? ⟨w.heap.size + 1, 7, none⟩ = false := (hb1.frozen (by first | (simp; done) | (simp; omega))).trans (by simp [go_sem])
  have f8 : w1.frozen? ⟨w.heap.size + 1, 8, none⟩ = false := (hb1.frozen (by first | (simp; done) | (simp; omega))).trans (by simp [go_sem])
  have f9 : w1.frozen? ⟨w.heap.size + 1, 9, none⟩ = false := (hb1.frozen (by first | (simp; done) | (simp; omega))).trans (by simp [go_sem])
  have f10 : w1.frozen? ⟨w.heap.size + 1, 10, none⟩ = false := (hb1.frozen (by first | (simp; done) | (simp; omega))).trans (by simp [go_sem])
  have f11 : w1.frozen? ⟨w.heap.size + 1, 11, none⟩ = false := (hb1.frozen (by first | (simp; done) | (simp; omega))).trans (by simp [go_sem])
  have f12 : w1.frozen? ⟨w.heap.size + 1, 12, none⟩ = false := (hb1.frozen (by first | (simp; done) | (simp; omega))).trans (by simp [go_sem])
  have r0 : w1.cell? ⟨w.heap.size + 1 + 1, 0, none⟩ = some (.int .i64 x.op) := (hb1.cell (by first | (simp; done) | (simp; omega))).trans (by simp [go_sem])
  have r1 : w1.cell? ⟨w.heap.size + 1 + 1, 1, none⟩ = some (.bool false) := (hb1.cell (by first | (simp; done) | (simp; omega))).trans (by simp [go_sem])
  have r2 : w1.cell? ⟨w.heap.size + 1 + 1, 2, none⟩ = some (.string ⟨#[]⟩) := (hb1.cell (by first | (simp; done) | (simp; omega))).trans (by simp [go_sem])
  have r3 : w1.cell? ⟨w.heap.size + 1 + 1, 3, none⟩ = some (.int .i64 0) := (hb1.cell (by first | (simp; done) | (simp; omega))).trans (by simp [go_sem])
  have r4 : w1.cell? ⟨w.heap.size + 1 + 1, 4, none⟩ = some (.string ⟨#[]⟩) := (hb1.cell (by first | (simp; done) | (simp; omega))).trans (by simp [go_sem])
  have r5 : w1.cell? ⟨w.heap.size + 1 + 1, 5, none⟩ = some (.slice none 0 0) := (hb1.cell (by first | (simp; done) | (simp; omega))).trans (by simp [go_sem])
  have r6 : w1.cell? ⟨w.heap.size + 1 + 1, 6, none⟩ = some (.int .i64 0) := (hb1.cell (by first | (simp; done) | (simp; omega))).trans (by simp [go_sem])
  have r7 : w1.cell? ⟨w.heap.size + 1 + 1, 7, none⟩ = some (.string ⟨#[]⟩) := (hb1.cell (by first | (simp; done) | (simp; omega))).trans (by simp [go_sem])
  have r8 : w1.cell? ⟨w.heap.size + 1 + 1, 8, none⟩ = some (.slice none 0 0) := (hb1.cell (by first | (simp; done) | (simp; omega))).trans (by simp [go_sem])
  have r9 : w1.cell? ⟨w.heap.size + 1 + 1, 9, none⟩ = some (.int .i64 0) := (hb1.cell (by first | (simp; done) | (simp; omega))).trans (by simp [go_sem])
  have r10 : w1.cell? ⟨w.heap.size + 1 + 1, 10, none⟩ = some (.slice none 0 0) := (hb1.cell (by first | (simp; done) | (simp; omega))).trans (by simp [go_sem])
  have r11 : w1.cell? ⟨w.heap.size + 1 + 1, 11, none⟩ = some (.int .i64 0) := (hb1.cell (by first | (simp; done) | (simp; omega))).trans (by simp [go_sem])
  have r12 : w1.cell? ⟨w.heap.size + 1 + 1, 12, none⟩ = some (.int .i64 0) := (hb1.cell (by first | (simp; done) | (simp; omega))).trans (by simp [go_sem])
  have g0 : w1.frozen? ⟨w.heap.size + 1 + 1, 0, none⟩ = false := (hb1.frozen (by first | (simp; done) | (simp; omega))).trans (by simp [go_sem])
  have g1 : w1.frozen? ⟨w.heap.size + 1 + 1, 1, none⟩ = false := (hb1.frozen (by first | (simp; done) | (simp; omega))).trans (by simp [go_sem])
  have g2 : w1.frozen? ⟨w.heap.size + 1 + 1, 2, none⟩ = false := (hb1.frozen (by first | (simp; done) | (simp; omega))).trans (by simp [go_sem])
  have g3 : w1.frozen? ⟨w.heap.size + 1 + 1, 3, none⟩ = false := (hb1.frozen (by first | (simp; done) | (simp; omega))).trans (by simp [go_sem])
  have g4 : w1.frozen? ⟨w.heap.size + 1 + 1, 4, none⟩ = false := (hb1.frozen (by first | (simp; done) | (simp; omega))).trans (by simp [go_sem])
  have g5 : w1.frozen? ⟨w.heap.size + 1 + 1, 5, none⟩ = false := (hb1.frozen (by first | (simp; done) | (simp; omega))).trans (by simp [go_sem])
  have g6 : w1.frozen? ⟨w.heap.size + 1 + 1, 6, none⟩ = false := (hb1.frozen (by first | (simp; done) | (simp; omega))).trans (by simp [go_sem])
  have g7 : w1.frozen? ⟨w.heap.size + 1 + 1, 7, none⟩ = false := (hb1.frozen (by first | (simp; done) | (simp; omega))).trans (by simp [go_sem])
  have g8 : w1.frozen? ⟨w.heap.size + 1 + 1, 8, none⟩ = false := (hb1.frozen (by first | (simp; done) | (simp; omega))).trans (by simp [go_sem])
  have g9 : w1.frozen? ⟨w.heap.size + 1 + 1, 9, none⟩ = false := (hb1.frozen (by first | (simp; done) | (simp; omega))).trans (by simp [go_sem])
  have g10 : w1.frozen? ⟨w.heap.size + 1 + 1, 10, none⟩ = false := (hb1.frozen (by first | (simp; done) | (simp; omega))).trans (by simp [go_sem])
  have g11 : w1.frozen? ⟨w.heap.size + 1 + 1, 11, none⟩ = false := (hb1.frozen (by first | (simp; done) | (simp; omega))).trans (by simp [go_sem])
  have g12 : w1.frozen? ⟨w.heap.size + 1 + 1, 12, none⟩ = false := (hb1.frozen (by first | (simp; done) | (simp; omega))).trans (by simp [go_sem])
  have HB1 := Lib.hid (HW0.out.trans (hb1.mono (by simp; omega)))
  have HF1 := Lib.hid (show ∀ y ∈ F1, w.heap.size + 3 ≤ y from fun y hy => by have := hf1 y hy; simp at this; omega)
  have HL1 := Lib.hid ho1.lt
  clear hb1 hf1
  obtain ⟨sl1, sc1, sm1, sd1, rfl, _, _⟩ := ho1.at.form
  have HO1 := Lib.hid ho1
  clear ho1
  go_wp2_with fail
  have HCH := Lib.hid (show Chg [w.heap.size + 1 + 1] w1 (((((((((w1.setCell ⟨w.heap.size + 1 + 1, 1, none⟩ (.bool x.e.n)).setCell ⟨w.heap.size + 1 + 1, 2, none⟩ (.string x.e.v)).setCell ⟨w.heap.size + 1 + 1, 3, none⟩ (.int .i64 x.e.l.op)).setCell ⟨w.heap.size + 1 + 1, 4, none⟩ (.string x.e.l.a)).setCell ⟨w.heap.size + 1 + 1, 5, none⟩ (.slice sl1 x.e.l.ks.list.length sc1)).setCell ⟨w.heap.size + 1 + 1, 6, none⟩ (.int .i64 x.e.c.op)).setCell ⟨w.heap.size + 1 + 1, 7, none⟩ (.string x.e.c.a)).setCell ⟨w.heap.size + 1 + 1, 8, none⟩ (.slice sm1 x.e.c.ks.list.length sd1)).setCell ⟨w.heap.size + 1 + 1, 9, none⟩ (.int .i64 x.e.d)) from by (repeat (first | refine Chg.setCell ?_ (by simp) _ | with_reducible exact Chg.refl _ _)))
  have HBS := Lib.hid (show Below w.heap.size w (((((((((w1.setCell ⟨w.heap.size + 1 + 1, 1, none⟩ (.bool x.e.n)).setCell ⟨w.heap.size + 1 + 1, 2, none⟩ (.string x.e.v)).setCell ⟨w.heap.size + 1 + 1, 3, none⟩ (.int .i64 x.e.l.op)).setCell ⟨w.heap.size + 1 + 1, 4, none⟩ (.string x.e.l.a)).setCell ⟨w.heap.size + 1 + 1, 5, none⟩ (.slice sl1 x.e.l.ks.list.length sc1)).setCell ⟨w.heap.size + 1 + 1, 6, none⟩ (.int .i64 x.e.c.op)).setCell ⟨w.heap.size + 1 + 1, 7, none⟩ (.string x.e.c.a)).setCell ⟨w.heap.size + 1 + 1, 8, none⟩ (.slice sm1 x.e.c.ks.list.length sd1)).setCell ⟨w.heap.size + 1 + 1, 9, none⟩ (.int .i64 x.e.d)) from by repeat (first | with_reducible exact HB1.out | refine Below.setCell ?_ (by (first | omega | (simp; omega) | (simp; done) | fail "sml")) _))
  refine (IH.out _ B _ (HK.out.below (HBS.out.mono hB) (Nat.le_refl _)) (by simp; omega) hs3).mono ?_
  rintro en w2 ⟨v2, F2, rfl, ho2, hf2, hb2⟩
  have hz2 : w1.heap.size ≤ w2.heap.size := by have := hb2.size; simp at this; omega
  have a'11 : w2.cell? ⟨w.heap.size, 11, none⟩ = some (.int .i64 x.lo) := (hb2.cell (by first | (simp; done) | (simp; omega))).trans (by simp [go_sem, a11])
  have a'12 : w2.cell? ⟨w.heap.size, 12, none⟩ = some (.int .i64 x.hi) := (hb2.cell (by first | (simp; done) | (simp; omega))).trans (by simp [go_sem, a12])
  have q'0 : w2.cell? ⟨w.heap.size + 1, 0, none⟩ = some (.int .i64 0) := (hb2.cell (by first | (simp; done) | (simp; omega))).trans (by simp [go_sem, q0])
  have q'1 : w2.cell? ⟨w.heap.size + 1, 1, none⟩ = some (.bool false) := (hb2.cell (by first | (simp; done) | (simp; omega))).trans (by simp [go_sem, q1])
  have q'2 : w2.cell? ⟨w.heap.size + 1, 2, none⟩ = some (.string ⟨#[]⟩) := (hb2.cell (by first | (simp; done) | (simp; omega))).trans (by simp [go_sem, q2])
  have q'3 : w2.cell? ⟨w.heap.size + 1, 3, none⟩ = some (.int .i64 0) := (hb2.cell (by first | (simp; done) | (simp; omega))).trans (by simp [go_sem, q3])
  have q'4 : w2.cell? ⟨w.heap.size + 1, 4, none⟩ = some (.string ⟨#[]⟩) := (hb2.cell (by first | (simp; done) | (simp; omega))).trans (by simp [go_sem, q4])
  have q'5 : w2.cell? ⟨w.heap.size + 1, 5, none⟩ = some (.slice none 0 0) := (hb2.cell (by first | (simp; done) | (simp; omega))).trans (by simp [go_sem, q5])
  have q'6 : w2.cell? ⟨w.heap.size + 1, 6, none⟩ = some (.int .i64 0) := (hb2.cell (by first | (simp; done) | (simp; omega))).trans (by simp [go_sem, q6])
  have q'7 : w2.cell? ⟨w.heap.size + 1, 7, none⟩ = some (.string ⟨#[]⟩) := (hb2.cell (by first | (simp; done) | (simp; omega))).trans (by simp [go_sem, q7])
  have q'8 : w2.cell? ⟨w.heap.size + 1, 8, none⟩ = some (.slice none 0 0) := (hb2.cell (by first | (simp; done) | (simp; omega))).trans (by simp [go_sem, q8])
  have q'9 : w2.cell? ⟨w.heap.size + 1, 9, none⟩ = some (.int .i64 0) := (hb2.cell (by first | (simp; done) | (simp; omega))).trans (by simp [go_sem, q9])
  have q'10 : w2.cell? ⟨w.heap.size + 1, 10, none⟩ = some (.slice none 0 0) := (hb2.cell (by first | (simp; done) | (simp; omega))).trans (by simp [go_sem, q10])
  have q'11 : w2.cell? ⟨w.heap.size + 1, 11, none⟩ = some (.int .i64 0) := (hb2.cell (by first | (simp; done) | (simp; omega))).trans (by simp [go_sem, q11])
  have q'12 : w2.cell? ⟨w.heap.size + 1, 12, none⟩ = some (.int .i64 0) := (hb2.cell (by first | (simp; done) | (simp; omega))).trans (by simp [go_sem, q12])
  have f'0 : w2.frozen? ⟨w.heap.size + 1, 0, none⟩ = false := (hb2.frozen (by first | (simp; done) | (simp; omega))).trans (by simp [go_sem, f0])
  have f'1 : w2.frozen? ⟨w.heap.size + 1, 1, none⟩ = false := (hb2.frozen (by first | (simp; done) | (simp; omega))).trans (by simp [go_sem, f1])
  have f'2 : w2.frozen? ⟨w.heap.size + 1, 2, none⟩ = false := (hb2.frozen (by first | (simp; done) | (simp; omega))).trans (by simp [go_sem, f2])
  have f'3 : w2.frozen? ⟨w.heap.size + 1, 3, none⟩ = false := (hb2.frozen (by first | (simp; done) | (simp; omega))).trans (by simp [go_sem, f3])
  have f'4 : w2.frozen? ⟨w.heap.size + 1, 4, none⟩ = false := (hb2.frozen (by first | (simp; done) | (simp; omega))).trans (by simp [go_sem, f4])
  have f'5 : w2.frozen? ⟨w.heap.size + 1, 5, none⟩ = false := (hb2.frozen (by first | (simp; done) | (simp; omega))).trans (by simp [go_sem, f5])
  have f'6 : w2.frozen? ⟨w.heap.size + 1, 6, none⟩ = false := (hb2.frozen (by first | (simp; done) | (simp; omega))).trans (by simp [go_sem, f6])
  have f'7 : w2.frozen? ⟨w.heap.size + 1, 7, none⟩ = false := (hb2.frozen (by first | (simp; done) | (simp; omega))).trans (by simp [go_sem, f7])
  have f'8 : w2.frozen? ⟨w.heap.size + 1, 8, none⟩ = false := (hb2.frozen (by first | (simp; done) | (simp; omega))).trans (by simp [go_sem, f8])
  have f'9 : w2.frozen? ⟨w.heap.size + 1, 9, none⟩ = false := (hb2.frozen (by first | (simp; done) | (simp; omega))).trans (by simp [go_sem, f9])
  have f'10 : w2.frozen? ⟨w.heap.size + 1, 10, none⟩ = false := (hb2.frozen (by first | (simp; done) | (simp; omega))).trans (by simp [go_sem, f10])
  have f'11 : w2.frozen? ⟨w.heap.size + 1, 11, none⟩ = false := (hb2.frozen (by first | (simp; done) | (simp; omega))).trans (by simp [go_sem, f11])
  have f'12 : w2.frozen? ⟨w.heap.size + 1, 12, none⟩ = false := (hb2.frozen (by first | (simp; done) | (simp; omega))).trans (by simp [go_sem, f12])
  have r'0 : w2.cell? ⟨w.heap.size + 1 + 1, 0, none⟩ = some (.int .i64 x.op) := (hb2.cell (by first | (simp; done) | (simp; omega))).trans (by simp [go_sem, r0])
  have r'1 : w2.cell? ⟨w.heap.size + 1 + 1, 1, none⟩ = some (.bool x.e.n) := (hb2.cell (by first | (simp; done) | (simp; omega))).trans (by simp [go_sem, r1])
  have r'2 : w2.cell? ⟨w.heap.size + 1 + 1, 2, none⟩ = some (.string x.e.v) := (hb2.cell (by first | (simp; done) | (simp; omega))).trans (by simp [go_sem, r2])
  have r'3 : w2.cell? ⟨w.heap.size + 1 + 1, 3, none⟩ = some (.int .i64 x.e.l.op) := (hb2.cell (by first | (simp; done) | (simp; omega))).trans (by simp [go_sem, r3])
  have r'4 : w2.cell? ⟨w.heap.size + 1 + 1, 4, none⟩ = some (.string x.e.l.a) := (hb2.cell (by first | (simp; done) | (simp; omega))).trans (by simp [go_sem, r4])
  have r'5 : w2.cell? ⟨w.heap.size + 1 + 1, 5, none⟩ = some (.slice sl1 x.e.l.ks.list.length sc1) := (hb2.cell (by first | (simp; done) | (simp; omega))).trans (by simp [go_sem, r5])
  have r'6 : w2.cell? ⟨w.heap.size + 1 + 1, 6, none⟩ = some (.int .i64 x.e.c.op) := (hb2.cell (by first | (simp; done) | (simp; omega))).trans (by simp [go_sem, r6])
  have r'7 : w2.cell? ⟨w.heap.size + 1 + 1, 7, none⟩ = some (.string x.e.c.a) := (hb2.cell (by first | (simp; done) | (simp; omega))).trans (by simp [go_sem, r7])
  have r'8 : w2.cell? ⟨w.heap.size + 1 + 1, 8, none⟩ = some (.slice sm1 x.e.c.ks.list.length sd1) := (hb2.cell (by first | (simp; done) | (simp; omega))).trans (by simp [go_sem, r8])
  have r'9 : w2.cell? ⟨w.heap.size + 1 + 1, 9, none⟩ = some (.int .i64 x.e.d) := (hb2.cell (by first | (simp; done) | (simp; omega))).trans (by simp [go_sem, r9])
  have r'10 : w2.cell? ⟨w.heap.size + 1 + 1, 10, none⟩ = some (.slice none 0 0) := (hb2.cell (by first | (simp; done) | (simp; omega))).trans (by simp [go_sem, r10])
  have r'11 : w2.cell? ⟨w.heap.size + 1 + 1, 11, none⟩ = some (.int .i64 0) := (hb2.cell (by first | (simp; done) | (simp; omega))).trans (by simp [go_sem, r11])
  have r'12 : w2.cell? ⟨w.heap.size + 1 + 1, 12, none⟩ = some (.int .i64 0) := (hb2.cell (by first | (simp; done) | (simp; omega))).trans (by simp [go_sem, r12])
  have g'0 : w2.frozen? ⟨w.heap.size + 1 + 1, 0, none⟩ = false := (hb2.frozen (by first | (simp; done) | (simp; omega))).trans (by simp [go_sem, g0])
  have g'1 : w2.frozen? ⟨w.heap.size + 1 + 1, 1, none⟩ = false := (hb2.frozen (by first | (simp; done) | (simp; omega))).trans (by simp [go_sem, g1])
  have g'2 : w2.frozen? ⟨w.heap.size + 1 + 1, 2, none⟩ = false := (hb2.frozen (by first | (simp; done) | (simp; omega))).trans (by simp [go_sem, g2])
  have g'3 : w2.frozen? ⟨w.heap.size + 1 + 1, 3, none⟩ = false := (hb2.frozen (by first | (simp; done) | (simp; omega))).trans (by simp [go_sem, g3])
  have g'4 : w2.frozen? ⟨w.heap.size + 1 + 1, 4, none⟩ = false := (hb2.frozen (by first | (simp; done) | (simp; omega))).trans (by simp [go_sem, g4])
  have g'5 : w2.frozen? ⟨w.heap.size + 1 + 1, 5, none⟩ = false := (hb2.frozen (by first | (simp; done) | (simp; omega))).trans (by simp [go_sem, g5])
  have g'6 : w2.frozen? ⟨w.heap.size + 1 + 1, 6, none⟩ = false := (hb2.frozen (by first | (simp; done) | (simp; omega))).trans (by simp [go_sem, g6])
  have g'7 : w2.frozen? ⟨w.heap.size + 1 + 1, 7, none⟩ = false := (hb2.frozen (by first | (simp; done) | (simp; omega))).trans (by simp [go_sem, g7])
  have g'8 : w2.frozen? ⟨w.heap.size + 1 + 1, 8, none⟩ = false := (hb2.frozen (by first | (simp; done) | (simp; omega))).trans (by simp [go_sem, g8])
  have g'9 : w2.frozen? ⟨w.heap.size + 1 + 1, 9, none⟩ = false := (hb2.frozen (by first | (simp; done) | (simp; omega))).trans (by simp [go_sem, g9])
  have g'10 : w2.frozen? ⟨w.heap.size + 1 + 1, 10, none⟩ = false := (hb2.frozen (by first | (simp; done) | (simp; omega))).trans (by simp [go_sem, g10])
  have g'11 : w2.frozen? ⟨w.heap.size + 1 + 1, 11, none⟩ = false := (hb2.frozen (by first | (simp; done) | (simp; omega))).trans (by simp [go_sem, g11])
  have g'12 : w2.frozen? ⟨w.heap.size + 1 + 1, 12, none⟩ = false := (hb2.frozen (by first | (simp; done) | (simp; omega))).trans (by simp [go_sem, g12])
  have HB2 := Lib.hid (HBS.out.trans (hb2.mono (by simp; omega)))
  have HF2 := Lib.hid (show ∀ y ∈ F2, w1.heap.size ≤ y from fun y hy => by have := hf2 y hy; simp at this; omega)
  have HO1' := Lib.hid ((HO1.out.chg HCH.out (fun y hy => by have := HF1.out y hy; simp; omega)).below hb2)
  clear hb2 hf2 a10 a11 a12
  clear q0 r0 f0 g0 q1 r1 f1 g1 q2 r2 f2 g2 q3 r3 f3 g3 q4 r4 f4 g4 q5 r5 f5 g5 q6 r6 f6 g6 q7 r7 f7 g7 q8 r8 f8 g8 q9 r9 f9 g9 q10 r10 f10 g10 q11 r11 f11 g11 q12 r12 f12 g12
  obtain ⟨sr2, se2, rfl⟩ := (ho2.is (L := false)).form
  have HO2 := Lib.hid ho2
  clear ho2
  go_wp2_with fail
  refine bodyPost_ret (v := .agg #[.int .i64 x.op, .bool x.e.n, .string x.e.v, .int .i64 x.e.l.op, .string x.e.l.a, .slice sl1 x.e.l.ks.list.length sc1, .int .i64 x.e.c.op, .string x.e.c.a, .slice sm1 x.e.c.ks.list.length sd1, .int .i64 x.e.d, .slice sr2 x.ks.list.length se2, .int .i64 x.lo, .int .i64 x.hi]) (by simp [results, Try.results89, go_sem, q'0, q'1, q'2, q'3, q'4, q'5, q'6, q'7, q'8, q'9, q'10, q'11, q'12]) rfl ⟨_, F1 ++ F2, rfl, ⟨_, _, _, F1, F2, rfl, rfl, fun y hy hy2 => ?_, HO1'.out.chg (G := [w.heap.size + 1, w.heap.size + 1 + 1]) ?_ ?_, HO2.out.chg (G := [w.heap.size + 1, w.heap.size + 1 + 1]) ?_ ?_⟩, fun y hy => ?_, ?_⟩
  · have a1 := HL1.out y hy; have a2 := HF2.out y hy2; omega
  · (repeat (first | refine Chg.setCell ?_ (by simp) _ | with_reducible exact Chg.refl _ _))
  · intro y hy; have := HF1.out y hy; simp; omega
  · (repeat (first | refine Chg.setCell ?_ (by simp) _ | with_reducible exact Chg.refl _ _))
  · intro y hy; have := HF2.out y hy; simp; omega
  · rcases List.mem_append.1 hy with hy | hy
    · have := HF1.out y hy; omega
    · have := HF2.out y hy; omega
  · repeat (first | with_reducible exact HB2.out | refine Below.setCell ?_ (by (first | omega | (simp; omega) | (simp; done) | fail "sml")) _)

/-- The first k of a row are copied into the block B. -/
def ToPfInv (f : Pf) (T : TypeId) (B : Nat) (k : Nat) (wr : World) : Prop :=
  ∃ (L : List Value) (g h : Pf) (F : List Nat), f = g.app h ∧ g.list.length = k ∧ L.length = f.list.length * 13 ∧ g.ORow wr (fun i => L[i]?) F ∧ (∀ x ∈ F, B < x) ∧ Blk wr B T L
theorem ToPfInv.lt {f : Pf} {T : TypeId} {B k : Nat} {wr : World} (h : ToPfInv f T B k wr) : B < wr.heap.size := by
  obtain ⟨L, g, h, F, _, _, _, _, _, h6⟩ := h; exact h6.lt
theorem ToPfInv.cells {f : Pf} {T : TypeId} {B k : Nat} {wr : World} (h : ToPfInv f T B k wr) (i : Nat) (hi : i < f.list.length * 13) : (∃ x, wr.cell? ⟨B, i, none⟩ = some x) ∧ wr.frozen? ⟨B, i, none⟩ = false := by
  obtain ⟨L, g, h, F, _, _, h3, _, _, h6⟩ := h
  exact ⟨⟨_, (h6.cell i).trans (List.getElem?_eq_getElem (by omega))⟩, h6.frozen i⟩
set_option maxHeartbeats 4000000 in
theorem ToPfInv.step {f : Pf} {T : TypeId} {B k0 : Nat} {wr w1 : World} (h : ToPfInv f T B k0 wr) (hk : k0 < f.list.length) (hb : Below wr.heap.size wr w1) {x : Pt} (hx : x = f.list[k0]) {k k' kk : Value} {F' : List Nat} (ho : x.Has (.agg #[.int .i64 x.op, .bool x.e.n, .string x.e.v, .int .i64 x.e.l.op, .string x.e.l.a, k, .int .i64 x.e.c.op, .string x.e.c.a, k', .int .i64 x.e.d, kk, .int .i64 x.lo, .int .i64 x.hi]) F' w1) (hF : ∀ y ∈ F', wr.heap.size ≤ y) :
    ToPfInv f T B (k0 + 1) (((((((((((((w1.setCell ⟨B, k0 * 13, none⟩ (.int .i64 x.op)).setCell ⟨B, k0 * 13 + 1, none⟩ (.bool x.e.n)).setCell ⟨B, k0 * 13 + 2, none⟩ (.string x.e.v)).setCell ⟨B, k0 * 13 + 3, none⟩ (.int .i64 x.e.l.op)).setCell ⟨B, k0 * 13 + 4, none⟩ (.string x.e.l.a)).setCell ⟨B, k0 * 13 + 5, none⟩ (k)).setCell ⟨B, k0 * 13 + 6, none⟩ (.int .i64 x.e.c.op)).setCell ⟨B, k0 * 13 + 7, none⟩ (.string x.e.c.a)).setCell ⟨B, k0 * 13 + 8, none⟩ (k')).setCell ⟨B, k0 * 13 + 9, none⟩ (.int .i64 x.e.d)).setCell ⟨B, k0 * 13 + 10, none⟩ (kk)).setCell ⟨B, k0 * 13 + 11, none⟩ (.int .i64 x.lo)).setCell ⟨B, k0 * 13 + 12, none⟩ (.int .i64 x.hi)) := by
  have hlt := h.lt
  obtain ⟨L, g, h, F, h1, h2, h3, h4, h5, h6⟩ := h
  have hlist : f.list = g.list ++ h.list := by rw [h1, Pf.list_app]
  cases h with
  | nil => rw [hlist] at hk; simp [Pf.list] at hk; omega
  | cons o e ks lo hi h' =>
    have he : x = ⟨o, e, ks, lo, hi⟩ := by
      rw [hx]
      simp only [hlist]
      rw [List.getElem_append_right (by omega)]
      simp [h2, Pf.list]
    subst he
    obtain ⟨k1, k2, k3, F1, F2, e1, rfl, hd, hE, hK⟩ := ho
    simp only [Value.agg.injEq, Array.mk.injEq, List.cons.injEq, true_and, and_true] at e1
    obtain ⟨rfl, rfl, rfl⟩ := e1
    have hch : Chg [B] w1 (((((((((((((w1.setCell ⟨B, k0 * 13, none⟩ (.int .i64 o)).setCell ⟨B, k0 * 13 + 1, none⟩ (.bool e.n)).setCell ⟨B, k0 * 13 + 2, none⟩ (.string e.v)).setCell ⟨B, k0 * 13 + 3, none⟩ (.int .i64 e.l.op)).setCell ⟨B, k0 * 13 + 4, none⟩ (.string e.l.a)).setCell ⟨B, k0 * 13 + 5, none⟩ (k)).setCell ⟨B, k0 * 13 + 6, none⟩ (.int .i64 e.c.op)).setCell ⟨B, k0 * 13 + 7, none⟩ (.string e.c.a)).setCell ⟨B, k0 * 13 + 8, none⟩ (k')).setCell ⟨B, k0 * 13 + 9, none⟩ (.int .i64 e.d)).setCell ⟨B, k0 * 13 + 10, none⟩ (kk)).setCell ⟨B, k0 * 13 + 11, none⟩ (.int .i64 lo)).setCell ⟨B, k0 * 13 + 12, none⟩ (.int .i64 hi)) := by (repeat (first | refine Chg.setCell ?_ (by simp) _ | with_reducible exact Chg.refl _ _))
    have hch0 := (Chg.of_below hb [B]).trans hch
    have hlen : k0 * 13 + 12 < L.length := by rw [h3, hlist]; simp [Pf.list]; omega
    have hG : ∀ y ∈ F1 ++ F2, y ∉ [B] := fun y hy => by have := hF y hy; simp; omega
    refine ⟨(((((((((((((L.set (k0 * 13) (.int .i64 o)).set (k0 * 13 + 1) (.bool e.n)).set (k0 * 13 + 2) (.string e.v)).set (k0 * 13 + 3) (.int .i64 e.l.op)).set (k0 * 13 + 4) (.string e.l.a)).set (k0 * 13 + 5) (k)).set (k0 * 13 + 6) (.int .i64 e.c.op)).set (k0 * 13 + 7) (.string e.c.a)).set (k0 * 13 + 8) (k')).set (k0 * 13 + 9) (.int .i64 e.d)).set (k0 * 13 + 10) (kk)).set (k0 * 13 + 11) (.int .i64 lo)).set (k0 * 13 + 12) (.int .i64 hi)), g.app (.cons o e ks lo hi .nil), h', F ++ (F1 ++ F2), ?_, ?_, ?_, ?_, ?_, ?_⟩
    · rw [h1, Pf.app_assoc]; rfl
    · rw [Pf.list_app]; simp [Pf.list, h2]
    · simpa using h3
    · refine Pf.orow_app ⟨F, F1 ++ F2, rfl, fun y hy hy2 => ?_, h4.chg hch0 (fun y hy => by have := h5 y hy; simp; omega) fun i hi => ?_, ?_⟩
      · have := h4.lt y hy; have := hF y hy2; omega
      · rw [h2] at hi
        show (List.set _ _ _)[i]? = L[i]?
        rw [List.getElem?_set_ne (by omega), List.getElem?_set_ne (by omega), List.getElem?_set_ne (by omega), List.getElem?_set_ne (by omega), List.getElem?_set_ne (by omega), List.getElem?_set_ne (by omega), List.getElem?_set_ne (by omega), List.getElem?_set_ne (by omega), List.getElem?_set_ne (by omega), List.getElem?_set_ne (by omega), List.getElem?_set_ne (by omega), List.getElem?_set_ne (by omega), List.getElem?_set_ne (by omega)]
      · rw [h2]
        refine Pf.orow_cons.2 ⟨?_, F1, F2, [], by simp, fun y hy hy2 => hd y hy (by simpa using hy2), fun y _ h => (by cases h), ⟨k, k', ?_, ?_, ?_, ?_, ?_, ?_, ?_, ?_, ?_, hE.chg hch fun y hy => hG y (List.mem_append_left _ hy)⟩, ⟨kk, ?_, hK.chg hch fun y hy => hG y (List.mem_append_right _ hy)⟩, ?_, ?_, rfl⟩
        · show (List.set _ _ _)[0 + k0 * 13]? = _
          rw [show 0 + k0 * 13 = k0 * 13 by omega]
          rw [List.getElem?_set_ne (by omega), List.getElem?_set_ne (by omega), List.getElem?_set_ne (by omega), List.getElem?_set_ne (by omega), List.getElem?_set_ne (by omega), List.getElem?_set_ne (by omega), List.getElem?_set_ne (by omega), List.getElem?_set_ne (by omega), List.getElem?_set_ne (by omega), List.getElem?_set_ne (by omega), List.getElem?_set_ne (by omega), List.getElem?_set_ne (by omega), List.getElem?_set_self (by first | omega | (simp; omega))]
        · show (List.set _ _ _)[1 + k0 * 13]? = _
          rw [show 1 + k0 * 13 = k0 * 13 + 1 by omega]
          rw [List.getElem?_set_ne (by omega), List.getElem?_set_ne (by omega), List.getElem?_set_ne (by omega), List.getElem?_set_ne (by omega), List.getElem?_set_ne (by omega), List.getElem?_set_ne (by omega), List.getElem?_set_ne (by omega), List.getElem?_set_ne (by omega), List.getElem?_set_ne (by omega), List.getElem?_set_ne (by omega), List.getElem?_set_ne (by omega), List.getElem?_set_self (by first | omega | (simp; omega))]
        · show (List.set _ _ _)[2 + k0 * 13]? = _
          rw [show 2 + k0 * 13 = k0 * 13 + 2 by omega]
          rw [List.getElem?_set_ne (by omega), List.getElem?_set_ne (by omega), List.getElem?_set_ne (by omega), List.getElem?_set_ne (by omega), List.getElem?_set_ne (by omega), List.getElem?_set_ne (by omega), List.getElem?_set_ne (by omega), List.getElem?_set_ne (by omega), List.getElem?_set_ne (by omega), List.getElem?_set_ne (by omega), List.getElem?_set_self (by first | omega | (simp; omega))]
        · show (List.set _ _ _)[3 + k0 * 13]? = _
          rw [show 3 + k0 * 13 = k0 * 13 + 3 by omega]
          rw [List.getElem?_set_ne (by omega), List.getElem?_set_ne (by omega), List.getElem?_set_ne (by omega), List.getElem?_set_ne (by omega), List.getElem?_set_ne (by omega), List.getElem?_set_ne (by omega), List.getElem?_set_ne (by omega), List.getElem?_set_ne (by omega), List.getElem?_set_ne (by omega), List.getElem?_set_self (by first | omega | (simp; omega))]
        · show (List.set _ _ _)[4 + k0 * 13]? = _
          rw [show 4 + k0 * 13 = k0 * 13 + 4 by omega]
          rw [List.getElem?_set_ne (by omega), List.getElem?_set_ne (by omega), List.getElem?_set_ne (by omega), List.getElem?_set_ne (by omega), List.getElem?_set_ne (by omega), List.getElem?_set_ne (by omega), List.getElem?_set_ne (by omega), List.getElem?_set_ne (by omega), List.getElem?_set_self (by first | omega | (simp; omega))]
        · show (List.set _ _ _)[5 + k0 * 13]? = _
          rw [show 5 + k0 * 13 = k0 * 13 + 5 by omega]
          rw [List.getElem?_set_ne (by omega), List.getElem?_set_ne (by omega), List.getElem?_set_ne (by omega), List.getElem?_set_ne (by omega), List.getElem?_set_ne (by omega), List.getElem?_set_ne (by omega), List.getElem?_set_ne (by omega), List.getElem?_set_self (by first | omega | (simp; omega))]
        · show (List.set _ _ _)[6 + k0 * 13]? = _
          rw [show 6 + k0 * 13 = k0 * 13 + 6 by omega]
          rw [List.getElem?_set_ne (by omega), List.getElem?_set_ne (by omega), List.getElem?_set_ne (by omega), List.getElem?_set_ne (by omega), List.getElem?_set_ne (by omega), List.getElem?_set_ne (by omega), List.getElem?_set_self (by first | omega | (simp; omega))]
        · show (List.set _ _ _)[7 + k0 * 13]? = _
          rw [show 7 + k0 * 13 = k0 * 13 + 7 by omega]
          rw [List.getElem?_set_ne (by omega), List.getElem?_set_ne (by omega), List.getElem?_set_ne (by omega), List.getElem?_set_ne (by omega), List.getElem?_set_ne (by omega), List.getElem?_set_self (by first | omega | (simp; omega))]
        · show (List.set _ _ _)[8 + k0 * 13]? = _
          rw [show 8 + k0 * 13 = k0 * 13 + 8 by omega]
          rw [List.getElem?_set_ne (by omega), List.getElem?_set_ne (by omega), List.getElem?_set_ne (by omega), List.getElem?_set_ne (by omega), List.getElem?_set_self (by first | omega | (simp; omega))]
        · show (List.set _ _ _)[9 + k0 * 13]? = _
          rw [show 9 + k0 * 13 = k0 * 13 + 9 by omega]
          rw [List.getElem?_set_ne (by omega), List.getElem?_set_ne (by omega), List.getElem?_set_ne (by omega), List.getElem?_set_self (by first | omega | (simp; omega))]
        · show (List.set _ _ _)[10 + k0 * 13]? = _
          rw [show 10 + k0 * 13 = k0 * 13 + 10 by omega]
          rw [List.getElem?_set_ne (by omega), List.getElem?_set_ne (by omega), List.getElem?_set_self (by first | omega | (simp; omega))]
        · show (List.set _ _ _)[11 + k0 * 13]? = _
          rw [show 11 + k0 * 13 = k0 * 13 + 11 by omega]
          rw [List.getElem?_set_ne (by omega), List.getElem?_set_self (by first | omega | (simp; omega))]
        · show (List.set _ _ _)[12 + k0 * 13]? = _
          rw [show 12 + k0 * 13 = k0 * 13 + 12 by omega]
          rw [List.getElem?_set_self (by first | omega | (simp; omega))]
    · intro y hy
      rcases List.mem_append.1 hy with hy | hy
      · exact h5 y hy
      · have := hF y hy; omega
    · have hs := h6.below hb hlt
      repeat (first | with_reducible exact hs | refine Blk.set ?_ _ _)
theorem ToPfInv.done {f : Pf} {T : TypeId} {B : Nat} {wr : World} (h : ToPfInv f T B f.list.length wr) (hm : f.list.length ≤ maxLen) : ∃ F, f.Own wr (.slice (some ⟨B, 0, none⟩) f.list.length f.list.length) F ∧ ∀ x ∈ F, B ≤ x := by
  obtain ⟨L, g, h, F, h1, h2, h3, h4, h5, h6⟩ := h
  have hlist : f.list = g.list ++ h.list := by rw [h1, Pf.list_app]
  have hh : h = .nil := Pf.nil_of (List.eq_nil_of_length_eq_zero (by have := congrArg List.length hlist; simp at this; omega))
  subst hh
  rw [Pf.app_nil] at h1
  subst h1
  by_cases he : f.list = []
  · exact ⟨[], ⟨_, _, rfl, Nat.le_refl _, hm, .inl ⟨he, rfl⟩⟩, by simp⟩
  · refine ⟨B :: F, ⟨_, _, rfl, Nat.le_refl _, hm, .inr ⟨B, F, rfl, rfl, fun hx => by have := h5 B hx; omega, h6.lt, fun o => h6.frozen o, h4.chg (Chg.refl [] wr) (by simp) fun i _ => h6.cell i⟩⟩, ?_⟩
    intro x hx
    rcases List.mem_cons.1 hx with rfl | hx
    · exact Nat.le_refl _
    · exact Nat.le_of_lt (h5 x hx)

theorem infoPat : (Try.prog.info? 78).map (fun i => (i.zero, i.size, i.bytes)) = some (some (.agg #[.int .i64 0, .bool false, .string ⟨#[]⟩, .int .i64 0, .string ⟨#[]⟩, .slice none 0 0, .int .i64 0, .string ⟨#[]⟩, .slice none 0 0, .int .i64 0, .slice none 0 0, .int .i64 0, .int .i64 0]), 13, 176) := by kernel_rfl

set_option maxRecDepth 100000 in
set_option maxHeartbeats 8000000 in
theorem toPatS_step (f : Pf) (ih : ∀ (k : Nat) (hk : k < f.list.length), ToPf f.list[k].ks) : ToPf f := by
  intro v B w hv hB hn
  have IH := Lib.hid ih
  clear ih
  have hlen : f.list.length ≤ 1048576 := by have := f.len_le; have := f.size_need; omega
  obtain ⟨p, cap, rfl⟩ := hv.form
  obtain ⟨_, hm1, hm2⟩ := hv.max
  unfold maxLen at hm2
  have HV := Lib.hid hv
  have HN := Lib.hid hn
  clear hv hn
  have hmk : ∀ w : World, (Instr.makeSlice 28 (.int .i64 (f.list.length : Int)) (.int .i64 (f.list.length : Int))).run Try.prog w = .ok (.slice (some ⟨w.heap.size, 0, none⟩) f.list.length f.list.length) (w.alloc (.cells (madeCells #[.int .i64 0, .bool false, .string ⟨#[]⟩, .int .i64 0, .string ⟨#[]⟩, .slice none 0 0, .int .i64 0, .string ⟨#[]⟩, .slice none 0 0, .int .i64 0, .slice none 0 0, .int .i64 0, .int .i64 0] (f.list.length * 13)) 78)) := by
    intro w
    obtain ⟨i, hi, hzz⟩ := Option.map_eq_some_iff.1 infoPat
    simp only [Prod.mk.injEq] at hzz
    obtain ⟨hz, hs, hb⟩ := hzz
    have hr := run_make (P := Try.prog) w 28 78 i _ Try.underlying28 hi hz .i64 .i64 f.list.length f.list.length (by omega) (Int.le_refl _) (by rw [hb]; omega) (by omega)
    rw [hs] at hr
    exact hr
  have hbk := Blk.new w (madeCells #[.int .i64 0, .bool false, .string ⟨#[]⟩, .int .i64 0, .string ⟨#[]⟩, .slice none 0 0, .int .i64 0, .string ⟨#[]⟩, .slice none 0 0, .int .i64 0, .slice none 0 0, .int .i64 0, .int .i64 0] (f.list.length * 13)) 78
  have HI0 := Lib.hid (show ToPfInv f 78 w.heap.size 0 (w.alloc (.cells (madeCells #[.int .i64 0, .bool false, .string ⟨#[]⟩, .int .i64 0, .string ⟨#[]⟩, .slice none 0 0, .int .i64 0, .string ⟨#[]⟩, .slice none 0 0, .int .i64 0, .slice none 0 0, .int .i64 0, .int .i64 0] (f.list.length * 13)) 78)) from ⟨_, .nil, f, [], rfl, rfl, by simp [madeCells], rfl, by simp, hbk⟩)
  clear hbk
  go_enter Try.func43, Try.ntmps43
  go_wp2_with fail
  go_loopw [4] (fun i wr => ∃ (k : Nat), k ≤ f.list.length ∧ i = .int .i64 k ∧ RowKit.Hid (ToPfInv f 78 w.heap.size k wr) ∧ RowKit.Hid (Below w.heap.size w wr)) (fun i _ => f.list.length - (intOf i).toNat)
  case atStart => exact ⟨0, Nat.zero_le _, rfl, HI0, Lib.hid ((Below.refl _ _).alloc (Nat.le_refl _) _)⟩
  case round =>
    obtain ⟨k, hk, rfl, HI, HB⟩ := hrel
    have hsz := HB.out.size
    have hlt := HI.out.lt
    by_cases hlt2 : k < f.list.length
    · obtain ⟨b, off, rfl, hb, _, h13⟩ := (HV.out.below (HB.out.mono hB) (Nat.le_refl _)).get k hlt2
      obtain ⟨p', pc, q, qc, r, rc, c0, c1, c2, c3, c4, c5, c6, c7, c8, c9, c10, c11, c12, hat⟩ := h13.at
      have hih := IH.out k hlt2
      have hneed := f.need_get k hlt2
      have hst := fun (x : Pt) (hx : x = f.list[k]) (w1 : World) (hb : Below wr.heap.size wr w1) (k1 k2 k3 : Value) (F' : List Nat) (ho : x.Has (.agg #[.int .i64 x.op, .bool x.e.n, .string x.e.v, .int .i64 x.e.l.op, .string x.e.l.a, k1, .int .i64 x.e.c.op, .string x.e.c.a, k2, .int .i64 x.e.d, k3, .int .i64 x.lo, .int .i64 x.hi]) F' w1) (hF : ∀ y ∈ F', wr.heap.size ≤ y) => HI.out.step hlt2 hb hx ho hF
      obtain ⟨x, ex⟩ : ∃ x, x = f.list[k] := ⟨_, rfl⟩
      have HST := Lib.hid (hst x ex)
      rw [← ex] at c0 c1 c2 c3 c4 c5 c6 c7 c8 c9 c10 c11 c12 hat hih hneed
      have HAT := Lib.hid hat
      have HH := Lib.hid hih
      have HNE := Lib.hid (Nat.le_trans hneed HN.out)
      clear ex hat hih hst hneed h13
      simp only [Nat.add_zero] at c0
      go_wp2_with fail
      refine (toPat_of x HH.out _ B _ HAT.out (by omega) HNE.out).mono ?_
      rintro e w1 ⟨v1, F1, rfl, ho, hF, hb1⟩
      obtain ⟨p1, pc1, q1, qc1, r1, rc1, rfl⟩ := ho.at.form
      have HN2 := Lib.hid (HST.out w1 hb1 _ _ _ F1 ho hF)
      have HB1 := Lib.hid (HB.out.trans (hb1.mono hsz))
      have hw1 : w.heap.size < w1.heap.size := Nat.lt_of_lt_of_le hlt hb1.size
      obtain ⟨⟨y0, e0⟩, g0⟩ := HI.out.cells (k * 13) (by omega)
      have e0' := keepc hb1 hlt e0
      have g0' : w1.frozen? ⟨w.heap.size, k * 13, none⟩ = false := (hb1.frozen (p := ⟨w.heap.size, k * 13, none⟩) hlt).trans g0
      obtain ⟨⟨y1, e1⟩, g1⟩ := HI.out.cells (k * 13 + 1) (by omega)
      have e1' := keepc hb1 hlt e1
      have g1' : w1.frozen? ⟨w.heap.size, k * 13 + 1, none⟩ = false := (hb1.frozen (p := ⟨w.heap.size, k * 13 + 1, none⟩) hlt).trans g1
      obtain ⟨⟨y2, e2⟩, g2⟩ := HI.out.cells (k * 13 + 2) (by omega)
      have e2' := keepc hb1 hlt e2
      have g2' : w1.frozen? ⟨w.heap.size, k * 13 + 2, none⟩ = false := (hb1.frozen (p := ⟨w.heap.size, k * 13 + 2, none⟩) hlt).trans g2
      obtain ⟨⟨y3, e3⟩, g3⟩ := HI.out.cells (k * 13 + 3) (by omega)
      have e3' := keepc hb1 hlt e3
      have g3' : w1.frozen? ⟨w.heap.size, k * 13 + 3, none⟩ = false := (hb1.frozen (p := ⟨w.heap.size, k * 13 + 3, none⟩) hlt).trans g3
      obtain ⟨⟨y4, e4⟩, g4⟩ := HI.out.cells (k * 13 + 4) (by omega)
      have e4' := keepc hb1 hlt e4
      have g4' : w1.frozen? ⟨w.heap.size, k * 13 + 4, none⟩ = false := (hb1.frozen (p := ⟨w.heap.size, k * 13 + 4, none⟩) hlt).trans g4
      obtain ⟨⟨y5, e5⟩, g5⟩ := HI.out.cells (k * 13 + 5) (by omega)
      have e5' := keepc hb1 hlt e5
      have g5' : w1.frozen? ⟨w.heap.size, k * 13 + 5, none⟩ = false := (hb1.frozen (p := ⟨w.heap.size, k * 13 + 5, none⟩) hlt).trans g5
      obtain ⟨⟨y6, e6⟩, g6⟩ := HI.out.cells (k * 13 + 6) (by omega)
      have e6' := keepc hb1 hlt e6
      have g6' : w1.frozen? ⟨w.heap.size, k * 13 + 6, none⟩ = false := (hb1.frozen (p := ⟨w.heap.size, k * 13 + 6, none⟩) hlt).trans g6
      obtain ⟨⟨y7, e7⟩, g7⟩ := HI.out.cells (k * 13 + 7) (by omega)
      have e7' := keepc hb1 hlt e7
      have g7' : w1.frozen? ⟨w.heap.size, k * 13 + 7, none⟩ = false := (hb1.frozen (p := ⟨w.heap.size, k * 13 + 7, none⟩) hlt).trans g7
      obtain ⟨⟨y8, e8⟩, g8⟩ := HI.out.cells (k * 13 + 8) (by omega)
      have e8' := keepc hb1 hlt e8
      have g8' : w1.frozen? ⟨w.heap.size, k * 13 + 8, none⟩ = false := (hb1.frozen (p := ⟨w.heap.size, k * 13 + 8, none⟩) hlt).trans g8
      obtain ⟨⟨y9, e9⟩, g9⟩ := HI.out.cells (k * 13 + 9) (by omega)
      have e9' := keepc hb1 hlt e9
      have g9' : w1.frozen? ⟨w.heap.size, k * 13 + 9, none⟩ = false := (hb1.frozen (p := ⟨w.heap.size, k * 13 + 9, none⟩) hlt).trans g9
      obtain ⟨⟨y10, e10⟩, g10⟩ := HI.out.cells (k * 13 + 10) (by omega)
      have e10' := keepc hb1 hlt e10
      have g10' : w1.frozen? ⟨w.heap.size, k * 13 + 10, none⟩ = false := (hb1.frozen (p := ⟨w.heap.size, k * 13 + 10, none⟩) hlt).trans g10
      obtain ⟨⟨y11, e11⟩, g11⟩ := HI.out.cells (k * 13 + 11) (by omega)
      have e11' := keepc hb1 hlt e11
      have g11' : w1.frozen? ⟨w.heap.size, k * 13 + 11, none⟩ = false := (hb1.frozen (p := ⟨w.heap.size, k * 13 + 11, none⟩) hlt).trans g11
      obtain ⟨⟨y12, e12⟩, g12⟩ := HI.out.cells (k * 13 + 12) (by omega)
      have e12' := keepc hb1 hlt e12
      have g12' : w1.frozen? ⟨w.heap.size, k * 13 + 12, none⟩ = false := (hb1.frozen (p := ⟨w.heap.size, k * 13 + 12, none⟩) hlt).trans g12
      clear hb1 ho hF e0 g0 e1 g1 e2 g2 e3 g3 e4 g4 e5 g5 e6 g6 e7 g7 e8 g8 e9 g9 e10 g10 e11 g11 e12 g12
      go_wp2_with fail
      go_roundw
      case rel => exact ⟨k + 1, by omega, by go_num, HN2, Lib.hid (((((((((((((HB1.out.setCell (Nat.le_refl _) _).setCell (Nat.le_refl _) _).setCell (Nat.le_refl _) _).setCell (Nat.le_refl _) _).setCell (Nat.le_refl _) _).setCell (Nat.le_refl _) _).setCell (Nat.le_refl _) _).setCell (Nat.le_refl _) _).setCell (Nat.le_refl _) _).setCell (Nat.le_refl _) _).setCell (Nat.le_refl _) _).setCell (Nat.le_refl _) _).setCell (Nat.le_refl _) _)⟩
      case measure => simp [intOf]; omega
    · obtain rfl : k = f.list.length := by omega
      obtain ⟨F, ho, hF⟩ := HI.out.done (by unfold maxLen; omega)
      have HO := Lib.hid ho
      have HF := Lib.hid hF
      clear ho hF
      go_wp2_with fail
      go_ret
      exact ⟨_, F, rfl, HO.out, HF.out, HB.out⟩
theorem toPatS_any (f : Pf) : ToPf f := Pf.by_parts toPatS_step f
theorem toPat_any (x : Pt) (v : Value) (B : Nat) (w : World) (hv : x.At B w v) (hB : B ≤ w.heap.size) (hs : ptNeed x ≤ 1048576) :
    Calls Try.prog 89 #[v] w fun en w' => ∃ v' F, en = .returned v' ∧ x.Has v' F w' ∧ (∀ y ∈ F, w.heap.size ≤ y) ∧ Below w.heap.size w w' := toPat_of x (toPatS_any x.ks) v B w hv hB hs
end Go.Proofs.Ytggpnnoldjpmcaa
