/- Arcs and automata: their data, and how they lie in memory. -/
import Derived.Test.YtbbemeaojmfndaaDoorKdTo
import Derived.Test.YtbbemeaojmfndaaDoorElem
import Derived.Test.YtbbemeaojmfndaaDoorLocV
namespace Go.Proofs.YtbbemeaojmfndaaDoor
open Go.RowKit

structure Ac where
  f : Int
  t : Int
  fr : Bool
  x : El
structure Au where
  s : Int
  ar : List Ac
def Ac.Ok (a : Ac) : Prop := I64 a.f ∧ I64 a.t ∧ a.x.Ok
def Au.Ok (a : Au) : Prop := I64 a.s ∧ ∀ x ∈ a.ar, x.Ok
def Ac.need (a : Ac) : Nat := elNeed a.x
def sumAc (xs : List Ac) : Nat := (xs.map Ac.need).sum
theorem sumAc_succ (xs : List Ac) (k : Nat) (h : k < xs.length) : sumAc (xs.take (k + 1)) = sumAc (xs.take k) + xs[k].need := by
  unfold sumAc; rw [List.take_succ_eq_append_getElem h, List.map_append, List.sum_append]; simp only [List.map_cons, List.map_nil, List.sum_cons, List.sum_nil, Nat.add_zero]
theorem sumAc_le (xs : List Ac) (k : Nat) : sumAc (xs.take k) ≤ sumAc xs := by
  unfold sumAc
  have := congrArg (fun l => (l.map Ac.need).sum) (List.take_append_drop k xs)
  simp only [List.map_append, List.sum_append] at this; omega
theorem sumAc_get (xs : List Ac) (k : Nat) (h : k < xs.length) : xs[k].need ≤ sumAc xs := by
  have := sumAc_succ xs k h; have := sumAc_le xs (k + 1); omega
def Au.need (a : Au) : Nat := a.ar.length + sumAc a.ar
def Ac.cs (a : Ac) (k k' : Value) : List Value := [.int .i64 a.f, .int .i64 a.t, .bool a.fr, .bool a.x.n, .string a.x.v, .int .i64 a.x.l.op, .string a.x.l.a, k, .int .i64 a.x.c.op, .string a.x.c.a, k', .int .i64 a.x.d]
def kAc : Kd Ac where
  sz := 12
  rd B w a cs := ∃ k k', cs = a.cs k k' ∧ a.x.l.ks.In B w k ∧ a.x.c.ks.In B w k'
  ow w a cs F := ∃ k k' F1 F2, cs = a.cs k k' ∧ F = F1 ++ F2 ∧ (∀ y ∈ F1, y ∉ F2) ∧ a.x.l.ks.Own w k F1 ∧ a.x.c.ks.Own w k' F2
  rd_len := by rintro _ _ _ _ ⟨k, k', rfl, _⟩; rfl
  rd_to := by rintro _ _ _ _ _ _ ⟨k, k', rfl, h1, h2⟩ hb hB; exact ⟨k, k', rfl, h1.below hb hB, h2.below hb hB⟩
  ow_rd := by rintro _ _ _ _ ⟨k, k', F1, F2, rfl, _, _, h1, h2⟩; exact ⟨k, k', rfl, h1.in, h2.in⟩
  ow_chg := by
    rintro _ _ _ _ _ _ ⟨k, k', F1, F2, rfl, rfl, hdj, h1, h2⟩ hc hd
    exact ⟨k, k', F1, F2, rfl, rfl, hdj, h1.chg hc (fun y hy => hd y (List.mem_append_left _ hy)), h2.chg hc (fun y hy => hd y (List.mem_append_right _ hy))⟩
  ow_lt := by
    rintro _ _ _ _ ⟨k, k', F1, F2, rfl, rfl, _, h1, h2⟩ y hy
    rcases List.mem_append.1 hy with hy | hy
    · exact h1.lt y hy
    · exact h2.lt y hy
/-- The value of a struct Arc. -/
def Ac.At (a : Ac) (B : Nat) (w : World) (v : Value) : Prop := ∃ k k', v = .agg #[.int .i64 a.f, .int .i64 a.t, .bool a.fr, .bool a.x.n, .string a.x.v, .int .i64 a.x.l.op, .string a.x.l.a, k, .int .i64 a.x.c.op, .string a.x.c.a, k', .int .i64 a.x.d] ∧ a.x.l.ks.In B w k ∧ a.x.c.ks.In B w k'
theorem Ac.At.to {a : Ac} {B B' : Nat} {w w' : World} {v : Value} (h : a.At B w v) (hb : Below B w w') (hB : B ≤ B') : a.At B' w' v := by
  obtain ⟨k, k', h1, h2, h3⟩ := h; exact ⟨k, k', h1, h2.below hb hB, h3.below hb hB⟩
theorem Ac.At.form {a : Ac} {B : Nat} {w : World} {v : Value} (h : a.At B w v) : ∃ p c q d, v = .agg #[.int .i64 a.f, .int .i64 a.t, .bool a.fr, .bool a.x.n, .string a.x.v, .int .i64 a.x.l.op, .string a.x.l.a, .slice p a.x.l.ks.list.length c, .int .i64 a.x.c.op, .string a.x.c.a, .slice q a.x.c.ks.list.length d, .int .i64 a.x.d] ∧ a.x.l.ks.In B w (.slice p a.x.l.ks.list.length c) ∧ a.x.c.ks.In B w (.slice q a.x.c.ks.list.length d) := by
  obtain ⟨k, k', h1, h2, h3⟩ := h
  obtain ⟨p, c, rfl⟩ := h2.form
  obtain ⟨q, d, rfl⟩ := h3.form
  exact ⟨p, c, q, d, h1, h2, h3⟩
/-- An arc in memory of the call's own, in the blocks F. -/
def Ac.Has (a : Ac) (v : Value) (F : List Nat) (w : World) : Prop := ∃ k k' F1 F2, v = .agg #[.int .i64 a.f, .int .i64 a.t, .bool a.fr, .bool a.x.n, .string a.x.v, .int .i64 a.x.l.op, .string a.x.l.a, k, .int .i64 a.x.c.op, .string a.x.c.a, k', .int .i64 a.x.d] ∧ F = F1 ++ F2 ∧ (∀ y ∈ F1, y ∉ F2) ∧ a.x.l.ks.Own w k F1 ∧ a.x.c.ks.Own w k' F2
theorem Ac.Has.at {a : Ac} {v : Value} {F : List Nat} {w : World} (h : a.Has v F w) : a.At w.heap.size w v := by
  obtain ⟨k, k', F1, F2, h1, _, _, h2, h3⟩ := h; exact ⟨k, k', h1, h2.in, h3.in⟩
theorem Ac.Has.chg {a : Ac} {v : Value} {F G : List Nat} {w w' : World} (h : a.Has v F w) (hc : Chg G w w') (hd : ∀ y ∈ F, y ∉ G) : a.Has v F w' := by
  obtain ⟨k, k', F1, F2, h1, rfl, hdj, h2, h3⟩ := h
  exact ⟨k, k', F1, F2, h1, rfl, hdj, h2.chg hc (fun y hy => hd y (List.mem_append_left _ hy)), h3.chg hc (fun y hy => hd y (List.mem_append_right _ hy))⟩
theorem Ac.Has.form {a : Ac} {v : Value} {F : List Nat} {w : World} (h : a.Has v F w) : ∃ p c q d, v = .agg #[.int .i64 a.f, .int .i64 a.t, .bool a.fr, .bool a.x.n, .string a.x.v, .int .i64 a.x.l.op, .string a.x.l.a, .slice p a.x.l.ks.list.length c, .int .i64 a.x.c.op, .string a.x.c.a, .slice q a.x.c.ks.list.length d, .int .i64 a.x.d] := by
  obtain ⟨p, c, q, d, h, _⟩ := h.at.form; exact ⟨p, c, q, d, h⟩
theorem Ac.Has.row {a : Ac} {k k' : Value} {F : List Nat} {w : World} (h : a.Has (.agg #[.int .i64 a.f, .int .i64 a.t, .bool a.fr, .bool a.x.n, .string a.x.v, .int .i64 a.x.l.op, .string a.x.l.a, k, .int .i64 a.x.c.op, .string a.x.c.a, k', .int .i64 a.x.d]) F w) : kAc.ow w a (a.cs k k') F := by
  obtain ⟨k1, k2, F1, F2, h1, h2, h3, h4, h5⟩ := h
  simp only [Value.agg.injEq] at h1
  have h1' := congrArg Array.toList h1
  simp only [List.cons.injEq, and_true, true_and] at h1'
  obtain ⟨rfl, rfl⟩ := h1'
  exact ⟨_, _, F1, F2, rfl, h2, h3, h4, h5⟩
/-- An element's cells, at an index. -/
theorem kAc_get {B : Nat} {w : World} {p : Option Addr} {n cap : Nat} {xs : List Ac} (h : kAc.Rd B w (.slice p n cap) xs) {k : Nat} (hk : k < xs.length) :
    ∃ b off q c q' c', p = some ⟨b, off, none⟩ ∧ b < B ∧ w.cell? ⟨b, off + k * 12, none⟩ = some (.int .i64 xs[k].f) ∧ w.cell? ⟨b, off + k * 12 + 1, none⟩ = some (.int .i64 xs[k].t) ∧ w.cell? ⟨b, off + k * 12 + 2, none⟩ = some (.bool xs[k].fr) ∧ w.cell? ⟨b, off + k * 12 + 3, none⟩ = some (.bool xs[k].x.n) ∧ w.cell? ⟨b, off + k * 12 + 4, none⟩ = some (.string xs[k].x.v) ∧ w.cell? ⟨b, off + k * 12 + 5, none⟩ = some (.int .i64 xs[k].x.l.op) ∧ w.cell? ⟨b, off + k * 12 + 6, none⟩ = some (.string xs[k].x.l.a) ∧ w.cell? ⟨b, off + k * 12 + 7, none⟩ = some (.slice q xs[k].x.l.ks.list.length c) ∧ w.cell? ⟨b, off + k * 12 + 8, none⟩ = some (.int .i64 xs[k].x.c.op) ∧ w.cell? ⟨b, off + k * 12 + 9, none⟩ = some (.string xs[k].x.c.a) ∧ w.cell? ⟨b, off + k * 12 + 10, none⟩ = some (.slice q' xs[k].x.c.ks.list.length c') ∧ w.cell? ⟨b, off + k * 12 + 11, none⟩ = some (.int .i64 xs[k].x.d) ∧ xs[k].At B w (.agg #[.int .i64 xs[k].f, .int .i64 xs[k].t, .bool xs[k].fr, .bool xs[k].x.n, .string xs[k].x.v, .int .i64 xs[k].x.l.op, .string xs[k].x.l.a, .slice q xs[k].x.l.ks.list.length c, .int .i64 xs[k].x.c.op, .string xs[k].x.c.a, .slice q' xs[k].x.c.ks.list.length c', .int .i64 xs[k].x.d]) := by
  obtain ⟨b, off, cs, e, hl, hc, hr⟩ := h.get hk
  obtain ⟨k1, k2, rfl, h1, h2⟩ := hr
  obtain ⟨q, c, rfl⟩ := h1.form
  obtain ⟨q', c', rfl⟩ := h2.form
  exact ⟨b, off, q, c, q', c', e, hl, hc 0 _ rfl, hc 1 _ rfl, hc 2 _ rfl, hc 3 _ rfl, hc 4 _ rfl, hc 5 _ rfl, hc 6 _ rfl, hc 7 _ rfl, hc 8 _ rfl, hc 9 _ rfl, hc 10 _ rfl, hc 11 _ rfl, ⟨_, _, rfl, h1, h2⟩⟩
/-- The value of a struct Auto. -/
def Au.At (a : Au) (B : Nat) (w : World) (v : Value) : Prop := ∃ b, v = .agg #[.int .i64 a.s, b] ∧ kAc.Rd B w b a.ar
theorem Au.At.to {a : Au} {B B' : Nat} {w w' : World} {v : Value} (h : a.At B w v) (hb : Below B w w') (hB : B ≤ B') : a.At B' w' v := by
  obtain ⟨b, h1, h2⟩ := h; exact ⟨b, h1, h2.to hb hB⟩
theorem Au.At.form {a : Au} {B : Nat} {w : World} {v : Value} (h : a.At B w v) : ∃ p c, v = .agg #[.int .i64 a.s, .slice p a.ar.length c] := by
  obtain ⟨b, rfl, h⟩ := h
  obtain ⟨p, c, rfl⟩ := h.form
  exact ⟨p, c, rfl⟩
/-- An automaton in memory of the call's own, in the blocks F. -/
def Au.Has (a : Au) (v : Value) (F : List Nat) (w : World) : Prop := ∃ b, v = .agg #[.int .i64 a.s, b] ∧ kAc.Ow w b a.ar F
theorem Au.Has.at {a : Au} {v : Value} {F : List Nat} {w : World} (h : a.Has v F w) : a.At w.heap.size w v := by
  obtain ⟨b, h1, h2⟩ := h; exact ⟨b, h1, h2.rd⟩
theorem Au.Has.chg {a : Au} {v : Value} {F G : List Nat} {w w' : World} (h : a.Has v F w) (hc : Chg G w w') (hd : ∀ y ∈ F, y ∉ G) : a.Has v F w' := by
  obtain ⟨b, h1, h2⟩ := h; exact ⟨b, h1, h2.chg hc hd⟩
theorem Au.Has.lt {a : Au} {v : Value} {F : List Nat} {w : World} (h : a.Has v F w) : ∀ y ∈ F, y < w.heap.size := by
  obtain ⟨b, h1, h2⟩ := h; exact h2.lt
theorem Au.goes (a : Au) : Goes a.Has := fun _ _ _ _ _ h hc hd => h.chg hc hd
end Go.Proofs.YtbbemeaojmfndaaDoor
