/- Patterns as data and in memory. -/
import Derived.Test.YtggpnnoldjpmcaaElSameP
namespace Go.Proofs.Ytggpnnoldjpmcaa
open Go.RowKit

/-- A row of patterns: none, or one with its parts, and the row behind it. -/
inductive Pf where
  | nil : Pf
  | cons (op : Int) (e : El) (ks : Pf) (lo hi : Int) (r : Pf) : Pf
structure Pt where
  op : Int
  e : El
  ks : Pf
  lo : Int
  hi : Int
def Pf.list : Pf → List Pt
  | .nil => []
  | .cons o e k lo hi r => ⟨o, e, k, lo, hi⟩ :: r.list
def Pf.of : List Pt → Pf
  | [] => .nil
  | p :: l => .cons p.op p.e p.ks p.lo p.hi (Pf.of l)
theorem Pf.list_of (l : List Pt) : (Pf.of l).list = l := by
  induction l with
  | nil => rfl
  | cons e l ih => simp only [Pf.of, Pf.list, ih]
theorem Pf.of_list (f : Pf) : Pf.of f.list = f := by
  induction f with
  | nil => rfl
  | cons o e k lo hi r _ ih => simp only [Pf.of, Pf.list, ih]
def Pf.size : Pf → Nat
  | .nil => 0
  | .cons _ _ k _ _ r => k.size + r.size + 1
def Pf.app : Pf → Pf → Pf
  | .nil, g => g
  | .cons o e k lo hi r, g => .cons o e k lo hi (r.app g)
theorem Pf.list_app (f g : Pf) : (f.app g).list = f.list ++ g.list := by
  induction f with
  | nil => rfl
  | cons o e k lo hi r _ ih => simp only [Pf.app, Pf.list, ih]; rfl
theorem Pf.size_app (f g : Pf) : (f.app g).size = f.size + g.size := by
  induction f with
  | nil => simp [Pf.app, Pf.size]
  | cons o e k lo hi r _ ih => simp only [Pf.app, Pf.size, ih]; omega
theorem Pf.len_le (f : Pf) : f.list.length ≤ f.size := by
  induction f with
  | nil => exact Nat.le_refl _
  | cons o e k lo hi r _ ih => simp only [Pf.list, Pf.size, List.length_cons]; omega
theorem Pf.app_assoc (f g h : Pf) : (f.app g).app h = f.app (g.app h) := by
  induction f with
  | nil => rfl
  | cons o e k lo hi r _ ih => simp only [Pf.app, ih]
theorem Pf.app_nil (f : Pf) : f.app .nil = f := by
  induction f with
  | nil => rfl
  | cons o e k lo hi r _ ih => simp only [Pf.app, ih]
theorem Pf.nil_of {f : Pf} (h : f.list = []) : f = .nil := by
  cases f with
  | nil => rfl
  | cons o e k lo hi r => simp [Pf.list] at h
theorem Pf.size_get (f : Pf) : ∀ (k : Nat) (hk : k < f.list.length), f.list[k].ks.size < f.size := by
  induction f with
  | nil => intro k hk; simp [Pf.list] at hk
  | cons o e ks lo hi r _ ih =>
    intro k hk
    cases k with
    | zero => simp only [Pf.list, List.getElem_cons_zero, Pf.size]; omega
    | succ k =>
      have := ih k (by simpa [Pf.list] using hk)
      simp only [Pf.list, List.getElem_cons_succ, Pf.size]; omega
theorem Pf.by_parts {P : Pf → Prop} (step : ∀ f : Pf, (∀ (k : Nat) (hk : k < f.list.length), P f.list[k].ks) → P f) (f : Pf) : P f := by
  have key : ∀ (n : Nat) (f : Pf), f.size < n → P f := by
    intro n
    induction n with
    | zero => intro f h; omega
    | succ n ih => intro f h; exact step f fun k hk => ih _ (by have := f.size_get k hk; omega)
  exact key (f.size + 1) f (by omega)
def Pt.Ok1 (p : Pt) : Prop := I64 p.op ∧ p.e.Ok ∧ I64 p.lo ∧ I64 p.hi
def Pf.Ok : Pf → Prop
  | .nil => True
  | .cons o e k lo hi r => (I64 o ∧ e.Ok ∧ I64 lo ∧ I64 hi) ∧ k.Ok ∧ r.Ok
theorem Pf.ok_get (f : Pf) (h : f.Ok) (k : Nat) (hk : k < f.list.length) : f.list[k].Ok1 ∧ f.list[k].ks.Ok := by
  induction f generalizing k with
  | nil => simp [Pf.list] at hk
  | cons o e ks lo hi r _ ih =>
    obtain ⟨h1, h2, h3⟩ := h
    cases k with
    | zero => exact ⟨h1, h2⟩
    | succ k => simpa [Pf.list] using ih h3 k (by simpa [Pf.list] using hk)
def Pt.Ok (p : Pt) : Prop := p.Ok1 ∧ p.ks.Ok
theorem Pf.ok_of (l : List Pt) (h : ∀ x ∈ l, x.Ok1 ∧ x.ks.Ok) : (Pf.of l).Ok := by
  induction l with
  | nil => trivial
  | cons e l ih =>
    obtain ⟨h1, h3⟩ := h e (by simp)
    exact ⟨h1, h3, ih fun x hx => h x (by simp [hx])⟩

/-- Reads as; and is alive, where L says so. -/
def Fo.Is (L : Bool) (B : Nat) (w : World) (f : Fo) (v : Value) : Prop := f.In B w v ∧ (L = true → f.Live B w v)
theorem Fo.Is.below {L : Bool} {B B' : Nat} {w w' : World} {f : Fo} {v : Value} (h : f.Is L B w v) (hb : Below B w w') (hB : B ≤ B') : f.Is L B' w' v := ⟨h.1.below hb hB, fun hl => (h.2 hl).below hb hB⟩
theorem Fo.Is.of_in {B : Nat} {w : World} {f : Fo} {v : Value} (h : f.In B w v) : f.Is false B w v := ⟨h, fun h => by cases h⟩
theorem Fo.Is.of_live {L : Bool} {B : Nat} {w : World} {f : Fo} {v : Value} (h : f.Live B w v) : f.Is L B w v := ⟨h.in, fun _ => h⟩
/-- The nine cells of an element. -/
def El.Nine (L : Bool) (B : Nat) (w : World) (e : El) (c : Nat → Option Value) : Prop :=
  c 0 = some (.bool e.n) ∧ c 1 = some (.string e.v) ∧ c 2 = some (.int .i64 e.l.op) ∧ c 3 = some (.string e.l.a) ∧ (∃ k, c 4 = some k ∧ e.l.ks.Is L B w k) ∧
    c 5 = some (.int .i64 e.c.op) ∧ c 6 = some (.string e.c.a) ∧ (∃ k, c 7 = some k ∧ e.c.ks.Is L B w k) ∧ c 8 = some (.int .i64 e.d)
/-- The row's cells; its parts' rows lie below B. -/
def Pf.Row (L : Bool) (B : Nat) (w : World) : Pf → (Nat → Option Value) → Prop
  | .nil, _ => True
  | .cons o e k lo hi r, c => c 0 = some (.int .i64 o) ∧ e.Nine L B w (fun i => c (1 + i)) ∧
      (∃ (p : Option Addr) (cap : Nat), c 10 = some (.slice p k.list.length cap) ∧ k.list.length ≤ cap ∧ cap ≤ maxLen ∧
        (k.list = [] ∨ ∃ b off, p = some ⟨b, off, none⟩ ∧ b < B ∧ (L = true → Alive w b) ∧ Pf.Row L B w k (fun i => w.cell? ⟨b, off + i, none⟩))) ∧
      c 11 = some (.int .i64 lo) ∧ c 12 = some (.int .i64 hi) ∧ Pf.Row L B w r (fun i => c (i + 13))
def Pf.Is (L : Bool) (B : Nat) (w : World) (f : Pf) (v : Value) : Prop :=
  ∃ (p : Option Addr) (cap : Nat), v = .slice p f.list.length cap ∧ f.list.length ≤ cap ∧ cap ≤ maxLen ∧ (f.list = [] ∨ ∃ b off, p = some ⟨b, off, none⟩ ∧ b < B ∧ (L = true → Alive w b) ∧ f.Row L B w (fun i => w.cell? ⟨b, off + i, none⟩))
theorem Pf.row_cons {L : Bool} {B : Nat} {w : World} {o lo hi : Int} {e : El} {k r : Pf} {c : Nat → Option Value} :
    (Pf.cons o e k lo hi r).Row L B w c ↔ c 0 = some (.int .i64 o) ∧ e.Nine L B w (fun i => c (1 + i)) ∧ (∃ v, c 10 = some v ∧ k.Is L B w v) ∧ c 11 = some (.int .i64 lo) ∧ c 12 = some (.int .i64 hi) ∧ r.Row L B w (fun i => c (i + 13)) := by
  constructor
  · rintro ⟨h1, h2, ⟨p, cap, h3, h4⟩, h5⟩; exact ⟨h1, h2, ⟨_, h3, p, cap, rfl, h4⟩, h5⟩
  · rintro ⟨h1, h2, ⟨_, h3, p, cap, rfl, h4⟩, h5⟩; exact ⟨h1, h2, ⟨p, cap, h3, h4⟩, h5⟩
theorem El.Nine.below {L : Bool} {B B' : Nat} {w w' : World} {e : El} {c c' : Nat → Option Value} (h : e.Nine L B w c) (hb : Below B w w') (hB : B ≤ B') (hc : ∀ i v, i < 9 → c i = some v → c' i = some v) : e.Nine L B' w' c' := by
  obtain ⟨h0, h1, h2, h3, ⟨k, h4, h4'⟩, h5, h6, ⟨k', h7, h7'⟩, h8⟩ := h
  exact ⟨hc _ _ (by omega) h0, hc _ _ (by omega) h1, hc _ _ (by omega) h2, hc _ _ (by omega) h3, ⟨k, hc _ _ (by omega) h4, h4'.below hb hB⟩, hc _ _ (by omega) h5, hc _ _ (by omega) h6, ⟨k', hc _ _ (by omega) h7, h7'.below hb hB⟩, hc _ _ (by omega) h8⟩
theorem Pf.Row.below {L : Bool} {B B' : Nat} {w w' : World} (hb : Below B w w') (hB : B ≤ B') {f : Pf} : ∀ {c c' : Nat → Option Value}, f.Row L B w c → (∀ i v, i < f.list.length * 13 → c i = some v → c' i = some v) → f.Row L B' w' c' := by
  induction f with
  | nil => intros; trivial
  | cons o e k lo hi r ihk ihr =>
    intro c c' h hc
    simp only [Pf.list, List.length_cons] at hc
    obtain ⟨h1, h2, ⟨p, cap, h3, h4, h5, h6⟩, h7, h8, h9⟩ := h
    refine ⟨hc _ _ (by omega) h1, h2.below hb hB fun i v hi hv => hc _ _ (by omega) hv, ⟨p, cap, hc _ _ (by omega) h3, h4, h5, ?_⟩, hc _ _ (by omega) h7, hc _ _ (by omega) h8, ihr h9 fun i v hi hv => hc _ _ (by omega) hv⟩
    rcases h6 with h6 | ⟨b, off, e, hl, hal, h6⟩
    · exact .inl h6
    · exact .inr ⟨b, off, e, by omega, fun hL => (hal hL).below hb hl, ihk h6 fun i v _ hv => keepc hb hl hv⟩
theorem Pf.Is.below {L : Bool} {B B' : Nat} {w w' : World} {f : Pf} {v : Value} (h : f.Is L B w v) (hb : Below B w w') (hB : B ≤ B') : f.Is L B' w' v := by
  obtain ⟨p, cap, h1, h2, h3, h4⟩ := h
  refine ⟨p, cap, h1, h2, h3, ?_⟩
  rcases h4 with h4 | ⟨b, off, e, hl, hal, h4⟩
  · exact .inl h4
  · exact .inr ⟨b, off, e, by omega, fun hL => (hal hL).below hb hl, h4.below hb hB fun i v _ hv => keepc hb hl hv⟩
theorem Pf.Is.form {L : Bool} {B : Nat} {w : World} {f : Pf} {v : Value} (h : f.Is L B w v) : ∃ p cap, v = .slice p f.list.length cap := by
  obtain ⟨p, cap, h1, _⟩ := h; exact ⟨p, cap, h1⟩
theorem Pf.Is.max {L : Bool} {B : Nat} {w : World} {f : Pf} {p : Option Addr} {n cap : Nat} (h : f.Is L B w (.slice p n cap)) : n = f.list.length ∧ n ≤ cap ∧ cap ≤ maxLen := by
  obtain ⟨p', cap', h1, h2, h3, _⟩ := h
  cases h1; exact ⟨rfl, h2, h3⟩
/-- The thirteen cells of a pattern. -/
def Pt.Thirteen (L : Bool) (B : Nat) (w : World) (x : Pt) (c : Nat → Option Value) : Prop :=
  c 0 = some (.int .i64 x.op) ∧ x.e.Nine L B w (fun i => c (1 + i)) ∧ (∃ v, c 10 = some v ∧ x.ks.Is L B w v) ∧ c 11 = some (.int .i64 x.lo) ∧ c 12 = some (.int .i64 x.hi)
theorem Pf.Row.get {L : Bool} {B : Nat} {w : World} {f : Pf} : ∀ {c : Nat → Option Value}, f.Row L B w c → ∀ (k : Nat) (hk : k < f.list.length), f.list[k].Thirteen L B w (fun i => c (k * 13 + i)) := by
  induction f with
  | nil => intro c _ k hk; simp [Pf.list] at hk
  | cons o e ks lo hi r _ ih =>
    intro c h k hk
    obtain ⟨h1, h2, h3, h4, h5, h6⟩ := Pf.row_cons.1 h
    cases k with
    | zero =>
      have e : (fun i => c (0 * 13 + i)) = c := by funext i; congr 1; omega
      rw [e]; exact ⟨h1, h2, h3, h4, h5⟩
    | succ k =>
      have := ih h6 k (by simpa [Pf.list] using hk)
      have e : (fun i => c (k * 13 + i + 13)) = (fun i => c ((k + 1) * 13 + i)) := by funext i; congr 1; omega
      simp only [e] at this
      simpa [Pf.list] using this
/-- An element's cells, at an index. -/
theorem Pf.Is.get {L : Bool} {B : Nat} {w : World} {f : Pf} {p : Option Addr} {n cap : Nat} (h : f.Is L B w (.slice p n cap)) (k : Nat) (hk : k < f.list.length) :
    ∃ b off, p = some ⟨b, off, none⟩ ∧ b < B ∧ (L = true → Alive w b) ∧ f.list[k].Thirteen L B w (fun i => w.cell? ⟨b, off + k * 13 + i, none⟩) := by
  obtain ⟨p', cap', h1, h2, h3, h4⟩ := h
  cases h1
  rcases h4 with h4 | ⟨b, off, e, hl, hal, h4⟩
  · rw [h4] at hk; simp at hk
  · refine ⟨b, off, e, hl, hal, ?_⟩
    have := h4.get k hk
    have e : (fun i => w.cell? ⟨b, off + (k * 13 + i), none⟩) = (fun i => w.cell? ⟨b, off + k * 13 + i, none⟩) := by funext i; congr 2; omega
    simp only [e] at this
    exact this
theorem Pf.row_of {L : Bool} {B : Nat} {w : World} (l : List Pt) : ∀ {c : Nat → Option Value}, (∀ (k : Nat) (hk : k < l.length), l[k].Thirteen L B w (fun i => c (k * 13 + i))) → (Pf.of l).Row L B w c := by
  induction l with
  | nil => intros; trivial
  | cons x l ih =>
    intro c h
    have h0 := h 0 (by simp)
    have e : (fun i => c (0 * 13 + i)) = c := by funext i; congr 1; omega
    rw [e] at h0
    obtain ⟨h1, h2, h3, h4, h5⟩ := h0
    refine Pf.row_cons.2 ⟨h1, h2, h3, h4, h5, ih fun k hk => ?_⟩
    have := h (k + 1) (by simpa using hk)
    have e : (fun i => c (k * 13 + i + 13)) = (fun i => c ((k + 1) * 13 + i)) := by funext i; congr 1; omega
    rw [e]; simpa using this
theorem Fo.Is.weak {L : Bool} {B : Nat} {w : World} {f : Fo} {v : Value} (h : f.Is L B w v) : f.Is false B w v := .of_in h.1
theorem El.Nine.weak {L : Bool} {B : Nat} {w : World} {e : El} {c : Nat → Option Value} (h : e.Nine L B w c) : e.Nine false B w c := by
  obtain ⟨h0, h1, h2, h3, ⟨k, h4, h4'⟩, h5, h6, ⟨k', h7, h7'⟩, h8⟩ := h
  exact ⟨h0, h1, h2, h3, ⟨k, h4, h4'.weak⟩, h5, h6, ⟨k', h7, h7'.weak⟩, h8⟩
theorem Pf.Row.weak {L : Bool} {B : Nat} {w : World} {f : Pf} : ∀ {c : Nat → Option Value}, f.Row L B w c → f.Row false B w c := by
  induction f with
  | nil => intros; trivial
  | cons o e k lo hi r ihk ihr =>
    intro c h
    obtain ⟨h1, h2, ⟨p, cap, h3, h4, h5, h6⟩, h7, h8, h9⟩ := h
    refine ⟨h1, h2.weak, ⟨p, cap, h3, h4, h5, ?_⟩, h7, h8, ihr h9⟩
    rcases h6 with h6 | ⟨b, off, e, hl, hal, h6⟩
    · exact .inl h6
    · exact .inr ⟨b, off, e, hl, fun h => (by cases h), ihk h6⟩
theorem Pf.Is.weak {L : Bool} {B : Nat} {w : World} {f : Pf} {v : Value} (h : f.Is L B w v) : f.Is false B w v := by
  obtain ⟨p, cap, h1, h2, h3, h4⟩ := h
  refine ⟨p, cap, h1, h2, h3, ?_⟩
  rcases h4 with h4 | ⟨b, off, e, hl, hal, h4⟩
  · exact .inl h4
  · exact .inr ⟨b, off, e, hl, fun h => (by cases h), h4.weak⟩
/-- The value of a struct Pat. -/
def Pt.AtL (L : Bool) (x : Pt) (B : Nat) (w : World) (v : Value) : Prop :=
  ∃ k k' kk, v = .agg #[.int .i64 x.op, .bool x.e.n, .string x.e.v, .int .i64 x.e.l.op, .string x.e.l.a, k, .int .i64 x.e.c.op, .string x.e.c.a, k', .int .i64 x.e.d, kk, .int .i64 x.lo, .int .i64 x.hi] ∧ x.e.l.ks.Is L B w k ∧ x.e.c.ks.Is L B w k' ∧ x.ks.Is L B w kk
def Pt.At (x : Pt) (B : Nat) (w : World) (v : Value) : Prop := x.AtL false B w v
theorem Pt.AtL.below {L : Bool} {x : Pt} {B B' : Nat} {w w' : World} {v : Value} (h : x.AtL L B w v) (hb : Below B w w') (hB : B ≤ B') : x.AtL L B' w' v := by
  obtain ⟨k, k', kk, h1, h2, h3, h4⟩ := h
  exact ⟨k, k', kk, h1, h2.below hb hB, h3.below hb hB, h4.below hb hB⟩
theorem Pt.AtL.weak {L : Bool} {x : Pt} {B : Nat} {w : World} {v : Value} (h : x.AtL L B w v) : x.At B w v := by
  obtain ⟨k, k', kk, h1, h2, h3, h4⟩ := h
  exact ⟨k, k', kk, h1, h2.weak, h3.weak, h4.weak⟩
theorem Pt.At.to {x : Pt} {B B' : Nat} {w w' : World} {v : Value} (h : x.At B w v) (hb : Below B w w') (hB : B ≤ B') : x.At B' w' v := Pt.AtL.below h hb hB
theorem Pt.AtL.form {L : Bool} {x : Pt} {B : Nat} {w : World} {v : Value} (h : x.AtL L B w v) : ∃ p c q d r e, v = .agg #[.int .i64 x.op, .bool x.e.n, .string x.e.v, .int .i64 x.e.l.op, .string x.e.l.a, .slice p x.e.l.ks.list.length c, .int .i64 x.e.c.op, .string x.e.c.a, .slice q x.e.c.ks.list.length d, .int .i64 x.e.d, .slice r x.ks.list.length e, .int .i64 x.lo, .int .i64 x.hi] ∧
    x.e.l.ks.Is L B w (.slice p x.e.l.ks.list.length c) ∧ x.e.c.ks.Is L B w (.slice q x.e.c.ks.list.length d) ∧ x.ks.Is L B w (.slice r x.ks.list.length e) := by
  obtain ⟨k, k', kk, h1, h2, h3, h4⟩ := h
  obtain ⟨p, c, rfl⟩ := h2.1.form
  obtain ⟨q, d, rfl⟩ := h3.1.form
  obtain ⟨r, e, rfl⟩ := h4.form
  exact ⟨p, c, q, d, r, e, h1, h2, h3, h4⟩
theorem Pt.At.form {x : Pt} {B : Nat} {w : World} {v : Value} (h : x.At B w v) : ∃ p c q d r e, v = .agg #[.int .i64 x.op, .bool x.e.n, .string x.e.v, .int .i64 x.e.l.op, .string x.e.l.a, .slice p x.e.l.ks.list.length c, .int .i64 x.e.c.op, .string x.e.c.a, .slice q x.e.c.ks.list.length d, .int .i64 x.e.d, .slice r x.ks.list.length e, .int .i64 x.lo, .int .i64 x.hi] := by
  obtain ⟨p, c, q, d, r, e, h, _⟩ := Pt.AtL.form h; exact ⟨p, c, q, d, r, e, h⟩
/-- An element of a row, as a value. -/
theorem Pt.Thirteen.at {L : Bool} {x : Pt} {B : Nat} {w : World} {c : Nat → Option Value} (h : x.Thirteen L B w c) : ∃ p pc q qc r rc, c 0 = some (.int .i64 x.op) ∧ c 1 = some (.bool x.e.n) ∧ c 2 = some (.string x.e.v) ∧ c 3 = some (.int .i64 x.e.l.op) ∧ c 4 = some (.string x.e.l.a) ∧ c 5 = some (.slice p x.e.l.ks.list.length pc) ∧ c 6 = some (.int .i64 x.e.c.op) ∧ c 7 = some (.string x.e.c.a) ∧
    c 8 = some (.slice q x.e.c.ks.list.length qc) ∧ c 9 = some (.int .i64 x.e.d) ∧ c 10 = some (.slice r x.ks.list.length rc) ∧ c 11 = some (.int .i64 x.lo) ∧ c 12 = some (.int .i64 x.hi) ∧
    x.AtL L B w (.agg #[.int .i64 x.op, .bool x.e.n, .string x.e.v, .int .i64 x.e.l.op, .string x.e.l.a, .slice p x.e.l.ks.list.length pc, .int .i64 x.e.c.op, .string x.e.c.a, .slice q x.e.c.ks.list.length qc, .int .i64 x.e.d, .slice r x.ks.list.length rc, .int .i64 x.lo, .int .i64 x.hi]) := by
  obtain ⟨h0, ⟨n0, n1, n2, n3, ⟨k, n4, n4'⟩, n5, n6, ⟨k', n7, n7'⟩, n8⟩, ⟨kk, h10, h10'⟩, h11, h12⟩ := h
  obtain ⟨p, pc, rfl⟩ := n4'.1.form
  obtain ⟨q, qc, rfl⟩ := n7'.1.form
  obtain ⟨r, rc, rfl⟩ := h10'.form
  exact ⟨p, pc, q, qc, r, rc, h0, n0, n1, n2, n3, n4, n5, n6, n7, n8, h10, h11, h12, _, _, _, rfl, n4', n7', h10'⟩

/-- The row's cells; all of its memory is the call's own, in the blocks F. -/
def Pf.ORow (w : World) : Pf → (Nat → Option Value) → List Nat → Prop
  | .nil, _, F => F = []
  | .cons o e k lo hi r, c, F => c 0 = some (.int .i64 o) ∧ (∃ F0 F1 F2, F = F0 ++ (F1 ++ F2) ∧ (∀ x ∈ F0, x ∉ F1 ++ F2) ∧ (∀ x ∈ F1, x ∉ F2) ∧
      (∃ k k', c 1 = some (.bool e.n) ∧ c 2 = some (.string e.v) ∧ c 3 = some (.int .i64 e.l.op) ∧ c 4 = some (.string e.l.a) ∧ c 5 = some k ∧ c 6 = some (.int .i64 e.c.op) ∧ c 7 = some (.string e.c.a) ∧ c 8 = some k' ∧ c 9 = some (.int .i64 e.d) ∧
        e.Has (.agg #[.bool e.n, .string e.v, .int .i64 e.l.op, .string e.l.a, k, .int .i64 e.c.op, .string e.c.a, k', .int .i64 e.d]) F0 w) ∧
      (∃ (p : Option Addr) (cap : Nat), c 10 = some (.slice p k.list.length cap) ∧ k.list.length ≤ cap ∧ cap ≤ maxLen ∧
        ((k.list = [] ∧ F1 = []) ∨ ∃ b F', p = some ⟨b, 0, none⟩ ∧ F1 = b :: F' ∧ b ∉ F' ∧ b < w.heap.size ∧ (∀ o, w.frozen? ⟨b, o, none⟩ = false) ∧ Pf.ORow w k (fun i => w.cell? ⟨b, i, none⟩) F')) ∧
      c 11 = some (.int .i64 lo) ∧ c 12 = some (.int .i64 hi) ∧ Pf.ORow w r (fun i => c (i + 13)) F2)
def Pf.Own (w : World) (f : Pf) (v : Value) (F : List Nat) : Prop :=
  ∃ (p : Option Addr) (cap : Nat), v = .slice p f.list.length cap ∧ f.list.length ≤ cap ∧ cap ≤ maxLen ∧
    ((f.list = [] ∧ F = []) ∨ ∃ b F', p = some ⟨b, 0, none⟩ ∧ F = b :: F' ∧ b ∉ F' ∧ b < w.heap.size ∧ (∀ o, w.frozen? ⟨b, o, none⟩ = false) ∧ f.ORow w (fun i => w.cell? ⟨b, i, none⟩) F')
theorem Pf.orow_cons {w : World} {o lo hi : Int} {e : El} {k r : Pf} {c : Nat → Option Value} {F : List Nat} :
    (Pf.cons o e k lo hi r).ORow w c F ↔ c 0 = some (.int .i64 o) ∧ (∃ F0 F1 F2, F = F0 ++ (F1 ++ F2) ∧ (∀ x ∈ F0, x ∉ F1 ++ F2) ∧ (∀ x ∈ F1, x ∉ F2) ∧
      (∃ k k', c 1 = some (.bool e.n) ∧ c 2 = some (.string e.v) ∧ c 3 = some (.int .i64 e.l.op) ∧ c 4 = some (.string e.l.a) ∧ c 5 = some k ∧ c 6 = some (.int .i64 e.c.op) ∧ c 7 = some (.string e.c.a) ∧ c 8 = some k' ∧ c 9 = some (.int .i64 e.d) ∧
        e.Has (.agg #[.bool e.n, .string e.v, .int .i64 e.l.op, .string e.l.a, k, .int .i64 e.c.op, .string e.c.a, k', .int .i64 e.d]) F0 w) ∧
      (∃ v, c 10 = some v ∧ k.Own w v F1) ∧ c 11 = some (.int .i64 lo) ∧ c 12 = some (.int .i64 hi) ∧ r.ORow w (fun i => c (i + 13)) F2) := by
  constructor
  · rintro ⟨h1, F0, F1, F2, h2, h3, h4, h5, ⟨p, cap, h6, h7, h8, h9⟩, h10⟩; exact ⟨h1, F0, F1, F2, h2, h3, h4, h5, ⟨_, h6, p, cap, rfl, h7, h8, h9⟩, h10⟩
  · rintro ⟨h1, F0, F1, F2, h2, h3, h4, h5, ⟨_, h6, p, cap, rfl, h7, h8, h9⟩, h10⟩; exact ⟨h1, F0, F1, F2, h2, h3, h4, h5, ⟨p, cap, h6, h7, h8, h9⟩, h10⟩
theorem Pf.ORow.lt {w : World} {f : Pf} : ∀ {c : Nat → Option Value} {F : List Nat}, f.ORow w c F → ∀ x ∈ F, x < w.heap.size := by
  induction f with
  | nil => intro c F h; cases h; simp
  | cons o e k lo hi r ihk ihr =>
    intro c F h x hx
    obtain ⟨h1, F0, F1, F2, rfl, h3, h4, ⟨k, k', _, _, _, _, _, _, _, _, _, hE⟩, ⟨p, cap, h6, h7, h8, h9⟩, _, _, h10⟩ := h
    rcases List.mem_append.1 hx with hx | hx
    · exact hE.lt x hx
    rcases List.mem_append.1 hx with hx | hx
    · rcases h9 with ⟨_, rfl⟩ | ⟨b, F', e, rfl, g1, g2, g3, g4⟩
      · simp at hx
      · rcases List.mem_cons.1 hx with rfl | hx
        · exact g2
        · exact ihk g4 x hx
    · exact ihr h10 x hx
theorem Pf.Own.lt {w : World} {f : Pf} {v : Value} {F : List Nat} (h : f.Own w v F) : ∀ x ∈ F, x < w.heap.size := by
  obtain ⟨p, cap, h1, h2, h3, h4⟩ := h
  rcases h4 with ⟨_, rfl⟩ | ⟨b, F', e, rfl, h5, h6, h7, h8⟩
  · simp
  · intro x hx
    rcases List.mem_cons.1 hx with rfl | hx
    · exact h6
    · exact h8.lt x hx
theorem El.Has.nine {L : Bool} {e : El} {k k' : Value} {F : List Nat} {w : World} (h : e.Has (.agg #[.bool e.n, .string e.v, .int .i64 e.l.op, .string e.l.a, k, .int .i64 e.c.op, .string e.c.a, k', .int .i64 e.d]) F w) : e.l.ks.Is L w.heap.size w k ∧ e.c.ks.Is L w.heap.size w k' := by
  obtain ⟨k1, k2, F1, F2, e1, _, _, h2, h3⟩ := h
  simp at e1
  obtain ⟨rfl, rfl⟩ := e1
  exact ⟨.of_live h2.live, .of_live h3.live⟩
theorem Pf.ORow.row {L : Bool} {w : World} {f : Pf} : ∀ {c c' : Nat → Option Value} {F : List Nat}, f.ORow w c F → (∀ i, i < f.list.length * 13 → c' i = c i) → f.Row L w.heap.size w c' := by
  induction f with
  | nil => intros; trivial
  | cons o e k lo hi r ihk ihr =>
    intro c c' F h hc
    obtain ⟨h1, F0, F1, F2, rfl, h3, h4, ⟨kl, kc, e1, e2, e3, e4, e5, e6, e7, e8, e9, hE⟩, ⟨p, cap, h6, h7, h8, h9⟩, h11, h12, h10⟩ := h
    simp only [Pf.list, List.length_cons] at hc
    have n := hE.nine (L := L)
    refine ⟨(hc 0 (by omega)).trans h1, ⟨(hc 1 (by omega)).trans e1, (hc 2 (by omega)).trans e2, (hc 3 (by omega)).trans e3, (hc 4 (by omega)).trans e4, ⟨kl, (hc 5 (by omega)).trans e5, n.1⟩, (hc 6 (by omega)).trans e6, (hc 7 (by omega)).trans e7, ⟨kc, (hc 8 (by omega)).trans e8, n.2⟩, (hc 9 (by omega)).trans e9⟩, ⟨p, cap, (hc 10 (by omega)).trans h6, h7, h8, ?_⟩, (hc 11 (by omega)).trans h11, (hc 12 (by omega)).trans h12, ihr h10 fun i hi => hc (i + 13) (by omega)⟩
    rcases h9 with ⟨h9, _⟩ | ⟨b, F', e, rfl, g1, g2, g3, g4⟩
    · exact .inl h9
    · by_cases hk : k.list = []
      · exact .inl hk
      · refine .inr ⟨b, 0, e, g2, fun _ => ?_, ihk g4 fun i _ => by rw [Nat.zero_add]⟩
        cases k with
        | nil => exact absurd rfl hk
        | cons o' a' k' l' h' r' => exact Alive.of_cell (Pf.orow_cons.1 g4).1 g3
theorem Pf.Own.is {L : Bool} {w : World} {f : Pf} {v : Value} {F : List Nat} (h : f.Own w v F) : f.Is L w.heap.size w v := by
  obtain ⟨p, cap, h1, h2, h3, h4⟩ := h
  refine ⟨p, cap, h1, h2, h3, ?_⟩
  rcases h4 with ⟨h4, _⟩ | ⟨b, F', e, _, _, h6, h7, h8⟩
  · exact .inl h4
  · by_cases hk : f.list = []
    · exact .inl hk
    · refine .inr ⟨b, 0, e, h6, fun _ => ?_, h8.row fun i _ => by rw [Nat.zero_add]⟩
      cases f with
      | nil => exact absurd rfl hk
      | cons o' a' k' l' h' r' => exact Alive.of_cell (Pf.orow_cons.1 h8).1 h7
theorem Pf.ORow.chg {w w' : World} {G : List Nat} (hc : Chg G w w') {f : Pf} : ∀ {c c' : Nat → Option Value} {F : List Nat}, f.ORow w c F → (∀ x ∈ F, x ∉ G) → (∀ i, i < f.list.length * 13 → c' i = c i) → f.ORow w' c' F := by
  induction f with
  | nil => intro c c' F h _ _; exact h
  | cons o e k lo hi r ihk ihr =>
    intro c c' F h hd he
    obtain ⟨h1, F0, F1, F2, rfl, h3, h4, ⟨kl, kc, e1, e2, e3, e4, e5, e6, e7, e8, e9, hE⟩, ⟨p, cap, h6, h7, h8, h9⟩, h11, h12, h10⟩ := h
    simp only [Pf.list, List.length_cons] at he
    refine ⟨(he 0 (by omega)).trans h1, F0, F1, F2, rfl, h3, h4, ⟨kl, kc, (he 1 (by omega)).trans e1, (he 2 (by omega)).trans e2, (he 3 (by omega)).trans e3, (he 4 (by omega)).trans e4, (he 5 (by omega)).trans e5, (he 6 (by omega)).trans e6, (he 7 (by omega)).trans e7, (he 8 (by omega)).trans e8, (he 9 (by omega)).trans e9, hE.chg hc fun x hx => hd x (List.mem_append_left _ hx)⟩,
      ⟨p, cap, (he 10 (by omega)).trans h6, h7, h8, ?_⟩, (he 11 (by omega)).trans h11, (he 12 (by omega)).trans h12, ihr h10 (fun x hx => hd x (List.mem_append_right _ (List.mem_append_right _ hx))) fun i hi => he (i + 13) (by omega)⟩
    rcases h9 with h9 | ⟨b, F', e, rfl, g1, g2, g3, g4⟩
    · exact .inl h9
    · have hb := hc.block b g2 (hd b (by simp))
      exact .inr ⟨b, F', e, rfl, g1, Nat.lt_of_lt_of_le g2 hc.size, fun o => (World.frozen?_of_block (w := w) (a := ⟨b, o, none⟩) hb).trans (g3 o), ihk g4 (fun x hx => hd x (by simp [hx])) fun i _ => World.cell?_of_block (w := w) (a := ⟨b, i, none⟩) hb⟩
theorem Pf.Own.chg {w w' : World} {G : List Nat} {f : Pf} {v : Value} {F : List Nat} (h : f.Own w v F) (hc : Chg G w w') (hd : ∀ x ∈ F, x ∉ G) : f.Own w' v F := by
  obtain ⟨p, cap, h1, h2, h3, h4⟩ := h
  refine ⟨p, cap, h1, h2, h3, ?_⟩
  rcases h4 with h4 | ⟨b, F', e, rfl, h5, h6, h7, h8⟩
  · exact .inl h4
  · have hb := hc.block b h6 (hd b (by simp))
    exact .inr ⟨b, F', e, rfl, h5, Nat.lt_of_lt_of_le h6 hc.size, fun o => (World.frozen?_of_block (w := w) (a := ⟨b, o, none⟩) hb).trans (h7 o), h8.chg hc (fun x hx => hd x (by simp [hx])) fun i _ => World.cell?_of_block (w := w) (a := ⟨b, i, none⟩) hb⟩
theorem Pf.Own.below {w w' : World} {f : Pf} {v : Value} {F : List Nat} (h : f.Own w v F) (hc : Below w.heap.size w w') : f.Own w' v F := h.chg (Chg.of_below hc []) (by simp)
/-- A row is two rows, one behind the other. -/
theorem Pf.orow_app {w : World} {f g : Pf} : ∀ {c : Nat → Option Value} {F : List Nat}, (∃ F1 F2, F = F1 ++ F2 ∧ (∀ x ∈ F1, x ∉ F2) ∧ f.ORow w c F1 ∧ g.ORow w (fun i => c (i + f.list.length * 13)) F2) → (f.app g).ORow w c F := by
  induction f with
  | nil =>
    intro c F
    rintro ⟨F1, F2, rfl, _, h1, h2⟩; cases h1; exact h2
  | cons o e k lo hi r _ ih =>
    intro c F
    rintro ⟨G1, G2, rfl, hd, h1, h2⟩
    obtain ⟨h3, F0, F1, F2, rfl, h4, h5, h6, h7, h8, h9, h10⟩ := Pf.orow_cons.1 h1
    have e : (fun i => c (i + (Pf.cons o e k lo hi r).list.length * 13)) = fun i => c (i + r.list.length * 13 + 13) := by
      funext i; congr 1; simp [Pf.list]; omega
    rw [e] at h2
    refine Pf.orow_cons.2 ⟨h3, F0, F1, F2 ++ G2, by simp [List.append_assoc], fun x hx hx2 => ?_, fun x hx hx2 => ?_, h6, h7, h8, h9, ih ⟨F2, G2, rfl, fun x hx => hd x (by simp [hx]), h10, h2⟩⟩
    · rw [← List.append_assoc] at hx2
      rcases List.mem_append.1 hx2 with hx2 | hx2
      · exact h4 x hx hx2
      · exact hd x (by simp [hx]) hx2
    · rcases List.mem_append.1 hx2 with hx2 | hx2
      · exact h5 x hx hx2
      · exact hd x (by simp [hx]) hx2
/-- A pattern in memory of the call's own. -/
def Pt.Has (x : Pt) (v : Value) (F : List Nat) (w : World) : Prop :=
  ∃ k k' kk F1 F2, v = .agg #[.int .i64 x.op, .bool x.e.n, .string x.e.v, .int .i64 x.e.l.op, .string x.e.l.a, k, .int .i64 x.e.c.op, .string x.e.c.a, k', .int .i64 x.e.d, kk, .int .i64 x.lo, .int .i64 x.hi] ∧ F = F1 ++ F2 ∧ (∀ y ∈ F1, y ∉ F2) ∧
    x.e.Has (.agg #[.bool x.e.n, .string x.e.v, .int .i64 x.e.l.op, .string x.e.l.a, k, .int .i64 x.e.c.op, .string x.e.c.a, k', .int .i64 x.e.d]) F1 w ∧ x.ks.Own w kk F2
theorem Pt.Has.atL {L : Bool} {x : Pt} {v : Value} {F : List Nat} {w : World} (h : x.Has v F w) : x.AtL L w.heap.size w v := by
  obtain ⟨k, k', kk, F1, F2, h1, _, _, h2, h3⟩ := h
  exact ⟨k, k', kk, h1, h2.nine.1, h2.nine.2, h3.is⟩
theorem Pt.Has.at {x : Pt} {v : Value} {F : List Nat} {w : World} (h : x.Has v F w) : x.At w.heap.size w v := h.atL
theorem Pt.Has.chg {x : Pt} {v : Value} {F G : List Nat} {w w' : World} (h : x.Has v F w) (hc : Chg G w w') (hd : ∀ y ∈ F, y ∉ G) : x.Has v F w' := by
  obtain ⟨k, k', kk, F1, F2, h1, rfl, h2, h3, h4⟩ := h
  exact ⟨k, k', kk, F1, F2, h1, rfl, h2, h3.chg hc (fun y hy => hd y (List.mem_append_left _ hy)), h4.chg hc (fun y hy => hd y (List.mem_append_right _ hy))⟩
theorem Pt.Has.below {x : Pt} {v : Value} {F : List Nat} {w w' : World} (h : x.Has v F w) (hb : Below w.heap.size w w') : x.Has v F w' := h.chg (Chg.of_below hb []) (by simp)
theorem Pt.Has.lt {x : Pt} {v : Value} {F : List Nat} {w : World} (h : x.Has v F w) : ∀ y ∈ F, y < w.heap.size := by
  obtain ⟨k, k', kk, F1, F2, h1, rfl, h2, h3, h4⟩ := h
  intro y hy
  rcases List.mem_append.1 hy with hy | hy
  · exact h3.lt y hy
  · exact h4.lt y hy
end Go.Proofs.Ytggpnnoldjpmcaa
