/- Expressions as data and in memory. -/
import Derived.Test.YtfdkmngkpihpbaaGHelp
namespace Go.Proofs.Ytfdkmngkpihpbaa
open Go.RowKit

/-- A row of expressions: none, or one with its parts, and the row behind it. -/
inductive Fo where
  | nil : Fo
  | cons (op : Int) (a : ByteArray) (ks : Fo) (r : Fo) : Fo
structure Ex where
  op : Int
  a : ByteArray
  ks : Fo
def Fo.list : Fo → List Ex
  | .nil => []
  | .cons o a k r => ⟨o, a, k⟩ :: r.list
def Fo.of : List Ex → Fo
  | [] => .nil
  | e :: l => .cons e.op e.a e.ks (Fo.of l)
theorem Fo.list_of (l : List Ex) : (Fo.of l).list = l := by
  induction l with
  | nil => rfl
  | cons e l ih => simp only [Fo.of, Fo.list, ih]
theorem Fo.of_list (f : Fo) : Fo.of f.list = f := by
  induction f with
  | nil => rfl
  | cons o a k r _ ih => simp only [Fo.of, Fo.list, ih]
/-- How many expressions there are, at all levels. -/
def Fo.size : Fo → Nat
  | .nil => 0
  | .cons _ _ k r => k.size + r.size + 1
def Fo.app : Fo → Fo → Fo
  | .nil, g => g
  | .cons o a k r, g => .cons o a k (r.app g)
theorem Fo.list_app (f g : Fo) : (f.app g).list = f.list ++ g.list := by
  induction f with
  | nil => rfl
  | cons o a k r _ ih => simp only [Fo.app, Fo.list, ih]; rfl
theorem Fo.size_app (f g : Fo) : (f.app g).size = f.size + g.size := by
  induction f with
  | nil => simp [Fo.app, Fo.size]
  | cons o a k r _ ih => simp only [Fo.app, Fo.size, ih]; omega
theorem Fo.len_le (f : Fo) : f.list.length ≤ f.size := by
  induction f with
  | nil => exact Nat.le_refl _
  | cons o a k r _ ih => simp only [Fo.list, Fo.size, List.length_cons]; omega
/-- A row parts at each place. -/
theorem Fo.part (f : Fo) (k : Nat) (hk : k < f.list.length) : ∃ (g : Fo) (e : Ex) (h : Fo), f = g.app (.cons e.op e.a e.ks h) ∧ g.list.length = k ∧ e = f.list[k] := by
  induction f generalizing k with
  | nil => simp [Fo.list] at hk
  | cons o a ks r _ ih =>
    cases k with
    | zero => exact ⟨.nil, ⟨o, a, ks⟩, r, rfl, rfl, rfl⟩
    | succ k =>
      obtain ⟨g, e, h, h1, h2, h3⟩ := ih k (by simpa [Fo.list] using hk)
      refine ⟨.cons o a ks g, e, h, by rw [h1]; rfl, by simp [Fo.list, h2], ?_⟩
      rw [h3]; simp [Fo.list]
theorem Fo.size_get (f : Fo) (k : Nat) (hk : k < f.list.length) : f.list[k].ks.size < f.size := by
  obtain ⟨g, e, h, h1, _, h3⟩ := f.part k hk
  rw [← h3]
  have : f.size = (g.app (.cons e.op e.a e.ks h)).size := by rw [← h1]
  rw [this, Fo.size_app]
  simp only [Fo.size]; omega
def Ex.Ok (e : Ex) : Prop := I64 e.op ∧ e.a.size ≤ maxLen
def Fo.Ok : Fo → Prop
  | .nil => True
  | .cons o a k r => I64 o ∧ a.size ≤ maxLen ∧ k.Ok ∧ r.Ok
theorem Fo.ok_get (f : Fo) (h : f.Ok) (k : Nat) (hk : k < f.list.length) : I64 f.list[k].op ∧ f.list[k].a.size ≤ maxLen ∧ f.list[k].ks.Ok := by
  induction f generalizing k with
  | nil => simp [Fo.list] at hk
  | cons o a ks r _ ih =>
    obtain ⟨h1, h2, h3, h4⟩ := h
    cases k with
    | zero => exact ⟨h1, h2, h3⟩
    | succ k => simpa [Fo.list] using ih h4 k (by simpa [Fo.list] using hk)

/-- The row's cells, from a place on; its parts' rows lie below B. -/
def Fo.Row (B : Nat) (w : World) : Fo → Nat → Nat → Prop
  | .nil, _, _ => True
  | .cons o a k r, b, off => w.cell? ⟨b, off, none⟩ = some (.int .i64 o) ∧ w.cell? ⟨b, off + 1, none⟩ = some (.string a) ∧
      (∃ (p : Option Addr) (cap : Nat), w.cell? ⟨b, off + 2, none⟩ = some (.slice p k.list.length cap) ∧ k.list.length ≤ cap ∧ cap ≤ maxLen ∧
        (k.list = [] ∨ ∃ b' off', p = some ⟨b', off', none⟩ ∧ b' < B ∧ Fo.Row B w k b' off')) ∧ Fo.Row B w r b (off + 3)
/-- The slice v reads as the row f. -/
def Fo.In (B : Nat) (w : World) (f : Fo) (v : Value) : Prop :=
  ∃ (p : Option Addr) (cap : Nat), v = .slice p f.list.length cap ∧ f.list.length ≤ cap ∧ cap ≤ maxLen ∧ (f.list = [] ∨ ∃ b off, p = some ⟨b, off, none⟩ ∧ b < B ∧ f.Row B w b off)
theorem Fo.row_cons {B : Nat} {w : World} {o : Int} {a : ByteArray} {k r : Fo} {b off : Nat} :
    (Fo.cons o a k r).Row B w b off ↔ w.cell? ⟨b, off, none⟩ = some (.int .i64 o) ∧ w.cell? ⟨b, off + 1, none⟩ = some (.string a) ∧ (∃ v, w.cell? ⟨b, off + 2, none⟩ = some v ∧ k.In B w v) ∧ r.Row B w b (off + 3) := by
  constructor
  · rintro ⟨h1, h2, ⟨p, cap, h3, h4⟩, h5⟩; exact ⟨h1, h2, ⟨_, h3, p, cap, rfl, h4⟩, h5⟩
  · rintro ⟨h1, h2, ⟨_, h3, p, cap, rfl, h4⟩, h5⟩; exact ⟨h1, h2, ⟨p, cap, h3, h4⟩, h5⟩
theorem Fo.Row.below {B B' : Nat} {w w' : World} (hb : Below B w w') (hB : B ≤ B') {f : Fo} : ∀ {b off : Nat}, b < B → f.Row B w b off → f.Row B' w' b off := by
  induction f with
  | nil => intro b off _ _; trivial
  | cons o a k r ihk ihr =>
    intro b off hlt h
    obtain ⟨h1, h2, ⟨p, cap, h3, h4, h5, h6⟩, h7⟩ := h
    refine ⟨keepc hb hlt h1, keepc hb hlt h2, ⟨p, cap, keepc hb hlt h3, h4, h5, ?_⟩, ihr hlt h7⟩
    rcases h6 with h6 | ⟨b', off', e, hl, h6⟩
    · exact .inl h6
    · exact .inr ⟨b', off', e, by omega, ihk hl h6⟩
theorem Fo.In.below {B B' : Nat} {w w' : World} {f : Fo} {v : Value} (h : f.In B w v) (hb : Below B w w') (hB : B ≤ B') : f.In B' w' v := by
  obtain ⟨p, cap, h1, h2, h3, h4⟩ := h
  refine ⟨p, cap, h1, h2, h3, ?_⟩
  rcases h4 with h4 | ⟨b, off, e, hl, h4⟩
  · exact .inl h4
  · exact .inr ⟨b, off, e, by omega, h4.below hb hB hl⟩
theorem Fo.In.form {B : Nat} {w : World} {f : Fo} {v : Value} (h : f.In B w v) : ∃ p cap, v = .slice p f.list.length cap := by
  obtain ⟨p, cap, h1, _⟩ := h; exact ⟨p, cap, h1⟩
theorem Fo.In.max {B : Nat} {w : World} {f : Fo} {p : Option Addr} {n cap : Nat} (h : f.In B w (.slice p n cap)) : n = f.list.length ∧ n ≤ cap ∧ cap ≤ maxLen := by
  obtain ⟨p', cap', h1, h2, h3, _⟩ := h
  cases h1; exact ⟨rfl, h2, h3⟩
theorem Fo.Row.get {B : Nat} {w : World} {f : Fo} : ∀ {b off : Nat}, f.Row B w b off → ∀ (k : Nat) (hk : k < f.list.length),
    w.cell? ⟨b, off + k * 3, none⟩ = some (.int .i64 f.list[k].op) ∧ w.cell? ⟨b, off + k * 3 + 1, none⟩ = some (.string f.list[k].a) ∧ ∃ v, w.cell? ⟨b, off + k * 3 + 2, none⟩ = some v ∧ f.list[k].ks.In B w v := by
  induction f with
  | nil => intro b off _ k hk; simp [Fo.list] at hk
  | cons o a ks r _ ih =>
    intro b off h k hk
    obtain ⟨h1, h2, h3, h4⟩ := Fo.row_cons.1 h
    cases k with
    | zero => rw [Nat.zero_mul, Nat.add_zero]; exact ⟨h1, h2, h3⟩
    | succ k =>
      have := ih h4 k (by simpa [Fo.list] using hk)
      rw [show off + 3 + k * 3 = off + (k + 1) * 3 by omega] at this
      simpa [Fo.list] using this
/-- An element's cells, at an index. -/
theorem Fo.In.get {B : Nat} {w : World} {f : Fo} {p : Option Addr} {n cap : Nat} (h : f.In B w (.slice p n cap)) (k : Nat) (hk : k < f.list.length) :
    ∃ b off q m c, p = some ⟨b, off, none⟩ ∧ b < B ∧ w.cell? ⟨b, off + k * 3, none⟩ = some (.int .i64 f.list[k].op) ∧ w.cell? ⟨b, off + k * 3 + 1, none⟩ = some (.string f.list[k].a) ∧
      w.cell? ⟨b, off + k * 3 + 2, none⟩ = some (.slice q m c) ∧ f.list[k].ks.In B w (.slice q m c) := by
  obtain ⟨p', cap', h1, h2, h3, h4⟩ := h
  cases h1
  rcases h4 with h4 | ⟨b, off, e, hl, h4⟩
  · rw [h4] at hk; simp at hk
  · obtain ⟨g1, g2, v, g3, g4⟩ := h4.get k hk
    obtain ⟨q, c, rfl⟩ := g4.form
    exact ⟨b, off, q, _, c, e, hl, g1, g2, g3, g4⟩
/-- The value of a struct Expr. -/
def Ex.At (e : Ex) (B : Nat) (w : World) (v : Value) : Prop := ∃ k, v = .agg #[.int .i64 e.op, .string e.a, k] ∧ e.ks.In B w k
theorem Ex.At.below {e : Ex} {B B' : Nat} {w w' : World} {v : Value} (h : e.At B w v) (hb : Below B w w') (hB : B ≤ B') : e.At B' w' v := by
  obtain ⟨k, h1, h2⟩ := h; exact ⟨k, h1, h2.below hb hB⟩
theorem Fo.of_row {B : Nat} {w : World} {b : Nat} (l : List Ex) : ∀ (off : Nat), (∀ (i : Nat) (h : i < l.length), w.cell? ⟨b, off + i * 3, none⟩ = some (.int .i64 l[i].op) ∧ w.cell? ⟨b, off + i * 3 + 1, none⟩ = some (.string l[i].a) ∧ ∃ v, w.cell? ⟨b, off + i * 3 + 2, none⟩ = some v ∧ l[i].ks.In B w v) →
    (Fo.of l).Row B w b off := by
  induction l with
  | nil => intro off _; trivial
  | cons e l ih =>
    intro off h
    have h0 := h 0 (by simp)
    simp only [List.getElem_cons_zero, Nat.zero_mul, Nat.add_zero] at h0
    refine Fo.row_cons.2 ⟨h0.1, h0.2.1, h0.2.2, ih (off + 3) fun i hi => ?_⟩
    have := h (i + 1) (by simpa using hi)
    rw [show off + (i + 1) * 3 = off + 3 + i * 3 by omega] at this
    simpa using this

/-- The row's cells by their places; its parts' rows are memory of the call's own, in the blocks F. -/
def Fo.ORow (w : World) : Fo → (Nat → Option Value) → List Nat → Prop
  | .nil, _, F => F = []
  | .cons o a k r, c, F => c 0 = some (.int .i64 o) ∧ c 1 = some (.string a) ∧ ∃ (p : Option Addr) (cap : Nat) (F1 F2 : List Nat), F = F1 ++ F2 ∧ (∀ x ∈ F1, x ∉ F2) ∧
      c 2 = some (.slice p k.list.length cap) ∧ k.list.length ≤ cap ∧ cap ≤ maxLen ∧
      ((k.list = [] ∧ F1 = []) ∨ ∃ b F', p = some ⟨b, 0, none⟩ ∧ F1 = b :: F' ∧ b ∉ F' ∧ b < w.heap.size ∧ (∀ o, w.frozen? ⟨b, o, none⟩ = false) ∧ Fo.ORow w k (fun i => w.cell? ⟨b, i, none⟩) F') ∧
      Fo.ORow w r (fun i => c (i + 3)) F2
/-- The slice v is the row f in memory of the call's own: not frozen, in the blocks F. -/
def Fo.Own (w : World) (f : Fo) (v : Value) (F : List Nat) : Prop :=
  ∃ (p : Option Addr) (cap : Nat), v = .slice p f.list.length cap ∧ f.list.length ≤ cap ∧ cap ≤ maxLen ∧
    ((f.list = [] ∧ F = []) ∨ ∃ b F', p = some ⟨b, 0, none⟩ ∧ F = b :: F' ∧ b ∉ F' ∧ b < w.heap.size ∧ (∀ o, w.frozen? ⟨b, o, none⟩ = false) ∧ f.ORow w (fun i => w.cell? ⟨b, i, none⟩) F')
theorem Fo.orow_cons {w : World} {o : Int} {a : ByteArray} {k r : Fo} {c : Nat → Option Value} {F : List Nat} :
    (Fo.cons o a k r).ORow w c F ↔ c 0 = some (.int .i64 o) ∧ c 1 = some (.string a) ∧ ∃ v F1 F2, F = F1 ++ F2 ∧ (∀ x ∈ F1, x ∉ F2) ∧ c 2 = some v ∧ k.Own w v F1 ∧ r.ORow w (fun i => c (i + 3)) F2 := by
  constructor
  · rintro ⟨h1, h2, p, cap, F1, F2, h3, h4, h5, h6, h7, h8, h9⟩; exact ⟨h1, h2, _, F1, F2, h3, h4, h5, ⟨p, cap, rfl, h6, h7, h8⟩, h9⟩
  · rintro ⟨h1, h2, _, F1, F2, h3, h4, h5, ⟨p, cap, rfl, h6, h7, h8⟩, h9⟩; exact ⟨h1, h2, p, cap, F1, F2, h3, h4, h5, h6, h7, h8, h9⟩
theorem Fo.ORow.lt {w : World} {f : Fo} : ∀ {c : Nat → Option Value} {F : List Nat}, f.ORow w c F → ∀ x ∈ F, x < w.heap.size := by
  induction f with
  | nil => intro c F h; cases h; simp
  | cons o a k r ihk ihr =>
    intro c F h x hx
    obtain ⟨h1, h2, p, cap, F1, F2, rfl, h4, h5, h6, h7, h8, h9⟩ := h
    rcases List.mem_append.1 hx with hx | hx
    · rcases h8 with ⟨_, rfl⟩ | ⟨b, F', e, rfl, h10, h11, h12, h13⟩
      · simp at hx
      · rcases List.mem_cons.1 hx with rfl | hx
        · exact h11
        · exact ihk h13 x hx
    · exact ihr h9 x hx
theorem Fo.Own.lt {w : World} {f : Fo} {v : Value} {F : List Nat} (h : f.Own w v F) : ∀ x ∈ F, x < w.heap.size := by
  obtain ⟨p, cap, h1, h2, h3, h4⟩ := h
  rcases h4 with ⟨_, rfl⟩ | ⟨b, F', e, rfl, h5, h6, h7, h8⟩
  · simp
  · intro x hx
    rcases List.mem_cons.1 hx with rfl | hx
    · exact h6
    · exact h8.lt x hx
theorem Fo.ORow.row {w : World} {f : Fo} : ∀ {b off : Nat} {c : Nat → Option Value} {F : List Nat}, f.ORow w c F → (∀ i, i < f.list.length * 3 → c i = w.cell? ⟨b, off + i, none⟩) → f.Row w.heap.size w b off := by
  induction f with
  | nil => intros; trivial
  | cons o a k r ihk ihr =>
    intro b off c F h hc
    obtain ⟨h1, h2, p, cap, F1, F2, h3, h4, h5, h6, h7, h8, h9⟩ := h
    simp only [Fo.list, List.length_cons] at hc
    refine ⟨(hc 0 (by omega)).symm.trans h1, (hc 1 (by omega)).symm.trans h2, ⟨p, cap, (hc 2 (by omega)).symm.trans h5, h6, h7, ?_⟩, ihr h9 fun i hi => ?_⟩
    · rcases h8 with ⟨h8, _⟩ | ⟨b', F', e, h10, h11, h12, h13, h14⟩
      · exact .inl h8
      · exact .inr ⟨b', 0, e, h12, ihk h14 fun i _ => by rw [Nat.zero_add]⟩
    · rw [hc (i + 3) (by omega), show off + 3 + i = off + (i + 3) by omega]
theorem Fo.Own.in {w : World} {f : Fo} {v : Value} {F : List Nat} (h : f.Own w v F) : f.In w.heap.size w v := by
  obtain ⟨p, cap, h1, h2, h3, h4⟩ := h
  refine ⟨p, cap, h1, h2, h3, ?_⟩
  rcases h4 with ⟨h4, _⟩ | ⟨b, F', e, _, _, h6, h7, h8⟩
  · exact .inl h4
  · exact .inr ⟨b, 0, e, h6, h8.row fun i _ => by rw [Nat.zero_add]⟩
theorem Fo.ORow.chg {w w' : World} {G : List Nat} (hc : Chg G w w') {f : Fo} : ∀ {c c' : Nat → Option Value} {F : List Nat}, f.ORow w c F → (∀ x ∈ F, x ∉ G) → (∀ i, i < f.list.length * 3 → c' i = c i) → f.ORow w' c' F := by
  induction f with
  | nil => intro c c' F h _ _; exact h
  | cons o a k r ihk ihr =>
    intro c c' F h hd he
    obtain ⟨h1, h2, p, cap, F1, F2, rfl, h4, h5, h6, h7, h8, h9⟩ := h
    simp only [Fo.list, List.length_cons] at he
    refine ⟨(he 0 (by omega)).trans h1, (he 1 (by omega)).trans h2, p, cap, F1, F2, rfl, h4, (he 2 (by omega)).trans h5, h6, h7, ?_, ihr h9 (fun x hx => hd x (List.mem_append_right _ hx)) fun i hi => he (i + 3) (by omega)⟩
    rcases h8 with h8 | ⟨b, F', e, rfl, h10, h11, h12, h13⟩
    · exact .inl h8
    · have hb := hc.block b h11 (hd b (by simp))
      refine .inr ⟨b, F', e, rfl, h10, Nat.lt_of_lt_of_le h11 hc.size, fun o => (World.frozen?_of_block (w := w) (a := ⟨b, o, none⟩) hb).trans (h12 o), ihk h13 (fun x hx => hd x (by simp [hx])) fun i _ => World.cell?_of_block (w := w) (a := ⟨b, i, none⟩) hb⟩
theorem Fo.Own.chg {w w' : World} {G : List Nat} {f : Fo} {v : Value} {F : List Nat} (h : f.Own w v F) (hc : Chg G w w') (hd : ∀ x ∈ F, x ∉ G) : f.Own w' v F := by
  obtain ⟨p, cap, h1, h2, h3, h4⟩ := h
  refine ⟨p, cap, h1, h2, h3, ?_⟩
  rcases h4 with h4 | ⟨b, F', e, rfl, h5, h6, h7, h8⟩
  · exact .inl h4
  · have hb := hc.block b h6 (hd b (by simp))
    exact .inr ⟨b, F', e, rfl, h5, Nat.lt_of_lt_of_le h6 hc.size, fun o => (World.frozen?_of_block (w := w) (a := ⟨b, o, none⟩) hb).trans (h7 o), h8.chg hc (fun x hx => hd x (by simp [hx])) fun i _ => World.cell?_of_block (w := w) (a := ⟨b, i, none⟩) hb⟩
theorem Fo.Own.below {w w' : World} {f : Fo} {v : Value} {F : List Nat} (h : f.Own w v F) (hc : Below w.heap.size w w') : f.Own w' v F := h.chg (Chg.of_below hc []) (by simp)
/-- A row is two rows, one behind the other. -/
theorem Fo.orow_app {w : World} {f g : Fo} : ∀ {c : Nat → Option Value} {F : List Nat}, (f.app g).ORow w c F ↔ ∃ F1 F2, F = F1 ++ F2 ∧ (∀ x ∈ F1, x ∉ F2) ∧ f.ORow w c F1 ∧ g.ORow w (fun i => c (i + f.list.length * 3)) F2 := by
  induction f with
  | nil =>
    intro c F
    constructor
    · intro h; exact ⟨[], F, rfl, by simp, rfl, h⟩
    · rintro ⟨F1, F2, rfl, _, h1, h2⟩; cases h1; exact h2
  | cons o a k r _ ih =>
    intro c F
    constructor
    · intro h
      obtain ⟨h1, h2, v, F1, F2, rfl, h4, h5, h6, h7⟩ := Fo.orow_cons.1 h
      obtain ⟨F3, F4, rfl, h8, h9, h10⟩ := ih.1 h7
      refine ⟨F1 ++ F3, F4, (List.append_assoc _ _ _).symm, fun x hx hx4 => ?_, Fo.orow_cons.2 ⟨h1, h2, v, F1, F3, rfl, fun x hx hx3 => h4 x hx (List.mem_append_left _ hx3), h5, h6, h9⟩, ?_⟩
      · rcases List.mem_append.1 hx with hx | hx
        · exact h4 x hx (List.mem_append_right _ hx4)
        · exact h8 x hx hx4
      · have e : (fun i => c (i + (Fo.cons o a k r).list.length * 3)) = fun i => c (i + r.list.length * 3 + 3) := by
          funext i; congr 1; simp [Fo.list]; omega
        rw [e]; exact h10
    · rintro ⟨F1, F2, rfl, hd, h1, h2⟩
      obtain ⟨h3, h4, v, F3, F4, rfl, h6, h7, h8, h9⟩ := Fo.orow_cons.1 h1
      have e : (fun i => c (i + (Fo.cons o a k r).list.length * 3)) = fun i => c (i + r.list.length * 3 + 3) := by
        funext i; congr 1; simp [Fo.list]; omega
      rw [e] at h2
      refine Fo.orow_cons.2 ⟨h3, h4, v, F3, F4 ++ F2, List.append_assoc _ _ _, fun x hx hx2 => ?_, h7, h8, ih.2 ⟨F4, F2, rfl, fun x hx => hd x (List.mem_append_right _ hx), h9, h2⟩⟩
      rcases List.mem_append.1 hx2 with hx2 | hx2
      · exact h6 x hx hx2
      · exact hd x (List.mem_append_left _ hx) hx2
theorem Fo.Own.empty (w : World) : Fo.Own w .nil (.slice none 0 0) [] := ⟨none, 0, rfl, Nat.le_refl _, Nat.zero_le _, .inl ⟨rfl, rfl⟩⟩
end Go.Proofs.Ytfdkmngkpihpbaa
