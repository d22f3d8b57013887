/- Kinds of data in memory: what lies in an element's cells, and what is behind them; rows of a kind, structs of kinds; no program. -/
import Derived.Test.YtfdkmngkpihpbaaGHelp
import Derived.Test.YtfdkmngkpihpbaaMark
namespace Go.Proofs.Ytfdkmngkpihpbaa
open Go.RowKit

/-- A kind of data: how many cells; that cells read as an x, all behind them in blocks below B; that they are an x whose memory behind is a call's own, in the blocks F. -/
structure Kd (α : Type) where
  sz : Nat
  rd : Nat → World → α → List Value → Prop
  ow : World → α → List Value → List Nat → Prop
  rd_len : ∀ {B w x cs}, rd B w x cs → cs.length = sz
  rd_to : ∀ {B B' w w' x cs}, rd B w x cs → Below B w w' → B ≤ B' → rd B' w' x cs
  ow_rd : ∀ {w x cs F}, ow w x cs F → rd w.heap.size w x cs
  ow_chg : ∀ {w w' x cs F G}, ow w x cs F → Chg G w w' → (∀ y ∈ F, y ∉ G) → ow w' x cs F
  ow_lt : ∀ {w x cs F}, ow w x cs F → ∀ y ∈ F, y < w.heap.size

namespace Kd
variable {α β : Type}
/-- A slice that reads as xs. -/
def Rd (K : Kd α) (B : Nat) (w : World) (v : Value) (xs : List α) : Prop :=
  ∃ (p : Option Addr) (cap : Nat), v = .slice p xs.length cap ∧ xs.length ≤ cap ∧ cap ≤ maxLen ∧
    ∀ (i : Nat) (h : i < xs.length), ∃ b off cs, p = some ⟨b, off, none⟩ ∧ b < B ∧ (∀ j u, cs[j]? = some u → w.cell? ⟨b, off + i * K.sz + j, none⟩ = some u) ∧ K.rd B w xs[i] cs
/-- Memory of a call's own for the elements of a row, by their places: cells c, blocks Fs. -/
def ORow (K : Kd α) (w : World) : List α → (Nat → Option Value) → List Nat → Prop
  | [], _, F => F = []
  | x :: xs, c, F => ∃ cs F1 F2, F = F1 ++ F2 ∧ (∀ y ∈ F1, y ∉ F2) ∧ (∀ j u, cs[j]? = some u → c j = some u) ∧ K.ow w x cs F1 ∧ ORow K w xs (fun i => c (i + K.sz)) F2
/-- A slice that is xs in memory of a call's own. -/
def Ow (K : Kd α) (w : World) (v : Value) (xs : List α) (F : List Nat) : Prop :=
  ∃ (p : Option Addr) (cap : Nat), v = .slice p xs.length cap ∧ xs.length ≤ cap ∧ cap ≤ maxLen ∧
    ((xs = [] ∧ F = []) ∨ ∃ b off F', p = some ⟨b, off, none⟩ ∧ F = b :: F' ∧ b ∉ F' ∧ b < w.heap.size ∧ (∀ o, w.frozen? ⟨b, o, none⟩ = false) ∧ K.ORow w xs (fun i => w.cell? ⟨b, off + i, none⟩) F')

theorem Rd.to {K : Kd α} {B B' : Nat} {w w' : World} {v : Value} {xs : List α} (h : K.Rd B w v xs) (hb : Below B w w') (hB : B ≤ B') : K.Rd B' w' v xs := by
  obtain ⟨p, cap, h1, h2, h3, h4⟩ := h
  refine ⟨p, cap, h1, h2, h3, fun i hi => ?_⟩
  obtain ⟨b, off, cs, e, hl, hc, hr⟩ := h4 i hi
  exact ⟨b, off, cs, e, by omega, fun j u hu => keepc hb hl (hc j u hu), K.rd_to hr hb hB⟩
theorem Rd.form {K : Kd α} {B : Nat} {w : World} {v : Value} {xs : List α} (h : K.Rd B w v xs) : ∃ p cap, v = .slice p xs.length cap := by
  obtain ⟨p, cap, h1, _⟩ := h; exact ⟨p, cap, h1⟩
theorem Rd.max {K : Kd α} {B : Nat} {w : World} {p : Option Addr} {n cap : Nat} {xs : List α} (h : K.Rd B w (.slice p n cap) xs) : n = xs.length ∧ n ≤ cap ∧ cap ≤ maxLen := by
  obtain ⟨p', cap', h1, h2, h3, _⟩ := h
  cases h1; exact ⟨rfl, h2, h3⟩
theorem Rd.get {K : Kd α} {B : Nat} {w : World} {p : Option Addr} {n cap : Nat} {xs : List α} (h : K.Rd B w (.slice p n cap) xs) {k : Nat} (hk : k < xs.length) :
    ∃ b off cs, p = some ⟨b, off, none⟩ ∧ b < B ∧ (∀ j u, cs[j]? = some u → w.cell? ⟨b, off + k * K.sz + j, none⟩ = some u) ∧ K.rd B w xs[k] cs := by
  obtain ⟨p', cap', h1, h2, h3, h4⟩ := h
  cases h1; exact h4 k hk
theorem Rd.nil {K : Kd α} {B : Nat} {w : World} {p : Option Addr} {cap : Nat} (h : cap ≤ maxLen) : K.Rd B w (.slice p 0 cap) [] := ⟨p, cap, rfl, Nat.zero_le _, h, fun i hi => by simp at hi⟩

theorem ORow.lt {K : Kd α} {w : World} : ∀ {xs : List α} {c : Nat → Option Value} {F : List Nat}, K.ORow w xs c F → ∀ y ∈ F, y < w.heap.size
  | [], _, _, h, y, hy => by cases h; simp at hy
  | x :: xs, c, F, h, y, hy => by
    obtain ⟨cs, F1, F2, rfl, _, _, h1, h2⟩ := h
    rcases List.mem_append.1 hy with hy | hy
    · exact K.ow_lt h1 y hy
    · exact h2.lt y hy
theorem ORow.chg {K : Kd α} {w w' : World} {G : List Nat} (hc : Chg G w w') : ∀ {xs : List α} {c c' : Nat → Option Value} {F : List Nat}, K.ORow w xs c F → (∀ y ∈ F, y ∉ G) → (∀ i, i < xs.length * K.sz → c' i = c i) → K.ORow w' xs c' F
  | [], _, _, _, h, _, _ => h
  | x :: xs, c, c', F, h, hd, hcc => by
    obtain ⟨cs, F1, F2, rfl, hdj, h0, h1, h2⟩ := h
    have hl := K.rd_len (K.ow_rd h1)
    refine ⟨cs, F1, F2, rfl, hdj, fun j u hu => ?_, K.ow_chg h1 hc (fun y hy => hd y (List.mem_append_left _ hy)), h2.chg hc (fun y hy => hd y (List.mem_append_right _ hy)) fun i hi => hcc (i + K.sz) ?_⟩
    · have : j < cs.length := (List.getElem?_eq_some_iff.1 hu).1
      rw [hcc j (by rw [List.length_cons, Nat.add_mul]; omega)]
      exact h0 j u hu
    · rw [List.length_cons, Nat.add_mul]; omega
/-- An element of a row. -/
theorem ORow.get {K : Kd α} {w : World} : ∀ {xs : List α} {c : Nat → Option Value} {F : List Nat}, K.ORow w xs c F → ∀ (k : Nat) (hk : k < xs.length), ∃ cs F1, (∀ y ∈ F1, y ∈ F) ∧ (∀ j u, cs[j]? = some u → c (k * K.sz + j) = some u) ∧ K.ow w xs[k] cs F1
  | [], _, _, _, k, hk => by simp at hk
  | x :: xs, c, F, h, k, hk => by
    obtain ⟨cs, F1, F2, rfl, hdj, h0, h1, h2⟩ := h
    cases k with
    | zero => exact ⟨cs, F1, fun y hy => List.mem_append_left _ hy, fun j u hu => by rw [Nat.zero_mul, Nat.zero_add]; exact h0 j u hu, h1⟩
    | succ k =>
      obtain ⟨cs', F', g1, g2, g3⟩ := h2.get k (by simpa using hk)
      refine ⟨cs', F', fun y hy => List.mem_append_right _ (g1 y hy), fun j u hu => ?_, by simpa using g3⟩
      have := g2 j u hu
      rw [show (k + 1) * K.sz + j = k * K.sz + j + K.sz by rw [Nat.add_mul]; omega]
      exact this
theorem orow_app {K : Kd α} {w : World} : ∀ {xs ys : List α} {c : Nat → Option Value} {F : List Nat}, K.ORow w (xs ++ ys) c F ↔ ∃ F1 F2, F = F1 ++ F2 ∧ (∀ y ∈ F1, y ∉ F2) ∧ K.ORow w xs c F1 ∧ K.ORow w ys (fun i => c (i + xs.length * K.sz)) F2
  | [], ys, c, F => by
    constructor
    · intro h; exact ⟨[], F, rfl, by simp, rfl, by simpa using h⟩
    · rintro ⟨F1, F2, rfl, _, rfl, h⟩; simpa using h
  | x :: xs, ys, c, F => by
    have e : ∀ i, i + (xs.length + 1) * K.sz = i + xs.length * K.sz + K.sz := fun i => by rw [Nat.add_mul]; omega
    constructor
    · rintro ⟨cs, F1, F2, rfl, hdj, h0, h1, h2⟩
      obtain ⟨F3, F4, rfl, hd2, h3, h4⟩ := orow_app.1 h2
      refine ⟨F1 ++ F3, F4, by simp, fun y hy => ?_, ⟨cs, F1, F3, rfl, fun y hy hm => hdj y hy (List.mem_append_left _ hm), h0, h1, h3⟩, ?_⟩
      · rcases List.mem_append.1 hy with hy | hy
        · exact fun hm => hdj y hy (List.mem_append_right _ hm)
        · exact hd2 y hy
      · simpa only [List.length_cons, e] using h4
    · rintro ⟨F1, F4, rfl, hdj, ⟨cs, F2, F3, rfl, hd2, h0, h1, h2⟩, h4⟩
      refine ⟨cs, F2, F3 ++ F4, by simp, fun y hy hm => ?_, h0, h1, orow_app.2 ⟨F3, F4, rfl, fun y hy hm => hdj y (List.mem_append_right _ hy) hm, h2, by simpa only [List.length_cons, e] using h4⟩⟩
      rcases List.mem_append.1 hm with hm | hm
      · exact hd2 y hy hm
      · exact hdj y (List.mem_append_left _ hy) hm

theorem Ow.rd {K : Kd α} {w : World} {v : Value} {xs : List α} {F : List Nat} (h : K.Ow w v xs F) : K.Rd w.heap.size w v xs := by
  obtain ⟨p, cap, h1, h2, h3, h4⟩ := h
  refine ⟨p, cap, h1, h2, h3, fun i hi => ?_⟩
  rcases h4 with ⟨rfl, _⟩ | ⟨b, off, F', e, rfl, hn, hlt, hf, ho⟩
  · simp at hi
  · obtain ⟨cs, F1, g1, g2, g3⟩ := ho.get i hi
    exact ⟨b, off, cs, e, hlt, fun j u hu => by rw [Nat.add_assoc]; exact g2 j u hu, K.ow_rd g3⟩
theorem Ow.lt {K : Kd α} {w : World} {v : Value} {xs : List α} {F : List Nat} (h : K.Ow w v xs F) : ∀ y ∈ F, y < w.heap.size := by
  obtain ⟨p, cap, h1, h2, h3, h4⟩ := h
  rcases h4 with ⟨_, rfl⟩ | ⟨b, off, F', e, rfl, hn, hlt, hf, ho⟩
  · simp
  · intro y hy
    rcases List.mem_cons.1 hy with rfl | hy
    · exact hlt
    · exact ho.lt y hy
theorem Ow.chg {K : Kd α} {w w' : World} {v : Value} {xs : List α} {F G : List Nat} (h : K.Ow w v xs F) (hc : Chg G w w') (hd : ∀ y ∈ F, y ∉ G) : K.Ow w' v xs F := by
  obtain ⟨p, cap, h1, h2, h3, h4⟩ := h
  refine ⟨p, cap, h1, h2, h3, ?_⟩
  rcases h4 with h4 | ⟨b, off, F', e, rfl, hn, hlt, hf, ho⟩
  · exact .inl h4
  · have hb : b ∉ G := hd b (by simp)
    have hbl := hc.block b hlt hb
    refine .inr ⟨b, off, F', e, rfl, hn, Nat.lt_of_lt_of_le hlt hc.size, fun o => ?_, ho.chg hc (fun y hy => hd y (List.mem_cons_of_mem _ hy)) fun i _ => ?_⟩
    · exact (World.frozen?_of_block (w := w) (a := ⟨b, o, none⟩) hbl).trans (hf o)
    · exact World.cell?_of_block (w := w) (a := ⟨b, off + i, none⟩) hbl
theorem Ow.form {K : Kd α} {w : World} {v : Value} {xs : List α} {F : List Nat} (h : K.Ow w v xs F) : ∃ p cap, v = .slice p xs.length cap := by
  obtain ⟨p, cap, h1, _⟩ := h; exact ⟨p, cap, h1⟩
theorem Ow.below {K : Kd α} {w w' : World} {v : Value} {xs : List α} {F : List Nat} (h : K.Ow w v xs F) (hb : Below w.heap.size w w') : K.Ow w' v xs F := h.chg (Chg.of_below hb []) (by simp)

/-- A row as a part of an element: one cell. -/
def row (K : Kd α) : Kd (List α) where
  sz := 1
  rd B w xs cs := ∃ v, cs = [v] ∧ K.Rd B w v xs
  ow w xs cs F := ∃ v, cs = [v] ∧ K.Ow w v xs F
  rd_len := by rintro _ _ _ _ ⟨v, rfl, _⟩; rfl
  rd_to := by rintro _ _ _ _ _ _ ⟨v, rfl, h⟩ hb hB; exact ⟨v, rfl, h.to hb hB⟩
  ow_rd := by rintro _ _ _ _ ⟨v, rfl, h⟩; exact ⟨v, rfl, h.rd⟩
  ow_chg := by rintro _ _ _ _ _ _ ⟨v, rfl, h⟩ hc hd; exact ⟨v, rfl, h.chg hc hd⟩
  ow_lt := by rintro _ _ _ _ ⟨v, rfl, h⟩; exact h.lt
/-- A value without anything behind it: one cell. -/
def one (f : α → Value) : Kd α where
  sz := 1
  rd _ _ x cs := cs = [f x]
  ow _ x cs F := cs = [f x] ∧ F = []
  rd_len := by rintro _ _ _ _ rfl; rfl
  rd_to := by intro _ _ _ _ _ _ h _ _; exact h
  ow_rd := by rintro _ _ _ _ ⟨h, _⟩; exact h
  ow_chg := by intro _ _ _ _ _ _ h _ _; exact h
  ow_lt := by rintro _ _ _ _ ⟨_, rfl⟩; simp
/-- Two kinds one behind the other. -/
def and (K : Kd α) (L : Kd β) : Kd (α × β) where
  sz := K.sz + L.sz
  rd B w x cs := ∃ c d, cs = c ++ d ∧ K.rd B w x.1 c ∧ L.rd B w x.2 d
  ow w x cs F := ∃ c d F1 F2, cs = c ++ d ∧ F = F1 ++ F2 ∧ (∀ y ∈ F1, y ∉ F2) ∧ K.ow w x.1 c F1 ∧ L.ow w x.2 d F2
  rd_len := by rintro _ _ _ _ ⟨c, d, rfl, h1, h2⟩; rw [List.length_append, K.rd_len h1, L.rd_len h2]
  rd_to := by rintro _ _ _ _ _ _ ⟨c, d, rfl, h1, h2⟩ hb hB; exact ⟨c, d, rfl, K.rd_to h1 hb hB, L.rd_to h2 hb hB⟩
  ow_rd := by rintro _ _ _ _ ⟨c, d, _, _, rfl, rfl, _, h1, h2⟩; exact ⟨c, d, rfl, K.ow_rd h1, L.ow_rd h2⟩
  ow_chg := by
    rintro _ _ _ _ _ _ ⟨c, d, F1, F2, rfl, rfl, hdj, h1, h2⟩ hc hd
    exact ⟨c, d, F1, F2, rfl, rfl, hdj, K.ow_chg h1 hc (fun y hy => hd y (List.mem_append_left _ hy)), L.ow_chg h2 hc (fun y hy => hd y (List.mem_append_right _ hy))⟩
  ow_lt := by
    rintro _ _ _ _ ⟨c, d, F1, F2, rfl, rfl, _, h1, h2⟩ y hy
    rcases List.mem_append.1 hy with hy | hy
    · exact K.ow_lt h1 y hy
    · exact L.ow_lt h2 y hy
/-- The same kind, of other data. -/
def via (K : Kd α) (f : β → α) : Kd β where
  sz := K.sz
  rd B w x cs := K.rd B w (f x) cs
  ow w x cs F := K.ow w (f x) cs F
  rd_len := K.rd_len
  rd_to := K.rd_to
  ow_rd := K.ow_rd
  ow_chg := K.ow_chg
  ow_lt := K.ow_lt
end Kd
def kInt : Kd Int := Kd.one (.int .i64 ·)
def kStr : Kd ByteArray := Kd.one (.string ·)
def kBool : Kd Bool := Kd.one (.bool ·)
/-- Lists of ints: as they were. -/
theorem kInt_rd {B : Nat} {w : World} {v : Value} {xs : List Int} : kInt.Rd B w v xs ↔ Sl 1 intCells B w v xs := by
  constructor
  · rintro ⟨p, cap, h1, h2, h3, h4⟩
    refine ⟨p, _, cap, h1, rfl, h2, h3, fun i hi => ?_⟩
    obtain ⟨b, off, cs, e, hl, hc, rfl⟩ := h4 i hi
    exact ⟨b, off, e, hl, hc⟩
  · rintro ⟨p, len, cap, h1, rfl, h2, h3, h4⟩
    refine ⟨p, cap, h1, h2, h3, fun i hi => ?_⟩
    obtain ⟨b, off, e, hl, hc⟩ := h4 i hi
    exact ⟨b, off, _, e, hl, hc, rfl⟩
theorem kInt_orow {w : World} : ∀ {xs : List Int} {c : Nat → Option Value} {F : List Nat}, kInt.ORow w xs c F ↔ F = [] ∧ ∀ i (h : i < xs.length), c i = some (.int .i64 xs[i])
  | [], c, F => by
    constructor
    · intro h; exact ⟨h, fun i hi => by simp at hi⟩
    · intro h; exact h.1
  | x :: xs, c, F => by
    constructor
    · rintro ⟨cs, F1, F2, rfl, _, h0, ⟨rfl, rfl⟩, h2⟩
      obtain ⟨rfl, h3⟩ := kInt_orow.1 h2
      refine ⟨rfl, fun i hi => ?_⟩
      cases i with
      | zero => exact h0 0 _ rfl
      | succ i => exact h3 i (by simpa using hi)
    · rintro ⟨rfl, h⟩
      refine ⟨[.int .i64 x], [], [], rfl, by simp, fun j u hu => ?_, ⟨rfl, rfl⟩, kInt_orow.2 ⟨rfl, fun i hi => ?_⟩⟩
      · cases j with
        | zero => simp at hu; subst hu; exact h 0 (by simp)
        | succ j => simp at hu
      · exact h (i + 1) (by simpa using hi)
theorem kInt_ow {w : World} {v : Value} {xs : List Int} {F : List Nat} : kInt.Ow w v xs F ↔ OwnSl 1 intCells w v xs F := by
  constructor
  · rintro ⟨p, cap, h1, h2, h3, h4⟩
    refine ⟨p, _, cap, h1, rfl, h2, h3, ?_⟩
    rcases h4 with ⟨rfl, rfl⟩ | ⟨b, off, F', e, rfl, hn, hlt, hf, ho⟩
    · exact .inl ⟨rfl, rfl⟩
    · obtain ⟨rfl, h5⟩ := kInt_orow.1 ho
      refine .inr ⟨b, off, e, rfl, hlt, hf, fun i hi j x hx => ?_⟩
      cases j with
      | zero => simp [intCells] at hx; subst hx; simpa using h5 i hi
      | succ j => simp [intCells] at hx
  · rintro ⟨p, len, cap, h1, rfl, h2, h3, h4⟩
    refine ⟨p, cap, h1, h2, h3, ?_⟩
    rcases h4 with ⟨rfl, rfl⟩ | ⟨b, off, e, rfl, hlt, hf, h5⟩
    · exact .inl ⟨rfl, rfl⟩
    · refine .inr ⟨b, off, [], e, rfl, by simp, hlt, hf, kInt_orow.2 ⟨rfl, fun i hi => ?_⟩⟩
      have := h5 i hi 0 _ rfl
      simpa using this
end Go.Proofs.Ytfdkmngkpihpbaa
