/- Lemmas on the data and the memory of this program's values: several texts in one. -/
import Derived.Test.YtfdkmngkpihpbaaProg
import Derived.WalkKit
import Derived.BigQuiet
import Derived.Deep.QuietTactic
import Derived.KernelRfl
import Derived.Lib.Hide
import Derived.StillTailTactics
import Derived.Deep.RegionHeld3
import Derived.Deep.DeepCutAuto
import Derived.Laws.EntriesVeiled
namespace Go.Proofs.Ytfdkmngkpihpbaa
open Go.RowKit

def isL (c : UInt8) : Bool := decide (97 ≤ c.toNat) && decide (c.toNat ≤ 122)
def cl : List UInt8 → Nat
  | [] => 0
  | c :: r => if isL c then cl r + 1 else 0
def lvL (l : List UInt8) : Bool := decide (1 ≤ l.length) && decide (l.length ≤ 6) && l.all isL
def lv (s : ByteArray) : Bool := lvL s.data.toList
/-- The first k bytes are letters. -/
def AllL (s : ByteArray) (k : Nat) : Prop := (s.data.toList.take k).all isL = true

theorem cl_le : ∀ l : List UInt8, cl l ≤ l.length
  | [] => Nat.le_refl _
  | c :: r => by unfold cl; have := cl_le r; split <;> simp <;> omega
theorem cl_all : ∀ l : List UInt8, (cl l = l.length) ↔ l.all isL = true
  | [] => by simp [cl]
  | c :: r => by
    unfold cl; have h := cl_all r; have h2 := cl_le r
    by_cases hc : isL c = true
    · simp [hc, ← h]
    · simp [hc]
theorem cl_stop : ∀ (l : List UInt8) (k : Nat) (h : k < l.length), (l.take k).all isL = true → isL l[k] = false → cl l = k
  | [], k, h, _, _ => by simp at h
  | c :: r, 0, h, _, h2 => by simp at h2; simp [cl, h2]
  | c :: r, k + 1, h, h1, h2 => by
    simp at h1 h2 h
    unfold cl; rw [if_pos h1.1, cl_stop r k h (by simpa using h1.2) h2]
theorem AllL.zero (s : ByteArray) : AllL s 0 := rfl
theorem AllL.succ {s : ByteArray} {k : Nat} (h : AllL s k) (hk : k < s.size) (hc : isL s[k] = true) : AllL s (k + 1) := by
  unfold AllL at *
  rw [List.take_succ_eq_append_getElem (by simpa using hk), List.all_append, h]
  simp only [List.all_cons, List.all_nil, Bool.and_true, Bool.true_and]; exact hc
theorem AllL.stop {s : ByteArray} {k : Nat} (h : AllL s k) (hk : k < s.size) (hc : isL s[k] = false) : cl s.data.toList = k :=
  cl_stop _ k (by simpa using hk) h hc
theorem AllL.full {s : ByteArray} (h : AllL s s.size) : s.data.toList.all isL = true := by
  unfold AllL at h; rwa [List.take_of_length_le (Nat.le_of_eq (by rfl))] at h
theorem isL_no1 {c : UInt8} (h : (c.toNat : Int) < 97) : isL c = false := by
  unfold isL; rw [decide_eq_false (by omega)]; rfl
theorem isL_no2 {c : UInt8} (h : (122 : Int) < c.toNat) : isL c = false := by
  unfold isL; rw [decide_eq_false (p := c.toNat ≤ 122) (by omega), Bool.and_false]
theorem isL_yes {c : UInt8} (h : (97 : Int) ≤ c.toNat) (h2 : (c.toNat : Int) ≤ 122) : isL c = true := by
  unfold isL; rw [decide_eq_true (by omega), decide_eq_true (by omega)]; rfl
theorem ret_int {k : IntKind} {a b : Int} (h : a = b) : Ending.returned (.int k a) = .returned (.int k b) := by rw [h]
theorem ret_bool {a b : Bool} (h : a = b) : Ending.returned (.bool a) = .returned (.bool b) := by rw [h]

set_option maxHeartbeats 400000 in
/-- impl.countLetters -/
theorem countLetters_any (s : ByteArray) (w : World) (hs : s.size ≤ maxLen) :
    Calls Try.prog 116 #[.string s] w fun e w' => e = .returned (.int .i64 (cl s.data.toList)) ∧ w = w' := by
  unfold maxLen at hs
  go_enter Try.func116, Try.ntmps116
  go_wp2
  go_loop [6] (fun i => ∃ k : Nat, k ≤ s.size ∧ i = .int .i64 k ∧ AllL s k) (fun i => s.size - (intOf i).toNat)
  case atStart => exact ⟨0, Nat.zero_le _, rfl, AllL.zero s⟩
  case round =>
    obtain ⟨k, hk, rfl, ha⟩ := hrel
    by_cases hlt : k < s.size
    · by_cases h1 : (s[k].toNat : Int) < 97
      · have hf := Lib.hid (ha.stop hlt (isL_no1 h1))
        go_wp2
        go_ret
        exact ⟨ret_int (by rw [hf.out]), rfl⟩
      · by_cases h2 : (122 : Int) < s[k].toNat
        · have hf := Lib.hid (ha.stop hlt (isL_no2 h2))
          go_wp2
          go_ret
          exact ⟨ret_int (by rw [hf.out]), rfl⟩
        · have hf := ha.succ hlt (isL_yes (by omega) (by omega))
          go_wp2
          go_round
          case rel => exact ⟨k + 1, by omega, by go_num, hf⟩
          case measure => simp [intOf]; omega
    · obtain rfl : k = s.size := by omega
      have hf := Lib.hid ((cl_all _).2 ha.full)
      go_wp2
      go_ret
      exact ⟨ret_int (by rw [hf.out]; rfl), rfl⟩

theorem lv_short {s : ByteArray} (h : s.size = 0) : lv s = false := by
  unfold lv lvL; rw [decide_eq_false (p := 1 ≤ _) (by have : s.data.toList.length = s.size := rfl; omega)]; rfl
theorem lv_long {s : ByteArray} (h : 6 < s.size) : lv s = false := by
  unfold lv lvL; rw [decide_eq_false (p := _ ≤ 6) (by have : s.data.toList.length = s.size := rfl; omega)]; simp
theorem lv_mid {s : ByteArray} (h0 : 1 ≤ s.size) (h : s.size ≤ 6) : lv s = s.data.toList.all isL := by
  have e : s.data.toList.length = s.size := rfl
  unfold lv lvL; rw [decide_eq_true (p := 1 ≤ _) (by omega), decide_eq_true (p := _ ≤ 6) (by omega)]; rfl
theorem cl_beq {s : ByteArray} : ((cl s.data.toList : Int) == (s.size : Int)) = s.data.toList.all isL := by
  have e : s.data.toList.length = s.size := rfl
  have h := cl_all s.data.toList
  rw [Bool.eq_iff_iff, ← h]; simp; omega
theorem lv_bad {s : ByteArray} {k : Nat} (h : k < s.size) (hc : isL s[k] = false) : lv s = false := by
  have : s.data.toList.all isL = false := by
    rw [List.all_eq_false]
    refine ⟨s[k], ?_, by rw [hc]; simp⟩
    exact List.getElem_mem (l := s.data.toList) h
  unfold lv lvL; rw [this]; simp
theorem str_empty {s : ByteArray} (h : s.size = 0) : s.toList = [] := by rw [ByteArray.toList_eq]; exact List.eq_nil_of_length_eq_zero h
theorem str_nonempty {s : ByteArray} (h : 0 < s.size) : ¬ s.toList = [] := by
  rw [ByteArray.toList_eq]
  have e : s.data.toList.length = s.size := rfl
  intro hl; rw [hl] at e; simp at e; omega
theorem str_nonempty' {s : ByteArray} (h : 0 < s.size) : (!s.toList.isEmpty) = true := by
  have := str_nonempty h
  cases hl : s.toList with
  | nil => exact absurd hl this
  | cons => rfl

set_option maxHeartbeats 400000 in
/-- impl.LabelValid -/
theorem labelValid_any (s : ByteArray) (w : World) (hs : s.size ≤ maxLen) :
    Calls Try.prog 96 #[.string s] w fun e w' => e = .returned (.bool (lv s)) ∧ w = w' := by
  have hs' := hs
  unfold maxLen at hs'
  by_cases h6 : s.size ≤ 6
  · by_cases h0 : s.size = 0
    · have e1 := Lib.hid (lv_short h0)
      have e2 := str_empty h0
      clear h0
      go_enter Try.func96, Try.ntmps96
      go_wp2_with (go_at_call 116; refine (countLetters_any _ _ hs).mono ?_; rintro e w' ⟨rfl, rfl⟩)
      go_ret
      exact ⟨ret_bool (by rw [e1.out]), rfl⟩
    · have e1 := Lib.hid ((lv_mid (by omega) h6).trans cl_beq.symm)
      have e2 := str_nonempty (s := s) (by omega)
      have e3 := str_nonempty' (s := s) (by omega)
      clear h0
      go_enter Try.func96, Try.ntmps96
      go_wp2_with (go_at_call 116; refine (countLetters_any _ _ hs).mono ?_; rintro e w' ⟨rfl, rfl⟩)
      go_ret
      exact ⟨ret_bool (by rw [e1.out]), rfl⟩
  · have e1 := Lib.hid (lv_long (s := s) (by omega))
    go_enter Try.func96, Try.ntmps96
    go_wp2_with (go_at_call 116; refine (countLetters_any _ _ hs).mono ?_; rintro e w' ⟨rfl, rfl⟩)
    go_ret
    exact ⟨ret_bool (by rw [e1.out]), rfl⟩

set_option maxHeartbeats 400000 in
/-- spec.LabelValid -/
theorem specLabelValid_any (s : ByteArray) (w : World) (hs : s.size ≤ maxLen) :
    Calls Try.prog 99 #[.string s] w fun e w' => e = .returned (.bool (lv s)) ∧ w = w' := by
  unfold maxLen at hs
  go_enter Try.func99, Try.ntmps99
  go_wp2
  go_loop [3] (fun i => ∃ k : Nat, k ≤ s.size ∧ k ≤ 7 ∧ i = .int .i64 k ∧ AllL s k) (fun i => s.size - (intOf i).toNat)
  case atStart => exact ⟨0, Nat.zero_le _, by omega, rfl, AllL.zero s⟩
  case round =>
    obtain ⟨k, hk, hk7, rfl, ha⟩ := hrel
    by_cases hlt : k < s.size
    · by_cases h7 : k ≤ 6
      · by_cases h1 : (s[k].toNat : Int) < 97
        · have hf := Lib.hid (lv_bad hlt (isL_no1 h1))
          go_wp2
          go_ret
          exact ⟨ret_bool (by rw [hf.out]; first | done | (simp; omega)), rfl⟩
        · by_cases h2 : (122 : Int) < s[k].toNat
          · have hf := Lib.hid (lv_bad hlt (isL_no2 h2))
            go_wp2
            go_ret
            exact ⟨ret_bool (by rw [hf.out]; first | done | (simp; omega)), rfl⟩
          · have hf := ha.succ hlt (isL_yes (by omega) (by omega))
            go_wp2
            go_round
            case rel => exact ⟨k + 1, by omega, by omega, by go_num, hf⟩
            case measure => simp [intOf]; omega
      · have hf := Lib.hid (lv_long (s := s) (by omega))
        go_wp2
        go_ret
        exact ⟨ret_bool (by rw [hf.out]; first | done | (simp; omega)), rfl⟩
    · obtain rfl : k = s.size := by omega
      by_cases h0 : s.size = 0
      · have hf := Lib.hid (lv_short (s := s) h0)
        have h0' : s.size < 1 := by omega
        clear h0
        go_wp2
        go_ret
        exact ⟨ret_bool (by rw [hf.out]; first | done | (simp; omega)), rfl⟩
      · by_cases h6 : s.size ≤ 6
        · have hf := Lib.hid ((lv_mid (s := s) (by omega) h6).trans ha.full)
          go_wp2
          go_ret
          exact ⟨ret_bool (by rw [hf.out]; first | done | (simp; omega)), rfl⟩
        · have hf := Lib.hid (lv_long (s := s) (by omega))
          go_wp2
          go_ret
          exact ⟨ret_bool (by rw [hf.out]; first | done | (simp; omega)), rfl⟩
end Go.Proofs.Ytfdkmngkpihpbaa
namespace Go.Proofs.Ytfdkmngkpihpbaa
open Go.RowKit

/-- v is a slice that holds xs, an element in sz cells, whose values enc gives; all of it in blocks below B. -/
def Sl {α : Type} (sz : Nat) (enc : α → List Value) (B : Nat) (w : World) (v : Value) (xs : List α) : Prop :=
  ∃ (p : Option Addr) (len cap : Nat), v = .slice p len cap ∧ len = xs.length ∧ len ≤ cap ∧ cap ≤ maxLen ∧
    ∀ (i : Nat) (h : i < xs.length), ∃ b off, p = some ⟨b, off, none⟩ ∧ b < B ∧ ∀ j x, (enc xs[i])[j]? = some x → w.cell? ⟨b, off + i * sz + j, none⟩ = some x

theorem Sl.below {α : Type} {sz : Nat} {enc : α → List Value} {B : Nat} {w w' : World} {v : Value} {xs : List α} (h : Sl sz enc B w v xs) (hb : Below B w w') : Sl sz enc B w' v xs := by
  obtain ⟨p, len, cap, h1, h2, h3, h4, h5⟩ := h
  refine ⟨p, len, cap, h1, h2, h3, h4, fun i hi => ?_⟩
  obtain ⟨b, off, e1, e2, e3⟩ := h5 i hi
  exact ⟨b, off, e1, e2, fun j x hx => (hb.cell (p := ⟨b, _, none⟩) e2).trans (e3 j x hx)⟩
theorem Sl.mono {α : Type} {sz : Nat} {enc : α → List Value} {B B' : Nat} {w : World} {v : Value} {xs : List α} (h : Sl sz enc B w v xs) (hB : B ≤ B') : Sl sz enc B' w v xs := by
  obtain ⟨p, len, cap, h1, h2, h3, h4, h5⟩ := h
  refine ⟨p, len, cap, h1, h2, h3, h4, fun i hi => ?_⟩
  obtain ⟨b, off, e1, e2, e3⟩ := h5 i hi
  exact ⟨b, off, e1, by omega, e3⟩

/-- A block that a call made, after other calls. -/
theorem new_cell {w w1 : World} {c : Array Value} {T : TypeId} (hb : Below (w.alloc (.cells c T)).heap.size (w.alloc (.cells c T)) w1) {j : Nat} {x : Value} (hj : c[j]? = some x) :
    w1.cell? ⟨w.heap.size, j, none⟩ = some x := by
  exact (hb.cell (by simp)).trans ((World.cell?_alloc_at c T _ j rfl).trans hj)
theorem keepc {B b o : Nat} {w w' : World} {x : Value} (hb : Below B w w') (h : b < B) (hc : w.cell? ⟨b, o, none⟩ = some x) : w'.cell? ⟨b, o, none⟩ = some x := (hb.cell (p := ⟨b, o, none⟩) h).trans hc
theorem below_past {w w1 : World} {o : Obj} (hb : Below (w.alloc o).heap.size (w.alloc o) w1) : Below w.heap.size w w1 :=
  ((Below.refl _ w).alloc (Nat.le_refl _) o).trans (hb.mono (by simp))

/-- One boxed pair, two boxed pairs: their cells, in every later world. -/
theorem one_box {w wk : World} {x0 x1 : Value} {T : TypeId} (h : Below (w.heap.size + 1) (w.alloc (.cells #[x0, x1] T)) wk) :
    w.heap.size + 1 ≤ wk.heap.size ∧ wk.cell? ⟨w.heap.size, 0, none⟩ = some x0 ∧ wk.cell? ⟨w.heap.size, 1, none⟩ = some x1 :=
  ⟨by have := h.size; simp at this; omega, keepc h (by omega) (by simp [go_sem]), keepc h (by omega) (by simp [go_sem])⟩
theorem two_boxes {w wk : World} {x0 x1 y0 y1 : Value} {T T' : TypeId} (h : Below (w.heap.size + 2) ((w.alloc (.cells #[x0, x1] T)).alloc (.cells #[y0, y1] T')) wk) :
    w.heap.size + 2 ≤ wk.heap.size ∧ wk.cell? ⟨w.heap.size, 0, none⟩ = some x0 ∧ wk.cell? ⟨w.heap.size, 1, none⟩ = some x1 ∧ wk.cell? ⟨w.heap.size + 1, 0, none⟩ = some y0 ∧ wk.cell? ⟨w.heap.size + 1, 1, none⟩ = some y1 :=
  ⟨by have := h.size; simp at this; omega, keepc h (by omega) (by simp [go_sem]), keepc h (by omega) (by simp [go_sem]), keepc h (by omega) (by simp [go_sem]), keepc h (by omega) (by simp [go_sem])⟩

structure Nd where
  l : ByteArray
  n : Int
structure Ed where
  f : Int
  t : Int
  l : ByteArray
  n : Int
structure Gr where
  ns : List Nd
  es : List Ed
def Nd.cells (x : Nd) : List Value := [.string x.l, .int .i64 x.n]
def Ed.cells (x : Ed) : List Value := [.int .i64 x.f, .int .i64 x.t, .string x.l, .int .i64 x.n]
def I64 (n : Int) : Prop := -9223372036854775808 ≤ n ∧ n ≤ 9223372036854775807
def Nd.Ok (x : Nd) : Prop := x.l.size ≤ maxLen ∧ I64 x.n
def Ed.Ok (x : Ed) : Prop := I64 x.f ∧ I64 x.t ∧ x.l.size ≤ maxLen ∧ I64 x.n
def Gr.Ok (g : Gr) : Prop := (∀ x ∈ g.ns, x.Ok) ∧ (∀ x ∈ g.es, x.Ok)
/-- The value of a struct Graph whose two slices lie below B. -/
def Gr.At (g : Gr) (B : Nat) (w : World) (v : Value) : Prop := ∃ a b, v = .agg #[a, b] ∧ Sl 2 Nd.cells B w a g.ns ∧ Sl 4 Ed.cells B w b g.es
theorem Gr.At.below {g : Gr} {B : Nat} {w w' : World} {v : Value} (h : g.At B w v) (hb : Below B w w') : g.At B w' v := by
  obtain ⟨a, b, h1, h2, h3⟩ := h
  exact ⟨a, b, h1, h2.below hb, h3.below hb⟩
theorem Gr.At.mono {g : Gr} {B B' : Nat} {w : World} {v : Value} (h : g.At B w v) (hb : B ≤ B') : g.At B' w v := by
  obtain ⟨a, b, h1, h2, h3⟩ := h
  exact ⟨a, b, h1, h2.mono hb, h3.mono hb⟩

/-- An element's cells, at an index. -/
theorem Sl.nd {B : Nat} {w : World} {p : Option Addr} {len cap : Nat} {xs : List Nd} (h : Sl 2 Nd.cells B w (.slice p len cap) xs) {k : Nat} (hk : k < xs.length) :
    ∃ b off, p = some ⟨b, off, none⟩ ∧ b < B ∧ w.cell? ⟨b, off + k * 2, none⟩ = some (.string xs[k].l) ∧ w.cell? ⟨b, off + k * 2 + 1, none⟩ = some (.int .i64 xs[k].n) := by
  obtain ⟨p', len', cap', h1, h2, h3, h4, h5⟩ := h
  cases h1
  obtain ⟨b, off, e1, e2, e3⟩ := h5 k hk
  exact ⟨b, off, e1, e2, e3 0 _ rfl, e3 1 _ rfl⟩
theorem Sl.ed {B : Nat} {w : World} {p : Option Addr} {len cap : Nat} {xs : List Ed} (h : Sl 4 Ed.cells B w (.slice p len cap) xs) {k : Nat} (hk : k < xs.length) :
    ∃ b off, p = some ⟨b, off, none⟩ ∧ b < B ∧ w.cell? ⟨b, off + k * 4, none⟩ = some (.int .i64 xs[k].f) ∧ w.cell? ⟨b, off + k * 4 + 1, none⟩ = some (.int .i64 xs[k].t) ∧
      w.cell? ⟨b, off + k * 4 + 2, none⟩ = some (.string xs[k].l) ∧ w.cell? ⟨b, off + k * 4 + 3, none⟩ = some (.int .i64 xs[k].n) := by
  obtain ⟨p', len', cap', h1, h2, h3, h4, h5⟩ := h
  cases h1
  obtain ⟨b, off, e1, e2, e3⟩ := h5 k hk
  exact ⟨b, off, e1, e2, e3 0 _ rfl, e3 1 _ rfl, e3 2 _ rfl, e3 3 _ rfl⟩
theorem Sl.len {α : Type} {sz : Nat} {enc : α → List Value} {B : Nat} {w : World} {p : Option Addr} {len cap : Nat} {xs : List α} (h : Sl sz enc B w (.slice p len cap) xs) : len = xs.length := by
  obtain ⟨p', len', cap', h1, h2, h3, h4, h5⟩ := h
  cases h1; exact h2
theorem Sl.max {α : Type} {sz : Nat} {enc : α → List Value} {B : Nat} {w : World} {p : Option Addr} {len cap : Nat} {xs : List α} (h : Sl sz enc B w (.slice p len cap) xs) : len ≤ cap ∧ cap ≤ maxLen := by
  obtain ⟨p', len', cap', h1, h2, h3, h4, h5⟩ := h
  cases h1; exact ⟨h3, h4⟩
theorem Sl.form {α : Type} {sz : Nat} {enc : α → List Value} {B : Nat} {w : World} {v : Value} {xs : List α} (h : Sl sz enc B w v xs) : ∃ p cap, v = .slice p xs.length cap := by
  obtain ⟨p', len', cap', h1, h2, h3, h4, h5⟩ := h
  subst h2; exact ⟨_, _, h1⟩
end Go.Proofs.Ytfdkmngkpihpbaa
namespace Go.Proofs.Ytfdkmngkpihpbaa
open Go.RowKit

def pv (s : ByteArray) (n : Int) : Bool := (decide (s.size = 0) || lv s) && (decide (0 ≤ n) && decide (n ≤ 99))
def hn (k : Nat) (n : Int) : Bool := decide (0 ≤ n) && decide (n < k)
def ndV (x : Nd) : Bool := pv x.l x.n
def edV (k : Nat) (e : Ed) : Bool := hn k e.f && (hn k e.t && pv e.l e.n)
def gv (g : Gr) : Bool := (decide (1 ≤ g.ns.length) && (decide (g.ns.length ≤ 8) && decide (g.es.length ≤ 14))) && (g.ns.all ndV && g.es.all (edV g.ns.length))

theorem pv_neg {s : ByteArray} {n : Int} (h : n < 0) : pv s n = false := by unfold pv; rw [decide_eq_false (p := 0 ≤ n) (by omega)]; simp
theorem pv_big {s : ByteArray} {n : Int} (h : 99 < n) : pv s n = false := by unfold pv; rw [decide_eq_false (p := n ≤ 99) (by omega)]; simp
theorem pv_empty {s : ByteArray} {n : Int} (hs : s.size = 0) (h : 0 ≤ n) (h' : n ≤ 99) : pv s n = true := by unfold pv; rw [decide_eq_true hs, decide_eq_true h, decide_eq_true h']; rfl
theorem pv_lv {s : ByteArray} {n : Int} (hs : 0 < s.size) (h : 0 ≤ n) (h' : n ≤ 99) : pv s n = lv s := by unfold pv; rw [decide_eq_false (p := s.size = 0) (by omega), decide_eq_true h, decide_eq_true h']; simp
theorem str_empty' {s : ByteArray} (h : s.size = 0) : s.toList.isEmpty = true := by rw [str_empty h]; rfl
theorem str_nonempty'' {s : ByteArray} (h : 0 < s.size) : s.toList.isEmpty = false := by
  have := str_nonempty' h
  revert this; cases s.toList.isEmpty <;> simp

/-- The first k elements answer yes. -/
def AllP {α : Type} (f : α → Bool) (xs : List α) (k : Nat) : Prop := (xs.take k).all f = true
theorem AllP.zero {α : Type} (f : α → Bool) (xs : List α) : AllP f xs 0 := rfl
theorem AllP.succ {α : Type} {f : α → Bool} {xs : List α} {k : Nat} (h : AllP f xs k) (hk : k < xs.length) (hc : f xs[k] = true) : AllP f xs (k + 1) := by
  unfold AllP at *
  rw [List.take_succ_eq_append_getElem hk, List.all_append, h]
  simp only [List.all_cons, List.all_nil, Bool.and_true, Bool.true_and]; exact hc
theorem AllP.full {α : Type} {f : α → Bool} {xs : List α} (h : AllP f xs xs.length) : xs.all f = true := by
  unfold AllP at h; rwa [List.take_of_length_le (Nat.le_refl _)] at h
theorem all_bad {α : Type} {f : α → Bool} {xs : List α} {k : Nat} (hk : k < xs.length) (hc : f xs[k] = false) : xs.all f = false := by
  rw [List.all_eq_false]
  exact ⟨xs[k], List.getElem_mem hk, by rw [hc]; simp⟩
theorem gv_size {g : Gr} (h : ¬ (1 ≤ g.ns.length ∧ g.ns.length ≤ 8 ∧ g.es.length ≤ 14)) : gv g = false := by
  unfold gv
  by_cases a : 1 ≤ g.ns.length
  · by_cases b : g.ns.length ≤ 8
    · rw [decide_eq_false (p := g.es.length ≤ 14) (by omega)]; simp
    · rw [decide_eq_false (p := g.ns.length ≤ 8) b]; simp
  · rw [decide_eq_false (p := 1 ≤ g.ns.length) a]; simp
theorem gv_in {g : Gr} (h : 1 ≤ g.ns.length ∧ g.ns.length ≤ 8 ∧ g.es.length ≤ 14) : gv g = (g.ns.all ndV && g.es.all (edV g.ns.length)) := by
  unfold gv; rw [decide_eq_true h.1, decide_eq_true h.2.1, decide_eq_true h.2.2]; rfl

end Go.Proofs.Ytfdkmngkpihpbaa
namespace Go.Proofs.Ytfdkmngkpihpbaa
open Go.RowKit

/-- What a size function answers: -1, or what is left. -/
def SzPost (left need : Int) (B : Nat) (w : World) (e : Ending) (w' : World) : Prop := ∃ r : Int, e = .returned (.int .i64 r) ∧ (r = -1 ∨ (0 ≤ r ∧ r = left - need)) ∧ Below B w w'

def sumNode (xs : List Nd) : Nat := (xs.map fun x => x.l.size).sum
theorem sumNode_succ (xs : List Nd) (k : Nat) (h : k < xs.length) : sumNode (xs.take (k + 1)) = sumNode (xs.take k) + xs[k].l.size := by
  unfold sumNode; rw [List.take_succ_eq_append_getElem h, List.map_append, List.sum_append]; simp only [List.map_cons, List.map_nil, List.sum_cons, List.sum_nil, Nat.add_zero]
theorem sumNode_le (xs : List Nd) (k : Nat) : sumNode (xs.take k) ≤ sumNode xs := by
  unfold sumNode
  have := congrArg (fun l => (l.map fun x : Nd => x.l.size).sum) (List.take_append_drop k xs)
  simp only [List.map_append, List.sum_append] at this; omega

def sumEdge (xs : List Ed) : Nat := (xs.map fun x => x.l.size).sum
theorem sumEdge_succ (xs : List Ed) (k : Nat) (h : k < xs.length) : sumEdge (xs.take (k + 1)) = sumEdge (xs.take k) + xs[k].l.size := by
  unfold sumEdge; rw [List.take_succ_eq_append_getElem h, List.map_append, List.sum_append]; simp only [List.map_cons, List.map_nil, List.sum_cons, List.sum_nil, Nat.add_zero]
theorem sumEdge_le (xs : List Ed) (k : Nat) : sumEdge (xs.take k) ≤ sumEdge xs := by
  unfold sumEdge
  have := congrArg (fun l => (l.map fun x : Ed => x.l.size).sum) (List.take_append_drop k xs)
  simp only [List.map_append, List.sum_append] at this; omega

/-- A slice of flat elements in memory of the call's own: not frozen, in the blocks F. -/
def OwnSl {α : Type} (sz : Nat) (enc : α → List Value) (w : World) (v : Value) (xs : List α) (F : List Nat) : Prop :=
  ∃ (p : Option Addr) (len cap : Nat), v = .slice p len cap ∧ len = xs.length ∧ len ≤ cap ∧ cap ≤ maxLen ∧
    ((xs = [] ∧ F = []) ∨ ∃ b off, p = some ⟨b, off, none⟩ ∧ F = [b] ∧ b < w.heap.size ∧ (∀ o, w.frozen? ⟨b, o, none⟩ = false) ∧ ∀ (i : Nat) (h : i < xs.length) j x, (enc xs[i])[j]? = some x → w.cell? ⟨b, off + i * sz + j, none⟩ = some x)
theorem OwnSl.sl {α : Type} {sz : Nat} {enc : α → List Value} {w : World} {v : Value} {xs : List α} {F : List Nat} (h : OwnSl sz enc w v xs F) : Sl sz enc w.heap.size w v xs := by
  obtain ⟨p, len, cap, h1, h2, h3, h4, h5⟩ := h
  refine ⟨p, len, cap, h1, h2, h3, h4, fun i hi => ?_⟩
  rcases h5 with ⟨h5, _⟩ | ⟨b, off, e1, e2, e3, e4, e5⟩
  · subst h5; simp at hi
  · exact ⟨b, off, e1, e3, e5 i hi⟩
/-- The world w' is as w was, but for the blocks in F, and new ones. -/
structure Chg (F : List Nat) (w w' : World) : Prop where
  os : w'.os = w.os
  tape : w'.tape = w.tape
  output : w'.output = w.output
  size : w.heap.size ≤ w'.heap.size
  block : ∀ k, k < w.heap.size → k ∉ F → w'.heap[k]? = w.heap[k]?
theorem Chg.refl (F : List Nat) (w : World) : Chg F w w := ⟨rfl, rfl, rfl, Nat.le_refl _, fun _ _ _ => rfl⟩
theorem Chg.trans {F : List Nat} {a b c : World} (h : Chg F a b) (k : Chg F b c) : Chg F a c :=
  ⟨k.os.trans h.os, k.tape.trans h.tape, k.output.trans h.output, Nat.le_trans h.size k.size, fun i hi hF => (k.block i (Nat.lt_of_lt_of_le hi h.size) hF).trans (h.block i hi hF)⟩
theorem Chg.mono {F G : List Nat} {a b : World} (h : Chg F a b) (hs : ∀ x ∈ F, x ∈ G) : Chg G a b :=
  ⟨h.os, h.tape, h.output, h.size, fun i hi hF => h.block i hi (fun hx => hF (hs i hx))⟩
theorem Chg.of_below' {w w' : World} (h : Below w.heap.size w w') (F : List Nat) : Chg F w w' := ⟨h.os, h.tape, h.output, h.size, fun i hi _ => h.block i hi⟩
theorem Chg.setCell {F : List Nat} {a w : World} (h : Chg F a w) {p : Addr} (hp : p.block ∈ F) (u : Value) : Chg F a (w.setCell p u) :=
  h.trans ⟨rfl, rfl, rfl, by simp [World.setCell], fun k hk hF => Below.heap_setCell _ _ _ _ (by rintro rfl; exact hF hp)⟩
theorem Chg.then_below {F : List Nat} {a w w' : World} (h : Chg F a w) (hb : Below w.heap.size w w') : Chg F a w' := h.trans (Chg.of_below' hb F)
theorem Chg.of_below {w w' : World} (h : Below w.heap.size w w') (F : List Nat) : Chg F w w' := ⟨h.os, h.tape, h.output, h.size, fun i hi _ => h.block i hi⟩
theorem Chg.below {F : List Nat} {w w' : World} (h : Chg F w w') {B : Nat} (hB : B ≤ w.heap.size) (hF : ∀ x ∈ F, B ≤ x) : Below B w w' :=
  ⟨h.os, h.tape, h.output, h.size, fun i hi => h.block i (by omega) (fun hx => by have := hF i hx; omega)⟩
theorem OwnSl.chg {α : Type} {sz : Nat} {enc : α → List Value} {w w' : World} {v : Value} {xs : List α} {F G : List Nat} (h : OwnSl sz enc w v xs F) (hc : Chg G w w') (hd : ∀ x ∈ F, x ∉ G) : OwnSl sz enc w' v xs F := by
  obtain ⟨p, len, cap, h1, h2, h3, h4, h5⟩ := h
  refine ⟨p, len, cap, h1, h2, h3, h4, ?_⟩
  rcases h5 with h5 | ⟨b, off, e1, e2, e3, e4, e5⟩
  · exact .inl h5
  · have hb := hc.block b e3 (hd b (by rw [e2]; simp))
    have hs := hc.size
    exact .inr ⟨b, off, e1, e2, by omega, fun o => (World.frozen?_of_block (w := w) (a := ⟨b, o, none⟩) hb).trans (e4 o), fun i hi j x hx => (World.cell?_of_block (w := w) (a := ⟨b, _, none⟩) hb).trans (e5 i hi j x hx)⟩
theorem OwnSl.below {α : Type} {sz : Nat} {enc : α → List Value} {w w' : World} {v : Value} {xs : List α} {F : List Nat} (h : OwnSl sz enc w v xs F) (hc : Below w.heap.size w w') : OwnSl sz enc w' v xs F :=
  h.chg (Chg.of_below hc []) (by simp)
theorem OwnSl.lt {α : Type} {sz : Nat} {enc : α → List Value} {w : World} {v : Value} {xs : List α} {F : List Nat} (h : OwnSl sz enc w v xs F) : ∀ x ∈ F, x < w.heap.size := by
  obtain ⟨p, len, cap, h1, h2, h3, h4, h5⟩ := h
  rcases h5 with ⟨_, rfl⟩ | ⟨b, off, e1, e2, e3, e4, e5⟩
  · simp
  · subst e2; simpa using e3
/-- The first k elements' cells stand in L. -/
def Part {α : Type} (sz : Nat) (enc : α → List Value) (xs : List α) (L : List Value) (k : Nat) : Prop :=
  L.length = xs.length * sz ∧ ∀ (i : Nat) (h : i < xs.length), i < k → ∀ j x, (enc xs[i])[j]? = some x → L[i * sz + j]? = some x
def setAt (L : List Value) (o : Nat) : List Value → List Value
  | [] => L
  | v :: vs => setAt (L.set o v) (o + 1) vs
theorem length_setAt (L : List Value) (o : Nat) (vs : List Value) : (setAt L o vs).length = L.length := by
  induction vs generalizing L o with
  | nil => rfl
  | cons v vs ih => unfold setAt; rw [ih]; simp
theorem setAt_out (L : List Value) (o : Nat) (vs : List Value) (i : Nat) (h : i < o ∨ o + vs.length ≤ i) : (setAt L o vs)[i]? = L[i]? := by
  induction vs generalizing L o with
  | nil => rfl
  | cons v vs ih =>
    unfold setAt
    rw [ih _ _ (by simp at h; omega), List.getElem?_set_ne (by simp at h; omega)]
theorem setAt_in (L : List Value) (o : Nat) (vs : List Value) (j : Nat) (hj : j < vs.length) (hl : o + vs.length ≤ L.length) : (setAt L o vs)[o + j]? = vs[j]? := by
  induction vs generalizing L o j with
  | nil => simp at hj
  | cons v vs ih =>
    unfold setAt
    simp at hj hl
    cases j with
    | zero => rw [setAt_out (L.set o v) (o + 1) vs (o + 0) (.inl (by omega)), Nat.add_zero, List.getElem?_set_self (by omega)]; rfl
    | succ j =>
      have := ih (L.set o v) (o + 1) j (by omega) (by simp; omega)
      rw [show o + (j + 1) = o + 1 + j by omega, this]; simp
theorem Part.zero {α : Type} {sz : Nat} {enc : α → List Value} {xs : List α} {L : List Value} (h : L.length = xs.length * sz) : Part sz enc xs L 0 := ⟨h, fun _ _ h => by omega⟩
theorem Part.succ {α : Type} {sz : Nat} {enc : α → List Value} {xs : List α} {L : List Value} {k : Nat} (h : Part sz enc xs L k) (hk : k < xs.length) (hs : ∀ x, (enc x).length = sz) : Part sz enc xs (setAt L (k * sz) (enc xs[k])) (k + 1) := by
  refine ⟨(length_setAt _ _ _).trans h.1, fun i hi hik j x hx => ?_⟩
  have hle : k * sz + sz ≤ xs.length * sz := by rw [← Nat.succ_mul]; exact Nat.mul_le_mul_right _ hk
  by_cases e : i = k
  · subst e
    have hj : j < (enc xs[i]).length := (List.getElem?_eq_some_iff.1 hx).1
    rw [setAt_in _ _ _ _ hj (by rw [hs, h.1]; exact hle)]; exact hx
  · have hlt : i < k := by omega
    have hj : j < sz := by rw [← hs xs[i]]; exact (List.getElem?_eq_some_iff.1 hx).1
    have : i * sz + sz ≤ k * sz := by rw [← Nat.succ_mul]; exact Nat.mul_le_mul_right _ hlt
    rw [setAt_out _ _ _ _ (.inl (by omega))]
    exact h.2 i hi hlt j x hx
theorem set_far (w : World) (b o : Nat) (v : Value) (b' o' : Nat) (h : b ≠ b') : (w.setCell ⟨b, o, none⟩ v).cell? ⟨b', o', none⟩ = w.cell? ⟨b', o', none⟩ :=
  World.cell?_of_block (w := w) (Below.heap_setCell _ _ _ _ (fun e => h e.symm))
theorem set_near (w : World) (b o : Nat) (v : Value) (o' : Nat) (h : o ≠ o') : (w.setCell ⟨b, o, none⟩ v).cell? ⟨b, o', none⟩ = w.cell? ⟨b, o', none⟩ :=
  World.cell?_setCell_other w ⟨b, o, none⟩ ⟨b, o', none⟩ v (by intro e; injection e with _ e2; exact h e2)
theorem set_same (w : World) (b o : Nat) (u v : Value) (h : w.cell? ⟨b, o, none⟩ = some u) : (w.setCell ⟨b, o, none⟩ v).cell? ⟨b, o, none⟩ = some v := World.cell?_setCell_same w ⟨b, o, none⟩ v h
/-- A whole block, its cells as a list. -/
def Blk (w : World) (b : Nat) (T : TypeId) (L : List Value) : Prop := w.heap[b]? = some (.cells L.toArray T (0, 0))
theorem Blk.cell {w : World} {b : Nat} {T : TypeId} {L : List Value} (h : Blk w b T L) (i : Nat) : w.cell? ⟨b, i, none⟩ = L[i]? := by
  unfold Blk at h; simp [World.cell?, h]
theorem Blk.frozen {w : World} {b : Nat} {T : TypeId} {L : List Value} (h : Blk w b T L) (i : Nat) : w.frozen? ⟨b, i, none⟩ = false := by
  unfold Blk at h; simp [World.frozen?, h]
theorem Blk.lt {w : World} {b : Nat} {T : TypeId} {L : List Value} (h : Blk w b T L) : b < w.heap.size := by
  unfold Blk at h; exact (Array.getElem?_eq_some_iff.1 h).1
theorem Blk.below {w w' : World} {b B : Nat} {T : TypeId} {L : List Value} (h : Blk w b T L) (hb : Below B w w') (hB : b < B) : Blk w' b T L := (hb.block b hB).trans h
theorem Blk.set {w : World} {b : Nat} {T : TypeId} {L : List Value} (h : Blk w b T L) (i : Nat) (v : Value) : Blk (w.setCell ⟨b, i, none⟩ v) b T (L.set i v) := by
  unfold Blk at *
  simp [World.setCell, Array.getElem?_modify, h]
theorem Blk.new (w : World) (c : Array Value) (T : TypeId) : Blk (w.alloc (.cells c T)) w.heap.size T c.toList := by
  have : (w.alloc (.cells c T)).heap = w.heap.push (.cells c T) := rfl
  unfold Blk; rw [this]; simp

theorem infoNode : (Try.prog.info? 141).map (fun i => (i.zero, i.size, i.bytes)) = some (some (.agg #[.string ⟨#[]⟩, .int .i64 0]), 2, 24) := by kernel_rfl

theorem infoEdge : (Try.prog.info? 143).map (fun i => (i.zero, i.size, i.bytes)) = some (some (.agg #[.int .i64 0, .int .i64 0, .string ⟨#[]⟩, .int .i64 0]), 4, 40) := by kernel_rfl

end Go.Proofs.Ytfdkmngkpihpbaa
namespace Go.Proofs.Ytfdkmngkpihpbaa
open Go.RowKit

end Go.Proofs.Ytfdkmngkpihpbaa
namespace Go.Proofs.Ytfdkmngkpihpbaa
open Go.RowKit

def Gr.need (g : Gr) : Nat := g.ns.length + sumNode g.ns + (g.es.length + sumEdge g.es)
/-- The value of a struct Graph in memory of the call's own, from block lo on; its two slices share none. -/
def Gr.Own (g : Gr) (lo : Nat) (w : World) (v : Value) (F1 F2 : List Nat) : Prop :=
  ∃ a b, v = .agg #[a, b] ∧ OwnSl 2 Nd.cells w a g.ns F1 ∧ OwnSl 4 Ed.cells w b g.es F2 ∧ (∀ x ∈ F1, lo ≤ x) ∧ (∀ x ∈ F2, lo ≤ x) ∧ (∀ x ∈ F1, x ∉ F2)
theorem Gr.Own.at {g : Gr} {lo : Nat} {w : World} {v : Value} {F1 F2 : List Nat} (h : g.Own lo w v F1 F2) : g.At w.heap.size w v := by
  obtain ⟨a, b, h1, h2, h3, _⟩ := h
  exact ⟨a, b, h1, h2.sl, h3.sl⟩
theorem Gr.Own.chg {g : Gr} {lo : Nat} {w w' : World} {v : Value} {F1 F2 G : List Nat} (h : g.Own lo w v F1 F2) (hc : Chg G w w') (h1 : ∀ x ∈ F1, x ∉ G) (h2 : ∀ x ∈ F2, x ∉ G) : g.Own lo w' v F1 F2 := by
  obtain ⟨a, b, e1, e2, e3, e4, e5, e6⟩ := h
  exact ⟨a, b, e1, e2.chg hc h1, e3.chg hc h2, e4, e5, e6⟩
theorem Gr.Own.below {g : Gr} {lo : Nat} {w w' : World} {v : Value} {F1 F2 : List Nat} (h : g.Own lo w v F1 F2) (hc : Below w.heap.size w w') : g.Own lo w' v F1 F2 :=
  h.chg (Chg.of_below hc []) (by simp) (by simp)
theorem Gr.Own.mono {g : Gr} {lo lo' : Nat} {w : World} {v : Value} {F1 F2 : List Nat} (h : g.Own lo w v F1 F2) (hl : lo' ≤ lo) : g.Own lo' w v F1 F2 := by
  obtain ⟨a, b, e1, e2, e3, e4, e5, e6⟩ := h
  exact ⟨a, b, e1, e2, e3, fun x hx => Nat.le_trans hl (e4 x hx), fun x hx => Nat.le_trans hl (e5 x hx), e6⟩
theorem Gr.Own.lt {g : Gr} {lo : Nat} {w : World} {v : Value} {F1 F2 : List Nat} (h : g.Own lo w v F1 F2) : (∀ x ∈ F1, x < w.heap.size) ∧ (∀ x ∈ F2, x < w.heap.size) := by
  obtain ⟨a, b, e1, e2, e3, e4, e5, e6⟩ := h
  exact ⟨e2.lt, e3.lt⟩

end Go.Proofs.Ytfdkmngkpihpbaa
namespace Go.Proofs.Ytfdkmngkpihpbaa
open Go.RowKit

def eqL {α : Type} (f : α → α → Bool) : List α → List α → Bool
  | [], [] => true
  | x :: xs, y :: ys => f x y && eqL f xs ys
  | _, _ => false
theorem eqL_len {α : Type} {f : α → α → Bool} : ∀ {xs ys : List α}, xs.length ≠ ys.length → eqL f xs ys = false
  | [], [], h => absurd rfl h
  | [], _ :: _, _ => rfl
  | _ :: _, [], _ => rfl
  | x :: xs, y :: ys, h => by unfold eqL; rw [eqL_len (by simpa using h)]; simp
theorem eqL_all {α : Type} {f : α → α → Bool} : ∀ {xs ys : List α}, xs.length = ys.length → (∀ i (h : i < xs.length) (h' : i < ys.length), f xs[i] ys[i] = true) → eqL f xs ys = true
  | [], [], _, _ => rfl
  | [], _ :: _, h, _ => by simp at h
  | _ :: _, [], h, _ => by simp at h
  | x :: xs, y :: ys, h, ha => by
    unfold eqL
    rw [show f x y = true from ha 0 (by simp) (by simp), eqL_all (by simpa using h) (fun i h1 h2 => by have := ha (i + 1) (by simpa using h1) (by simpa using h2); simpa using this)]; rfl
theorem eqL_bad {α : Type} {f : α → α → Bool} : ∀ {xs ys : List α} (i : Nat) (h : i < xs.length) (h' : i < ys.length), f xs[i] ys[i] = false → eqL f xs ys = false
  | [], _, _, h, _, _ => by simp at h
  | _ :: _, [], _, _, h, _ => by simp at h
  | x :: xs, y :: ys, 0, _, _, hb => by unfold eqL; rw [show f x y = false from hb]; rfl
  | x :: xs, y :: ys, i + 1, h, h', hb => by unfold eqL; rw [eqL_bad i (by simpa using h) (by simpa using h') (by simpa using hb)]; simp
/-- The first k pairs agree. -/
def AllE {α : Type} (f : α → α → Bool) (xs ys : List α) (k : Nat) : Prop := ∀ i (h : i < xs.length) (h' : i < ys.length), i < k → f xs[i] ys[i] = true
theorem AllE.zero {α : Type} (f : α → α → Bool) (xs ys : List α) : AllE f xs ys 0 := fun _ _ _ h => by omega
theorem AllE.succ {α : Type} {f : α → α → Bool} {xs ys : List α} {k : Nat} (h : AllE f xs ys k) (h1 : k < xs.length) (h2 : k < ys.length) (hc : f xs[k] ys[k] = true) : AllE f xs ys (k + 1) := by
  intro i hi hi' hik
  by_cases e : i = k
  · subst e; exact hc
  · exact h i hi hi' (by omega)
theorem AllE.full {α : Type} {f : α → α → Bool} {xs ys : List α} {k : Nat} (h : AllE f xs ys k) (hk : xs.length ≤ k) (hl : xs.length = ys.length) : eqL f xs ys = true := eqL_all hl fun i a b => h i a b (by omega)
def ndE (x y : Nd) : Bool := (x.l.toList == y.l.toList) && (x.n == y.n)
def edE (x y : Ed) : Bool := (x.f == y.f) && ((x.t == y.t) && ((x.l.toList == y.l.toList) && (x.n == y.n)))
def gs (a b : Gr) : Bool := eqL ndE a.ns b.ns && eqL edE a.es b.es

theorem neqNode (x y : Nd) (w : World) : (binOp .neq 141 (.agg #[.string x.l, .int .i64 x.n]) (.agg #[.string y.l, .int .i64 y.n])).run Try.prog w = .ok (.bool (!ndE x y)) w := by
  have h := run_neq_struct (P := Try.prog) w 141 #[.string x.l, .int .i64 x.n] #[.string y.l, .int .i64 y.n]
  rw [h, run_equalIn_agg w 9999 141 _ _ (by kernel_rfl) (by kernel_rfl)]
  go_simp
  unfold ndE
  repeat' split
  all_goals simp_all

theorem neqEdge (x y : Ed) (w : World) : (binOp .neq 143 (.agg #[.int .i64 x.f, .int .i64 x.t, .string x.l, .int .i64 x.n]) (.agg #[.int .i64 y.f, .int .i64 y.t, .string y.l, .int .i64 y.n])).run Try.prog w = .ok (.bool (!edE x y)) w := by
  have h := run_neq_struct (P := Try.prog) w 143 #[.int .i64 x.f, .int .i64 x.t, .string x.l, .int .i64 x.n] #[.int .i64 y.f, .int .i64 y.t, .string y.l, .int .i64 y.n]
  rw [h, run_equalIn_agg w 9999 143 _ _ (by kernel_rfl) (by kernel_rfl)]
  go_simp
  unfold edE
  repeat' split
  all_goals simp_all

end Go.Proofs.Ytfdkmngkpihpbaa
namespace Go.Proofs.Ytfdkmngkpihpbaa
open Go.RowKit

/-- A text of one byte. -/
def dg (n : Int) : ByteArray := strOfNums [n]
theorem dg_size (n : Int) : (dg n).size = 1 := rfl
theorem conv_dg (w : World) (n : Int) : (convert 22 9 (.slice (some ⟨w.heap.size, 0, none⟩) 1 1)).run Try.prog (w.alloc (.cells #[.int .u8 n] 5)) = .ok (.string (dg n)) (w.alloc (.cells #[.int .u8 n] 5)) :=
  run_convert_bytes_arg _ 22 5 Try.underlying22 Try.underlying5 w.heap.size 0 1 1 [n] rfl (fun i hi => by
    obtain rfl : i = 0 := by omega
    simp [go_sem]) 9 Try.underlying9
/-- markText's digits: what has been gathered, and what is left. -/
def mtd : Nat → Int → ByteArray → ByteArray
  | 0, _, acc => acc
  | f + 1, k, acc => if 0 < k then mtd f (k / 10) (dg (48 + k % 10) ++ acc) else acc
/-- markText at a number from 1 on. -/
def mt (k : Int) : ByteArray := ⟨#[109]⟩ ++ mtd 20 k ⟨#[]⟩

set_option maxRecDepth 100000 in
set_option maxHeartbeats 1000000 in
theorem markText_any (k : Int) (w : World) (h0 : 1 ≤ k) (h1 : k ≤ 100000000) :
    Calls Try.prog 76 #[.int .i64 k] w fun e w' => e = .returned (.string (mt k)) ∧ Below w.heap.size w w' := by
  have hcv := conv_dg
  have q0 : decide (k ≤ 0) = false := by simp; omega
  go_enter Try.func76, Try.ntmps76
  go_wp2_with fail
  go_loopw [0, 3] (fun kk s wr => ∃ (f : Nat) (q : Int) (acc : ByteArray), f ≤ 9 ∧ kk = .int .i64 q ∧ s = .string acc ∧ 0 ≤ q ∧ q ≤ 100000000 ∧ RowKit.Hid (q < 10 ^ f) ∧ acc.size + f ≤ 9 ∧ RowKit.Hid (mtd (f + 11) q acc = mtd 20 k ⟨#[]⟩) ∧ Below w.heap.size w wr) (fun kk _ _ => (intOf kk).toNat)
  case atStart => exact ⟨9, k, ⟨#[]⟩, Nat.le_refl _, rfl, rfl, by omega, h1, Lib.hid (by omega), by simp [ByteArray.size], Lib.hid rfl, Below.refl _ _⟩
  case round =>
    obtain ⟨f, q, acc, hf, rfl, rfl, hq0, hq2, hq1, hacc, hm, hbw⟩ := hrel
    have hsz := hbw.size
    have HB := Lib.hid hbw
    clear hbw
    by_cases hq : 0 < q
    · have hq1' := hq1.out
      obtain ⟨f', rfl⟩ : ∃ f', f = f' + 1 := by
        cases f with
        | zero => simp at hq1'; omega
        | succ f' => exact ⟨f', rfl⟩
      have hp : (10 : Int) ^ (f' + 1) = 10 ^ f' * 10 := Int.pow_succ _ _
      have HQ := Lib.hid (show q / 10 < 10 ^ f' by rw [hp] at hq1'; omega)
      clear hp hq1'
      have hm' := hm.out
      have HM := Lib.hid (show mtd (f' + 11) (q / 10) (dg (48 + q % 10) ++ acc) = mtd 20 k ⟨#[]⟩ by rw [← hm', show f' + 1 + 11 = (f' + 11) + 1 from by omega]; exact (if_pos hq).symm)
      clear hm'
      have hds : (dg (48 + q % 10)).size ≤ 1 := Nat.le_of_eq (dg_size _)
      have hac : acc.size ≤ 9 := by omega
      go_wp2_with fail
      go_roundw
      case rel => exact ⟨f', q / 10, _, by omega, rfl, rfl, by omega, by omega, HQ, by rw [ByteArray.size_append, dg_size]; omega, HM, HB.out.alloc hsz _⟩
      case measure => simp [intOf]; omega
    · have hm' := hm.out
      have HM := Lib.hid (show mt k = ⟨#[109]⟩ ++ acc by unfold mt; rw [← hm']; unfold mtd; rw [if_neg hq])
      clear hm'
      have hac : acc.size ≤ 9 := by omega
      go_wp2_with fail
      go_ret
      exact ⟨by rw [HM.out]; rfl, HB.out⟩

theorem OwnSl.elem {α : Type} {sz : Nat} {enc : α → List Value} {w : World} {p : Option Addr} {len cap : Nat} {xs : List α} {F : List Nat} (h : OwnSl sz enc w (.slice p len cap) xs F) {k : Nat} (hk : k < xs.length) :
    ∃ b off, p = some ⟨b, off, none⟩ ∧ F = [b] ∧ b < w.heap.size ∧ (∀ o, w.frozen? ⟨b, o, none⟩ = false) ∧ ∀ j x, (enc xs[k])[j]? = some x → w.cell? ⟨b, off + k * sz + j, none⟩ = some x := by
  obtain ⟨p', len', cap', h1, h2, h3, h4, h5⟩ := h
  cases h1
  rcases h5 with ⟨h5, _⟩ | ⟨b, off, e1, e2, e3, e4, e5⟩
  · subst h5; simp at hk
  · exact ⟨b, off, e1, e2, e3, e4, e5 k hk⟩
theorem OwnSl.store {α : Type} {sz : Nat} {enc : α → List Value} {w : World} {b off len cap : Nat} {xs : List α} {F : List Nat} (h : OwnSl sz enc w (.slice (some ⟨b, off, none⟩) len cap) xs F) {k : Nat} (hk : k < xs.length) (hsz : ∀ x, (enc x).length = sz)
    (j : Nat) (hj : j < sz) (y : α) (u : Value) (hy : enc y = (enc xs[k]).set j u) : OwnSl sz enc (w.setCell ⟨b, off + k * sz + j, none⟩ u) (.slice (some ⟨b, off, none⟩) len cap) (xs.set k y) F := by
  obtain ⟨p', len', cap', h1, h2, h3, h4, h5⟩ := h
  cases h1
  refine ⟨_, _, _, rfl, by simpa using h2, h3, h4, ?_⟩
  rcases h5 with ⟨h5, _⟩ | ⟨b', off', e1, e2, e3, e4, e5⟩
  · subst h5; simp at hk
  · cases e1
    refine .inr ⟨b, off, rfl, e2, by simpa using e3, fun o => by simpa [go_sem] using e4 o, fun i hi j' x hx => ?_⟩
    have hi' : i < xs.length := by simpa using hi
    by_cases e : i = k
    · subst e
      rw [List.getElem_set_self, hy] at hx
      by_cases ej : j' = j
      · subst ej
        rw [List.getElem?_set_self (by rw [hsz]; exact hj)] at hx
        cases hx
        have hold := e5 i hi' j' _ (List.getElem?_eq_getElem (by rw [hsz]; exact hj))
        exact set_same _ _ _ _ _ hold
      · rw [List.getElem?_set_ne (fun h => ej h.symm)] at hx
        exact (set_near _ _ _ _ _ (by omega)).trans (e5 i hi' j' x hx)
    · rw [List.getElem_set_ne (fun h => e h.symm)] at hx
      have hj' : j' < sz := by rw [← hsz xs[i]]; exact (List.getElem?_eq_some_iff.1 hx).1
      refine (set_near _ _ _ _ _ ?_).trans (e5 i hi' j' x hx)
      rcases Nat.lt_or_gt_of_ne e with hlt | hlt
      · have : i * sz + sz ≤ k * sz := by rw [← Nat.succ_mul]; exact Nat.mul_le_mul_right _ hlt
        omega
      · have : k * sz + sz ≤ i * sz := by rw [← Nat.succ_mul]; exact Nat.mul_le_mul_right _ hlt
        omega
/-- A list whose first k elements are f's, the others xs'. -/
def half {α : Type} (f : Nat → α) (xs : List α) (k : Nat) : List α := (List.range k).map f ++ xs.drop k
theorem half_zero {α : Type} (f : Nat → α) (xs : List α) : half f xs 0 = xs := by simp [half]
theorem half_length {α : Type} (f : Nat → α) (xs : List α) {k : Nat} (h : k ≤ xs.length) : (half f xs k).length = xs.length := by simp [half]; omega
theorem half_full {α : Type} (f : Nat → α) (xs : List α) : half f xs xs.length = (List.range xs.length).map f := by simp [half]
theorem half_at {α : Type} (f : Nat → α) (xs : List α) {k : Nat} (h : k < xs.length) (h' : k < (half f xs k).length) : (half f xs k)[k] = xs[k] := by
  have e : (half f xs k)[k]? = xs[k]? := by unfold half; rw [List.getElem?_append_right (by simp)]; simp
  rw [List.getElem?_eq_getElem h', List.getElem?_eq_getElem h] at e
  exact Option.some.inj e
theorem OwnSl.restore {α : Type} {sz : Nat} {enc : α → List Value} {w : World} {b off len cap : Nat} {xs : List α} {F : List Nat} {k : Nat} {y : α} (h : OwnSl sz enc w (.slice (some ⟨b, off, none⟩) len cap) (xs.set k y) F) (hk : k < xs.length) (hsz : ∀ x, (enc x).length = sz)
    (j : Nat) (hj : j < sz) (y' : α) (u : Value) (hy : enc y' = (enc y).set j u) : OwnSl sz enc (w.setCell ⟨b, off + k * sz + j, none⟩ u) (.slice (some ⟨b, off, none⟩) len cap) (xs.set k y') F := by
  have := h.store (k := k) (by simpa using hk) hsz j hj y' u (by rw [List.getElem_set_self]; exact hy)
  rwa [List.set_set] at this
theorem OwnSl.restore1 {α : Type} {enc : α → List Value} {w : World} {b off len cap : Nat} {xs : List α} {F : List Nat} {k : Nat} {y : α} (h : OwnSl 1 enc w (.slice (some ⟨b, off, none⟩) len cap) (xs.set k y) F) (hk : k < xs.length) (hsz : ∀ x, (enc x).length = 1)
    (y' : α) (u : Value) (hy : enc y' = (enc y).set 0 u) : OwnSl 1 enc (w.setCell ⟨b, off + k, none⟩ u) (.slice (some ⟨b, off, none⟩) len cap) (xs.set k y') F := by
  have := h.restore hk hsz 0 (by decide) y' u hy
  rwa [Nat.mul_one, Nat.add_zero] at this
theorem OwnSl.setcell {α : Type} {sz : Nat} {enc : α → List Value} {w : World} {b off len cap : Nat} {xs : List α} {F : List Nat} {k : Nat} {y : α} (h : OwnSl sz enc w (.slice (some ⟨b, off, none⟩) len cap) (xs.set k y) F) (hk : k < xs.length) {j : Nat} {x : Value} (hx : (enc y)[j]? = some x) :
    w.cell? ⟨b, off + k * sz + j, none⟩ = some x ∧ w.frozen? ⟨b, off + k * sz + j, none⟩ = false := by
  obtain ⟨b', off', e1, e2, e3, e4, e5⟩ := h.elem (k := k) (by simpa using hk)
  cases e1
  exact ⟨e5 j x (by rw [List.getElem_set_self]; exact hx), e4 _⟩
theorem half_succ {α : Type} (f : Nat → α) (xs : List α) {k : Nat} (h : k < xs.length) : (half f xs k).set k (f k) = half f xs (k + 1) := by
  unfold half
  rw [List.set_append_right _ _ (by simp), List.range_succ, List.map_append, List.append_assoc]
  simp only [List.length_map, List.length_range, Nat.sub_self]
  rw [List.drop_eq_getElem_cons h]; rfl

def intCells (n : Int) : List Value := [.int .i64 n]

def mkNode (m : Int) (k : Nat) : Nd := ⟨mt (m + 2 * k), (m + 2 * k + 1)⟩

def mkEdge (m : Int) (k : Nat) : Ed := ⟨(m + 4 * k), (m + 4 * k + 1), mt (m + 4 * k + 1 + 1), (m + 4 * k + 1 + 1 + 1)⟩

def mkInt (m : Int) (k : Nat) : Int := m + k

set_option maxRecDepth 100000 in
set_option maxHeartbeats 2000000 in
theorem markIntS_any (xs : List Int) (v : Value) (F : List Nat) (m : Int) (w : World) (hv : OwnSl 1 intCells w v xs F) (hm : 1 ≤ m) (hb : m + xs.length ≤ 100000000) :
    Calls Try.prog 106 #[v, .int .i64 m] w fun e w' => e = .returned (.int .i64 (m + xs.length)) ∧ OwnSl 1 intCells w' v ((List.range xs.length).map (mkInt m)) F ∧ Chg F w w' := by
  obtain ⟨p, cap, rfl⟩ := hv.sl.form
  go_enter Try.func106, Try.ntmps106
  go_wp2_with fail
  go_loopw [1, 5] (fun kk i wr => ∃ k : Nat, k ≤ xs.length ∧ i = .int .i64 k ∧ kk = .int .i64 (m + (k : Int)) ∧ OwnSl 1 intCells wr (.slice p xs.length cap) (half (mkInt m) xs k) F ∧ Chg F w wr) (fun _ i _ => xs.length - (intOf i).toNat)
  case atStart => exact ⟨0, Nat.zero_le _, rfl, by simp, by rw [half_zero]; exact hv, Chg.refl _ _⟩
  case round =>
    obtain ⟨k, hk, rfl, rfl, hown, hch⟩ := hrel
    have HC := Lib.hid hch
    clear hch
    by_cases hlt : k < xs.length
    · skip
      obtain ⟨b, off, rfl, rfl, hbb, hfz, hcells⟩ := hown.elem (k := k) (by rw [half_length _ _ hk]; exact hlt)
      have own0 : OwnSl 1 intCells wr (.slice (some ⟨b, off, none⟩) xs.length cap) ((half (mkInt m) xs k).set k xs[k]) [b] := by
        have e := half_at (mkInt m) xs hlt (by rw [half_length _ _ hk]; exact hlt)
        rw [← e, List.set_getElem_self]; exact hown
      have hlen := half_length (mkInt m) xs hk
      obtain ⟨x, ex⟩ : ∃ x, x = xs[k] := ⟨_, rfl⟩
      rw [← ex] at own0
      clear ex hcells hown
      have HL := Lib.hid (show k < (half (mkInt m) xs k).length by rw [hlen]; exact hlt)
      clear hlen
      have OW := Lib.hid own0
      clear own0
      have cz0 := OW.out.setcell HL.out (j := 0) (x := .int .i64 x) rfl
      simp only [Nat.mul_one, Nat.add_zero] at cz0
      obtain ⟨c0, z0⟩ := cz0
      go_wp2_with fail
      go_roundw
      case rel => exact ⟨k + 1, by omega, by go_num, congrArg (Value.int .i64) (by omega), (by rw [← half_succ _ _ hlt]; exact ((OW.out).restore1 HL.out (fun _ => rfl) (m + (k : Int)) (.int .i64 ((m + (k : Int)))) rfl)), ((HC.out).setCell (p := ⟨b, off + k, none⟩) (by simp) (.int .i64 ((m + (k : Int)))))⟩
      case measure => simp [intOf]; omega
    · obtain rfl : k = xs.length := by omega
      rw [half_full] at hown
      have HO := Lib.hid hown
      clear hown
      go_wp2_with fail
      go_ret
      exact ⟨rfl, HO.out, HC.out⟩
end Go.Proofs.Ytfdkmngkpihpbaa
namespace Go.Proofs.Ytfdkmngkpihpbaa
open Go.RowKit

/-- A kind of data: how many cells; that cells read as an x, all behind them in blocks below B; that they are an x whose memory behind is a call's own, in the blocks F. -/
structure Kd (α : Type) where
  sz : Nat
  rd : Nat → World → α → List Value → Prop
  ow : World → α → List Value → List Nat → Prop
  rd_len : ∀ {B w x cs}, rd B w x cs → cs.length = sz
  rd_to : ∀ {B B' w w' x cs}, rd B w x cs → Below B w w' → B ≤ B' → rd B' w' x cs
  ow_rd : ∀ {w x cs F}, ow w x cs F → rd w.heap.size w x cs
  ow_chg : ∀ {w w' x cs F G}, ow w x cs F → Chg G w w' → (∀ y ∈ F, y ∉ G) → ow w' x cs F
  ow_lt : ∀ {w x cs F}, ow w x cs F → ∀ y ∈ F, y < w.heap.size

namespace Kd
variable {α β : Type}
/-- A slice that reads as xs. -/
def Rd (K : Kd α) (B : Nat) (w : World) (v : Value) (xs : List α) : Prop :=
  ∃ (p : Option Addr) (cap : Nat), v = .slice p xs.length cap ∧ xs.length ≤ cap ∧ cap ≤ maxLen ∧
    ∀ (i : Nat) (h : i < xs.length), ∃ b off cs, p = some ⟨b, off, none⟩ ∧ b < B ∧ (∀ j u, cs[j]? = some u → w.cell? ⟨b, off + i * K.sz + j, none⟩ = some u) ∧ K.rd B w xs[i] cs
/-- Memory of a call's own for the elements of a row, by their places: cells c, blocks Fs. -/
def ORow (K : Kd α) (w : World) : List α → (Nat → Option Value) → List Nat → Prop
  | [], _, F => F = []
  | x :: xs, c, F => ∃ cs F1 F2, F = F1 ++ F2 ∧ (∀ y ∈ F1, y ∉ F2) ∧ (∀ j u, cs[j]? = some u → c j = some u) ∧ K.ow w x cs F1 ∧ ORow K w xs (fun i => c (i + K.sz)) F2
/-- A slice that is xs in memory of a call's own. -/
def Ow (K : Kd α) (w : World) (v : Value) (xs : List α) (F : List Nat) : Prop :=
  ∃ (p : Option Addr) (cap : Nat), v = .slice p xs.length cap ∧ xs.length ≤ cap ∧ cap ≤ maxLen ∧
    ((xs = [] ∧ F = []) ∨ ∃ b off F', p = some ⟨b, off, none⟩ ∧ F = b :: F' ∧ b ∉ F' ∧ b < w.heap.size ∧ (∀ o, w.frozen? ⟨b, o, none⟩ = false) ∧ K.ORow w xs (fun i => w.cell? ⟨b, off + i, none⟩) F')

theorem Rd.to {K : Kd α} {B B' : Nat} {w w' : World} {v : Value} {xs : List α} (h : K.Rd B w v xs) (hb : Below B w w') (hB : B ≤ B') : K.Rd B' w' v xs := by
  obtain ⟨p, cap, h1, h2, h3, h4⟩ := h
  refine ⟨p, cap, h1, h2, h3, fun i hi => ?_⟩
  obtain ⟨b, off, cs, e, hl, hc, hr⟩ := h4 i hi
  exact ⟨b, off, cs, e, by omega, fun j u hu => keepc hb hl (hc j u hu), K.rd_to hr hb hB⟩
theorem Rd.form {K : Kd α} {B : Nat} {w : World} {v : Value} {xs : List α} (h : K.Rd B w v xs) : ∃ p cap, v = .slice p xs.length cap := by
  obtain ⟨p, cap, h1, _⟩ := h; exact ⟨p, cap, h1⟩
theorem Rd.max {K : Kd α} {B : Nat} {w : World} {p : Option Addr} {n cap : Nat} {xs : List α} (h : K.Rd B w (.slice p n cap) xs) : n = xs.length ∧ n ≤ cap ∧ cap ≤ maxLen := by
  obtain ⟨p', cap', h1, h2, h3, _⟩ := h
  cases h1; exact ⟨rfl, h2, h3⟩
theorem Rd.get {K : Kd α} {B : Nat} {w : World} {p : Option Addr} {n cap : Nat} {xs : List α} (h : K.Rd B w (.slice p n cap) xs) {k : Nat} (hk : k < xs.length) :
    ∃ b off cs, p = some ⟨b, off, none⟩ ∧ b < B ∧ (∀ j u, cs[j]? = some u → w.cell? ⟨b, off + k * K.sz + j, none⟩ = some u) ∧ K.rd B w xs[k] cs := by
  obtain ⟨p', cap', h1, h2, h3, h4⟩ := h
  cases h1; exact h4 k hk
theorem Rd.nil {K : Kd α} {B : Nat} {w : World} {p : Option Addr} {cap : Nat} (h : cap ≤ maxLen) : K.Rd B w (.slice p 0 cap) [] := ⟨p, cap, rfl, Nat.zero_le _, h, fun i hi => by simp at hi⟩

theorem ORow.lt {K : Kd α} {w : World} : ∀ {xs : List α} {c : Nat → Option Value} {F : List Nat}, K.ORow w xs c F → ∀ y ∈ F, y < w.heap.size
  | [], _, _, h, y, hy => by cases h; simp at hy
  | x :: xs, c, F, h, y, hy => by
    obtain ⟨cs, F1, F2, rfl, _, _, h1, h2⟩ := h
    rcases List.mem_append.1 hy with hy | hy
    · exact K.ow_lt h1 y hy
    · exact h2.lt y hy
theorem ORow.chg {K : Kd α} {w w' : World} {G : List Nat} (hc : Chg G w w') : ∀ {xs : List α} {c c' : Nat → Option Value} {F : List Nat}, K.ORow w xs c F → (∀ y ∈ F, y ∉ G) → (∀ i, i < xs.length * K.sz → c' i = c i) → K.ORow w' xs c' F
  | [], _, _, _, h, _, _ => h
  | x :: xs, c, c', F, h, hd, hcc => by
    obtain ⟨cs, F1, F2, rfl, hdj, h0, h1, h2⟩ := h
    have hl := K.rd_len (K.ow_rd h1)
    refine ⟨cs, F1, F2, rfl, hdj, fun j u hu => ?_, K.ow_chg h1 hc (fun y hy => hd y (List.mem_append_left _ hy)), h2.chg hc (fun y hy => hd y (List.mem_append_right _ hy)) fun i hi => hcc (i + K.sz) ?_⟩
    · have : j < cs.length := (List.getElem?_eq_some_iff.1 hu).1
      rw [hcc j (by rw [List.length_cons, Nat.add_mul]; omega)]
      exact h0 j u hu
    · rw [List.length_cons, Nat.add_mul]; omega
/-- An element of a row. -/
theorem ORow.get {K : Kd α} {w : World} : ∀ {xs : List α} {c : Nat → Option Value} {F : List Nat}, K.ORow w xs c F → ∀ (k : Nat) (hk : k < xs.length), ∃ cs F1, (∀ y ∈ F1, y ∈ F) ∧ (∀ j u, cs[j]? = some u → c (k * K.sz + j) = some u) ∧ K.ow w xs[k] cs F1
  | [], _, _, _, k, hk => by simp at hk
  | x :: xs, c, F, h, k, hk => by
    obtain ⟨cs, F1, F2, rfl, hdj, h0, h1, h2⟩ := h
    cases k with
    | zero => exact ⟨cs, F1, fun y hy => List.mem_append_left _ hy, fun j u hu => by rw [Nat.zero_mul, Nat.zero_add]; exact h0 j u hu, h1⟩
    | succ k =>
      obtain ⟨cs', F', g1, g2, g3⟩ := h2.get k (by simpa using hk)
      refine ⟨cs', F', fun y hy => List.mem_append_right _ (g1 y hy), fun j u hu => ?_, by simpa using g3⟩
      have := g2 j u hu
      rw [show (k + 1) * K.sz + j = k * K.sz + j + K.sz by rw [Nat.add_mul]; omega]
      exact this
theorem orow_app {K : Kd α} {w : World} : ∀ {xs ys : List α} {c : Nat → Option Value} {F : List Nat}, K.ORow w (xs ++ ys) c F ↔ ∃ F1 F2, F = F1 ++ F2 ∧ (∀ y ∈ F1, y ∉ F2) ∧ K.ORow w xs c F1 ∧ K.ORow w ys (fun i => c (i + xs.length * K.sz)) F2
  | [], ys, c, F => by
    constructor
    · intro h; exact ⟨[], F, rfl, by simp, rfl, by simpa using h⟩
    · rintro ⟨F1, F2, rfl, _, rfl, h⟩; simpa using h
  | x :: xs, ys, c, F => by
    have e : ∀ i, i + (xs.length + 1) * K.sz = i + xs.length * K.sz + K.sz := fun i => by rw [Nat.add_mul]; omega
    constructor
    · rintro ⟨cs, F1, F2, rfl, hdj, h0, h1, h2⟩
      obtain ⟨F3, F4, rfl, hd2, h3, h4⟩ := orow_app.1 h2
      refine ⟨F1 ++ F3, F4, by simp, fun y hy => ?_, ⟨cs, F1, F3, rfl, fun y hy hm => hdj y hy (List.mem_append_left _ hm), h0, h1, h3⟩, ?_⟩
      · rcases List.mem_append.1 hy with hy | hy
        · exact fun hm => hdj y hy (List.mem_append_right _ hm)
        · exact hd2 y hy
      · simpa only [List.length_cons, e] using h4
    · rintro ⟨F1, F4, rfl, hdj, ⟨cs, F2, F3, rfl, hd2, h0, h1, h2⟩, h4⟩
      refine ⟨cs, F2, F3 ++ F4, by simp, fun y hy hm => ?_, h0, h1, orow_app.2 ⟨F3, F4, rfl, fun y hy hm => hdj y (List.mem_append_right _ hy) hm, h2, by simpa only [List.length_cons, e] using h4⟩⟩
      rcases List.mem_append.1 hm with hm | hm
      · exact hd2 y hy hm
      · exact hdj y (List.mem_append_left _ hy) hm

theorem Ow.rd {K : Kd α} {w : World} {v : Value} {xs : List α} {F : List Nat} (h : K.Ow w v xs F) : K.Rd w.heap.size w v xs := by
  obtain ⟨p, cap, h1, h2, h3, h4⟩ := h
  refine ⟨p, cap, h1, h2, h3, fun i hi => ?_⟩
  rcases h4 with ⟨rfl, _⟩ | ⟨b, off, F', e, rfl, hn, hlt, hf, ho⟩
  · simp at hi
  · obtain ⟨cs, F1, g1, g2, g3⟩ := ho.get i hi
    exact ⟨b, off, cs, e, hlt, fun j u hu => by rw [Nat.add_assoc]; exact g2 j u hu, K.ow_rd g3⟩
theorem Ow.lt {K : Kd α} {w : World} {v : Value} {xs : List α} {F : List Nat} (h : K.Ow w v xs F) : ∀ y ∈ F, y < w.heap.size := by
  obtain ⟨p, cap, h1, h2, h3, h4⟩ := h
  rcases h4 with ⟨_, rfl⟩ | ⟨b, off, F', e, rfl, hn, hlt, hf, ho⟩
  · simp
  · intro y hy
    rcases List.mem_cons.1 hy with rfl | hy
    · exact hlt
    · exact ho.lt y hy
theorem Ow.chg {K : Kd α} {w w' : World} {v : Value} {xs : List α} {F G : List Nat} (h : K.Ow w v xs F) (hc : Chg G w w') (hd : ∀ y ∈ F, y ∉ G) : K.Ow w' v xs F := by
  obtain ⟨p, cap, h1, h2, h3, h4⟩ := h
  refine ⟨p, cap, h1, h2, h3, ?_⟩
  rcases h4 with h4 | ⟨b, off, F', e, rfl, hn, hlt, hf, ho⟩
  · exact .inl h4
  · have hb : b ∉ G := hd b (by simp)
    have hbl := hc.block b hlt hb
    refine .inr ⟨b, off, F', e, rfl, hn, Nat.lt_of_lt_of_le hlt hc.size, fun o => ?_, ho.chg hc (fun y hy => hd y (List.mem_cons_of_mem _ hy)) fun i _ => ?_⟩
    · exact (World.frozen?_of_block (w := w) (a := ⟨b, o, none⟩) hbl).trans (hf o)
    · exact World.cell?_of_block (w := w) (a := ⟨b, off + i, none⟩) hbl
theorem Ow.form {K : Kd α} {w : World} {v : Value} {xs : List α} {F : List Nat} (h : K.Ow w v xs F) : ∃ p cap, v = .slice p xs.length cap := by
  obtain ⟨p, cap, h1, _⟩ := h; exact ⟨p, cap, h1⟩
theorem Ow.below {K : Kd α} {w w' : World} {v : Value} {xs : List α} {F : List Nat} (h : K.Ow w v xs F) (hb : Below w.heap.size w w') : K.Ow w' v xs F := h.chg (Chg.of_below hb []) (by simp)

/-- A row as a part of an element: one cell. -/
def row (K : Kd α) : Kd (List α) where
  sz := 1
  rd B w xs cs := ∃ v, cs = [v] ∧ K.Rd B w v xs
  ow w xs cs F := ∃ v, cs = [v] ∧ K.Ow w v xs F
  rd_len := by rintro _ _ _ _ ⟨v, rfl, _⟩; rfl
  rd_to := by rintro _ _ _ _ _ _ ⟨v, rfl, h⟩ hb hB; exact ⟨v, rfl, h.to hb hB⟩
  ow_rd := by rintro _ _ _ _ ⟨v, rfl, h⟩; exact ⟨v, rfl, h.rd⟩
  ow_chg := by rintro _ _ _ _ _ _ ⟨v, rfl, h⟩ hc hd; exact ⟨v, rfl, h.chg hc hd⟩
  ow_lt := by rintro _ _ _ _ ⟨v, rfl, h⟩; exact h.lt
/-- A value without anything behind it: one cell. -/
def one (f : α → Value) : Kd α where
  sz := 1
  rd _ _ x cs := cs = [f x]
  ow _ x cs F := cs = [f x] ∧ F = []
  rd_len := by rintro _ _ _ _ rfl; rfl
  rd_to := by intro _ _ _ _ _ _ h _ _; exact h
  ow_rd := by rintro _ _ _ _ ⟨h, _⟩; exact h
  ow_chg := by intro _ _ _ _ _ _ h _ _; exact h
  ow_lt := by rintro _ _ _ _ ⟨_, rfl⟩; simp
/-- Two kinds one behind the other. -/
def and (K : Kd α) (L : Kd β) : Kd (α × β) where
  sz := K.sz + L.sz
  rd B w x cs := ∃ c d, cs = c ++ d ∧ K.rd B w x.1 c ∧ L.rd B w x.2 d
  ow w x cs F := ∃ c d F1 F2, cs = c ++ d ∧ F = F1 ++ F2 ∧ (∀ y ∈ F1, y ∉ F2) ∧ K.ow w x.1 c F1 ∧ L.ow w x.2 d F2
  rd_len := by rintro _ _ _ _ ⟨c, d, rfl, h1, h2⟩; rw [List.length_append, K.rd_len h1, L.rd_len h2]
  rd_to := by rintro _ _ _ _ _ _ ⟨c, d, rfl, h1, h2⟩ hb hB; exact ⟨c, d, rfl, K.rd_to h1 hb hB, L.rd_to h2 hb hB⟩
  ow_rd := by rintro _ _ _ _ ⟨c, d, _, _, rfl, rfl, _, h1, h2⟩; exact ⟨c, d, rfl, K.ow_rd h1, L.ow_rd h2⟩
  ow_chg := by
    rintro _ _ _ _ _ _ ⟨c, d, F1, F2, rfl, rfl, hdj, h1, h2⟩ hc hd
    exact ⟨c, d, F1, F2, rfl, rfl, hdj, K.ow_chg h1 hc (fun y hy => hd y (List.mem_append_left _ hy)), L.ow_chg h2 hc (fun y hy => hd y (List.mem_append_right _ hy))⟩
  ow_lt := by
    rintro _ _ _ _ ⟨c, d, F1, F2, rfl, rfl, _, h1, h2⟩ y hy
    rcases List.mem_append.1 hy with hy | hy
    · exact K.ow_lt h1 y hy
    · exact L.ow_lt h2 y hy
/-- The same kind, of other data. -/
def via (K : Kd α) (f : β → α) : Kd β where
  sz := K.sz
  rd B w x cs := K.rd B w (f x) cs
  ow w x cs F := K.ow w (f x) cs F
  rd_len := K.rd_len
  rd_to := K.rd_to
  ow_rd := K.ow_rd
  ow_chg := K.ow_chg
  ow_lt := K.ow_lt
end Kd
def kInt : Kd Int := Kd.one (.int .i64 ·)
def kStr : Kd ByteArray := Kd.one (.string ·)
def kBool : Kd Bool := Kd.one (.bool ·)
/-- Lists of ints: as they were. -/
theorem kInt_rd {B : Nat} {w : World} {v : Value} {xs : List Int} : kInt.Rd B w v xs ↔ Sl 1 intCells B w v xs := by
  constructor
  · rintro ⟨p, cap, h1, h2, h3, h4⟩
    refine ⟨p, _, cap, h1, rfl, h2, h3, fun i hi => ?_⟩
    obtain ⟨b, off, cs, e, hl, hc, rfl⟩ := h4 i hi
    exact ⟨b, off, e, hl, hc⟩
  · rintro ⟨p, len, cap, h1, rfl, h2, h3, h4⟩
    refine ⟨p, cap, h1, h2, h3, fun i hi => ?_⟩
    obtain ⟨b, off, e, hl, hc⟩ := h4 i hi
    exact ⟨b, off, _, e, hl, hc, rfl⟩
theorem kInt_orow {w : World} : ∀ {xs : List Int} {c : Nat → Option Value} {F : List Nat}, kInt.ORow w xs c F ↔ F = [] ∧ ∀ i (h : i < xs.length), c i = some (.int .i64 xs[i])
  | [], c, F => by
    constructor
    · intro h; exact ⟨h, fun i hi => by simp at hi⟩
    · intro h; exact h.1
  | x :: xs, c, F => by
    constructor
    · rintro ⟨cs, F1, F2, rfl, _, h0, ⟨rfl, rfl⟩, h2⟩
      obtain ⟨rfl, h3⟩ := kInt_orow.1 h2
      refine ⟨rfl, fun i hi => ?_⟩
      cases i with
      | zero => exact h0 0 _ rfl
      | succ i => exact h3 i (by simpa using hi)
    · rintro ⟨rfl, h⟩
      refine ⟨[.int .i64 x], [], [], rfl, by simp, fun j u hu => ?_, ⟨rfl, rfl⟩, kInt_orow.2 ⟨rfl, fun i hi => ?_⟩⟩
      · cases j with
        | zero => simp at hu; subst hu; exact h 0 (by simp)
        | succ j => simp at hu
      · exact h (i + 1) (by simpa using hi)
theorem kInt_ow {w : World} {v : Value} {xs : List Int} {F : List Nat} : kInt.Ow w v xs F ↔ OwnSl 1 intCells w v xs F := by
  constructor
  · rintro ⟨p, cap, h1, h2, h3, h4⟩
    refine ⟨p, _, cap, h1, rfl, h2, h3, ?_⟩
    rcases h4 with ⟨rfl, rfl⟩ | ⟨b, off, F', e, rfl, hn, hlt, hf, ho⟩
    · exact .inl ⟨rfl, rfl⟩
    · obtain ⟨rfl, h5⟩ := kInt_orow.1 ho
      refine .inr ⟨b, off, e, rfl, hlt, hf, fun i hi j x hx => ?_⟩
      cases j with
      | zero => simp [intCells] at hx; subst hx; simpa using h5 i hi
      | succ j => simp [intCells] at hx
  · rintro ⟨p, len, cap, h1, rfl, h2, h3, h4⟩
    refine ⟨p, cap, h1, h2, h3, ?_⟩
    rcases h4 with ⟨rfl, rfl⟩ | ⟨b, off, e, rfl, hlt, hf, h5⟩
    · exact .inl ⟨rfl, rfl⟩
    · refine .inr ⟨b, off, [], e, rfl, by simp, hlt, hf, kInt_orow.2 ⟨rfl, fun i hi => ?_⟩⟩
      have := h5 i hi 0 _ rfl
      simpa using this
end Go.Proofs.Ytfdkmngkpihpbaa
namespace Go.Proofs.Ytfdkmngkpihpbaa
open Go.RowKit

/-- The first k of a row lie in the block b. -/
def KInv {α : Type} (K : Kd α) (xs : List α) (T : TypeId) (b : Nat) (k : Nat) (wr : World) : Prop :=
  ∃ (L : List Value) (F : List Nat), L.length = xs.length * K.sz ∧ K.ORow wr (xs.take k) (fun i => L[i]?) F ∧ (∀ y ∈ F, b < y) ∧ Blk wr b T L
section
variable {α : Type} {K : Kd α} {xs : List α} {T : TypeId} {b k : Nat} {wr w1 w2 : World}
theorem KInv.zero {L : List Value} (hL : L.length = xs.length * K.sz) (hb : Blk wr b T L) : KInv K xs T b 0 wr := ⟨L, [], hL, by simp [Kd.ORow], by simp, hb⟩
theorem KInv.lt (h : KInv K xs T b k wr) : b < wr.heap.size := by
  obtain ⟨L, F, _, _, _, h6⟩ := h; exact h6.lt
theorem KInv.cells (h : KInv K xs T b k wr) (i : Nat) (hi : i < xs.length * K.sz) : (∃ x, wr.cell? ⟨b, i, none⟩ = some x) ∧ wr.frozen? ⟨b, i, none⟩ = false := by
  obtain ⟨L, F, h3, _, _, h6⟩ := h
  exact ⟨⟨_, (h6.cell i).trans (List.getElem?_eq_getElem (by omega))⟩, h6.frozen i⟩
/-- What a store of an element does to the block: its cells, and the others stay. -/
def Stores (T : TypeId) (b o n : Nat) (cs : List Value) (w1 w2 : World) : Prop :=
  Chg [b] w1 w2 ∧ ∀ L, Blk w1 b T L → o + n ≤ L.length → ∃ L', Blk w2 b T L' ∧ L'.length = L.length ∧ (∀ i, i < o ∨ o + n ≤ i → L'[i]? = L[i]?) ∧ ∀ j u, cs[j]? = some u → L'[o + j]? = some u
theorem KInv.step (h : KInv K xs T b k wr) (hk : k < xs.length) (hb : Below wr.heap.size wr w1) {cs : List Value} {F' : List Nat} (ho : K.ow w1 xs[k] cs F') (hF : ∀ y ∈ F', wr.heap.size ≤ y) (hs : Stores T b (k * K.sz) K.sz cs w1 w2) :
    KInv K xs T b (k + 1) w2 := by
  have hlt := h.lt
  obtain ⟨L, F, h1, h2, h3, h4⟩ := h
  have hsz : k * K.sz + K.sz ≤ xs.length * K.sz := by rw [← Nat.succ_mul]; exact Nat.mul_le_mul_right _ hk
  obtain ⟨L', g1, g2, g3, g4⟩ := hs.2 L (h4.below hb hlt) (by omega)
  have hch0 : Chg [b] wr w2 := (Chg.of_below hb _).trans hs.1
  refine ⟨L', F ++ F', by omega, ?_, ?_, g1⟩
  · rw [List.take_succ_eq_append_getElem hk]
    have htl : (xs.take k).length = k := by simp; omega
    refine Kd.orow_app.2 ⟨F, F', rfl, fun y hy hy2 => ?_, h2.chg hch0 (fun y hy => by have := h3 y hy; simp; omega) fun i hi => ?_, ?_⟩
    · have := h2.lt y hy; have := hF y hy2; omega
    · rw [htl] at hi
      exact g3 i (.inl hi)
    · rw [htl]
      refine ⟨cs, F', [], by simp, by simp, fun j u hu => ?_, K.ow_chg ho hs.1 (fun y hy => by have := hF y hy; simp; omega), rfl⟩
      show L'[j + k * K.sz]? = some u
      rw [Nat.add_comm]
      exact g4 j u hu
  · intro y hy
    rcases List.mem_append.1 hy with hy | hy
    · exact h3 y hy
    · have := hF y hy; omega
theorem KInv.done (h : KInv K xs T b xs.length wr) (hm : xs.length ≤ maxLen) : ∃ F, K.Ow wr (.slice (some ⟨b, 0, none⟩) xs.length xs.length) xs F ∧ ∀ y ∈ F, b ≤ y := by
  obtain ⟨L, F, h1, h2, h3, h4⟩ := h
  rw [List.take_length] at h2
  by_cases he : xs = []
  · exact ⟨[], ⟨_, _, rfl, Nat.le_refl _, hm, .inl ⟨he, rfl⟩⟩, by simp⟩
  · refine ⟨b :: F, ⟨_, _, rfl, Nat.le_refl _, hm, .inr ⟨b, 0, F, rfl, rfl, fun hx => by have := h3 b hx; omega, h4.lt, fun o => h4.frozen o, h2.chg (Chg.refl [] wr) (by simp) fun i _ => by rw [Nat.zero_add]; exact h4.cell i⟩⟩, ?_⟩
    intro y hy
    rcases List.mem_cons.1 hy with rfl | hy
    · exact Nat.le_refl _
    · exact Nat.le_of_lt (h3 y hy)
end
/-- Stores of three cells. -/
theorem stores3 {T : TypeId} {b o : Nat} {x y z : Value} {w : World} : Stores T b o 3 [x, y, z] w (((w.setCell ⟨b, o, none⟩ x).setCell ⟨b, o + 1, none⟩ y).setCell ⟨b, o + 2, none⟩ z) := by
  refine ⟨(((Chg.refl _ w).setCell (by simp) _).setCell (by simp) _).setCell (by simp) _, fun L hL hl => ⟨((L.set o x).set (o + 1) y).set (o + 2) z, ((hL.set _ _).set _ _).set _ _, by simp, fun i hi => ?_, fun j u hu => ?_⟩⟩
  · rw [List.getElem?_set_ne (by omega), List.getElem?_set_ne (by omega), List.getElem?_set_ne (by omega)]
  · match j, hu with
    | 0, hu =>
      simp at hu; subst hu
      rw [List.getElem?_set_ne (by omega), List.getElem?_set_ne (by omega), Nat.add_zero, List.getElem?_set_self (by omega)]
    | 1, hu =>
      simp at hu; subst hu
      rw [List.getElem?_set_ne (by omega), List.getElem?_set_self (by simp; omega)]
    | 2, hu =>
      simp at hu; subst hu
      rw [List.getElem?_set_self (by simp; omega)]
    | j + 3, hu => simp at hu
end Go.Proofs.Ytfdkmngkpihpbaa
namespace Go.Proofs.Ytfdkmngkpihpbaa
open Go.RowKit

theorem Sl.it {B : Nat} {w : World} {p : Option Addr} {len cap : Nat} {xs : List Int} (h : Sl 1 intCells B w (.slice p len cap) xs) {k : Nat} (hk : k < xs.length) :
    ∃ b off, p = some ⟨b, off, none⟩ ∧ b < B ∧ w.cell? ⟨b, off + k, none⟩ = some (.int .i64 xs[k]) := by
  obtain ⟨p', len', cap', h1, h2, h3, h4, h5⟩ := h
  cases h1
  obtain ⟨b, off, e1, e2, e3⟩ := h5 k hk
  have := e3 0 _ rfl
  rw [Nat.mul_one, Nat.add_zero] at this
  exact ⟨b, off, e1, e2, this⟩

set_option maxRecDepth 100000 in
set_option maxHeartbeats 2000000 in
theorem heldIntS_any (n : Nat) (v : Value) (m : Int) (B : Nat) (w : World) (hv : Sl 1 intCells B w v ((List.range n).map (mkInt m))) (hB : B ≤ w.heap.size) (hm : 1 ≤ m) (hb : m + (n : Int) ≤ 100000000) :
    Calls Try.prog 107 #[v, .int .i64 m] w fun e w' => e = .returned (.int .i64 (m + (n : Int))) ∧ Below w.heap.size w w' := by
  obtain ⟨p, cap, hve⟩ := hv.form
  rw [show ((List.range n).map (mkInt m)).length = n by simp] at hve
  subst hve
  go_enter Try.func107, Try.ntmps107
  go_wp2_with fail
  go_loopw [1, 5] (fun kk i wr => ∃ k : Nat, k ≤ n ∧ i = .int .i64 k ∧ kk = .int .i64 (m + (k : Int)) ∧ Below w.heap.size w wr) (fun _ i _ => n - (intOf i).toNat)
  case atStart => exact ⟨0, Nat.zero_le _, rfl, by simp, Below.refl _ _⟩
  case round =>
    obtain ⟨k, hk, rfl, rfl, hbw⟩ := hrel
    have hsz := hbw.size
    have HB := Lib.hid hbw
    clear hbw
    by_cases hlt : k < n
    · skip
      obtain ⟨b, off, rfl, hb', c0⟩ := (hv.below (HB.out.mono hB)).it (k := k) (by simpa using hlt)
      rw [show ((List.range n).map (mkInt m))[k]'(by simpa using hlt) = mkInt m k by simp] at c0
      have d0 : wr.cell? ⟨b, off + k, none⟩ = some (.int .i64 ((m + (k : Int)))) := c0
      clear c0
      go_wp2_with fail
      go_roundw
      case rel => exact ⟨k + 1, by omega, by go_num, congrArg (Value.int .i64) (by omega), HB.out⟩
      case measure => simp [intOf]; omega
    · obtain rfl : k = n := by omega
      go_wp2_with fail
      go_ret
      exact ⟨rfl, HB.out⟩
end Go.Proofs.Ytfdkmngkpihpbaa
namespace Go.Proofs.Ytfdkmngkpihpbaa
open Go.RowKit

def Gr.marked (g : Gr) (m : Int) : Gr := ⟨(List.range g.ns.length).map (mkNode m), (List.range g.es.length).map (mkEdge (m + 2 * g.ns.length))⟩

set_option maxRecDepth 100000 in
set_option maxHeartbeats 1000000 in
theorem eqIntS_any (xs : List Int) (v v' : Value) (B : Nat) (w : World) (hv : Sl 1 intCells B w v xs) (hv' : Sl 1 intCells B w v' xs) (hB : B ≤ w.heap.size) :
    Calls Try.prog 84 #[v, v'] w fun e w' => e = .returned (.bool true) ∧ Below w.heap.size w w' := by
  obtain ⟨p, cap, rfl⟩ := hv.form
  obtain ⟨p', cap', rfl⟩ := hv'.form
  have hm := hv.max
  have hm' := hv'.max
  unfold maxLen at hm hm'
  go_enter Try.func84, Try.ntmps84
  go_wp2_with fail
  go_loopw [5] (fun i wr => ∃ k : Nat, k ≤ xs.length ∧ i = .int .i64 k ∧ Below w.heap.size w wr) (fun i _ => xs.length - (intOf i).toNat)
  case atStart => exact ⟨0, Nat.zero_le _, rfl, Below.refl _ _⟩
  case round =>
    obtain ⟨k, hk, rfl, hbw⟩ := hrel
    have hsz := hbw.size
    have HB := Lib.hid hbw
    clear hbw
    by_cases hlt2 : k < xs.length
    · obtain ⟨b, off, rfl, hb, c0⟩ := (hv.below (HB.out.mono hB)).it hlt2
      obtain ⟨b', off', rfl, hb', d0⟩ := (hv'.below (HB.out.mono hB)).it hlt2
      obtain ⟨x, ex⟩ : ∃ x, x = xs[k] := ⟨_, rfl⟩
      rw [← ex] at c0 d0
      clear ex
      go_wp2_with fail
      go_still_tail 8, (by kernel_rfl)
      go_wp2_with fail
      go_roundw
      case rel => exact ⟨k + 1, by omega, by go_num, HB.out.drew⟩
      case measure => simp [intOf]; omega
    · obtain rfl : k = xs.length := by omega
      go_wp2_with fail
      go_ret
      exact ⟨rfl, HB.out⟩
end Go.Proofs.Ytfdkmngkpihpbaa
namespace Go.Proofs.Ytfdkmngkpihpbaa
open Go.RowKit

/-- A row of expressions: none, or one with its parts, and the row behind it. -/
inductive Fo where
  | nil : Fo
  | cons (op : Int) (a : ByteArray) (ks : Fo) (r : Fo) : Fo
structure Ex where
  op : Int
  a : ByteArray
  ks : Fo
def Fo.list : Fo → List Ex
  | .nil => []
  | .cons o a k r => ⟨o, a, k⟩ :: r.list
def Fo.of : List Ex → Fo
  | [] => .nil
  | e :: l => .cons e.op e.a e.ks (Fo.of l)
theorem Fo.list_of (l : List Ex) : (Fo.of l).list = l := by
  induction l with
  | nil => rfl
  | cons e l ih => simp only [Fo.of, Fo.list, ih]
theorem Fo.of_list (f : Fo) : Fo.of f.list = f := by
  induction f with
  | nil => rfl
  | cons o a k r _ ih => simp only [Fo.of, Fo.list, ih]
/-- How many expressions there are, at all levels. -/
def Fo.size : Fo → Nat
  | .nil => 0
  | .cons _ _ k r => k.size + r.size + 1
def Fo.app : Fo → Fo → Fo
  | .nil, g => g
  | .cons o a k r, g => .cons o a k (r.app g)
theorem Fo.list_app (f g : Fo) : (f.app g).list = f.list ++ g.list := by
  induction f with
  | nil => rfl
  | cons o a k r _ ih => simp only [Fo.app, Fo.list, ih]; rfl
theorem Fo.size_app (f g : Fo) : (f.app g).size = f.size + g.size := by
  induction f with
  | nil => simp [Fo.app, Fo.size]
  | cons o a k r _ ih => simp only [Fo.app, Fo.size, ih]; omega
theorem Fo.len_le (f : Fo) : f.list.length ≤ f.size := by
  induction f with
  | nil => exact Nat.le_refl _
  | cons o a k r _ ih => simp only [Fo.list, Fo.size, List.length_cons]; omega
/-- A row parts at each place. -/
theorem Fo.part (f : Fo) (k : Nat) (hk : k < f.list.length) : ∃ (g : Fo) (e : Ex) (h : Fo), f = g.app (.cons e.op e.a e.ks h) ∧ g.list.length = k ∧ e = f.list[k] := by
  induction f generalizing k with
  | nil => simp [Fo.list] at hk
  | cons o a ks r _ ih =>
    cases k with
    | zero => exact ⟨.nil, ⟨o, a, ks⟩, r, rfl, rfl, rfl⟩
    | succ k =>
      obtain ⟨g, e, h, h1, h2, h3⟩ := ih k (by simpa [Fo.list] using hk)
      refine ⟨.cons o a ks g, e, h, by rw [h1]; rfl, by simp [Fo.list, h2], ?_⟩
      rw [h3]; simp [Fo.list]
theorem Fo.size_get (f : Fo) (k : Nat) (hk : k < f.list.length) : f.list[k].ks.size < f.size := by
  obtain ⟨g, e, h, h1, _, h3⟩ := f.part k hk
  rw [← h3]
  have : f.size = (g.app (.cons e.op e.a e.ks h)).size := by rw [← h1]
  rw [this, Fo.size_app]
  simp only [Fo.size]; omega
def Ex.Ok (e : Ex) : Prop := I64 e.op ∧ e.a.size ≤ maxLen
def Fo.Ok : Fo → Prop
  | .nil => True
  | .cons o a k r => I64 o ∧ a.size ≤ maxLen ∧ k.Ok ∧ r.Ok
theorem Fo.ok_get (f : Fo) (h : f.Ok) (k : Nat) (hk : k < f.list.length) : I64 f.list[k].op ∧ f.list[k].a.size ≤ maxLen ∧ f.list[k].ks.Ok := by
  induction f generalizing k with
  | nil => simp [Fo.list] at hk
  | cons o a ks r _ ih =>
    obtain ⟨h1, h2, h3, h4⟩ := h
    cases k with
    | zero => exact ⟨h1, h2, h3⟩
    | succ k => simpa [Fo.list] using ih h4 k (by simpa [Fo.list] using hk)

/-- The row's cells, from a place on; its parts' rows lie below B. -/
def Fo.Row (B : Nat) (w : World) : Fo → Nat → Nat → Prop
  | .nil, _, _ => True
  | .cons o a k r, b, off => w.cell? ⟨b, off, none⟩ = some (.int .i64 o) ∧ w.cell? ⟨b, off + 1, none⟩ = some (.string a) ∧
      (∃ (p : Option Addr) (cap : Nat), w.cell? ⟨b, off + 2, none⟩ = some (.slice p k.list.length cap) ∧ k.list.length ≤ cap ∧ cap ≤ maxLen ∧
        (k.list = [] ∨ ∃ b' off', p = some ⟨b', off', none⟩ ∧ b' < B ∧ Fo.Row B w k b' off')) ∧ Fo.Row B w r b (off + 3)
/-- The slice v reads as the row f. -/
def Fo.In (B : Nat) (w : World) (f : Fo) (v : Value) : Prop :=
  ∃ (p : Option Addr) (cap : Nat), v = .slice p f.list.length cap ∧ f.list.length ≤ cap ∧ cap ≤ maxLen ∧ (f.list = [] ∨ ∃ b off, p = some ⟨b, off, none⟩ ∧ b < B ∧ f.Row B w b off)
theorem Fo.row_cons {B : Nat} {w : World} {o : Int} {a : ByteArray} {k r : Fo} {b off : Nat} :
    (Fo.cons o a k r).Row B w b off ↔ w.cell? ⟨b, off, none⟩ = some (.int .i64 o) ∧ w.cell? ⟨b, off + 1, none⟩ = some (.string a) ∧ (∃ v, w.cell? ⟨b, off + 2, none⟩ = some v ∧ k.In B w v) ∧ r.Row B w b (off + 3) := by
  constructor
  · rintro ⟨h1, h2, ⟨p, cap, h3, h4⟩, h5⟩; exact ⟨h1, h2, ⟨_, h3, p, cap, rfl, h4⟩, h5⟩
  · rintro ⟨h1, h2, ⟨_, h3, p, cap, rfl, h4⟩, h5⟩; exact ⟨h1, h2, ⟨p, cap, h3, h4⟩, h5⟩
theorem Fo.Row.below {B B' : Nat} {w w' : World} (hb : Below B w w') (hB : B ≤ B') {f : Fo} : ∀ {b off : Nat}, b < B → f.Row B w b off → f.Row B' w' b off := by
  induction f with
  | nil => intro b off _ _; trivial
  | cons o a k r ihk ihr =>
    intro b off hlt h
    obtain ⟨h1, h2, ⟨p, cap, h3, h4, h5, h6⟩, h7⟩ := h
    refine ⟨keepc hb hlt h1, keepc hb hlt h2, ⟨p, cap, keepc hb hlt h3, h4, h5, ?_⟩, ihr hlt h7⟩
    rcases h6 with h6 | ⟨b', off', e, hl, h6⟩
    · exact .inl h6
    · exact .inr ⟨b', off', e, by omega, ihk hl h6⟩
theorem Fo.In.below {B B' : Nat} {w w' : World} {f : Fo} {v : Value} (h : f.In B w v) (hb : Below B w w') (hB : B ≤ B') : f.In B' w' v := by
  obtain ⟨p, cap, h1, h2, h3, h4⟩ := h
  refine ⟨p, cap, h1, h2, h3, ?_⟩
  rcases h4 with h4 | ⟨b, off, e, hl, h4⟩
  · exact .inl h4
  · exact .inr ⟨b, off, e, by omega, h4.below hb hB hl⟩
theorem Fo.In.form {B : Nat} {w : World} {f : Fo} {v : Value} (h : f.In B w v) : ∃ p cap, v = .slice p f.list.length cap := by
  obtain ⟨p, cap, h1, _⟩ := h; exact ⟨p, cap, h1⟩
theorem Fo.In.max {B : Nat} {w : World} {f : Fo} {p : Option Addr} {n cap : Nat} (h : f.In B w (.slice p n cap)) : n = f.list.length ∧ n ≤ cap ∧ cap ≤ maxLen := by
  obtain ⟨p', cap', h1, h2, h3, _⟩ := h
  cases h1; exact ⟨rfl, h2, h3⟩
theorem Fo.Row.get {B : Nat} {w : World} {f : Fo} : ∀ {b off : Nat}, f.Row B w b off → ∀ (k : Nat) (hk : k < f.list.length),
    w.cell? ⟨b, off + k * 3, none⟩ = some (.int .i64 f.list[k].op) ∧ w.cell? ⟨b, off + k * 3 + 1, none⟩ = some (.string f.list[k].a) ∧ ∃ v, w.cell? ⟨b, off + k * 3 + 2, none⟩ = some v ∧ f.list[k].ks.In B w v := by
  induction f with
  | nil => intro b off _ k hk; simp [Fo.list] at hk
  | cons o a ks r _ ih =>
    intro b off h k hk
    obtain ⟨h1, h2, h3, h4⟩ := Fo.row_cons.1 h
    cases k with
    | zero => rw [Nat.zero_mul, Nat.add_zero]; exact ⟨h1, h2, h3⟩
    | succ k =>
      have := ih h4 k (by simpa [Fo.list] using hk)
      rw [show off + 3 + k * 3 = off + (k + 1) * 3 by omega] at this
      simpa [Fo.list] using this
/-- An element's cells, at an index. -/
theorem Fo.In.get {B : Nat} {w : World} {f : Fo} {p : Option Addr} {n cap : Nat} (h : f.In B w (.slice p n cap)) (k : Nat) (hk : k < f.list.length) :
    ∃ b off q m c, p = some ⟨b, off, none⟩ ∧ b < B ∧ w.cell? ⟨b, off + k * 3, none⟩ = some (.int .i64 f.list[k].op) ∧ w.cell? ⟨b, off + k * 3 + 1, none⟩ = some (.string f.list[k].a) ∧
      w.cell? ⟨b, off + k * 3 + 2, none⟩ = some (.slice q m c) ∧ f.list[k].ks.In B w (.slice q m c) := by
  obtain ⟨p', cap', h1, h2, h3, h4⟩ := h
  cases h1
  rcases h4 with h4 | ⟨b, off, e, hl, h4⟩
  · rw [h4] at hk; simp at hk
  · obtain ⟨g1, g2, v, g3, g4⟩ := h4.get k hk
    obtain ⟨q, c, rfl⟩ := g4.form
    exact ⟨b, off, q, _, c, e, hl, g1, g2, g3, g4⟩
/-- The value of a struct Expr. -/
def Ex.At (e : Ex) (B : Nat) (w : World) (v : Value) : Prop := ∃ k, v = .agg #[.int .i64 e.op, .string e.a, k] ∧ e.ks.In B w k
theorem Ex.At.below {e : Ex} {B B' : Nat} {w w' : World} {v : Value} (h : e.At B w v) (hb : Below B w w') (hB : B ≤ B') : e.At B' w' v := by
  obtain ⟨k, h1, h2⟩ := h; exact ⟨k, h1, h2.below hb hB⟩
theorem Fo.of_row {B : Nat} {w : World} {b : Nat} (l : List Ex) : ∀ (off : Nat), (∀ (i : Nat) (h : i < l.length), w.cell? ⟨b, off + i * 3, none⟩ = some (.int .i64 l[i].op) ∧ w.cell? ⟨b, off + i * 3 + 1, none⟩ = some (.string l[i].a) ∧ ∃ v, w.cell? ⟨b, off + i * 3 + 2, none⟩ = some v ∧ l[i].ks.In B w v) →
    (Fo.of l).Row B w b off := by
  induction l with
  | nil => intro off _; trivial
  | cons e l ih =>
    intro off h
    have h0 := h 0 (by simp)
    simp only [List.getElem_cons_zero, Nat.zero_mul, Nat.add_zero] at h0
    refine Fo.row_cons.2 ⟨h0.1, h0.2.1, h0.2.2, ih (off + 3) fun i hi => ?_⟩
    have := h (i + 1) (by simpa using hi)
    rw [show off + (i + 1) * 3 = off + 3 + i * 3 by omega] at this
    simpa using this

/-- The row's cells by their places; its parts' rows are memory of the call's own, in the blocks F. -/
def Fo.ORow (w : World) : Fo → (Nat → Option Value) → List Nat → Prop
  | .nil, _, F => F = []
  | .cons o a k r, c, F => c 0 = some (.int .i64 o) ∧ c 1 = some (.string a) ∧ ∃ (p : Option Addr) (cap : Nat) (F1 F2 : List Nat), F = F1 ++ F2 ∧ (∀ x ∈ F1, x ∉ F2) ∧
      c 2 = some (.slice p k.list.length cap) ∧ k.list.length ≤ cap ∧ cap ≤ maxLen ∧
      ((k.list = [] ∧ F1 = []) ∨ ∃ b F', p = some ⟨b, 0, none⟩ ∧ F1 = b :: F' ∧ b ∉ F' ∧ b < w.heap.size ∧ (∀ o, w.frozen? ⟨b, o, none⟩ = false) ∧ Fo.ORow w k (fun i => w.cell? ⟨b, i, none⟩) F') ∧
      Fo.ORow w r (fun i => c (i + 3)) F2
/-- The slice v is the row f in memory of the call's own: not frozen, in the blocks F. -/
def Fo.Own (w : World) (f : Fo) (v : Value) (F : List Nat) : Prop :=
  ∃ (p : Option Addr) (cap : Nat), v = .slice p f.list.length cap ∧ f.list.length ≤ cap ∧ cap ≤ maxLen ∧
    ((f.list = [] ∧ F = []) ∨ ∃ b F', p = some ⟨b, 0, none⟩ ∧ F = b :: F' ∧ b ∉ F' ∧ b < w.heap.size ∧ (∀ o, w.frozen? ⟨b, o, none⟩ = false) ∧ f.ORow w (fun i => w.cell? ⟨b, i, none⟩) F')
theorem Fo.orow_cons {w : World} {o : Int} {a : ByteArray} {k r : Fo} {c : Nat → Option Value} {F : List Nat} :
    (Fo.cons o a k r).ORow w c F ↔ c 0 = some (.int .i64 o) ∧ c 1 = some (.string a) ∧ ∃ v F1 F2, F = F1 ++ F2 ∧ (∀ x ∈ F1, x ∉ F2) ∧ c 2 = some v ∧ k.Own w v F1 ∧ r.ORow w (fun i => c (i + 3)) F2 := by
  constructor
  · rintro ⟨h1, h2, p, cap, F1, F2, h3, h4, h5, h6, h7, h8, h9⟩; exact ⟨h1, h2, _, F1, F2, h3, h4, h5, ⟨p, cap, rfl, h6, h7, h8⟩, h9⟩
  · rintro ⟨h1, h2, _, F1, F2, h3, h4, h5, ⟨p, cap, rfl, h6, h7, h8⟩, h9⟩; exact ⟨h1, h2, p, cap, F1, F2, h3, h4, h5, h6, h7, h8, h9⟩
theorem Fo.ORow.lt {w : World} {f : Fo} : ∀ {c : Nat → Option Value} {F : List Nat}, f.ORow w c F → ∀ x ∈ F, x < w.heap.size := by
  induction f with
  | nil => intro c F h; cases h; simp
  | cons o a k r ihk ihr =>
    intro c F h x hx
    obtain ⟨h1, h2, p, cap, F1, F2, rfl, h4, h5, h6, h7, h8, h9⟩ := h
    rcases List.mem_append.1 hx with hx | hx
    · rcases h8 with ⟨_, rfl⟩ | ⟨b, F', e, rfl, h10, h11, h12, h13⟩
      · simp at hx
      · rcases List.mem_cons.1 hx with rfl | hx
        · exact h11
        · exact ihk h13 x hx
    · exact ihr h9 x hx
theorem Fo.Own.lt {w : World} {f : Fo} {v : Value} {F : List Nat} (h : f.Own w v F) : ∀ x ∈ F, x < w.heap.size := by
  obtain ⟨p, cap, h1, h2, h3, h4⟩ := h
  rcases h4 with ⟨_, rfl⟩ | ⟨b, F', e, rfl, h5, h6, h7, h8⟩
  · simp
  · intro x hx
    rcases List.mem_cons.1 hx with rfl | hx
    · exact h6
    · exact h8.lt x hx
theorem Fo.ORow.row {w : World} {f : Fo} : ∀ {b off : Nat} {c : Nat → Option Value} {F : List Nat}, f.ORow w c F → (∀ i, i < f.list.length * 3 → c i = w.cell? ⟨b, off + i, none⟩) → f.Row w.heap.size w b off := by
  induction f with
  | nil => intros; trivial
  | cons o a k r ihk ihr =>
    intro b off c F h hc
    obtain ⟨h1, h2, p, cap, F1, F2, h3, h4, h5, h6, h7, h8, h9⟩ := h
    simp only [Fo.list, List.length_cons] at hc
    refine ⟨(hc 0 (by omega)).symm.trans h1, (hc 1 (by omega)).symm.trans h2, ⟨p, cap, (hc 2 (by omega)).symm.trans h5, h6, h7, ?_⟩, ihr h9 fun i hi => ?_⟩
    · rcases h8 with ⟨h8, _⟩ | ⟨b', F', e, h10, h11, h12, h13, h14⟩
      · exact .inl h8
      · exact .inr ⟨b', 0, e, h12, ihk h14 fun i _ => by rw [Nat.zero_add]⟩
    · rw [hc (i + 3) (by omega), show off + 3 + i = off + (i + 3) by omega]
theorem Fo.Own.in {w : World} {f : Fo} {v : Value} {F : List Nat} (h : f.Own w v F) : f.In w.heap.size w v := by
  obtain ⟨p, cap, h1, h2, h3, h4⟩ := h
  refine ⟨p, cap, h1, h2, h3, ?_⟩
  rcases h4 with ⟨h4, _⟩ | ⟨b, F', e, _, _, h6, h7, h8⟩
  · exact .inl h4
  · exact .inr ⟨b, 0, e, h6, h8.row fun i _ => by rw [Nat.zero_add]⟩
theorem Fo.ORow.chg {w w' : World} {G : List Nat} (hc : Chg G w w') {f : Fo} : ∀ {c c' : Nat → Option Value} {F : List Nat}, f.ORow w c F → (∀ x ∈ F, x ∉ G) → (∀ i, i < f.list.length * 3 → c' i = c i) → f.ORow w' c' F := by
  induction f with
  | nil => intro c c' F h _ _; exact h
  | cons o a k r ihk ihr =>
    intro c c' F h hd he
    obtain ⟨h1, h2, p, cap, F1, F2, rfl, h4, h5, h6, h7, h8, h9⟩ := h
    simp only [Fo.list, List.length_cons] at he
    refine ⟨(he 0 (by omega)).trans h1, (he 1 (by omega)).trans h2, p, cap, F1, F2, rfl, h4, (he 2 (by omega)).trans h5, h6, h7, ?_, ihr h9 (fun x hx => hd x (List.mem_append_right _ hx)) fun i hi => he (i + 3) (by omega)⟩
    rcases h8 with h8 | ⟨b, F', e, rfl, h10, h11, h12, h13⟩
    · exact .inl h8
    · have hb := hc.block b h11 (hd b (by simp))
      refine .inr ⟨b, F', e, rfl, h10, Nat.lt_of_lt_of_le h11 hc.size, fun o => (World.frozen?_of_block (w := w) (a := ⟨b, o, none⟩) hb).trans (h12 o), ihk h13 (fun x hx => hd x (by simp [hx])) fun i _ => World.cell?_of_block (w := w) (a := ⟨b, i, none⟩) hb⟩
theorem Fo.Own.chg {w w' : World} {G : List Nat} {f : Fo} {v : Value} {F : List Nat} (h : f.Own w v F) (hc : Chg G w w') (hd : ∀ x ∈ F, x ∉ G) : f.Own w' v F := by
  obtain ⟨p, cap, h1, h2, h3, h4⟩ := h
  refine ⟨p, cap, h1, h2, h3, ?_⟩
  rcases h4 with h4 | ⟨b, F', e, rfl, h5, h6, h7, h8⟩
  · exact .inl h4
  · have hb := hc.block b h6 (hd b (by simp))
    exact .inr ⟨b, F', e, rfl, h5, Nat.lt_of_lt_of_le h6 hc.size, fun o => (World.frozen?_of_block (w := w) (a := ⟨b, o, none⟩) hb).trans (h7 o), h8.chg hc (fun x hx => hd x (by simp [hx])) fun i _ => World.cell?_of_block (w := w) (a := ⟨b, i, none⟩) hb⟩
theorem Fo.Own.below {w w' : World} {f : Fo} {v : Value} {F : List Nat} (h : f.Own w v F) (hc : Below w.heap.size w w') : f.Own w' v F := h.chg (Chg.of_below hc []) (by simp)
/-- A row is two rows, one behind the other. -/
theorem Fo.orow_app {w : World} {f g : Fo} : ∀ {c : Nat → Option Value} {F : List Nat}, (f.app g).ORow w c F ↔ ∃ F1 F2, F = F1 ++ F2 ∧ (∀ x ∈ F1, x ∉ F2) ∧ f.ORow w c F1 ∧ g.ORow w (fun i => c (i + f.list.length * 3)) F2 := by
  induction f with
  | nil =>
    intro c F
    constructor
    · intro h; exact ⟨[], F, rfl, by simp, rfl, h⟩
    · rintro ⟨F1, F2, rfl, _, h1, h2⟩; cases h1; exact h2
  | cons o a k r _ ih =>
    intro c F
    constructor
    · intro h
      obtain ⟨h1, h2, v, F1, F2, rfl, h4, h5, h6, h7⟩ := Fo.orow_cons.1 h
      obtain ⟨F3, F4, rfl, h8, h9, h10⟩ := ih.1 h7
      refine ⟨F1 ++ F3, F4, (List.append_assoc _ _ _).symm, fun x hx hx4 => ?_, Fo.orow_cons.2 ⟨h1, h2, v, F1, F3, rfl, fun x hx hx3 => h4 x hx (List.mem_append_left _ hx3), h5, h6, h9⟩, ?_⟩
      · rcases List.mem_append.1 hx with hx | hx
        · exact h4 x hx (List.mem_append_right _ hx4)
        · exact h8 x hx hx4
      · have e : (fun i => c (i + (Fo.cons o a k r).list.length * 3)) = fun i => c (i + r.list.length * 3 + 3) := by
          funext i; congr 1; simp [Fo.list]; omega
        rw [e]; exact h10
    · rintro ⟨F1, F2, rfl, hd, h1, h2⟩
      obtain ⟨h3, h4, v, F3, F4, rfl, h6, h7, h8, h9⟩ := Fo.orow_cons.1 h1
      have e : (fun i => c (i + (Fo.cons o a k r).list.length * 3)) = fun i => c (i + r.list.length * 3 + 3) := by
        funext i; congr 1; simp [Fo.list]; omega
      rw [e] at h2
      refine Fo.orow_cons.2 ⟨h3, h4, v, F3, F4 ++ F2, List.append_assoc _ _ _, fun x hx hx2 => ?_, h7, h8, ih.2 ⟨F4, F2, rfl, fun x hx => hd x (List.mem_append_right _ hx), h9, h2⟩⟩
      rcases List.mem_append.1 hx2 with hx2 | hx2
      · exact h6 x hx hx2
      · exact hd x (List.mem_append_left _ hx) hx2
theorem Fo.Own.empty (w : World) : Fo.Own w .nil (.slice none 0 0) [] := ⟨none, 0, rfl, Nat.le_refl _, Nat.zero_le _, .inl ⟨rfl, rfl⟩⟩
end Go.Proofs.Ytfdkmngkpihpbaa
namespace Go.Proofs.Ytfdkmngkpihpbaa
open Go.RowKit

/-- P holds in w and in every world in which only new memory has been made since. -/
def Box (w : World) (P : World → Prop) : Prop := ∀ w', Below w.heap.size w w' → P w'
theorem Box.now {w : World} {P : World → Prop} (h : Box w P) : P w := h w (Below.refl _ _)
theorem Box.step {w w' : World} {P : World → Prop} (h : Box w P) (hb : Below w.heap.size w w') : Box w' P := fun w'' h2 => h w'' (hb.trans (h2.mono hb.size))
theorem Box.and {w : World} {P Q : World → Prop} (h : Box w P) (k : Box w Q) : Box w fun u => P u ∧ Q u := fun u hu => ⟨h u hu, k u hu⟩
theorem Box.imp {w : World} {P Q : World → Prop} (h : Box w P) (k : ∀ u, P u → Q u) : Box w Q := fun u hu => k u (h u hu)
theorem Box.true (w : World) : Box w fun _ => True := fun _ _ => trivial
/-- A cell, and that its block is there. -/
def CellB (b o : Nat) (x : Value) (u : World) : Prop := u.cell? ⟨b, o, none⟩ = some x
theorem Box.cell {w : World} {b o : Nat} {x : Value} (h : w.cell? ⟨b, o, none⟩ = some x) : Box w (CellB b o x) := fun _ hu => keepc hu (World.block_lt_of_cell? w _ h) h
theorem CellB.lt {w : World} {b o : Nat} {x : Value} (h : CellB b o x w) : b < w.heap.size := World.block_lt_of_cell? w _ h
theorem Box.below {w w' : World} {B : Nat} (h : Below B w w') (hB : B ≤ w.heap.size) : Box w' (Below B w) := fun _ hu => h.trans (hu.mono (Nat.le_trans hB h.size))
theorem Box.since {B : Nat} {w w' : World} (h : Below B w w') (hB : B ≤ w'.heap.size) : Box w' (Below B w) := fun _ hu => h.trans (hu.mono hB)
theorem Box.size {w : World} {n : Nat} (h : n ≤ w.heap.size) : Box w fun u => n ≤ u.heap.size := fun _ hu => Nat.le_trans h hu.size
theorem Box.gr {w : World} {g : Gr} {B : Nat} {v : Value} (h : g.At B w v) (hB : B ≤ w.heap.size) : Box w fun u => g.At B u v := fun _ hu => h.below (hu.mono hB)
/-- A graph in memory of the call's own, in the blocks F. -/
def Gr.Has (g : Gr) (v : Value) (F : List Nat) (u : World) : Prop := ∃ F1 F2, F = F1 ++ F2 ∧ g.Own 0 u v F1 F2
theorem Box.grHas {w : World} {g : Gr} {v : Value} {F : List Nat} (h : g.Has v F w) : Box w (g.Has v F) := by
  obtain ⟨F1, F2, e, h⟩ := h
  exact fun _ hu => ⟨F1, F2, e, h.below hu⟩
theorem Gr.Has.at {g : Gr} {v : Value} {F : List Nat} {w : World} (h : g.Has v F w) : g.At w.heap.size w v := by
  obtain ⟨F1, F2, e, h⟩ := h
  exact h.at
theorem Gr.Own.has {g : Gr} {lo : Nat} {v : Value} {F1 F2 : List Nat} {w : World} (h : g.Own lo w v F1 F2) : g.Has v (F1 ++ F2) w := ⟨F1, F2, rfl, h.mono (Nat.zero_le _)⟩
theorem Gr.Own.lo {g : Gr} {lo : Nat} {v : Value} {F1 F2 : List Nat} {w : World} (h : g.Own lo w v F1 F2) : ∀ x ∈ F1 ++ F2, lo ≤ x ∧ x < w.heap.size := by
  have hl := h.lt
  obtain ⟨a, b, e1, e2, e3, e4, e5, e6⟩ := h
  intro x hx
  rcases List.mem_append.1 hx with hx | hx
  · exact ⟨e4 x hx, hl.1 x hx⟩
  · exact ⟨e5 x hx, hl.2 x hx⟩
theorem Gr.Has.chg {g : Gr} {v : Value} {F G : List Nat} {w w' : World} (h : g.Has v F w) (hc : Chg G w w') (hd : ∀ x ∈ F, x ∉ G) : g.Has v F w' := by
  obtain ⟨F1, F2, rfl, h⟩ := h
  exact ⟨F1, F2, rfl, h.chg hc (fun x hx => hd x (List.mem_append_left _ hx)) (fun x hx => hd x (List.mem_append_right _ hx))⟩
/-- An expression in memory of the call's own. -/
def Ex.Has (e : Ex) (v : Value) (F : List Nat) (u : World) : Prop := ∃ k, v = .agg #[.int .i64 e.op, .string e.a, k] ∧ e.ks.Own u k F
theorem Box.ex {w : World} {e : Ex} {B : Nat} {v : Value} (h : e.At B w v) (hB : B ≤ w.heap.size) : Box w fun u => e.At B u v := fun _ hu => h.below (hu.mono hB) (Nat.le_refl _)
theorem Box.exHas {w : World} {e : Ex} {v : Value} {F : List Nat} (h : e.Has v F w) : Box w (e.Has v F) := by
  obtain ⟨k, e, h⟩ := h
  exact fun _ hu => ⟨k, e, h.below hu⟩
theorem Ex.Has.at {e : Ex} {v : Value} {F : List Nat} {w : World} (h : e.Has v F w) : e.At w.heap.size w v := by
  obtain ⟨k, e, h⟩ := h
  exact ⟨k, e, h.in⟩
theorem Ex.Has.chg {e : Ex} {v : Value} {F G : List Nat} {w w' : World} (h : e.Has v F w) (hc : Chg G w w') (hd : ∀ x ∈ F, x ∉ G) : e.Has v F w' := by
  obtain ⟨k, e, h⟩ := h
  exact ⟨k, e, h.chg hc hd⟩
theorem Box.chgCell {w w' : World} {b o : Nat} {x : Value} {G : List Nat} (hc : Chg G w w') (hb : b ∉ G) (h : CellB b o x w) : CellB b o x w' :=
  (World.cell?_of_block (w := w) (a := ⟨b, o, none⟩) (hc.block b (World.block_lt_of_cell? w _ h) hb)).trans h
end Go.Proofs.Ytfdkmngkpihpbaa
namespace Go.Proofs.Ytfdkmngkpihpbaa
open Go.RowKit

/-- A variable in block k with the cells cs, whose data P says, in the blocks F. -/
def LocV (P : Value → List Nat → World → Prop) (k : Nat) (cs : Array Value) (F : List Nat) (u : World) : Prop :=
  k < u.heap.size ∧ (∀ i x, cs[i]? = some x → u.cell? ⟨k, i, none⟩ = some x) ∧ P (.agg cs) F u
/-- P goes on to hold while other blocks change. -/
def Goes (P : Value → List Nat → World → Prop) : Prop := ∀ (v : Value) (F G : List Nat) (u u' : World), P v F u → Chg G u u' → (∀ x ∈ F, x ∉ G) → P v F u'
theorem LocV.chg {P : Value → List Nat → World → Prop} (hP : Goes P) {k : Nat} {cs : Array Value} {F G : List Nat} {u u' : World} (h : LocV P k cs F u) (hc : Chg G u u') (hk : k ∉ G) (hF : ∀ x ∈ F, x ∉ G) : LocV P k cs F u' :=
  ⟨Nat.lt_of_lt_of_le h.1 hc.size, fun i x hx => (World.cell?_of_block (w := u) (a := ⟨k, i, none⟩) (hc.block k h.1 hk)).trans (h.2.1 i x hx), hP _ _ _ _ _ h.2.2 hc hF⟩
theorem LocV.below {P : Value → List Nat → World → Prop} (hP : Goes P) {k : Nat} {cs : Array Value} {F : List Nat} {u u' : World} (h : LocV P k cs F u) (hb : Below u.heap.size u u') : LocV P k cs F u' :=
  h.chg hP (Chg.of_below hb []) (by simp) (by simp)
theorem LocV.fresh {P : Value → List Nat → World → Prop} (hP : Goes P) {cs : Array Value} {F : List Nat} {T : TypeId} {w : World} (h : P (.agg cs) F w) : LocV P w.heap.size cs F (w.alloc (.cells cs T)) :=
  ⟨by simp, fun i x hx => (World.cell?_alloc_at cs T _ i rfl).trans hx, hP _ _ [] _ _ h (Chg.of_below ((Below.refl _ _).alloc (Nat.le_refl _) _) []) (by simp)⟩
/-- The same cells, other data, where the data's blocks alone have changed. -/
theorem LocV.turn {P Q : Value → List Nat → World → Prop} {k : Nat} {cs : Array Value} {F : List Nat} {u u' : World} (h : LocV P k cs F u) (hc : Chg F u u') (hk : k ∉ F) (hq : Q (.agg cs) F u') : LocV Q k cs F u' :=
  ⟨Nat.lt_of_lt_of_le h.1 hc.size, fun i x hx => (World.cell?_of_block (w := u) (a := ⟨k, i, none⟩) (hc.block k h.1 hk)).trans (h.2.1 i x hx), hq⟩
theorem Ex.At.form {e : Ex} {B : Nat} {w : World} {v : Value} (h : e.At B w v) : ∃ p cap, v = .agg #[.int .i64 e.op, .string e.a, .slice p e.ks.list.length cap] := by
  obtain ⟨k, rfl, hk⟩ := h
  obtain ⟨p, cap, rfl⟩ := hk.form
  exact ⟨p, cap, rfl⟩
theorem Ex.goes (e : Ex) : Goes e.Has := fun _ _ _ _ _ h hc hd => h.chg hc hd
end Go.Proofs.Ytfdkmngkpihpbaa
namespace Go.Proofs.Ytfdkmngkpihpbaa
open Go.RowKit

structure Wk where
  ns : List Int
  es : List Int
def Wk.Ok (x : Wk) : Prop := (∀ n ∈ x.ns, I64 n) ∧ (∀ n ∈ x.es, I64 n)
/-- The value of a struct Walk whose two slices lie below B. -/
def Wk.At (x : Wk) (B : Nat) (w : World) (v : Value) : Prop := ∃ a b, v = .agg #[a, b] ∧ Sl 1 intCells B w a x.ns ∧ Sl 1 intCells B w b x.es
theorem Wk.At.to {x : Wk} {B B' : Nat} {w w' : World} {v : Value} (h : x.At B w v) (hb : Below B w w') (hB : B ≤ B') : x.At B' w' v := by
  obtain ⟨a, b, h1, h2, h3⟩ := h
  exact ⟨a, b, h1, (h2.below hb).mono hB, (h3.below hb).mono hB⟩
theorem Wk.At.form {x : Wk} {B : Nat} {w : World} {v : Value} (h : x.At B w v) : ∃ p c q d, v = .agg #[.slice p x.ns.length c, .slice q x.es.length d] := by
  obtain ⟨a, b, rfl, h1, h2⟩ := h
  obtain ⟨p, c, rfl⟩ := h1.form
  obtain ⟨q, d, rfl⟩ := h2.form
  exact ⟨p, c, q, d, rfl⟩
/-- A walk in memory of the call's own, in the blocks F. -/
def Wk.Has (x : Wk) (v : Value) (F : List Nat) (u : World) : Prop :=
  ∃ a b F1 F2, v = .agg #[a, b] ∧ F = F1 ++ F2 ∧ OwnSl 1 intCells u a x.ns F1 ∧ OwnSl 1 intCells u b x.es F2 ∧ ∀ y ∈ F1, y ∉ F2
theorem Wk.Has.at {x : Wk} {v : Value} {F : List Nat} {w : World} (h : x.Has v F w) : x.At w.heap.size w v := by
  obtain ⟨a, b, F1, F2, rfl, rfl, h1, h2, _⟩ := h
  exact ⟨a, b, rfl, h1.sl, h2.sl⟩
theorem Wk.Has.chg {x : Wk} {v : Value} {F G : List Nat} {w w' : World} (h : x.Has v F w) (hc : Chg G w w') (hd : ∀ y ∈ F, y ∉ G) : x.Has v F w' := by
  obtain ⟨a, b, F1, F2, rfl, rfl, h1, h2, h3⟩ := h
  exact ⟨a, b, F1, F2, rfl, rfl, h1.chg hc (fun y hy => hd y (List.mem_append_left _ hy)), h2.chg hc (fun y hy => hd y (List.mem_append_right _ hy)), h3⟩
theorem Wk.Has.below {x : Wk} {v : Value} {F : List Nat} {w w' : World} (h : x.Has v F w) (hb : Below w.heap.size w w') : x.Has v F w' := h.chg (Chg.of_below hb []) (by simp)
theorem Wk.Has.lt {x : Wk} {v : Value} {F : List Nat} {w : World} (h : x.Has v F w) : ∀ y ∈ F, y < w.heap.size := by
  obtain ⟨a, b, F1, F2, rfl, rfl, h1, h2, h3⟩ := h
  intro y hy
  rcases List.mem_append.1 hy with hy | hy
  · exact h1.lt y hy
  · exact h2.lt y hy
theorem Wk.goes (x : Wk) : Goes x.Has := fun _ _ _ _ _ h hc hd => h.chg hc hd
def Wk.need (x : Wk) : Nat := x.ns.length + x.es.length

set_option maxHeartbeats 400000 in
theorem szIntS_any (xs : List Int) (v : Value) (left : Int) (B : Nat) (w : World) (hv : Sl 1 intCells B w v xs) (_hB : B ≤ w.heap.size) (h0 : 0 ≤ left) (h1 : left ≤ 1048576) :
    Calls Try.prog 82 #[v, .int .i64 left] w (SzPost left xs.length w.heap.size w) := by
  obtain ⟨p, cap, rfl⟩ := hv.form
  have hm := hv.max
  unfold maxLen at hm
  by_cases hlt : left < xs.length
  · go_enter Try.func82, Try.ntmps82
    go_wp2_with fail
    go_ret
    exact ⟨-1, rfl, .inl rfl, Below.refl _ _⟩
  · have q1 : decide (left - (xs.length : Int) < 0) = false := by simp; omega
    have q1' : decide (left < (xs.length : Int)) = false := by simp; omega
    go_enter Try.func82, Try.ntmps82
    go_wp2_with fail
    go_ret
    exact ⟨left - xs.length, rfl, .inr ⟨by omega, rfl⟩, Below.refl _ _⟩

set_option maxHeartbeats 1000000 in
theorem szWalk_any (x : Wk) (v : Value) (left : Int) (B : Nat) (w : World) (hx : x.At B w v) (hB : B ≤ w.heap.size) (h0 : 0 ≤ left) (h1 : left ≤ 1048576) :
    Calls Try.prog 46 #[v, .int .i64 left] w (SzPost left x.need w.heap.size w) := by
  obtain ⟨a, b, rfl, ha, hb⟩ := hx
  have H1 := Lib.hid ha
  have H2 := Lib.hid hb
  clear ha hb
  go_enter Try.func46, Try.ntmps46
  go_wp2_with fail
  refine (szIntS_any x.ns a left B _ (H1.out.below ((Below.refl B w).alloc hB _)) (by simp; omega) h0 h1).mono ?_
  rintro e w1 ⟨r, rfl, hr, hb1⟩
  have hs1 : w.heap.size < w1.heap.size := by have := hb1.size; simp at this; omega
  have c1 := new_cell hb1 (j := 1) rfl
  have HB1 := Lib.hid (below_past hb1)
  clear hb1
  rcases hr with hr | ⟨hr0, hr⟩
  · have HR := Lib.hid hr
    have hneg : r < 0 := by omega
    clear hr
    go_wp2_with fail
    go_ret
    exact ⟨-1, rfl, .inl rfl, HB1.out⟩
  · have hr1 : r ≤ 1048576 := by omega
    have HR := Lib.hid hr
    clear hr
    go_wp2_with fail
    refine (szIntS_any x.es b r B _ (H2.out.below (HB1.out.mono hB)) (by omega) hr0 hr1).mono ?_
    rintro e w2 ⟨r2, rfl, hr2, hb2⟩
    have HB2 := Lib.hid (HB1.out.trans (hb2.mono (by omega)))
    clear hb2
    rcases hr2 with hr2 | ⟨hr20, hr2⟩
    · have hneg : r2 < 0 := by omega
      clear hr2
      go_wp2_with fail
      go_ret
      exact ⟨-1, rfl, .inl rfl, HB2.out⟩
    · have HR2 := Lib.hid hr2
      clear hr2
      go_wp2_with fail
      go_ret
      exact ⟨r2, rfl, .inr ⟨hr20, by have a := HR.out; have b := HR2.out; unfold Wk.need; omega⟩, HB2.out⟩

theorem infoIntW : (Try.prog.info? 3).map (fun i => (i.zero, i.size, i.bytes)) = some (some (.int .i64 0), 1, 8) := by kernel_rfl

set_option maxHeartbeats 1000000 in
theorem toIntS_any (xs : List Int) (v : Value) (B : Nat) (w : World) (hv : Sl 1 intCells B w v xs) (hB : B ≤ w.heap.size) (hn : xs.length ≤ 1048576) :
    Calls Try.prog 83 #[v] w fun e w' => ∃ v' F, e = .returned v' ∧ OwnSl 1 intCells w' v' xs F ∧ (∀ x ∈ F, w.heap.size ≤ x) ∧ Below w.heap.size w w' := by
  obtain ⟨p, cap, rfl⟩ := hv.form
  have hm := hv.max
  unfold maxLen at hm
  have hmk : ∀ w : World, (Instr.makeSlice 23 (.int .i64 (xs.length : Int)) (.int .i64 (xs.length : Int))).run Try.prog w = .ok (.slice (some ⟨w.heap.size, 0, none⟩) xs.length xs.length) (w.alloc (.cells (madeCells #[.int .i64 0] xs.length) 3)) := by
    intro w
    obtain ⟨i, hi, hzz⟩ := Option.map_eq_some_iff.1 infoIntW
    simp only [Prod.mk.injEq] at hzz
    obtain ⟨hz, hs, hb⟩ := hzz
    have hr := run_make (P := Try.prog) w 23 3 i _ Try.underlying23 hi hz .i64 .i64 xs.length xs.length (by omega) (Int.le_refl _) (by rw [hb]; omega) (by omega)
    rw [hs, Nat.mul_one] at hr
    exact hr
  have hbk := Blk.new w (madeCells #[.int .i64 0] xs.length) 3
  go_enter Try.func83, Try.ntmps83
  go_wp2_with fail
  go_loopw [4] (fun i wr => ∃ (k : Nat) (L : List Value), k ≤ xs.length ∧ i = .int .i64 k ∧ Part 1 intCells xs L k ∧ Blk wr w.heap.size 3 L ∧ Below w.heap.size w wr) (fun i _ => xs.length - (intOf i).toNat)
  case atStart => exact ⟨0, _, Nat.zero_le _, rfl, Part.zero (by simp [madeCells]), hbk, (Below.refl _ _).alloc (Nat.le_refl _) _⟩
  case round =>
    obtain ⟨k, L, hk, rfl, hp, hbl, hbw⟩ := hrel
    have hsz := hbw.size
    have hlt := hbl.lt
    have HB := Lib.hid hbw
    clear hbw hbk
    by_cases hlt2 : k < xs.length
    · obtain ⟨b, off, rfl, hb, c0⟩ := (hv.below (HB.out.mono hB)).it hlt2
      have hlen := hp.1
      have hx : Part 1 intCells xs (setAt L (k * 1) (intCells xs[k])) (k + 1) := hp.succ hlt2 (fun _ => rfl)
      obtain ⟨x, ex⟩ : ∃ x, x = xs[k] := ⟨_, rfl⟩
      rw [← ex] at c0 hx
      clear ex
      rw [Nat.mul_one] at hx
      have HP := Lib.hid hx
      clear hx hp
      have d0 := (hbl.cell k).trans (List.getElem?_eq_getElem (by omega))
      have g0 := hbl.frozen k
      have HBL := Lib.hid hbl
      clear hbl
      go_wp2_with fail
      go_roundw
      case rel => exact ⟨k + 1, _, by omega, by go_num, HP.out, HBL.out.set _ _, HB.out.setCell (Nat.le_refl _) _⟩
      case measure => simp [intOf]; omega
    · obtain rfl : k = xs.length := by omega
      have HBL := Lib.hid hbl
      clear hbl
      go_wp2_with fail
      go_ret
      exact ⟨_, [w.heap.size], rfl, ⟨_, _, _, rfl, rfl, Nat.le_refl _, by unfold maxLen; omega, .inr ⟨_, _, rfl, rfl, HBL.out.lt, fun o => HBL.out.frozen o, fun i hi j x hx => by rw [Nat.zero_add]; exact (HBL.out.cell _).trans (hp.2 i hi hi j x hx)⟩⟩, by simp, HB.out⟩

set_option maxHeartbeats 1000000 in
theorem toWalk_raw (g : Wk) (v : Value) (B : Nat) (w : World) (hg : g.At B w v) (hB : B ≤ w.heap.size) (h1 : g.ns.length ≤ 1048576) (h2 : g.es.length ≤ 1048576) :
    Calls Try.prog 47 #[v] w fun e w' => ∃ v' F1 F2, e = .returned v' ∧ (∃ a b, v' = .agg #[a, b] ∧ OwnSl 1 intCells w' a g.ns F1 ∧ OwnSl 1 intCells w' b g.es F2 ∧ (∀ x ∈ F1, w.heap.size ≤ x) ∧ (∀ x ∈ F2, w.heap.size ≤ x) ∧ (∀ x ∈ F1, x ∉ F2)) ∧ Below w.heap.size w w' := by
  obtain ⟨a, b, rfl, ha, hb⟩ := hg
  go_enter Try.func47, Try.ntmps47
  go_wp2_with fail
  have HW := Lib.hid ((((Below.refl B w).alloc hB (.cells #[a, b] 63)).alloc (by simp; omega) (.cells #[.slice none 0 0, .slice none 0 0] 25)).alloc (by simp; omega) (.cells #[.slice none 0 0, .slice none 0 0] 25))
  have HV := Lib.hid ((((Below.refl w.heap.size w).alloc (by simp) (.cells #[a, b] 63)).alloc (by simp) (.cells #[.slice none 0 0, .slice none 0 0] 25)).alloc (by simp <;> omega) (.cells #[.slice none 0 0, .slice none 0 0] 25))
  refine (toIntS_any g.ns a B _ (ha.below HW.out) (by simp; omega) h1).mono ?_
  rintro e w1 ⟨v1, F1, rfl, ho1, hf1, hb1⟩
  have hs1 : w.heap.size + 3 ≤ w1.heap.size := by have := hb1.size; simp at this; omega
  have p1 : w1.cell? ⟨w.heap.size, 1, none⟩ = some b := (hb1.cell (by simp; omega)).trans (by simp [go_sem])
  have q0 : w1.cell? ⟨w.heap.size + 1, 0, none⟩ = some (.slice none 0 0) := (hb1.cell (by simp)).trans (by simp [go_sem])
  have q1 : w1.cell? ⟨w.heap.size + 1, 1, none⟩ = some (.slice none 0 0) := (hb1.cell (by simp)).trans (by simp [go_sem])
  have q2 : w1.frozen? ⟨w.heap.size + 1, 0, none⟩ = false := (hb1.frozen (by simp)).trans (by simp [go_sem])
  have q3 : w1.frozen? ⟨w.heap.size + 1, 1, none⟩ = false := (hb1.frozen (by simp)).trans (by simp [go_sem])
  have r0 : w1.cell? ⟨w.heap.size + 1 + 1, 0, none⟩ = some (.slice none 0 0) := (hb1.cell (by simp)).trans (by simp [go_sem])
  have r1 : w1.cell? ⟨w.heap.size + 1 + 1, 1, none⟩ = some (.slice none 0 0) := (hb1.cell (by simp)).trans (by simp [go_sem])
  have r2 : w1.frozen? ⟨w.heap.size + 1 + 1, 0, none⟩ = false := (hb1.frozen (by simp)).trans (by simp [go_sem])
  have r3 : w1.frozen? ⟨w.heap.size + 1 + 1, 1, none⟩ = false := (hb1.frozen (by simp)).trans (by simp [go_sem])
  have HB1 := Lib.hid (HV.out.trans (hb1.mono (by simp; omega)))
  have HO1 := Lib.hid ho1
  have HF1 := Lib.hid (show ∀ x ∈ F1, w.heap.size + 3 ≤ x from fun x hx => by have := hf1 x hx; simp at this; omega)
  clear hf1
  have HC1 := Lib.hid (HW.out.trans (hb1.mono (by simp; omega)))
  clear hb1 ho1
  obtain ⟨pn, cn, rfl⟩ := HO1.out.sl.form
  go_wp2_with fail
  refine (toIntS_any g.es b B _ (hb.below (HC1.out.setCell (by simp; omega) _)) (by simp; omega) h2).mono ?_
  rintro e w2 ⟨v2, F2, rfl, ho2, hf2, hb2⟩
  have hz : (w1.setCell ⟨w.heap.size + 1 + 1, 0, none⟩ (.slice pn g.ns.length cn)).heap.size = w1.heap.size := by simp
  have hs2 : w1.heap.size ≤ w2.heap.size := by have := hb2.size; simp at this; omega
  have q0' : w2.cell? ⟨w.heap.size + 1, 0, none⟩ = some (.slice none 0 0) := ((hb2.cell (by simp; omega)).trans (set_far _ _ _ _ _ _ (by omega))).trans q0
  have q1' : w2.cell? ⟨w.heap.size + 1, 1, none⟩ = some (.slice none 0 0) := ((hb2.cell (by simp; omega)).trans (set_far _ _ _ _ _ _ (by omega))).trans q1
  have q2' : w2.frozen? ⟨w.heap.size + 1, 0, none⟩ = false := ((hb2.frozen (by simp; omega)).trans (by simp [go_sem])).trans q2
  have q3' : w2.frozen? ⟨w.heap.size + 1, 1, none⟩ = false := ((hb2.frozen (by simp; omega)).trans (by simp [go_sem])).trans q3
  have r0' : w2.cell? ⟨w.heap.size + 1 + 1, 0, none⟩ = some (.slice pn g.ns.length cn) := (hb2.cell (by simp; omega)).trans (set_same _ _ _ _ _ r0)
  have r1' : w2.cell? ⟨w.heap.size + 1 + 1, 1, none⟩ = some (.slice none 0 0) := ((hb2.cell (by simp; omega)).trans (set_near _ _ _ _ _ (by omega))).trans r1
  have r2' : w2.frozen? ⟨w.heap.size + 1 + 1, 0, none⟩ = false := ((hb2.frozen (by simp; omega)).trans (by simp [go_sem])).trans r2
  have r3' : w2.frozen? ⟨w.heap.size + 1 + 1, 1, none⟩ = false := ((hb2.frozen (by simp; omega)).trans (by simp [go_sem])).trans r3
  have HB2 := Lib.hid ((HB1.out.setCell (p := ⟨w.heap.size + 1 + 1, 0, none⟩) (by simp; omega) (.slice pn g.ns.length cn)).trans (hb2.mono (by simp; omega)))
  have HD2 := Lib.hid hb2
  have HO2 := Lib.hid ho2
  have HF2 := Lib.hid (show ∀ x ∈ F2, w1.heap.size ≤ x from fun x hx => by have := hf2 x hx; simp at this; omega)
  clear hf2
  clear hb2 ho2 p1 q0 q1 q2 q3 r0 r1 r2 r3
  obtain ⟨pe, ce, rfl⟩ := HO2.out.sl.form
  go_wp2_with fail
  refine bodyPost_ret (v := .agg #[.slice pn g.ns.length cn, .slice pe g.es.length ce]) (by simp [results, Try.results47, go_sem, q0', q1']) rfl ⟨_, F1, F2, rfl, ?_, ((HB2.out.setCell (by simp; omega) _).setCell (by simp) _).setCell (by simp) _⟩
  have g1 := fun x hx => HF1.out x hx
  have g2 := fun x hx => HF2.out x hx
  have hl1 := HO1.out.lt
  have hc1 : Chg [w.heap.size + 1 + 1] w1 w2 := ((Chg.refl [w.heap.size + 1 + 1] w1).setCell (by simp) _).then_below HD2.out
  have hc2 : Chg [w.heap.size + 1 + 1, w.heap.size + 1] w2 (((w2.setCell ⟨w.heap.size + 1 + 1, 1, none⟩ (.slice pe g.es.length ce)).setCell ⟨w.heap.size + 1, 0, none⟩ (.slice pn g.ns.length cn)).setCell ⟨w.heap.size + 1, 1, none⟩ (.slice pe g.es.length ce)) :=
    (((Chg.refl _ w2).setCell (by simp) _).setCell (by simp) _).setCell (by simp) _
  refine ⟨_, _, rfl, (HO1.out.chg hc1 ?_).chg hc2 ?_, HO2.out.chg hc2 ?_, ?_, ?_, ?_⟩
  · intro x hx; have := g1 x hx; simp; omega
  · intro x hx; have := g1 x hx; simp; omega
  · intro x hx; have := g2 x hx; simp; omega
  · intro x hx; have := g1 x hx; omega
  · intro x hx; have := g2 x hx; omega
  · intro x hx hx2; have := hl1 x hx; have := g2 x hx2; omega

theorem toWalk_any (x : Wk) (v : Value) (B : Nat) (w : World) (hx : x.At B w v) (hB : B ≤ w.heap.size) (hn : x.need ≤ 1048576) :
    Calls Try.prog 47 #[v] w fun e w' => ∃ v' F, e = .returned v' ∧ x.Has v' F w' ∧ (∀ y ∈ F, w.heap.size ≤ y) ∧ Below w.heap.size w w' := by
  have h1 : x.ns.length ≤ 1048576 := by unfold Wk.need at hn; omega
  have h2 : x.es.length ≤ 1048576 := by unfold Wk.need at hn; omega
  refine (toWalk_raw x v B w hx hB h1 h2).mono ?_
  rintro e w' ⟨v', F1, F2, rfl, ⟨a, b, rfl, o1, o2, l1, l2, hd⟩, hb⟩
  refine ⟨_, F1 ++ F2, rfl, ⟨a, b, F1, F2, rfl, rfl, o1, o2, hd⟩, fun y hy => ?_, hb⟩
  rcases List.mem_append.1 hy with hy | hy
  · exact l1 y hy
  · exact l2 y hy

set_option maxHeartbeats 1000000 in
theorem eqWalk_any (g : Wk) (v v' : Value) (B : Nat) (w : World) (hg : g.At B w v) (hg' : g.At B w v') (hB : B ≤ w.heap.size) :
    Calls Try.prog 48 #[v, v'] w fun e w' => e = .returned (.bool true) ∧ Below w.heap.size w w' := by
  obtain ⟨a, b, rfl, ha, hb⟩ := hg
  obtain ⟨a', b', rfl, ha', hb'⟩ := hg'
  go_enter Try.func48, Try.ntmps48
  go_wp2_with fail
  have HW := Lib.hid (((Below.refl B w).alloc hB (.cells #[a, b] 25)).alloc (by simp; omega) (.cells #[a', b'] 25))
  refine (eqIntS_any g.ns a a' B _ (ha.below HW.out) (ha'.below HW.out) (by simp; omega)).mono ?_
  rintro e w1 ⟨rfl, hb1⟩
  have hs1 : w.heap.size + 2 ≤ w1.heap.size := by have := hb1.size; simp at this; omega
  have p1 : w1.cell? ⟨w.heap.size, 1, none⟩ = some b := (hb1.cell (by simp; omega)).trans (by simp [go_sem])
  have q1 : w1.cell? ⟨w.heap.size + 1, 1, none⟩ = some b' := (hb1.cell (by simp)).trans (by simp [go_sem])
  have HB1 := Lib.hid ((((Below.refl w.heap.size w).alloc (by simp) (.cells #[a, b] 25)).alloc (by simp) (.cells #[a', b'] 25)).trans (hb1.mono (by simp; omega)))
  clear hb1
  go_wp2_with fail
  refine (eqIntS_any g.es b b' B _ (hb.below (HB1.out.mono hB)) (hb'.below (HB1.out.mono hB)) (by omega)).mono ?_
  rintro e w2 ⟨rfl, hb2⟩
  have HB2 := Lib.hid (HB1.out.trans (hb2.mono (by omega)))
  clear hb2
  go_wp2_with fail
  go_ret
  exact ⟨rfl, HB2.out⟩

def Wk.marked (x : Wk) (m : Int) : Wk := ⟨(List.range x.ns.length).map (mkInt m), (List.range x.es.length).map (mkInt (m + x.ns.length))⟩

end Go.Proofs.Ytfdkmngkpihpbaa
namespace Go.Proofs.Ytfdkmngkpihpbaa
open Go.RowKit

structure Tb where
  cs : List ByteArray
  rs : List (List Int)
def kRow : Kd (List Int) := kInt.row
def strCells (s : ByteArray) : List Value := [.string s]
def Tb.Ok (x : Tb) : Prop := (∀ s ∈ x.cs, s.size ≤ maxLen) ∧ ∀ r ∈ x.rs, ∀ n ∈ r, I64 n
def sumS (xs : List ByteArray) : Nat := (xs.map ByteArray.size).sum
def sumR (xs : List (List Int)) : Nat := (xs.map List.length).sum
theorem sumS_succ (xs : List ByteArray) (k : Nat) (h : k < xs.length) : sumS (xs.take (k + 1)) = sumS (xs.take k) + xs[k].size := by
  unfold sumS; rw [List.take_succ_eq_append_getElem h, List.map_append, List.sum_append]; simp only [List.map_cons, List.map_nil, List.sum_cons, List.sum_nil, Nat.add_zero]
theorem sumR_succ (xs : List (List Int)) (k : Nat) (h : k < xs.length) : sumR (xs.take (k + 1)) = sumR (xs.take k) + xs[k].length := by
  unfold sumR; rw [List.take_succ_eq_append_getElem h, List.map_append, List.sum_append]; simp only [List.map_cons, List.map_nil, List.sum_cons, List.sum_nil, Nat.add_zero]
theorem sumR_le (xs : List (List Int)) (k : Nat) : sumR (xs.take k) ≤ sumR xs := by
  unfold sumR
  have := congrArg (fun l => (l.map List.length).sum) (List.take_append_drop k xs)
  simp only [List.map_append, List.sum_append] at this; omega
theorem sumR_get (xs : List (List Int)) (k : Nat) (h : k < xs.length) : xs[k].length ≤ sumR xs := by
  have := sumR_succ xs k h; have := sumR_le xs (k + 1); omega
def Tb.need (x : Tb) : Nat := x.cs.length + sumS x.cs + (x.rs.length + sumR x.rs)
/-- The value of a struct Table whose memory lies below B. -/
def Tb.At (x : Tb) (B : Nat) (w : World) (v : Value) : Prop := ∃ a b, v = .agg #[a, b] ∧ kStr.Rd B w a x.cs ∧ kRow.Rd B w b x.rs
theorem Tb.At.to {x : Tb} {B B' : Nat} {w w' : World} {v : Value} (h : x.At B w v) (hb : Below B w w') (hB : B ≤ B') : x.At B' w' v := by
  obtain ⟨a, b, h1, h2, h3⟩ := h
  exact ⟨a, b, h1, h2.to hb hB, h3.to hb hB⟩
theorem Tb.At.form {x : Tb} {B : Nat} {w : World} {v : Value} (h : x.At B w v) : ∃ p c q d, v = .agg #[.slice p x.cs.length c, .slice q x.rs.length d] := by
  obtain ⟨a, b, rfl, h1, h2⟩ := h
  obtain ⟨p, c, rfl⟩ := h1.form
  obtain ⟨q, d, rfl⟩ := h2.form
  exact ⟨p, c, q, d, rfl⟩
/-- A table in memory of the call's own, in the blocks F. -/
def Tb.Has (x : Tb) (v : Value) (F : List Nat) (u : World) : Prop :=
  ∃ a b F1 F2, v = .agg #[a, b] ∧ F = F1 ++ F2 ∧ kStr.Ow u a x.cs F1 ∧ kRow.Ow u b x.rs F2 ∧ ∀ y ∈ F1, y ∉ F2
theorem Tb.Has.at {x : Tb} {v : Value} {F : List Nat} {w : World} (h : x.Has v F w) : x.At w.heap.size w v := by
  obtain ⟨a, b, F1, F2, rfl, rfl, h1, h2, _⟩ := h
  exact ⟨a, b, rfl, h1.rd, h2.rd⟩
theorem Tb.Has.chg {x : Tb} {v : Value} {F G : List Nat} {w w' : World} (h : x.Has v F w) (hc : Chg G w w') (hd : ∀ y ∈ F, y ∉ G) : x.Has v F w' := by
  obtain ⟨a, b, F1, F2, rfl, rfl, h1, h2, h3⟩ := h
  exact ⟨a, b, F1, F2, rfl, rfl, h1.chg hc (fun y hy => hd y (List.mem_append_left _ hy)), h2.chg hc (fun y hy => hd y (List.mem_append_right _ hy)), h3⟩
theorem Tb.Has.below {x : Tb} {v : Value} {F : List Nat} {w w' : World} (h : x.Has v F w) (hb : Below w.heap.size w w') : x.Has v F w' := h.chg (Chg.of_below hb []) (by simp)
theorem Tb.Has.lt {x : Tb} {v : Value} {F : List Nat} {w : World} (h : x.Has v F w) : ∀ y ∈ F, y < w.heap.size := by
  obtain ⟨a, b, F1, F2, rfl, rfl, h1, h2, h3⟩ := h
  intro y hy
  rcases List.mem_append.1 hy with hy | hy
  · exact h1.lt y hy
  · exact h2.lt y hy
theorem Tb.goes (x : Tb) : Goes x.Has := fun _ _ _ _ _ h hc hd => h.chg hc hd
theorem Tb.Has.form {x : Tb} {v : Value} {F : List Nat} {w : World} (h : x.Has v F w) : ∃ p c q d, v = .agg #[.slice p x.cs.length c, .slice q x.rs.length d] := h.at.form
/-- An element's cells, at an index. -/
theorem kStr_get {B : Nat} {w : World} {p : Option Addr} {n cap : Nat} {xs : List ByteArray} (h : kStr.Rd B w (.slice p n cap) xs) {k : Nat} (hk : k < xs.length) :
    ∃ b off, p = some ⟨b, off, none⟩ ∧ b < B ∧ w.cell? ⟨b, off + k, none⟩ = some (.string xs[k]) := by
  obtain ⟨b, off, cs, e, hl, hc, rfl⟩ := h.get hk
  exact ⟨b, off, e, hl, by have := hc 0 _ rfl; rwa [show kStr.sz = 1 from rfl, Nat.mul_one, Nat.add_zero] at this⟩
theorem kRow_get {B : Nat} {w : World} {p : Option Addr} {n cap : Nat} {xs : List (List Int)} (h : kRow.Rd B w (.slice p n cap) xs) {k : Nat} (hk : k < xs.length) :
    ∃ b off q c, p = some ⟨b, off, none⟩ ∧ b < B ∧ w.cell? ⟨b, off + k, none⟩ = some (.slice q xs[k].length c) ∧ Sl 1 intCells B w (.slice q xs[k].length c) xs[k] := by
  obtain ⟨b, off, cs, e, hl, hc, v, rfl, hr⟩ := h.get hk
  have hs := kInt_rd.1 hr
  obtain ⟨q, c, rfl⟩ := hs.form
  exact ⟨b, off, q, c, e, hl, by have := hc 0 _ rfl; rwa [show kRow.sz = 1 from rfl, Nat.mul_one, Nat.add_zero] at this, hs⟩

/-- Lists of texts, the other way round. -/
theorem kStr_rd {B : Nat} {w : World} {v : Value} {xs : List ByteArray} : kStr.Rd B w v xs ↔ Sl 1 strCells B w v xs := by
  constructor
  · rintro ⟨p, cap, h1, h2, h3, h4⟩
    refine ⟨p, _, cap, h1, rfl, h2, h3, fun i hi => ?_⟩
    obtain ⟨b, off, cs, e, hl, hc, rfl⟩ := h4 i hi
    exact ⟨b, off, e, hl, hc⟩
  · rintro ⟨p, len, cap, h1, rfl, h2, h3, h4⟩
    refine ⟨p, cap, h1, h2, h3, fun i hi => ?_⟩
    obtain ⟨b, off, e, hl, hc⟩ := h4 i hi
    exact ⟨b, off, _, e, hl, hc, rfl⟩
set_option maxHeartbeats 1000000 in
theorem szStringS_any (xs : List ByteArray) (v : Value) (left : Int) (B : Nat) (w : World) (hv : kStr.Rd B w v xs) (hB : B ≤ w.heap.size) (h0 : 0 ≤ left) (h1 : left ≤ 1048576) (hok : ∀ x ∈ xs, x.size ≤ maxLen) :
    Calls Try.prog 33 #[v, .int .i64 left] w (SzPost left (xs.length + sumS xs) w.heap.size w) := by
  obtain ⟨p, cap, rfl⟩ := hv.form
  obtain ⟨_, hm1, hm⟩ := hv.max
  unfold maxLen at hm
  have HV := Lib.hid hv
  clear hv
  by_cases hlt : left < xs.length
  · go_enter Try.func33, Try.ntmps33
    go_wp2_with fail
    go_ret
    exact ⟨-1, rfl, .inl rfl, Below.refl _ _⟩
  · have q1 : decide (left - (xs.length : Int) < 0) = false := by simp; omega
    have q1' : decide (left < (xs.length : Int)) = false := by simp; omega
    go_enter Try.func33, Try.ntmps33
    go_wp2_with fail
    go_loopw [1, 5] (fun l i wr => ∃ (k : Nat) (m : Int), k ≤ xs.length ∧ i = .int .i64 k ∧ l = .int .i64 m ∧ 0 ≤ m ∧ m ≤ 1048576 ∧ RowKit.Hid (m = left - (xs.length + sumS (xs.take k))) ∧ Below w.heap.size w wr) (fun _ i _ => xs.length - (intOf i).toNat)
    case atStart => exact ⟨0, left - xs.length, Nat.zero_le _, rfl, rfl, by omega, by omega, Lib.hid (by simp [sumS]), Below.refl _ _⟩
    case round =>
      obtain ⟨k, m, hk, rfl, rfl, hm0, hm1, hme, hbw⟩ := hrel
      have hsz := hbw.size
      have HB := Lib.hid hbw
      clear hbw
      by_cases hlt2 : k < xs.length
      · obtain ⟨b, off, rfl, hb, c0⟩ := kStr_get (HV.out.to (HB.out.mono hB) (Nat.le_refl _)) hlt2
        have hx := hok _ (List.getElem_mem hlt2)
        have hsum := sumS_succ xs k hlt2
        obtain ⟨x, ex⟩ : ∃ x, x = xs[k] := ⟨_, rfl⟩
        rw [← ex] at c0 hx hsum
        have HS := Lib.hid hsum
        unfold maxLen at hx
        clear ex hsum
        by_cases hneg : m < x.size
        · have hneg' : m - (x.size : Int) < 0 := by omega
          go_wp2_with fail
          go_ret
          exact ⟨-1, rfl, .inl rfl, HB.out⟩
        · have q2 : decide (m - (x.size : Int) < 0) = false := by simp; omega
          have q2' : decide (m < (x.size : Int)) = false := by simp; omega
          have HR := Lib.hid (show m - (x.size : Int) = left - (xs.length + sumS (xs.take (k + 1))) by have a := hme.out; have b := HS.out; omega)
          go_wp2_with fail
          go_roundw
          case rel => exact ⟨k + 1, m - x.size, by omega, by go_num, rfl, by omega, by omega, HR, HB.out⟩
          case measure => simp [intOf]; omega
      · have HR := Lib.hid (show m = left - (xs.length + sumS xs) by have a := hme.out; rw [List.take_of_length_le (by omega)] at a; exact a)
        go_wp2_with fail
        go_ret
        exact ⟨m, rfl, .inr ⟨hm0, HR.out⟩, HB.out⟩

set_option maxHeartbeats 1000000 in
theorem szIntSS_any (xs : List (List Int)) (v : Value) (left : Int) (B : Nat) (w : World) (hv : kRow.Rd B w v xs) (hB : B ≤ w.heap.size) (h0 : 0 ≤ left) (h1 : left ≤ 1048576) :
    Calls Try.prog 67 #[v, .int .i64 left] w (SzPost left (xs.length + sumR xs) w.heap.size w) := by
  obtain ⟨p, cap, rfl⟩ := hv.form
  obtain ⟨_, hm1, hm⟩ := hv.max
  unfold maxLen at hm
  have HV := Lib.hid hv
  clear hv
  by_cases hlt : left < xs.length
  · go_enter Try.func67, Try.ntmps67
    go_wp2_with fail
    go_ret
    exact ⟨-1, rfl, .inl rfl, Below.refl _ _⟩
  · have q1 : decide (left - (xs.length : Int) < 0) = false := by simp; omega
    have q1' : decide (left < (xs.length : Int)) = false := by simp; omega
    go_enter Try.func67, Try.ntmps67
    go_wp2_with fail
    go_loopw [1, 5] (fun l i wr => ∃ (k : Nat) (m : Int), k ≤ xs.length ∧ i = .int .i64 k ∧ l = .int .i64 m ∧ 0 ≤ m ∧ m ≤ 1048576 ∧ RowKit.Hid (m = left - (xs.length + sumR (xs.take k))) ∧ Below w.heap.size w wr) (fun _ i _ => xs.length - (intOf i).toNat)
    case atStart => exact ⟨0, left - xs.length, Nat.zero_le _, rfl, rfl, by omega, by omega, Lib.hid (by simp [sumR]), Below.refl _ _⟩
    case round =>
      obtain ⟨k, m, hk, rfl, rfl, hm0, hm1, hme, hbw⟩ := hrel
      have hsz := hbw.size
      have HB := Lib.hid hbw
      clear hbw
      by_cases hlt2 : k < xs.length
      · obtain ⟨b, off, q, c, rfl, hb, c0, hin⟩ := kRow_get (HV.out.to (HB.out.mono hB) (Nat.le_refl _)) hlt2
        have hsum := sumR_succ xs k hlt2
        obtain ⟨x, ex⟩ : ∃ x, x = xs[k] := ⟨_, rfl⟩
        rw [← ex] at c0 hsum hin
        have HS := Lib.hid hsum
        have HIN := Lib.hid hin
        clear ex hsum hin
        go_wp2_with fail
        refine (szIntS_any x _ m B _ HIN.out (by omega) hm0 hm1).mono ?_
        rintro en w' ⟨s, rfl, hr, hb1⟩
        have HB1 := Lib.hid hb1
        clear hb1
        rcases hr with hr | ⟨hr0, hr⟩
        · have hneg : s < 0 := by omega
          clear hr
          go_wp2_with fail
          go_ret
          exact ⟨-1, rfl, .inl rfl, HB.out.trans (HB1.out.mono hsz)⟩
        · have hr1 : s ≤ 1048576 := by omega
          have HR := Lib.hid (show s = left - (xs.length + sumR (xs.take (k + 1))) by have a := hme.out; have b := HS.out; omega)
          clear hr
          go_wp2_with fail
          go_roundw
          case rel => exact ⟨k + 1, s, by omega, by go_num, rfl, hr0, hr1, HR, HB.out.trans (HB1.out.mono hsz)⟩
          case measure => simp [intOf]; omega
      · have HR := Lib.hid (show m = left - (xs.length + sumR xs) by have a := hme.out; rw [List.take_of_length_le (by omega)] at a; exact a)
        go_wp2_with fail
        go_ret
        exact ⟨m, rfl, .inr ⟨hm0, HR.out⟩, HB.out⟩

theorem infoStrT : (Try.prog.info? 9).map (fun i => (i.zero, i.size, i.bytes)) = some (some (.string ⟨#[]⟩), 1, 16) := by kernel_rfl
theorem infoRowT : (Try.prog.info? 23).map (fun i => (i.zero, i.size, i.bytes)) = some (some (.slice none 0 0), 1, 24) := by kernel_rfl
/-- A store of one cell. -/
theorem stores1 {T : TypeId} {b o : Nat} {x : Value} {w : World} : Stores T b o 1 [x] w (w.setCell ⟨b, o, none⟩ x) := by
  refine ⟨(Chg.refl _ w).setCell (by simp) _, fun L hL hl => ⟨L.set o x, hL.set _ _, by simp, fun i hi => ?_, fun j u hu => ?_⟩⟩
  · rw [List.getElem?_set_ne (by omega)]
  · match j, hu with
    | 0, hu =>
      simp at hu; subst hu
      rw [Nat.add_zero, List.getElem?_set_self (by omega)]
    | j + 1, hu => simp at hu

set_option maxRecDepth 100000 in
set_option maxHeartbeats 1000000 in
theorem toStringS_any (xs : List ByteArray) (v : Value) (B : Nat) (w : World) (hv : kStr.Rd B w v xs) (hB : B ≤ w.heap.size) (hn : xs.length ≤ 1048576) :
    Calls Try.prog 36 #[v] w fun e w' => ∃ v' F, e = .returned v' ∧ kStr.Ow w' v' xs F ∧ (∀ x ∈ F, w.heap.size ≤ x) ∧ Below w.heap.size w w' := by
  obtain ⟨p, cap, rfl⟩ := hv.form
  obtain ⟨_, hm1, hm2⟩ := hv.max
  unfold maxLen at hm2
  have HV := Lib.hid hv
  clear hv
  have hmk : ∀ w : World, (Instr.makeSlice 30 (.int .i64 (xs.length : Int)) (.int .i64 (xs.length : Int))).run Try.prog w = .ok (.slice (some ⟨w.heap.size, 0, none⟩) xs.length xs.length) (w.alloc (.cells (madeCells #[.string ⟨#[]⟩] xs.length) 9)) := by
    intro w
    obtain ⟨i, hi, hzz⟩ := Option.map_eq_some_iff.1 infoStrT
    simp only [Prod.mk.injEq] at hzz
    obtain ⟨hz, hs, hb⟩ := hzz
    have hr := run_make (P := Try.prog) w 30 9 i _ Try.underlying30 hi hz .i64 .i64 xs.length xs.length (by omega) (Int.le_refl _) (by rw [hb]; omega) (by omega)
    rw [hs, Nat.mul_one] at hr
    exact hr
  have hbk := Blk.new w (madeCells #[.string ⟨#[]⟩] xs.length) 9
  have HI0 := Lib.hid (KInv.zero (K := kStr) (xs := xs) (by simp [madeCells]; exact (Nat.mul_one _).symm) hbk)
  clear hbk
  go_enter Try.func36, Try.ntmps36
  go_wp2_with fail
  go_loopw [4] (fun i wr => ∃ (k : Nat), k ≤ xs.length ∧ i = .int .i64 k ∧ RowKit.Hid (KInv kStr xs 9 w.heap.size k wr) ∧ Below w.heap.size w wr) (fun i _ => xs.length - (intOf i).toNat)
  case atStart => exact ⟨0, Nat.zero_le _, rfl, HI0, (Below.refl _ _).alloc (Nat.le_refl _) _⟩
  case round =>
    obtain ⟨k, hk, rfl, HI, hbw⟩ := hrel
    have hsz := hbw.size
    have hlt := HI.out.lt
    have HB := Lib.hid hbw
    clear hbw
    by_cases hlt2 : k < xs.length
    · obtain ⟨b, off, rfl, hb, c0⟩ := kStr_get (HV.out.to (HB.out.mono hB) (Nat.le_refl _)) hlt2
      have HN := Lib.hid (HI.out.step hlt2 (Below.refl _ _) (show kStr.ow wr xs[k] [.string xs[k]] [] from ⟨rfl, rfl⟩) (by simp) stores1)
      obtain ⟨⟨d0, e0⟩, g0⟩ := HI.out.cells k (by rw [show kStr.sz = 1 from rfl]; omega)
      rw [show k * kStr.sz = k from Nat.mul_one k] at HN
      go_wp2_with fail
      go_roundw
      case rel => exact ⟨k + 1, by omega, by go_num, HN, HB.out.setCell (Nat.le_refl _) _⟩
      case measure => simp [intOf]; omega
    · obtain rfl : k = xs.length := by omega
      obtain ⟨F, ho, hF⟩ := HI.out.done (by unfold maxLen; omega)
      have HO := Lib.hid ho
      have HF := Lib.hid hF
      clear ho hF
      go_wp2_with fail
      go_ret
      exact ⟨_, F, rfl, HO.out, HF.out, HB.out⟩

set_option maxRecDepth 100000 in
set_option maxHeartbeats 1000000 in
theorem toIntSS_any (xs : List (List Int)) (v : Value) (B : Nat) (w : World) (hv : kRow.Rd B w v xs) (hB : B ≤ w.heap.size) (hn : xs.length + sumR xs ≤ 1048576) :
    Calls Try.prog 68 #[v] w fun e w' => ∃ v' F, e = .returned v' ∧ kRow.Ow w' v' xs F ∧ (∀ x ∈ F, w.heap.size ≤ x) ∧ Below w.heap.size w w' := by
  obtain ⟨p, cap, rfl⟩ := hv.form
  obtain ⟨_, hm1, hm2⟩ := hv.max
  unfold maxLen at hm2
  have HV := Lib.hid hv
  clear hv
  have hmk : ∀ w : World, (Instr.makeSlice 31 (.int .i64 (xs.length : Int)) (.int .i64 (xs.length : Int))).run Try.prog w = .ok (.slice (some ⟨w.heap.size, 0, none⟩) xs.length xs.length) (w.alloc (.cells (madeCells #[.slice none 0 0] xs.length) 23)) := by
    intro w
    obtain ⟨i, hi, hzz⟩ := Option.map_eq_some_iff.1 infoRowT
    simp only [Prod.mk.injEq] at hzz
    obtain ⟨hz, hs, hb⟩ := hzz
    have hr := run_make (P := Try.prog) w 31 23 i _ Try.underlying31 hi hz .i64 .i64 xs.length xs.length (by omega) (Int.le_refl _) (by rw [hb]; omega) (by omega)
    rw [hs, Nat.mul_one] at hr
    exact hr
  have hbk := Blk.new w (madeCells #[.slice none 0 0] xs.length) 23
  have HI0 := Lib.hid (KInv.zero (K := kRow) (xs := xs) (by simp [madeCells]; exact (Nat.mul_one _).symm) hbk)
  clear hbk
  go_enter Try.func68, Try.ntmps68
  go_wp2_with fail
  go_loopw [4] (fun i wr => ∃ (k : Nat), k ≤ xs.length ∧ i = .int .i64 k ∧ RowKit.Hid (KInv kRow xs 23 w.heap.size k wr) ∧ Below w.heap.size w wr) (fun i _ => xs.length - (intOf i).toNat)
  case atStart => exact ⟨0, Nat.zero_le _, rfl, HI0, (Below.refl _ _).alloc (Nat.le_refl _) _⟩
  case round =>
    obtain ⟨k, hk, rfl, HI, hbw⟩ := hrel
    have hsz := hbw.size
    have hlt := HI.out.lt
    have HB := Lib.hid hbw
    clear hbw
    by_cases hlt2 : k < xs.length
    · obtain ⟨b, off, q, c, rfl, hb, c0, hin⟩ := kRow_get (HV.out.to (HB.out.mono hB) (Nat.le_refl _)) hlt2
      have hsize := sumR_get xs k hlt2
      have hstep := fun (w1 : World) (hb : Below wr.heap.size wr w1) (s : Value) (F' : List Nat) (ho : OwnSl 1 intCells w1 s xs[k] F') (hF : ∀ x ∈ F', wr.heap.size ≤ x) => HI.out.step hlt2 hb (show kRow.ow w1 xs[k] [s] F' from ⟨s, rfl, kInt_ow.2 ho⟩) hF (stores1 (o := k * kRow.sz))
      rw [show k * kRow.sz = k from Nat.mul_one k] at hstep
      obtain ⟨x, ex⟩ : ∃ x, x = xs[k] := ⟨_, rfl⟩
      rw [← ex] at c0 hin hsize hstep
      have HIN := Lib.hid hin
      have HS := Lib.hid hstep
      clear ex hin hstep
      go_wp2_with fail
      refine (toIntS_any x _ B _ HIN.out (by omega) (by omega)).mono ?_
      rintro en w1 ⟨v1, F1, rfl, ho, hF, hb1⟩
      obtain ⟨p1, d1, rfl⟩ := ho.sl.form
      have HN := Lib.hid (HS.out w1 hb1 _ F1 ho hF)
      have HB1 := Lib.hid (HB.out.trans (hb1.mono hsz))
      have hw1 : w.heap.size < w1.heap.size := Nat.lt_of_lt_of_le hlt hb1.size
      obtain ⟨⟨d0, e0⟩, g0⟩ := HI.out.cells k (by rw [show kRow.sz = 1 from rfl]; omega)
      have e0' := keepc hb1 hlt e0
      have g0' : w1.frozen? ⟨w.heap.size, k, none⟩ = false := (hb1.frozen (p := ⟨w.heap.size, k, none⟩) hlt).trans g0
      clear hb1 ho hF e0 g0
      go_wp2_with fail
      go_roundw
      case rel => exact ⟨k + 1, by omega, by go_num, HN, HB1.out.setCell (Nat.le_refl _) _⟩
      case measure => simp [intOf]; omega
    · obtain rfl : k = xs.length := by omega
      obtain ⟨F, ho, hF⟩ := HI.out.done (by unfold maxLen; omega)
      have HO := Lib.hid ho
      have HF := Lib.hid hF
      clear ho hF
      go_wp2_with fail
      go_ret
      exact ⟨_, F, rfl, HO.out, HF.out, HB.out⟩

set_option maxRecDepth 100000 in
set_option maxHeartbeats 1000000 in
theorem eqStringS_any (xs : List ByteArray) (v v' : Value) (B : Nat) (w : World) (hv : kStr.Rd B w v xs) (hv' : kStr.Rd B w v' xs) (hB : B ≤ w.heap.size) :
    Calls Try.prog 39 #[v, v'] w fun e w' => e = .returned (.bool true) ∧ Below w.heap.size w w' := by
  obtain ⟨p, cap, rfl⟩ := hv.form
  obtain ⟨p', cap', rfl⟩ := hv'.form
  obtain ⟨_, _, hm⟩ := hv.max
  obtain ⟨_, _, hm'⟩ := hv'.max
  have hl := hv.max.2.1
  unfold maxLen at hm hm'
  have HV := Lib.hid hv
  have HV' := Lib.hid hv'
  clear hv hv'
  go_enter Try.func39, Try.ntmps39
  go_wp2_with fail
  go_loopw [5] (fun i wr => ∃ k : Nat, k ≤ xs.length ∧ i = .int .i64 k ∧ Below w.heap.size w wr) (fun i _ => xs.length - (intOf i).toNat)
  case atStart => exact ⟨0, Nat.zero_le _, rfl, Below.refl _ _⟩
  case round =>
    obtain ⟨k, hk, rfl, hbw⟩ := hrel
    have hsz := hbw.size
    have HB := Lib.hid hbw
    clear hbw
    by_cases hlt2 : k < xs.length
    · obtain ⟨b, off, rfl, hb, c0⟩ := kStr_get (HV.out.to (HB.out.mono hB) (Nat.le_refl _)) hlt2
      obtain ⟨b', off', rfl, hb', d0⟩ := kStr_get (HV'.out.to (HB.out.mono hB) (Nat.le_refl _)) hlt2
      obtain ⟨x, ex⟩ : ∃ x, x = xs[k] := ⟨_, rfl⟩
      rw [← ex] at c0 d0
      clear ex
      go_wp2_with fail
      go_still_tail 8, (by kernel_rfl)
      go_wp2_with fail
      go_roundw
      case rel => exact ⟨k + 1, by omega, by go_num, HB.out.drew⟩
      case measure => simp [intOf]; omega
    · obtain rfl : k = xs.length := by omega
      go_wp2_with fail
      go_ret
      exact ⟨rfl, HB.out⟩

set_option maxRecDepth 100000 in
set_option maxHeartbeats 1000000 in
theorem eqIntSS_any (xs : List (List Int)) (v v' : Value) (B : Nat) (w : World) (hv : kRow.Rd B w v xs) (hv' : kRow.Rd B w v' xs) (hB : B ≤ w.heap.size) :
    Calls Try.prog 69 #[v, v'] w fun e w' => e = .returned (.bool true) ∧ Below w.heap.size w w' := by
  obtain ⟨p, cap, rfl⟩ := hv.form
  obtain ⟨p', cap', rfl⟩ := hv'.form
  obtain ⟨_, _, hm⟩ := hv.max
  obtain ⟨_, _, hm'⟩ := hv'.max
  have hl := hv.max.2.1
  unfold maxLen at hm hm'
  have HV := Lib.hid hv
  have HV' := Lib.hid hv'
  clear hv hv'
  go_enter Try.func69, Try.ntmps69
  go_wp2_with fail
  go_loopw [5] (fun i wr => ∃ k : Nat, k ≤ xs.length ∧ i = .int .i64 k ∧ Below w.heap.size w wr) (fun i _ => xs.length - (intOf i).toNat)
  case atStart => exact ⟨0, Nat.zero_le _, rfl, Below.refl _ _⟩
  case round =>
    obtain ⟨k, hk, rfl, hbw⟩ := hrel
    have hsz := hbw.size
    have HB := Lib.hid hbw
    clear hbw
    by_cases hlt2 : k < xs.length
    · obtain ⟨b, off, q, c, rfl, hb, c0, hin⟩ := kRow_get (HV.out.to (HB.out.mono hB) (Nat.le_refl _)) hlt2
      obtain ⟨b', off', q', c', rfl, hb', d0, hin'⟩ := kRow_get (HV'.out.to (HB.out.mono hB) (Nat.le_refl _)) hlt2
      obtain ⟨x, ex⟩ : ∃ x, x = xs[k] := ⟨_, rfl⟩
      rw [← ex] at c0 d0 hin hin'
      have H1 := Lib.hid (hin.below (Below.refl B wr).drew)
      have H2 := Lib.hid (hin'.below (Below.refl B wr).drew)
      clear ex hin hin'
      go_wp2_with fail
      go_still_tail 8, (by kernel_rfl)
      go_wp2_with fail
      refine (eqIntS_any x _ _ B _ H1.out H2.out (by show B ≤ wr.heap.size; omega)).mono ?_
      rintro en w' ⟨rfl, hb1⟩
      have HB1 := Lib.hid (HB.out.drew.trans (hb1.mono hsz))
      clear hb1
      go_wp2_with fail
      go_roundw
      case rel => exact ⟨k + 1, by omega, by go_num, HB1.out⟩
      case measure => simp [intOf]; omega
    · obtain rfl : k = xs.length := by omega
      go_wp2_with fail
      go_ret
      exact ⟨rfl, HB.out⟩

set_option maxHeartbeats 1000000 in
theorem szTable_any (x : Tb) (v : Value) (left : Int) (B : Nat) (w : World) (hx : x.At B w v) (hB : B ≤ w.heap.size) (h0 : 0 ≤ left) (h1 : left ≤ 1048576) (hok : x.Ok) :
    Calls Try.prog 29 #[v, .int .i64 left] w (SzPost left x.need w.heap.size w) := by
  obtain ⟨a, b, rfl, ha, hb⟩ := hx
  have H1 := Lib.hid ha
  have H2 := Lib.hid hb
  clear ha hb
  go_enter Try.func29, Try.ntmps29
  go_wp2_with fail
  refine (szStringS_any x.cs a left B _ (H1.out.to ((Below.refl B w).alloc hB _) (Nat.le_refl _)) (by simp; omega) h0 h1 hok.1).mono ?_
  rintro e w1 ⟨r, rfl, hr, hb1⟩
  have hs1 : w.heap.size < w1.heap.size := by have := hb1.size; simp at this; omega
  have c1 := new_cell hb1 (j := 1) rfl
  have HB1 := Lib.hid (below_past hb1)
  clear hb1
  rcases hr with hr | ⟨hr0, hr⟩
  · have HR := Lib.hid hr
    have hneg : r < 0 := by omega
    clear hr
    go_wp2_with fail
    go_ret
    exact ⟨-1, rfl, .inl rfl, HB1.out⟩
  · have hr1 : r ≤ 1048576 := by omega
    have HR := Lib.hid hr
    clear hr
    go_wp2_with fail
    refine (szIntSS_any x.rs b r B _ (H2.out.to (HB1.out.mono hB) (Nat.le_refl _)) (by omega) hr0 hr1).mono ?_
    rintro e w2 ⟨r2, rfl, hr2, hb2⟩
    have HB2 := Lib.hid (HB1.out.trans (hb2.mono (by omega)))
    clear hb2
    rcases hr2 with hr2 | ⟨hr20, hr2⟩
    · have hneg : r2 < 0 := by omega
      clear hr2
      go_wp2_with fail
      go_ret
      exact ⟨-1, rfl, .inl rfl, HB2.out⟩
    · have HR2 := Lib.hid hr2
      clear hr2
      go_wp2_with fail
      go_ret
      exact ⟨r2, rfl, .inr ⟨hr20, by have a := HR.out; have b := HR2.out; unfold Tb.need; omega⟩, HB2.out⟩

set_option maxHeartbeats 1000000 in
theorem toTable_raw (g : Tb) (v : Value) (B : Nat) (w : World) (hg : g.At B w v) (hB : B ≤ w.heap.size) (h1 : g.cs.length ≤ 1048576) (h2 : g.rs.length + sumR g.rs ≤ 1048576) :
    Calls Try.prog 30 #[v] w fun e w' => ∃ v' F1 F2, e = .returned v' ∧ (∃ a b, v' = .agg #[a, b] ∧ kStr.Ow w' a g.cs F1 ∧ kRow.Ow w' b g.rs F2 ∧ (∀ x ∈ F1, w.heap.size ≤ x) ∧ (∀ x ∈ F2, w.heap.size ≤ x) ∧ (∀ x ∈ F1, x ∉ F2)) ∧ Below w.heap.size w w' := by
  obtain ⟨a, b, rfl, ha, hb⟩ := hg
  go_enter Try.func30, Try.ntmps30
  go_wp2_with fail
  have HW := Lib.hid ((((Below.refl B w).alloc hB (.cells #[a, b] 44)).alloc (by simp; omega) (.cells #[.slice none 0 0, .slice none 0 0] 33)).alloc (by simp; omega) (.cells #[.slice none 0 0, .slice none 0 0] 33))
  have HV := Lib.hid ((((Below.refl w.heap.size w).alloc (by simp) (.cells #[a, b] 44)).alloc (by simp) (.cells #[.slice none 0 0, .slice none 0 0] 33)).alloc (by simp <;> omega) (.cells #[.slice none 0 0, .slice none 0 0] 33))
  refine (toStringS_any g.cs a B _ (ha.to HW.out (Nat.le_refl _)) (by simp; omega) h1).mono ?_
  rintro e w1 ⟨v1, F1, rfl, ho1, hf1, hb1⟩
  have hs1 : w.heap.size + 3 ≤ w1.heap.size := by have := hb1.size; simp at this; omega
  have p1 : w1.cell? ⟨w.heap.size, 1, none⟩ = some b := (hb1.cell (by simp; omega)).trans (by simp [go_sem])
  have q0 : w1.cell? ⟨w.heap.size + 1, 0, none⟩ = some (.slice none 0 0) := (hb1.cell (by simp)).trans (by simp [go_sem])
  have q1 : w1.cell? ⟨w.heap.size + 1, 1, none⟩ = some (.slice none 0 0) := (hb1.cell (by simp)).trans (by simp [go_sem])
  have q2 : w1.frozen? ⟨w.heap.size + 1, 0, none⟩ = false := (hb1.frozen (by simp)).trans (by simp [go_sem])
  have q3 : w1.frozen? ⟨w.heap.size + 1, 1, none⟩ = false := (hb1.frozen (by simp)).trans (by simp [go_sem])
  have r0 : w1.cell? ⟨w.heap.size + 1 + 1, 0, none⟩ = some (.slice none 0 0) := (hb1.cell (by simp)).trans (by simp [go_sem])
  have r1 : w1.cell? ⟨w.heap.size + 1 + 1, 1, none⟩ = some (.slice none 0 0) := (hb1.cell (by simp)).trans (by simp [go_sem])
  have r2 : w1.frozen? ⟨w.heap.size + 1 + 1, 0, none⟩ = false := (hb1.frozen (by simp)).trans (by simp [go_sem])
  have r3 : w1.frozen? ⟨w.heap.size + 1 + 1, 1, none⟩ = false := (hb1.frozen (by simp)).trans (by simp [go_sem])
  have HB1 := Lib.hid (HV.out.trans (hb1.mono (by simp; omega)))
  have HO1 := Lib.hid ho1
  have HF1 := Lib.hid (show ∀ x ∈ F1, w.heap.size + 3 ≤ x from fun x hx => by have := hf1 x hx; simp at this; omega)
  clear hf1
  have HC1 := Lib.hid (HW.out.trans (hb1.mono (by simp; omega)))
  clear hb1 ho1
  obtain ⟨pn, cn, rfl⟩ := HO1.out.form
  go_wp2_with fail
  refine (toIntSS_any g.rs b B _ (hb.to (HC1.out.setCell (by simp; omega) _) (Nat.le_refl _)) (by simp; omega) h2).mono ?_
  rintro e w2 ⟨v2, F2, rfl, ho2, hf2, hb2⟩
  have hz : (w1.setCell ⟨w.heap.size + 1 + 1, 0, none⟩ (.slice pn g.cs.length cn)).heap.size = w1.heap.size := by simp
  have hs2 : w1.heap.size ≤ w2.heap.size := by have := hb2.size; simp at this; omega
  have q0' : w2.cell? ⟨w.heap.size + 1, 0, none⟩ = some (.slice none 0 0) := ((hb2.cell (by simp; omega)).trans (set_far _ _ _ _ _ _ (by omega))).trans q0
  have q1' : w2.cell? ⟨w.heap.size + 1, 1, none⟩ = some (.slice none 0 0) := ((hb2.cell (by simp; omega)).trans (set_far _ _ _ _ _ _ (by omega))).trans q1
  have q2' : w2.frozen? ⟨w.heap.size + 1, 0, none⟩ = false := ((hb2.frozen (by simp; omega)).trans (by simp [go_sem])).trans q2
  have q3' : w2.frozen? ⟨w.heap.size + 1, 1, none⟩ = false := ((hb2.frozen (by simp; omega)).trans (by simp [go_sem])).trans q3
  have r0' : w2.cell? ⟨w.heap.size + 1 + 1, 0, none⟩ = some (.slice pn g.cs.length cn) := (hb2.cell (by simp; omega)).trans (set_same _ _ _ _ _ r0)
  have r1' : w2.cell? ⟨w.heap.size + 1 + 1, 1, none⟩ = some (.slice none 0 0) := ((hb2.cell (by simp; omega)).trans (set_near _ _ _ _ _ (by omega))).trans r1
  have r2' : w2.frozen? ⟨w.heap.size + 1 + 1, 0, none⟩ = false := ((hb2.frozen (by simp; omega)).trans (by simp [go_sem])).trans r2
  have r3' : w2.frozen? ⟨w.heap.size + 1 + 1, 1, none⟩ = false := ((hb2.frozen (by simp; omega)).trans (by simp [go_sem])).trans r3
  have HB2 := Lib.hid ((HB1.out.setCell (p := ⟨w.heap.size + 1 + 1, 0, none⟩) (by simp; omega) (.slice pn g.cs.length cn)).trans (hb2.mono (by simp; omega)))
  have HD2 := Lib.hid hb2
  have HO2 := Lib.hid ho2
  have HF2 := Lib.hid (show ∀ x ∈ F2, w1.heap.size ≤ x from fun x hx => by have := hf2 x hx; simp at this; omega)
  clear hf2
  clear hb2 ho2 p1 q0 q1 q2 q3 r0 r1 r2 r3
  obtain ⟨pe, ce, rfl⟩ := HO2.out.form
  go_wp2_with fail
  refine bodyPost_ret (v := .agg #[.slice pn g.cs.length cn, .slice pe g.rs.length ce]) (by simp [results, Try.results30, go_sem, q0', q1']) rfl ⟨_, F1, F2, rfl, ?_, ((HB2.out.setCell (by simp; omega) _).setCell (by simp) _).setCell (by simp) _⟩
  have g1 := fun x hx => HF1.out x hx
  have g2 := fun x hx => HF2.out x hx
  have hl1 := HO1.out.lt
  have hc1 : Chg [w.heap.size + 1 + 1] w1 w2 := ((Chg.refl [w.heap.size + 1 + 1] w1).setCell (by simp) _).then_below HD2.out
  have hc2 : Chg [w.heap.size + 1 + 1, w.heap.size + 1] w2 (((w2.setCell ⟨w.heap.size + 1 + 1, 1, none⟩ (.slice pe g.rs.length ce)).setCell ⟨w.heap.size + 1, 0, none⟩ (.slice pn g.cs.length cn)).setCell ⟨w.heap.size + 1, 1, none⟩ (.slice pe g.rs.length ce)) :=
    (((Chg.refl _ w2).setCell (by simp) _).setCell (by simp) _).setCell (by simp) _
  refine ⟨_, _, rfl, (HO1.out.chg hc1 ?_).chg hc2 ?_, HO2.out.chg hc2 ?_, ?_, ?_, ?_⟩
  · intro x hx; have := g1 x hx; simp; omega
  · intro x hx; have := g1 x hx; simp; omega
  · intro x hx; have := g2 x hx; simp; omega
  · intro x hx; have := g1 x hx; omega
  · intro x hx; have := g2 x hx; omega
  · intro x hx hx2; have := hl1 x hx; have := g2 x hx2; omega

theorem toTable_any (x : Tb) (v : Value) (B : Nat) (w : World) (hx : x.At B w v) (hB : B ≤ w.heap.size) (hn : x.need ≤ 1048576) :
    Calls Try.prog 30 #[v] w fun e w' => ∃ v' F, e = .returned v' ∧ x.Has v' F w' ∧ (∀ y ∈ F, w.heap.size ≤ y) ∧ Below w.heap.size w w' := by
  have h1 : x.cs.length ≤ 1048576 := by unfold Tb.need at hn; omega
  have h2 : x.rs.length + sumR x.rs ≤ 1048576 := by unfold Tb.need at hn; omega
  refine (toTable_raw x v B w hx hB h1 h2).mono ?_
  rintro e w' ⟨v', F1, F2, rfl, ⟨a, b, rfl, o1, o2, l1, l2, hd⟩, hb⟩
  refine ⟨_, F1 ++ F2, rfl, ⟨a, b, F1, F2, rfl, rfl, o1, o2, hd⟩, fun y hy => ?_, hb⟩
  rcases List.mem_append.1 hy with hy | hy
  · exact l1 y hy
  · exact l2 y hy

set_option maxHeartbeats 1000000 in
theorem eqTable_any (g : Tb) (v v' : Value) (B : Nat) (w : World) (hg : g.At B w v) (hg' : g.At B w v') (hB : B ≤ w.heap.size) :
    Calls Try.prog 31 #[v, v'] w fun e w' => e = .returned (.bool true) ∧ Below w.heap.size w w' := by
  obtain ⟨a, b, rfl, ha, hb⟩ := hg
  obtain ⟨a', b', rfl, ha', hb'⟩ := hg'
  go_enter Try.func31, Try.ntmps31
  go_wp2_with fail
  have HW := Lib.hid (((Below.refl B w).alloc hB (.cells #[a, b] 33)).alloc (by simp; omega) (.cells #[a', b'] 33))
  refine (eqStringS_any g.cs a a' B _ (ha.to HW.out (Nat.le_refl _)) (ha'.to HW.out (Nat.le_refl _)) (by simp; omega)).mono ?_
  rintro e w1 ⟨rfl, hb1⟩
  have hs1 : w.heap.size + 2 ≤ w1.heap.size := by have := hb1.size; simp at this; omega
  have p1 : w1.cell? ⟨w.heap.size, 1, none⟩ = some b := (hb1.cell (by simp; omega)).trans (by simp [go_sem])
  have q1 : w1.cell? ⟨w.heap.size + 1, 1, none⟩ = some b' := (hb1.cell (by simp)).trans (by simp [go_sem])
  have HB1 := Lib.hid ((((Below.refl w.heap.size w).alloc (by simp) (.cells #[a, b] 33)).alloc (by simp) (.cells #[a', b'] 33)).trans (hb1.mono (by simp; omega)))
  clear hb1
  go_wp2_with fail
  refine (eqIntSS_any g.rs b b' B _ (hb.to (HB1.out.mono hB) (Nat.le_refl _)) (hb'.to (HB1.out.mono hB) (Nat.le_refl _)) (by omega)).mono ?_
  rintro e w2 ⟨rfl, hb2⟩
  have HB2 := Lib.hid (HB1.out.trans (hb2.mono (by omega)))
  clear hb2
  go_wp2_with fail
  go_ret
  exact ⟨rfl, HB2.out⟩

end Go.Proofs.Ytfdkmngkpihpbaa
namespace Go.Proofs.Ytfdkmngkpihpbaa
open Go.RowKit

theorem bytes_of {a b : ByteArray} (h : a.toList = b.toList) : a = b := by
  rw [ByteArray.toList_eq, ByteArray.toList_eq] at h
  exact ByteArray.ext (Array.toList_inj.1 h)
theorem str_same {a b : ByteArray} (h : a = b) : (a.toList == b.toList) = true := by subst h; simp
theorem str_diff {a b : ByteArray} (h : a ≠ b) : (a.toList == b.toList) = false := beq_eq_false_iff_ne.2 fun e => h (bytes_of e)
/-- The first k of a row have p. -/
def AllTo {α : Type} (p : α → Bool) (xs : List α) (k : Nat) : Prop := (xs.take k).all p = true
theorem AllTo.zero {α : Type} (p : α → Bool) (xs : List α) : AllTo p xs 0 := rfl
theorem AllTo.succ {α : Type} {p : α → Bool} {xs : List α} {k : Nat} (h : AllTo p xs k) (hk : k < xs.length) (hp : p xs[k] = true) : AllTo p xs (k + 1) := by
  unfold AllTo at *
  rw [List.take_succ_eq_append_getElem hk, List.all_append, h]
  simp only [List.all_cons, List.all_nil, Bool.and_true, Bool.true_and]; exact hp
theorem AllTo.full {α : Type} {p : α → Bool} {xs : List α} (h : AllTo p xs xs.length) : xs.all p = true := by unfold AllTo at h; rwa [List.take_length] at h
theorem all_no {α : Type} {p : α → Bool} {xs : List α} {k : Nat} (hk : k < xs.length) (hp : p xs[k] = false) : xs.all p = false := by
  rw [List.all_eq_false]; exact ⟨_, List.getElem_mem hk, by rw [hp]; exact Bool.false_ne_true⟩
/-- The first k of a row are there once. -/
def OnceA {α : Type} (xs : List α) (k : Nat) : Prop := (xs.take k).Nodup
theorem OnceA.zero {α : Type} (xs : List α) : OnceA xs 0 := by simp [OnceA]
theorem OnceA.succ {α : Type} {xs : List α} {k : Nat} (h : OnceA xs k) (hk : k < xs.length) (hn : xs[k] ∉ xs.take k) : OnceA xs (k + 1) := by
  unfold OnceA at *
  rw [List.take_succ_eq_append_getElem hk, List.nodup_append]
  refine ⟨h, by simp, fun a ha b hb => ?_⟩
  simp only [List.mem_singleton] at hb
  subst hb
  rintro rfl
  exact hn ha
theorem OnceA.full {α : Type} {xs : List α} (h : OnceA xs xs.length) : xs.Nodup := by unfold OnceA at h; rwa [List.take_length] at h
theorem once_bad {α : Type} {xs : List α} {k : Nat} (hk : k < xs.length) (hn : xs[k] ∈ xs.take k) : ¬ xs.Nodup := fun h => by
  have h2 : (xs.take (k + 1)).Nodup := h.sublist (List.take_sublist _ _)
  rw [List.take_succ_eq_append_getElem hk, List.nodup_append] at h2
  exact h2.2.2 _ hn _ (by simp) rfl
def okNum (n : Int) : Bool := decide (-1 ≤ n) && decide (n ≤ 1000)
def rowOk (k : Nat) (r : List Int) : Bool := decide (r.length = k) && r.all okNum
def onceS (cs : List ByteArray) : Bool := decide cs.Nodup
def tbNames (cs : List ByteArray) : Bool := decide (1 ≤ cs.length) && decide (cs.length ≤ 6) && onceS cs && cs.all lv
def Tb.ok (x : Tb) : Bool := tbNames x.cs && decide (x.rs.length ≤ 400) && x.rs.all (rowOk x.cs.length)
/-- The place of a column, or -1. -/
def colAt : List ByteArray → ByteArray → Int
  | [], _ => -1
  | s :: r, z => if s = z then 0 else if colAt r z < 0 then -1 else colAt r z + 1
theorem colAt_miss : ∀ {xs : List ByteArray} {z : ByteArray}, z ∉ xs → colAt xs z = -1
  | [], _, _ => rfl
  | s :: r, z, h => by
    have h1 : s ≠ z := fun e => h (by simp [e])
    have h2 : colAt r z = -1 := colAt_miss fun e => h (by simp [e])
    unfold colAt; rw [if_neg h1, h2]; rfl
theorem colAt_hit : ∀ {xs : List ByteArray} {z : ByteArray} {k : Nat} (hk : k < xs.length), xs[k] = z → z ∉ xs.take k → colAt xs z = k
  | s :: r, z, 0, _, h, _ => by
    unfold colAt; rw [if_pos (by simpa using h)]; rfl
  | s :: r, z, k + 1, hk, h, hn => by
    have h1 : s ≠ z := fun e => hn (by simp [e])
    have h2 : colAt r z = k := colAt_hit (by simpa using hk) (by simpa using h) (fun e => hn (by simp [e]))
    unfold colAt; rw [if_neg h1, h2, if_neg (by omega)]; push_cast; rfl
theorem colAt_range (xs : List ByteArray) (z : ByteArray) : -1 ≤ colAt xs z ∧ colAt xs z < xs.length := by
  induction xs with
  | nil => simp [colAt]
  | cons s r ih =>
    unfold colAt
    split
    · first | (simp; done) | (simp; omega)
    · split
      · first | (simp; done) | (simp; omega)
      · rw [List.length_cons]; push_cast; omega
theorem colAt_mem {xs : List ByteArray} {z : ByteArray} : 0 ≤ colAt xs z ↔ z ∈ xs := by
  induction xs with
  | nil => simp [colAt]
  | cons s r ih =>
    unfold colAt
    split
    · rename_i h; simp [h]
    · rename_i h
      have h' : ¬ z = s := fun e => h e.symm
      split
      · rename_i h2
        have : z ∉ r := fun hm => by have := ih.2 hm; omega
        simp [h', this]
      · rename_i h2
        have : z ∈ r := ih.1 (by omega)
        simp [this]; omega
/-- Whether a text is in a row. -/
def hasS (xs : List ByteArray) (z : ByteArray) : Bool := decide (0 ≤ colAt xs z)
theorem hasS_yes {xs : List ByteArray} {z : ByteArray} (h : z ∈ xs) : hasS xs z = true := decide_eq_true (colAt_mem.2 h)
theorem hasS_no {xs : List ByteArray} {z : ByteArray} (h : z ∉ xs) : hasS xs z = false := decide_eq_false fun h2 => h (colAt_mem.1 h2)
namespace Kd
variable {α : Type}
theorem Rd.take {K : Kd α} {B : Nat} {w : World} {p : Option Addr} {n cap : Nat} {xs : List α} (h : K.Rd B w (.slice p n cap) xs) {k : Nat} (hk : k ≤ xs.length) : K.Rd B w (.slice p k cap) (xs.take k) := by
  obtain ⟨p', cap', h1, h2, h3, h4⟩ := h
  cases h1
  refine ⟨_, _, by rw [List.length_take, Nat.min_eq_left hk], by rw [List.length_take]; omega, h3, fun i hi => ?_⟩
  rw [List.length_take] at hi
  obtain ⟨b, off, cs, e, hl, hc, hr⟩ := h4 i (by omega)
  exact ⟨b, off, cs, e, hl, hc, by rwa [List.getElem_take]⟩
theorem at_add (b off k : Nat) : (some (⟨b, off, none⟩ : Addr)).map (fun a => a.add k) = some ⟨b, off + k, none⟩ := by simp [Addr.add]
theorem Rd.drop {K : Kd α} (hs : K.sz = 1) {B : Nat} {w : World} {p : Option Addr} {n cap : Nat} {xs : List α} (h : K.Rd B w (.slice p n cap) xs) {k : Nat} (hk : k ≤ xs.length) : K.Rd B w (.slice (p.map (fun a => a.add k)) (xs.length - k) (cap - k)) (xs.drop k) := by
  obtain ⟨p', cap', h1, h2, h3, h4⟩ := h
  cases h1
  refine ⟨_, _, by rw [List.length_drop], by rw [List.length_drop]; omega, by omega, fun i hi => ?_⟩
  rw [List.length_drop] at hi
  obtain ⟨b, off, cs, rfl, hl, hc, hr⟩ := h4 (k + i) (by omega)
  refine ⟨b, off + k, cs, at_add _ _ _, hl, fun j u hu => ?_, by rwa [List.getElem_drop]⟩
  have := hc j u hu
  rw [hs, Nat.mul_one] at this ⊢
  rw [show off + k + i + j = off + (k + i) + j by omega]; exact this
end Kd
end Go.Proofs.Ytfdkmngkpihpbaa
namespace Go.Proofs.Ytfdkmngkpihpbaa
open Go.RowKit

set_option maxRecDepth 100000 in
set_option maxHeartbeats 1000000 in
theorem slIndexStr_any (xs : List ByteArray) (z : ByteArray) (v : Value) (B : Nat) (w : World) (hv : kStr.Rd B w v xs) (hB : B ≤ w.heap.size) :
    Calls Try.prog 81 #[v, .string z] w fun e w' => e = .returned (.int .i64 (colAt xs z)) ∧ Below w.heap.size w w' := by
  obtain ⟨p, cap, rfl⟩ := hv.form
  have hmx := hv.max
  unfold maxLen at hmx
  have HV := Lib.hid hv
  clear hv
  go_enter Try.func81, Try.ntmps81
  go_wp2_with fail
  go_loopw [8] (fun i wr => ∃ k : Nat, k ≤ xs.length ∧ i = .int .i64 k ∧ RowKit.Hid (z ∉ xs.take k) ∧ Below w.heap.size w wr) (fun i _ => xs.length - (intOf i).toNat)
  case atStart => exact ⟨0, Nat.zero_le _, rfl, Lib.hid (by simp), Below.refl _ _⟩
  case round =>
    obtain ⟨k, hk, rfl, ha, hbw⟩ := hrel
    have hsz := hbw.size
    have HB := Lib.hid hbw
    clear hbw
    by_cases hlt : k < xs.length
    · obtain ⟨b, off, rfl, hb, c0⟩ := kStr_get (HV.out.to (HB.out.mono hB) (Nat.le_refl _)) hlt
      have hgood := Lib.hid (show z ≠ xs[k] → z ∉ xs.take (k + 1) from fun h => by rw [List.take_succ_eq_append_getElem hlt]; simp only [List.mem_append, List.mem_singleton]; exact fun h2 => h2.elim ha.out h)
      have hbad := Lib.hid (show z = xs[k] → colAt xs z = k from fun h => colAt_hit hlt h.symm ha.out)
      obtain ⟨x, ex⟩ : ∃ x, x = xs[k] := ⟨_, rfl⟩
      rw [← ex] at hgood hbad c0
      clear ex ha
      by_cases hE : z = x
      · have HG := Lib.hid (hbad.out hE)
        have hq := str_same hE
        clear hE hgood hbad
        go_wp2_with fail
        go_ret
        exact ⟨by rw [HG.out]; rfl, HB.out⟩
      · have HG := Lib.hid (hgood.out hE)
        have hq := str_diff hE
        clear hE hgood hbad
        go_wp2_with fail
        go_roundw
        case rel => exact ⟨k + 1, by omega, by go_num, HG, HB.out⟩
        case measure => simp [intOf]; omega
    · have HG := Lib.hid (show colAt xs z = -1 from colAt_miss (by have := ha.out; rwa [List.take_of_length_le (by omega)] at this))
      go_wp2_with fail
      go_ret
      exact ⟨by rw [HG.out]; rfl, HB.out⟩

set_option maxHeartbeats 400000 in
theorem slContainsStr_any (xs : List ByteArray) (z : ByteArray) (v : Value) (B : Nat) (w : World) (hv : kStr.Rd B w v xs) (hB : B ≤ w.heap.size) :
    Calls Try.prog 114 #[v, .string z] w fun e w' => e = .returned (.bool (hasS xs z)) ∧ Below w.heap.size w w' := by
  go_enter Try.func114, Try.ntmps114
  go_wp2_with fail
  have HM := Lib.hid (colAt_mem (xs := xs) (z := z))
  refine (slIndexStr_any xs z v B w hv hB).mono ?_
  rintro e w1 ⟨rfl, hb1⟩
  obtain ⟨r, er⟩ : ∃ r, r = colAt xs z := ⟨_, rfl⟩
  rw [← er] at HM ⊢
  have HB := Lib.hid hb1
  clear hb1 hv er
  by_cases hz : 0 ≤ r
  · have HZ := Lib.hid (HM.out.1 hz)
    have q0 : decide (0 ≤ r) = true := decide_eq_true hz
    go_wp2_with fail
    go_ret
    exact ⟨ret_bool (hasS_yes HZ.out).symm, HB.out⟩
  · have HZ := Lib.hid (show z ∉ xs from fun h => hz (HM.out.2 h))
    have q0 : decide (0 ≤ r) = false := decide_eq_false hz
    go_wp2_with fail
    go_ret
    exact ⟨ret_bool (hasS_no HZ.out).symm, HB.out⟩

set_option maxRecDepth 100000 in
set_option maxHeartbeats 1000000 in
theorem eachOnceS_any (xs : List ByteArray) (v : Value) (B : Nat) (w : World) (hv : kStr.Rd B w v xs) (hB : B ≤ w.heap.size) :
    Calls Try.prog 93 #[v] w fun e w' => e = .returned (.bool (onceS xs)) ∧ Below w.heap.size w w' := by
  obtain ⟨p, cap, rfl⟩ := hv.form
  have hmx := hv.max
  unfold maxLen at hmx
  have HV := Lib.hid hv
  clear hv
  go_enter Try.func93, Try.ntmps93
  go_wp2_with fail
  go_loopw [7] (fun i wr => ∃ k : Nat, k ≤ xs.length ∧ i = .int .i64 k ∧ RowKit.Hid (OnceA xs k) ∧ Below w.heap.size w wr) (fun i _ => xs.length - (intOf i).toNat)
  case atStart => exact ⟨0, Nat.zero_le _, rfl, Lib.hid (OnceA.zero _), Below.refl _ _⟩
  case round =>
    obtain ⟨k, hk, rfl, ha, hbw⟩ := hrel
    have hsz := hbw.size
    have HB := Lib.hid hbw
    clear hbw
    by_cases hlt : k < xs.length
    · have hv' := HV.out.to (HB.out.mono hB) (Nat.le_refl _)
      have HS := Lib.hid (hv'.take (Nat.le_of_lt hlt))
      obtain ⟨b, off, rfl, hb, c0⟩ := kStr_get hv' hlt
      have hgood := Lib.hid (show xs[k] ∉ xs.take k → OnceA xs (k + 1) from fun h => ha.out.succ hlt h)
      have hbad := Lib.hid (show xs[k] ∈ xs.take k → onceS xs = false from fun h => decide_eq_false (once_bad hlt h))
      obtain ⟨x, ex⟩ : ∃ x, x = xs[k] := ⟨_, rfl⟩
      rw [← ex] at hgood hbad c0
      clear ex ha hv'
      go_wp2_with fail
      refine (slContainsStr_any (xs.take k) x _ B _ HS.out (by omega)).mono ?_
      rintro e w1 ⟨rfl, hb1⟩
      have HB1 := Lib.hid (HB.out.trans (hb1.mono hsz))
      clear hb1
      by_cases hE : x ∈ xs.take k
      · have HG := Lib.hid (hbad.out hE)
        rw [hasS_yes hE]
        clear hE hgood hbad
        go_wp2_with fail
        go_ret
        exact ⟨ret_bool (by rw [HG.out]), HB1.out⟩
      · have HG := Lib.hid (hgood.out hE)
        rw [hasS_no hE]
        clear hE hgood hbad
        go_wp2_with fail
        go_roundw
        case rel => exact ⟨k + 1, by omega, by go_num, HG, HB1.out⟩
        case measure => simp [intOf]; omega
    · obtain rfl : k = xs.length := by omega
      have HG := Lib.hid (show onceS xs = true from decide_eq_true ha.out.full)
      go_wp2_with fail
      go_ret
      exact ⟨ret_bool (by rw [HG.out]), HB.out⟩

set_option maxHeartbeats 400000 in
theorem colFn_any (s : ByteArray) (w : World) (hs : s.size ≤ maxLen) :
    Calls Try.prog 95 #[.string s] w fun e w' => e = .returned (.bool (!lv s)) ∧ Below w.heap.size w w' := by
  go_enter Try.func95, Try.ntmps95
  go_wp2_with (go_at_call 96; refine (labelValid_any _ _ hs).mono ?_; rintro e w' ⟨rfl, rfl⟩)
  go_ret
  exact ⟨rfl, Below.refl _ _⟩

set_option maxRecDepth 100000 in
set_option maxHeartbeats 1000000 in
theorem indexCol_any (xs : List ByteArray) (v : Value) (B : Nat) (w : World) (hv : kStr.Rd B w v xs) (hB : B ≤ w.heap.size) (hok : ∀ s ∈ xs, s.size ≤ maxLen) :
    Calls Try.prog 115 #[v, .func (.func 95) #[] #[]] w fun e w' => ∃ r : Int, e = .returned (.int .i64 r) ∧ ((r = -1 ∧ xs.all lv = true) ∨ (0 ≤ r ∧ xs.all lv = false)) ∧ Below w.heap.size w w' := by
  obtain ⟨p, cap, rfl⟩ := hv.form
  have hmx := hv.max
  unfold maxLen at hmx
  have HV := Lib.hid hv
  clear hv
  have HOK := Lib.hid hok
  clear hok
  go_enter Try.func115, Try.ntmps115
  go_wp2_with fail
  go_loopw [8] (fun i wr => ∃ k : Nat, k ≤ xs.length ∧ i = .int .i64 k ∧ RowKit.Hid (AllTo lv xs k) ∧ Below w.heap.size w wr) (fun i _ => xs.length - (intOf i).toNat)
  case atStart => exact ⟨0, Nat.zero_le _, rfl, Lib.hid (AllTo.zero _ _), Below.refl _ _⟩
  case round =>
    obtain ⟨k, hk, rfl, HAC, hbw⟩ := hrel
    have hsz := hbw.size
    have HB := Lib.hid hbw
    clear hbw
    by_cases hlt : k < xs.length
    · obtain ⟨b, off, rfl, hb, c0⟩ := kStr_get (HV.out.to (HB.out.mono hB) (Nat.le_refl _)) hlt
      have hx := HOK.out _ (List.getElem_mem hlt)
      have hgood := Lib.hid (fun h => HAC.out.succ hlt h)
      have hbad := Lib.hid (fun h => all_no (p := lv) (xs := xs) hlt h)
      obtain ⟨x, ex⟩ : ∃ x, x = xs[k] := ⟨_, rfl⟩
      rw [← ex] at hgood hbad c0 hx
      clear ex HAC
      have HX := Lib.hid hx
      clear hx
      go_wp2_with fail
      with_reducible refine (colFn_any x _ HX.out).mono ?_
      rintro e w1 ⟨rfl, hb1⟩
      have HB1 := Lib.hid (HB.out.trans (hb1.mono hsz))
      clear hb1
      cases hE : lv x with
      | false =>
        have HG := Lib.hid (hbad.out hE)
        clear hE hgood hbad
        go_wp2_with fail
        go_ret
        exact ⟨k, rfl, .inr ⟨by omega, HG.out⟩, HB1.out⟩
      | true =>
        have HG := Lib.hid (hgood.out hE)
        clear hE hgood hbad
        go_wp2_with fail
        go_roundw
        case rel => exact ⟨k + 1, by omega, by go_num, HG, HB1.out⟩
        case measure => simp [intOf]; omega
    · obtain rfl : k = xs.length := by omega
      have HG := Lib.hid HAC.out.full
      go_wp2_with fail
      go_ret
      exact ⟨-1, rfl, .inl ⟨rfl, HG.out⟩, HB.out⟩
set_option maxHeartbeats 400000 in
theorem containsCol_any (xs : List ByteArray) (v : Value) (B : Nat) (w : World) (hv : kStr.Rd B w v xs) (hB : B ≤ w.heap.size) (hok : ∀ s ∈ xs, s.size ≤ maxLen) :
    Calls Try.prog 94 #[v, .func (.func 95) #[] #[]] w fun e w' => e = .returned (.bool (!xs.all lv)) ∧ Below w.heap.size w w' := by
  have HIX := Lib.hid (indexCol_any xs v B w hv hB hok)
  clear hv hok
  go_enter Try.func94, Try.ntmps94
  go_wp2_with fail
  with_reducible refine (HIX.out).mono ?_
  rintro e w1 ⟨r, rfl, hr, hb1⟩
  have HB := Lib.hid hb1
  clear hb1
  rcases hr with ⟨hr, hz⟩ | ⟨hr, hz⟩
  · have HZ := Lib.hid hz
    clear hz
    subst hr
    go_wp2_with fail
    go_ret
    exact ⟨ret_bool (by rw [HZ.out]; rfl), HB.out⟩
  · have HZ := Lib.hid hz
    have q0 : decide (0 ≤ r) = true := decide_eq_true hr
    clear hz
    go_wp2_with fail
    go_ret
    exact ⟨ret_bool (by rw [HZ.out]; rfl), HB.out⟩

theorem okNum_lo {n : Int} (h : n < -1) : okNum n = false := by unfold okNum; rw [decide_eq_false (p := -1 ≤ n) (by omega)]; rfl
theorem okNum_hi {n : Int} (h : 1000 < n) : okNum n = false := by unfold okNum; rw [decide_eq_false (p := n ≤ 1000) (by omega), Bool.and_false]
theorem okNum_in {n : Int} (h : ¬ n < -1) (h2 : ¬ 1000 < n) : okNum n = true := by unfold okNum; rw [decide_eq_true (p := -1 ≤ n) (by omega), decide_eq_true (p := n ≤ 1000) (by omega)]; rfl
set_option maxHeartbeats 400000 in
theorem outFn_any (n : Int) (w : World) :
    Calls Try.prog 61 #[.int .i64 n] w fun e w' => e = .returned (.bool (!okNum n)) ∧ Below w.heap.size w w' := by
  by_cases h0 : n < -1
  · have q0 : decide (n < -1) = true := decide_eq_true h0
    have HS := Lib.hid (okNum_lo h0)
    go_enter Try.func61, Try.ntmps61
    go_wp2_with fail
    go_ret
    exact ⟨ret_bool (by rw [HS.out]; rfl), Below.refl _ _⟩
  · have q0 : decide (n < -1) = false := decide_eq_false h0
    by_cases h1 : 1000 < n
    · have q1 : decide (1000 < n) = true := decide_eq_true h1
      have HS := Lib.hid (okNum_hi h1)
      clear h0
      go_enter Try.func61, Try.ntmps61
      go_wp2_with fail
      go_ret
      exact ⟨ret_bool (by rw [HS.out]; rfl), Below.refl _ _⟩
    · have q1 : decide (1000 < n) = false := decide_eq_false h1
      have HS := Lib.hid (okNum_in h0 h1)
      clear h0 h1
      go_enter Try.func61, Try.ntmps61
      go_wp2_with fail
      go_ret
      exact ⟨ret_bool (by rw [HS.out]; rfl), Below.refl _ _⟩

set_option maxRecDepth 100000 in
set_option maxHeartbeats 1000000 in
theorem indexNum_any (xs : List Int) (v : Value) (B : Nat) (w : World) (hv : Sl 1 intCells B w v xs) (hB : B ≤ w.heap.size) :
    Calls Try.prog 98 #[v, .func (.func 61) #[] #[]] w fun e w' => ∃ r : Int, e = .returned (.int .i64 r) ∧ ((r = -1 ∧ xs.all okNum = true) ∨ (0 ≤ r ∧ xs.all okNum = false)) ∧ Below w.heap.size w w' := by
  obtain ⟨p, cap, rfl⟩ := hv.form
  have hmx := hv.max
  unfold maxLen at hmx
  have HV := Lib.hid hv
  clear hv

  go_enter Try.func98, Try.ntmps98
  go_wp2_with fail
  go_loopw [8] (fun i wr => ∃ k : Nat, k ≤ xs.length ∧ i = .int .i64 k ∧ RowKit.Hid (AllTo okNum xs k) ∧ Below w.heap.size w wr) (fun i _ => xs.length - (intOf i).toNat)
  case atStart => exact ⟨0, Nat.zero_le _, rfl, Lib.hid (AllTo.zero _ _), Below.refl _ _⟩
  case round =>
    obtain ⟨k, hk, rfl, HAC, hbw⟩ := hrel
    have hsz := hbw.size
    have HB := Lib.hid hbw
    clear hbw
    by_cases hlt : k < xs.length
    · obtain ⟨b, off, rfl, hb, c0⟩ := (HV.out.below (HB.out.mono hB)).it hlt
      have hgood := Lib.hid (fun h => HAC.out.succ hlt h)
      have hbad := Lib.hid (fun h => all_no (p := okNum) (xs := xs) hlt h)
      obtain ⟨x, ex⟩ : ∃ x, x = xs[k] := ⟨_, rfl⟩
      rw [← ex] at hgood hbad c0
      clear ex HAC
      go_wp2_with fail
      with_reducible refine (outFn_any x _).mono ?_
      rintro e w1 ⟨rfl, hb1⟩
      have HB1 := Lib.hid (HB.out.trans (hb1.mono hsz))
      clear hb1
      cases hE : okNum x with
      | false =>
        have HG := Lib.hid (hbad.out hE)
        clear hE hgood hbad
        go_wp2_with fail
        go_ret
        exact ⟨k, rfl, .inr ⟨by omega, HG.out⟩, HB1.out⟩
      | true =>
        have HG := Lib.hid (hgood.out hE)
        clear hE hgood hbad
        go_wp2_with fail
        go_roundw
        case rel => exact ⟨k + 1, by omega, by go_num, HG, HB1.out⟩
        case measure => simp [intOf]; omega
    · obtain rfl : k = xs.length := by omega
      have HG := Lib.hid HAC.out.full
      go_wp2_with fail
      go_ret
      exact ⟨-1, rfl, .inl ⟨rfl, HG.out⟩, HB.out⟩
set_option maxHeartbeats 400000 in
theorem containsNum_any (xs : List Int) (v : Value) (B : Nat) (w : World) (hv : Sl 1 intCells B w v xs) (hB : B ≤ w.heap.size) :
    Calls Try.prog 64 #[v, .func (.func 61) #[] #[]] w fun e w' => e = .returned (.bool (!xs.all okNum)) ∧ Below w.heap.size w w' := by
  have HIX := Lib.hid (indexNum_any xs v B w hv hB)
  clear hv
  go_enter Try.func64, Try.ntmps64
  go_wp2_with fail
  with_reducible refine (HIX.out).mono ?_
  rintro e w1 ⟨r, rfl, hr, hb1⟩
  have HB := Lib.hid hb1
  clear hb1
  rcases hr with ⟨hr, hz⟩ | ⟨hr, hz⟩
  · have HZ := Lib.hid hz
    clear hz
    subst hr
    go_wp2_with fail
    go_ret
    exact ⟨ret_bool (by rw [HZ.out]; rfl), HB.out⟩
  · have HZ := Lib.hid hz
    have q0 : decide (0 ≤ r) = true := decide_eq_true hr
    clear hz
    go_wp2_with fail
    go_ret
    exact ⟨ret_bool (by rw [HZ.out]; rfl), HB.out⟩

theorem rowOk_len {k : Nat} {r : List Int} (h : r.length ≠ k) : rowOk k r = false := by unfold rowOk; rw [decide_eq_false h]; rfl
theorem rowOk_all {k : Nat} {r : List Int} (h : r.length = k) : rowOk k r = r.all okNum := by unfold rowOk; rw [decide_eq_true h]; rfl
set_option maxRecDepth 100000 in
set_option maxHeartbeats 1000000 in
theorem rowFn_any (n : Nat) (x : List Int) (v : Value) (B t c : Nat) (q : Option Addr) (d : Nat) (w : World) (hv : Sl 1 intCells B w v x) (hB : B ≤ w.heap.size) (ht : w.cell? ⟨t, 0, none⟩ = some (.slice q n d)) (hc : w.cell? ⟨c, 0, none⟩ = some (.func (.func 61) #[] #[])) :
    Calls Try.prog 63 #[v, .pointer (some ⟨t, 0, none⟩), .pointer (some ⟨c, 0, none⟩)] w fun e w' => e = .returned (.bool (!rowOk n x)) ∧ Below w.heap.size w w' := by
  obtain ⟨p, cap, rfl⟩ := hv.form
  have HCN := Lib.hid (containsNum_any x _ B w hv hB)
  clear hv
  by_cases hn : x.length = n
  · have HS := Lib.hid (rowOk_all hn)
    have hq : ((x.length : Int) != (n : Int)) = false := by rw [hn]; simp
    have hq1 : ((x.length : Int) == (n : Int)) = true := by rw [hn]; simp
    clear hn
    go_enter Try.func63, Try.ntmps63
    go_wp2_with fail
    with_reducible refine (HCN.out).mono ?_
    rintro e w1 ⟨rfl, hb1⟩
    have HB := Lib.hid hb1
    clear hb1
    go_wp2_with fail
    go_ret
    exact ⟨ret_bool (by rw [HS.out]), HB.out⟩
  · have HS := Lib.hid (rowOk_len hn)
    have hq : ((x.length : Int) != (n : Int)) = true := by simp; omega
    have hq1 : ((x.length : Int) == (n : Int)) = false := by simp; omega
    clear hn HCN
    go_enter Try.func63, Try.ntmps63
    go_wp2_with fail
    go_ret
    exact ⟨ret_bool (by rw [HS.out]; rfl), Below.refl _ _⟩

set_option maxRecDepth 100000 in
set_option maxHeartbeats 1000000 in
theorem indexRow_any (n : Nat) (t c : Nat) (q : Option Addr) (d : Nat) (xs : List (List Int)) (v : Value) (B : Nat) (w : World) (hv : kRow.Rd B w v xs) (hB : B ≤ w.heap.size) (htl : t < w.heap.size) (hcl : c < w.heap.size) (ht : w.cell? ⟨t, 0, none⟩ = some (.slice q n d)) (hc : w.cell? ⟨c, 0, none⟩ = some (.func (.func 61) #[] #[])) :
    Calls Try.prog 97 #[v, .func (.func 63) #[] #[.pointer (some ⟨t, 0, none⟩), .pointer (some ⟨c, 0, none⟩)]] w fun e w' => ∃ r : Int, e = .returned (.int .i64 r) ∧ ((r = -1 ∧ xs.all (rowOk n) = true) ∨ (0 ≤ r ∧ xs.all (rowOk n) = false)) ∧ Below w.heap.size w w' := by
  obtain ⟨p, cap, rfl⟩ := hv.form
  have hmx := hv.max
  unfold maxLen at hmx
  have HV := Lib.hid hv
  clear hv
  have HT := Lib.hid (fun (E : World) (hE : Below w.heap.size w E) => (⟨keepc hE htl ht, keepc hE hcl hc⟩ : E.cell? ⟨t, 0, none⟩ = some (.slice q n d) ∧ E.cell? ⟨c, 0, none⟩ = some (.func (.func 61) #[] #[])))
  clear ht hc
  go_enter Try.func97, Try.ntmps97
  go_wp2_with fail
  go_loopw [8] (fun i wr => ∃ k : Nat, k ≤ xs.length ∧ i = .int .i64 k ∧ RowKit.Hid (AllTo (rowOk n) xs k) ∧ Below w.heap.size w wr) (fun i _ => xs.length - (intOf i).toNat)
  case atStart => exact ⟨0, Nat.zero_le _, rfl, Lib.hid (AllTo.zero _ _), Below.refl _ _⟩
  case round =>
    obtain ⟨k, hk, rfl, HAC, hbw⟩ := hrel
    have hsz := hbw.size
    have HB := Lib.hid hbw
    clear hbw
    by_cases hlt : k < xs.length
    · obtain ⟨b, off, q2, c2, rfl, hb, c0, hin⟩ := kRow_get (HV.out.to (HB.out.mono hB) (Nat.le_refl _)) hlt
      have hgood := Lib.hid (fun h => HAC.out.succ hlt h)
      have hbad := Lib.hid (fun h => all_no (p := (rowOk n)) (xs := xs) hlt h)
      obtain ⟨x, ex⟩ : ∃ x, x = xs[k] := ⟨_, rfl⟩
      rw [← ex] at hgood hbad c0 hin
      clear ex HAC
      have HIN := Lib.hid hin
      clear hin
      go_wp2_with fail
      with_reducible refine (rowFn_any n x _ B t c q d _ HIN.out (by omega) (HT.out _ HB.out).1 (HT.out _ HB.out).2).mono ?_
      rintro e w1 ⟨rfl, hb1⟩
      have HB1 := Lib.hid (HB.out.trans (hb1.mono hsz))
      clear hb1
      cases hE : (rowOk n) x with
      | false =>
        have HG := Lib.hid (hbad.out hE)
        clear hE hgood hbad
        go_wp2_with fail
        go_ret
        exact ⟨k, rfl, .inr ⟨by omega, HG.out⟩, HB1.out⟩
      | true =>
        have HG := Lib.hid (hgood.out hE)
        clear hE hgood hbad
        go_wp2_with fail
        go_roundw
        case rel => exact ⟨k + 1, by omega, by go_num, HG, HB1.out⟩
        case measure => simp [intOf]; omega
    · obtain rfl : k = xs.length := by omega
      have HG := Lib.hid HAC.out.full
      go_wp2_with fail
      go_ret
      exact ⟨-1, rfl, .inl ⟨rfl, HG.out⟩, HB.out⟩
set_option maxHeartbeats 400000 in
theorem containsRow_any (n : Nat) (t c : Nat) (q : Option Addr) (d : Nat) (xs : List (List Int)) (v : Value) (B : Nat) (w : World) (hv : kRow.Rd B w v xs) (hB : B ≤ w.heap.size) (htl : t < w.heap.size) (hcl : c < w.heap.size) (ht : w.cell? ⟨t, 0, none⟩ = some (.slice q n d)) (hc : w.cell? ⟨c, 0, none⟩ = some (.func (.func 61) #[] #[])) :
    Calls Try.prog 62 #[v, .func (.func 63) #[] #[.pointer (some ⟨t, 0, none⟩), .pointer (some ⟨c, 0, none⟩)]] w fun e w' => e = .returned (.bool (!xs.all (rowOk n))) ∧ Below w.heap.size w w' := by
  have HIX := Lib.hid (indexRow_any n t c q d xs v B w hv hB htl hcl ht hc)
  clear hv ht hc
  go_enter Try.func62, Try.ntmps62
  go_wp2_with fail
  with_reducible refine (HIX.out).mono ?_
  rintro e w1 ⟨r, rfl, hr, hb1⟩
  have HB := Lib.hid hb1
  clear hb1
  rcases hr with ⟨hr, hz⟩ | ⟨hr, hz⟩
  · have HZ := Lib.hid hz
    clear hz
    subst hr
    go_wp2_with fail
    go_ret
    exact ⟨ret_bool (by rw [HZ.out]; rfl), HB.out⟩
  · have HZ := Lib.hid hz
    have q0 : decide (0 ≤ r) = true := decide_eq_true hr
    clear hz
    go_wp2_with fail
    go_ret
    exact ⟨ret_bool (by rw [HZ.out]; rfl), HB.out⟩

theorem tbNames_short {cs : List ByteArray} (h : cs.length < 1) : tbNames cs = false := by unfold tbNames; rw [decide_eq_false (p := 1 ≤ cs.length) (by omega)]; rfl
theorem tbNames_long {cs : List ByteArray} (h : 6 < cs.length) : tbNames cs = false := by unfold tbNames; rw [decide_eq_false (p := cs.length ≤ 6) (by omega)]; simp
theorem tbNames_mid {cs : List ByteArray} (h : ¬ cs.length < 1) (h2 : ¬ 6 < cs.length) : tbNames cs = (onceS cs && cs.all lv) := by unfold tbNames; rw [decide_eq_true (p := 1 ≤ cs.length) (by omega), decide_eq_true (p := cs.length ≤ 6) (by omega)]; simp
set_option maxRecDepth 100000 in
set_option maxHeartbeats 1000000 in
theorem colsValid_any (xs : List ByteArray) (v : Value) (B : Nat) (w : World) (hv : kStr.Rd B w v xs) (hB : B ≤ w.heap.size) (hok : ∀ s ∈ xs, s.size ≤ maxLen) :
    Calls Try.prog 60 #[v] w fun e w' => e = .returned (.bool (tbNames xs)) ∧ Below w.heap.size w w' := by
  obtain ⟨p, cap, rfl⟩ := hv.form
  have hmx := hv.max
  unfold maxLen at hmx
  have HV := Lib.hid hv
  have HOK := Lib.hid hok
  clear hv hok
  by_cases h0 : xs.length < 1
  · have HS := Lib.hid (tbNames_short h0)
    have q0 : decide ((xs.length : Int) < 1) = true := decide_eq_true (by omega)
    have q1 : ((xs.length : Int) < 1) = True := eq_true (by omega)
    clear h0
    go_enter Try.func60, Try.ntmps60
    go_wp2_with fail
    go_ret
    exact ⟨ret_bool (by rw [HS.out]), Below.refl _ _⟩
  · have q0 : decide ((xs.length : Int) < 1) = false := decide_eq_false (by omega)
    have q1 : ((xs.length : Int) < 1) = False := eq_false (by omega)
    by_cases h6 : 6 < xs.length
    · have HS := Lib.hid (tbNames_long h6)
      have q2 : decide ((6 : Int) < (xs.length : Int)) = true := decide_eq_true (by omega)
      have q3 : ((6 : Int) < (xs.length : Int)) = True := eq_true (by omega)
      clear h0 h6
      go_enter Try.func60, Try.ntmps60
      go_wp2_with fail
      go_ret
      exact ⟨ret_bool (by rw [HS.out]), Below.refl _ _⟩
    · have HS := Lib.hid (tbNames_mid h0 h6)
      have q2 : decide ((6 : Int) < (xs.length : Int)) = false := decide_eq_false (by omega)
      have q3 : ((6 : Int) < (xs.length : Int)) = False := eq_false (by omega)
      clear h0 h6
      go_enter Try.func60, Try.ntmps60
      go_wp2_with fail
      with_reducible refine (eachOnceS_any xs _ B w HV.out hB).mono ?_
      rintro e w1 ⟨rfl, hb1⟩
      have hsz := hb1.size
      have HB1 := Lib.hid hb1
      clear hb1
      cases hE : onceS xs with
      | false =>
        rw [hE] at HS
        clear hE
        go_wp2_with fail
        go_ret
        exact ⟨ret_bool (by rw [HS.out]; rfl), HB1.out⟩
      | true =>
        rw [hE] at HS
        clear hE
        go_wp2_with fail
        with_reducible refine (containsCol_any xs _ B w1 (HV.out.to (HB1.out.mono hB) (Nat.le_refl _)) (by omega) HOK.out).mono ?_
        rintro e w2 ⟨rfl, hb2⟩
        have HB2 := Lib.hid (HB1.out.trans (hb2.mono hsz))
        clear hb2
        go_wp2_with fail
        go_ret
        exact ⟨ret_bool (by rw [HS.out]; simp), HB2.out⟩

theorem ok_names {x : Tb} (h : tbNames x.cs = false) : x.ok = false := by unfold Tb.ok; rw [h]; rfl
theorem ok_many {x : Tb} (h : 400 < x.rs.length) : x.ok = false := by unfold Tb.ok; rw [decide_eq_false (p := x.rs.length ≤ 400) (by omega)]; simp
theorem ok_rows {x : Tb} (h : tbNames x.cs = true) (h2 : ¬ 400 < x.rs.length) : x.ok = x.rs.all (rowOk x.cs.length) := by unfold Tb.ok; rw [h, decide_eq_true (p := x.rs.length ≤ 400) (by omega)]; simp
set_option maxRecDepth 100000 in
set_option maxHeartbeats 1000000 in
theorem tableValid_any (x : Tb) (v : Value) (B : Nat) (w : World) (hx : x.At B w v) (hB : B ≤ w.heap.size) (hok : ∀ s ∈ x.cs, s.size ≤ maxLen) :
    Calls Try.prog 22 #[v] w fun e w' => e = .returned (.bool x.ok) ∧ Below w.heap.size w w' := by
  obtain ⟨a, b, rfl, ha, hb⟩ := hx
  obtain ⟨p, c, rfl⟩ := ha.form
  obtain ⟨q, d, rfl⟩ := hb.form
  have hm1 := ha.max
  have hm2 := hb.max
  unfold maxLen at hm1 hm2
  have HA := Lib.hid ha
  have HBR := Lib.hid hb
  have HOK := Lib.hid hok
  have HN := Lib.hid (ok_names (x := x))
  have HM := Lib.hid (ok_many (x := x))
  have HR := Lib.hid (ok_rows (x := x))
  clear ha hb hok
  go_enter Try.func22, Try.ntmps22
  go_wp2_with fail
  have H0 := Lib.hid ((Below.refl w.heap.size w).alloc (Nat.le_refl _) (.cells #[.slice p x.cs.length c, .slice q x.rs.length d] 33))
  with_reducible refine (colsValid_any x.cs _ B _ (HA.out.to (H0.out.mono hB) (Nat.le_refl _)) (by simp; omega) HOK.out).mono ?_
  rintro e w1 ⟨rfl, hb1⟩
  have hs1 : w.heap.size < w1.heap.size := by have := hb1.size; simp at this; omega
  have c0 : w1.cell? ⟨w.heap.size, 0, none⟩ = some (.slice p x.cs.length c) := new_cell hb1 (j := 0) rfl
  have c1 : w1.cell? ⟨w.heap.size, 1, none⟩ = some (.slice q x.rs.length d) := new_cell hb1 (j := 1) rfl
  have HB1 := Lib.hid (H0.out.trans (hb1.mono (by simp)))
  clear hb1 H0
  cases hE : tbNames x.cs with
  | false =>
    have HF := Lib.hid (HN.out hE)
    clear hE
    go_wp2_with fail
    go_ret
    exact ⟨ret_bool (by rw [HF.out]), HB1.out⟩
  | true =>
    by_cases h4 : 400 < x.rs.length
    · have HF := Lib.hid (HM.out h4)
      have q2 : decide ((400 : Int) < (x.rs.length : Int)) = true := decide_eq_true (by omega)
      have q3 : ((400 : Int) < (x.rs.length : Int)) = True := eq_true (by omega)
      clear hE h4
      go_wp2_with fail
      go_ret
      exact ⟨ret_bool (by rw [HF.out]), HB1.out⟩
    · have HF := Lib.hid (HR.out hE h4)
      have q2 : decide ((400 : Int) < (x.rs.length : Int)) = false := decide_eq_false (by omega)
      have q3 : ((400 : Int) < (x.rs.length : Int)) = False := eq_false (by omega)
      clear hE h4
      go_wp2_with fail
      obtain ⟨w2, e2⟩ : ∃ u, u = w1.alloc (.cells #[.func (.func 61) #[] #[]] 84) := ⟨_, rfl⟩
      rw [← e2]
      have k2 : Below w1.heap.size w1 w2 := by rw [e2]; exact (Below.refl _ _).alloc (Nat.le_refl _) _
      have hs2 : w1.heap.size < w2.heap.size := by rw [e2]; simp
      have d0 := keepc k2 hs1 c0
      have f0 : w2.cell? ⟨w1.heap.size, 0, none⟩ = some (.func (.func 61) #[] #[]) := by rw [e2]; simp [go_sem]
      have HB2 := Lib.hid (HB1.out.trans (k2.mono (by omega)))
      clear k2 e2
      with_reducible refine (containsRow_any x.cs.length w.heap.size w1.heap.size p c x.rs _ B w2 (HBR.out.to (HB2.out.mono hB) (Nat.le_refl _)) (by omega) (by omega) hs2 d0 f0).mono ?_
      rintro e w3 ⟨rfl, hb3⟩
      have HB3 := Lib.hid (HB2.out.trans (hb3.mono (by omega)))
      clear hb3
      go_wp2_with fail
      go_ret
      exact ⟨ret_bool (by rw [HF.out]), HB3.out⟩
end Go.Proofs.Ytfdkmngkpihpbaa
namespace Go.Proofs.Ytfdkmngkpihpbaa
open Go.RowKit
namespace Kd
variable {α : Type}
theorem ORow.upd {K : Kd α} {w : World} : ∀ {xs : List α} {c : Nat → Option Value} {F : List Nat}, K.ORow w xs c F → ∀ (k : Nat) (hk : k < xs.length), ∃ cs F1, (∀ y ∈ F1, y ∈ F) ∧ (∀ j u, cs[j]? = some u → c (k * K.sz + j) = some u) ∧ K.ow w xs[k] cs F1 ∧
    ∀ (w' : World) (x' : α) (cs' : List Value) (c' : Nat → Option Value) (G : List Nat), Chg (G ++ F1) w w' → (∀ y ∈ G, y ∉ F) → K.ow w' x' cs' F1 → (∀ j u, cs'[j]? = some u → c' (k * K.sz + j) = some u) → (∀ i, (i < k * K.sz ∨ (k + 1) * K.sz ≤ i) → c' i = c i) → K.ORow w' (xs.set k x') c' F
  | [], _, _, _, k, hk => by simp at hk
  | x :: xs, c, F, h, k, hk => by
    obtain ⟨cs, F1, F2, rfl, hdj, h0, h1, h2⟩ := h
    have hl := K.rd_len (K.ow_rd h1)
    cases k with
    | zero =>
      refine ⟨cs, F1, fun y hy => List.mem_append_left _ hy, fun j u hu => by rw [Nat.zero_mul, Nat.zero_add]; exact h0 j u hu, h1, fun w' x' cs' c' G hc hG ho hcs hcc => ?_⟩
      refine ⟨cs', F1, F2, rfl, hdj, fun j u hu => by have := hcs j u hu; rwa [Nat.zero_mul, Nat.zero_add] at this, ho, h2.chg hc (fun y hy hm => ?_) fun i _ => hcc (i + K.sz) (.inr (by rw [Nat.zero_add, Nat.one_mul]; omega))⟩
      rcases List.mem_append.1 hm with hm | hm
      · exact hG y hm (List.mem_append_right _ hy)
      · exact hdj y hm hy
    | succ k =>
      obtain ⟨cs1, F3, g1, g2, g3, g4⟩ := h2.upd k (by simpa using hk)
      refine ⟨cs1, F3, fun y hy => List.mem_append_right _ (g1 y hy), fun j u hu => ?_, by simpa using g3, fun w' x' cs' c' G hc hG ho hcs hcc => ?_⟩
      · have := g2 j u hu
        rw [show (k + 1) * K.sz + j = k * K.sz + j + K.sz by rw [Nat.add_mul]; omega]
        exact this
      · refine ⟨cs, F1, F2, rfl, hdj, fun j u hu => ?_, K.ow_chg h1 hc (fun y hy hm => ?_), g4 w' x' cs' (fun i => c' (i + K.sz)) G hc (fun y hy hm => hG y hy (List.mem_append_right _ hm)) ho (fun j u hu => ?_) fun i hi => ?_⟩
        · have : j < cs.length := (List.getElem?_eq_some_iff.1 hu).1
          rw [hcc j (.inl (by rw [Nat.add_mul]; omega))]
          exact h0 j u hu
        · rcases List.mem_append.1 hm with hm | hm
          · exact hG y hm (List.mem_append_left _ hy)
          · exact hdj y hy (g1 y hm)
        · have := hcs j u hu
          rw [show (k + 1) * K.sz + j = k * K.sz + j + K.sz by rw [Nat.add_mul]; omega] at this
          exact this
        · refine hcc (i + K.sz) ?_
          rw [Nat.add_mul, Nat.add_mul (k + 1)]
          rcases hi with hi | hi
          · left; omega
          · right; rw [Nat.add_mul] at hi ⊢; omega
/-- An element of a row, and what is left of the row when it has changed. -/
theorem Ow.upd {K : Kd α} {w : World} {p : Option Addr} {n cap : Nat} {xs : List α} {F : List Nat} (h : K.Ow w (.slice p n cap) xs F) {k : Nat} (hk : k < xs.length) :
    ∃ b off cs F1, p = some ⟨b, off, none⟩ ∧ b ∈ F ∧ b ∉ F1 ∧ (∀ y ∈ F1, y ∈ F) ∧ b < w.heap.size ∧ (∀ o, w.frozen? ⟨b, o, none⟩ = false) ∧ (∀ j u, cs[j]? = some u → w.cell? ⟨b, off + k * K.sz + j, none⟩ = some u) ∧ K.ow w xs[k] cs F1 ∧
      ∀ (w' : World) (x' : α) (cs' : List Value), Chg (b :: F1) w w' → (∀ o, w'.frozen? ⟨b, o, none⟩ = false) → K.ow w' x' cs' F1 → (∀ j u, cs'[j]? = some u → w'.cell? ⟨b, off + k * K.sz + j, none⟩ = some u) →
        (∀ o, (o < off + k * K.sz ∨ off + (k + 1) * K.sz ≤ o) → w'.cell? ⟨b, o, none⟩ = w.cell? ⟨b, o, none⟩) → K.Ow w' (.slice p n cap) (xs.set k x') F := by
  obtain ⟨p', cap', h1, h2, h3, h4⟩ := h
  cases h1
  rcases h4 with ⟨rfl, _⟩ | ⟨b, off, F', rfl, rfl, hn, hlt, hf, ho⟩
  · simp at hk
  · obtain ⟨cs, F1, g1, g2, g3, g4⟩ := ho.upd k hk
    refine ⟨b, off, cs, F1, rfl, by simp, fun hm => hn (g1 b hm), fun y hy => List.mem_cons_of_mem _ (g1 y hy), hlt, hf, fun j u hu => by rw [Nat.add_assoc]; exact g2 j u hu, g3, fun w' x' cs' hc hfr ho' hcs hcc => ?_⟩
    refine ⟨some ⟨b, off, none⟩, cap, by simp, by simpa using h2, h3, .inr ⟨b, off, F', rfl, rfl, hn, Nat.lt_of_lt_of_le hlt hc.size, hfr, ?_⟩⟩
    refine g4 w' x' cs' _ [b] hc (by simpa using hn) ho' (fun j u hu => ?_) fun i hi => ?_
    · have := hcs j u hu
      rwa [Nat.add_assoc] at this
    · refine hcc (off + i) ?_
      rcases hi with hi | hi
      · left; omega
      · right; omega
end Kd
end Go.Proofs.Ytfdkmngkpihpbaa
