/- Lemmas on the data and the memory of this program's values: several texts in one. -/
import Derived.Test.YtbbemeaojmfndaaDoorProg
import Derived.WalkKit
import Derived.BigQuiet
import Derived.Deep.QuietTactic
import Derived.KernelRfl
import Derived.Lib.Hide
import Derived.StillTailTactics
import Derived.Deep.RegionHeld3
import Derived.Deep.DeepCutAuto
import Derived.Deep.AppendLies
import Derived.OwnWalk
import Derived.Laws.AppendOwn
import Derived.LaidEql
import Derived.Laws.StructEq
import Derived.Maps.Own
import Derived.Maps.OwnOps
import Derived.WalkSmall
import Derived.Test.YtbbemeaojmfndaaDoorShelf
import Derived.Lib.AtoiAllCases
import Derived.Lib.ItoaNum
import Derived.Deep.Slices
import Derived.Deep.Fields
import Derived.ChangeSame
import Derived.Lib.SmallJoins
namespace Go.Proofs.YtbbemeaojmfndaaDoor
open Go.RowKit

def isL (c : UInt8) : Bool := decide (97 ≤ c.toNat) && decide (c.toNat ≤ 122)
def cl : List UInt8 → Nat
  | [] => 0
  | c :: r => if isL c then cl r + 1 else 0
def lvL (l : List UInt8) : Bool := decide (1 ≤ l.length) && decide (l.length ≤ 6) && l.all isL
def lv (s : ByteArray) : Bool := lvL s.data.toList
/-- The first k bytes are letters. -/
def AllL (s : ByteArray) (k : Nat) : Prop := (s.data.toList.take k).all isL = true

theorem cl_le : ∀ l : List UInt8, cl l ≤ l.length
  | [] => Nat.le_refl _
  | c :: r => by unfold cl; have := cl_le r; split <;> simp <;> omega
theorem cl_all : ∀ l : List UInt8, (cl l = l.length) ↔ l.all isL = true
  | [] => by simp [cl]
  | c :: r => by
    unfold cl; have h := cl_all r; have h2 := cl_le r
    by_cases hc : isL c = true
    · simp [hc, ← h]
    · simp [hc]
theorem cl_stop : ∀ (l : List UInt8) (k : Nat) (h : k < l.length), (l.take k).all isL = true → isL l[k] = false → cl l = k
  | [], k, h, _, _ => by simp at h
  | c :: r, 0, h, _, h2 => by simp at h2; simp [cl, h2]
  | c :: r, k + 1, h, h1, h2 => by
    simp at h1 h2 h
    unfold cl; rw [if_pos h1.1, cl_stop r k h (by simpa using h1.2) h2]
theorem AllL.zero (s : ByteArray) : AllL s 0 := rfl
theorem AllL.succ {s : ByteArray} {k : Nat} (h : AllL s k) (hk : k < s.size) (hc : isL s[k] = true) : AllL s (k + 1) := by
  unfold AllL at *
  rw [List.take_succ_eq_append_getElem (by simpa using hk), List.all_append, h]
  simp only [List.all_cons, List.all_nil, Bool.and_true, Bool.true_and]; exact hc
theorem AllL.stop {s : ByteArray} {k : Nat} (h : AllL s k) (hk : k < s.size) (hc : isL s[k] = false) : cl s.data.toList = k :=
  cl_stop _ k (by simpa using hk) h hc
theorem AllL.full {s : ByteArray} (h : AllL s s.size) : s.data.toList.all isL = true := by
  unfold AllL at h; rwa [List.take_of_length_le (Nat.le_of_eq (by rfl))] at h
theorem isL_no1 {c : UInt8} (h : (c.toNat : Int) < 97) : isL c = false := by
  unfold isL; rw [decide_eq_false (by omega)]; rfl
theorem isL_no2 {c : UInt8} (h : (122 : Int) < c.toNat) : isL c = false := by
  unfold isL; rw [decide_eq_false (p := c.toNat ≤ 122) (by omega), Bool.and_false]
theorem isL_yes {c : UInt8} (h : (97 : Int) ≤ c.toNat) (h2 : (c.toNat : Int) ≤ 122) : isL c = true := by
  unfold isL; rw [decide_eq_true (by omega), decide_eq_true (by omega)]; rfl
theorem ret_int {k : IntKind} {a b : Int} (h : a = b) : Ending.returned (.int k a) = .returned (.int k b) := by rw [h]
theorem ret_bool {a b : Bool} (h : a = b) : Ending.returned (.bool a) = .returned (.bool b) := by rw [h]

set_option maxHeartbeats 400000 in
/-- impl.countLetters -/
theorem countLetters_any (s : ByteArray) (w : World) (hs : s.size ≤ maxLen) :
    Calls Tryd.prog 71 #[.string s] w fun e w' => e = .returned (.int .i64 (cl s.data.toList)) ∧ w = w' := by
  unfold maxLen at hs
  go_enter Tryd.func71, Tryd.ntmps71
  go_wp2
  go_loop [6] (fun i => ∃ k : Nat, k ≤ s.size ∧ i = .int .i64 k ∧ AllL s k) (fun i => s.size - (intOf i).toNat)
  case atStart => exact ⟨0, Nat.zero_le _, rfl, AllL.zero s⟩
  case round =>
    obtain ⟨k, hk, rfl, ha⟩ := hrel
    by_cases hlt : k < s.size
    · by_cases h1 : (s[k].toNat : Int) < 97
      · have hf := Lib.hid (ha.stop hlt (isL_no1 h1))
        go_wp2
        go_ret
        exact ⟨ret_int (by rw [hf.out]), rfl⟩
      · by_cases h2 : (122 : Int) < s[k].toNat
        · have hf := Lib.hid (ha.stop hlt (isL_no2 h2))
          go_wp2
          go_ret
          exact ⟨ret_int (by rw [hf.out]), rfl⟩
        · have hf := ha.succ hlt (isL_yes (by omega) (by omega))
          go_wp2
          go_round
          case rel => exact ⟨k + 1, by omega, by go_num, hf⟩
          case measure => simp [intOf]; omega
    · obtain rfl : k = s.size := by omega
      have hf := Lib.hid ((cl_all _).2 ha.full)
      go_wp2
      go_ret
      exact ⟨ret_int (by rw [hf.out]; rfl), rfl⟩

theorem lv_short {s : ByteArray} (h : s.size = 0) : lv s = false := by
  unfold lv lvL; rw [decide_eq_false (p := 1 ≤ _) (by have : s.data.toList.length = s.size := rfl; omega)]; rfl
theorem lv_long {s : ByteArray} (h : 6 < s.size) : lv s = false := by
  unfold lv lvL; rw [decide_eq_false (p := _ ≤ 6) (by have : s.data.toList.length = s.size := rfl; omega)]; simp
theorem lv_mid {s : ByteArray} (h0 : 1 ≤ s.size) (h : s.size ≤ 6) : lv s = s.data.toList.all isL := by
  have e : s.data.toList.length = s.size := rfl
  unfold lv lvL; rw [decide_eq_true (p := 1 ≤ _) (by omega), decide_eq_true (p := _ ≤ 6) (by omega)]; rfl
theorem cl_beq {s : ByteArray} : ((cl s.data.toList : Int) == (s.size : Int)) = s.data.toList.all isL := by
  have e : s.data.toList.length = s.size := rfl
  have h := cl_all s.data.toList
  rw [Bool.eq_iff_iff, ← h]; simp; omega
theorem lv_bad {s : ByteArray} {k : Nat} (h : k < s.size) (hc : isL s[k] = false) : lv s = false := by
  have : s.data.toList.all isL = false := by
    rw [List.all_eq_false]
    refine ⟨s[k], ?_, by rw [hc]; simp⟩
    exact List.getElem_mem (l := s.data.toList) h
  unfold lv lvL; rw [this]; simp
theorem str_empty {s : ByteArray} (h : s.size = 0) : s.toList = [] := by rw [ByteArray.toList_eq]; exact List.eq_nil_of_length_eq_zero h
theorem str_nonempty {s : ByteArray} (h : 0 < s.size) : ¬ s.toList = [] := by
  rw [ByteArray.toList_eq]
  have e : s.data.toList.length = s.size := rfl
  intro hl; rw [hl] at e; simp at e; omega
theorem str_nonempty' {s : ByteArray} (h : 0 < s.size) : (!s.toList.isEmpty) = true := by
  have := str_nonempty h
  cases hl : s.toList with
  | nil => exact absurd hl this
  | cons => rfl

set_option maxHeartbeats 400000 in
/-- impl.LabelValid -/
theorem labelValid_any (s : ByteArray) (w : World) (hs : s.size ≤ maxLen) :
    Calls Tryd.prog 37 #[.string s] w fun e w' => e = .returned (.bool (lv s)) ∧ w = w' := by
  have hs' := hs
  unfold maxLen at hs'
  by_cases h6 : s.size ≤ 6
  · by_cases h0 : s.size = 0
    · have e1 := Lib.hid (lv_short h0)
      have e2 := str_empty h0
      clear h0
      go_enter Tryd.func37, Tryd.ntmps37
      go_wp2_with (go_at_call 71; refine (countLetters_any _ _ hs).mono ?_; rintro e w' ⟨rfl, rfl⟩)
      go_ret
      exact ⟨ret_bool (by rw [e1.out]), rfl⟩
    · have e1 := Lib.hid ((lv_mid (by omega) h6).trans cl_beq.symm)
      have e2 := str_nonempty (s := s) (by omega)
      have e3 := str_nonempty' (s := s) (by omega)
      clear h0
      go_enter Tryd.func37, Tryd.ntmps37
      go_wp2_with (go_at_call 71; refine (countLetters_any _ _ hs).mono ?_; rintro e w' ⟨rfl, rfl⟩)
      go_ret
      exact ⟨ret_bool (by rw [e1.out]), rfl⟩
  · have e1 := Lib.hid (lv_long (s := s) (by omega))
    go_enter Tryd.func37, Tryd.ntmps37
    go_wp2_with (go_at_call 71; refine (countLetters_any _ _ hs).mono ?_; rintro e w' ⟨rfl, rfl⟩)
    go_ret
    exact ⟨ret_bool (by rw [e1.out]), rfl⟩

set_option maxHeartbeats 400000 in
/-- spec.LabelValid -/
theorem specLabelValid_any (s : ByteArray) (w : World) (hs : s.size ≤ maxLen) :
    Calls Tryd.prog 59 #[.string s] w fun e w' => e = .returned (.bool (lv s)) ∧ w = w' := by
  unfold maxLen at hs
  go_enter Tryd.func59, Tryd.ntmps59
  go_wp2
  go_loop [3] (fun i => ∃ k : Nat, k ≤ s.size ∧ k ≤ 7 ∧ i = .int .i64 k ∧ AllL s k) (fun i => s.size - (intOf i).toNat)
  case atStart => exact ⟨0, Nat.zero_le _, by omega, rfl, AllL.zero s⟩
  case round =>
    obtain ⟨k, hk, hk7, rfl, ha⟩ := hrel
    by_cases hlt : k < s.size
    · by_cases h7 : k ≤ 6
      · by_cases h1 : (s[k].toNat : Int) < 97
        · have hf := Lib.hid (lv_bad hlt (isL_no1 h1))
          go_wp2
          go_ret
          exact ⟨ret_bool (by rw [hf.out]; first | done | (simp; omega)), rfl⟩
        · by_cases h2 : (122 : Int) < s[k].toNat
          · have hf := Lib.hid (lv_bad hlt (isL_no2 h2))
            go_wp2
            go_ret
            exact ⟨ret_bool (by rw [hf.out]; first | done | (simp; omega)), rfl⟩
          · have hf := ha.succ hlt (isL_yes (by omega) (by omega))
            go_wp2
            go_round
            case rel => exact ⟨k + 1, by omega, by omega, by go_num, hf⟩
            case measure => simp [intOf]; omega
      · have hf := Lib.hid (lv_long (s := s) (by omega))
        go_wp2
        go_ret
        exact ⟨ret_bool (by rw [hf.out]; first | done | (simp; omega)), rfl⟩
    · obtain rfl : k = s.size := by omega
      by_cases h0 : s.size = 0
      · have hf := Lib.hid (lv_short (s := s) h0)
        have h0' : s.size < 1 := by omega
        clear h0
        go_wp2
        go_ret
        exact ⟨ret_bool (by rw [hf.out]; first | done | (simp; omega)), rfl⟩
      · by_cases h6 : s.size ≤ 6
        · have hf := Lib.hid ((lv_mid (s := s) (by omega) h6).trans ha.full)
          go_wp2
          go_ret
          exact ⟨ret_bool (by rw [hf.out]; first | done | (simp; omega)), rfl⟩
        · have hf := Lib.hid (lv_long (s := s) (by omega))
          go_wp2
          go_ret
          exact ⟨ret_bool (by rw [hf.out]; first | done | (simp; omega)), rfl⟩
end Go.Proofs.YtbbemeaojmfndaaDoor
namespace Go.Proofs.YtbbemeaojmfndaaDoor
open Go.RowKit

/-- v is a slice that holds xs, an element in sz cells, whose values enc gives; all of it in blocks below B. -/
def Sl {α : Type} (sz : Nat) (enc : α → List Value) (B : Nat) (w : World) (v : Value) (xs : List α) : Prop :=
  ∃ (p : Option Addr) (len cap : Nat), v = .slice p len cap ∧ len = xs.length ∧ len ≤ cap ∧ cap ≤ maxLen ∧
    ∀ (i : Nat) (h : i < xs.length), ∃ b off, p = some ⟨b, off, none⟩ ∧ b < B ∧ ∀ j x, (enc xs[i])[j]? = some x → w.cell? ⟨b, off + i * sz + j, none⟩ = some x

theorem Sl.below {α : Type} {sz : Nat} {enc : α → List Value} {B : Nat} {w w' : World} {v : Value} {xs : List α} (h : Sl sz enc B w v xs) (hb : Below B w w') : Sl sz enc B w' v xs := by
  obtain ⟨p, len, cap, h1, h2, h3, h4, h5⟩ := h
  refine ⟨p, len, cap, h1, h2, h3, h4, fun i hi => ?_⟩
  obtain ⟨b, off, e1, e2, e3⟩ := h5 i hi
  exact ⟨b, off, e1, e2, fun j x hx => (hb.cell (p := ⟨b, _, none⟩) e2).trans (e3 j x hx)⟩
theorem Sl.mono {α : Type} {sz : Nat} {enc : α → List Value} {B B' : Nat} {w : World} {v : Value} {xs : List α} (h : Sl sz enc B w v xs) (hB : B ≤ B') : Sl sz enc B' w v xs := by
  obtain ⟨p, len, cap, h1, h2, h3, h4, h5⟩ := h
  refine ⟨p, len, cap, h1, h2, h3, h4, fun i hi => ?_⟩
  obtain ⟨b, off, e1, e2, e3⟩ := h5 i hi
  exact ⟨b, off, e1, by omega, e3⟩

/-- A block that a call made, after other calls. -/
theorem new_cell {w w1 : World} {c : Array Value} {T : TypeId} (hb : Below (w.alloc (.cells c T)).heap.size (w.alloc (.cells c T)) w1) {j : Nat} {x : Value} (hj : c[j]? = some x) :
    w1.cell? ⟨w.heap.size, j, none⟩ = some x := by
  exact (hb.cell (by simp)).trans ((World.cell?_alloc_at c T _ j rfl).trans hj)
theorem keepc {B b o : Nat} {w w' : World} {x : Value} (hb : Below B w w') (h : b < B) (hc : w.cell? ⟨b, o, none⟩ = some x) : w'.cell? ⟨b, o, none⟩ = some x := (hb.cell (p := ⟨b, o, none⟩) h).trans hc
theorem below_past {w w1 : World} {o : Obj} (hb : Below (w.alloc o).heap.size (w.alloc o) w1) : Below w.heap.size w w1 :=
  ((Below.refl _ w).alloc (Nat.le_refl _) o).trans (hb.mono (by simp))

/-- One boxed pair, two boxed pairs: their cells, in every later world. -/
theorem one_box {w wk : World} {x0 x1 : Value} {T : TypeId} (h : Below (w.heap.size + 1) (w.alloc (.cells #[x0, x1] T)) wk) :
    w.heap.size + 1 ≤ wk.heap.size ∧ wk.cell? ⟨w.heap.size, 0, none⟩ = some x0 ∧ wk.cell? ⟨w.heap.size, 1, none⟩ = some x1 :=
  ⟨by have := h.size; simp at this; omega, keepc h (by omega) (by simp [go_sem]), keepc h (by omega) (by simp [go_sem])⟩
theorem two_boxes {w wk : World} {x0 x1 y0 y1 : Value} {T T' : TypeId} (h : Below (w.heap.size + 2) ((w.alloc (.cells #[x0, x1] T)).alloc (.cells #[y0, y1] T')) wk) :
    w.heap.size + 2 ≤ wk.heap.size ∧ wk.cell? ⟨w.heap.size, 0, none⟩ = some x0 ∧ wk.cell? ⟨w.heap.size, 1, none⟩ = some x1 ∧ wk.cell? ⟨w.heap.size + 1, 0, none⟩ = some y0 ∧ wk.cell? ⟨w.heap.size + 1, 1, none⟩ = some y1 :=
  ⟨by have := h.size; simp at this; omega, keepc h (by omega) (by simp [go_sem]), keepc h (by omega) (by simp [go_sem]), keepc h (by omega) (by simp [go_sem]), keepc h (by omega) (by simp [go_sem])⟩

structure Nd where
  l : ByteArray
  n : Int
structure Ed where
  f : Int
  t : Int
  l : ByteArray
  n : Int
structure Gr where
  ns : List Nd
  es : List Ed
def Nd.cells (x : Nd) : List Value := [.string x.l, .int .i64 x.n]
def Ed.cells (x : Ed) : List Value := [.int .i64 x.f, .int .i64 x.t, .string x.l, .int .i64 x.n]
def I64 (n : Int) : Prop := -9223372036854775808 ≤ n ∧ n ≤ 9223372036854775807
def Nd.Ok (x : Nd) : Prop := x.l.size ≤ maxLen ∧ I64 x.n
def Ed.Ok (x : Ed) : Prop := I64 x.f ∧ I64 x.t ∧ x.l.size ≤ maxLen ∧ I64 x.n
def Gr.Ok (g : Gr) : Prop := (∀ x ∈ g.ns, x.Ok) ∧ (∀ x ∈ g.es, x.Ok)
/-- The value of a struct Graph whose two slices lie below B. -/
def Gr.At (g : Gr) (B : Nat) (w : World) (v : Value) : Prop := ∃ a b, v = .agg #[a, b] ∧ Sl 2 Nd.cells B w a g.ns ∧ Sl 4 Ed.cells B w b g.es
theorem Gr.At.below {g : Gr} {B : Nat} {w w' : World} {v : Value} (h : g.At B w v) (hb : Below B w w') : g.At B w' v := by
  obtain ⟨a, b, h1, h2, h3⟩ := h
  exact ⟨a, b, h1, h2.below hb, h3.below hb⟩
theorem Gr.At.mono {g : Gr} {B B' : Nat} {w : World} {v : Value} (h : g.At B w v) (hb : B ≤ B') : g.At B' w v := by
  obtain ⟨a, b, h1, h2, h3⟩ := h
  exact ⟨a, b, h1, h2.mono hb, h3.mono hb⟩

/-- An element's cells, at an index. -/
theorem Sl.nd {B : Nat} {w : World} {p : Option Addr} {len cap : Nat} {xs : List Nd} (h : Sl 2 Nd.cells B w (.slice p len cap) xs) {k : Nat} (hk : k < xs.length) :
    ∃ b off, p = some ⟨b, off, none⟩ ∧ b < B ∧ w.cell? ⟨b, off + k * 2, none⟩ = some (.string xs[k].l) ∧ w.cell? ⟨b, off + k * 2 + 1, none⟩ = some (.int .i64 xs[k].n) := by
  obtain ⟨p', len', cap', h1, h2, h3, h4, h5⟩ := h
  cases h1
  obtain ⟨b, off, e1, e2, e3⟩ := h5 k hk
  exact ⟨b, off, e1, e2, e3 0 _ rfl, e3 1 _ rfl⟩
theorem Sl.ed {B : Nat} {w : World} {p : Option Addr} {len cap : Nat} {xs : List Ed} (h : Sl 4 Ed.cells B w (.slice p len cap) xs) {k : Nat} (hk : k < xs.length) :
    ∃ b off, p = some ⟨b, off, none⟩ ∧ b < B ∧ w.cell? ⟨b, off + k * 4, none⟩ = some (.int .i64 xs[k].f) ∧ w.cell? ⟨b, off + k * 4 + 1, none⟩ = some (.int .i64 xs[k].t) ∧
      w.cell? ⟨b, off + k * 4 + 2, none⟩ = some (.string xs[k].l) ∧ w.cell? ⟨b, off + k * 4 + 3, none⟩ = some (.int .i64 xs[k].n) := by
  obtain ⟨p', len', cap', h1, h2, h3, h4, h5⟩ := h
  cases h1
  obtain ⟨b, off, e1, e2, e3⟩ := h5 k hk
  exact ⟨b, off, e1, e2, e3 0 _ rfl, e3 1 _ rfl, e3 2 _ rfl, e3 3 _ rfl⟩
theorem Sl.len {α : Type} {sz : Nat} {enc : α → List Value} {B : Nat} {w : World} {p : Option Addr} {len cap : Nat} {xs : List α} (h : Sl sz enc B w (.slice p len cap) xs) : len = xs.length := by
  obtain ⟨p', len', cap', h1, h2, h3, h4, h5⟩ := h
  cases h1; exact h2
theorem Sl.max {α : Type} {sz : Nat} {enc : α → List Value} {B : Nat} {w : World} {p : Option Addr} {len cap : Nat} {xs : List α} (h : Sl sz enc B w (.slice p len cap) xs) : len ≤ cap ∧ cap ≤ maxLen := by
  obtain ⟨p', len', cap', h1, h2, h3, h4, h5⟩ := h
  cases h1; exact ⟨h3, h4⟩
theorem Sl.form {α : Type} {sz : Nat} {enc : α → List Value} {B : Nat} {w : World} {v : Value} {xs : List α} (h : Sl sz enc B w v xs) : ∃ p cap, v = .slice p xs.length cap := by
  obtain ⟨p', len', cap', h1, h2, h3, h4, h5⟩ := h
  subst h2; exact ⟨_, _, h1⟩
end Go.Proofs.YtbbemeaojmfndaaDoor
namespace Go.Proofs.YtbbemeaojmfndaaDoor
open Go.RowKit

def pv (s : ByteArray) (n : Int) : Bool := (decide (s.size = 0) || lv s) && (decide (0 ≤ n) && decide (n ≤ 99))
def hn (k : Nat) (n : Int) : Bool := decide (0 ≤ n) && decide (n < k)
def ndV (x : Nd) : Bool := pv x.l x.n
def edV (k : Nat) (e : Ed) : Bool := hn k e.f && (hn k e.t && pv e.l e.n)
def gv (g : Gr) : Bool := (decide (1 ≤ g.ns.length) && (decide (g.ns.length ≤ 8) && decide (g.es.length ≤ 14))) && (g.ns.all ndV && g.es.all (edV g.ns.length))

theorem pv_neg {s : ByteArray} {n : Int} (h : n < 0) : pv s n = false := by unfold pv; rw [decide_eq_false (p := 0 ≤ n) (by omega)]; simp
theorem pv_big {s : ByteArray} {n : Int} (h : 99 < n) : pv s n = false := by unfold pv; rw [decide_eq_false (p := n ≤ 99) (by omega)]; simp
theorem pv_empty {s : ByteArray} {n : Int} (hs : s.size = 0) (h : 0 ≤ n) (h' : n ≤ 99) : pv s n = true := by unfold pv; rw [decide_eq_true hs, decide_eq_true h, decide_eq_true h']; rfl
theorem pv_lv {s : ByteArray} {n : Int} (hs : 0 < s.size) (h : 0 ≤ n) (h' : n ≤ 99) : pv s n = lv s := by unfold pv; rw [decide_eq_false (p := s.size = 0) (by omega), decide_eq_true h, decide_eq_true h']; simp
theorem str_empty' {s : ByteArray} (h : s.size = 0) : s.toList.isEmpty = true := by rw [str_empty h]; rfl
theorem str_nonempty'' {s : ByteArray} (h : 0 < s.size) : s.toList.isEmpty = false := by
  have := str_nonempty' h
  revert this; cases s.toList.isEmpty <;> simp

set_option maxHeartbeats 400000 in
/-- impl.propsValid -/
theorem propsValid_any (s : ByteArray) (n : Int) (w : World) (hs : s.size ≤ maxLen) :
    Calls Tryd.prog 68 #[.string s, .int .i64 n] w fun e w' => e = .returned (.bool (pv s n)) ∧ w = w' := by
  by_cases h0 : s.size = 0
  · have e2 := str_empty h0
    have e3 := str_empty' h0
    go_enter Tryd.func68, Tryd.ntmps68
    go_wp2_with (go_at_call 37; refine (labelValid_any _ _ hs).mono ?_; rintro e w' ⟨rfl, rfl⟩)
    all_goals
      go_ret
      refine ⟨ret_bool ?_, rfl⟩
      unfold pv
      rw [Bool.eq_iff_iff]
      simp [*]
      try omega
  · have e2 := str_nonempty (s := s) (by omega)
    have e3 := str_nonempty'' (s := s) (by omega)
    go_enter Tryd.func68, Tryd.ntmps68
    go_wp2_with (go_at_call 37; refine (labelValid_any _ _ hs).mono ?_; rintro e w' ⟨rfl, rfl⟩)
    all_goals
      go_ret
      refine ⟨ret_bool ?_, rfl⟩
      unfold pv
      rw [Bool.eq_iff_iff]
      simp [*]
      try omega

set_option maxHeartbeats 400000 in
/-- impl.hasNode -/
theorem hasNode_any (g : Gr) (v : Value) (n : Int) (B : Nat) (w : World) (hg : g.At B w v) :
    Calls Tryd.prog 35 #[v, .int .i64 n] w fun e w' => e = .returned (.bool (hn g.ns.length n)) ∧ Below w.heap.size w w' := by
  obtain ⟨a, b, rfl, h1, h2⟩ := hg
  obtain ⟨p, cap, rfl⟩ := h1.form
  obtain ⟨p', cap', rfl⟩ := h2.form
  have hm := h1.max
  unfold maxLen at hm
  go_enter Tryd.func35, Tryd.ntmps35
  go_wp2
  all_goals
    go_ret
    refine ⟨ret_bool ?_, (Below.refl _ _).alloc (Nat.le_refl _) _⟩
    unfold hn
    rw [Bool.eq_iff_iff]
    simp [*]
    try omega

/-- The first k elements answer yes. -/
def AllP {α : Type} (f : α → Bool) (xs : List α) (k : Nat) : Prop := (xs.take k).all f = true
theorem AllP.zero {α : Type} (f : α → Bool) (xs : List α) : AllP f xs 0 := rfl
theorem AllP.succ {α : Type} {f : α → Bool} {xs : List α} {k : Nat} (h : AllP f xs k) (hk : k < xs.length) (hc : f xs[k] = true) : AllP f xs (k + 1) := by
  unfold AllP at *
  rw [List.take_succ_eq_append_getElem hk, List.all_append, h]
  simp only [List.all_cons, List.all_nil, Bool.and_true, Bool.true_and]; exact hc
theorem AllP.full {α : Type} {f : α → Bool} {xs : List α} (h : AllP f xs xs.length) : xs.all f = true := by
  unfold AllP at h; rwa [List.take_of_length_le (Nat.le_refl _)] at h
theorem all_bad {α : Type} {f : α → Bool} {xs : List α} {k : Nat} (hk : k < xs.length) (hc : f xs[k] = false) : xs.all f = false := by
  rw [List.all_eq_false]
  exact ⟨xs[k], List.getElem_mem hk, by rw [hc]; simp⟩
theorem gv_size {g : Gr} (h : ¬ (1 ≤ g.ns.length ∧ g.ns.length ≤ 8 ∧ g.es.length ≤ 14)) : gv g = false := by
  unfold gv
  by_cases a : 1 ≤ g.ns.length
  · by_cases b : g.ns.length ≤ 8
    · rw [decide_eq_false (p := g.es.length ≤ 14) (by omega)]; simp
    · rw [decide_eq_false (p := g.ns.length ≤ 8) b]; simp
  · rw [decide_eq_false (p := 1 ≤ g.ns.length) a]; simp
theorem gv_in {g : Gr} (h : 1 ≤ g.ns.length ∧ g.ns.length ≤ 8 ∧ g.es.length ≤ 14) : gv g = (g.ns.all ndV && g.es.all (edV g.ns.length)) := by
  unfold gv; rw [decide_eq_true h.1, decide_eq_true h.2.1, decide_eq_true h.2.2]; rfl

set_option maxHeartbeats 1000000 in
/-- impl.GraphValid -/
theorem graphValid_any (g : Gr) (v : Value) (B : Nat) (w : World) (hg : g.At B w v) (hB : B ≤ w.heap.size) (hok : g.Ok) :
    Calls Tryd.prog 34 #[v] w fun e w' => e = .returned (.bool (gv g)) ∧ Below w.heap.size w w' := by
  obtain ⟨a, b, rfl, h1, h2⟩ := hg
  obtain ⟨p, cap, rfl⟩ := h1.form
  obtain ⟨p', cap', rfl⟩ := h2.form
  have hm := h1.max
  have hm' := h2.max
  unfold maxLen at hm hm'
  by_cases hsz : 1 ≤ g.ns.length ∧ g.ns.length ≤ 8 ∧ g.es.length ≤ 14
  · obtain ⟨s1, s2, s3⟩ := hsz
    have hgv := Lib.hid (gv_in ⟨s1, s2, s3⟩)
    have q1 : decide ((g.ns.length : Int) < 1) = false := by simp; omega
    have q2 : decide ((8 : Int) < g.ns.length) = false := by simp; omega
    have q3 : decide ((14 : Int) < g.es.length) = false := by simp; omega
    go_enter Tryd.func34, Tryd.ntmps34
    go_wp2
    go_loopw [26] (fun i wr => ∃ k : Nat, k ≤ g.ns.length ∧ i = .int .i64 k ∧ AllP ndV g.ns k ∧ Below (w.heap.size + 1) (w.alloc (.cells #[.slice p g.ns.length cap, .slice p' g.es.length cap'] 36)) wr) (fun i _ => g.ns.length - (intOf i).toNat)
    case atStart => exact ⟨0, Nat.zero_le _, rfl, AllP.zero _ _, Below.refl _ _⟩
    case round =>
      obtain ⟨k, hk, rfl, ha, hbw⟩ := hrel
      have hwr : w.heap.size < wr.heap.size := by have := hbw.size; simp at this; omega
      have b0 : wr.cell? ⟨w.heap.size, 0, none⟩ = some (.slice p g.ns.length cap) := (hbw.cell (by simp)).trans (by simp [go_sem])
      have b1 : wr.cell? ⟨w.heap.size, 1, none⟩ = some (.slice p' g.es.length cap') := (hbw.cell (by simp)).trans (by simp [go_sem])
      have HBW := Lib.hid hbw
      clear hbw
      by_cases hlt : k < g.ns.length
      · obtain ⟨b, off, rfl, hb, c0, c1⟩ := (h1.below ((Below.refl B w).alloc hB (.cells #[.slice p g.ns.length cap, .slice p' g.es.length cap'] 36)) |>.below (HBW.out.mono (by omega))).nd hlt
        have hx := hok.1 _ (List.getElem_mem hlt)
        obtain ⟨x, ex⟩ : ∃ x, x = g.ns[k] := ⟨_, rfl⟩
        have EX := Lib.hid ex
        rw [← ex] at c0 c1 hx
        clear ex
        obtain ⟨x1, x2⟩ := hx
        cases hv : ndV x with
        | true =>
          have hv' : pv x.l x.n = true := hv
          clear hv
          go_wp2_with (go_at_call 68; refine (propsValid_any _ _ _ x1).mono ?_; rintro e w' ⟨rfl, rfl⟩)
          go_roundw
          case rel => exact ⟨k + 1, by omega, by go_num, ha.succ hlt (by rw [← EX.out]; exact hv'), HBW.out.alloc (by omega) _⟩
          case measure => simp [intOf]; omega
        | false =>
          have hv' : pv x.l x.n = false := hv
          have hf := Lib.hid (all_bad (f := ndV) hlt (by rw [← EX.out]; exact hv))
          clear hv
          go_wp2_with (go_at_call 68; refine (propsValid_any _ _ _ x1).mono ?_; rintro e w' ⟨rfl, rfl⟩)
          go_ret
          exact ⟨ret_bool (by rw [hgv.out, hf.out]; rfl), (((Below.refl _ w).alloc (Nat.le_refl _) _).trans (HBW.out.mono (by omega))).alloc (by omega) _⟩
      · obtain rfl : k = g.ns.length := by omega
        have hf := Lib.hid ha.full
        go_wp2
        clear hwr b0 b1
        obtain ⟨w2, rfl⟩ : ∃ w2 : World, w2 = wr := ⟨_, rfl⟩
        go_loopw [40] (fun i wr => ∃ k : Nat, k ≤ g.es.length ∧ i = .int .i64 k ∧ AllP (edV g.ns.length) g.es k ∧ Below (w.heap.size + 1) w2 wr) (fun i _ => g.es.length - (intOf i).toNat)
        case atStart => exact ⟨0, Nat.zero_le _, rfl, AllP.zero _ _, Below.refl _ _⟩
        case round =>
          obtain ⟨k, hk, rfl, ha, hbw0⟩ := hrel
          have hbw := HBW.out.trans hbw0
          have hbw0 := Lib.hid hbw0
          have hwr : w.heap.size < wr.heap.size := by have := hbw.size; simp at this; omega
          have b0 : wr.cell? ⟨w.heap.size, 0, none⟩ = some (.slice p g.ns.length cap) := (hbw.cell (by simp)).trans (by simp [go_sem])
          have b1 : wr.cell? ⟨w.heap.size, 1, none⟩ = some (.slice p' g.es.length cap') := (hbw.cell (by simp)).trans (by simp [go_sem])
          have HBV := Lib.hid hbw
          clear hbw
          have hat : g.At B wr (.agg #[.slice p g.ns.length cap, .slice p' g.es.length cap']) := (Gr.At.below ⟨_, _, rfl, h1, h2⟩ ((Below.refl B w).alloc hB (.cells #[.slice p g.ns.length cap, .slice p' g.es.length cap'] 36))).below (HBV.out.mono (by omega))
          by_cases hlt : k < g.es.length
          · obtain ⟨b, off, rfl, hb, c0, c1, c2, c3⟩ := ((h2.below ((Below.refl B w).alloc hB (.cells #[.slice p g.ns.length cap, .slice p' g.es.length cap'] 36))).below (HBV.out.mono (by omega))).ed hlt
            have hx := hok.2 _ (List.getElem_mem hlt)
            obtain ⟨x, ex⟩ : ∃ x, x = g.es[k] := ⟨_, rfl⟩
            have EX := Lib.hid ex
            rw [← ex] at c0 c1 c2 c3 hx
            clear ex
            obtain ⟨x1, x2, x3, x4⟩ := hx
            have hat1 : ∀ o, g.At B (wr.alloc o) (.agg #[.slice p g.ns.length cap, .slice (some ⟨b, off, none⟩) g.es.length cap']) := fun o => hat.below ((Below.refl B wr).alloc (by omega) o)
            clear hat
            have HAT := Lib.hid hat1
            clear hat1
            have hend := Lib.hid (((Below.refl _ w).alloc (Nat.le_refl _) (.cells #[.slice p g.ns.length cap, .slice (some ⟨b, off, none⟩) g.es.length cap'] 36)).trans (HBV.out.mono (by omega)))
            go_wp2_with fail
            refine (hasNode_any g _ _ B _ (HAT.out _)).mono ?_
            rintro e w1 ⟨rfl, hb1⟩
            have d1 := new_cell hb1 (j := 1) rfl
            have d2 := new_cell hb1 (j := 2) rfl
            have d3 := new_cell hb1 (j := 3) rfl
            have k1 := below_past hb1
            have f0 := (k1.cell (p := ⟨w.heap.size, 0, none⟩) hwr).trans b0
            have f1 := (k1.cell (p := ⟨w.heap.size, 1, none⟩) hwr).trans b1
            have hw1 : wr.heap.size < w1.heap.size := by have := hb1.size; simp at this; omega
            have HA1 := Lib.hid ((HAT.out _).below (hb1.mono (by simp; omega)))
            have K1 := Lib.hid k1
            clear hb1 k1
            by_cases e1 : hn g.ns.length x.f = true
            · go_wp2_with fail
              refine (hasNode_any g _ _ B _ HA1.out).mono ?_
              rintro e w3 ⟨rfl, hb2⟩
              have g2 := (hb2.cell (p := ⟨wr.heap.size, 2, none⟩) hw1).trans d2
              have g3 := (hb2.cell (p := ⟨wr.heap.size, 3, none⟩) hw1).trans d3
              have K2 := Lib.hid (K1.out.trans (hb2.mono (by omega)))
              clear hb2 d1 d2 d3 f0 f1
              by_cases e2 : hn g.ns.length x.t = true
              · go_wp2_with fail
                refine (propsValid_any _ _ _ x3).mono ?_
                rintro e w4 ⟨rfl, rfl⟩
                by_cases e3 : pv x.l x.n = true
                · have hv : edV g.ns.length x = true := by unfold edV; rw [e1, e2, e3]; rfl
                  have hs := Lib.hid (ha.succ hlt (by rw [← EX.out]; exact hv))
                  clear ha hv
                  go_wp2_with fail
                  go_roundw
                  case rel => exact ⟨k + 1, by omega, by go_num, hs.out, hbw0.out.trans (K2.out.mono (by omega))⟩
                  case measure => simp [intOf]; omega
                · have hv : edV g.ns.length x = false := by unfold edV; rw [Bool.eq_false_iff.2 e3]; simp
                  have hs := Lib.hid (all_bad (f := edV g.ns.length) hlt (by rw [← EX.out]; exact hv))
                  clear ha hv
                  go_wp2_with fail
                  go_ret
                  exact ⟨ret_bool (by rw [hgv.out, hs.out]; simp), hend.out.trans (K2.out.mono (by omega))⟩
              · have hv : edV g.ns.length x = false := by unfold edV; rw [Bool.eq_false_iff.2 e2]; simp
                have hs := Lib.hid (all_bad (f := edV g.ns.length) hlt (by rw [← EX.out]; exact hv))
                clear ha hv
                go_wp2_with fail
                go_ret
                exact ⟨ret_bool (by rw [hgv.out, hs.out]; simp), hend.out.trans (K2.out.mono (by omega))⟩
            · have hv : edV g.ns.length x = false := by unfold edV; rw [Bool.eq_false_iff.2 e1]; simp
              have hs := Lib.hid (all_bad (f := edV g.ns.length) hlt (by rw [← EX.out]; exact hv))
              clear ha hv
              go_wp2_with fail
              go_ret
              exact ⟨ret_bool (by rw [hgv.out, hs.out]; simp), hend.out.trans (K1.out.mono (by omega))⟩
          · obtain rfl : k = g.es.length := by omega
            have hf2 := Lib.hid ha.full
            go_wp2
            go_ret
            exact ⟨ret_bool (by rw [hgv.out, hf.out, hf2.out]; rfl), ((Below.refl _ w).alloc (Nat.le_refl _) _).trans (HBV.out.mono (by omega))⟩
  · have hgv := Lib.hid (gv_size hsz)
    by_cases s1 : 1 ≤ g.ns.length
    · by_cases s2 : g.ns.length ≤ 8
      · have s3 : 14 < g.es.length := by omega
        clear hsz
        go_enter Tryd.func34, Tryd.ntmps34
        go_wp2
        go_ret
        exact ⟨ret_bool (by rw [hgv.out]), (Below.refl _ _).alloc (Nat.le_refl _) _⟩
      · clear hsz
        go_enter Tryd.func34, Tryd.ntmps34
        go_wp2
        go_ret
        exact ⟨ret_bool (by rw [hgv.out]), (Below.refl _ _).alloc (Nat.le_refl _) _⟩
    · clear hsz
      go_enter Tryd.func34, Tryd.ntmps34
      go_wp2
      go_ret
      exact ⟨ret_bool (by rw [hgv.out]), (Below.refl _ _).alloc (Nat.le_refl _) _⟩
end Go.Proofs.YtbbemeaojmfndaaDoor
namespace Go.Proofs.YtbbemeaojmfndaaDoor
open Go.RowKit

/-- What a size function answers: -1, or what is left. -/
def SzPost (left need : Int) (B : Nat) (w : World) (e : Ending) (w' : World) : Prop := ∃ r : Int, e = .returned (.int .i64 r) ∧ (r = -1 ∨ (0 ≤ r ∧ r = left - need)) ∧ Below B w w'

def sumNode (xs : List Nd) : Nat := (xs.map fun x => x.l.size).sum
theorem sumNode_succ (xs : List Nd) (k : Nat) (h : k < xs.length) : sumNode (xs.take (k + 1)) = sumNode (xs.take k) + xs[k].l.size := by
  unfold sumNode; rw [List.take_succ_eq_append_getElem h, List.map_append, List.sum_append]; simp only [List.map_cons, List.map_nil, List.sum_cons, List.sum_nil, Nat.add_zero]
theorem sumNode_le (xs : List Nd) (k : Nat) : sumNode (xs.take k) ≤ sumNode xs := by
  unfold sumNode
  have := congrArg (fun l => (l.map fun x : Nd => x.l.size).sum) (List.take_append_drop k xs)
  simp only [List.map_append, List.sum_append] at this; omega

def sumEdge (xs : List Ed) : Nat := (xs.map fun x => x.l.size).sum
theorem sumEdge_succ (xs : List Ed) (k : Nat) (h : k < xs.length) : sumEdge (xs.take (k + 1)) = sumEdge (xs.take k) + xs[k].l.size := by
  unfold sumEdge; rw [List.take_succ_eq_append_getElem h, List.map_append, List.sum_append]; simp only [List.map_cons, List.map_nil, List.sum_cons, List.sum_nil, Nat.add_zero]
theorem sumEdge_le (xs : List Ed) (k : Nat) : sumEdge (xs.take k) ≤ sumEdge xs := by
  unfold sumEdge
  have := congrArg (fun l => (l.map fun x : Ed => x.l.size).sum) (List.take_append_drop k xs)
  simp only [List.map_append, List.sum_append] at this; omega

/-- A slice of flat elements in memory of the call's own: not frozen, in the blocks F. -/
def OwnSl {α : Type} (sz : Nat) (enc : α → List Value) (w : World) (v : Value) (xs : List α) (F : List Nat) : Prop :=
  ∃ (p : Option Addr) (len cap : Nat), v = .slice p len cap ∧ len = xs.length ∧ len ≤ cap ∧ cap ≤ maxLen ∧
    ((xs = [] ∧ F = []) ∨ ∃ b off, p = some ⟨b, off, none⟩ ∧ F = [b] ∧ b < w.heap.size ∧ (∀ o, w.frozen? ⟨b, o, none⟩ = false) ∧ ∀ (i : Nat) (h : i < xs.length) j x, (enc xs[i])[j]? = some x → w.cell? ⟨b, off + i * sz + j, none⟩ = some x)
theorem OwnSl.sl {α : Type} {sz : Nat} {enc : α → List Value} {w : World} {v : Value} {xs : List α} {F : List Nat} (h : OwnSl sz enc w v xs F) : Sl sz enc w.heap.size w v xs := by
  obtain ⟨p, len, cap, h1, h2, h3, h4, h5⟩ := h
  refine ⟨p, len, cap, h1, h2, h3, h4, fun i hi => ?_⟩
  rcases h5 with ⟨h5, _⟩ | ⟨b, off, e1, e2, e3, e4, e5⟩
  · subst h5; simp at hi
  · exact ⟨b, off, e1, e3, e5 i hi⟩
/-- The world w' is as w was, but for the blocks in F, and new ones. -/
structure Chg (F : List Nat) (w w' : World) : Prop where
  os : w'.os = w.os
  tape : w'.tape = w.tape
  output : w'.output = w.output
  size : w.heap.size ≤ w'.heap.size
  block : ∀ k, k < w.heap.size → k ∉ F → w'.heap[k]? = w.heap[k]?
theorem Chg.refl (F : List Nat) (w : World) : Chg F w w := ⟨rfl, rfl, rfl, Nat.le_refl _, fun _ _ _ => rfl⟩
theorem Chg.trans {F : List Nat} {a b c : World} (h : Chg F a b) (k : Chg F b c) : Chg F a c :=
  ⟨k.os.trans h.os, k.tape.trans h.tape, k.output.trans h.output, Nat.le_trans h.size k.size, fun i hi hF => (k.block i (Nat.lt_of_lt_of_le hi h.size) hF).trans (h.block i hi hF)⟩
theorem Chg.mono {F G : List Nat} {a b : World} (h : Chg F a b) (hs : ∀ x ∈ F, x ∈ G) : Chg G a b :=
  ⟨h.os, h.tape, h.output, h.size, fun i hi hF => h.block i hi (fun hx => hF (hs i hx))⟩
theorem Chg.of_below' {w w' : World} (h : Below w.heap.size w w') (F : List Nat) : Chg F w w' := ⟨h.os, h.tape, h.output, h.size, fun i hi _ => h.block i hi⟩
theorem Chg.setCell {F : List Nat} {a w : World} (h : Chg F a w) {p : Addr} (hp : p.block ∈ F) (u : Value) : Chg F a (w.setCell p u) :=
  h.trans ⟨rfl, rfl, rfl, by simp [World.setCell], fun k hk hF => Below.heap_setCell _ _ _ _ (by rintro rfl; exact hF hp)⟩
theorem Chg.then_below {F : List Nat} {a w w' : World} (h : Chg F a w) (hb : Below w.heap.size w w') : Chg F a w' := h.trans (Chg.of_below' hb F)
theorem Chg.of_below {w w' : World} (h : Below w.heap.size w w') (F : List Nat) : Chg F w w' := ⟨h.os, h.tape, h.output, h.size, fun i hi _ => h.block i hi⟩
theorem Chg.below {F : List Nat} {w w' : World} (h : Chg F w w') {B : Nat} (hB : B ≤ w.heap.size) (hF : ∀ x ∈ F, B ≤ x) : Below B w w' :=
  ⟨h.os, h.tape, h.output, h.size, fun i hi => h.block i (by omega) (fun hx => by have := hF i hx; omega)⟩
theorem OwnSl.chg {α : Type} {sz : Nat} {enc : α → List Value} {w w' : World} {v : Value} {xs : List α} {F G : List Nat} (h : OwnSl sz enc w v xs F) (hc : Chg G w w') (hd : ∀ x ∈ F, x ∉ G) : OwnSl sz enc w' v xs F := by
  obtain ⟨p, len, cap, h1, h2, h3, h4, h5⟩ := h
  refine ⟨p, len, cap, h1, h2, h3, h4, ?_⟩
  rcases h5 with h5 | ⟨b, off, e1, e2, e3, e4, e5⟩
  · exact .inl h5
  · have hb := hc.block b e3 (hd b (by rw [e2]; simp))
    have hs := hc.size
    exact .inr ⟨b, off, e1, e2, by omega, fun o => (World.frozen?_of_block (w := w) (a := ⟨b, o, none⟩) hb).trans (e4 o), fun i hi j x hx => (World.cell?_of_block (w := w) (a := ⟨b, _, none⟩) hb).trans (e5 i hi j x hx)⟩
theorem OwnSl.below {α : Type} {sz : Nat} {enc : α → List Value} {w w' : World} {v : Value} {xs : List α} {F : List Nat} (h : OwnSl sz enc w v xs F) (hc : Below w.heap.size w w') : OwnSl sz enc w' v xs F :=
  h.chg (Chg.of_below hc []) (by simp)
theorem OwnSl.lt {α : Type} {sz : Nat} {enc : α → List Value} {w : World} {v : Value} {xs : List α} {F : List Nat} (h : OwnSl sz enc w v xs F) : ∀ x ∈ F, x < w.heap.size := by
  obtain ⟨p, len, cap, h1, h2, h3, h4, h5⟩ := h
  rcases h5 with ⟨_, rfl⟩ | ⟨b, off, e1, e2, e3, e4, e5⟩
  · simp
  · subst e2; simpa using e3
/-- The first k elements' cells stand in L. -/
def Part {α : Type} (sz : Nat) (enc : α → List Value) (xs : List α) (L : List Value) (k : Nat) : Prop :=
  L.length = xs.length * sz ∧ ∀ (i : Nat) (h : i < xs.length), i < k → ∀ j x, (enc xs[i])[j]? = some x → L[i * sz + j]? = some x
def setAt (L : List Value) (o : Nat) : List Value → List Value
  | [] => L
  | v :: vs => setAt (L.set o v) (o + 1) vs
theorem length_setAt (L : List Value) (o : Nat) (vs : List Value) : (setAt L o vs).length = L.length := by
  induction vs generalizing L o with
  | nil => rfl
  | cons v vs ih => unfold setAt; rw [ih]; simp
theorem setAt_out (L : List Value) (o : Nat) (vs : List Value) (i : Nat) (h : i < o ∨ o + vs.length ≤ i) : (setAt L o vs)[i]? = L[i]? := by
  induction vs generalizing L o with
  | nil => rfl
  | cons v vs ih =>
    unfold setAt
    rw [ih _ _ (by simp at h; omega), List.getElem?_set_ne (by simp at h; omega)]
theorem setAt_in (L : List Value) (o : Nat) (vs : List Value) (j : Nat) (hj : j < vs.length) (hl : o + vs.length ≤ L.length) : (setAt L o vs)[o + j]? = vs[j]? := by
  induction vs generalizing L o j with
  | nil => simp at hj
  | cons v vs ih =>
    unfold setAt
    simp at hj hl
    cases j with
    | zero => rw [setAt_out (L.set o v) (o + 1) vs (o + 0) (.inl (by omega)), Nat.add_zero, List.getElem?_set_self (by omega)]; rfl
    | succ j =>
      have := ih (L.set o v) (o + 1) j (by omega) (by simp; omega)
      rw [show o + (j + 1) = o + 1 + j by omega, this]; simp
theorem Part.zero {α : Type} {sz : Nat} {enc : α → List Value} {xs : List α} {L : List Value} (h : L.length = xs.length * sz) : Part sz enc xs L 0 := ⟨h, fun _ _ h => by omega⟩
theorem Part.succ {α : Type} {sz : Nat} {enc : α → List Value} {xs : List α} {L : List Value} {k : Nat} (h : Part sz enc xs L k) (hk : k < xs.length) (hs : ∀ x, (enc x).length = sz) : Part sz enc xs (setAt L (k * sz) (enc xs[k])) (k + 1) := by
  refine ⟨(length_setAt _ _ _).trans h.1, fun i hi hik j x hx => ?_⟩
  have hle : k * sz + sz ≤ xs.length * sz := by rw [← Nat.succ_mul]; exact Nat.mul_le_mul_right _ hk
  by_cases e : i = k
  · subst e
    have hj : j < (enc xs[i]).length := (List.getElem?_eq_some_iff.1 hx).1
    rw [setAt_in _ _ _ _ hj (by rw [hs, h.1]; exact hle)]; exact hx
  · have hlt : i < k := by omega
    have hj : j < sz := by rw [← hs xs[i]]; exact (List.getElem?_eq_some_iff.1 hx).1
    have : i * sz + sz ≤ k * sz := by rw [← Nat.succ_mul]; exact Nat.mul_le_mul_right _ hlt
    rw [setAt_out _ _ _ _ (.inl (by omega))]
    exact h.2 i hi hlt j x hx
theorem set_far (w : World) (b o : Nat) (v : Value) (b' o' : Nat) (h : b ≠ b') : (w.setCell ⟨b, o, none⟩ v).cell? ⟨b', o', none⟩ = w.cell? ⟨b', o', none⟩ :=
  World.cell?_of_block (w := w) (Below.heap_setCell _ _ _ _ (fun e => h e.symm))
theorem set_near (w : World) (b o : Nat) (v : Value) (o' : Nat) (h : o ≠ o') : (w.setCell ⟨b, o, none⟩ v).cell? ⟨b, o', none⟩ = w.cell? ⟨b, o', none⟩ :=
  World.cell?_setCell_other w ⟨b, o, none⟩ ⟨b, o', none⟩ v (by intro e; injection e with _ e2; exact h e2)
theorem set_same (w : World) (b o : Nat) (u v : Value) (h : w.cell? ⟨b, o, none⟩ = some u) : (w.setCell ⟨b, o, none⟩ v).cell? ⟨b, o, none⟩ = some v := World.cell?_setCell_same w ⟨b, o, none⟩ v h
/-- A whole block, its cells as a list. -/
def Blk (w : World) (b : Nat) (T : TypeId) (L : List Value) : Prop := w.heap[b]? = some (.cells L.toArray T (0, 0))
theorem Blk.cell {w : World} {b : Nat} {T : TypeId} {L : List Value} (h : Blk w b T L) (i : Nat) : w.cell? ⟨b, i, none⟩ = L[i]? := by
  unfold Blk at h; simp [World.cell?, h]
theorem Blk.frozen {w : World} {b : Nat} {T : TypeId} {L : List Value} (h : Blk w b T L) (i : Nat) : w.frozen? ⟨b, i, none⟩ = false := by
  unfold Blk at h; simp [World.frozen?, h]
theorem Blk.lt {w : World} {b : Nat} {T : TypeId} {L : List Value} (h : Blk w b T L) : b < w.heap.size := by
  unfold Blk at h; exact (Array.getElem?_eq_some_iff.1 h).1
theorem Blk.below {w w' : World} {b B : Nat} {T : TypeId} {L : List Value} (h : Blk w b T L) (hb : Below B w w') (hB : b < B) : Blk w' b T L := (hb.block b hB).trans h
theorem Blk.set {w : World} {b : Nat} {T : TypeId} {L : List Value} (h : Blk w b T L) (i : Nat) (v : Value) : Blk (w.setCell ⟨b, i, none⟩ v) b T (L.set i v) := by
  unfold Blk at *
  simp [World.setCell, Array.getElem?_modify, h]
theorem Blk.new (w : World) (c : Array Value) (T : TypeId) : Blk (w.alloc (.cells c T)) w.heap.size T c.toList := by
  have : (w.alloc (.cells c T)).heap = w.heap.push (.cells c T) := rfl
  unfold Blk; rw [this]; simp

theorem infoNode : (Tryd.prog.info? 77).map (fun i => (i.zero, i.size, i.bytes)) = some (some (.agg #[.string ⟨#[]⟩, .int .i64 0]), 2, 24) := by kernel_rfl

theorem infoEdge : (Tryd.prog.info? 110).map (fun i => (i.zero, i.size, i.bytes)) = some (some (.agg #[.int .i64 0, .int .i64 0, .string ⟨#[]⟩, .int .i64 0]), 4, 40) := by kernel_rfl

end Go.Proofs.YtbbemeaojmfndaaDoor
namespace Go.Proofs.YtbbemeaojmfndaaDoor
open Go.RowKit

end Go.Proofs.YtbbemeaojmfndaaDoor
namespace Go.Proofs.YtbbemeaojmfndaaDoor
open Go.RowKit

def Gr.need (g : Gr) : Nat := g.ns.length + sumNode g.ns + (g.es.length + sumEdge g.es)
/-- The value of a struct Graph in memory of the call's own, from block lo on; its two slices share none. -/
def Gr.Own (g : Gr) (lo : Nat) (w : World) (v : Value) (F1 F2 : List Nat) : Prop :=
  ∃ a b, v = .agg #[a, b] ∧ OwnSl 2 Nd.cells w a g.ns F1 ∧ OwnSl 4 Ed.cells w b g.es F2 ∧ (∀ x ∈ F1, lo ≤ x) ∧ (∀ x ∈ F2, lo ≤ x) ∧ (∀ x ∈ F1, x ∉ F2)
theorem Gr.Own.at {g : Gr} {lo : Nat} {w : World} {v : Value} {F1 F2 : List Nat} (h : g.Own lo w v F1 F2) : g.At w.heap.size w v := by
  obtain ⟨a, b, h1, h2, h3, _⟩ := h
  exact ⟨a, b, h1, h2.sl, h3.sl⟩
theorem Gr.Own.chg {g : Gr} {lo : Nat} {w w' : World} {v : Value} {F1 F2 G : List Nat} (h : g.Own lo w v F1 F2) (hc : Chg G w w') (h1 : ∀ x ∈ F1, x ∉ G) (h2 : ∀ x ∈ F2, x ∉ G) : g.Own lo w' v F1 F2 := by
  obtain ⟨a, b, e1, e2, e3, e4, e5, e6⟩ := h
  exact ⟨a, b, e1, e2.chg hc h1, e3.chg hc h2, e4, e5, e6⟩
theorem Gr.Own.below {g : Gr} {lo : Nat} {w w' : World} {v : Value} {F1 F2 : List Nat} (h : g.Own lo w v F1 F2) (hc : Below w.heap.size w w') : g.Own lo w' v F1 F2 :=
  h.chg (Chg.of_below hc []) (by simp) (by simp)
theorem Gr.Own.mono {g : Gr} {lo lo' : Nat} {w : World} {v : Value} {F1 F2 : List Nat} (h : g.Own lo w v F1 F2) (hl : lo' ≤ lo) : g.Own lo' w v F1 F2 := by
  obtain ⟨a, b, e1, e2, e3, e4, e5, e6⟩ := h
  exact ⟨a, b, e1, e2, e3, fun x hx => Nat.le_trans hl (e4 x hx), fun x hx => Nat.le_trans hl (e5 x hx), e6⟩
theorem Gr.Own.lt {g : Gr} {lo : Nat} {w : World} {v : Value} {F1 F2 : List Nat} (h : g.Own lo w v F1 F2) : (∀ x ∈ F1, x < w.heap.size) ∧ (∀ x ∈ F2, x < w.heap.size) := by
  obtain ⟨a, b, e1, e2, e3, e4, e5, e6⟩ := h
  exact ⟨e2.lt, e3.lt⟩

end Go.Proofs.YtbbemeaojmfndaaDoor
namespace Go.Proofs.YtbbemeaojmfndaaDoor
open Go.RowKit

/-- The cells of flat elements, one behind the other. -/
def flt {α : Type} (enc : α → List Value) (xs : List α) : List Value := xs.flatMap enc
theorem flt_length {α : Type} {enc : α → List Value} {sz : Nat} (h : ∀ x, (enc x).length = sz) : ∀ xs : List α, (flt enc xs).length = xs.length * sz
  | [] => by simp [flt]
  | x :: xs => by
    have := flt_length h xs
    simp only [flt, List.flatMap_cons, List.length_append, List.length_cons] at *
    rw [h, this, Nat.succ_mul]; omega
theorem flt_append {α : Type} (enc : α → List Value) (xs ys : List α) : flt enc (xs ++ ys) = flt enc xs ++ flt enc ys := by simp [flt]
theorem flt_at {α : Type} {enc : α → List Value} {sz : Nat} (h : ∀ x, (enc x).length = sz) : ∀ (xs : List α) (i : Nat) (hi : i < xs.length) (j : Nat) (x : Value), (enc xs[i])[j]? = some x → (flt enc xs)[i * sz + j]? = some x
  | x :: xs, 0, _, j, v, hv => by
    have hj : j < (enc x).length := (List.getElem?_eq_some_iff.1 hv).1
    simp only [flt, List.flatMap_cons, Nat.zero_mul, Nat.zero_add]
    rw [List.getElem?_append_left hj]; exact hv
  | x :: xs, i + 1, hi, j, v, hv => by
    have := flt_at h xs i (by simpa using hi) j v (by simpa using hv)
    simp only [flt, List.flatMap_cons]
    rw [List.getElem?_append_right (by rw [h, Nat.succ_mul]; omega), h]
    rw [show (i + 1) * sz + j - sz = i * sz + j by rw [Nat.succ_mul]; omega]; exact this
/-- A step that is an append, by whatever its run is known to give. -/
theorem step_app_src {P : Program} {w : World} {ops : Array Oper} {o : Oper} {a : Act} {K : Act → World → Prop} {Q : Exit → Act → World → Prop} {E : Prop} (hgd : o.guard = none) (s x : Operand) (t : TypeId)
    (ho : o.op = .call { callee := .builtin .append, args := #[s, x], argTypes := #[t, t] }) (vs vx : Value) (hs : a.eval s = vs) (hx : a.eval x = vx) (R : Value → World → Prop)
    (hr : ∃ v' w', (Builtin.append_ #[t, t] o.type #[vs, vx]).run P w = .ok v' w' ∧ R v' w') (h : ∀ v' w', R v' w' → K (a.put o.dst v') w') :
    if Region.wanted o (yielded ops a.tmps) = true then Oper.wp P o a w K Q else E := by
  have hw : Region.wanted o (yielded ops a.tmps) = true := by simp [Region.wanted, hgd]
  rw [if_pos hw]
  obtain ⟨v', w', hr, hR⟩ := hr
  unfold Oper.wp execOp
  simp only [ho, resolve, invoke, builtin, Sem.run_bind, Sem.run_pure, Result.andThen_ok, List.map_toArray, List.map_cons, List.map_nil, hs, hx, hr]
  exact h v' w' hR

/-- As OwnSl, and the whole block is known. -/
def OwnS {α : Type} (sz : Nat) (enc : α → List Value) (e : TypeId) (w : World) (v : Value) (xs : List α) (F : List Nat) : Prop :=
  ∃ (p : Option Addr) (cap : Nat), v = .slice p xs.length cap ∧ xs.length ≤ cap ∧ cap ≤ maxLen ∧
    ((xs = [] ∧ F = [] ∧ cap = 0) ∨ ∃ b cur, p = some ⟨b, 0, none⟩ ∧ F = [b] ∧ w.heap[b]? = some (.cells cur e (0, 0)) ∧ cur.size = cap * sz ∧ cur.toList.take (xs.length * sz) = flt enc xs)
theorem OwnS.own {α : Type} {sz : Nat} {enc : α → List Value} (hen : ∀ x, (enc x).length = sz) {e : TypeId} {w : World} {v : Value} {xs : List α} {F : List Nat} (h : OwnS sz enc e w v xs F) : OwnSl sz enc w v xs F := by
  obtain ⟨p, cap, rfl, h2, h3, h4⟩ := h
  refine ⟨p, _, cap, rfl, rfl, h2, h3, ?_⟩
  rcases h4 with ⟨rfl, rfl, _⟩ | ⟨b, cur, rfl, rfl, hg, hs, ht⟩
  · exact .inl ⟨rfl, rfl⟩
  · refine .inr ⟨b, 0, rfl, rfl, (Array.getElem?_eq_some_iff.1 hg).1, fun o => by simp [World.frozen?, hg], fun i hi j x hx => ?_⟩
    have e1 := flt_at hen xs i hi j x hx
    have hj : j < sz := by rw [← hen xs[i]]; exact (List.getElem?_eq_some_iff.1 hx).1
    have hle : i * sz + sz ≤ xs.length * sz := by rw [← Nat.succ_mul]; exact Nat.mul_le_mul_right _ hi
    rw [← ht, List.getElem?_take_of_lt (by omega)] at e1
    simp only [World.cell?, hg, Nat.zero_add]
    rw [← e1]; simp
theorem OwnS.chg {α : Type} {sz : Nat} {enc : α → List Value} {e : TypeId} {w w' : World} {v : Value} {xs : List α} {F G : List Nat} (h : OwnS sz enc e w v xs F) (hc : Chg G w w') (hd : ∀ x ∈ F, x ∉ G) : OwnS sz enc e w' v xs F := by
  obtain ⟨p, cap, rfl, h2, h3, h4⟩ := h
  refine ⟨p, cap, rfl, h2, h3, ?_⟩
  rcases h4 with h4 | ⟨b, cur, rfl, rfl, hg, hs, ht⟩
  · exact .inl h4
  · exact .inr ⟨b, cur, rfl, rfl, (hc.block b (Array.getElem?_eq_some_iff.1 hg).1 (hd b (by simp))).trans hg, hs, ht⟩
theorem OwnS.below {α : Type} {sz : Nat} {enc : α → List Value} {e : TypeId} {w w' : World} {v : Value} {xs : List α} {F : List Nat} (h : OwnS sz enc e w v xs F) (hc : Below w.heap.size w w') : OwnS sz enc e w' v xs F :=
  h.chg (Chg.of_below hc []) (by simp)
theorem OwnS.lt {α : Type} {sz : Nat} {enc : α → List Value} {e : TypeId} {w : World} {v : Value} {xs : List α} {F : List Nat} (h : OwnS sz enc e w v xs F) : ∀ x ∈ F, x < w.heap.size := by
  obtain ⟨p, cap, rfl, h2, h3, h4⟩ := h
  rcases h4 with ⟨_, rfl, _⟩ | ⟨b, cur, rfl, rfl, hg, hs, ht⟩
  · simp
  · intro x hx; simp at hx; subst hx; exact (Array.getElem?_eq_some_iff.1 hg).1
/-- One more, behind the others. -/
theorem OwnS.append {α : Type} {sz : Nat} {enc : α → List Value} (hen : ∀ x, (enc x).length = sz) (hone : ∀ (x : α), ∀ u ∈ enc x, u.oneCell' = true) {w : World} {v : Value} {xs : List α} {F : List Nat}
    (t ty e : TypeId) (i : TypeInfo) (z : Value) (bytes : Nat) (ht : Tryd.prog.underlying t = some (.slice e)) (hi : Tryd.prog.info? e = some i) (hz : i.zero = some z) (hsz : i.size = sz) (hby : i.bytes = bytes) (hzs : z.cells.size = sz)
    (h : OwnS sz enc e w v xs F) (y : α) (g c : Nat) (hy : ∀ j u, (enc y)[j]? = some u → w.cell? ⟨g, j, none⟩ = some u) (h63 : xs.length < 3000000) (hbytes : (xs.length + 1) * bytes ≤ 140737488355328) :
    ∃ v' w', (Builtin.append_ #[t, t] ty #[v, .slice (some ⟨g, 0, none⟩) 1 c]).run Tryd.prog w = .ok v' w' ∧ ∃ F', OwnS sz enc e w' v' (xs ++ [y]) F' ∧ (∀ x ∈ F', x ∈ F ∨ w.heap.size ≤ x) ∧ Chg F w w' := by
  have hfl : flt enc (xs ++ [y]) = flt enc xs ++ enc y := by rw [flt_append]; simp [flt]
  have hca : ∀ j u, (enc y)[j]? = some u → w.cell? ((⟨g, 0, none⟩ : Addr).add j) = some u := fun j u hu => by
    have h0 := hy j u hu
    cases j <;> simpa [Addr.add] using h0
  obtain ⟨p, cap, rfl, h2, h3, h4⟩ := h
  have hout : ∀ (old C : Nat) (cs : Array Value), C = grownCap w (xs.length + 1) old e → cs = (flt enc xs).toArray ++ (enc y).toArray ++ Builtin.zeroCells z.cells (C - (xs.length + 1)) →
      ∃ F', OwnS sz enc e (w.drew.alloc (.cells cs e)) (.slice (some ⟨w.heap.size, 0, none⟩) (xs.length + 1) C) (xs ++ [y]) F' ∧ (∀ x ∈ F', x ∈ F ∨ w.heap.size ≤ x) ∧ Chg F w (w.drew.alloc (.cells cs e)) := by
    intro old C cs hC hcs
    have h1 : xs.length + 1 ≤ C := by rw [hC]; exact grownCap_ge w _ _ e
    have h2 : C ≤ maxLen := by rw [hC]; exact grownCap_le_maxLen w _ _ e (by unfold maxLen; omega)
    refine ⟨[w.heap.size], ⟨_, C, by simp, by simpa using h1, h2, .inr ⟨_, cs, rfl, rfl, heap_alloc_new w.drew _, ?_, ?_⟩⟩, by simp, Chg.of_below ((Below.refl _ w).drew.alloc (Nat.le_refl _) _) F⟩
    · rw [hcs, Array.size_append, Array.size_append, List.size_toArray, List.size_toArray, flt_length hen, hen, size_zeroCells, hzs]
      have e1 : C = C - (xs.length + 1) + xs.length + 1 := by omega
      have e2 : C * sz = (C - (xs.length + 1)) * sz + xs.length * sz + sz := by
        conv => lhs; rw [e1, Nat.succ_mul, Nat.add_mul]
      omega
    · rw [hfl, hcs]
      have hl : (flt enc xs ++ enc y).length = (xs ++ [y]).length * sz := by rw [List.length_append, flt_length hen, hen, List.length_append, Nat.add_mul]; simp
      simp only [Array.toList_append, List.append_assoc]
      rw [← List.append_assoc, ← hl]
      exact List.take_left
  have hb1 : (xs.length + 1) * i.bytes ≤ 140737488355328 := by rw [hby]; exact hbytes
  rcases h4 with ⟨rfl, rfl, rfl⟩ | ⟨b, cur, rfl, rfl, hg, hs, htk⟩
  · cases p with
    | none =>
      have hr := run_append_nil (P := Tryd.prog) (w := w) t ty e i z ht hi hz ⟨g, 0, none⟩ 1 c (enc y) (by rw [hen, hsz, Nat.one_mul]) hca (by omega) (by omega) (by simp at hb1; omega)
      refine ⟨_, _, hr, ?_⟩
      have := hout 0 _ _ rfl rfl
      simpa [flt] using this
    | some G =>
      have hr := run_append_grow (P := Tryd.prog) (w := w) t ty e i z ht hi hz G 0 0 [] (by simp) (by simp) ⟨g, 0, none⟩ 1 c (enc y) (by rw [hen, hsz, Nat.one_mul]) hca (by omega) (by omega) (growslice_fits (by omega) (by simpa using hb1))
      refine ⟨_, _, hr, ?_⟩
      have := hout 0 _ _ rfl rfl
      simpa [flt] using this
  · have hb : b < w.heap.size := (Array.getElem?_eq_some_iff.1 hg).1
    by_cases hroom : xs.length + 1 ≤ cap
    · have hfit : xs.length * i.size + (enc y).length ≤ cur.size := by rw [hen, hsz, hs, ← Nat.succ_mul]; exact Nat.mul_le_mul_right _ hroom
      have hr := run_append_room (P := Tryd.prog) (w := w) t ty e i ht hi b xs.length cap cur hg ⟨g, 0, none⟩ 1 c (enc y) (by rw [hen, hsz, Nat.one_mul]) hca (hone y) hroom hfit
      have hl1 : (cur.toList.take (xs.length * sz)).length = xs.length * sz := by rw [htk, flt_length hen]
      refine ⟨_, _, hr, [b], ⟨_, cap, by simp, by simpa using hroom, h3, .inr ⟨b, _, rfl, rfl, setRow_heap w b cur _ e _ hg, ?_, ?_⟩⟩, by simp, ⟨rfl, rfl, rfl, by simp, fun k _ hk => setRow_other w b k _ (fun e => hk (by simp [e]))⟩⟩
      · rw [hsz, hen] at hfit ⊢
        simp only [List.size_toArray, List.length_append, List.length_drop, Array.length_toList, hl1, hen]
        omega
      · rw [hfl, hsz]
        have hl : (flt enc xs ++ enc y).length = (xs ++ [y]).length * sz := by rw [List.length_append, flt_length hen, hen, List.length_append, Nat.add_mul]; simp
        rw [htk, ← hl]
        exact List.take_left
    · have hown : w.ownsRow b e sz (.slice (some ⟨b, 0, none⟩) xs.length cap) xs.length (flt enc xs) := ⟨flt_length hen xs, .inr ⟨b, cap, cur, rfl, Nat.le_refl _, hg, h2, h3, hs, htk⟩⟩
      have holds : ∀ j u, (flt enc xs)[j]? = some u → w.cell? ((⟨b, 0, none⟩ : Addr).add j) = some u := hown.cells (g := b) rfl
      have hr := run_append_grow (P := Tryd.prog) (w := w) t ty e i z ht hi hz ⟨b, 0, none⟩ xs.length cap (flt enc xs) (by rw [flt_length hen, hsz]) holds ⟨g, 0, none⟩ 1 c (enc y) (by rw [hen, hsz, Nat.one_mul]) hca (by omega) (by omega) (growslice_fits (by omega) hb1)
      refine ⟨_, _, hr, ?_⟩
      have := hout cap _ _ rfl rfl
      simpa using this

end Go.Proofs.YtbbemeaojmfndaaDoor
namespace Go.Proofs.YtbbemeaojmfndaaDoor
open Go.RowKit

/-- A row of expressions: none, or one with its parts, and the row behind it. -/
inductive Fo where
  | nil : Fo
  | cons (op : Int) (a : ByteArray) (ks : Fo) (r : Fo) : Fo
structure Ex where
  op : Int
  a : ByteArray
  ks : Fo
def Fo.list : Fo → List Ex
  | .nil => []
  | .cons o a k r => ⟨o, a, k⟩ :: r.list
def Fo.of : List Ex → Fo
  | [] => .nil
  | e :: l => .cons e.op e.a e.ks (Fo.of l)
theorem Fo.list_of (l : List Ex) : (Fo.of l).list = l := by
  induction l with
  | nil => rfl
  | cons e l ih => simp only [Fo.of, Fo.list, ih]
theorem Fo.of_list (f : Fo) : Fo.of f.list = f := by
  induction f with
  | nil => rfl
  | cons o a k r _ ih => simp only [Fo.of, Fo.list, ih]
/-- How many expressions there are, at all levels. -/
def Fo.size : Fo → Nat
  | .nil => 0
  | .cons _ _ k r => k.size + r.size + 1
def Fo.app : Fo → Fo → Fo
  | .nil, g => g
  | .cons o a k r, g => .cons o a k (r.app g)
theorem Fo.list_app (f g : Fo) : (f.app g).list = f.list ++ g.list := by
  induction f with
  | nil => rfl
  | cons o a k r _ ih => simp only [Fo.app, Fo.list, ih]; rfl
theorem Fo.size_app (f g : Fo) : (f.app g).size = f.size + g.size := by
  induction f with
  | nil => simp [Fo.app, Fo.size]
  | cons o a k r _ ih => simp only [Fo.app, Fo.size, ih]; omega
theorem Fo.len_le (f : Fo) : f.list.length ≤ f.size := by
  induction f with
  | nil => exact Nat.le_refl _
  | cons o a k r _ ih => simp only [Fo.list, Fo.size, List.length_cons]; omega
/-- A row parts at each place. -/
theorem Fo.part (f : Fo) (k : Nat) (hk : k < f.list.length) : ∃ (g : Fo) (e : Ex) (h : Fo), f = g.app (.cons e.op e.a e.ks h) ∧ g.list.length = k ∧ e = f.list[k] := by
  induction f generalizing k with
  | nil => simp [Fo.list] at hk
  | cons o a ks r _ ih =>
    cases k with
    | zero => exact ⟨.nil, ⟨o, a, ks⟩, r, rfl, rfl, rfl⟩
    | succ k =>
      obtain ⟨g, e, h, h1, h2, h3⟩ := ih k (by simpa [Fo.list] using hk)
      refine ⟨.cons o a ks g, e, h, by rw [h1]; rfl, by simp [Fo.list, h2], ?_⟩
      rw [h3]; simp [Fo.list]
theorem Fo.size_get (f : Fo) (k : Nat) (hk : k < f.list.length) : f.list[k].ks.size < f.size := by
  obtain ⟨g, e, h, h1, _, h3⟩ := f.part k hk
  rw [← h3]
  have : f.size = (g.app (.cons e.op e.a e.ks h)).size := by rw [← h1]
  rw [this, Fo.size_app]
  simp only [Fo.size]; omega
def Ex.Ok (e : Ex) : Prop := I64 e.op ∧ e.a.size ≤ maxLen
def Fo.Ok : Fo → Prop
  | .nil => True
  | .cons o a k r => I64 o ∧ a.size ≤ maxLen ∧ k.Ok ∧ r.Ok
theorem Fo.ok_get (f : Fo) (h : f.Ok) (k : Nat) (hk : k < f.list.length) : I64 f.list[k].op ∧ f.list[k].a.size ≤ maxLen ∧ f.list[k].ks.Ok := by
  induction f generalizing k with
  | nil => simp [Fo.list] at hk
  | cons o a ks r _ ih =>
    obtain ⟨h1, h2, h3, h4⟩ := h
    cases k with
    | zero => exact ⟨h1, h2, h3⟩
    | succ k => simpa [Fo.list] using ih h4 k (by simpa [Fo.list] using hk)

/-- The row's cells, from a place on; its parts' rows lie below B. -/
def Fo.Row (B : Nat) (w : World) : Fo → Nat → Nat → Prop
  | .nil, _, _ => True
  | .cons o a k r, b, off => w.cell? ⟨b, off, none⟩ = some (.int .i64 o) ∧ w.cell? ⟨b, off + 1, none⟩ = some (.string a) ∧
      (∃ (p : Option Addr) (cap : Nat), w.cell? ⟨b, off + 2, none⟩ = some (.slice p k.list.length cap) ∧ k.list.length ≤ cap ∧ cap ≤ maxLen ∧
        (k.list = [] ∨ ∃ b' off', p = some ⟨b', off', none⟩ ∧ b' < B ∧ Fo.Row B w k b' off')) ∧ Fo.Row B w r b (off + 3)
/-- The slice v reads as the row f. -/
def Fo.In (B : Nat) (w : World) (f : Fo) (v : Value) : Prop :=
  ∃ (p : Option Addr) (cap : Nat), v = .slice p f.list.length cap ∧ f.list.length ≤ cap ∧ cap ≤ maxLen ∧ (f.list = [] ∨ ∃ b off, p = some ⟨b, off, none⟩ ∧ b < B ∧ f.Row B w b off)
theorem Fo.row_cons {B : Nat} {w : World} {o : Int} {a : ByteArray} {k r : Fo} {b off : Nat} :
    (Fo.cons o a k r).Row B w b off ↔ w.cell? ⟨b, off, none⟩ = some (.int .i64 o) ∧ w.cell? ⟨b, off + 1, none⟩ = some (.string a) ∧ (∃ v, w.cell? ⟨b, off + 2, none⟩ = some v ∧ k.In B w v) ∧ r.Row B w b (off + 3) := by
  constructor
  · rintro ⟨h1, h2, ⟨p, cap, h3, h4⟩, h5⟩; exact ⟨h1, h2, ⟨_, h3, p, cap, rfl, h4⟩, h5⟩
  · rintro ⟨h1, h2, ⟨_, h3, p, cap, rfl, h4⟩, h5⟩; exact ⟨h1, h2, ⟨p, cap, h3, h4⟩, h5⟩
theorem Fo.Row.below {B B' : Nat} {w w' : World} (hb : Below B w w') (hB : B ≤ B') {f : Fo} : ∀ {b off : Nat}, b < B → f.Row B w b off → f.Row B' w' b off := by
  induction f with
  | nil => intro b off _ _; trivial
  | cons o a k r ihk ihr =>
    intro b off hlt h
    obtain ⟨h1, h2, ⟨p, cap, h3, h4, h5, h6⟩, h7⟩ := h
    refine ⟨keepc hb hlt h1, keepc hb hlt h2, ⟨p, cap, keepc hb hlt h3, h4, h5, ?_⟩, ihr hlt h7⟩
    rcases h6 with h6 | ⟨b', off', e, hl, h6⟩
    · exact .inl h6
    · exact .inr ⟨b', off', e, by omega, ihk hl h6⟩
theorem Fo.In.below {B B' : Nat} {w w' : World} {f : Fo} {v : Value} (h : f.In B w v) (hb : Below B w w') (hB : B ≤ B') : f.In B' w' v := by
  obtain ⟨p, cap, h1, h2, h3, h4⟩ := h
  refine ⟨p, cap, h1, h2, h3, ?_⟩
  rcases h4 with h4 | ⟨b, off, e, hl, h4⟩
  · exact .inl h4
  · exact .inr ⟨b, off, e, by omega, h4.below hb hB hl⟩
theorem Fo.In.form {B : Nat} {w : World} {f : Fo} {v : Value} (h : f.In B w v) : ∃ p cap, v = .slice p f.list.length cap := by
  obtain ⟨p, cap, h1, _⟩ := h; exact ⟨p, cap, h1⟩
theorem Fo.In.max {B : Nat} {w : World} {f : Fo} {p : Option Addr} {n cap : Nat} (h : f.In B w (.slice p n cap)) : n = f.list.length ∧ n ≤ cap ∧ cap ≤ maxLen := by
  obtain ⟨p', cap', h1, h2, h3, _⟩ := h
  cases h1; exact ⟨rfl, h2, h3⟩
theorem Fo.Row.get {B : Nat} {w : World} {f : Fo} : ∀ {b off : Nat}, f.Row B w b off → ∀ (k : Nat) (hk : k < f.list.length),
    w.cell? ⟨b, off + k * 3, none⟩ = some (.int .i64 f.list[k].op) ∧ w.cell? ⟨b, off + k * 3 + 1, none⟩ = some (.string f.list[k].a) ∧ ∃ v, w.cell? ⟨b, off + k * 3 + 2, none⟩ = some v ∧ f.list[k].ks.In B w v := by
  induction f with
  | nil => intro b off _ k hk; simp [Fo.list] at hk
  | cons o a ks r _ ih =>
    intro b off h k hk
    obtain ⟨h1, h2, h3, h4⟩ := Fo.row_cons.1 h
    cases k with
    | zero => rw [Nat.zero_mul, Nat.add_zero]; exact ⟨h1, h2, h3⟩
    | succ k =>
      have := ih h4 k (by simpa [Fo.list] using hk)
      rw [show off + 3 + k * 3 = off + (k + 1) * 3 by omega] at this
      simpa [Fo.list] using this
/-- An element's cells, at an index. -/
theorem Fo.In.get {B : Nat} {w : World} {f : Fo} {p : Option Addr} {n cap : Nat} (h : f.In B w (.slice p n cap)) (k : Nat) (hk : k < f.list.length) :
    ∃ b off q m c, p = some ⟨b, off, none⟩ ∧ b < B ∧ w.cell? ⟨b, off + k * 3, none⟩ = some (.int .i64 f.list[k].op) ∧ w.cell? ⟨b, off + k * 3 + 1, none⟩ = some (.string f.list[k].a) ∧
      w.cell? ⟨b, off + k * 3 + 2, none⟩ = some (.slice q m c) ∧ f.list[k].ks.In B w (.slice q m c) := by
  obtain ⟨p', cap', h1, h2, h3, h4⟩ := h
  cases h1
  rcases h4 with h4 | ⟨b, off, e, hl, h4⟩
  · rw [h4] at hk; simp at hk
  · obtain ⟨g1, g2, v, g3, g4⟩ := h4.get k hk
    obtain ⟨q, c, rfl⟩ := g4.form
    exact ⟨b, off, q, _, c, e, hl, g1, g2, g3, g4⟩
/-- The value of a struct Expr. -/
def Ex.At (e : Ex) (B : Nat) (w : World) (v : Value) : Prop := ∃ k, v = .agg #[.int .i64 e.op, .string e.a, k] ∧ e.ks.In B w k
theorem Ex.At.below {e : Ex} {B B' : Nat} {w w' : World} {v : Value} (h : e.At B w v) (hb : Below B w w') (hB : B ≤ B') : e.At B' w' v := by
  obtain ⟨k, h1, h2⟩ := h; exact ⟨k, h1, h2.below hb hB⟩
theorem Fo.of_row {B : Nat} {w : World} {b : Nat} (l : List Ex) : ∀ (off : Nat), (∀ (i : Nat) (h : i < l.length), w.cell? ⟨b, off + i * 3, none⟩ = some (.int .i64 l[i].op) ∧ w.cell? ⟨b, off + i * 3 + 1, none⟩ = some (.string l[i].a) ∧ ∃ v, w.cell? ⟨b, off + i * 3 + 2, none⟩ = some v ∧ l[i].ks.In B w v) →
    (Fo.of l).Row B w b off := by
  induction l with
  | nil => intro off _; trivial
  | cons e l ih =>
    intro off h
    have h0 := h 0 (by simp)
    simp only [List.getElem_cons_zero, Nat.zero_mul, Nat.add_zero] at h0
    refine Fo.row_cons.2 ⟨h0.1, h0.2.1, h0.2.2, ih (off + 3) fun i hi => ?_⟩
    have := h (i + 1) (by simpa using hi)
    rw [show off + (i + 1) * 3 = off + 3 + i * 3 by omega] at this
    simpa using this

/-- The row's cells by their places; its parts' rows are memory of the call's own, in the blocks F. -/
def Fo.ORow (w : World) : Fo → (Nat → Option Value) → List Nat → Prop
  | .nil, _, F => F = []
  | .cons o a k r, c, F => c 0 = some (.int .i64 o) ∧ c 1 = some (.string a) ∧ ∃ (p : Option Addr) (cap : Nat) (F1 F2 : List Nat), F = F1 ++ F2 ∧ (∀ x ∈ F1, x ∉ F2) ∧
      c 2 = some (.slice p k.list.length cap) ∧ k.list.length ≤ cap ∧ cap ≤ maxLen ∧
      ((k.list = [] ∧ F1 = []) ∨ ∃ b F', p = some ⟨b, 0, none⟩ ∧ F1 = b :: F' ∧ b ∉ F' ∧ b < w.heap.size ∧ (∀ o, w.frozen? ⟨b, o, none⟩ = false) ∧ Fo.ORow w k (fun i => w.cell? ⟨b, i, none⟩) F') ∧
      Fo.ORow w r (fun i => c (i + 3)) F2
/-- The slice v is the row f in memory of the call's own: not frozen, in the blocks F. -/
def Fo.Own (w : World) (f : Fo) (v : Value) (F : List Nat) : Prop :=
  ∃ (p : Option Addr) (cap : Nat), v = .slice p f.list.length cap ∧ f.list.length ≤ cap ∧ cap ≤ maxLen ∧
    ((f.list = [] ∧ F = []) ∨ ∃ b F', p = some ⟨b, 0, none⟩ ∧ F = b :: F' ∧ b ∉ F' ∧ b < w.heap.size ∧ (∀ o, w.frozen? ⟨b, o, none⟩ = false) ∧ f.ORow w (fun i => w.cell? ⟨b, i, none⟩) F')
theorem Fo.orow_cons {w : World} {o : Int} {a : ByteArray} {k r : Fo} {c : Nat → Option Value} {F : List Nat} :
    (Fo.cons o a k r).ORow w c F ↔ c 0 = some (.int .i64 o) ∧ c 1 = some (.string a) ∧ ∃ v F1 F2, F = F1 ++ F2 ∧ (∀ x ∈ F1, x ∉ F2) ∧ c 2 = some v ∧ k.Own w v F1 ∧ r.ORow w (fun i => c (i + 3)) F2 := by
  constructor
  · rintro ⟨h1, h2, p, cap, F1, F2, h3, h4, h5, h6, h7, h8, h9⟩; exact ⟨h1, h2, _, F1, F2, h3, h4, h5, ⟨p, cap, rfl, h6, h7, h8⟩, h9⟩
  · rintro ⟨h1, h2, _, F1, F2, h3, h4, h5, ⟨p, cap, rfl, h6, h7, h8⟩, h9⟩; exact ⟨h1, h2, p, cap, F1, F2, h3, h4, h5, h6, h7, h8, h9⟩
theorem Fo.ORow.lt {w : World} {f : Fo} : ∀ {c : Nat → Option Value} {F : List Nat}, f.ORow w c F → ∀ x ∈ F, x < w.heap.size := by
  induction f with
  | nil => intro c F h; cases h; simp
  | cons o a k r ihk ihr =>
    intro c F h x hx
    obtain ⟨h1, h2, p, cap, F1, F2, rfl, h4, h5, h6, h7, h8, h9⟩ := h
    rcases List.mem_append.1 hx with hx | hx
    · rcases h8 with ⟨_, rfl⟩ | ⟨b, F', e, rfl, h10, h11, h12, h13⟩
      · simp at hx
      · rcases List.mem_cons.1 hx with rfl | hx
        · exact h11
        · exact ihk h13 x hx
    · exact ihr h9 x hx
theorem Fo.Own.lt {w : World} {f : Fo} {v : Value} {F : List Nat} (h : f.Own w v F) : ∀ x ∈ F, x < w.heap.size := by
  obtain ⟨p, cap, h1, h2, h3, h4⟩ := h
  rcases h4 with ⟨_, rfl⟩ | ⟨b, F', e, rfl, h5, h6, h7, h8⟩
  · simp
  · intro x hx
    rcases List.mem_cons.1 hx with rfl | hx
    · exact h6
    · exact h8.lt x hx
theorem Fo.ORow.row {w : World} {f : Fo} : ∀ {b off : Nat} {c : Nat → Option Value} {F : List Nat}, f.ORow w c F → (∀ i, i < f.list.length * 3 → c i = w.cell? ⟨b, off + i, none⟩) → f.Row w.heap.size w b off := by
  induction f with
  | nil => intros; trivial
  | cons o a k r ihk ihr =>
    intro b off c F h hc
    obtain ⟨h1, h2, p, cap, F1, F2, h3, h4, h5, h6, h7, h8, h9⟩ := h
    simp only [Fo.list, List.length_cons] at hc
    refine ⟨(hc 0 (by omega)).symm.trans h1, (hc 1 (by omega)).symm.trans h2, ⟨p, cap, (hc 2 (by omega)).symm.trans h5, h6, h7, ?_⟩, ihr h9 fun i hi => ?_⟩
    · rcases h8 with ⟨h8, _⟩ | ⟨b', F', e, h10, h11, h12, h13, h14⟩
      · exact .inl h8
      · exact .inr ⟨b', 0, e, h12, ihk h14 fun i _ => by rw [Nat.zero_add]⟩
    · rw [hc (i + 3) (by omega), show off + 3 + i = off + (i + 3) by omega]
theorem Fo.Own.in {w : World} {f : Fo} {v : Value} {F : List Nat} (h : f.Own w v F) : f.In w.heap.size w v := by
  obtain ⟨p, cap, h1, h2, h3, h4⟩ := h
  refine ⟨p, cap, h1, h2, h3, ?_⟩
  rcases h4 with ⟨h4, _⟩ | ⟨b, F', e, _, _, h6, h7, h8⟩
  · exact .inl h4
  · exact .inr ⟨b, 0, e, h6, h8.row fun i _ => by rw [Nat.zero_add]⟩
theorem Fo.ORow.chg {w w' : World} {G : List Nat} (hc : Chg G w w') {f : Fo} : ∀ {c c' : Nat → Option Value} {F : List Nat}, f.ORow w c F → (∀ x ∈ F, x ∉ G) → (∀ i, i < f.list.length * 3 → c' i = c i) → f.ORow w' c' F := by
  induction f with
  | nil => intro c c' F h _ _; exact h
  | cons o a k r ihk ihr =>
    intro c c' F h hd he
    obtain ⟨h1, h2, p, cap, F1, F2, rfl, h4, h5, h6, h7, h8, h9⟩ := h
    simp only [Fo.list, List.length_cons] at he
    refine ⟨(he 0 (by omega)).trans h1, (he 1 (by omega)).trans h2, p, cap, F1, F2, rfl, h4, (he 2 (by omega)).trans h5, h6, h7, ?_, ihr h9 (fun x hx => hd x (List.mem_append_right _ hx)) fun i hi => he (i + 3) (by omega)⟩
    rcases h8 with h8 | ⟨b, F', e, rfl, h10, h11, h12, h13⟩
    · exact .inl h8
    · have hb := hc.block b h11 (hd b (by simp))
      refine .inr ⟨b, F', e, rfl, h10, Nat.lt_of_lt_of_le h11 hc.size, fun o => (World.frozen?_of_block (w := w) (a := ⟨b, o, none⟩) hb).trans (h12 o), ihk h13 (fun x hx => hd x (by simp [hx])) fun i _ => World.cell?_of_block (w := w) (a := ⟨b, i, none⟩) hb⟩
theorem Fo.Own.chg {w w' : World} {G : List Nat} {f : Fo} {v : Value} {F : List Nat} (h : f.Own w v F) (hc : Chg G w w') (hd : ∀ x ∈ F, x ∉ G) : f.Own w' v F := by
  obtain ⟨p, cap, h1, h2, h3, h4⟩ := h
  refine ⟨p, cap, h1, h2, h3, ?_⟩
  rcases h4 with h4 | ⟨b, F', e, rfl, h5, h6, h7, h8⟩
  · exact .inl h4
  · have hb := hc.block b h6 (hd b (by simp))
    exact .inr ⟨b, F', e, rfl, h5, Nat.lt_of_lt_of_le h6 hc.size, fun o => (World.frozen?_of_block (w := w) (a := ⟨b, o, none⟩) hb).trans (h7 o), h8.chg hc (fun x hx => hd x (by simp [hx])) fun i _ => World.cell?_of_block (w := w) (a := ⟨b, i, none⟩) hb⟩
theorem Fo.Own.below {w w' : World} {f : Fo} {v : Value} {F : List Nat} (h : f.Own w v F) (hc : Below w.heap.size w w') : f.Own w' v F := h.chg (Chg.of_below hc []) (by simp)
/-- A row is two rows, one behind the other. -/
theorem Fo.orow_app {w : World} {f g : Fo} : ∀ {c : Nat → Option Value} {F : List Nat}, (f.app g).ORow w c F ↔ ∃ F1 F2, F = F1 ++ F2 ∧ (∀ x ∈ F1, x ∉ F2) ∧ f.ORow w c F1 ∧ g.ORow w (fun i => c (i + f.list.length * 3)) F2 := by
  induction f with
  | nil =>
    intro c F
    constructor
    · intro h; exact ⟨[], F, rfl, by simp, rfl, h⟩
    · rintro ⟨F1, F2, rfl, _, h1, h2⟩; cases h1; exact h2
  | cons o a k r _ ih =>
    intro c F
    constructor
    · intro h
      obtain ⟨h1, h2, v, F1, F2, rfl, h4, h5, h6, h7⟩ := Fo.orow_cons.1 h
      obtain ⟨F3, F4, rfl, h8, h9, h10⟩ := ih.1 h7
      refine ⟨F1 ++ F3, F4, (List.append_assoc _ _ _).symm, fun x hx hx4 => ?_, Fo.orow_cons.2 ⟨h1, h2, v, F1, F3, rfl, fun x hx hx3 => h4 x hx (List.mem_append_left _ hx3), h5, h6, h9⟩, ?_⟩
      · rcases List.mem_append.1 hx with hx | hx
        · exact h4 x hx (List.mem_append_right _ hx4)
        · exact h8 x hx hx4
      · have e : (fun i => c (i + (Fo.cons o a k r).list.length * 3)) = fun i => c (i + r.list.length * 3 + 3) := by
          funext i; congr 1; simp [Fo.list]; omega
        rw [e]; exact h10
    · rintro ⟨F1, F2, rfl, hd, h1, h2⟩
      obtain ⟨h3, h4, v, F3, F4, rfl, h6, h7, h8, h9⟩ := Fo.orow_cons.1 h1
      have e : (fun i => c (i + (Fo.cons o a k r).list.length * 3)) = fun i => c (i + r.list.length * 3 + 3) := by
        funext i; congr 1; simp [Fo.list]; omega
      rw [e] at h2
      refine Fo.orow_cons.2 ⟨h3, h4, v, F3, F4 ++ F2, List.append_assoc _ _ _, fun x hx hx2 => ?_, h7, h8, ih.2 ⟨F4, F2, rfl, fun x hx => hd x (List.mem_append_right _ hx), h9, h2⟩⟩
      rcases List.mem_append.1 hx2 with hx2 | hx2
      · exact h6 x hx hx2
      · exact hd x (List.mem_append_left _ hx) hx2
theorem Fo.Own.empty (w : World) : Fo.Own w .nil (.slice none 0 0) [] := ⟨none, 0, rfl, Nat.le_refl _, Nat.zero_le _, .inl ⟨rfl, rfl⟩⟩
end Go.Proofs.YtbbemeaojmfndaaDoor
namespace Go.Proofs.YtbbemeaojmfndaaDoor
open Go.RowKit

/-- P holds in w and in every world in which only new memory has been made since. -/
def Box (w : World) (P : World → Prop) : Prop := ∀ w', Below w.heap.size w w' → P w'
theorem Box.now {w : World} {P : World → Prop} (h : Box w P) : P w := h w (Below.refl _ _)
theorem Box.step {w w' : World} {P : World → Prop} (h : Box w P) (hb : Below w.heap.size w w') : Box w' P := fun w'' h2 => h w'' (hb.trans (h2.mono hb.size))
theorem Box.and {w : World} {P Q : World → Prop} (h : Box w P) (k : Box w Q) : Box w fun u => P u ∧ Q u := fun u hu => ⟨h u hu, k u hu⟩
theorem Box.imp {w : World} {P Q : World → Prop} (h : Box w P) (k : ∀ u, P u → Q u) : Box w Q := fun u hu => k u (h u hu)
theorem Box.true (w : World) : Box w fun _ => True := fun _ _ => trivial
/-- A cell, and that its block is there. -/
def CellB (b o : Nat) (x : Value) (u : World) : Prop := u.cell? ⟨b, o, none⟩ = some x
theorem Box.cell {w : World} {b o : Nat} {x : Value} (h : w.cell? ⟨b, o, none⟩ = some x) : Box w (CellB b o x) := fun _ hu => keepc hu (World.block_lt_of_cell? w _ h) h
theorem CellB.lt {w : World} {b o : Nat} {x : Value} (h : CellB b o x w) : b < w.heap.size := World.block_lt_of_cell? w _ h
theorem Box.below {w w' : World} {B : Nat} (h : Below B w w') (hB : B ≤ w.heap.size) : Box w' (Below B w) := fun _ hu => h.trans (hu.mono (Nat.le_trans hB h.size))
theorem Box.since {B : Nat} {w w' : World} (h : Below B w w') (hB : B ≤ w'.heap.size) : Box w' (Below B w) := fun _ hu => h.trans (hu.mono hB)
theorem Box.size {w : World} {n : Nat} (h : n ≤ w.heap.size) : Box w fun u => n ≤ u.heap.size := fun _ hu => Nat.le_trans h hu.size
theorem Box.gr {w : World} {g : Gr} {B : Nat} {v : Value} (h : g.At B w v) (hB : B ≤ w.heap.size) : Box w fun u => g.At B u v := fun _ hu => h.below (hu.mono hB)
/-- A graph in memory of the call's own, in the blocks F. -/
def Gr.Has (g : Gr) (v : Value) (F : List Nat) (u : World) : Prop := ∃ F1 F2, F = F1 ++ F2 ∧ g.Own 0 u v F1 F2
theorem Box.grHas {w : World} {g : Gr} {v : Value} {F : List Nat} (h : g.Has v F w) : Box w (g.Has v F) := by
  obtain ⟨F1, F2, e, h⟩ := h
  exact fun _ hu => ⟨F1, F2, e, h.below hu⟩
theorem Gr.Has.at {g : Gr} {v : Value} {F : List Nat} {w : World} (h : g.Has v F w) : g.At w.heap.size w v := by
  obtain ⟨F1, F2, e, h⟩ := h
  exact h.at
theorem Gr.Own.has {g : Gr} {lo : Nat} {v : Value} {F1 F2 : List Nat} {w : World} (h : g.Own lo w v F1 F2) : g.Has v (F1 ++ F2) w := ⟨F1, F2, rfl, h.mono (Nat.zero_le _)⟩
theorem Gr.Own.lo {g : Gr} {lo : Nat} {v : Value} {F1 F2 : List Nat} {w : World} (h : g.Own lo w v F1 F2) : ∀ x ∈ F1 ++ F2, lo ≤ x ∧ x < w.heap.size := by
  have hl := h.lt
  obtain ⟨a, b, e1, e2, e3, e4, e5, e6⟩ := h
  intro x hx
  rcases List.mem_append.1 hx with hx | hx
  · exact ⟨e4 x hx, hl.1 x hx⟩
  · exact ⟨e5 x hx, hl.2 x hx⟩
theorem Gr.Has.chg {g : Gr} {v : Value} {F G : List Nat} {w w' : World} (h : g.Has v F w) (hc : Chg G w w') (hd : ∀ x ∈ F, x ∉ G) : g.Has v F w' := by
  obtain ⟨F1, F2, rfl, h⟩ := h
  exact ⟨F1, F2, rfl, h.chg hc (fun x hx => hd x (List.mem_append_left _ hx)) (fun x hx => hd x (List.mem_append_right _ hx))⟩
/-- An expression in memory of the call's own. -/
def Ex.Has (e : Ex) (v : Value) (F : List Nat) (u : World) : Prop := ∃ k, v = .agg #[.int .i64 e.op, .string e.a, k] ∧ e.ks.Own u k F
theorem Box.ex {w : World} {e : Ex} {B : Nat} {v : Value} (h : e.At B w v) (hB : B ≤ w.heap.size) : Box w fun u => e.At B u v := fun _ hu => h.below (hu.mono hB) (Nat.le_refl _)
theorem Box.exHas {w : World} {e : Ex} {v : Value} {F : List Nat} (h : e.Has v F w) : Box w (e.Has v F) := by
  obtain ⟨k, e, h⟩ := h
  exact fun _ hu => ⟨k, e, h.below hu⟩
theorem Ex.Has.at {e : Ex} {v : Value} {F : List Nat} {w : World} (h : e.Has v F w) : e.At w.heap.size w v := by
  obtain ⟨k, e, h⟩ := h
  exact ⟨k, e, h.in⟩
theorem Ex.Has.chg {e : Ex} {v : Value} {F G : List Nat} {w w' : World} (h : e.Has v F w) (hc : Chg G w w') (hd : ∀ x ∈ F, x ∉ G) : e.Has v F w' := by
  obtain ⟨k, e, h⟩ := h
  exact ⟨k, e, h.chg hc hd⟩
theorem Box.chgCell {w w' : World} {b o : Nat} {x : Value} {G : List Nat} (hc : Chg G w w') (hb : b ∉ G) (h : CellB b o x w) : CellB b o x w' :=
  (World.cell?_of_block (w := w) (a := ⟨b, o, none⟩) (hc.block b (World.block_lt_of_cell? w _ h) hb)).trans h
end Go.Proofs.YtbbemeaojmfndaaDoor
namespace Go.Proofs.YtbbemeaojmfndaaDoor
open Go.RowKit Go.MapKept

/-- A block of cells that is there, none of them frozen. -/
def Alive (w : World) (b : Nat) : Prop := ∃ c T f, w.heap[b]? = some (.cells c T f) ∧ ∀ o, w.frozen? ⟨b, o, none⟩ = false
theorem Alive.lt {w : World} {b : Nat} (h : Alive w b) : b < w.heap.size := by
  obtain ⟨c, T, f, h, _⟩ := h; exact (Array.getElem?_eq_some_iff.1 h).1
theorem Alive.of_block {w w' : World} {b : Nat} (h : Alive w b) (e : w'.heap[b]? = w.heap[b]?) : Alive w' b := by
  obtain ⟨c, T, f, h1, h2⟩ := h
  refine ⟨c, T, f, e.trans h1, fun o => ?_⟩
  rw [← h2 o]; unfold World.frozen?; simp only [e]
theorem Alive.of_cell {w : World} {b o : Nat} {x : Value} (h : w.cell? ⟨b, o, none⟩ = some x) (hf : ∀ o, w.frozen? ⟨b, o, none⟩ = false) : Alive w b := by
  unfold World.cell? at h
  cases hb : w.heap[b]? with
  | none => simp [hb] at h
  | some ob => cases ob <;> simp [hb] at h; exact ⟨_, _, _, hb, hf⟩
theorem Alive.below {B : Nat} {w w' : World} {b : Nat} (h : Alive w b) (hb : Below B w w') (hB : b < B) : Alive w' b := h.of_block (hb.block b hB)

theorem run_sameAddr_alive {P : Program} (w : World) {a b : Addr} (hne : a ≠ b) (ha : Alive w a.block) (hb : Alive w b.block) : (sameAddr a b).run P w = .ok false w := by
  by_cases hbl : a.block = b.block
  · simp [sameAddr, hbl, hne]
  · obtain ⟨ca, ta, fa, ha1, ha2⟩ := ha
    obtain ⟨cb, tb, fb, hb1, hb2⟩ := hb
    have fz : ∀ (x : Addr), (∀ o, w.frozen? ⟨x.block, o, none⟩ = false) → ∀ o s, w.frozen? ⟨x.block, o, s⟩ = false := fun x h o s => h o
    have fa' : ∀ o s, w.frozen? ⟨a.block, o, s⟩ = false := fun o s => ha2 o
    have fb' : ∀ o s, w.frozen? ⟨b.block, o, s⟩ = false := fun o s => hb2 o
    have fa0 : w.frozen? a = false := fa' a.off a.spot
    have fb0 : w.frozen? b = false := fb' b.off b.spot
    simp [sameAddr, hbl, fa0, fb0, noView, viewAt, World.shape?, mayBeOne, stringish, ha1, hb1, fa', fb']
theorem run_sameAddr_dec {P : Program} (w : World) {a b : Addr} (ha : Alive w a.block) (hb : Alive w b.block) : (sameAddr a b).run P w = .ok (decide (a = b)) w := by
  by_cases h : a = b
  · subst h; simp [run_sameAddr_same]
  · simp [h, run_sameAddr_alive w h ha hb]

/-- What the laws need of the type of a pair of pointers. -/
structure PairTy (P : Program) (k p q : TypeId) : Prop where
  und : P.underlying k = some (.struct (P.fieldsOf k))
  ptr : P.underlying p = some (.pointer q)
  fields : (P.fieldsOf k).toList.map (fun f => (f.name == "_", f.type, f.offset)) = [(false, p, 0), (false, p, 1)]
  info : (P.info? q).isSome = true
  size : P.cellsOf q ≠ 0
  stood : P.stoodInHeld k = false

/-- Two addresses of the same part of two trees. -/
abbrev Pa := Addr × Addr
def pairV (x : Pa) : Value := .agg #[.pointer (some x.1), .pointer (some x.2)]
def PAlive (w : World) (x : Pa) : Prop := Alive w x.1.block ∧ Alive w x.2.block
theorem PAlive.of_block {w w' : World} {x : Pa} (h : PAlive w x) (e : ∀ b, Alive w b → w'.heap[b]? = w.heap[b]?) : PAlive w' x := ⟨h.1.of_block (e _ h.1), h.2.of_block (e _ h.2)⟩

section
variable {P : Program} {k p q : TypeId}
theorem PairTy.two (T : PairTy P k p q) : ∃ f g, (P.fieldsOf k).toList = [f, g] ∧ f.name ≠ "_" ∧ g.name ≠ "_" ∧ f.type = p ∧ g.type = p ∧ f.offset = 0 ∧ g.offset = 1 := by
  have h := T.fields
  match hl : (P.fieldsOf k).toList, h with
  | [f, g], h =>
    simp at h
    exact ⟨f, g, rfl, h.1.1, h.2.1, h.1.2.1, h.2.2.1, h.1.2.2, h.2.2.2⟩
  | [], h => simp at h
  | [_], h => simp at h
  | _ :: _ :: _ :: _, h => simp at h
theorem run_part_ptr (T : PairTy P k p q) (w : World) {xs : Array Value} {off : Nat} {v : Value} (hx : xs[off]? = some v) : (part p xs off).run P w = .ok v w := by
  simp [part, isAgg, run_underlying T.ptr, hx]
theorem run_equalIn_ptr (T : PairTy P k p q) (w : World) (d : Nat) {a b : Addr} (ha : Alive w a.block) (hb : Alive w b.block) :
    (Op.equalIn (d + 1) p (.pointer (some a)) (.pointer (some b))).run P w = .ok (decide (a = b)) w := by
  obtain ⟨i, hi⟩ := Option.isSome_iff_exists.1 T.info
  have hs := T.size
  have hz : i.size ≠ 0 := by simpa [Program.cellsOf, hi] using hs
  simp [Op.equalIn, run_underlying T.ptr, sizeOf, typeInfo, hi, hz, run_sameAddr_dec w ha hb]
theorem run_equal_pair (T : PairTy P k p q) (w : World) {x y : Pa} (hx : PAlive w x) (hy : PAlive w y) : (Op.equal k (pairV x) (pairV y)).run P w = .ok (decide (x = y)) w := by
  obtain ⟨f, g, hl, f1, g1, f2, g2, f3, g3⟩ := T.two
  unfold Op.equal Op.maxDepth pairV
  rw [show (10000 : Nat) = 9998 + 1 + 1 from rfl, run_equalIn_struct w _ k _ _ T.und T.stood, hl]
  obtain ⟨x1, x2⟩ := x
  obtain ⟨y1, y2⟩ := y
  have p1 := fun (xs : Array Value) (off : Nat) (v : Value) (h : xs[off]? = some v) => run_part_ptr T w h
  have e1 := run_equalIn_ptr T w 9998 hx.1 hy.1
  have e2 := run_equalIn_ptr T w 9998 hx.2 hy.2
  have q1 := p1 #[.pointer (some x1), .pointer (some x2)] 0 _ rfl
  have q2 := p1 #[.pointer (some x1), .pointer (some x2)] 1 _ rfl
  have q3 := p1 #[.pointer (some y1), .pointer (some y2)] 0 _ rfl
  have q4 := p1 #[.pointer (some y1), .pointer (some y2)] 1 _ rfl
  simp only at e1 e2
  by_cases h1 : x1 = y1
  · by_cases h2 : x2 = y2
    · subst h1 h2
      simp at e1 e2
      simp [Op.eqFields, f1, g1, f2, g2, f3, g3, q3, q4, e1, e2, Result.andThen]
    · have e2' : (Op.equalIn (9998 + 1) p (.pointer (some x2)) (.pointer (some y2))).run P w = .ok false w := by rw [e2]; simp [h2]
      have e1' : (Op.equalIn (9998 + 1) p (.pointer (some x1)) (.pointer (some y1))).run P w = .ok true w := by rw [e1]; simp [h1]
      simp [Op.eqFields, f1, g1, f2, g2, f3, g3, q1, q2, q3, q4, e1', e2', Result.andThen, h2]
  · have e1' : (Op.equalIn (9998 + 1) p (.pointer (some x1)) (.pointer (some y1))).run P w = .ok false w := by rw [e1]; simp [h1]
    simp [Op.eqFields, f1, g1, f2, g2, f3, g3, q1, q3, e1', Result.andThen, h1]
theorem run_checkKey_pair (T : PairTy P k p q) (w : World) (em : Bool) (x : Pa) : (Instr.checkKey em 10000 k (pairV x)).run P w = .ok () w := by
  obtain ⟨f, g, hl, f1, g1, f2, g2, f3, g3⟩ := T.two
  have q1 := run_part_ptr T w (xs := #[.pointer (some x.1), .pointer (some x.2)]) (off := 0) rfl
  have q2 := run_part_ptr T w (xs := #[.pointer (some x.1), .pointer (some x.2)]) (off := 1) rfl
  have c1 : ∀ a, (Instr.checkKey em 9999 p (.pointer (some a))).run P w = .ok () w := fun a => by
    rw [show (9999 : Nat) = 9998 + 1 from rfl]; unfold Instr.checkKey; simp [run_underlying T.ptr]
  rw [show (10000 : Nat) = 9999 + 1 from rfl]
  unfold Instr.checkKey pairV
  simp only [Sem.run_bind, run_underlying T.und, Result.andThen_ok]
  rw [← Array.forIn_toList, hl]
  simp [f1, g1, f2, g2, f3, g3, q1, q2, c1, Result.andThen]

theorem findNow_struct (fs : Array Field) (x : Value) (l : List MapEntry) (i : Nat) (h : l ≠ []) : Instr.findNow (.struct fs) x l i = none := by
  cases l with
  | nil => exact absurd rfl h
  | cons e l => simp [Instr.findNow, Instr.sameNow]
/-- Entries at pairs, each with true. -/
def PEnts (w : World) (es : List MapEntry) (S : List Pa) : Prop := (∀ e ∈ es, ∃ y ∈ S, e.key = pairV y ∧ e.val = .bool true) ∧ ∀ y ∈ S, PAlive w y ∧ ∃ e ∈ es, e.key = pairV y
theorem run_findAsking (T : PairTy P k p q) (w : World) {x : Pa} (hx : PAlive w x) (S : List Pa) : ∀ (es : List MapEntry) (i : Nat), (∀ e ∈ es, ∃ y ∈ S, e.key = pairV y ∧ e.val = .bool true) → (∀ y ∈ S, PAlive w y) →
    ((Instr.findAsking k (pairV x) es i).run P w = .ok none w ∧ ∀ e ∈ es, e.key ≠ pairV x) ∨ ((∃ j, (Instr.findAsking k (pairV x) es i).run P w = .ok (some (j, .bool true)) w) ∧ ∃ e ∈ es, e.key = pairV x)
  | [], i, _, _ => .inl ⟨rfl, by simp⟩
  | e :: es, i, h, hS => by
    obtain ⟨y, hy, ek, ev⟩ := h e (by simp)
    have he := run_equal_pair T w hx (hS y hy)
    unfold Instr.findAsking
    rw [ek, ev]
    by_cases hxy : x = y
    · refine .inr ⟨⟨i, ?_⟩, e, by simp, by rw [ek, hxy]⟩
      simp [hxy] at he
      simp [hxy, he, Result.andThen]
    · have he' : (Op.equal k (pairV x) (pairV y)).run P w = .ok false w := by rw [he]; simp [hxy]
      have hne : e.key ≠ pairV x := by
        rw [ek]; intro h0; apply hxy
        obtain ⟨x1, x2⟩ := x; obtain ⟨y1, y2⟩ := y
        simp [pairV] at h0
        rw [h0.1, h0.2]
      rcases run_findAsking T w hx S es (i + 1) (fun e he => h e (by simp [he])) hS with ⟨h1, h2⟩ | ⟨⟨j, h1⟩, e', h2, h3⟩
      · refine .inl ⟨?_, ?_⟩
        · simp [he', h1, Result.andThen]
        · intro e' he'
          rcases List.mem_cons.1 he' with rfl | he'
          · exact hne
          · exact h2 e' he'
      · refine .inr ⟨⟨j, ?_⟩, e', by simp [h2], h3⟩
        simp [he', h1, Result.andThen]
theorem run_findKey_pair (T : PairTy P k p q) (w : World) {x : Pa} (hx : PAlive w x) {S : List Pa} {es : List MapEntry} (h : PEnts w es S) :
    ((Instr.findKey k (pairV x) es).run P w = .ok none w ∧ x ∉ S) ∨ ((∃ j, (Instr.findKey k (pairV x) es).run P w = .ok (some (j, .bool true)) w) ∧ x ∈ S) := by
  have hin : x ∈ S ↔ ∃ e ∈ es, e.key = pairV x := by
    constructor
    · intro hx; exact (h.2 x hx).2
    · rintro ⟨e, he, ek⟩
      obtain ⟨y, hy, ek', _⟩ := h.1 e he
      have : x = y := by
        obtain ⟨x1, x2⟩ := x; obtain ⟨y1, y2⟩ := y
        rw [ek] at ek'; simp [pairV] at ek'
        rw [ek'.1, ek'.2]
      rw [this]; exact hy
  cases es with
  | nil =>
    refine .inl ⟨?_, fun hx => by obtain ⟨e, he, _⟩ := hin.1 hx; simp at he⟩
    simp [Instr.findKey, run_underlying T.und, Instr.findNow, Result.andThen]
  | cons e es =>
    have hn := findNow_struct (P.fieldsOf k) (pairV x) (e :: es) 0 (by simp)
    have hr : (Instr.findKey k (pairV x) (e :: es)).run P w = (Instr.findAsking k (pairV x) (e :: es)).run P w := by
      simp [Instr.findKey, run_underlying T.und, hn, Result.andThen]
    rcases run_findAsking T w hx S (e :: es) 0 h.1 (fun y hy => (h.2 y hy).1) with ⟨h1, h2⟩ | ⟨⟨j, h1⟩, h2⟩
    · exact .inl ⟨hr.trans h1, fun hx => by obtain ⟨e', he', ek⟩ := hin.1 hx; exact h2 e' he' ek⟩
    · exact .inr ⟨⟨j, hr.trans h1⟩, hin.2 h2⟩

/-- Block b is a map with the pairs S, each true. -/
def Seen (w : World) (b : Nat) (S : List Pa) : Prop := ∃ es clock, w.heap[b]? = some (.map es clock) ∧ PEnts w es.toList S
theorem Seen.lt {w : World} {b : Nat} {S : List Pa} (h : Seen w b S) : b < w.heap.size := by
  obtain ⟨es, c, h, _⟩ := h; exact (Array.getElem?_eq_some_iff.1 h).1
theorem Seen.made (w : World) : Seen (w.alloc (.map #[] 0)) w.heap.size [] := ⟨#[], 0, (MapKept.heap_alloc w _).1, by simp [PEnts]⟩
theorem Seen.alive {w : World} {b : Nat} {S : List Pa} (h : Seen w b S) : ∀ y ∈ S, PAlive w y := by
  obtain ⟨es, c, _, h⟩ := h; exact fun y hy => (h.2 y hy).1
theorem Seen.of_blocks {w w' : World} {b : Nat} {S : List Pa} (h : Seen w b S) (hb : w'.heap[b]? = w.heap[b]?) (ha : ∀ y ∈ S, PAlive w' y) : Seen w' b S := by
  obtain ⟨es, c, h, h1, h2⟩ := h
  exact ⟨es, c, hb.trans h, h1, fun y hy => ⟨ha y hy, (h2 y hy).2⟩⟩
theorem run_lookup_seen (T : PairTy P k p q) {t e : TypeId} (ht : P.underlying t = some (.map k e)) (hz : ∀ w, (zeroValue e).run P w = .ok (.bool false) w) {w : World} {b : Nat} {S : List Pa} (h : Seen w b S) {x : Pa} (hx : PAlive w x) :
    (Instr.lookup t (.map (some b)) (pairV x) false).run P w = .ok (.bool (decide (x ∈ S))) w := by
  obtain ⟨es, c, hb, hE⟩ := h
  have hc := run_checkKey_pair T w es.isEmpty x
  rcases run_findKey_pair T w hx hE with ⟨h1, h2⟩ | ⟨⟨j, h1⟩, h2⟩
  · simp [Instr.lookup, run_underlying ht, MapKept.run_getObj_map hb, hc, h1, h2, hz, Result.andThen]
  · simp [Instr.lookup, run_underlying ht, MapKept.run_getObj_map hb, hc, h1, h2, Result.andThen]
theorem run_update_seen (T : PairTy P k p q) {t e : TypeId} (ht : P.underlying t = some (.map k e)) {w : World} {b : Nat} {S : List Pa} (h : Seen w b S) {x : Pa} (hx : PAlive w x) (hn : x ∉ S) :
    ∃ o, (Instr.mapUpdate t (.map (some b)) (pairV x) (.bool true)).run P w = .ok () { w with heap := w.heap.setIfInBounds b o } ∧ Seen { w with heap := w.heap.setIfInBounds b o } b (x :: S) := by
  obtain ⟨es, c, hb, hE⟩ := h
  have hc := run_checkKey_pair T w false x
  rcases run_findKey_pair T w hx hE with ⟨h1, h2⟩ | ⟨⟨j, h1⟩, h2⟩
  · refine ⟨.map (es.push { key := pairV x, val := .bool true, born := c }) (c + 1), ?_, ?_⟩
    · simp [Instr.mapUpdate, run_underlying ht, MapKept.run_getObj_map hb, hc, h1, MapKept.run_setObj_map _ hb, Result.andThen]
    · have hal : ∀ y, PAlive w y → PAlive { w with heap := w.heap.setIfInBounds b (.map (es.push { key := pairV x, val := .bool true, born := c }) (c + 1)) } y := fun y hy => by
        refine hy.of_block fun g hg => (heap_set hb).2 g ?_
        rintro rfl
        obtain ⟨c', T', f', h', _⟩ := hg
        rw [hb] at h'; cases h'
      refine ⟨_, _, (heap_set hb).1, ?_, ?_⟩
      · intro e' he'
        simp only [Array.toList_push, List.mem_append, List.mem_singleton] at he'
        rcases he' with he' | rfl
        · obtain ⟨y, hy, h3⟩ := hE.1 e' he'
          exact ⟨y, by simp [hy], h3⟩
        · exact ⟨x, by simp, rfl, rfl⟩
      · intro y hy
        rcases List.mem_cons.1 hy with rfl | hy
        · exact ⟨hal _ hx, { key := pairV y, val := .bool true, born := c }, by simp, rfl⟩
        · obtain ⟨h3, e', h4, h5⟩ := hE.2 y hy
          exact ⟨hal _ h3, e', by simp [h4], h5⟩
  · exact absurd h2 hn
end

theorem wpList_lookup_seen {P : Program} {k p q : TypeId} (T : PairTy P k p q) (w : World) {ops : Array Oper} {rest : List Oper} {o : Oper} {a : Act} {Q : Exit → Act → World → Prop}
    (hg : o.guard = none) (m y : Operand) (t e : TypeId) (hop : o.op = Op.lookup t m y false) (ht : P.underlying t = some (.map k e)) (hz : ∀ w, (zeroValue e).run P w = .ok (.bool false) w)
    (b : Nat) (S : List Pa) (hm : a.eval m = .map (some b)) (h : Seen w b S) (x : Pa) (hy : a.eval y = pairV x) (hx : PAlive w x)
    (hK : wpList P ops Q rest (a.put o.dst (.bool (decide (x ∈ S)))) w) : wpList P ops Q (o :: rest) a w := by
  refine wpList_plain hg fun K' hK' => ?_
  have hrun := run_lookup_seen T ht hz h hx
  unfold Oper.wp
  simp [execOp, hop, hm, hy, hrun, Result.andThen]
  exact hK' _ _ hK
theorem wpList_update_seen {P : Program} {k p q : TypeId} (T : PairTy P k p q) (w : World) {ops : Array Oper} {rest : List Oper} {o : Oper} {a : Act} {Q : Exit → Act → World → Prop}
    (hg : o.guard = none) (m y v : Operand) (t e : TypeId) (hop : o.op = Op.mapUpdate t m y v) (ht : P.underlying t = some (.map k e))
    (b : Nat) (S : List Pa) (hm : a.eval m = .map (some b)) (h : Seen w b S) (x : Pa) (hy : a.eval y = pairV x) (hv : a.eval v = .bool true) (hx : PAlive w x) (hn : x ∉ S)
    (hK : ∀ w', Seen w' b (x :: S) → w.grownBy w' (some b) → w'.heap.size = w.heap.size → wpList P ops Q rest (a.put o.dst undef) w') : wpList P ops Q (o :: rest) a w := by
  refine wpList_plain hg fun K' hK' => ?_
  have hb : ∃ es c, w.heap[b]? = some (.map es c) := by obtain ⟨es, c, hb, _⟩ := h; exact ⟨es, c, hb⟩
  obtain ⟨es, c, hb⟩ := hb
  obtain ⟨ob, hrun, hs⟩ := run_update_seen T ht h hx hn
  unfold Oper.wp
  simp [execOp, hop, hm, hy, hv, hrun, Result.andThen]
  exact hK' _ _ (hK _ hs ⟨rfl, rfl, rfl, by simp, fun i _ hi => (heap_set hb).2 i (fun e => hi (by rw [e]))⟩ (by simp))
end Go.Proofs.YtbbemeaojmfndaaDoor
namespace Go.Proofs.YtbbemeaojmfndaaDoor
open Go.RowKit

/-- Trees: the parts of a node, whether two nodes agree but for their parts, how many nodes there are. -/
structure Tr (α : Type) where
  kids : α → List α
  top : α → α → Bool
  sz : α → Nat
  hsz : ∀ a, 1 + ((kids a).map sz).sum ≤ sz a
  ext : ∀ a b, top a b = true → kids a = kids b → a = b
  refl : ∀ a, top a a = true
structure Pr (α : Type) where
  p : Addr
  q : Addr
  a : α
  b : α
def Pr.pa {α : Type} (r : Pr α) : Pa := (r.p, r.q)
variable {α : Type}
theorem Tr.kid_lt (T : Tr α) {a x : α} (h : x ∈ T.kids a) : T.sz x < T.sz a := by
  have key : ∀ l : List α, x ∈ l → T.sz x ≤ (l.map T.sz).sum := by
    intro l
    induction l with
    | nil => intro h; simp at h
    | cons y l ih =>
      intro h
      rcases List.mem_cons.1 h with rfl | h
      · simp
      · have := ih h; simp; omega
  have := key _ h; have := T.hsz a; omega
/-- What is held: W are the pairs to look at, S those that have been looked at. -/
structure TInv (T : Tr α) (a0 b0 : α) (W S : List (Pr α)) : Prop where
  eq : a0 = b0 → ∀ r, r ∈ W ∨ r ∈ S → r.a = r.b
  has : ∃ r, (r ∈ W ∨ r ∈ S) ∧ r.a = a0 ∧ r.b = b0
  cl : ∀ r ∈ S, T.top r.a r.b = true ∧ (T.kids r.a).length = (T.kids r.b).length ∧ ∀ (i : Nat) (h : i < (T.kids r.a).length) (h' : i < (T.kids r.b).length), ∃ s, (s ∈ W ∨ s ∈ S) ∧ s.a = (T.kids r.a)[i] ∧ s.b = (T.kids r.b)[i]
theorem TInv.start (T : Tr α) (p q : Addr) (a0 b0 : α) : TInv T a0 b0 [⟨p, q, a0, b0⟩] [] :=
  ⟨fun h r hr => by simp at hr; subst hr; exact h, ⟨⟨p, q, a0, b0⟩, by simp, rfl, rfl⟩, fun r hr => by simp at hr⟩
theorem TInv.skip {T : Tr α} {a0 b0 : α} {W S : List (Pr α)} {r s : Pr α} (h : TInv T a0 b0 (W ++ [r]) S) (hs : s ∈ S) (h1 : s.a = r.a) (h2 : s.b = r.b) : TInv T a0 b0 W S := by
  have mv : ∀ x, (x ∈ W ++ [r] ∨ x ∈ S) → ∃ y, (y ∈ W ∨ y ∈ S) ∧ y.a = x.a ∧ y.b = x.b := by
    intro x hx
    rcases hx with hx | hx
    · rcases List.mem_append.1 hx with hx | hx
      · exact ⟨x, .inl hx, rfl, rfl⟩
      · simp at hx; subst hx; exact ⟨s, .inr hs, h1, h2⟩
    · exact ⟨x, .inr hx, rfl, rfl⟩
  refine ⟨fun he x hx => h.eq he x (by rcases hx with hx | hx; exact .inl (by simp [hx]); exact .inr hx), ?_, fun x hx => ?_⟩
  · obtain ⟨x, hx, e1, e2⟩ := h.has
    obtain ⟨y, hy, e3, e4⟩ := mv x hx
    exact ⟨y, hy, e3.trans e1, e4.trans e2⟩
  · obtain ⟨g1, g2, g3⟩ := h.cl x hx
    refine ⟨g1, g2, fun i hi hi' => ?_⟩
    obtain ⟨z, hz, e1, e2⟩ := g3 i hi hi'
    obtain ⟨y, hy, e3, e4⟩ := mv z hz
    exact ⟨y, hy, e3.trans e1, e4.trans e2⟩
theorem TInv.differ {T : Tr α} {a0 b0 : α} {W S : List (Pr α)} {r : Pr α} (h : TInv T a0 b0 (W ++ [r]) S) (hd : T.top r.a r.b = false ∨ (T.kids r.a).length ≠ (T.kids r.b).length) : a0 ≠ b0 := by
  intro he
  have := h.eq he r (.inl (by simp))
  rw [this] at hd
  rcases hd with hd | hd
  · rw [T.refl] at hd; cases hd
  · exact hd rfl
/-- The parts' pairs: N are they, in their order. -/
def KidPairs (T : Tr α) (r : Pr α) (N : List (Pr α)) : Prop := N.length = (T.kids r.a).length ∧ ∀ (i : Nat) (h : i < N.length), (T.kids r.a)[i]? = some N[i].a ∧ (T.kids r.b)[i]? = some N[i].b
theorem TInv.push {T : Tr α} {a0 b0 : α} {W S N : List (Pr α)} {r : Pr α} (h : TInv T a0 b0 (W ++ [r]) S) (ht : T.top r.a r.b = true) (hl : (T.kids r.a).length = (T.kids r.b).length) (hN : KidPairs T r N) : TInv T a0 b0 (W ++ N) (r :: S) := by
  have mv : ∀ x, (x ∈ W ++ [r] ∨ x ∈ S) → (x ∈ W ++ N ∨ x ∈ r :: S) := by
    intro x hx
    rcases hx with hx | hx
    · rcases List.mem_append.1 hx with hx | hx
      · exact .inl (by simp [hx])
      · simp at hx; subst hx; exact .inr (by simp)
    · exact .inr (by simp [hx])
  refine ⟨fun he x hx => ?_, ?_, fun x hx => ?_⟩
  · have hr := h.eq he r (.inl (by simp))
    rcases hx with hx | hx
    · rcases List.mem_append.1 hx with hx | hx
      · exact h.eq he x (.inl (by simp [hx]))
      · obtain ⟨i, hi, rfl⟩ := List.mem_iff_getElem.1 hx
        obtain ⟨g1, g2⟩ := hN.2 i hi
        rw [hr] at g1
        exact Option.some.inj (g1.symm.trans g2)
    · rcases List.mem_cons.1 hx with rfl | hx
      · exact hr
      · exact h.eq he x (.inr hx)
  · obtain ⟨x, hx, e⟩ := h.has
    exact ⟨x, mv x hx, e⟩
  · rcases List.mem_cons.1 hx with rfl | hx
    · refine ⟨ht, hl, fun i hi hi' => ?_⟩
      have hi2 : i < N.length := by rw [hN.1]; exact hi
      obtain ⟨g1, g2⟩ := hN.2 i hi2
      rw [List.getElem?_eq_getElem hi] at g1
      rw [List.getElem?_eq_getElem hi'] at g2
      exact ⟨N[i], .inl (by simp), (Option.some.inj g1).symm, (Option.some.inj g2).symm⟩
    · obtain ⟨g1, g2, g3⟩ := h.cl x hx
      refine ⟨g1, g2, fun i hi hi' => ?_⟩
      obtain ⟨z, hz, e⟩ := g3 i hi hi'
      exact ⟨z, mv z hz, e⟩
theorem TInv.done {T : Tr α} {a0 b0 : α} {S : List (Pr α)} (h : TInv T a0 b0 [] S) : a0 = b0 := by
  have key : ∀ (n : Nat) (r : Pr α), T.sz r.a < n → r ∈ S → r.a = r.b := by
    intro n
    induction n with
    | zero => intro r h; omega
    | succ n ih =>
      intro r hn hr
      obtain ⟨g1, g2, g3⟩ := h.cl r hr
      refine T.ext _ _ g1 (List.ext_getElem g2 fun i hi hi' => ?_)
      obtain ⟨s, hs, e1, e2⟩ := g3 i hi hi'
      rcases hs with hs | hs
      · simp at hs
      · rw [← e1, ← e2]
        refine ih s ?_ hs
        have := T.kid_lt (a := r.a) (x := s.a) (by rw [e1]; exact List.getElem_mem hi)
        omega
  obtain ⟨r, hr, e1, e2⟩ := h.has
  rcases hr with hr | hr
  · simp at hr
  · rw [← e1, ← e2]; exact key _ r (Nat.lt_succ_self _) hr
/-- How many nodes are still to be looked at. -/
def left (T : Tr α) (W : List (Pr α)) : Nat := (W.map fun r => T.sz r.a).sum
theorem left_append (T : Tr α) (U V : List (Pr α)) : left T (U ++ V) = left T U + left T V := by unfold left; simp
theorem left_one (T : Tr α) (r : Pr α) : left T [r] = T.sz r.a := by unfold left; simp
theorem sz_pos (T : Tr α) (a : α) : 0 < T.sz a := by have := T.hsz a; omega
theorem length_left (T : Tr α) (W : List (Pr α)) : W.length ≤ left T W := by
  induction W with
  | nil => simp
  | cons r W ih => have := sz_pos T r.a; unfold left at *; simp; omega
theorem KidPairs.left {T : Tr α} {r : Pr α} {N : List (Pr α)} (h : KidPairs T r N) : left T N + 1 ≤ T.sz r.a := by
  have e : N.map (fun r => T.sz r.a) = (T.kids r.a).map T.sz := by
    refine List.ext_getElem (by simp [h.1]) fun i hi hi' => ?_
    simp at hi hi'
    obtain ⟨g1, _⟩ := h.2 i hi
    rw [List.getElem?_eq_getElem hi'] at g1
    simp [Option.some.inj g1]
  have h2 := T.hsz r.a; rw [← e] at h2; unfold Proofs.YtbbemeaojmfndaaDoor.left; omega
/-- The pairs of parts in two slices. -/
def mkPairs (sz b b' : Nat) : Nat → Nat → List α → List α → List (Pr α)
  | o, o', x :: l, y :: l' => ⟨⟨b, o, none⟩, ⟨b', o', none⟩, x, y⟩ :: mkPairs sz b b' (o + sz) (o' + sz) l l'
  | _, _, _, _ => []
theorem mkPairs_length (sz b b' : Nat) : ∀ (l l' : List α) (o o' : Nat), l.length = l'.length → (mkPairs sz b b' o o' l l').length = l.length
  | [], _, _, _, _ => by simp [mkPairs]
  | x :: l, [], _, _, h => by simp at h
  | x :: l, y :: l', o, o', h => by simp only [mkPairs, List.length_cons]; rw [mkPairs_length sz b b' l l' _ _ (by simpa using h)]
theorem mkPairs_get (sz b b' : Nat) : ∀ (l l' : List α) (o o' : Nat) (i : Nat) (h1 : i < l.length) (h2 : i < l'.length), (mkPairs sz b b' o o' l l')[i]? = some ⟨⟨b, o + i * sz, none⟩, ⟨b', o' + i * sz, none⟩, l[i], l'[i]⟩
  | [], _, _, _, i, h1, _ => by simp at h1
  | x :: l, [], _, _, i, _, h2 => by simp at h2
  | x :: l, y :: l', o, o', 0, _, _ => by simp [mkPairs]
  | x :: l, y :: l', o, o', i + 1, h1, h2 => by
    simp only [mkPairs, List.getElem?_cons_succ]
    rw [mkPairs_get sz b b' l l' (o + sz) (o' + sz) i (by simpa using h1) (by simpa using h2)]
    rw [show o + sz + i * sz = o + (i + 1) * sz by rw [Nat.add_mul]; omega, show o' + sz + i * sz = o' + (i + 1) * sz by rw [Nat.add_mul]; omega]
    simp
theorem mkPairs_kids (T : Tr α) (r : Pr α) (sz b b' o o' : Nat) (hl : (T.kids r.a).length = (T.kids r.b).length) : KidPairs T r (mkPairs sz b b' o o' (T.kids r.a) (T.kids r.b)) := by
  refine ⟨mkPairs_length sz b b' _ _ o o' hl, fun i hi => ?_⟩
  rw [mkPairs_length sz b b' _ _ o o' hl] at hi
  have h1 := mkPairs_get sz b b' (T.kids r.a) (T.kids r.b) o o' i hi (by omega)
  have h2 : (mkPairs sz b b' o o' (T.kids r.a) (T.kids r.b))[i] = ⟨⟨b, o + i * sz, none⟩, ⟨b', o' + i * sz, none⟩, (T.kids r.a)[i], (T.kids r.b)[i]⟩ := by
    rw [List.getElem?_eq_getElem (by rw [mkPairs_length sz b b' _ _ o o' hl]; exact hi)] at h1
    exact Option.some.inj h1
  rw [h2]
  exact ⟨List.getElem?_eq_getElem hi, List.getElem?_eq_getElem (by omega)⟩
/-- The cells of the pairs. -/
def pcells (r : Pa) : List Value := [.pointer (some r.1), .pointer (some r.2)]
def wcells (W : List (Pr α)) : List Value := W.flatMap fun r => pcells r.pa
theorem wcells_append (U V : List (Pr α)) : wcells (U ++ V) = wcells U ++ wcells V := by unfold wcells; simp
theorem wcells_one (r : Pr α) : wcells [r] = [.pointer (some r.p), .pointer (some r.q)] := by simp [wcells, pcells, Pr.pa]
theorem wcells_length (W : List (Pr α)) : (wcells W).length = W.length * 2 := by
  induction W with
  | nil => rfl
  | cons r W ih => rw [show r :: W = [r] ++ W from rfl, wcells_append, List.length_append, ih]; simp [wcells_one]; omega
theorem wcells_last (W : List (Pr α)) (r : Pr α) : (wcells (W ++ [r]))[W.length * 2]? = some (.pointer (some r.p)) ∧ (wcells (W ++ [r]))[W.length * 2 + 1]? = some (.pointer (some r.q)) := by
  have h := wcells_length W
  rw [wcells_append, wcells_one]
  constructor
  · rw [List.getElem?_append_right (by omega), h]; simp
  · rw [List.getElem?_append_right (by omega), h]; simp
theorem grown_below {w w' : World} {g B : Nat} (h : w.grownBy w' (some g)) (hB : B ≤ g) (hs : B ≤ w.heap.size) : Below B w w' :=
  ⟨h.os, h.tape, h.output, h.size, fun i hi => h.block i (by omega) (fun e => by cases e; omega)⟩
theorem Seen.next {w w' : World} {b : Nat} {S : List Pa} {B : Nat} (h : Seen w b S) (hS : ∀ y ∈ S, y.1.block < B ∧ y.2.block < B) (hb : Below B w w') (he : w'.heap[b]? = w.heap[b]?) : Seen w' b S :=
  h.of_blocks he fun y hy => ⟨(h.alive y hy).1.below hb (hS y hy).1, (h.alive y hy).2.below hb (hS y hy).2⟩
end Go.Proofs.YtbbemeaojmfndaaDoor
namespace Go.Proofs.YtbbemeaojmfndaaDoor

def isD (c : UInt8) : Bool := decide (48 ≤ c.toNat) && decide (c.toNat ≤ 57)
def isS (c : UInt8) : Bool := decide (c.toNat = 60) || (decide (c.toNat = 61) || decide (c.toNat = 62))
/-- A condition: its sign and its number. -/
def condOf : List UInt8 → Option (UInt8 × Nat)
  | [s, d] => if isS s && isD d then some (s, d.toNat - 48) else none
  | [s, d, e] => if isS s && (isD d && (decide (d.toNat ≠ 48) && isD e)) then some (s, 10 * (d.toNat - 48) + (e.toNat - 48)) else none
  | _ => none
def condB (a : ByteArray) : Bool := (condOf a.data.toList).isSome
def atomB (kind : Int) (a : ByteArray) : Bool := if kind = 1 then lv a else condB a
/-- A node, whatever its parts are. -/
def topB (kind o : Int) (a : ByteArray) (n : Nat) : Bool :=
  if o = 1 then decide (n = 0) && atomB kind a
  else if o = 2 then decide (n = 0) && decide (a.size = 0)
  else if o = 3 then decide (n = 1) && decide (a.size = 0)
  else if o = 4 ∨ o = 5 then decide (n = 2) && decide (a.size = 0)
  else false
def Fo.okB (kind : Int) : Fo → Nat → Bool
  | .nil, _ => true
  | .cons o a k r, d => (decide (0 < d) && (topB kind o a k.list.length && k.okB kind (d - 1))) && r.okB kind d
def Ex.okB (kind : Int) (e : Ex) (d : Nat) : Bool := decide (0 < d) && (topB kind e.op e.a e.ks.list.length && e.ks.okB kind (d - 1))
theorem Fo.okB_list (kind : Int) (f : Fo) (d : Nat) : f.okB kind d = f.list.all fun e => e.okB kind d := by
  induction f with
  | nil => rfl
  | cons o a k r _ ih => simp only [Fo.okB, Fo.list, ih, List.all_cons, Ex.okB]
def Ex.size (e : Ex) : Nat := 1 + e.ks.size
def exV (kind : Int) (e : Ex) : Bool := (decide (kind = 1) || decide (kind = 2)) && (e.okB kind 12 && decide (e.size ≤ 20))
theorem topB_len {kind o : Int} {a : ByteArray} {n : Nat} (h : topB kind o a n = true) : n ≤ 2 := by
  unfold topB at h
  split at h
  · simp at h; omega
  · split at h
    · simp at h; omega
    · split at h
      · simp at h; omega
      · split at h
        · simp at h; omega
        · simp at h
def Fo.sizes (l : List Ex) : Nat := (l.map Ex.size).sum
theorem Fo.size_list (f : Fo) : f.size = Fo.sizes f.list := by
  induction f with
  | nil => rfl
  | cons o a k r _ ih => simp only [Fo.size, Fo.list, ih, Fo.sizes, Ex.size, List.map_cons, List.sum_cons]; omega
theorem Fo.sizes_succ (xs : List Ex) (k : Nat) (h : k < xs.length) : Fo.sizes (xs.take (k + 1)) = Fo.sizes (xs.take k) + xs[k].size := by
  unfold Fo.sizes; rw [List.take_succ_eq_append_getElem h, List.map_append, List.sum_append]; simp only [List.map_cons, List.map_nil, List.sum_cons, List.sum_nil, Nat.add_zero]
theorem Fo.sizes_le (xs : List Ex) (k : Nat) : Fo.sizes (xs.take k) ≤ Fo.sizes xs := by
  unfold Fo.sizes
  have := congrArg (fun l => (l.map Ex.size).sum) (List.take_append_drop k xs)
  simp only [List.map_append, List.sum_append] at this; omega
theorem two_pow_le (d : Nat) : 1 ≤ 2 ^ d := Nat.one_le_two_pow
/-- A row of valid ones has few. -/
theorem Fo.size_ok (kind : Int) (f : Fo) : ∀ d : Nat, f.okB kind d = true → f.size ≤ f.list.length * (2 ^ d - 1) := by
  induction f with
  | nil => intro d _; exact Nat.zero_le _
  | cons o a k r ihk ihr =>
    intro d h
    unfold Fo.okB at h
    simp only [Bool.and_eq_true, decide_eq_true_eq] at h
    obtain ⟨⟨h1, h2, h3⟩, h4⟩ := h
    have g1 := ihk _ h3
    have g2 := ihr _ h4
    have g3 := topB_len h2
    have g4 : k.list.length * (2 ^ (d - 1) - 1) ≤ 2 * (2 ^ (d - 1) - 1) := Nat.mul_le_mul_right _ g3
    have g5 : 2 ^ d = 2 * 2 ^ (d - 1) := by rw [← Nat.pow_succ']; congr 1; omega
    have g6 := two_pow_le (d - 1)
    unfold Fo.size
    simp only [Fo.list, List.length_cons]
    rw [Nat.succ_mul]
    omega
theorem Ex.size_ok {kind : Int} {e : Ex} (h : e.okB kind 12 = true) : e.size ≤ 4095 := by
  unfold Ex.okB at h
  simp only [Bool.and_eq_true, decide_eq_true_eq] at h
  obtain ⟨h1, h2, h3⟩ := h
  have g1 := Fo.size_ok kind e.ks 11 h3
  have g3 := topB_len h2
  have g4 : e.ks.list.length * (2 ^ 11 - 1) ≤ 2 * (2 ^ 11 - 1) := Nat.mul_le_mul_right _ g3
  unfold Ex.size
  omega
end Go.Proofs.YtbbemeaojmfndaaDoor
namespace Go.Proofs.YtbbemeaojmfndaaDoor
open Go.RowKit

/-- A reader in block b: its text, its place, and whether it is bad. -/
def Rdr (b : Nat) (s : ByteArray) (k : Nat) (bad : Bool) (w : World) : Prop := Blk w b 135 [.string s, .int .i64 k, .bool bad]
theorem Rdr.cells {b : Nat} {s : ByteArray} {k : Nat} {bad : Bool} {w : World} (h : Rdr b s k bad w) :
    w.cell? ⟨b, 0, none⟩ = some (.string s) ∧ w.cell? ⟨b, 1, none⟩ = some (.int .i64 k) ∧ w.cell? ⟨b, 2, none⟩ = some (.bool bad) ∧ w.frozen? ⟨b, 1, none⟩ = false ∧ w.frozen? ⟨b, 2, none⟩ = false ∧ b < w.heap.size :=
  ⟨Blk.cell h 0, Blk.cell h 1, Blk.cell h 2, Blk.frozen h 1, Blk.frozen h 2, Blk.lt h⟩
theorem Rdr.below {b B : Nat} {s : ByteArray} {k : Nat} {bad : Bool} {w w' : World} (h : Rdr b s k bad w) (hb : Below B w w') (hB : b < B) : Rdr b s k bad w' := Blk.below h hb hB
theorem Rdr.put1 {b : Nat} {s : ByteArray} {k k' : Nat} {bad : Bool} {w : World} (h : Rdr b s k bad w) : Rdr b s k' bad (w.setCell ⟨b, 1, none⟩ (.int .i64 k')) := Blk.set h 1 _
theorem Rdr.put2 {b : Nat} {s : ByteArray} {k : Nat} {bad bad' : Bool} {w : World} (h : Rdr b s k bad w) : Rdr b s k bad' (w.setCell ⟨b, 2, none⟩ (.bool bad')) := Blk.set h 2 _
theorem Rdr.drewN {b : Nat} {s : ByteArray} {k : Nat} {bad : Bool} {w : World} (h : Rdr b s k bad w) (n : Nat) : Rdr b s k bad (w.drewN n) := by
  have e : (w.drewN n).heap = w.heap := by
    induction n with
    | zero => rfl
    | succ n ih => exact ih
  unfold Rdr Blk at *; rw [e]; exact h

/-- Whether the next byte is c. -/
def nextIs (s : ByteArray) (k : Nat) (bad : Bool) (c : UInt8) : Bool := !bad && (s.data.toList[k]? == some c)
theorem nextIs_at {s : ByteArray} {k : Nat} (h : k < s.size) (c : UInt8) : nextIs s k false c = (s[k] == c) := by
  unfold nextIs
  rw [List.getElem?_eq_getElem (by simpa using h)]
  simp; rfl
theorem nextIs_end {s : ByteArray} {k : Nat} {bad : Bool} (h : s.size ≤ k) (c : UInt8) : nextIs s k bad c = false := by
  unfold nextIs
  rw [List.getElem?_eq_none (by simpa using h)]
  simp
theorem u8_beq (x c : UInt8) : ((x.toNat : Int) == (c.toNat : Int)) = (x == c) := by
  by_cases h : x = c
  · subst h; simp
  · have h2 : (x.toNat : Int) ≠ c.toNat := fun e => h (UInt8.toNat_inj.1 (by omega))
    rw [beq_eq_false_iff_ne.2 h, beq_eq_false_iff_ne.2 h2]
def Same (w : World) (r : Value) (e : Ending) (w' : World) : Prop := e = .returned r ∧ ∃ n, w' = w.drewN n

theorem wrapInt (x : Int) (h0 : -9223372036854775808 ≤ x) (h1 : x ≤ 9223372036854775807) : IntKind.i64.wrap x = x := by
  simp [IntKind.wrap, IntKind.bits, IntKind.signed]; omega

/-- Whether all has been taken. -/
def ended (s : ByteArray) (k : Nat) (bad : Bool) : Bool := !bad && decide (k = s.size)
set_option maxRecDepth 100000 in
set_option maxHeartbeats 1000000 in
theorem finished_any (b : Nat) (s : ByteArray) (k : Nat) (bad : Bool) (w : World) (h : Rdr b s k bad w) :
    Calls Tryd.prog 99 #[.pointer (some ⟨b, 0, none⟩)] w (Same w (.bool (ended s k bad))) := by
  obtain ⟨c0, c1, c2, _, _, _⟩ := h.cells
  cases bad with
  | true =>
    have HE := Lib.hid (show ended s k true = false by simp [ended])
    go_enter Tryd.func99, Tryd.ntmps99
    go_wp2_with fail
    go_quiet (fail)
    go_wp2_with fail
    go_ret
    exact ⟨by rw [HE.out]; rfl, _, rfl⟩
  | false =>
    have HE := Lib.hid (show ended s k false = ((k : Int) == (s.size : Int)) by
      unfold ended
      by_cases e : k = s.size
      · subst e; simp
      · have e2 : (k : Int) ≠ s.size := by omega
        rw [beq_eq_false_iff_ne.2 e2]; simp [e])
    go_enter Tryd.func99, Tryd.ntmps99
    go_wp2_with fail
    go_quiet (fail)
    go_wp2_with fail
    go_ret
    exact ⟨by rw [HE.out]; rfl, _, rfl⟩

/-- The sign of a condition, where it stands next. -/
def signAt (s : ByteArray) (k : Nat) (bad : Bool) : Option UInt8 := if bad then none else match s.data.toList[k]? with | some c => if isS c then some c else none | none => none
theorem signAt_at {s : ByteArray} {k : Nat} (h : k < s.size) : signAt s k false = if isS s[k] then some s[k] else none := by
  unfold signAt
  rw [List.getElem?_eq_getElem (by simpa using h)]
  simp; rfl
theorem signAt_end {s : ByteArray} {k : Nat} (h : s.size ≤ k) (bad : Bool) : signAt s k bad = none := by
  unfold signAt
  rw [List.getElem?_eq_none (by simpa using h)]
  simp
/-- Where a byte stands among the signs. -/
def ixS (c : UInt8) : Int := Lib.indexByte (⟨#[60, 61, 62]⟩ : ByteArray).data.toList c
theorem ixS_neg (c : UInt8) : decide (ixS c < 0) = !isS c := by
  have h : ∀ n : Fin 256, decide (Lib.indexByte (⟨#[60, 61, 62]⟩ : ByteArray).data.toList (UInt8.ofNat n.1) < 0) = !isS (UInt8.ofNat n.1) := by decide +kernel
  have := h ⟨c.toNat, c.toNat_lt⟩
  simp only [UInt8.ofNat_toNat] at this
  exact this
theorem indexSign_any (c : UInt8) (w : World) :
    Calls Tryd.prog 102 #[.string ⟨#[60, 61, 62]⟩, .int .u8 c.toNat] w fun e w' => e = .returned (.int .i64 (ixS c)) ∧ w' = w := by
  have := Tryd.strings_IndexByte ⟨#[60, 61, 62]⟩ c.toNat w
  simpa [ixS] using this

def SignPost (b : Nat) (s : ByteArray) (k : Nat) (bad : Bool) (w : World) (e : Ending) (w' : World) : Prop :=
  (∃ c, signAt s k bad = some c ∧ e = .returned (.int .u8 c.toNat) ∧ Rdr b s (k + 1) bad w' ∧ Chg [b] w w') ∨ (signAt s k bad = none ∧ e = .returned (.int .u8 0) ∧ Rdr b s k true w' ∧ Chg [b] w w')
theorem chgN (b : Nat) (w : World) (n : Nat) : Chg [b] w (w.drewN n) := by
  have e : (w.drewN n).heap = w.heap ∧ (w.drewN n).os = w.os ∧ (w.drewN n).tape = w.tape ∧ (w.drewN n).output = w.output := by
    induction n with
    | zero => exact ⟨rfl, rfl, rfl, rfl⟩
    | succ n ih => exact ih
  exact ⟨e.2.1, e.2.2.1, e.2.2.2, by rw [e.1]; exact Nat.le_refl _, fun i _ _ => by rw [e.1]⟩
set_option maxRecDepth 100000 in
set_option maxHeartbeats 1000000 in
theorem takeSign_any (b : Nat) (s : ByteArray) (k : Nat) (bad : Bool) (w : World) (h : Rdr b s k bad w) (hs : s.size ≤ maxLen) (hk : k ≤ s.size) :
    Calls Tryd.prog 97 #[.pointer (some ⟨b, 0, none⟩)] w (SignPost b s k bad w) := by
  obtain ⟨c0, c1, c2, f1, f2, hb⟩ := h.cells
  unfold maxLen at hs
  have HR := Lib.hid h
  clear h
  cases bad with
  | true =>
    have HE := Lib.hid (show signAt s k true = none from rfl)
    go_enter Tryd.func97, Tryd.ntmps97
    go_wp2_with fail
    go_quiet (fail)
    go_wp2_with fail
    go_ret
    exact .inr ⟨HE.out, rfl, (HR.out.drewN _).put2, (chgN b w _).setCell (by simp) _⟩
  | false =>
    by_cases hlt : k < s.size
    · have h1 : ((k : Int) == (s.size : Int)) = false := by rw [beq_eq_false_iff_ne]; omega
      have HN := Lib.hid (ixS_neg s[k])
      have HE := Lib.hid (signAt_at hlt)
      cases hS : isS s[k] with
      | true =>
        have h2 : decide (ixS s[k] < 0) = false := by rw [HN.out, hS]; rfl
        have HE2 := Lib.hid (show signAt s k false = some s[k] by rw [HE.out, hS]; rfl)
        go_enter Tryd.func97, Tryd.ntmps97
        go_wp2_with fail
        go_quiet ((go_at_call 102; exact Calls.quiet_of_same (indexSign_any _ _)))
        go_wp2_with fail
        go_quiet (fail)
        go_wp2_with fail
        go_ret
        exact .inl ⟨_, HE2.out, rfl, ((HR.out.drewN _).put1 (k' := k + 1)).drewN _, ((chgN b w _).setCell (by simp) _).trans (chgN b _ _)⟩
      | false =>
        have h2 : decide (ixS s[k] < 0) = true := by rw [HN.out, hS]; rfl
        have HE2 := Lib.hid (show signAt s k false = none by rw [HE.out, hS]; rfl)
        go_enter Tryd.func97, Tryd.ntmps97
        go_wp2_with fail
        go_quiet ((go_at_call 102; exact Calls.quiet_of_same (indexSign_any _ _)))
        go_wp2_with fail
        go_ret
        exact .inr ⟨HE2.out, rfl, (HR.out.drewN _).put2, (chgN b w _).setCell (by simp) _⟩
    · obtain rfl : k = s.size := by omega
      have HE := Lib.hid (signAt_end (Nat.le_refl s.size) false)
      go_enter Tryd.func97, Tryd.ntmps97
      go_wp2_with fail
      go_quiet (fail)
      go_wp2_with fail
      go_ret
      exact .inr ⟨HE.out, rfl, (HR.out.drewN _).put2, (chgN b w _).setCell (by simp) _⟩
end Go.Proofs.YtbbemeaojmfndaaDoor
namespace Go.Proofs.YtbbemeaojmfndaaDoor
open Go.RowKit

/-- A text of one or two digits without a leading zero. -/
def num99 : List UInt8 → Option Nat
  | [d] => if isD d then some (d.toNat - 48) else none
  | [d, e] => if isD d && (decide (d.toNat ≠ 48) && isD e) then some (10 * (d.toNat - 48) + (e.toNat - 48)) else none
  | _ => none
theorem isD_iff (c : UInt8) : isD c = true ↔ 48 ≤ c.toNat ∧ c.toNat ≤ 57 := by simp [isD]
theorem u8_of {c : UInt8} {k : Nat} (h : c.toNat = k) (hk : k < 256) : c = UInt8.ofNat k := by
  apply UInt8.toNat_inj.1
  rw [h]; simp; omega
theorem itoa_one (v : Nat) (h : v < 10) : Lib.itoa (v : Int) = [UInt8.ofNat (48 + v)] := by
  unfold Lib.itoa
  rw [if_neg (by omega), Int.toNat_natCast, Lib.decDigits, dif_pos h]
theorem itoa_two (v : Nat) (h : 10 ≤ v) (h2 : v < 100) : Lib.itoa (v : Int) = [UInt8.ofNat (48 + v / 10), UInt8.ofNat (48 + v % 10)] := by
  unfold Lib.itoa
  rw [if_neg (by omega), Int.toNat_natCast, Lib.decDigits, dif_neg (by omega), Lib.decDigits, dif_pos (by omega)]
  rfl
theorem toNat_of (k : Nat) (h : k < 256) : (UInt8.ofNat k).toNat = k := by simp; omega
theorem num99_one (d : UInt8) : num99 [d] = if isD d then some (d.toNat - 48) else none := rfl
theorem num99_two (d e : UInt8) : num99 [d, e] = if isD d && (decide (d.toNat ≠ 48) && isD e) then some (10 * (d.toNat - 48) + (e.toNat - 48)) else none := rfl
theorem num99_more (d e f : UInt8) (r : List UInt8) : num99 (d :: e :: f :: r) = none := rfl
theorem num99_cases {l : List UInt8} {n : Nat} (h : num99 l = some n) :
    (∃ d, l = [d] ∧ isD d = true ∧ n = d.toNat - 48) ∨ (∃ d e, l = [d, e] ∧ isD d = true ∧ d.toNat ≠ 48 ∧ isD e = true ∧ n = 10 * (d.toNat - 48) + (e.toNat - 48)) := by
  match l with
  | [] => simp [num99] at h
  | [d] =>
    rw [num99_one] at h
    by_cases hd : isD d = true
    · rw [if_pos hd] at h
      exact .inl ⟨d, rfl, hd, (Option.some.inj h).symm⟩
    · rw [if_neg hd] at h; cases h
  | [d, e] =>
    rw [num99_two] at h
    by_cases hd : (isD d && (decide (d.toNat ≠ 48) && isD e)) = true
    · rw [if_pos hd] at h
      simp only [Bool.and_eq_true, decide_eq_true_eq] at hd
      exact .inr ⟨d, e, rfl, hd.1, hd.2.1, hd.2.2, (Option.some.inj h).symm⟩
    · rw [if_neg hd] at h; cases h
  | d :: e :: f :: r => rw [num99_more] at h; cases h
theorem num99_itoa (v : Nat) (h : v < 100) : num99 (Lib.itoa (v : Int)) = some v := by
  by_cases h1 : v < 10
  · have e := toNat_of (48 + v) (by omega)
    have hd : isD (UInt8.ofNat (48 + v)) = true := (isD_iff _).2 (by omega)
    rw [itoa_one v h1, num99_one, if_pos hd, e]
    congr 1; omega
  · have e := toNat_of (48 + v / 10) (by omega)
    have e2 := toNat_of (48 + v % 10) (by omega)
    have hd : isD (UInt8.ofNat (48 + v / 10)) = true := (isD_iff _).2 (by omega)
    have hd2 : isD (UInt8.ofNat (48 + v % 10)) = true := (isD_iff _).2 (by omega)
    rw [itoa_two v (by omega) h, num99_two, hd, hd2, e, e2, decide_eq_true (by omega : 48 + v / 10 ≠ 48)]
    simp only [Bool.and_self, if_true]
    congr 1; omega
theorem num99_of {l : List UInt8} {n : Nat} (h : num99 l = some n) : n < 100 ∧ l = Lib.itoa (n : Int) ∧ l.all isD = true := by
  rcases num99_cases h with ⟨d, rfl, hd, rfl⟩ | ⟨d, e, rfl, hd, h48, he, rfl⟩
  · have hd2 := (isD_iff d).1 hd
    refine ⟨by omega, ?_, by simp [hd]⟩
    rw [itoa_one _ (by omega), show 48 + (d.toNat - 48) = d.toNat by omega, UInt8.ofNat_toNat]
  · have hd2 := (isD_iff d).1 hd
    have he2 := (isD_iff e).1 he
    refine ⟨by omega, ?_, by simp [hd, he]⟩
    rw [itoa_two _ (by omega) (by omega)]
    rw [show (10 * (d.toNat - 48) + (e.toNat - 48)) / 10 = d.toNat - 48 by omega, show (10 * (d.toNat - 48) + (e.toNat - 48)) % 10 = e.toNat - 48 by omega]
    rw [show 48 + (d.toNat - 48) = d.toNat by omega, show 48 + (e.toNat - 48) = e.toNat by omega, UInt8.ofNat_toNat, UInt8.ofNat_toNat]
theorem parseUint_one (acc : Nat) (c : UInt8) (r : List UInt8) (hc : isD c = true) (ha : acc < 1000000000000000000) : Lib.parseUint10 acc (c :: r) = Lib.parseUint10 (acc * 10 + (c.toNat - 48)) r := by
  have := (isD_iff c).1 hc
  rw [Lib.parseUint10, if_pos this, if_neg (by omega), if_neg (by omega)]
theorem signless_ok (u : Nat) (h : u < 9223372036854775808) : Lib.signless (.ok u) = .ok (u : Int) := by
  unfold Lib.signless
  simp only
  rw [if_neg (by omega)]
theorem atoi_99 {l : List UInt8} {n : Nat} (h : num99 l = some n) : Lib.atoiAll l = .ok (n : Int) := by
  rcases num99_cases h with ⟨d, rfl, hd, rfl⟩ | ⟨d, e, rfl, hd, h48, he, rfl⟩
  · have hd2 := (isD_iff d).1 hd
    rw [Lib.atoiAll_plain d [] (by omega) (by omega)]
    unfold Lib.parseMag
    rw [if_neg (by simp), parseUint_one 0 d [] hd (by omega), Lib.parseUint10, signless_ok _ (by omega)]
    congr 1; omega
  · have hd2 := (isD_iff d).1 hd
    have he2 := (isD_iff e).1 he
    rw [Lib.atoiAll_plain d [e] (by omega) (by omega)]
    unfold Lib.parseMag
    rw [if_neg (by simp), parseUint_one 0 d [e] hd (by omega), parseUint_one _ e [] he (by omega), Lib.parseUint10, signless_ok _ (by omega)]
    congr 1; omega
/-- The number that a text of digits is written as, if it is. -/
def numOf (l : List UInt8) : Option Int := match Lib.atoiAll l with | .ok v => if Lib.itoa v = l then some v else none | _ => none
theorem numOf_ok {l : List UInt8} {v : Int} (h : Lib.atoiAll l = .ok v) : numOf l = if Lib.itoa v = l then some v else none := by unfold numOf; rw [h]
theorem numOf_no {l : List UInt8} (h : ∀ v, Lib.atoiAll l ≠ .ok v) : numOf l = none := by
  unfold numOf
  split
  · rename_i v hv; exact absurd hv (h v)
  · rfl
theorem numOf_99 {l : List UInt8} {n : Nat} (h : num99 l = some n) : numOf l = some (n : Int) := by
  rw [numOf_ok (atoi_99 h), if_pos (num99_of h).2.1.symm]
theorem itoa_neg {v : Int} (h : v < 0) : ∃ r, Lib.itoa v = 45 :: r := ⟨_, by unfold Lib.itoa; rw [if_pos h]⟩
theorem numOf_some {l : List UInt8} {v : Int} (h : numOf l = some v) : Lib.itoa v = l := by
  unfold numOf at h
  split at h
  · split at h
    · rename_i _ _ _ hi; cases h; exact hi
    · cases h
  · cases h
theorem numOf_pos {l : List UInt8} {v : Int} (h : numOf l = some v) (hd : l.all isD = true) : 0 ≤ v := by
  have e := numOf_some h
  by_cases h0 : v < 0
  · obtain ⟨r, hr⟩ := itoa_neg h0
    rw [← e, hr] at hd
    simp at hd
    have := (isD_iff 45).1 hd.1
    simp at this
  · omega
theorem numOf_small {l : List UInt8} {v : Int} (h : numOf l = some v) (hd : l.all isD = true) (h99 : v ≤ 99) : num99 l = some v.toNat := by
  have h0 := numOf_pos h hd
  have e := numOf_some h
  have := num99_itoa v.toNat (by omega)
  rw [Int.toNat_of_nonneg h0, e] at this
  exact this

/-! The laws' reader of numbers. -/
def digsVal (n : Nat) (l : List UInt8) : Nat := l.foldl (fun n c => n * 10 + (c.toNat - 48)) n
theorem digsVal_nil (n : Nat) : digsVal n [] = n := rfl
theorem digsVal_snoc (n : Nat) (l : List UInt8) (c : UInt8) : digsVal n (l ++ [c]) = digsVal n l * 10 + (c.toNat - 48) := by unfold digsVal; rw [List.foldl_append, List.foldl_cons, List.foldl_nil]
theorem digsVal_cons (n : Nat) (c : UInt8) (r : List UInt8) : digsVal n (c :: r) = digsVal (n * 10 + (c.toNat - 48)) r := by unfold digsVal; rw [List.foldl_cons]
theorem digsVal_ge (n : Nat) (l : List UInt8) : n * 10 ^ l.length ≤ digsVal n l := by
  induction l generalizing n with
  | nil => simp [digsVal]
  | cons c r ih =>
    have h := ih (n * 10 + (c.toNat - 48))
    have h2 : n * 10 * 10 ^ r.length ≤ (n * 10 + (c.toNat - 48)) * 10 ^ r.length := Nat.mul_le_mul_right _ (by omega)
    rw [digsVal_cons, List.length_cons, Nat.pow_succ, Nat.mul_comm (10 ^ r.length) 10, ← Nat.mul_assoc]
    exact Nat.le_trans h2 h
theorem digsVal_lt (n : Nat) (l : List UInt8) (hl : l.all isD = true) : digsVal n l < (n + 1) * 10 ^ l.length := by
  induction l generalizing n with
  | nil => simp [digsVal]
  | cons c r ih =>
    rw [List.all_cons, Bool.and_eq_true] at hl
    have hc := (isD_iff c).1 hl.1
    have h := ih (n * 10 + (c.toNat - 48)) hl.2
    have h2 : (n * 10 + (c.toNat - 48) + 1) * 10 ^ r.length ≤ (n + 1) * 10 * 10 ^ r.length := Nat.mul_le_mul_right _ (by omega)
    rw [digsVal_cons, List.length_cons, Nat.pow_succ, Nat.mul_comm (10 ^ r.length) 10, ← Nat.mul_assoc]
    exact Nat.lt_of_lt_of_le h h2
/-- What stands behind a sign, read as l14Num reads it. -/
def mag14 (neg : Bool) (r : List UInt8) : Option Nat :=
  if r.length = 0 ∨ 17 < r.length then none
  else if r.head? = some 48 ∧ (1 < r.length ∨ neg = true) then none
  else if r.all isD then some (digsVal 0 r) else none
def num14 (l : List UInt8) : Option Int :=
  if l.head? = some 45 then (mag14 true l.tail).map fun n : Nat => -(n : Int) else (mag14 false l).map fun n : Nat => (n : Int)
theorem mag14_some {neg : Bool} {r : List UInt8} {n : Nat} (h : mag14 neg r = some n) :
    r.length ≠ 0 ∧ r.length ≤ 17 ∧ ¬(r.head? = some 48 ∧ (1 < r.length ∨ neg = true)) ∧ r.all isD = true ∧ n = digsVal 0 r := by
  unfold mag14 at h
  split at h
  · cases h
  · split at h
    · cases h
    · split at h
      · rename_i g1 g2 g3
        exact ⟨by omega, by omega, g2, g3, (Option.some.inj h).symm⟩
      · cases h
theorem mag14_of {neg : Bool} {r : List UInt8} (h1 : r.length ≠ 0) (h2 : r.length ≤ 17) (h3 : ¬(r.head? = some 48 ∧ (1 < r.length ∨ neg = true))) (h4 : r.all isD = true) : mag14 neg r = some (digsVal 0 r) := by
  unfold mag14
  rw [if_neg (by omega), if_neg h3, if_pos h4]
theorem mag_big {c : UInt8} {r : List UInt8} (hd : isD c = true) (h48 : c.toNat ≠ 48) : 10 ^ r.length ≤ digsVal 0 (c :: r) := by
  have hc := (isD_iff c).1 hd
  have h1 := digsVal_ge (0 * 10 + (c.toNat - 48)) r
  have h2 : 1 * 10 ^ r.length ≤ (0 * 10 + (c.toNat - 48)) * 10 ^ r.length := Nat.mul_le_mul_right _ (by omega)
  have h3 := digsVal_cons 0 c r
  omega
theorem head48 {c : UInt8} {r : List UInt8} {p : Prop} (h : ¬((c :: r).head? = some 48 ∧ p)) (hp : p) : c.toNat ≠ 48 := fun e => h ⟨by rw [List.head?_cons, u8_of e (by omega)]; rfl, hp⟩
theorem num14_99 (l : List UInt8) (v : Int) : (num14 l = some v ∧ 0 ≤ v ∧ v ≤ 99) ↔ (num99 l = some v.toNat ∧ 0 ≤ v) := by
  constructor
  · rintro ⟨h, h0, h99⟩
    refine ⟨?_, h0⟩
    unfold num14 at h
    by_cases hneg : l.head? = some 45
    · rw [if_pos hneg] at h
      obtain ⟨n, hn, rfl⟩ := Option.map_eq_some_iff.1 h
      obtain ⟨g1, g2, g3, g4, g5⟩ := mag14_some hn
      match hl : l.tail, g1, g2, g3, g4, g5 with
      | [], g1, _, _, _, _ => exact absurd rfl g1
      | c :: r, g1, g2, g3, g4, g5 =>
        rw [List.all_cons, Bool.and_eq_true] at g4
        have h1 := mag_big (r := r) g4.1 (head48 g3 (.inr rfl))
        have hp : 1 ≤ 10 ^ r.length := Nat.one_le_pow _ _ (by decide)
        omega
    · rw [if_neg hneg] at h
      obtain ⟨n, hn, rfl⟩ := Option.map_eq_some_iff.1 h
      obtain ⟨g1, g2, g3, g4, g5⟩ := mag14_some hn
      match l, g1, g2, g3, g4, g5 with
      | [], g1, _, _, _, _ => exact absurd rfl g1
      | [c], g1, g2, g3, g4, g5 =>
        rw [List.all_cons, Bool.and_eq_true] at g4
        have hc := (isD_iff c).1 g4.1
        rw [num99_one, if_pos g4.1, Int.toNat_natCast, g5]
        simp [digsVal]
      | [c, d], g1, g2, g3, g4, g5 =>
        rw [List.all_cons, List.all_cons, Bool.and_eq_true, Bool.and_eq_true] at g4
        have hc := (isD_iff c).1 g4.1
        have h48 := head48 g3 (.inl (by simp))
        rw [num99_two, g4.1, g4.2.1, decide_eq_true h48, Int.toNat_natCast, g5]
        simp [digsVal]; omega
      | c :: d :: e :: r, g1, g2, g3, g4, g5 =>
        rw [List.all_cons, Bool.and_eq_true] at g4
        have h1 := mag_big (r := d :: e :: r) g4.1 (head48 g3 (.inl (by simp)))
        have hp : 1 ≤ 10 ^ r.length := Nat.one_le_pow _ _ (by decide)
        have h2 : 10 ^ (d :: e :: r).length = 10 ^ r.length * 10 * 10 := by simp [Nat.pow_succ]
        omega
  · rintro ⟨h, h0⟩
    have hlt := (num99_of h).1
    refine ⟨?_, h0, by omega⟩
    have hv : v = (v.toNat : Int) := (Int.toNat_of_nonneg h0).symm
    rcases num99_cases h with ⟨d, rfl, hd, hn⟩ | ⟨d, e, rfl, hd, h48, he, hn⟩
    · have hd2 := (isD_iff d).1 hd
      have h45 : ¬([d] : List UInt8).head? = some 45 := fun e => by
        have e : d = 45 := by simpa using e
        subst e; simp at hd2
      unfold num14
      rw [if_neg h45, mag14_of (by simp) (by simp) (by simp) (by simp [hd]), hv, hn]
      simp [digsVal]
    · have hd2 := (isD_iff d).1 hd
      have he2 := (isD_iff e).1 he
      have h45 : ¬([d, e] : List UInt8).head? = some 45 := fun e => by
        have e : d = 45 := by simpa using e
        subst e; simp at hd2
      have h48' : ¬d = 48 := fun e => h48 (by rw [e]; rfl)
      unfold num14
      rw [if_neg h45, mag14_of (by simp) (by simp) (by simp [h48']) (by simp [hd, he]), hv, hn]
      simp [digsVal]; omega
/-- An atom of a condition, by its two readings. -/
theorem cond_of (l : List UInt8) : condOf l = match l with | [] => none | s :: r => if isS s then (num99 r).map fun n => (s, n) else none := by
  match l with
  | [] => rfl
  | [s] => simp [condOf, num99]
  | [s, d] =>
    simp only [condOf, num99]
    cases isS s <;> cases isD d <;> simp
  | [s, d, e] =>
    simp only [condOf, num99]
    cases isS s <;> cases isD d <;> cases isD e <;> by_cases h : d.toNat = 48 <;> simp [h]
  | s :: d :: e :: f :: r => simp [condOf, num99]
end Go.Proofs.YtbbemeaojmfndaaDoor
namespace Go.Proofs.YtbbemeaojmfndaaDoor
open Go.RowKit

def lbl (s : ByteArray) : Bool := decide (s.size = 0) || lv s
def nm (n : Int) : Bool := decide (0 ≤ n) && decide (n ≤ 99)
theorem pv_eq (s : ByteArray) (n : Int) : pv s n = (lbl s && nm n) := rfl

set_option maxHeartbeats 400000 in
/-- spec.l1Num -/
theorem l1Num_any (n : Int) (w : World) :
    Calls Tryd.prog 101 #[.int .i64 n] w fun e w' => e = .returned (.bool (nm n)) ∧ w = w' := by
  go_enter Tryd.func101, Tryd.ntmps101
  go_wp2_with fail
  all_goals
    go_ret
    refine ⟨ret_bool ?_, rfl⟩
    unfold nm
    rw [Bool.eq_iff_iff]
    simp [*]
    try omega

end Go.Proofs.YtbbemeaojmfndaaDoor
namespace Go.Proofs.YtbbemeaojmfndaaDoor
open Go

section
variable {P : Program} {ops : Array Oper} {Q : Exit → Act → World → Prop} {md : Region.Mode} {S : World → Prop}
/-- As wpAnyH_take; the operation is read off the list. -/
theorem takeL {i : Nat} {oi : Oper} {v : Value} {fuel : Nat} {listed : Array Bool} {a : Act} {w : World} (hi : ops.toList[i]? = some oi)
    (hs : Region.noSelect ops = true) (hf : Region.free md ops listed i = true) (hr : (Region.ready md ops listed).contains i = true)
    (hQ : ∀ c a w, Q (.panic c) (a.put oi.dst v) w → Q (.panic c) a w) (hy : YieldsIf P ops S oi v a) (hS : S w)
    (h : wpAnyH P md ops Q S fuel (listed.setIfInBounds i true) (a.put oi.dst v) w) : wpAnyH P md ops Q S (fuel + 1) listed a w :=
  wpAnyH_take (by simpa using hi) hs hf hr hQ hy hS h
/-- The one operation that may come up: a call. -/
theorem callL {i : Nat} {oi : Oper} {fuel : Nat} {listed : Array Bool} {a : Act} {w : World} (hi : ops.toList[i]? = some oi) (hr : Region.ready md ops listed = [i]) (hw : Region.wanted oi (yielded ops a.tmps) = true)
    (h : ∀ K' : Act → World → Prop, Shut (∀ a w, S w → (S w → wpAnyH P md ops Q S fuel (listed.setIfInBounds i true) a w) → K' a w) → Oper.wp P oi a w K' Q) : wpAnyH P md ops Q S (fuel + 1) listed a w :=
  wpAnyH_ready hr (by simp) (AllReadyH.cons (by simpa using hi) (fun K hK => by rw [if_pos hw]; exact h K hK) AllReadyH.nil)
/-- Two operations that may come up. -/
theorem twoL {i j : Nat} {oi oj : Oper} {fuel : Nat} {listed : Array Bool} {a : Act} {w : World} (hi : ops.toList[i]? = some oi) (hj : ops.toList[j]? = some oj) (hr : Region.ready md ops listed = [i, j]) (hw : Region.wanted oi (yielded ops a.tmps) = true) (hw2 : Region.wanted oj (yielded ops a.tmps) = true)
    (h : ∀ K' : Act → World → Prop, Shut (∀ a w, S w → (S w → wpAnyH P md ops Q S fuel (listed.setIfInBounds i true) a w) → K' a w) → Oper.wp P oi a w K' Q)
    (h2 : ∀ K' : Act → World → Prop, Shut (∀ a w, S w → (S w → wpAnyH P md ops Q S fuel (listed.setIfInBounds j true) a w) → K' a w) → Oper.wp P oj a w K' Q) : wpAnyH P md ops Q S (fuel + 1) listed a w :=
  wpAnyH_ready hr (by simp) (AllReadyH.cons (by simpa using hi) (fun K hK => by rw [if_pos hw]; exact h K hK) (AllReadyH.cons (by simpa using hj) (fun K hK => by rw [if_pos hw2]; exact h2 K hK) AllReadyH.nil))
end
end Go.Proofs.YtbbemeaojmfndaaDoor
namespace Go.Proofs.YtbbemeaojmfndaaDoor
open Go.RowKit

def eqL {α : Type} (f : α → α → Bool) : List α → List α → Bool
  | [], [] => true
  | x :: xs, y :: ys => f x y && eqL f xs ys
  | _, _ => false
theorem eqL_len {α : Type} {f : α → α → Bool} : ∀ {xs ys : List α}, xs.length ≠ ys.length → eqL f xs ys = false
  | [], [], h => absurd rfl h
  | [], _ :: _, _ => rfl
  | _ :: _, [], _ => rfl
  | x :: xs, y :: ys, h => by unfold eqL; rw [eqL_len (by simpa using h)]; simp
theorem eqL_all {α : Type} {f : α → α → Bool} : ∀ {xs ys : List α}, xs.length = ys.length → (∀ i (h : i < xs.length) (h' : i < ys.length), f xs[i] ys[i] = true) → eqL f xs ys = true
  | [], [], _, _ => rfl
  | [], _ :: _, h, _ => by simp at h
  | _ :: _, [], h, _ => by simp at h
  | x :: xs, y :: ys, h, ha => by
    unfold eqL
    rw [show f x y = true from ha 0 (by simp) (by simp), eqL_all (by simpa using h) (fun i h1 h2 => by have := ha (i + 1) (by simpa using h1) (by simpa using h2); simpa using this)]; rfl
theorem eqL_bad {α : Type} {f : α → α → Bool} : ∀ {xs ys : List α} (i : Nat) (h : i < xs.length) (h' : i < ys.length), f xs[i] ys[i] = false → eqL f xs ys = false
  | [], _, _, h, _, _ => by simp at h
  | _ :: _, [], _, _, h, _ => by simp at h
  | x :: xs, y :: ys, 0, _, _, hb => by unfold eqL; rw [show f x y = false from hb]; rfl
  | x :: xs, y :: ys, i + 1, h, h', hb => by unfold eqL; rw [eqL_bad i (by simpa using h) (by simpa using h') (by simpa using hb)]; simp
/-- The first k pairs agree. -/
def AllE {α : Type} (f : α → α → Bool) (xs ys : List α) (k : Nat) : Prop := ∀ i (h : i < xs.length) (h' : i < ys.length), i < k → f xs[i] ys[i] = true
theorem AllE.zero {α : Type} (f : α → α → Bool) (xs ys : List α) : AllE f xs ys 0 := fun _ _ _ h => by omega
theorem AllE.succ {α : Type} {f : α → α → Bool} {xs ys : List α} {k : Nat} (h : AllE f xs ys k) (h1 : k < xs.length) (h2 : k < ys.length) (hc : f xs[k] ys[k] = true) : AllE f xs ys (k + 1) := by
  intro i hi hi' hik
  by_cases e : i = k
  · subst e; exact hc
  · exact h i hi hi' (by omega)
theorem AllE.full {α : Type} {f : α → α → Bool} {xs ys : List α} {k : Nat} (h : AllE f xs ys k) (hk : xs.length ≤ k) (hl : xs.length = ys.length) : eqL f xs ys = true := eqL_all hl fun i a b => h i a b (by omega)
def ndE (x y : Nd) : Bool := (x.l.toList == y.l.toList) && (x.n == y.n)
def edE (x y : Ed) : Bool := (x.f == y.f) && ((x.t == y.t) && ((x.l.toList == y.l.toList) && (x.n == y.n)))
def gs (a b : Gr) : Bool := eqL ndE a.ns b.ns && eqL edE a.es b.es

theorem neqNode (x y : Nd) (w : World) : (binOp .neq 77 (.agg #[.string x.l, .int .i64 x.n]) (.agg #[.string y.l, .int .i64 y.n])).run Tryd.prog w = .ok (.bool (!ndE x y)) w := by
  have h := run_neq_struct (P := Tryd.prog) w 77 #[.string x.l, .int .i64 x.n] #[.string y.l, .int .i64 y.n]
  rw [h, run_equalIn_agg w 9999 77 _ _ (by kernel_rfl) (by kernel_rfl)]
  go_simp
  unfold ndE
  repeat' split
  all_goals simp_all

theorem neqEdge (x y : Ed) (w : World) : (binOp .neq 110 (.agg #[.int .i64 x.f, .int .i64 x.t, .string x.l, .int .i64 x.n]) (.agg #[.int .i64 y.f, .int .i64 y.t, .string y.l, .int .i64 y.n])).run Tryd.prog w = .ok (.bool (!edE x y)) w := by
  have h := run_neq_struct (P := Tryd.prog) w 110 #[.int .i64 x.f, .int .i64 x.t, .string x.l, .int .i64 x.n] #[.int .i64 y.f, .int .i64 y.t, .string y.l, .int .i64 y.n]
  rw [h, run_equalIn_agg w 9999 110 _ _ (by kernel_rfl) (by kernel_rfl)]
  go_simp
  unfold edE
  repeat' split
  all_goals simp_all

end Go.Proofs.YtbbemeaojmfndaaDoor
namespace Go.Proofs.YtbbemeaojmfndaaDoor
open Go.RowKit

/-- A text of one byte. -/
def dg (n : Int) : ByteArray := strOfNums [n]
theorem dg_size (n : Int) : (dg n).size = 1 := rfl
theorem conv_dg (w : World) (n : Int) : (convert 22 9 (.slice (some ⟨w.heap.size, 0, none⟩) 1 1)).run Tryd.prog (w.alloc (.cells #[.int .u8 n] 5)) = .ok (.string (dg n)) (w.alloc (.cells #[.int .u8 n] 5)) :=
  run_convert_bytes_arg _ 22 5 Tryd.underlying22 Tryd.underlying5 w.heap.size 0 1 1 [n] rfl (fun i hi => by
    obtain rfl : i = 0 := by omega
    simp [go_sem]) 9 Tryd.underlying9
/-- markText's digits: what has been gathered, and what is left. -/
def mtd : Nat → Int → ByteArray → ByteArray
  | 0, _, acc => acc
  | f + 1, k, acc => if 0 < k then mtd f (k / 10) (dg (48 + k % 10) ++ acc) else acc
/-- markText at a number from 1 on. -/
def mt (k : Int) : ByteArray := ⟨#[109]⟩ ++ mtd 20 k ⟨#[]⟩

set_option maxRecDepth 100000 in
set_option maxHeartbeats 1000000 in
theorem markText_any (k : Int) (w : World) (h0 : 1 ≤ k) (h1 : k ≤ 100000000) :
    Calls Tryd.prog 91 #[.int .i64 k] w fun e w' => e = .returned (.string (mt k)) ∧ Below w.heap.size w w' := by
  have hcv := conv_dg
  have q0 : decide (k ≤ 0) = false := by simp; omega
  go_enter Tryd.func91, Tryd.ntmps91
  go_wp2_with fail
  go_loopw [0, 3] (fun kk s wr => ∃ (f : Nat) (q : Int) (acc : ByteArray), f ≤ 9 ∧ kk = .int .i64 q ∧ s = .string acc ∧ 0 ≤ q ∧ q ≤ 100000000 ∧ RowKit.Hid (q < 10 ^ f) ∧ acc.size + f ≤ 9 ∧ RowKit.Hid (mtd (f + 11) q acc = mtd 20 k ⟨#[]⟩) ∧ Below w.heap.size w wr) (fun kk _ _ => (intOf kk).toNat)
  case atStart => exact ⟨9, k, ⟨#[]⟩, Nat.le_refl _, rfl, rfl, by omega, h1, Lib.hid (by omega), by simp [ByteArray.size], Lib.hid rfl, Below.refl _ _⟩
  case round =>
    obtain ⟨f, q, acc, hf, rfl, rfl, hq0, hq2, hq1, hacc, hm, hbw⟩ := hrel
    have hsz := hbw.size
    have HB := Lib.hid hbw
    clear hbw
    by_cases hq : 0 < q
    · have hq1' := hq1.out
      obtain ⟨f', rfl⟩ : ∃ f', f = f' + 1 := by
        cases f with
        | zero => simp at hq1'; omega
        | succ f' => exact ⟨f', rfl⟩
      have hp : (10 : Int) ^ (f' + 1) = 10 ^ f' * 10 := Int.pow_succ _ _
      have HQ := Lib.hid (show q / 10 < 10 ^ f' by rw [hp] at hq1'; omega)
      clear hp hq1'
      have hm' := hm.out
      have HM := Lib.hid (show mtd (f' + 11) (q / 10) (dg (48 + q % 10) ++ acc) = mtd 20 k ⟨#[]⟩ by rw [← hm', show f' + 1 + 11 = (f' + 11) + 1 from by omega]; exact (if_pos hq).symm)
      clear hm'
      have hds : (dg (48 + q % 10)).size ≤ 1 := Nat.le_of_eq (dg_size _)
      have hac : acc.size ≤ 9 := by omega
      go_wp2_with fail
      go_roundw
      case rel => exact ⟨f', q / 10, _, by omega, rfl, rfl, by omega, by omega, HQ, by rw [ByteArray.size_append, dg_size]; omega, HM, HB.out.alloc hsz _⟩
      case measure => simp [intOf]; omega
    · have hm' := hm.out
      have HM := Lib.hid (show mt k = ⟨#[109]⟩ ++ acc by unfold mt; rw [← hm']; unfold mtd; rw [if_neg hq])
      clear hm'
      have hac : acc.size ≤ 9 := by omega
      go_wp2_with fail
      go_ret
      exact ⟨by rw [HM.out]; rfl, HB.out⟩

theorem OwnSl.elem {α : Type} {sz : Nat} {enc : α → List Value} {w : World} {p : Option Addr} {len cap : Nat} {xs : List α} {F : List Nat} (h : OwnSl sz enc w (.slice p len cap) xs F) {k : Nat} (hk : k < xs.length) :
    ∃ b off, p = some ⟨b, off, none⟩ ∧ F = [b] ∧ b < w.heap.size ∧ (∀ o, w.frozen? ⟨b, o, none⟩ = false) ∧ ∀ j x, (enc xs[k])[j]? = some x → w.cell? ⟨b, off + k * sz + j, none⟩ = some x := by
  obtain ⟨p', len', cap', h1, h2, h3, h4, h5⟩ := h
  cases h1
  rcases h5 with ⟨h5, _⟩ | ⟨b, off, e1, e2, e3, e4, e5⟩
  · subst h5; simp at hk
  · exact ⟨b, off, e1, e2, e3, e4, e5 k hk⟩
theorem OwnSl.store {α : Type} {sz : Nat} {enc : α → List Value} {w : World} {b off len cap : Nat} {xs : List α} {F : List Nat} (h : OwnSl sz enc w (.slice (some ⟨b, off, none⟩) len cap) xs F) {k : Nat} (hk : k < xs.length) (hsz : ∀ x, (enc x).length = sz)
    (j : Nat) (hj : j < sz) (y : α) (u : Value) (hy : enc y = (enc xs[k]).set j u) : OwnSl sz enc (w.setCell ⟨b, off + k * sz + j, none⟩ u) (.slice (some ⟨b, off, none⟩) len cap) (xs.set k y) F := by
  obtain ⟨p', len', cap', h1, h2, h3, h4, h5⟩ := h
  cases h1
  refine ⟨_, _, _, rfl, by simpa using h2, h3, h4, ?_⟩
  rcases h5 with ⟨h5, _⟩ | ⟨b', off', e1, e2, e3, e4, e5⟩
  · subst h5; simp at hk
  · cases e1
    refine .inr ⟨b, off, rfl, e2, by simpa using e3, fun o => by simpa [go_sem] using e4 o, fun i hi j' x hx => ?_⟩
    have hi' : i < xs.length := by simpa using hi
    by_cases e : i = k
    · subst e
      rw [List.getElem_set_self, hy] at hx
      by_cases ej : j' = j
      · subst ej
        rw [List.getElem?_set_self (by rw [hsz]; exact hj)] at hx
        cases hx
        have hold := e5 i hi' j' _ (List.getElem?_eq_getElem (by rw [hsz]; exact hj))
        exact set_same _ _ _ _ _ hold
      · rw [List.getElem?_set_ne (fun h => ej h.symm)] at hx
        exact (set_near _ _ _ _ _ (by omega)).trans (e5 i hi' j' x hx)
    · rw [List.getElem_set_ne (fun h => e h.symm)] at hx
      have hj' : j' < sz := by rw [← hsz xs[i]]; exact (List.getElem?_eq_some_iff.1 hx).1
      refine (set_near _ _ _ _ _ ?_).trans (e5 i hi' j' x hx)
      rcases Nat.lt_or_gt_of_ne e with hlt | hlt
      · have : i * sz + sz ≤ k * sz := by rw [← Nat.succ_mul]; exact Nat.mul_le_mul_right _ hlt
        omega
      · have : k * sz + sz ≤ i * sz := by rw [← Nat.succ_mul]; exact Nat.mul_le_mul_right _ hlt
        omega
/-- A list whose first k elements are f's, the others xs'. -/
def half {α : Type} (f : Nat → α) (xs : List α) (k : Nat) : List α := (List.range k).map f ++ xs.drop k
theorem half_zero {α : Type} (f : Nat → α) (xs : List α) : half f xs 0 = xs := by simp [half]
theorem half_length {α : Type} (f : Nat → α) (xs : List α) {k : Nat} (h : k ≤ xs.length) : (half f xs k).length = xs.length := by simp [half]; omega
theorem half_full {α : Type} (f : Nat → α) (xs : List α) : half f xs xs.length = (List.range xs.length).map f := by simp [half]
theorem half_at {α : Type} (f : Nat → α) (xs : List α) {k : Nat} (h : k < xs.length) (h' : k < (half f xs k).length) : (half f xs k)[k] = xs[k] := by
  have e : (half f xs k)[k]? = xs[k]? := by unfold half; rw [List.getElem?_append_right (by simp)]; simp
  rw [List.getElem?_eq_getElem h', List.getElem?_eq_getElem h] at e
  exact Option.some.inj e
theorem OwnSl.restore {α : Type} {sz : Nat} {enc : α → List Value} {w : World} {b off len cap : Nat} {xs : List α} {F : List Nat} {k : Nat} {y : α} (h : OwnSl sz enc w (.slice (some ⟨b, off, none⟩) len cap) (xs.set k y) F) (hk : k < xs.length) (hsz : ∀ x, (enc x).length = sz)
    (j : Nat) (hj : j < sz) (y' : α) (u : Value) (hy : enc y' = (enc y).set j u) : OwnSl sz enc (w.setCell ⟨b, off + k * sz + j, none⟩ u) (.slice (some ⟨b, off, none⟩) len cap) (xs.set k y') F := by
  have := h.store (k := k) (by simpa using hk) hsz j hj y' u (by rw [List.getElem_set_self]; exact hy)
  rwa [List.set_set] at this
theorem OwnSl.restore1 {α : Type} {enc : α → List Value} {w : World} {b off len cap : Nat} {xs : List α} {F : List Nat} {k : Nat} {y : α} (h : OwnSl 1 enc w (.slice (some ⟨b, off, none⟩) len cap) (xs.set k y) F) (hk : k < xs.length) (hsz : ∀ x, (enc x).length = 1)
    (y' : α) (u : Value) (hy : enc y' = (enc y).set 0 u) : OwnSl 1 enc (w.setCell ⟨b, off + k, none⟩ u) (.slice (some ⟨b, off, none⟩) len cap) (xs.set k y') F := by
  have := h.restore hk hsz 0 (by decide) y' u hy
  rwa [Nat.mul_one, Nat.add_zero] at this
theorem OwnSl.setcell {α : Type} {sz : Nat} {enc : α → List Value} {w : World} {b off len cap : Nat} {xs : List α} {F : List Nat} {k : Nat} {y : α} (h : OwnSl sz enc w (.slice (some ⟨b, off, none⟩) len cap) (xs.set k y) F) (hk : k < xs.length) {j : Nat} {x : Value} (hx : (enc y)[j]? = some x) :
    w.cell? ⟨b, off + k * sz + j, none⟩ = some x ∧ w.frozen? ⟨b, off + k * sz + j, none⟩ = false := by
  obtain ⟨b', off', e1, e2, e3, e4, e5⟩ := h.elem (k := k) (by simpa using hk)
  cases e1
  exact ⟨e5 j x (by rw [List.getElem_set_self]; exact hx), e4 _⟩
theorem half_succ {α : Type} (f : Nat → α) (xs : List α) {k : Nat} (h : k < xs.length) : (half f xs k).set k (f k) = half f xs (k + 1) := by
  unfold half
  rw [List.set_append_right _ _ (by simp), List.range_succ, List.map_append, List.append_assoc]
  simp only [List.length_map, List.length_range, Nat.sub_self]
  rw [List.drop_eq_getElem_cons h]; rfl

def intCells (n : Int) : List Value := [.int .i64 n]

def mkNode (m : Int) (k : Nat) : Nd := ⟨mt (m + 2 * k), (m + 2 * k + 1)⟩

def mkEdge (m : Int) (k : Nat) : Ed := ⟨(m + 4 * k), (m + 4 * k + 1), mt (m + 4 * k + 1 + 1), (m + 4 * k + 1 + 1 + 1)⟩

def mkInt (m : Int) (k : Nat) : Int := m + k

end Go.Proofs.YtbbemeaojmfndaaDoor
namespace Go.Proofs.YtbbemeaojmfndaaDoor
open Go.RowKit

/-- A variable in block k with the cells cs, whose data P says, in the blocks F. -/
def LocV (P : Value → List Nat → World → Prop) (k : Nat) (cs : Array Value) (F : List Nat) (u : World) : Prop :=
  k < u.heap.size ∧ (∀ i x, cs[i]? = some x → u.cell? ⟨k, i, none⟩ = some x) ∧ P (.agg cs) F u
/-- P goes on to hold while other blocks change. -/
def Goes (P : Value → List Nat → World → Prop) : Prop := ∀ (v : Value) (F G : List Nat) (u u' : World), P v F u → Chg G u u' → (∀ x ∈ F, x ∉ G) → P v F u'
theorem LocV.chg {P : Value → List Nat → World → Prop} (hP : Goes P) {k : Nat} {cs : Array Value} {F G : List Nat} {u u' : World} (h : LocV P k cs F u) (hc : Chg G u u') (hk : k ∉ G) (hF : ∀ x ∈ F, x ∉ G) : LocV P k cs F u' :=
  ⟨Nat.lt_of_lt_of_le h.1 hc.size, fun i x hx => (World.cell?_of_block (w := u) (a := ⟨k, i, none⟩) (hc.block k h.1 hk)).trans (h.2.1 i x hx), hP _ _ _ _ _ h.2.2 hc hF⟩
theorem LocV.below {P : Value → List Nat → World → Prop} (hP : Goes P) {k : Nat} {cs : Array Value} {F : List Nat} {u u' : World} (h : LocV P k cs F u) (hb : Below u.heap.size u u') : LocV P k cs F u' :=
  h.chg hP (Chg.of_below hb []) (by simp) (by simp)
theorem LocV.fresh {P : Value → List Nat → World → Prop} (hP : Goes P) {cs : Array Value} {F : List Nat} {T : TypeId} {w : World} (h : P (.agg cs) F w) : LocV P w.heap.size cs F (w.alloc (.cells cs T)) :=
  ⟨by simp, fun i x hx => (World.cell?_alloc_at cs T _ i rfl).trans hx, hP _ _ [] _ _ h (Chg.of_below ((Below.refl _ _).alloc (Nat.le_refl _) _) []) (by simp)⟩
/-- The same cells, other data, where the data's blocks alone have changed. -/
theorem LocV.turn {P Q : Value → List Nat → World → Prop} {k : Nat} {cs : Array Value} {F : List Nat} {u u' : World} (h : LocV P k cs F u) (hc : Chg F u u') (hk : k ∉ F) (hq : Q (.agg cs) F u') : LocV Q k cs F u' :=
  ⟨Nat.lt_of_lt_of_le h.1 hc.size, fun i x hx => (World.cell?_of_block (w := u) (a := ⟨k, i, none⟩) (hc.block k h.1 hk)).trans (h.2.1 i x hx), hq⟩
theorem Ex.At.form {e : Ex} {B : Nat} {w : World} {v : Value} (h : e.At B w v) : ∃ p cap, v = .agg #[.int .i64 e.op, .string e.a, .slice p e.ks.list.length cap] := by
  obtain ⟨k, rfl, hk⟩ := h
  obtain ⟨p, cap, rfl⟩ := hk.form
  exact ⟨p, cap, rfl⟩
theorem Ex.goes (e : Ex) : Goes e.Has := fun _ _ _ _ _ h hc hd => h.chg hc hd
end Go.Proofs.YtbbemeaojmfndaaDoor
namespace Go.Proofs.YtbbemeaojmfndaaDoor
open Go.RowKit

theorem Sl.it {B : Nat} {w : World} {p : Option Addr} {len cap : Nat} {xs : List Int} (h : Sl 1 intCells B w (.slice p len cap) xs) {k : Nat} (hk : k < xs.length) :
    ∃ b off, p = some ⟨b, off, none⟩ ∧ b < B ∧ w.cell? ⟨b, off + k, none⟩ = some (.int .i64 xs[k]) := by
  obtain ⟨p', len', cap', h1, h2, h3, h4, h5⟩ := h
  cases h1
  obtain ⟨b, off, e1, e2, e3⟩ := h5 k hk
  have := e3 0 _ rfl
  rw [Nat.mul_one, Nat.add_zero] at this
  exact ⟨b, off, e1, e2, this⟩

end Go.Proofs.YtbbemeaojmfndaaDoor
namespace Go.Proofs.YtbbemeaojmfndaaDoor
open Go.RowKit

def Gr.marked (g : Gr) (m : Int) : Gr := ⟨(List.range g.ns.length).map (mkNode m), (List.range g.es.length).map (mkEdge (m + 2 * g.ns.length))⟩

end Go.Proofs.YtbbemeaojmfndaaDoor
namespace Go.Proofs.YtbbemeaojmfndaaDoor
open Go.RowKit

end Go.Proofs.YtbbemeaojmfndaaDoor
namespace Go.Proofs.YtbbemeaojmfndaaDoor
open Go.RowKit

def byCells (z : Int) : List Value := [.int .u8 z]
/-- A drawing source in block a, n bytes of which have been asked for. -/
def Rd (w : World) (a n : Nat) : Prop :=
  ∃ (p : Option Addr) (cap : Nat) (zs : List Int), w.heap[a]? = some (.cells #[.slice p zs.length cap, .int .i64 n] 93 (0, 0)) ∧ Sl 1 byCells a w (.slice p zs.length cap) zs ∧ (∀ z ∈ zs, 0 ≤ z ∧ z ≤ 255) ∧ zs.length ≤ 2000
theorem Sl.by {B : Nat} {w : World} {p : Option Addr} {len cap : Nat} {xs : List Int} (h : Sl 1 byCells B w (.slice p len cap) xs) {k : Nat} (hk : k < xs.length) :
    ∃ b off, p = some ⟨b, off, none⟩ ∧ b < B ∧ w.cell? ⟨b, off + k, none⟩ = some (.int .u8 xs[k]) := by
  obtain ⟨p', len', cap', h1, h2, h3, h4, h5⟩ := h
  cases h1
  obtain ⟨b, off, e1, e2, e3⟩ := h5 k hk
  have := e3 0 _ rfl
  rw [Nat.mul_one, Nat.add_zero] at this
  exact ⟨b, off, e1, e2, this⟩
theorem Rd.lt {w : World} {a n : Nat} (h : Rd w a n) : a < w.heap.size := by
  obtain ⟨p, cap, zs, h1, _⟩ := h
  exact (Array.getElem?_eq_some_iff.1 h1).1
theorem Rd.keep {w w' : World} {a n : Nat} (h : Rd w a n) (hb : ∀ k, k ≤ a → w'.heap[k]? = w.heap[k]?) : Rd w' a n := by
  obtain ⟨p, cap, zs, h1, h2, h3, h4⟩ := h
  refine ⟨p, cap, zs, (hb a (Nat.le_refl _)).trans h1, ?_, h3, h4⟩
  obtain ⟨p', len', cap', e1, e2, e3, e4, e5⟩ := h2
  refine ⟨p', len', cap', e1, e2, e3, e4, fun i hi => ?_⟩
  obtain ⟨b, off, q1, q2, q3⟩ := e5 i hi
  exact ⟨b, off, q1, q2, fun j x hx => (World.cell?_of_block (w := w) (a := ⟨b, _, none⟩) (hb b (by omega))).trans (q3 j x hx)⟩
theorem Rd.below {w w' : World} {a n B : Nat} (h : Rd w a n) (hb : Below B w w') (hB : a < B) : Rd w' a n := h.keep fun k hk => hb.block k (by omega)
theorem Rd.next {w : World} {a n : Nat} (h : Rd w a n) : Rd (w.setCell ⟨a, 1, none⟩ (.int .i64 ((n : Int) + 1))) a (n + 1) := by
  obtain ⟨p, cap, zs, h1, h2, h3, h4⟩ := h
  refine ⟨p, cap, zs, ?_, ?_, h3, h4⟩
  · simp [World.setCell, Array.getElem?_modify, h1]
  · obtain ⟨p', len', cap', e1, e2, e3, e4, e5⟩ := h2
    refine ⟨p', len', cap', e1, e2, e3, e4, fun i hi => ?_⟩
    obtain ⟨b, off, q1, q2, q3⟩ := e5 i hi
    exact ⟨b, off, q1, q2, fun j x hx => (set_far _ _ _ _ _ _ (by omega)).trans (q3 j x hx)⟩

theorem xor_nonneg (X : Int) (h0 : 0 ≤ X) (h1 : X < 9223372036854775808) : 0 ≤ bits .xor .i64 X (X / 64) := by
  obtain ⟨a, rfl⟩ := Int.eq_ofNat_of_zero_le h0
  have ha : a < 2 ^ 63 := by omega
  have hb : a / 64 < 2 ^ 63 := by omega
  have e : ((a : Int) / 64) = ((a / 64 : Nat) : Int) := rfl
  rw [e]
  have ha' : a % 2 ^ 64 = a := Nat.mod_eq_of_lt (by omega)
  have hb' : (a / 64) % 2 ^ 64 = a / 64 := Nat.mod_eq_of_lt (by omega)
  have hc : a ^^^ (a / 64) < 2 ^ 63 := Nat.xor_lt_two_pow ha hb
  have e2 : (BitVec.ofInt 64 (a : Int) ^^^ BitVec.ofInt 64 ((a / 64 : Nat) : Int)).toNat = a ^^^ (a / 64) := by
    rw [BitVec.toNat_xor, BitVec.ofInt_natCast, BitVec.ofInt_natCast, BitVec.toNat_ofNat, BitVec.toNat_ofNat, ha', hb']
  show 0 ≤ IntKind.i64.wrap ((BitVec.ofInt 64 (a : Int) ^^^ BitVec.ofInt 64 ((a / 64 : Nat) : Int)).toNat : Int)
  rw [e2, IntKind.wrap_i64]
  omega
theorem Chg.drewN {F : List Nat} {a w : World} (h : Chg F a w) (n : Nat) : Chg F a (w.drewN n) := by
  exact ⟨h.os, h.tape, h.output, h.size, h.block⟩
theorem Rd.drewN {w : World} {a n : Nat} (h : Rd w a n) (k : Nat) : Rd (w.drewN k) a n := by
  exact h.keep fun _ _ => rfl
def top (m : Int) : Int := if 1 ≤ m then m else 1
theorem top_pos (m : Int) : 0 < top m := by unfold top; split <;> omega
theorem top_of {m : Int} (h : 1 ≤ m) : top m = m := if_pos h
/-- What a draw answers: a number below m, or 0. -/
def Picked (m : Int) (a n : Nat) (w : World) (e : Ending) (w' : World) : Prop :=
  ∃ q : Int, e = .returned (.int .i64 q) ∧ 0 ≤ q ∧ q < top m ∧ Rd w' a (n + 1) ∧ Chg [a] w w'

set_option maxRecDepth 100000 in
set_option maxHeartbeats 2000000 in
theorem pick_any (m : Int) (a n : Nat) (w : World) (h : Rd w a n) (hn : n ≤ 1000000) :
    Calls Tryd.prog 52 #[.pointer (some ⟨a, 0, none⟩), .int .i64 m] w (Picked m a n w) := by
  have HN := Lib.hid h.next
  have hal := h.lt
  obtain ⟨p, cap, zs, h1, h2, h3, h4⟩ := h
  have c0 : w.cell? ⟨a, 0, none⟩ = some (.slice p zs.length cap) := by simp [World.cell?, h1]
  have c1 : w.cell? ⟨a, 1, none⟩ = some (.int .i64 n) := by simp [World.cell?, h1]
  have f1 : w.frozen? ⟨a, 1, none⟩ = false := by simp [World.frozen?, h1]
  have HC := Lib.hid ((Chg.refl [a] w).setCell (p := ⟨a, 1, none⟩) (by simp) (.int .i64 ((n : Int) + 1)))
  clear h1
  by_cases hm : m < 1
  · have HM := Lib.hid (top_pos m)
    go_enter Tryd.func52, Tryd.ntmps52
    go_wp2_with fail
    go_ret
    exact ⟨0, rfl, Int.le_refl _, HM.out, HN.out, HC.out⟩
  · have hm1 : 1 ≤ m := by omega
    have HM := Lib.hid (top_of hm1)
    clear hm
    by_cases hz : zs.length = 0
    · have q0 : ((zs.length : Int) == 0) = true := beq_iff_eq.2 (by omega)
      clear hz
      go_enter Tryd.func52, Tryd.ntmps52
      go_wp2_with fail
      go_ret
      exact ⟨0, rfl, Int.le_refl _, by rw [HM.out]; show (0 : Int) < m; omega, HN.out, HC.out⟩
    · have q0 : ((zs.length : Int) == 0) = false := beq_eq_false_iff_ne.2 (by omega)
      have hz1 : 1 ≤ zs.length := by omega
      clear hz
      by_cases hk : n < zs.length
      · obtain ⟨b, off, rfl, hb, cb⟩ := h2.by hk
        have hx := h3 _ (List.getElem_mem hk)
        obtain ⟨x, ex⟩ : ∃ x, x = zs[n] := ⟨_, rfl⟩
        rw [← ex] at cb hx
        clear ex
        obtain ⟨x0, x1⟩ := hx
        have hne : a ≠ b := by omega
        go_enter Tryd.func52, Tryd.ntmps52
        go_wp2_with fail
        go_ret
        exact ⟨x % m, rfl, Int.emod_nonneg _ (by omega), by rw [HM.out]; exact Int.emod_lt_of_pos _ (by omega), HN.out, HC.out⟩
      · have hr1 : n % zs.length < zs.length := Nat.mod_lt _ (by omega)
        have hr2 : (n * 7 + 3) % zs.length < zs.length := Nat.mod_lt _ (by omega)
        obtain ⟨b, off, rfl, hb, cb⟩ := h2.by hr1
        obtain ⟨b', off', e', hb', cb'⟩ := h2.by hr2
        cases e'
        have hx := h3 _ (List.getElem_mem hr1)
        have hy := h3 _ (List.getElem_mem hr2)
        obtain ⟨x, ex⟩ : ∃ x, x = zs[n % zs.length] := ⟨_, rfl⟩
        obtain ⟨y, ey⟩ : ∃ y, y = zs[(n * 7 + 3) % zs.length] := ⟨_, rfl⟩
        rw [← ex] at cb hx
        rw [← ey] at cb' hy
        clear ex ey
        obtain ⟨x0, x1⟩ := hx
        obtain ⟨y0, y1⟩ := hy
        have hne : a ≠ b := by omega
        have j1 : (0 : Int) ≤ (n : Int) / (zs.length : Int) := Int.ediv_nonneg (by omega) (by omega)
        have j2 : (n : Int) / (zs.length : Int) ≤ 1000000 := Int.le_trans (Int.ediv_le_self _ (by omega)) (by omega)
        have i1 : (0 : Int) ≤ (n : Int) % (zs.length : Int) := Int.emod_nonneg _ (by omega)
        have i2 : (n : Int) % (zs.length : Int) < (zs.length : Int) := Int.emod_lt_of_pos _ (by omega)
        have i3 : (0 : Int) ≤ ((n : Int) * 7 + 3) % (zs.length : Int) := Int.emod_nonneg _ (by omega)
        have i4 : ((n : Int) * 7 + 3) % (zs.length : Int) < (zs.length : Int) := Int.emod_lt_of_pos _ (by omega)
        have hxor := xor_nonneg (x * 131 + y * 1117 + (n : Int) * 29 + (n : Int) / (zs.length : Int) * 53) (by omega) (by omega)
        go_enter Tryd.func52, Tryd.ntmps52
        go_wp2_with fail
        go_quiet (fail)
        go_wp2_with fail
        go_ret
        exact ⟨_, rfl, Int.emod_nonneg _ (by omega), by rw [HM.out]; exact Int.emod_lt_of_pos _ (by omega), HN.out.drewN _, HC.out.drewN _⟩
end Go.Proofs.YtbbemeaojmfndaaDoor
namespace Go.Proofs.YtbbemeaojmfndaaDoor
open Go.ChangeShapes Go.WideShapes Go.Deep Go.RowKit

section
variable {H : Type} {enc : TypeId × Value → H} {P : Program} {w : World} {base : Nat} {spare : Nat → Bool} {held : Bool}
/-- A slice of structs of one-cell fields that is read: each field's cell, and its own reading. -/
theorem open_struct_rows {t e : TypeId} {fs : Array Field} {fuel : Nat} {v : Value} {x : DataW H × List MemPlace} (ht : P.underlying t = some (.slice e)) (he : P.underlying e = some (.struct fs))
    (hone : oneCellFields P fs = true) (hC : P.cellsOf e = fs.size) (hpos : 0 < fs.size) (h : DataW.trod enc P w base spare held fuel t [v] = some x) :
    ∃ (p : Option Addr) (len cap : Nat), v = .slice p len cap ∧ len ≤ cap ∧ cap ≤ maxLen ∧
      ∀ i, i < len → ∃ (b off : Nat) (n : Nat), p = some ⟨b, off, none⟩ ∧ b < w.heap.size ∧ ∀ (j : Nat) (f : Field), fs[j]? = some f → ∃ (u : Value) (y : DataW H × List MemPlace), w.cell? ⟨b, off + i * fs.size + j, none⟩ = some u ∧ DataW.trod enc P w base spare held n f.type [u] = some y := by
  rcases open_slice ht h with ⟨h0, _⟩ | ⟨a, len, cap, m, n, D, Pl, hcs, hb, hl, hm, hmm, hx, hi⟩
  · simp at h0
    exact ⟨none, 0, 0, h0, Nat.le_refl _, Nat.zero_le _, fun i hi => by omega⟩
  · simp at hcs
    have hlm : len ≤ m := by rw [hmm]; split <;> omega
    have key : ∀ i, i < len → ∃ n : Nat, ∀ (j : Nat) (f : Field), fs[j]? = some f → ∃ (u : Value) (y : DataW H × List MemPlace), w.cell? (a.add (i * fs.size + j)) = some u ∧ DataW.trod enc P w base spare held n f.type [u] = some y := by
      intro i him
      obtain ⟨cs', hc, ht'⟩ := hi i (by omega)
      rw [hC] at hc
      obtain ⟨ys, n', hn', hy, hlen, hyl, hf⟩ := DataW.trod_struct he ht'
      obtain ⟨_, hcl, hat⟩ := World.cells?_some hc
      refine ⟨n', fun j f hj => ?_⟩
      obtain ⟨ho, hk⟩ := hone_of hone j f hj
      have hjl : j < fs.size := (Array.getElem?_eq_some_iff.1 hj).1
      have hcell := hat j hjl
      have hv : cs'[j]? = some (cs'[j]'(by omega)) := List.getElem?_eq_getElem (by omega)
      have h1 := hf j f hj
      rw [ho, hk] at h1
      have hone' : (cs'.drop j).take 1 = [cs'[j]'(by omega)] := by
        rw [List.drop_eq_getElem_cons (by omega)]
        rfl
      rw [hone'] at h1
      have hys : ys[j]? = some (ys[j]'(by omega)) := List.getElem?_eq_getElem (by omega)
      refine ⟨_, _, ?_, h1.trans hys⟩
      rw [← Go.Deep.add_add, hcell, hv]
    refine ⟨some a, len, cap, hcs, hl, hm, fun i him => ?_⟩
    obtain ⟨n0, k0⟩ := key 0 (by omega)
    obtain ⟨u0, y0, c0, _⟩ := k0 0 _ (Array.getElem?_eq_getElem hpos)
    rw [Nat.zero_mul, Nat.add_zero] at c0
    obtain ⟨b, off, spot⟩ := a
    have hs : spot = none := by simpa [Addr.add] using World.cell?_spot c0
    subst hs
    obtain ⟨n, hn⟩ := key i him
    refine ⟨b, off, n, rfl, by simpa [Addr.add] using World.block_lt_of_cell? w _ c0, fun j f hj => ?_⟩
    obtain ⟨u, y, h1, h2⟩ := hn j f hj
    rw [add_plain, ← Nat.add_assoc] at h1
    exact ⟨u, y, h1, h2⟩
end

/-- From a fact at each index to a list. -/
theorem sl_of {α : Type} {sz : Nat} {enc : α → List Value} {w : World} {p : Option Addr} {len cap : Nat} (hl : len ≤ cap) (hm : cap ≤ maxLen) (Ok : α → Prop)
    (h : ∀ i, i < len → ∃ x : α, (∃ b off, p = some ⟨b, off, none⟩ ∧ b < w.heap.size ∧ ∀ j v, (enc x)[j]? = some v → w.cell? ⟨b, off + i * sz + j, none⟩ = some v) ∧ Ok x) :
    ∃ xs : List α, Sl sz enc w.heap.size w (.slice p len cap) xs ∧ ∀ x ∈ xs, Ok x := by
  refine ⟨List.ofFn fun i : Fin len => Classical.choose (h i.1 i.2), ⟨p, len, cap, rfl, by simp, hl, hm, fun i hi => ?_⟩, fun x hx => ?_⟩
  · rw [List.getElem_ofFn]
    exact (Classical.choose_spec (h i (by simpa using hi))).1
  · obtain ⟨i, rfl⟩ := List.mem_ofFn.1 hx
    exact (Classical.choose_spec (h i.1 i.2)).2
end Go.Proofs.YtbbemeaojmfndaaDoor
namespace Go.Proofs.YtbbemeaojmfndaaDoor
open Go.RowKit

set_option maxHeartbeats 1000000 in
/-- (*l14Rd).of: one of the list's texts. -/
theorem of_any (ss : List ByteArray) (a n b cap : Nat) (w : World) (h : Rd w a n) (hn : n ≤ 1000000) (hpos : 0 < ss.length) (hlen : ss.length ≤ 1000) (hab : b ≠ a) (hc : ∀ i (hi : i < ss.length), w.cell? ⟨b, i, none⟩ = some (.string ss[i])) :
    Calls Tryd.prog 56 #[.pointer (some ⟨a, 0, none⟩), .slice (some ⟨b, 0, none⟩) ss.length cap] w fun e w' => (∃ i, ∃ hi : i < ss.length, e = .returned (.string ss[i])) ∧ Rd w' a (n + 1) ∧ Chg [a] w w' := by
  go_enter Tryd.func56, Tryd.ntmps56
  have HC := Lib.hid hc
  clear hc
  go_wp2_with fail
  refine (pick_any _ a n _ h hn).mono ?_
  rintro e w1 ⟨q, rfl, hq0, hq1, hr, hch⟩
  rw [top_of (by omega)] at hq1
  obtain ⟨i, rfl⟩ := Int.eq_ofNat_of_zero_le hq0
  have hi : i < ss.length := by omega
  have hcell : w1.cell? ⟨b, i, none⟩ = some (.string ss[i]) :=
    (World.cell?_of_block (w := w) (a := ⟨b, i, none⟩) (hch.block b (World.block_lt_of_cell? w _ (HC.out i hi)) (by simpa using hab))).trans (HC.out i hi)
  have HR := Lib.hid hr
  have HCH := Lib.hid hch
  obtain ⟨s, es⟩ : ∃ s, s = ss[i] := ⟨_, rfl⟩
  rw [← es] at hcell
  have ES := Lib.hid es
  clear hr hch es
  go_wp2_with fail
  go_ret
  exact ⟨⟨i, hi, by rw [← ES.out]; rfl⟩, HR.out, HCH.out⟩

set_option maxHeartbeats 1000000 in
/-- l14Open -/
theorem open_any (zs : List Int) (v : Value) (B : Nat) (w : World) (hv : Sl 1 byCells B w v zs) (hB : B ≤ w.heap.size) (hz : ∀ z ∈ zs, 0 ≤ z ∧ z ≤ 255) :
    Calls Tryd.prog 24 #[v] w fun e w' => e = .returned (.pointer (some ⟨w.heap.size, 0, none⟩)) ∧ Rd w' w.heap.size 0 ∧ w'.heap.size = w.heap.size + 1 ∧ Below w.heap.size w w' := by
  obtain ⟨p, cap, rfl⟩ := hv.form
  have hm := hv.max
  have hm' := hm
  unfold maxLen at hm
  by_cases hl : zs.length ≤ 2000
  · go_enter Tryd.func24, Tryd.ntmps24
    go_wp2_with fail
    go_ret
    refine ⟨rfl, ⟨p, cap, zs, heap_alloc_new w _, (hv.below ((Below.refl B w).alloc hB _)).mono hB, hz, hl⟩, by simp, (Below.refl _ _).alloc (Nat.le_refl _) _⟩
  · have hcut : Sl 1 byCells B w (.slice p 2000 cap) (zs.take 2000) := by
      obtain ⟨p', len', cap', h1, h2, h3, h4, h5⟩ := hv
      cases h1
      refine ⟨p, 2000, cap, rfl, by simp; omega, by omega, h4, fun i hi => ?_⟩
      have hi' : i < zs.length := by simp at hi; omega
      obtain ⟨b, off, e1, e2, e3⟩ := h5 i hi'
      exact ⟨b, off, e1, e2, fun j x hx => e3 j x (by rw [List.getElem_take] at hx; exact hx)⟩
    have hl' : 2000 < zs.length := by omega
    have HT := Lib.hid (show (zs.take 2000).length = 2000 by simp; omega)
    go_enter Tryd.func24, Tryd.ntmps24
    go_wp2_with fail
    go_ret
    refine ⟨rfl, ⟨p, cap, zs.take 2000, by rw [HT.out]; exact heap_alloc_new w _, ?_, fun z hz' => hz z (List.mem_of_mem_take hz'), by rw [HT.out]; omega⟩, by simp, (Below.refl _ _).alloc (Nat.le_refl _) _⟩
    rw [HT.out]
    exact (hcut.below ((Below.refl B w).alloc hB _)).mono hB

section
open Go.ChangeShapes Go.WideShapes Go.Deep
variable {H : Type} {enc : TypeId × Value → H} {w : World} {base : Nat} {spare : Nat → Bool} {held : Bool}
set_option maxRecDepth 100000 in
/-- A list of bytes that came in. -/
theorem open_bytes {r : Reach} {b0 : Nat} {v : Value} {d : DataW H} {p : List MemPlace} (hv : Value.okWide Tryd.prog w r b0 22 v) (h : DataW.Trod enc Tryd.prog w base spare held 22 v d p) :
    ∃ zs : List Int, Sl 1 byCells w.heap.size w v zs ∧ ∀ z ∈ zs, 0 ≤ z ∧ z ≤ 255 := by
  obtain ⟨p', len', cap', rfl⟩ := okWide_slice Tryd.underlying22 hv
  obtain ⟨fuel, hf⟩ := h
  rcases open_slice1 Tryd.underlying22 (by kernel_rfl) hf with ⟨h0, _⟩ | ⟨a, len, cap, m, n, V, D, Pl, hcs, hb, hl, hm, hmm, hx, hi⟩
  · simp [Value.cells] at h0
    obtain ⟨rfl, rfl, rfl⟩ := h0
    exact ⟨[], ⟨none, 0, 0, rfl, rfl, Nat.le_refl _, Nat.zero_le _, fun i hi => by simp at hi⟩, by simp⟩
  · simp [Value.cells] at hcs
    obtain ⟨rfl, rfl, rfl⟩ := hcs
    have hlm : len' ≤ m := by rw [hmm]; split <;> omega
    obtain ⟨zs, hz, hok⟩ := sl_of (enc := byCells) (sz := 1) (w := w) (p := some a) (len := len') (cap := cap') hl hm (fun z => 0 ≤ z ∧ z ≤ 255) (fun i him => by
      obtain ⟨h1, h2⟩ := hi i (by omega)
      obtain ⟨z, hz, _, hw⟩ := DataW.trod_int Tryd.underlying5 h2
      simp at hz
      have h00 := (hi 0 (by omega)).1
      obtain ⟨b, off, spot⟩ := a
      have hs : spot = none := by simpa [Addr.add] using World.cell?_spot h00
      subst hs
      rw [add_plain] at h1
      refine ⟨z, ⟨b, off, rfl, World.block_lt_of_cell? w _ h1, fun j u hu => ?_⟩, ?_⟩
      · match j, hu with
        | 0, hu => simp [byCells] at hu; subst hu; rw [Nat.mul_one, Nat.add_zero, h1, hz]
        | j + 1, hu => simp [byCells] at hu
      · have := hw
        simp [Lit.wf, IntKind.min, IntKind.max, IntKind.signed, IntKind.bits] at this
        omega)
    exact ⟨zs, hz, hok⟩
end
end Go.Proofs.YtbbemeaojmfndaaDoor
namespace Go.Proofs.YtbbemeaojmfndaaDoor
open Go.RowKit

theorem flt_back {α : Type} {enc : α → List Value} {sz : Nat} (h : ∀ x, (enc x).length = sz) : ∀ (xs : List α) (j : Nat) (u : Value), (flt enc xs)[j]? = some u → ∃ (i : Nat) (hi : i < xs.length) (k : Nat), j = i * sz + k ∧ (enc xs[i])[k]? = some u
  | [], j, u, hj => by simp [flt] at hj
  | x :: xs, j, u, hj => by
    simp only [flt, List.flatMap_cons] at hj
    by_cases hlt : j < (enc x).length
    · rw [List.getElem?_append_left hlt] at hj
      exact ⟨0, by simp, j, by simp, hj⟩
    · rw [List.getElem?_append_right (by omega)] at hj
      obtain ⟨i, hi, k, e, hk⟩ := flt_back h xs _ u hj
      rw [h] at e hlt
      exact ⟨i + 1, by simpa using hi, k, by rw [Nat.succ_mul]; omega, by simpa using hk⟩
theorem Sl.fcells {α : Type} {enc : α → List Value} {sz : Nat} (h : ∀ x, (enc x).length = sz) {B : Nat} {w : World} {p : Option Addr} {len cap : Nat} {xs : List α} (hs : Sl sz enc B w (.slice p len cap) xs) :
    ∀ ad, p = some ad → ∀ j u, (flt enc xs)[j]? = some u → w.cell? (ad.add j) = some u := by
  intro ad hp j u hu
  obtain ⟨p', len', cap', h1, h2, h3, h4, h5⟩ := hs
  cases h1
  obtain ⟨i, hi, k, rfl, hk⟩ := flt_back h xs j u hu
  obtain ⟨b, off, e1, e2, e3⟩ := h5 i hi
  rw [e1] at hp
  cases hp
  rw [WideShapes.add_plain, ← Nat.add_assoc]
  exact e3 k u hk
theorem run_append_none {P : Program} (w : World) (t ty e : TypeId) (i : TypeInfo) (ht : P.underlying t = some (.slice e)) (hi : P.info? e = some i) (p q : Option Addr) (n cap c : Nat) (hp : p = none → n = 0 ∧ cap = 0) (hn : n ≤ cap) :
    (Builtin.append_ #[t, t] ty #[.slice p n cap, .slice q 0 c]).run P w = .ok (.slice p n cap) w := by
  have hf : (Builtin.firstCells i.size 0 (.slice q 0 c)).run P w = .ok #[] w := by
    cases q with
    | none => exact run_firstCells_none w i.size 0 0 c
    | some a => exact run_firstCells_some w i.size 0 a 0 c [] (by simp) (by simp)
  cases p with
  | none =>
    obtain ⟨rfl, rfl⟩ := hp rfl
    simp [Builtin.append_, run_underlying ht, sizeOf, typeInfo, hi, Builtin.lenOf, hf]
  | some a => simp [Builtin.append_, run_underlying ht, sizeOf, typeInfo, hi, Builtin.lenOf, hf, hn, storeCells]
/-- An append, by whatever its run is known to give. -/
theorem wpApp {P : Program} {w : World} {ops : Array Oper} {rest : List Oper} {o : Oper} {a : Act} {Q : Exit → Act → World → Prop} (hgd : o.guard = none) (s x : Operand) (t : TypeId)
    (ho : o.op = .call { callee := .builtin .append, args := #[s, x], argTypes := #[t, t] }) (vs vx : Value) (hs : a.eval s = vs) (hx : a.eval x = vx) (R : Value → World → Prop)
    (hr : ∃ v' w', (Builtin.append_ #[t, t] o.type #[vs, vx]).run P w = .ok v' w' ∧ R v' w') (h : ∀ v' w', R v' w' → wpList P ops Q rest (a.put o.dst v') w') : wpList P ops Q (o :: rest) a w := by
  refine wpList_plain hgd fun K hK => ?_
  obtain ⟨v', w', hr, hR⟩ := hr
  unfold Oper.wp execOp
  simp only [ho, resolve, invoke, builtin, Sem.run_bind, Sem.run_pure, Result.andThen_ok, List.map_toArray, List.map_cons, List.map_nil, hs, hx, hr]
  exact hK _ _ (h v' w' hR)
theorem OwnS.form {α : Type} {sz : Nat} {enc : α → List Value} {e : TypeId} {w : World} {v : Value} {xs : List α} {F : List Nat} (h : OwnS sz enc e w v xs F) : ∃ p cap, v = .slice p xs.length cap := by
  obtain ⟨p, cap, rfl, _⟩ := h
  exact ⟨_, _, rfl⟩
theorem OwnS.empty {α : Type} {sz : Nat} {enc : α → List Value} {e : TypeId} {w : World} (p : Option Addr) : OwnS (α := α) sz enc e w (.slice p 0 0) [] [] := ⟨p, 0, rfl, Nat.le_refl _, Nat.zero_le _, .inl ⟨rfl, rfl, rfl⟩⟩

/-- Another row, behind the others. -/
theorem OwnS.appends {α : Type} {sz : Nat} {enc : α → List Value} (hen : ∀ x, (enc x).length = sz) (hone : ∀ (x : α), ∀ u ∈ enc x, u.oneCell' = true) {w : World} {v : Value} {xs : List α} {F : List Nat}
    (t ty e : TypeId) (i : TypeInfo) (z : Value) (bytes : Nat) (ht : Tryd.prog.underlying t = some (.slice e)) (hi : Tryd.prog.info? e = some i) (hz : i.zero = some z) (hsz : i.size = sz) (hby : i.bytes = bytes) (hzs : z.cells.size = sz)
    (h : OwnS sz enc e w v xs F) (ys : List α) (u : Value) (B : Nat) (hu : Sl sz enc B w u ys) (h63 : xs.length + ys.length ≤ 3000000) (hbytes : (xs.length + ys.length) * bytes ≤ 140737488355328) :
    ∃ v' w', (Builtin.append_ #[t, t] ty #[v, u]).run Tryd.prog w = .ok v' w' ∧ ∃ F', OwnS sz enc e w' v' (xs ++ ys) F' ∧ (∀ x ∈ F', x ∈ F ∨ w.heap.size ≤ x) ∧ Chg F w w' := by
  have hfl : flt enc (xs ++ ys) = flt enc xs ++ flt enc ys := flt_append _ _ _
  have hly : (flt enc ys).length = ys.length * sz := flt_length hen ys
  obtain ⟨q, c, rfl⟩ := hu.form
  by_cases hys : ys = []
  · subst hys
    have h0 := h
    obtain ⟨p, cap, rfl, h2, h3, h4⟩ := h
    refine ⟨_, _, run_append_none w t ty e i ht hi p q xs.length cap c (fun e => ?_) h2, F, by simpa using h0, fun x hx => .inl hx, Chg.refl _ _⟩
    rcases h4 with ⟨rfl, _, rfl⟩ | ⟨b, cur, e2, _⟩
    · exact ⟨rfl, rfl⟩
    · rw [e2] at e; cases e
  have hpos : 0 < ys.length := List.length_pos_iff.2 hys
  have hone' : ∀ u ∈ flt enc ys, u.oneCell' = true := fun u hu => by
    obtain ⟨x, _, hx⟩ := List.mem_flatMap.1 hu
    exact hone x u hx
  obtain ⟨ad, rfl⟩ : ∃ ad, q = some ad := by
    obtain ⟨_, _, _, e1, _, _, _, e5⟩ := hu
    cases e1
    obtain ⟨b, off, e1, _⟩ := e5 0 hpos
    exact ⟨_, e1⟩
  have hca := Sl.fcells hen hu ad rfl
  obtain ⟨p, cap, rfl, h2, h3, h4⟩ := h
  have hout : ∀ (old C : Nat) (cs : Array Value), C = grownCap w (xs.length + ys.length) old e → cs = (flt enc xs).toArray ++ (flt enc ys).toArray ++ Builtin.zeroCells z.cells (C - (xs.length + ys.length)) →
      ∃ F', OwnS sz enc e (w.drew.alloc (.cells cs e)) (.slice (some ⟨w.heap.size, 0, none⟩) (xs.length + ys.length) C) (xs ++ ys) F' ∧ (∀ x ∈ F', x ∈ F ∨ w.heap.size ≤ x) ∧ Chg F w (w.drew.alloc (.cells cs e)) := by
    intro old C cs hC hcs
    have h1 : xs.length + ys.length ≤ C := by rw [hC]; exact grownCap_ge w _ _ e
    have h2 : C ≤ maxLen := by rw [hC]; exact grownCap_le_maxLen w _ _ e (by unfold maxLen; omega)
    refine ⟨[w.heap.size], ⟨_, C, by simp, by simpa using h1, h2, .inr ⟨_, cs, rfl, rfl, heap_alloc_new w.drew _, ?_, ?_⟩⟩, by simp, Chg.of_below ((Below.refl _ w).drew.alloc (Nat.le_refl _) _) F⟩
    · rw [hcs, Array.size_append, Array.size_append, List.size_toArray, List.size_toArray, flt_length hen, hly, size_zeroCells, hzs]
      have e1 : C = C - (xs.length + ys.length) + xs.length + ys.length := by omega
      have e2 : C * sz = (C - (xs.length + ys.length)) * sz + xs.length * sz + ys.length * sz := by
        conv => lhs; rw [e1, Nat.add_mul, Nat.add_mul]
      omega
    · rw [hfl, hcs]
      have hl : (flt enc xs ++ flt enc ys).length = (xs ++ ys).length * sz := by rw [List.length_append, flt_length hen, hly, List.length_append, Nat.add_mul]
      simp only [Array.toList_append, List.append_assoc]
      rw [← List.append_assoc, ← hl]
      exact List.take_left
  have hb1 : (xs.length + ys.length) * i.bytes ≤ 140737488355328 := by rw [hby]; exact hbytes
  rcases h4 with ⟨rfl, rfl, rfl⟩ | ⟨b, cur, rfl, rfl, hg, hs, htk⟩
  · cases p with
    | none =>
      have hr := run_append_nil (P := Tryd.prog) (w := w) t ty e i z ht hi hz ad ys.length c (flt enc ys) (by rw [hly, hsz]) hca hpos (by omega) (by simp at hb1; omega)
      refine ⟨_, _, hr, ?_⟩
      have := hout 0 _ _ rfl rfl
      simpa [flt] using this
    | some G =>
      have hr := run_append_grow (P := Tryd.prog) (w := w) t ty e i z ht hi hz G 0 0 [] (by simp) (by simp) ad ys.length c (flt enc ys) (by rw [hly, hsz]) hca (by omega) (by omega) (growslice_fits (by omega) (by simpa using hb1))
      refine ⟨_, _, hr, ?_⟩
      have := hout 0 _ _ rfl rfl
      simpa [flt] using this
  · have hb : b < w.heap.size := (Array.getElem?_eq_some_iff.1 hg).1
    by_cases hroom : xs.length + ys.length ≤ cap
    · have hfit : xs.length * i.size + (flt enc ys).length ≤ cur.size := by rw [hly, hsz, hs, ← Nat.add_mul]; exact Nat.mul_le_mul_right _ hroom
      have hr := run_append_room (P := Tryd.prog) (w := w) t ty e i ht hi b xs.length cap cur hg ad ys.length c (flt enc ys) (by rw [hly, hsz]) hca hone' hroom hfit
      have hl1 : (cur.toList.take (xs.length * sz)).length = xs.length * sz := by rw [htk, flt_length hen]
      refine ⟨_, _, hr, [b], ⟨_, cap, by simp, by simpa using hroom, h3, .inr ⟨b, _, rfl, rfl, setRow_heap w b cur _ e _ hg, ?_, ?_⟩⟩, by simp, ⟨rfl, rfl, rfl, by simp, fun k _ hk => setRow_other w b k _ (fun e => hk (by simp [e]))⟩⟩
      · rw [hsz, hly] at hfit ⊢
        simp only [List.size_toArray, List.length_append, List.length_drop, Array.length_toList, hl1, hly]
        omega
      · rw [hfl, hsz]
        have hl : (flt enc xs ++ flt enc ys).length = (xs ++ ys).length * sz := by rw [List.length_append, flt_length hen, hly, List.length_append, Nat.add_mul]
        rw [htk, ← hl]
        exact List.take_left
    · have hown : w.ownsRow b e sz (.slice (some ⟨b, 0, none⟩) xs.length cap) xs.length (flt enc xs) := ⟨flt_length hen xs, .inr ⟨b, cap, cur, rfl, Nat.le_refl _, hg, h2, h3, hs, htk⟩⟩
      have holds : ∀ j u, (flt enc xs)[j]? = some u → w.cell? ((⟨b, 0, none⟩ : Addr).add j) = some u := hown.cells (g := b) rfl
      have hr := run_append_grow (P := Tryd.prog) (w := w) t ty e i z ht hi hz ⟨b, 0, none⟩ xs.length cap (flt enc xs) (by rw [flt_length hen, hsz]) holds ad ys.length c (flt enc ys) (by rw [hly, hsz]) hca (by omega) (by omega) (growslice_fits (by omega) hb1)
      refine ⟨_, _, hr, ?_⟩
      have := hout cap _ _ rfl rfl
      simpa using this
end Go.Proofs.YtbbemeaojmfndaaDoor
namespace Go.Proofs.YtbbemeaojmfndaaDoor
open Go

section
variable {P : Program} {ops : Array Oper} {Q : Exit → Act → World → Prop} {md : Region.Mode} {S : World → Prop} {last : Nat}

/-- Whatever order is picked from here on; S holds behind each operation that is carried out, but for the last one. -/
def wpAnyE (P : Program) (md : Region.Mode) (ops : Array Oper) (Q : Exit → Act → World → Prop) (S : World → Prop) (last : Nat) : Nat → Array Bool → Act → World → Prop
  | 0, listed, a, w => Region.ready md ops listed = [] ∧ Q .normal a w
  | n + 1, listed, a, w => (Region.ready md ops listed = [] → Q .normal a w) ∧
      ∀ i ∈ Region.ready md ops listed, wpOp P ops Q i (fun a' w' => (i = last ∨ S w') ∧ wpAnyE P md ops Q S last n (listed.setIfInBounds i true) a' w') a w
theorem wpAnyE.any : ∀ (n : Nat) (listed : Array Bool) (a : Act) (w : World), wpAnyE P md ops Q S last n listed a w → wpAny P md ops Q n listed a w
  | 0, _, _, _, h => h
  | n + 1, _, _, _, h => ⟨h.1, fun i hi => wpOp_mono (fun _ _ h' => wpAnyE.any n _ _ _ h'.2) (h.2 i hi)⟩
theorem wp_region_E {id : Nat} {a : Act} {w : World} (hm : P.follows .mixedOrders = true) (hS : S w.drew)
    (h : S w.drew → wpAnyE P .any ops Q S last ops.size (Array.replicate ops.size false) a w.drew) : (Code.region id ops true).wp P Q a w :=
  wp_region_any hm (wpAnyE.any _ _ _ _ (h hS))

/-- Whatever has come up waited for nothing that has not. -/
def Below' (md : Region.Mode) (ops : Array Oper) (listed : Array Bool) : Prop :=
  ∀ y o, ops[y]? = some o → listed.getD y false = true → ∀ e ∈ o.after, Region.binds md e = true → listed.getD e.on false = true
def belowB (md : Region.Mode) (ops : Array Oper) (listed : Array Bool) : Bool :=
  (List.range ops.size).all fun y => !listed.getD y false || (match ops[y]? with | some o => o.after.all (fun e => !Region.binds md e || listed.getD e.on false) | none => true)
theorem belowB_iff {listed : Array Bool} (h : belowB md ops listed = true) : Below' md ops listed := by
  intro y o ho hy e he hb
  unfold belowB at h
  rw [List.all_eq_true] at h
  have h1 := h y (List.mem_range.2 (Array.getElem?_eq_some_iff.1 ho).1)
  rw [hy, ho] at h1
  simp only [Bool.not_true, Bool.false_or] at h1
  have h2 := Array.all_eq_true_iff_forall_mem.1 h1 e he
  rw [hb] at h2
  simpa using h2
theorem Below'.step {listed : Array Bool} {j : Nat} (h : Below' md ops listed) (hj : j ∈ Region.ready md ops listed) : Below' md ops (listed.setIfInBounds j true) := by
  intro y o ho hy e he hb
  apply getD_set_true
  by_cases e1 : j = y
  · subst e1
    obtain ⟨_, o', ho', hall⟩ := mem_ready.1 hj
    rw [ho] at ho'
    cases ho'
    exact hall e he hb
  · rw [getD_set_ne false e1] at hy
    exact h y o ho hy e he hb
/-- y waits for x. -/
def dep (md : Region.Mode) (ops : Array Oper) (x y : Nat) : Bool := match ops[y]? with | some o => o.after.any (fun e => Region.binds md e && e.on == x) | none => false
theorem dep_spec {x y : Nat} (h : dep md ops x y = true) : ∃ o, ops[y]? = some o ∧ ∃ e ∈ o.after, Region.binds md e = true ∧ e.on = x := by
  unfold dep at h
  cases ho : ops[y]? with
  | none => rw [ho] at h; cases h
  | some o =>
    rw [ho] at h
    obtain ⟨e, he, hb⟩ := Array.any_eq_true'.1 h
    simp only [Bool.and_eq_true, beq_iff_eq] at hb
    exact ⟨o, rfl, e, he, hb.1, hb.2⟩
/-- l waits for i, by way of ks. -/
def waits (md : Region.Mode) (ops : Array Oper) : Nat → List Nat → Nat → Bool
  | i, [], l => dep md ops i l
  | i, k :: ks, l => dep md ops i k && waits md ops k ks l
theorem waits_ready : ∀ {ks : List Nat} {i l : Nat} {listed : Array Bool}, waits md ops i ks l = true → Below' md ops listed → l ∈ Region.ready md ops listed → listed.getD i false = true
  | [], i, l, listed, h, _, hl => by
    obtain ⟨o, ho, e, he, hb, rfl⟩ := dep_spec h
    obtain ⟨_, o', ho', hall⟩ := mem_ready.1 hl
    rw [ho] at ho'
    cases ho'
    exact hall e he hb
  | k :: ks, i, l, listed, h, hs, hl => by
    unfold waits at h
    rw [Bool.and_eq_true] at h
    have hk := waits_ready h.2 hs hl
    obtain ⟨o, ho, e, he, hb, rfl⟩ := dep_spec h.1
    exact hs k o ho hk e he hb
theorem ready_not {i : Nat} {listed : Array Bool} (h : i ∈ Region.ready md ops listed) : listed.getD i false = false := by
  have h0 := (mem_ready.1 h).1
  rcases Nat.lt_or_ge i listed.size with h' | h'
  · simp [h'] at h0 ⊢; exact h0
  · simp [Array.getElem?_eq_none h'] at h0

theorem wpAnyE_first {i : Nat} {oi : Oper} {v : Value} {ks : List Nat} (hi : ops[i]? = some oi) (hsel : ∀ (j : Nat) (o : Oper) cs b, ops[j]? = some o → o.op ≠ .select cs b)
    (hQ : ∀ c a w, Q (.panic c) (a.put oi.dst v) w → Q (.panic c) a w) (hk : waits md ops i ks last = true) :
    ∀ (n : Nat) (listed : Array Bool) (a : Act) (w : World), Below' md ops listed →
      (∀ j oj, ops[j]? = some oj → j ≠ i → listed.getD j true = false → (∀ e ∈ oj.after, Region.binds md e = true → e.on ≠ i) → oi.apart ops oj = true) →
      i ∈ Region.ready md ops listed → YieldsIf P ops S oi v a → S w →
      wpAnyE P md ops Q S last n (listed.setIfInBounds i true) (a.put oi.dst v) w → wpAnyE P md ops Q S last (n + 1) listed a w := by
  intro n
  induction n with
  | zero =>
    intro listed a w _ _ hr hy hS H
    constructor
    · intro h; rw [h] at hr; cases hr
    · intro j hj
      by_cases e : j = i
      · subst e; exact hy.wpOp hi hS ⟨.inr hS, H⟩
      · have hm := ready_mono hj e
        rw [H.1] at hm; cases hm
  | succ n ih =>
    intro listed a w hb hfree hr hy hS H
    constructor
    · intro h; rw [h] at hr; cases hr
    · intro j hj
      by_cases e : j = i
      · subst e; exact hy.wpOp hi hS ⟨.inr hS, H⟩
      · obtain ⟨hun, oj, hoj, hall⟩ := mem_ready.1 hj
        have hno : ∀ e ∈ oj.after, Region.binds md e = true → e.on ≠ i := fun d hd hbd heq => by
          have h1 := hall d hd hbd
          rw [heq, ready_not hr] at h1
          cases h1
        have hl : ¬ j = last := fun e2 => by
          have h1 := waits_ready hk hb (e2 ▸ hj)
          rw [ready_not hr] at h1
          cases h1
        have h2 := wpOp_putIf hoj (hfree j oj hoj e hun hno) (fun cs b => hsel i oi cs b hi) (fun cs b => hsel j oj cs b hoj) hQ hy (H.2 j (ready_mono hj e))
        refine wpOp_mono (fun a' w' h3 => ?_) h2
        have hS' : S w' := h3.2.1.resolve_left hl
        refine ⟨.inr hS', ih _ a' w' (hb.step hj) (fun k ok hk' hki hkun hkno => hfree k ok hk' hki ?_ hkno) (ready_mono hr (fun x => e x.symm)) h3.1 hS' ?_⟩
        · by_cases e3 : j = k
          · subst e3; exact hun
          · rw [getD_set_ne true e3] at hkun; exact hkun
        · rw [Array.setIfInBounds_comm _ _ e]; exact h3.2.2

/-- Take number i first. -/
theorem takeE {i : Nat} {oi : Oper} {v : Value} {n : Nat} {listed : Array Bool} {a : Act} {w : World} (ks : List Nat) (hi : ops.toList[i]? = some oi)
    (hs : Region.noSelect ops = true) (hf : (Region.free md ops listed i && (Region.ready md ops listed).contains i && waits md ops i ks last && belowB md ops listed) = true)
    (hQ : ∀ c a w, Q (.panic c) (a.put oi.dst v) w → Q (.panic c) a w) (hy : YieldsIf P ops S oi v a) (hS : S w)
    (h : wpAnyE P md ops Q S last n (listed.setIfInBounds i true) (a.put oi.dst v) w) : wpAnyE P md ops Q S last (n + 1) listed a w := by
  simp only [Bool.and_eq_true] at hf
  obtain ⟨⟨⟨h1, h2⟩, h3⟩, h4⟩ := hf
  exact wpAnyE_first (by simpa using hi) (Region.noSelect_spec hs) hQ h3 n listed a w (belowB_iff h4) (Region.free_spec (by simpa using hi) h1) (by simpa using h2) hy hS h
/-- Those that may come up next, each by itself. -/
def AllE' (P : Program) (md : Region.Mode) (ops : Array Oper) (Q : Exit → Act → World → Prop) (S : World → Prop) (last n : Nat) (listed : Array Bool) (a : Act) (w : World) (rs : List Nat) : Prop :=
  ∀ i ∈ rs, wpOp P ops Q i (fun a' w' => (i = last ∨ S w') ∧ wpAnyE P md ops Q S last n (listed.setIfInBounds i true) a' w') a w
theorem upE {n : Nat} {listed : Array Bool} {a : Act} {w : World} {rs : List Nat} (hr : Region.ready md ops listed = rs) (hne : rs ≠ []) (h : AllE' P md ops Q S last n listed a w rs) : wpAnyE P md ops Q S last (n + 1) listed a w :=
  ⟨fun h0 => absurd (hr ▸ h0) hne, hr ▸ h⟩
theorem AllE'.nil {n : Nat} {listed : Array Bool} {a : Act} {w : World} : AllE' P md ops Q S last n listed a w [] := fun _ h => by cases h
theorem AllE'.cons {i : Nat} {oi : Oper} {n : Nat} {listed : Array Bool} {a : Act} {w : World} {rs : List Nat} (hi : ops.toList[i]? = some oi) (hw : Region.wanted oi (yielded ops a.tmps) = true)
    (h : ∀ K' : Act → World → Prop, Shut (∀ a w, S w → (S w → wpAnyE P md ops Q S last n (listed.setIfInBounds i true) a w) → K' a w) → Oper.wp P oi a w K' Q)
    (hs : AllE' P md ops Q S last n listed a w rs) : AllE' P md ops Q S last n listed a w (i :: rs) := fun j hj => by
  rcases List.mem_cons.1 hj with rfl | hj
  · exact wpOp_step (by simpa using hi) (fun K' hK => by rw [if_pos hw]; exact h K' (fun a w hS hW => hK a w ⟨.inr hS, hW hS⟩))
  · exact hs j hj
/-- The one that may come up. -/
theorem oneE {i : Nat} {oi : Oper} {n : Nat} {listed : Array Bool} {a : Act} {w : World} (hi : ops.toList[i]? = some oi) (hr : Region.ready md ops listed = [i]) (hw : Region.wanted oi (yielded ops a.tmps) = true)
    (h : ∀ K' : Act → World → Prop, Shut (∀ a w, S w → (S w → wpAnyE P md ops Q S last n (listed.setIfInBounds i true) a w) → K' a w) → Oper.wp P oi a w K' Q) : wpAnyE P md ops Q S last (n + 1) listed a w :=
  upE hr (by simp) (AllE'.cons hi hw h AllE'.nil)
/-- The last one. -/
theorem lastE {oi : Oper} {n : Nat} {listed : Array Bool} {a : Act} {w : World} (hi : ops.toList[last]? = some oi) (hr : Region.ready md ops listed = [last]) (hw : Region.wanted oi (yielded ops a.tmps) = true)
    (h : ∀ K' : Act → World → Prop, Shut (∀ a w, wpAnyE P md ops Q S last n (listed.setIfInBounds last true) a w → K' a w) → Oper.wp P oi a w K' Q) : wpAnyE P md ops Q S last (n + 1) listed a w :=
  upE hr (by simp) fun j hj => by
    rw [List.mem_singleton] at hj
    subst hj
    exact wpOp_step (by simpa using hi) (fun K' hK => by rw [if_pos hw]; exact h K' (fun a w hW => hK a w ⟨.inl rfl, hW⟩))
theorem doneE {listed : Array Bool} {a : Act} {w : World} (hr : Region.ready md ops listed = []) (h : Q .normal a w) : ∀ n, wpAnyE P md ops Q S last n listed a w
  | 0 => ⟨hr, h⟩
  | _ + 1 => ⟨fun _ => h, by rw [hr]; simp⟩
end
end Go.Proofs.YtbbemeaojmfndaaDoor
