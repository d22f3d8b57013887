/- Queries: patterns and tests: their data, how they lie in memory, sizes, copies, equality. -/
import Derived.Test.YtggpnnoldjpmcaaGraph
import Derived.Test.YtggpnnoldjpmcaaPtTo
namespace Go.Proofs.Ytggpnnoldjpmcaa
open Go.RowKit

structure Ts where
  a : ByteArray
  o : Int
  b : ByteArray
def Ts.cells (t : Ts) : List Value := [.string t.a, .int .i64 t.o, .string t.b]
def Ts.Ok (t : Ts) : Prop := t.a.size ≤ maxLen ∧ I64 t.o ∧ t.b.size ≤ maxLen
theorem Sl.ts {B : Nat} {w : World} {p : Option Addr} {len cap : Nat} {xs : List Ts} (h : Sl 3 Ts.cells B w (.slice p len cap) xs) {k : Nat} (hk : k < xs.length) :
    ∃ b off, p = some ⟨b, off, none⟩ ∧ b < B ∧ w.cell? ⟨b, off + k * 3, none⟩ = some (.string xs[k].a) ∧ w.cell? ⟨b, off + k * 3 + 1, none⟩ = some (.int .i64 xs[k].o) ∧ w.cell? ⟨b, off + k * 3 + 2, none⟩ = some (.string xs[k].b) := by
  obtain ⟨p', len', cap', h1, h2, h3, h4, h5⟩ := h
  cases h1
  obtain ⟨b, off, e1, e2, e3⟩ := h5 k hk
  exact ⟨b, off, e1, e2, e3 0 _ rfl, e3 1 _ rfl, e3 2 _ rfl⟩
structure Qy where
  ps : Pf
  ts : List Ts
def Qy.Ok (g : Qy) : Prop := g.ps.Ok ∧ ∀ x ∈ g.ts, x.Ok
/-- The value of a struct Query. -/
def Qy.At (g : Qy) (B : Nat) (w : World) (v : Value) : Prop := ∃ a b, v = .agg #[a, b] ∧ g.ps.Is false B w a ∧ Sl 3 Ts.cells B w b g.ts
theorem Qy.At.to {g : Qy} {B B' : Nat} {w w' : World} {v : Value} (h : g.At B w v) (hb : Below B w w') (hB : B ≤ B') : g.At B' w' v := by
  obtain ⟨a, b, h1, h2, h3⟩ := h
  exact ⟨a, b, h1, h2.below hb hB, (h3.below hb).mono hB⟩
theorem Qy.At.form {g : Qy} {B : Nat} {w : World} {v : Value} (h : g.At B w v) : ∃ p c q d, v = .agg #[.slice p g.ps.list.length c, .slice q g.ts.length d] := by
  obtain ⟨a, b, rfl, h1, h2⟩ := h
  obtain ⟨p, c, rfl⟩ := h1.form
  obtain ⟨q, d, rfl⟩ := h2.form
  exact ⟨p, c, q, d, rfl⟩

set_option maxHeartbeats 1000000 in
theorem szTest_any (x : Ts) (left : Int) (w : World) (h0 : 0 ≤ left) (h1 : left ≤ 1048576) (hx : x.Ok) :
    Calls Try.prog 87 #[.agg #[.string x.a, .int .i64 x.o, .string x.b], .int .i64 left] w (SzPost left (x.a.size + x.b.size) w.heap.size w) := by
  obtain ⟨x0, x1, x2⟩ := hx
  have hl := x0
  have hl2 := x2
  unfold maxLen at hl hl2
  by_cases hlt : left < x.a.size
  · go_enter Try.func87, Try.ntmps87
    go_wp2_with fail
    go_ret
    exact ⟨-1, rfl, .inl rfl, (Below.refl _ _).alloc (Nat.le_refl _) _⟩
  · obtain ⟨m, em⟩ : ∃ m, RowKit.Hid (m = left - (x.a.size : Int)) := ⟨_, Lib.hid rfl⟩
    have hm0 : 0 ≤ m := by have := em.out; omega
    have hm1 : m ≤ 1048576 := by have := em.out; omega
    have hm2 : left - (x.a.size : Int) = m := em.out.symm
    have q0 : decide (left - (x.a.size : Int) < 0) = false := by simp; omega
    have q1 : decide (m < 0) = false := by simp; omega
    by_cases hlt2 : m < x.b.size
    · go_enter Try.func87, Try.ntmps87
      go_wp2_with fail
      go_ret
      exact ⟨-1, rfl, .inl rfl, (Below.refl _ _).alloc (Nat.le_refl _) _⟩
    · have q2 : decide (m - (x.b.size : Int) < 0) = false := by simp; omega
      go_enter Try.func87, Try.ntmps87
      go_wp2_with fail
      go_ret
      exact ⟨m - x.b.size, rfl, .inr ⟨by omega, by have := em.out; push_cast; omega⟩, (Below.refl _ _).alloc (Nat.le_refl _) _⟩

def sumTest (xs : List Ts) : Nat := (xs.map fun x => x.a.size + x.b.size).sum
theorem sumTest_succ (xs : List Ts) (k : Nat) (h : k < xs.length) : sumTest (xs.take (k + 1)) = sumTest (xs.take k) + (xs[k].a.size + xs[k].b.size) := by
  unfold sumTest; rw [List.take_succ_eq_append_getElem h, List.map_append, List.sum_append]; simp only [List.map_cons, List.map_nil, List.sum_cons, List.sum_nil, Nat.add_zero]
theorem sumTest_le (xs : List Ts) (k : Nat) : sumTest (xs.take k) ≤ sumTest xs := by
  unfold sumTest
  have := congrArg (fun l => (l.map fun x : Ts => x.a.size + x.b.size).sum) (List.take_append_drop k xs)
  simp only [List.map_append, List.sum_append] at this; omega

set_option maxHeartbeats 1000000 in
theorem szTestS_any (xs : List Ts) (v : Value) (left : Int) (B : Nat) (w : World) (hv : Sl 3 Ts.cells B w v xs) (hB : B ≤ w.heap.size) (h0 : 0 ≤ left) (h1 : left ≤ 1048576) (hok : ∀ x ∈ xs, x.Ok) :
    Calls Try.prog 41 #[v, .int .i64 left] w (SzPost left (xs.length + sumTest xs) w.heap.size w) := by
  obtain ⟨p, cap, rfl⟩ := hv.form
  have hm := hv.max
  unfold maxLen at hm
  by_cases hlt : left < xs.length
  · go_enter Try.func41, Try.ntmps41
    go_wp2_with fail
    go_ret
    exact ⟨-1, rfl, .inl rfl, Below.refl _ _⟩
  · have q1 : decide (left - (xs.length : Int) < 0) = false := by simp; omega
    have q1' : decide (left < (xs.length : Int)) = false := by simp; omega
    go_enter Try.func41, Try.ntmps41
    go_wp2_with fail
    go_loopw [1, 5] (fun l i wr => ∃ (k : Nat) (m : Int), k ≤ xs.length ∧ i = .int .i64 k ∧ l = .int .i64 m ∧ 0 ≤ m ∧ m ≤ 1048576 ∧ RowKit.Hid (m = left - (xs.length + sumTest (xs.take k))) ∧ Below w.heap.size w wr) (fun _ i _ => xs.length - (intOf i).toNat)
    case atStart => exact ⟨0, left - xs.length, Nat.zero_le _, rfl, rfl, by omega, by omega, Lib.hid (by simp [sumTest]), Below.refl _ _⟩
    case round =>
      obtain ⟨k, m, hk, rfl, rfl, hm0, hm1, hme, hbw⟩ := hrel
      have hsz := hbw.size
      have HB := Lib.hid hbw
      clear hbw
      by_cases hlt2 : k < xs.length
      · obtain ⟨b, off, rfl, hb, c0, c1, c2⟩ := (hv.below (HB.out.mono hB)).ts hlt2
        have hx := hok _ (List.getElem_mem hlt2)
        have hsum := sumTest_succ xs k hlt2
        have hsle := sumTest_le xs (k + 1)
        obtain ⟨x, ex⟩ : ∃ x, x = xs[k] := ⟨_, rfl⟩
        rw [← ex] at c0 c1 c2 hx hsum
        have HS := Lib.hid hsum
        clear ex hsum
        go_wp2_with fail
        refine (szTest_any x m _ hm0 hm1 hx).mono ?_
        rintro e w' ⟨r, rfl, hr, hb1⟩
        have HB1 := Lib.hid hb1
        clear hb1
        rcases hr with hr | ⟨hr0, hr⟩
        · have HR := Lib.hid hr
          have hneg : r < 0 := by omega
          clear hr
          go_wp2_with fail
          go_ret
          exact ⟨-1, rfl, .inl rfl, HB.out.trans (HB1.out.mono hsz)⟩
        · have hr1 : r ≤ 1048576 := by omega
          have HR := Lib.hid (show r = left - (xs.length + sumTest (xs.take (k + 1))) by have a := hme.out; have b := HS.out; omega)
          clear hr
          go_wp2_with fail
          go_roundw
          case rel => exact ⟨k + 1, r, by omega, by go_num, rfl, hr0, hr1, HR, HB.out.trans (HB1.out.mono hsz)⟩
          case measure => simp [intOf]; omega
      · obtain rfl : k = xs.length := by omega
        have HE := Lib.hid (show m = left - (xs.length + sumTest xs) by have a := hme.out; rw [List.take_of_length_le (Nat.le_refl _)] at a; exact a)
        go_wp2_with fail
        go_ret
        exact ⟨m, rfl, .inr ⟨hm0, HE.out⟩, HB.out⟩

set_option maxHeartbeats 400000 in
theorem toTest_any (x : Ts) (w : World) :
    Calls Try.prog 90 #[.agg #[.string x.a, .int .i64 x.o, .string x.b]] w fun e w' => e = .returned (.agg #[.string x.a, .int .i64 x.o, .string x.b]) ∧ Below w.heap.size w w' := by
  go_enter Try.func90, Try.ntmps90
  go_wp2_with fail
  refine bodyPost_ret (v := .agg #[.string x.a, .int .i64 x.o, .string x.b]) (by simp [results, Try.results90, go_sem]) rfl ⟨rfl, ?_⟩
  exact (((Below.refl _ _).alloc (by simp) _).alloc (by simp) _).alloc (by simp <;> omega) _

theorem infoTest : (Try.prog.info? 80).map (fun i => (i.zero, i.size, i.bytes)) = some (some (.agg #[.string ⟨#[]⟩, .int .i64 0, .string ⟨#[]⟩]), 3, 40) := by kernel_rfl

set_option maxHeartbeats 1000000 in
theorem toTestS_any (xs : List Ts) (v : Value) (B : Nat) (w : World) (hv : Sl 3 Ts.cells B w v xs) (hB : B ≤ w.heap.size) (hn : xs.length ≤ 1048576) :
    Calls Try.prog 44 #[v] w fun e w' => ∃ v' F, e = .returned v' ∧ OwnSl 3 Ts.cells w' v' xs F ∧ (∀ x ∈ F, w.heap.size ≤ x) ∧ Below w.heap.size w w' := by
  obtain ⟨p, cap, rfl⟩ := hv.form
  have hm := hv.max
  unfold maxLen at hm
  have hmk : ∀ w : World, (Instr.makeSlice 29 (.int .i64 (xs.length : Int)) (.int .i64 (xs.length : Int))).run Try.prog w = .ok (.slice (some ⟨w.heap.size, 0, none⟩) xs.length xs.length) (w.alloc (.cells (madeCells #[.string ⟨#[]⟩, .int .i64 0, .string ⟨#[]⟩] (xs.length * 3)) 80)) := by
    intro w
    obtain ⟨i, hi, hzz⟩ := Option.map_eq_some_iff.1 infoTest
    simp only [Prod.mk.injEq] at hzz
    obtain ⟨hz, hs, hb⟩ := hzz
    have hr := run_make (P := Try.prog) w 29 80 i _ Try.underlying29 hi hz .i64 .i64 xs.length xs.length (by omega) (Int.le_refl _) (by rw [hb]; omega) (by omega)
    rw [hs] at hr
    exact hr
  have hbk := Blk.new w (madeCells #[.string ⟨#[]⟩, .int .i64 0, .string ⟨#[]⟩] (xs.length * 3)) 80
  go_enter Try.func44, Try.ntmps44
  go_wp2_with fail
  go_loopw [4] (fun i wr => ∃ (k : Nat) (L : List Value), k ≤ xs.length ∧ i = .int .i64 k ∧ Part 3 Ts.cells xs L k ∧ Blk wr w.heap.size 80 L ∧ Below w.heap.size w wr) (fun i _ => xs.length - (intOf i).toNat)
  case atStart => exact ⟨0, _, Nat.zero_le _, rfl, Part.zero (by simp [madeCells]), hbk, (Below.refl _ _).alloc (Nat.le_refl _) _⟩
  case round =>
    obtain ⟨k, L, hk, rfl, hp, hbl, hbw⟩ := hrel
    have hsz := hbw.size
    have hlt := hbl.lt
    have HB := Lib.hid hbw
    clear hbw hbk
    by_cases hlt2 : k < xs.length
    · obtain ⟨b, off, rfl, hb, c0, c1, c2⟩ := (hv.below (HB.out.mono hB)).ts hlt2
      have hlen := hp.1
      have hx : Part 3 Ts.cells xs (setAt L (k * 3) (Ts.cells xs[k])) (k + 1) := hp.succ hlt2 (fun _ => rfl)
      obtain ⟨x, ex⟩ : ∃ x, x = xs[k] := ⟨_, rfl⟩
      rw [← ex] at c0 c1 c2 hx
      clear ex
      have HP := Lib.hid hx
      clear hx hp
      go_wp2_with fail
      refine (toTest_any x _).mono ?_
      rintro e w' ⟨rfl, hb1⟩
      have hbl1 := hbl.below hb1 hlt
      have d0 := (hbl1.cell (k * 3)).trans (List.getElem?_eq_getElem (by omega))
      have g0 := hbl1.frozen (k * 3)
      have d1 := (hbl1.cell (k * 3 + 1)).trans (List.getElem?_eq_getElem (by omega))
      have g1 := hbl1.frozen (k * 3 + 1)
      have d2 := (hbl1.cell (k * 3 + 2)).trans (List.getElem?_eq_getElem (by omega))
      have g2 := hbl1.frozen (k * 3 + 2)
      have HB1 := Lib.hid (HB.out.trans (hb1.mono hsz))
      have HBL := Lib.hid hbl1
      clear hb1 hbl1 hbl
      go_wp2_with fail
      go_roundw
      case rel => exact ⟨k + 1, _, by omega, by go_num, HP.out, (((HBL.out).set _ _).set _ _).set _ _, (((HB1.out).setCell (Nat.le_refl _) _).setCell (Nat.le_refl _) _).setCell (Nat.le_refl _) _⟩
      case measure => simp [intOf]; omega
    · obtain rfl : k = xs.length := by omega
      have HBL := Lib.hid hbl
      clear hbl
      go_wp2_with fail
      go_ret
      exact ⟨_, [w.heap.size], rfl, ⟨_, _, _, rfl, rfl, Nat.le_refl _, by unfold maxLen; omega, .inr ⟨_, _, rfl, rfl, HBL.out.lt, fun o => HBL.out.frozen o, fun i hi j x hx => by rw [Nat.zero_add]; exact (HBL.out.cell _).trans (hp.2 i hi hi j x hx)⟩⟩, by simp, HB.out⟩

set_option maxHeartbeats 400000 in
theorem eqTest_any (x : Ts) (w : World) :
    Calls Try.prog 95 #[.agg #[.string x.a, .int .i64 x.o, .string x.b], .agg #[.string x.a, .int .i64 x.o, .string x.b]] w fun e w' => e = .returned (.bool true) ∧ Below w.heap.size w w' := by
  go_enter Try.func95, Try.ntmps95
  go_wp2_with fail
  go_ret
  exact ⟨rfl, ((Below.refl _ _).alloc (by simp) _).alloc (by simp <;> omega) _⟩

set_option maxRecDepth 100000 in
set_option maxHeartbeats 1000000 in
theorem eqTestS_any (xs : List Ts) (v v' : Value) (B : Nat) (w : World) (hv : Sl 3 Ts.cells B w v xs) (hv' : Sl 3 Ts.cells B w v' xs) (hB : B ≤ w.heap.size) :
    Calls Try.prog 49 #[v, v'] w fun e w' => e = .returned (.bool true) ∧ Below w.heap.size w w' := by
  obtain ⟨p, cap, rfl⟩ := hv.form
  obtain ⟨p', cap', rfl⟩ := hv'.form
  have hm := hv.max
  have hm' := hv'.max
  unfold maxLen at hm hm'
  go_enter Try.func49, Try.ntmps49
  go_wp2_with fail
  go_loopw [5] (fun i wr => ∃ k : Nat, k ≤ xs.length ∧ i = .int .i64 k ∧ Below w.heap.size w wr) (fun i _ => xs.length - (intOf i).toNat)
  case atStart => exact ⟨0, Nat.zero_le _, rfl, Below.refl _ _⟩
  case round =>
    obtain ⟨k, hk, rfl, hbw⟩ := hrel
    have hsz := hbw.size
    have HB := Lib.hid hbw
    clear hbw
    by_cases hlt2 : k < xs.length
    · obtain ⟨b, off, rfl, hb, c0, c1, c2⟩ := (hv.below (HB.out.mono hB)).ts hlt2
      obtain ⟨b', off', rfl, hb', d0, d1, d2⟩ := (hv'.below (HB.out.mono hB)).ts hlt2
      obtain ⟨x, ex⟩ : ∃ x, x = xs[k] := ⟨_, rfl⟩
      rw [← ex] at c0 c1 c2 d0 d1 d2
      clear ex
      go_wp2_with fail
      go_still_tail 8, (by kernel_rfl)
      go_wp2_with fail
      refine (eqTest_any x _).mono ?_
      rintro e w' ⟨rfl, hb1⟩
      have HB1 := Lib.hid (HB.out.drew.trans (hb1.mono hsz))
      clear hb1
      go_wp2_with fail
      go_roundw
      case rel => exact ⟨k + 1, by omega, by go_num, HB1.out⟩
      case measure => simp [intOf]; omega
    · obtain rfl : k = xs.length := by omega
      go_wp2_with fail
      go_ret
      exact ⟨rfl, HB.out⟩

def Qy.need (g : Qy) : Nat := g.ps.need + (g.ts.length + sumTest g.ts)
/-- The value of a struct Query in memory of the call's own, from block lo on; its two slices share none. -/
def Qy.Own (g : Qy) (lo : Nat) (w : World) (v : Value) (F1 F2 : List Nat) : Prop :=
  ∃ a b, v = .agg #[a, b] ∧ g.ps.Own w a F1 ∧ OwnSl 3 Ts.cells w b g.ts F2 ∧ (∀ x ∈ F1, lo ≤ x) ∧ (∀ x ∈ F2, lo ≤ x) ∧ (∀ x ∈ F1, x ∉ F2)
theorem Qy.Own.at {g : Qy} {lo : Nat} {w : World} {v : Value} {F1 F2 : List Nat} (h : g.Own lo w v F1 F2) : g.At w.heap.size w v := by
  obtain ⟨a, b, h1, h2, h3, _⟩ := h
  exact ⟨a, b, h1, h2.is, h3.sl⟩
theorem Qy.Own.chg {g : Qy} {lo : Nat} {w w' : World} {v : Value} {F1 F2 G : List Nat} (h : g.Own lo w v F1 F2) (hc : Chg G w w') (h1 : ∀ x ∈ F1, x ∉ G) (h2 : ∀ x ∈ F2, x ∉ G) : g.Own lo w' v F1 F2 := by
  obtain ⟨a, b, e1, e2, e3, e4, e5, e6⟩ := h
  exact ⟨a, b, e1, e2.chg hc h1, e3.chg hc h2, e4, e5, e6⟩
theorem Qy.Own.below {g : Qy} {lo : Nat} {w w' : World} {v : Value} {F1 F2 : List Nat} (h : g.Own lo w v F1 F2) (hc : Below w.heap.size w w') : g.Own lo w' v F1 F2 :=
  h.chg (Chg.of_below hc []) (by simp) (by simp)
theorem Qy.Own.mono {g : Qy} {lo lo' : Nat} {w : World} {v : Value} {F1 F2 : List Nat} (h : g.Own lo w v F1 F2) (hl : lo' ≤ lo) : g.Own lo' w v F1 F2 := by
  obtain ⟨a, b, e1, e2, e3, e4, e5, e6⟩ := h
  exact ⟨a, b, e1, e2, e3, fun x hx => Nat.le_trans hl (e4 x hx), fun x hx => Nat.le_trans hl (e5 x hx), e6⟩
theorem Qy.Own.lt {g : Qy} {lo : Nat} {w : World} {v : Value} {F1 F2 : List Nat} (h : g.Own lo w v F1 F2) : (∀ x ∈ F1, x < w.heap.size) ∧ (∀ x ∈ F2, x < w.heap.size) := by
  obtain ⟨a, b, e1, e2, e3, e4, e5, e6⟩ := h
  exact ⟨e2.lt, e3.lt⟩

set_option maxHeartbeats 1000000 in
theorem szQuery_any (g : Qy) (v : Value) (left : Int) (B : Nat) (w : World) (hg : g.At B w v) (hB : B ≤ w.heap.size) (h0 : 0 ≤ left) (h1 : left ≤ 1048576) (hok : g.Ok) :
    Calls Try.prog 9 #[v, .int .i64 left] w (SzPost left g.need w.heap.size w) := by
  obtain ⟨a, b, rfl, ha, hb⟩ := hg
  go_enter Try.func9, Try.ntmps9
  go_wp2_with fail
  refine (szPatS_any g.ps a left B _ (ha.below ((Below.refl B w).alloc hB _) (Nat.le_refl _)) (by simp; omega) h0 h1 hok.1).mono ?_
  rintro e w1 ⟨r, rfl, hr, hb1⟩
  have hs1 : w.heap.size < w1.heap.size := by have := hb1.size; simp at this; omega
  have c1 := new_cell hb1 (j := 1) rfl
  have HB1 := Lib.hid (below_past hb1)
  clear hb1
  rcases hr with hr | ⟨hr0, hr⟩
  · have hneg : r < 0 := by omega
    clear hr
    go_wp2_with fail
    go_ret
    exact ⟨-1, rfl, .inl rfl, HB1.out⟩
  · have hr1 : r ≤ 1048576 := by omega
    have HR := Lib.hid hr
    clear hr
    go_wp2_with fail
    refine (szTestS_any g.ts b r B _ (hb.below (HB1.out.mono hB)) (by omega) hr0 hr1 hok.2).mono ?_
    rintro e w2 ⟨r2, rfl, hr2, hb2⟩
    have HB2 := Lib.hid (HB1.out.trans (hb2.mono (by omega)))
    clear hb2
    rcases hr2 with hr2 | ⟨hr20, hr2⟩
    · have hneg : r2 < 0 := by omega
      clear hr2
      go_wp2_with fail
      go_ret
      exact ⟨-1, rfl, .inl rfl, HB2.out⟩
    · have HR2 := Lib.hid (show r2 = left - g.need by have := HR.out; unfold Qy.need; omega)
      clear hr2
      go_wp2_with fail
      go_ret
      exact ⟨r2, rfl, .inr ⟨hr20, HR2.out⟩, HB2.out⟩

set_option maxHeartbeats 1000000 in
theorem toQuery_any (g : Qy) (v : Value) (B : Nat) (w : World) (hg : g.At B w v) (hB : B ≤ w.heap.size) (h1 : g.ps.need ≤ 1048576) (h2 : g.ts.length ≤ 1048576) :
    Calls Try.prog 11 #[v] w fun e w' => ∃ v' F1 F2, e = .returned v' ∧ g.Own w.heap.size w' v' F1 F2 ∧ Below w.heap.size w w' := by
  obtain ⟨a, b, rfl, ha, hb⟩ := hg
  go_enter Try.func11, Try.ntmps11
  go_wp2_with fail
  have HW := Lib.hid ((((Below.refl B w).alloc hB (.cells #[a, b] 25)).alloc (by simp; omega) (.cells #[.slice none 0 0, .slice none 0 0] 31)).alloc (by simp; omega) (.cells #[.slice none 0 0, .slice none 0 0] 31))
  have HV := Lib.hid ((((Below.refl w.heap.size w).alloc (by simp) (.cells #[a, b] 25)).alloc (by simp) (.cells #[.slice none 0 0, .slice none 0 0] 31)).alloc (by simp <;> omega) (.cells #[.slice none 0 0, .slice none 0 0] 31))
  refine (toPatS_any g.ps a B _ (ha.below HW.out (Nat.le_refl _)) (by simp; omega) h1).mono ?_
  rintro e w1 ⟨v1, F1, rfl, ho1, hf1, hb1⟩
  have hs1 : w.heap.size + 3 ≤ w1.heap.size := by have := hb1.size; simp at this; omega
  have p1 : w1.cell? ⟨w.heap.size, 1, none⟩ = some b := (hb1.cell (by simp; omega)).trans (by simp [go_sem])
  have q0 : w1.cell? ⟨w.heap.size + 1, 0, none⟩ = some (.slice none 0 0) := (hb1.cell (by simp)).trans (by simp [go_sem])
  have q1 : w1.cell? ⟨w.heap.size + 1, 1, none⟩ = some (.slice none 0 0) := (hb1.cell (by simp)).trans (by simp [go_sem])
  have q2 : w1.frozen? ⟨w.heap.size + 1, 0, none⟩ = false := (hb1.frozen (by simp)).trans (by simp [go_sem])
  have q3 : w1.frozen? ⟨w.heap.size + 1, 1, none⟩ = false := (hb1.frozen (by simp)).trans (by simp [go_sem])
  have r0 : w1.cell? ⟨w.heap.size + 1 + 1, 0, none⟩ = some (.slice none 0 0) := (hb1.cell (by simp)).trans (by simp [go_sem])
  have r1 : w1.cell? ⟨w.heap.size + 1 + 1, 1, none⟩ = some (.slice none 0 0) := (hb1.cell (by simp)).trans (by simp [go_sem])
  have r2 : w1.frozen? ⟨w.heap.size + 1 + 1, 0, none⟩ = false := (hb1.frozen (by simp)).trans (by simp [go_sem])
  have r3 : w1.frozen? ⟨w.heap.size + 1 + 1, 1, none⟩ = false := (hb1.frozen (by simp)).trans (by simp [go_sem])
  have HB1 := Lib.hid (HV.out.trans (hb1.mono (by simp; omega)))
  have HO1 := Lib.hid ho1
  have HF1 := Lib.hid (show ∀ x ∈ F1, w.heap.size + 3 ≤ x from fun x hx => by have := hf1 x hx; simp at this; omega)
  clear hf1
  have HC1 := Lib.hid (HW.out.trans (hb1.mono (by simp; omega)))
  clear hb1 ho1
  obtain ⟨pn, cn, rfl⟩ := (Pf.Own.is (L := false) HO1.out).form
  go_wp2_with fail
  refine (toTestS_any g.ts b B _ (hb.below (HC1.out.setCell (by simp; omega) _)) (by simp; omega) h2).mono ?_
  rintro e w2 ⟨v2, F2, rfl, ho2, hf2, hb2⟩
  have hz : (w1.setCell ⟨w.heap.size + 1 + 1, 0, none⟩ (.slice pn g.ps.list.length cn)).heap.size = w1.heap.size := by simp
  have hs2 : w1.heap.size ≤ w2.heap.size := by have := hb2.size; simp at this; omega
  have q0' : w2.cell? ⟨w.heap.size + 1, 0, none⟩ = some (.slice none 0 0) := ((hb2.cell (by simp; omega)).trans (set_far _ _ _ _ _ _ (by omega))).trans q0
  have q1' : w2.cell? ⟨w.heap.size + 1, 1, none⟩ = some (.slice none 0 0) := ((hb2.cell (by simp; omega)).trans (set_far _ _ _ _ _ _ (by omega))).trans q1
  have q2' : w2.frozen? ⟨w.heap.size + 1, 0, none⟩ = false := ((hb2.frozen (by simp; omega)).trans (by simp [go_sem])).trans q2
  have q3' : w2.frozen? ⟨w.heap.size + 1, 1, none⟩ = false := ((hb2.frozen (by simp; omega)).trans (by simp [go_sem])).trans q3
  have r0' : w2.cell? ⟨w.heap.size + 1 + 1, 0, none⟩ = some (.slice pn g.ps.list.length cn) := (hb2.cell (by simp; omega)).trans (set_same _ _ _ _ _ r0)
  have r1' : w2.cell? ⟨w.heap.size + 1 + 1, 1, none⟩ = some (.slice none 0 0) := ((hb2.cell (by simp; omega)).trans (set_near _ _ _ _ _ (by omega))).trans r1
  have r2' : w2.frozen? ⟨w.heap.size + 1 + 1, 0, none⟩ = false := ((hb2.frozen (by simp; omega)).trans (by simp [go_sem])).trans r2
  have r3' : w2.frozen? ⟨w.heap.size + 1 + 1, 1, none⟩ = false := ((hb2.frozen (by simp; omega)).trans (by simp [go_sem])).trans r3
  have HB2 := Lib.hid ((HB1.out.setCell (p := ⟨w.heap.size + 1 + 1, 0, none⟩) (by simp; omega) (.slice pn g.ps.list.length cn)).trans (hb2.mono (by simp; omega)))
  have HD2 := Lib.hid hb2
  have HO2 := Lib.hid ho2
  have HF2 := Lib.hid (show ∀ x ∈ F2, w1.heap.size ≤ x from fun x hx => by have := hf2 x hx; simp at this; omega)
  clear hf2
  clear hb2 ho2 p1 q0 q1 q2 q3 r0 r1 r2 r3
  obtain ⟨pe, ce, rfl⟩ := HO2.out.sl.form
  go_wp2_with fail
  refine bodyPost_ret (v := .agg #[.slice pn g.ps.list.length cn, .slice pe g.ts.length ce]) (by simp [results, Try.results11, go_sem, q0', q1']) rfl ⟨_, F1, F2, rfl, ?_, ((HB2.out.setCell (by simp; omega) _).setCell (by simp) _).setCell (by simp) _⟩
  have g1 := fun x hx => HF1.out x hx
  have g2 := fun x hx => HF2.out x hx
  have hl1 := HO1.out.lt
  have hc1 : Chg [w.heap.size + 1 + 1] w1 w2 := ((Chg.refl [w.heap.size + 1 + 1] w1).setCell (by simp) _).then_below HD2.out
  have hc2 : Chg [w.heap.size + 1 + 1, w.heap.size + 1] w2 (((w2.setCell ⟨w.heap.size + 1 + 1, 1, none⟩ (.slice pe g.ts.length ce)).setCell ⟨w.heap.size + 1, 0, none⟩ (.slice pn g.ps.list.length cn)).setCell ⟨w.heap.size + 1, 1, none⟩ (.slice pe g.ts.length ce)) :=
    (((Chg.refl _ w2).setCell (by simp) _).setCell (by simp) _).setCell (by simp) _
  refine ⟨_, _, rfl, (HO1.out.chg hc1 ?_).chg hc2 ?_, HO2.out.chg hc2 ?_, ?_, ?_, ?_⟩
  · intro x hx; have := g1 x hx; simp; omega
  · intro x hx; have := g1 x hx; simp; omega
  · intro x hx; have := g2 x hx; simp; omega
  · intro x hx; have := g1 x hx; omega
  · intro x hx; have := g2 x hx; omega
  · intro x hx hx2; have := hl1 x hx; have := g2 x hx2; omega

set_option maxHeartbeats 1000000 in
theorem eqQuery_any (g : Qy) (v v' : Value) (B : Nat) (w : World) (hg : g.At B w v) (hg' : g.At B w v') (hB : B ≤ w.heap.size) :
    Calls Try.prog 13 #[v, v'] w fun e w' => e = .returned (.bool true) ∧ Below w.heap.size w w' := by
  obtain ⟨a, b, rfl, ha, hb⟩ := hg
  obtain ⟨a', b', rfl, ha', hb'⟩ := hg'
  go_enter Try.func13, Try.ntmps13
  go_wp2_with fail
  have HW := Lib.hid (((Below.refl B w).alloc hB (.cells #[a, b] 31)).alloc (by simp; omega) (.cells #[a', b'] 31))
  refine (eqPatS_any g.ps a a' B _ (ha.below HW.out (Nat.le_refl _)) (ha'.below HW.out (Nat.le_refl _)) (by simp; omega)).mono ?_
  rintro e w1 ⟨rfl, hb1⟩
  have hs1 : w.heap.size + 2 ≤ w1.heap.size := by have := hb1.size; simp at this; omega
  have p1 : w1.cell? ⟨w.heap.size, 1, none⟩ = some b := (hb1.cell (by simp; omega)).trans (by simp [go_sem])
  have q1 : w1.cell? ⟨w.heap.size + 1, 1, none⟩ = some b' := (hb1.cell (by simp)).trans (by simp [go_sem])
  have HB1 := Lib.hid ((((Below.refl w.heap.size w).alloc (by simp) (.cells #[a, b] 31)).alloc (by simp) (.cells #[a', b'] 31)).trans (hb1.mono (by simp; omega)))
  clear hb1
  go_wp2_with fail
  refine (eqTestS_any g.ts b b' B _ (hb.below (HB1.out.mono hB)) (hb'.below (HB1.out.mono hB)) (by omega)).mono ?_
  rintro e w2 ⟨rfl, hb2⟩
  have HB2 := Lib.hid (HB1.out.trans (hb2.mono (by omega)))
  clear hb2
  go_wp2_with fail
  go_ret
  exact ⟨rfl, HB2.out⟩

/-- A query in memory of the call's own, in the blocks F. -/
def Qy.Has (g : Qy) (v : Value) (F : List Nat) (u : World) : Prop := ∃ F1 F2, F = F1 ++ F2 ∧ g.Own 0 u v F1 F2
theorem Qy.Has.at {g : Qy} {v : Value} {F : List Nat} {w : World} (h : g.Has v F w) : g.At w.heap.size w v := by
  obtain ⟨F1, F2, rfl, h⟩ := h; exact h.at
theorem Qy.Has.chg {g : Qy} {v : Value} {F G : List Nat} {w w' : World} (h : g.Has v F w) (hc : Chg G w w') (hd : ∀ x ∈ F, x ∉ G) : g.Has v F w' := by
  obtain ⟨F1, F2, rfl, h⟩ := h
  exact ⟨F1, F2, rfl, h.chg hc (fun x hx => hd x (List.mem_append_left _ hx)) (fun x hx => hd x (List.mem_append_right _ hx))⟩
theorem toQuery_has (g : Qy) (v : Value) (B : Nat) (w : World) (hg : g.At B w v) (hB : B ≤ w.heap.size) (h1 : g.ps.need ≤ 1048576) (h2 : g.ts.length ≤ 1048576) :
    Calls Try.prog 11 #[v] w fun e w' => ∃ v' F, e = .returned v' ∧ g.Has v' F w' ∧ (∀ x ∈ F, w.heap.size ≤ x) ∧ Below w.heap.size w w' := by
  refine (toQuery_any g v B w hg hB h1 h2).mono ?_
  rintro e w' ⟨v', F1, F2, rfl, ho, hb⟩
  obtain ⟨a, b, e1, e2, e3, e4, e5, e6⟩ := ho
  refine ⟨v', F1 ++ F2, rfl, ⟨F1, F2, rfl, a, b, e1, e2, e3, fun _ _ => Nat.zero_le _, fun _ _ => Nat.zero_le _, e6⟩, fun x hx => ?_, hb⟩
  rcases List.mem_append.1 hx with h | h
  · exact e4 x h
  · exact e5 x h
end Go.Proofs.Ytggpnnoldjpmcaa
