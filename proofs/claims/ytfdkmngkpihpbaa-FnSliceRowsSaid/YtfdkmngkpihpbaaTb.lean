/- Tables: their data, and what the laws' helpers do with them. -/
import Derived.Test.YtfdkmngkpihpbaaKdTo
import Derived.Test.YtfdkmngkpihpbaaWk
namespace Go.Proofs.Ytfdkmngkpihpbaa
open Go.RowKit

structure Tb where
  cs : List ByteArray
  rs : List (List Int)
def kRow : Kd (List Int) := kInt.row
def strCells (s : ByteArray) : List Value := [.string s]
def Tb.Ok (x : Tb) : Prop := (∀ s ∈ x.cs, s.size ≤ maxLen) ∧ ∀ r ∈ x.rs, ∀ n ∈ r, I64 n
def sumS (xs : List ByteArray) : Nat := (xs.map ByteArray.size).sum
def sumR (xs : List (List Int)) : Nat := (xs.map List.length).sum
theorem sumS_succ (xs : List ByteArray) (k : Nat) (h : k < xs.length) : sumS (xs.take (k + 1)) = sumS (xs.take k) + xs[k].size := by
  unfold sumS; rw [List.take_succ_eq_append_getElem h, List.map_append, List.sum_append]; simp only [List.map_cons, List.map_nil, List.sum_cons, List.sum_nil, Nat.add_zero]
theorem sumR_succ (xs : List (List Int)) (k : Nat) (h : k < xs.length) : sumR (xs.take (k + 1)) = sumR (xs.take k) + xs[k].length := by
  unfold sumR; rw [List.take_succ_eq_append_getElem h, List.map_append, List.sum_append]; simp only [List.map_cons, List.map_nil, List.sum_cons, List.sum_nil, Nat.add_zero]
theorem sumR_le (xs : List (List Int)) (k : Nat) : sumR (xs.take k) ≤ sumR xs := by
  unfold sumR
  have := congrArg (fun l => (l.map List.length).sum) (List.take_append_drop k xs)
  simp only [List.map_append, List.sum_append] at this; omega
theorem sumR_get (xs : List (List Int)) (k : Nat) (h : k < xs.length) : xs[k].length ≤ sumR xs := by
  have := sumR_succ xs k h; have := sumR_le xs (k + 1); omega
def Tb.need (x : Tb) : Nat := x.cs.length + sumS x.cs + (x.rs.length + sumR x.rs)
/-- The value of a struct Table whose memory lies below B. -/
def Tb.At (x : Tb) (B : Nat) (w : World) (v : Value) : Prop := ∃ a b, v = .agg #[a, b] ∧ kStr.Rd B w a x.cs ∧ kRow.Rd B w b x.rs
theorem Tb.At.to {x : Tb} {B B' : Nat} {w w' : World} {v : Value} (h : x.At B w v) (hb : Below B w w') (hB : B ≤ B') : x.At B' w' v := by
  obtain ⟨a, b, h1, h2, h3⟩ := h
  exact ⟨a, b, h1, h2.to hb hB, h3.to hb hB⟩
theorem Tb.At.form {x : Tb} {B : Nat} {w : World} {v : Value} (h : x.At B w v) : ∃ p c q d, v = .agg #[.slice p x.cs.length c, .slice q x.rs.length d] := by
  obtain ⟨a, b, rfl, h1, h2⟩ := h
  obtain ⟨p, c, rfl⟩ := h1.form
  obtain ⟨q, d, rfl⟩ := h2.form
  exact ⟨p, c, q, d, rfl⟩
/-- A table in memory of the call's own, in the blocks F. -/
def Tb.Has (x : Tb) (v : Value) (F : List Nat) (u : World) : Prop :=
  ∃ a b F1 F2, v = .agg #[a, b] ∧ F = F1 ++ F2 ∧ kStr.Ow u a x.cs F1 ∧ kRow.Ow u b x.rs F2 ∧ ∀ y ∈ F1, y ∉ F2
theorem Tb.Has.at {x : Tb} {v : Value} {F : List Nat} {w : World} (h : x.Has v F w) : x.At w.heap.size w v := by
  obtain ⟨a, b, F1, F2, rfl, rfl, h1, h2, _⟩ := h
  exact ⟨a, b, rfl, h1.rd, h2.rd⟩
theorem Tb.Has.chg {x : Tb} {v : Value} {F G : List Nat} {w w' : World} (h : x.Has v F w) (hc : Chg G w w') (hd : ∀ y ∈ F, y ∉ G) : x.Has v F w' := by
  obtain ⟨a, b, F1, F2, rfl, rfl, h1, h2, h3⟩ := h
  exact ⟨a, b, F1, F2, rfl, rfl, h1.chg hc (fun y hy => hd y (List.mem_append_left _ hy)), h2.chg hc (fun y hy => hd y (List.mem_append_right _ hy)), h3⟩
theorem Tb.Has.below {x : Tb} {v : Value} {F : List Nat} {w w' : World} (h : x.Has v F w) (hb : Below w.heap.size w w') : x.Has v F w' := h.chg (Chg.of_below hb []) (by simp)
theorem Tb.Has.lt {x : Tb} {v : Value} {F : List Nat} {w : World} (h : x.Has v F w) : ∀ y ∈ F, y < w.heap.size := by
  obtain ⟨a, b, F1, F2, rfl, rfl, h1, h2, h3⟩ := h
  intro y hy
  rcases List.mem_append.1 hy with hy | hy
  · exact h1.lt y hy
  · exact h2.lt y hy
theorem Tb.goes (x : Tb) : Goes x.Has := fun _ _ _ _ _ h hc hd => h.chg hc hd
theorem Tb.Has.form {x : Tb} {v : Value} {F : List Nat} {w : World} (h : x.Has v F w) : ∃ p c q d, v = .agg #[.slice p x.cs.length c, .slice q x.rs.length d] := h.at.form
/-- An element's cells, at an index. -/
theorem kStr_get {B : Nat} {w : World} {p : Option Addr} {n cap : Nat} {xs : List ByteArray} (h : kStr.Rd B w (.slice p n cap) xs) {k : Nat} (hk : k < xs.length) :
    ∃ b off, p = some ⟨b, off, none⟩ ∧ b < B ∧ w.cell? ⟨b, off + k, none⟩ = some (.string xs[k]) := by
  obtain ⟨b, off, cs, e, hl, hc, rfl⟩ := h.get hk
  exact ⟨b, off, e, hl, by have := hc 0 _ rfl; rwa [show kStr.sz = 1 from rfl, Nat.mul_one, Nat.add_zero] at this⟩
theorem kRow_get {B : Nat} {w : World} {p : Option Addr} {n cap : Nat} {xs : List (List Int)} (h : kRow.Rd B w (.slice p n cap) xs) {k : Nat} (hk : k < xs.length) :
    ∃ b off q c, p = some ⟨b, off, none⟩ ∧ b < B ∧ w.cell? ⟨b, off + k, none⟩ = some (.slice q xs[k].length c) ∧ Sl 1 intCells B w (.slice q xs[k].length c) xs[k] := by
  obtain ⟨b, off, cs, e, hl, hc, v, rfl, hr⟩ := h.get hk
  have hs := kInt_rd.1 hr
  obtain ⟨q, c, rfl⟩ := hs.form
  exact ⟨b, off, q, c, e, hl, by have := hc 0 _ rfl; rwa [show kRow.sz = 1 from rfl, Nat.mul_one, Nat.add_zero] at this, hs⟩

/-- Lists of texts, the other way round. -/
theorem kStr_rd {B : Nat} {w : World} {v : Value} {xs : List ByteArray} : kStr.Rd B w v xs ↔ Sl 1 strCells B w v xs := by
  constructor
  · rintro ⟨p, cap, h1, h2, h3, h4⟩
    refine ⟨p, _, cap, h1, rfl, h2, h3, fun i hi => ?_⟩
    obtain ⟨b, off, cs, e, hl, hc, rfl⟩ := h4 i hi
    exact ⟨b, off, e, hl, hc⟩
  · rintro ⟨p, len, cap, h1, rfl, h2, h3, h4⟩
    refine ⟨p, cap, h1, h2, h3, fun i hi => ?_⟩
    obtain ⟨b, off, e, hl, hc⟩ := h4 i hi
    exact ⟨b, off, _, e, hl, hc, rfl⟩
set_option maxHeartbeats 1000000 in
theorem szStringS_any (xs : List ByteArray) (v : Value) (left : Int) (B : Nat) (w : World) (hv : kStr.Rd B w v xs) (hB : B ≤ w.heap.size) (h0 : 0 ≤ left) (h1 : left ≤ 1048576) (hok : ∀ x ∈ xs, x.size ≤ maxLen) :
    Calls Try.prog 33 #[v, .int .i64 left] w (SzPost left (xs.length + sumS xs) w.heap.size w) := by
  obtain ⟨p, cap, rfl⟩ := hv.form
  obtain ⟨_, hm1, hm⟩ := hv.max
  unfold maxLen at hm
  have HV := Lib.hid hv
  clear hv
  by_cases hlt : left < xs.length
  · go_enter Try.func33, Try.ntmps33
    go_wp2_with fail
    go_ret
    exact ⟨-1, rfl, .inl rfl, Below.refl _ _⟩
  · have q1 : decide (left - (xs.length : Int) < 0) = false := by simp; omega
    have q1' : decide (left < (xs.length : Int)) = false := by simp; omega
    go_enter Try.func33, Try.ntmps33
    go_wp2_with fail
    go_loopw [1, 5] (fun l i wr => ∃ (k : Nat) (m : Int), k ≤ xs.length ∧ i = .int .i64 k ∧ l = .int .i64 m ∧ 0 ≤ m ∧ m ≤ 1048576 ∧ RowKit.Hid (m = left - (xs.length + sumS (xs.take k))) ∧ Below w.heap.size w wr) (fun _ i _ => xs.length - (intOf i).toNat)
    case atStart => exact ⟨0, left - xs.length, Nat.zero_le _, rfl, rfl, by omega, by omega, Lib.hid (by simp [sumS]), Below.refl _ _⟩
    case round =>
      obtain ⟨k, m, hk, rfl, rfl, hm0, hm1, hme, hbw⟩ := hrel
      have hsz := hbw.size
      have HB := Lib.hid hbw
      clear hbw
      by_cases hlt2 : k < xs.length
      · obtain ⟨b, off, rfl, hb, c0⟩ := kStr_get (HV.out.to (HB.out.mono hB) (Nat.le_refl _)) hlt2
        have hx := hok _ (List.getElem_mem hlt2)
        have hsum := sumS_succ xs k hlt2
        obtain ⟨x, ex⟩ : ∃ x, x = xs[k] := ⟨_, rfl⟩
        rw [← ex] at c0 hx hsum
        have HS := Lib.hid hsum
        unfold maxLen at hx
        clear ex hsum
        by_cases hneg : m < x.size
        · have hneg' : m - (x.size : Int) < 0 := by omega
          go_wp2_with fail
          go_ret
          exact ⟨-1, rfl, .inl rfl, HB.out⟩
        · have q2 : decide (m - (x.size : Int) < 0) = false := by simp; omega
          have q2' : decide (m < (x.size : Int)) = false := by simp; omega
          have HR := Lib.hid (show m - (x.size : Int) = left - (xs.length + sumS (xs.take (k + 1))) by have a := hme.out; have b := HS.out; omega)
          go_wp2_with fail
          go_roundw
          case rel => exact ⟨k + 1, m - x.size, by omega, by go_num, rfl, by omega, by omega, HR, HB.out⟩
          case measure => simp [intOf]; omega
      · have HR := Lib.hid (show m = left - (xs.length + sumS xs) by have a := hme.out; rw [List.take_of_length_le (by omega)] at a; exact a)
        go_wp2_with fail
        go_ret
        exact ⟨m, rfl, .inr ⟨hm0, HR.out⟩, HB.out⟩

set_option maxHeartbeats 1000000 in
theorem szIntSS_any (xs : List (List Int)) (v : Value) (left : Int) (B : Nat) (w : World) (hv : kRow.Rd B w v xs) (hB : B ≤ w.heap.size) (h0 : 0 ≤ left) (h1 : left ≤ 1048576) :
    Calls Try.prog 67 #[v, .int .i64 left] w (SzPost left (xs.length + sumR xs) w.heap.size w) := by
  obtain ⟨p, cap, rfl⟩ := hv.form
  obtain ⟨_, hm1, hm⟩ := hv.max
  unfold maxLen at hm
  have HV := Lib.hid hv
  clear hv
  by_cases hlt : left < xs.length
  · go_enter Try.func67, Try.ntmps67
    go_wp2_with fail
    go_ret
    exact ⟨-1, rfl, .inl rfl, Below.refl _ _⟩
  · have q1 : decide (left - (xs.length : Int) < 0) = false := by simp; omega
    have q1' : decide (left < (xs.length : Int)) = false := by simp; omega
    go_enter Try.func67, Try.ntmps67
    go_wp2_with fail
    go_loopw [1, 5] (fun l i wr => ∃ (k : Nat) (m : Int), k ≤ xs.length ∧ i = .int .i64 k ∧ l = .int .i64 m ∧ 0 ≤ m ∧ m ≤ 1048576 ∧ RowKit.Hid (m = left - (xs.length + sumR (xs.take k))) ∧ Below w.heap.size w wr) (fun _ i _ => xs.length - (intOf i).toNat)
    case atStart => exact ⟨0, left - xs.length, Nat.zero_le _, rfl, rfl, by omega, by omega, Lib.hid (by simp [sumR]), Below.refl _ _⟩
    case round =>
      obtain ⟨k, m, hk, rfl, rfl, hm0, hm1, hme, hbw⟩ := hrel
      have hsz := hbw.size
      have HB := Lib.hid hbw
      clear hbw
      by_cases hlt2 : k < xs.length
      · obtain ⟨b, off, q, c, rfl, hb, c0, hin⟩ := kRow_get (HV.out.to (HB.out.mono hB) (Nat.le_refl _)) hlt2
        have hsum := sumR_succ xs k hlt2
        obtain ⟨x, ex⟩ : ∃ x, x = xs[k] := ⟨_, rfl⟩
        rw [← ex] at c0 hsum hin
        have HS := Lib.hid hsum
        have HIN := Lib.hid hin
        clear ex hsum hin
        go_wp2_with fail
        refine (szIntS_any x _ m B _ HIN.out (by omega) hm0 hm1).mono ?_
        rintro en w' ⟨s, rfl, hr, hb1⟩
        have HB1 := Lib.hid hb1
        clear hb1
        rcases hr with hr | ⟨hr0, hr⟩
        · have hneg : s < 0 := by omega
          clear hr
          go_wp2_with fail
          go_ret
          exact ⟨-1, rfl, .inl rfl, HB.out.trans (HB1.out.mono hsz)⟩
        · have hr1 : s ≤ 1048576 := by omega
          have HR := Lib.hid (show s = left - (xs.length + sumR (xs.take (k + 1))) by have a := hme.out; have b := HS.out; omega)
          clear hr
          go_wp2_with fail
          go_roundw
          case rel => exact ⟨k + 1, s, by omega, by go_num, rfl, hr0, hr1, HR, HB.out.trans (HB1.out.mono hsz)⟩
          case measure => simp [intOf]; omega
      · have HR := Lib.hid (show m = left - (xs.length + sumR xs) by have a := hme.out; rw [List.take_of_length_le (by omega)] at a; exact a)
        go_wp2_with fail
        go_ret
        exact ⟨m, rfl, .inr ⟨hm0, HR.out⟩, HB.out⟩

theorem infoStrT : (Try.prog.info? 9).map (fun i => (i.zero, i.size, i.bytes)) = some (some (.string ⟨#[]⟩), 1, 16) := by kernel_rfl
theorem infoRowT : (Try.prog.info? 23).map (fun i => (i.zero, i.size, i.bytes)) = some (some (.slice none 0 0), 1, 24) := by kernel_rfl
/-- A store of one cell. -/
theorem stores1 {T : TypeId} {b o : Nat} {x : Value} {w : World} : Stores T b o 1 [x] w (w.setCell ⟨b, o, none⟩ x) := by
  refine ⟨(Chg.refl _ w).setCell (by simp) _, fun L hL hl => ⟨L.set o x, hL.set _ _, by simp, fun i hi => ?_, fun j u hu => ?_⟩⟩
  · rw [List.getElem?_set_ne (by omega)]
  · match j, hu with
    | 0, hu =>
      simp at hu; subst hu
      rw [Nat.add_zero, List.getElem?_set_self (by omega)]
    | j + 1, hu => simp at hu

set_option maxRecDepth 100000 in
set_option maxHeartbeats 1000000 in
theorem toStringS_any (xs : List ByteArray) (v : Value) (B : Nat) (w : World) (hv : kStr.Rd B w v xs) (hB : B ≤ w.heap.size) (hn : xs.length ≤ 1048576) :
    Calls Try.prog 36 #[v] w fun e w' => ∃ v' F, e = .returned v' ∧ kStr.Ow w' v' xs F ∧ (∀ x ∈ F, w.heap.size ≤ x) ∧ Below w.heap.size w w' := by
  obtain ⟨p, cap, rfl⟩ := hv.form
  obtain ⟨_, hm1, hm2⟩ := hv.max
  unfold maxLen at hm2
  have HV := Lib.hid hv
  clear hv
  have hmk : ∀ w : World, (Instr.makeSlice 30 (.int .i64 (xs.length : Int)) (.int .i64 (xs.length : Int))).run Try.prog w = .ok (.slice (some ⟨w.heap.size, 0, none⟩) xs.length xs.length) (w.alloc (.cells (madeCells #[.string ⟨#[]⟩] xs.length) 9)) := by
    intro w
    obtain ⟨i, hi, hzz⟩ := Option.map_eq_some_iff.1 infoStrT
    simp only [Prod.mk.injEq] at hzz
    obtain ⟨hz, hs, hb⟩ := hzz
    have hr := run_make (P := Try.prog) w 30 9 i _ Try.underlying30 hi hz .i64 .i64 xs.length xs.length (by omega) (Int.le_refl _) (by rw [hb]; omega) (by omega)
    rw [hs, Nat.mul_one] at hr
    exact hr
  have hbk := Blk.new w (madeCells #[.string ⟨#[]⟩] xs.length) 9
  have HI0 := Lib.hid (KInv.zero (K := kStr) (xs := xs) (by simp [madeCells]; exact (Nat.mul_one _).symm) hbk)
  clear hbk
  go_enter Try.func36, Try.ntmps36
  go_wp2_with fail
  go_loopw [4] (fun i wr => ∃ (k : Nat), k ≤ xs.length ∧ i = .int .i64 k ∧ RowKit.Hid (KInv kStr xs 9 w.heap.size k wr) ∧ Below w.heap.size w wr) (fun i _ => xs.length - (intOf i).toNat)
  case atStart => exact ⟨0, Nat.zero_le _, rfl, HI0, (Below.refl _ _).alloc (Nat.le_refl _) _⟩
  case round =>
    obtain ⟨k, hk, rfl, HI, hbw⟩ := hrel
    have hsz := hbw.size
    have hlt := HI.out.lt
    have HB := Lib.hid hbw
    clear hbw
    by_cases hlt2 : k < xs.length
    · obtain ⟨b, off, rfl, hb, c0⟩ := kStr_get (HV.out.to (HB.out.mono hB) (Nat.le_refl _)) hlt2
      have HN := Lib.hid (HI.out.step hlt2 (Below.refl _ _) (show kStr.ow wr xs[k] [.string xs[k]] [] from ⟨rfl, rfl⟩) (by simp) stores1)
      obtain ⟨⟨d0, e0⟩, g0⟩ := HI.out.cells k (by rw [show kStr.sz = 1 from rfl]; omega)
      rw [show k * kStr.sz = k from Nat.mul_one k] at HN
      go_wp2_with fail
      go_roundw
      case rel => exact ⟨k + 1, by omega, by go_num, HN, HB.out.setCell (Nat.le_refl _) _⟩
      case measure => simp [intOf]; omega
    · obtain rfl : k = xs.length := by omega
      obtain ⟨F, ho, hF⟩ := HI.out.done (by unfold maxLen; omega)
      have HO := Lib.hid ho
      have HF := Lib.hid hF
      clear ho hF
      go_wp2_with fail
      go_ret
      exact ⟨_, F, rfl, HO.out, HF.out, HB.out⟩

set_option maxRecDepth 100000 in
set_option maxHeartbeats 1000000 in
theorem toIntSS_any (xs : List (List Int)) (v : Value) (B : Nat) (w : World) (hv : kRow.Rd B w v xs) (hB : B ≤ w.heap.size) (hn : xs.length + sumR xs ≤ 1048576) :
    Calls Try.prog 68 #[v] w fun e w' => ∃ v' F, e = .returned v' ∧ kRow.Ow w' v' xs F ∧ (∀ x ∈ F, w.heap.size ≤ x) ∧ Below w.heap.size w w' := by
  obtain ⟨p, cap, rfl⟩ := hv.form
  obtain ⟨_, hm1, hm2⟩ := hv.max
  unfold maxLen at hm2
  have HV := Lib.hid hv
  clear hv
  have hmk : ∀ w : World, (Instr.makeSlice 31 (.int .i64 (xs.length : Int)) (.int .i64 (xs.length : Int))).run Try.prog w = .ok (.slice (some ⟨w.heap.size, 0, none⟩) xs.length xs.length) (w.alloc (.cells (madeCells #[.slice none 0 0] xs.length) 23)) := by
    intro w
    obtain ⟨i, hi, hzz⟩ := Option.map_eq_some_iff.1 infoRowT
    simp only [Prod.mk.injEq] at hzz
    obtain ⟨hz, hs, hb⟩ := hzz
    have hr := run_make (P := Try.prog) w 31 23 i _ Try.underlying31 hi hz .i64 .i64 xs.length xs.length (by omega) (Int.le_refl _) (by rw [hb]; omega) (by omega)
    rw [hs, Nat.mul_one] at hr
    exact hr
  have hbk := Blk.new w (madeCells #[.slice none 0 0] xs.length) 23
  have HI0 := Lib.hid (KInv.zero (K := kRow) (xs := xs) (by simp [madeCells]; exact (Nat.mul_one _).symm) hbk)
  clear hbk
  go_enter Try.func68, Try.ntmps68
  go_wp2_with fail
  go_loopw [4] (fun i wr => ∃ (k : Nat), k ≤ xs.length ∧ i = .int .i64 k ∧ RowKit.Hid (KInv kRow xs 23 w.heap.size k wr) ∧ Below w.heap.size w wr) (fun i _ => xs.length - (intOf i).toNat)
  case atStart => exact ⟨0, Nat.zero_le _, rfl, HI0, (Below.refl _ _).alloc (Nat.le_refl _) _⟩
  case round =>
    obtain ⟨k, hk, rfl, HI, hbw⟩ := hrel
    have hsz := hbw.size
    have hlt := HI.out.lt
    have HB := Lib.hid hbw
    clear hbw
    by_cases hlt2 : k < xs.length
    · obtain ⟨b, off, q, c, rfl, hb, c0, hin⟩ := kRow_get (HV.out.to (HB.out.mono hB) (Nat.le_refl _)) hlt2
      have hsize := sumR_get xs k hlt2
      have hstep := fun (w1 : World) (hb : Below wr.heap.size wr w1) (s : Value) (F' : List Nat) (ho : OwnSl 1 intCells w1 s xs[k] F') (hF : ∀ x ∈ F', wr.heap.size ≤ x) => HI.out.step hlt2 hb (show kRow.ow w1 xs[k] [s] F' from ⟨s, rfl, kInt_ow.2 ho⟩) hF (stores1 (o := k * kRow.sz))
      rw [show k * kRow.sz = k from Nat.mul_one k] at hstep
      obtain ⟨x, ex⟩ : ∃ x, x = xs[k] := ⟨_, rfl⟩
      rw [← ex] at c0 hin hsize hstep
      have HIN := Lib.hid hin
      have HS := Lib.hid hstep
      clear ex hin hstep
      go_wp2_with fail
      refine (toIntS_any x _ B _ HIN.out (by omega) (by omega)).mono ?_
      rintro en w1 ⟨v1, F1, rfl, ho, hF, hb1⟩
      obtain ⟨p1, d1, rfl⟩ := ho.sl.form
      have HN := Lib.hid (HS.out w1 hb1 _ F1 ho hF)
      have HB1 := Lib.hid (HB.out.trans (hb1.mono hsz))
      have hw1 : w.heap.size < w1.heap.size := Nat.lt_of_lt_of_le hlt hb1.size
      obtain ⟨⟨d0, e0⟩, g0⟩ := HI.out.cells k (by rw [show kRow.sz = 1 from rfl]; omega)
      have e0' := keepc hb1 hlt e0
      have g0' : w1.frozen? ⟨w.heap.size, k, none⟩ = false := (hb1.frozen (p := ⟨w.heap.size, k, none⟩) hlt).trans g0
      clear hb1 ho hF e0 g0
      go_wp2_with fail
      go_roundw
      case rel => exact ⟨k + 1, by omega, by go_num, HN, HB1.out.setCell (Nat.le_refl _) _⟩
      case measure => simp [intOf]; omega
    · obtain rfl : k = xs.length := by omega
      obtain ⟨F, ho, hF⟩ := HI.out.done (by unfold maxLen; omega)
      have HO := Lib.hid ho
      have HF := Lib.hid hF
      clear ho hF
      go_wp2_with fail
      go_ret
      exact ⟨_, F, rfl, HO.out, HF.out, HB.out⟩

set_option maxRecDepth 100000 in
set_option maxHeartbeats 1000000 in
theorem eqStringS_any (xs : List ByteArray) (v v' : Value) (B : Nat) (w : World) (hv : kStr.Rd B w v xs) (hv' : kStr.Rd B w v' xs) (hB : B ≤ w.heap.size) :
    Calls Try.prog 39 #[v, v'] w fun e w' => e = .returned (.bool true) ∧ Below w.heap.size w w' := by
  obtain ⟨p, cap, rfl⟩ := hv.form
  obtain ⟨p', cap', rfl⟩ := hv'.form
  obtain ⟨_, _, hm⟩ := hv.max
  obtain ⟨_, _, hm'⟩ := hv'.max
  have hl := hv.max.2.1
  unfold maxLen at hm hm'
  have HV := Lib.hid hv
  have HV' := Lib.hid hv'
  clear hv hv'
  go_enter Try.func39, Try.ntmps39
  go_wp2_with fail
  go_loopw [5] (fun i wr => ∃ k : Nat, k ≤ xs.length ∧ i = .int .i64 k ∧ Below w.heap.size w wr) (fun i _ => xs.length - (intOf i).toNat)
  case atStart => exact ⟨0, Nat.zero_le _, rfl, Below.refl _ _⟩
  case round =>
    obtain ⟨k, hk, rfl, hbw⟩ := hrel
    have hsz := hbw.size
    have HB := Lib.hid hbw
    clear hbw
    by_cases hlt2 : k < xs.length
    · obtain ⟨b, off, rfl, hb, c0⟩ := kStr_get (HV.out.to (HB.out.mono hB) (Nat.le_refl _)) hlt2
      obtain ⟨b', off', rfl, hb', d0⟩ := kStr_get (HV'.out.to (HB.out.mono hB) (Nat.le_refl _)) hlt2
      obtain ⟨x, ex⟩ : ∃ x, x = xs[k] := ⟨_, rfl⟩
      rw [← ex] at c0 d0
      clear ex
      go_wp2_with fail
      go_still_tail 8, (by kernel_rfl)
      go_wp2_with fail
      go_roundw
      case rel => exact ⟨k + 1, by omega, by go_num, HB.out.drew⟩
      case measure => simp [intOf]; omega
    · obtain rfl : k = xs.length := by omega
      go_wp2_with fail
      go_ret
      exact ⟨rfl, HB.out⟩

set_option maxRecDepth 100000 in
set_option maxHeartbeats 1000000 in
theorem eqIntSS_any (xs : List (List Int)) (v v' : Value) (B : Nat) (w : World) (hv : kRow.Rd B w v xs) (hv' : kRow.Rd B w v' xs) (hB : B ≤ w.heap.size) :
    Calls Try.prog 69 #[v, v'] w fun e w' => e = .returned (.bool true) ∧ Below w.heap.size w w' := by
  obtain ⟨p, cap, rfl⟩ := hv.form
  obtain ⟨p', cap', rfl⟩ := hv'.form
  obtain ⟨_, _, hm⟩ := hv.max
  obtain ⟨_, _, hm'⟩ := hv'.max
  have hl := hv.max.2.1
  unfold maxLen at hm hm'
  have HV := Lib.hid hv
  have HV' := Lib.hid hv'
  clear hv hv'
  go_enter Try.func69, Try.ntmps69
  go_wp2_with fail
  go_loopw [5] (fun i wr => ∃ k : Nat, k ≤ xs.length ∧ i = .int .i64 k ∧ Below w.heap.size w wr) (fun i _ => xs.length - (intOf i).toNat)
  case atStart => exact ⟨0, Nat.zero_le _, rfl, Below.refl _ _⟩
  case round =>
    obtain ⟨k, hk, rfl, hbw⟩ := hrel
    have hsz := hbw.size
    have HB := Lib.hid hbw
    clear hbw
    by_cases hlt2 : k < xs.length
    · obtain ⟨b, off, q, c, rfl, hb, c0, hin⟩ := kRow_get (HV.out.to (HB.out.mono hB) (Nat.le_refl _)) hlt2
      obtain ⟨b', off', q', c', rfl, hb', d0, hin'⟩ := kRow_get (HV'.out.to (HB.out.mono hB) (Nat.le_refl _)) hlt2
      obtain ⟨x, ex⟩ : ∃ x, x = xs[k] := ⟨_, rfl⟩
      rw [← ex] at c0 d0 hin hin'
      have H1 := Lib.hid (hin.below (Below.refl B wr).drew)
      have H2 := Lib.hid (hin'.below (Below.refl B wr).drew)
      clear ex hin hin'
      go_wp2_with fail
      go_still_tail 8, (by kernel_rfl)
      go_wp2_with fail
      refine (eqIntS_any x _ _ B _ H1.out H2.out (by show B ≤ wr.heap.size; omega)).mono ?_
      rintro en w' ⟨rfl, hb1⟩
      have HB1 := Lib.hid (HB.out.drew.trans (hb1.mono hsz))
      clear hb1
      go_wp2_with fail
      go_roundw
      case rel => exact ⟨k + 1, by omega, by go_num, HB1.out⟩
      case measure => simp [intOf]; omega
    · obtain rfl : k = xs.length := by omega
      go_wp2_with fail
      go_ret
      exact ⟨rfl, HB.out⟩

set_option maxHeartbeats 1000000 in
theorem szTable_any (x : Tb) (v : Value) (left : Int) (B : Nat) (w : World) (hx : x.At B w v) (hB : B ≤ w.heap.size) (h0 : 0 ≤ left) (h1 : left ≤ 1048576) (hok : x.Ok) :
    Calls Try.prog 29 #[v, .int .i64 left] w (SzPost left x.need w.heap.size w) := by
  obtain ⟨a, b, rfl, ha, hb⟩ := hx
  have H1 := Lib.hid ha
  have H2 := Lib.hid hb
  clear ha hb
  go_enter Try.func29, Try.ntmps29
  go_wp2_with fail
  refine (szStringS_any x.cs a left B _ (H1.out.to ((Below.refl B w).alloc hB _) (Nat.le_refl _)) (by simp; omega) h0 h1 hok.1).mono ?_
  rintro e w1 ⟨r, rfl, hr, hb1⟩
  have hs1 : w.heap.size < w1.heap.size := by have := hb1.size; simp at this; omega
  have c1 := new_cell hb1 (j := 1) rfl
  have HB1 := Lib.hid (below_past hb1)
  clear hb1
  rcases hr with hr | ⟨hr0, hr⟩
  · have HR := Lib.hid hr
    have hneg : r < 0 := by omega
    clear hr
    go_wp2_with fail
    go_ret
    exact ⟨-1, rfl, .inl rfl, HB1.out⟩
  · have hr1 : r ≤ 1048576 := by omega
    have HR := Lib.hid hr
    clear hr
    go_wp2_with fail
    refine (szIntSS_any x.rs b r B _ (H2.out.to (HB1.out.mono hB) (Nat.le_refl _)) (by omega) hr0 hr1).mono ?_
    rintro e w2 ⟨r2, rfl, hr2, hb2⟩
    have HB2 := Lib.hid (HB1.out.trans (hb2.mono (by omega)))
    clear hb2
    rcases hr2 with hr2 | ⟨hr20, hr2⟩
    · have hneg : r2 < 0 := by omega
      clear hr2
      go_wp2_with fail
      go_ret
      exact ⟨-1, rfl, .inl rfl, HB2.out⟩
    · have HR2 := Lib.hid hr2
      clear hr2
      go_wp2_with fail
      go_ret
      exact ⟨r2, rfl, .inr ⟨hr20, by have a := HR.out; have b := HR2.out; unfold Tb.need; omega⟩, HB2.out⟩

set_option maxHeartbeats 1000000 in
theorem toTable_raw (g : Tb) (v : Value) (B : Nat) (w : World) (hg : g.At B w v) (hB : B ≤ w.heap.size) (h1 : g.cs.length ≤ 1048576) (h2 : g.rs.length + sumR g.rs ≤ 1048576) :
    Calls Try.prog 30 #[v] w fun e w' => ∃ v' F1 F2, e = .returned v' ∧ (∃ a b, v' = .agg #[a, b] ∧ kStr.Ow w' a g.cs F1 ∧ kRow.Ow w' b g.rs F2 ∧ (∀ x ∈ F1, w.heap.size ≤ x) ∧ (∀ x ∈ F2, w.heap.size ≤ x) ∧ (∀ x ∈ F1, x ∉ F2)) ∧ Below w.heap.size w w' := by
  obtain ⟨a, b, rfl, ha, hb⟩ := hg
  go_enter Try.func30, Try.ntmps30
  go_wp2_with fail
  have HW := Lib.hid ((((Below.refl B w).alloc hB (.cells #[a, b] 44)).alloc (by simp; omega) (.cells #[.slice none 0 0, .slice none 0 0] 33)).alloc (by simp; omega) (.cells #[.slice none 0 0, .slice none 0 0] 33))
  have HV := Lib.hid ((((Below.refl w.heap.size w).alloc (by simp) (.cells #[a, b] 44)).alloc (by simp) (.cells #[.slice none 0 0, .slice none 0 0] 33)).alloc (by simp <;> omega) (.cells #[.slice none 0 0, .slice none 0 0] 33))
  refine (toStringS_any g.cs a B _ (ha.to HW.out (Nat.le_refl _)) (by simp; omega) h1).mono ?_
  rintro e w1 ⟨v1, F1, rfl, ho1, hf1, hb1⟩
  have hs1 : w.heap.size + 3 ≤ w1.heap.size := by have := hb1.size; simp at this; omega
  have p1 : w1.cell? ⟨w.heap.size, 1, none⟩ = some b := (hb1.cell (by simp; omega)).trans (by simp [go_sem])
  have q0 : w1.cell? ⟨w.heap.size + 1, 0, none⟩ = some (.slice none 0 0) := (hb1.cell (by simp)).trans (by simp [go_sem])
  have q1 : w1.cell? ⟨w.heap.size + 1, 1, none⟩ = some (.slice none 0 0) := (hb1.cell (by simp)).trans (by simp [go_sem])
  have q2 : w1.frozen? ⟨w.heap.size + 1, 0, none⟩ = false := (hb1.frozen (by simp)).trans (by simp [go_sem])
  have q3 : w1.frozen? ⟨w.heap.size + 1, 1, none⟩ = false := (hb1.frozen (by simp)).trans (by simp [go_sem])
  have r0 : w1.cell? ⟨w.heap.size + 1 + 1, 0, none⟩ = some (.slice none 0 0) := (hb1.cell (by simp)).trans (by simp [go_sem])
  have r1 : w1.cell? ⟨w.heap.size + 1 + 1, 1, none⟩ = some (.slice none 0 0) := (hb1.cell (by simp)).trans (by simp [go_sem])
  have r2 : w1.frozen? ⟨w.heap.size + 1 + 1, 0, none⟩ = false := (hb1.frozen (by simp)).trans (by simp [go_sem])
  have r3 : w1.frozen? ⟨w.heap.size + 1 + 1, 1, none⟩ = false := (hb1.frozen (by simp)).trans (by simp [go_sem])
  have HB1 := Lib.hid (HV.out.trans (hb1.mono (by simp; omega)))
  have HO1 := Lib.hid ho1
  have HF1 := Lib.hid (show ∀ x ∈ F1, w.heap.size + 3 ≤ x from fun x hx => by have := hf1 x hx; simp at this; omega)
  clear hf1
  have HC1 := Lib.hid (HW.out.trans (hb1.mono (by simp; omega)))
  clear hb1 ho1
  obtain ⟨pn, cn, rfl⟩ := HO1.out.form
  go_wp2_with fail
  refine (toIntSS_any g.rs b B _ (hb.to (HC1.out.setCell (by simp; omega) _) (Nat.le_refl _)) (by simp; omega) h2).mono ?_
  rintro e w2 ⟨v2, F2, rfl, ho2, hf2, hb2⟩
  have hz : (w1.setCell ⟨w.heap.size + 1 + 1, 0, none⟩ (.slice pn g.cs.length cn)).heap.size = w1.heap.size := by simp
  have hs2 : w1.heap.size ≤ w2.heap.size := by have := hb2.size; simp at this; omega
  have q0' : w2.cell? ⟨w.heap.size + 1, 0, none⟩ = some (.slice none 0 0) := ((hb2.cell (by simp; omega)).trans (set_far _ _ _ _ _ _ (by omega))).trans q0
  have q1' : w2.cell? ⟨w.heap.size + 1, 1, none⟩ = some (.slice none 0 0) := ((hb2.cell (by simp; omega)).trans (set_far _ _ _ _ _ _ (by omega))).trans q1
  have q2' : w2.frozen? ⟨w.heap.size + 1, 0, none⟩ = false := ((hb2.frozen (by simp; omega)).trans (by simp [go_sem])).trans q2
  have q3' : w2.frozen? ⟨w.heap.size + 1, 1, none⟩ = false := ((hb2.frozen (by simp; omega)).trans (by simp [go_sem])).trans q3
  have r0' : w2.cell? ⟨w.heap.size + 1 + 1, 0, none⟩ = some (.slice pn g.cs.length cn) := (hb2.cell (by simp; omega)).trans (set_same _ _ _ _ _ r0)
  have r1' : w2.cell? ⟨w.heap.size + 1 + 1, 1, none⟩ = some (.slice none 0 0) := ((hb2.cell (by simp; omega)).trans (set_near _ _ _ _ _ (by omega))).trans r1
  have r2' : w2.frozen? ⟨w.heap.size + 1 + 1, 0, none⟩ = false := ((hb2.frozen (by simp; omega)).trans (by simp [go_sem])).trans r2
  have r3' : w2.frozen? ⟨w.heap.size + 1 + 1, 1, none⟩ = false := ((hb2.frozen (by simp; omega)).trans (by simp [go_sem])).trans r3
  have HB2 := Lib.hid ((HB1.out.setCell (p := ⟨w.heap.size + 1 + 1, 0, none⟩) (by simp; omega) (.slice pn g.cs.length cn)).trans (hb2.mono (by simp; omega)))
  have HD2 := Lib.hid hb2
  have HO2 := Lib.hid ho2
  have HF2 := Lib.hid (show ∀ x ∈ F2, w1.heap.size ≤ x from fun x hx => by have := hf2 x hx; simp at this; omega)
  clear hf2
  clear hb2 ho2 p1 q0 q1 q2 q3 r0 r1 r2 r3
  obtain ⟨pe, ce, rfl⟩ := HO2.out.form
  go_wp2_with fail
  refine bodyPost_ret (v := .agg #[.slice pn g.cs.length cn, .slice pe g.rs.length ce]) (by simp [results, Try.results30, go_sem, q0', q1']) rfl ⟨_, F1, F2, rfl, ?_, ((HB2.out.setCell (by simp; omega) _).setCell (by simp) _).setCell (by simp) _⟩
  have g1 := fun x hx => HF1.out x hx
  have g2 := fun x hx => HF2.out x hx
  have hl1 := HO1.out.lt
  have hc1 : Chg [w.heap.size + 1 + 1] w1 w2 := ((Chg.refl [w.heap.size + 1 + 1] w1).setCell (by simp) _).then_below HD2.out
  have hc2 : Chg [w.heap.size + 1 + 1, w.heap.size + 1] w2 (((w2.setCell ⟨w.heap.size + 1 + 1, 1, none⟩ (.slice pe g.rs.length ce)).setCell ⟨w.heap.size + 1, 0, none⟩ (.slice pn g.cs.length cn)).setCell ⟨w.heap.size + 1, 1, none⟩ (.slice pe g.rs.length ce)) :=
    (((Chg.refl _ w2).setCell (by simp) _).setCell (by simp) _).setCell (by simp) _
  refine ⟨_, _, rfl, (HO1.out.chg hc1 ?_).chg hc2 ?_, HO2.out.chg hc2 ?_, ?_, ?_, ?_⟩
  · intro x hx; have := g1 x hx; simp; omega
  · intro x hx; have := g1 x hx; simp; omega
  · intro x hx; have := g2 x hx; simp; omega
  · intro x hx; have := g1 x hx; omega
  · intro x hx; have := g2 x hx; omega
  · intro x hx hx2; have := hl1 x hx; have := g2 x hx2; omega

theorem toTable_any (x : Tb) (v : Value) (B : Nat) (w : World) (hx : x.At B w v) (hB : B ≤ w.heap.size) (hn : x.need ≤ 1048576) :
    Calls Try.prog 30 #[v] w fun e w' => ∃ v' F, e = .returned v' ∧ x.Has v' F w' ∧ (∀ y ∈ F, w.heap.size ≤ y) ∧ Below w.heap.size w w' := by
  have h1 : x.cs.length ≤ 1048576 := by unfold Tb.need at hn; omega
  have h2 : x.rs.length + sumR x.rs ≤ 1048576 := by unfold Tb.need at hn; omega
  refine (toTable_raw x v B w hx hB h1 h2).mono ?_
  rintro e w' ⟨v', F1, F2, rfl, ⟨a, b, rfl, o1, o2, l1, l2, hd⟩, hb⟩
  refine ⟨_, F1 ++ F2, rfl, ⟨a, b, F1, F2, rfl, rfl, o1, o2, hd⟩, fun y hy => ?_, hb⟩
  rcases List.mem_append.1 hy with hy | hy
  · exact l1 y hy
  · exact l2 y hy

set_option maxHeartbeats 1000000 in
theorem eqTable_any (g : Tb) (v v' : Value) (B : Nat) (w : World) (hg : g.At B w v) (hg' : g.At B w v') (hB : B ≤ w.heap.size) :
    Calls Try.prog 31 #[v, v'] w fun e w' => e = .returned (.bool true) ∧ Below w.heap.size w w' := by
  obtain ⟨a, b, rfl, ha, hb⟩ := hg
  obtain ⟨a', b', rfl, ha', hb'⟩ := hg'
  go_enter Try.func31, Try.ntmps31
  go_wp2_with fail
  have HW := Lib.hid (((Below.refl B w).alloc hB (.cells #[a, b] 33)).alloc (by simp; omega) (.cells #[a', b'] 33))
  refine (eqStringS_any g.cs a a' B _ (ha.to HW.out (Nat.le_refl _)) (ha'.to HW.out (Nat.le_refl _)) (by simp; omega)).mono ?_
  rintro e w1 ⟨rfl, hb1⟩
  have hs1 : w.heap.size + 2 ≤ w1.heap.size := by have := hb1.size; simp at this; omega
  have p1 : w1.cell? ⟨w.heap.size, 1, none⟩ = some b := (hb1.cell (by simp; omega)).trans (by simp [go_sem])
  have q1 : w1.cell? ⟨w.heap.size + 1, 1, none⟩ = some b' := (hb1.cell (by simp)).trans (by simp [go_sem])
  have HB1 := Lib.hid ((((Below.refl w.heap.size w).alloc (by simp) (.cells #[a, b] 33)).alloc (by simp) (.cells #[a', b'] 33)).trans (hb1.mono (by simp; omega)))
  clear hb1
  go_wp2_with fail
  refine (eqIntSS_any g.rs b b' B _ (hb.to (HB1.out.mono hB) (Nat.le_refl _)) (hb'.to (HB1.out.mono hB) (Nat.le_refl _)) (by omega)).mono ?_
  rintro e w2 ⟨rfl, hb2⟩
  have HB2 := Lib.hid (HB1.out.trans (hb2.mono (by omega)))
  clear hb2
  go_wp2_with fail
  go_ret
  exact ⟨rfl, HB2.out⟩

end Go.Proofs.Ytfdkmngkpihpbaa
