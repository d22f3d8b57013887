/- Tables that are valid, as the model tells it. -/
import Derived.Test.YtfdkmngkpihpbaaTbP
import Derived.Test.YtfdkmngkpihpbaaSInT
import Derived.BigQuiet
namespace Go.Proofs.Ytfdkmngkpihpbaa
open Go.RowKit

theorem inS_mem {xs : List ByteArray} {s : ByteArray} : inS xs s = hasS xs s := by
  by_cases h : s ∈ xs
  · rw [hasS_yes h]
    exact List.any_eq_true.2 ⟨s, h, str_same rfl⟩
  · rw [hasS_no h]
    unfold inS
    rw [List.any_eq_false]
    intro a ha
    rw [str_diff (fun e => h (by rw [← e]; exact ha))]
    exact Bool.false_ne_true
theorem okNum_lo' {n : Int} (h : n < -1) : okNum n = false := by unfold okNum; rw [decide_eq_false (p := -1 ≤ n) (by omega)]; rfl
theorem okNum_hi' {n : Int} (h : 1000 < n) : okNum n = false := by unfold okNum; rw [decide_eq_false (p := n ≤ 1000) (by omega), Bool.and_false]
theorem okNum_in' {n : Int} (h : ¬ n < -1) (h2 : ¬ 1000 < n) : okNum n = true := by unfold okNum; rw [decide_eq_true (p := -1 ≤ n) (by omega), decide_eq_true (p := n ≤ 1000) (by omega)]; rfl
theorem rowOk_len' {k : Nat} {r : List Int} (h : r.length ≠ k) : rowOk k r = false := by unfold rowOk; rw [decide_eq_false h]; rfl
theorem rowOk_all' {k : Nat} {r : List Int} (h : r.length = k) : rowOk k r = r.all okNum := by unfold rowOk; rw [decide_eq_true h]; rfl
theorem ok_names' {x : Tb} (h : tbNames x.cs = false) : x.ok = false := by unfold Tb.ok; rw [h]; rfl
theorem ok_many' {x : Tb} (h : 400 < x.rs.length) : x.ok = false := by unfold Tb.ok; rw [decide_eq_false (p := x.rs.length ≤ 400) (by omega)]; simp
theorem ok_rows' {x : Tb} (h : tbNames x.cs = true) (h2 : ¬ 400 < x.rs.length) : x.ok = x.rs.all (rowOk x.cs.length) := by unfold Tb.ok; rw [h, decide_eq_true (p := x.rs.length ≤ 400) (by omega)]; simp
/-- What l2In wants of a row of texts. -/
theorem kStr_cells {B : Nat} {w : World} {p : Option Addr} {n cap : Nat} {xs : List ByteArray} (h : kStr.Rd B w (.slice p n cap) xs) : xs.length = 0 ∨ ∃ b off, p = some ⟨b, off, none⟩ ∧ ∀ (i : Nat) (h : i < xs.length), w.cell? ⟨b, off + i, none⟩ = some (.string xs[i]) := by
  by_cases h0 : xs.length = 0
  · exact .inl h0
  · obtain ⟨b, off, e, _, _⟩ := kStr_get h (k := 0) (by omega)
    refine .inr ⟨b, off, e, fun i hi => ?_⟩
    obtain ⟨b', off', e', _, hc⟩ := kStr_get h hi
    rw [e] at e'
    cases e'
    exact hc
theorem specIn_any (xs : List ByteArray) (s : ByteArray) (v : Value) (B : Nat) (w : World) (hv : kStr.Rd B w v xs) (hn : xs.length ≤ 1048576) :
    Calls Try.prog 100 #[v, .string s] w fun e w' => e = .returned (.bool (hasS xs s)) ∧ w = w' := by
  obtain ⟨p, cap, rfl⟩ := hv.form
  rw [← inS_mem]
  exact l2In_any xs s p cap w (by omega) (kStr_cells hv)
theorem tb_drewN {B : Nat} {a w : World} (h : Below B a w) (n : Nat) : Below B a (w.drewN n) := by
  induction n with
  | zero => exact h
  | succ n ih => exact ih.drew
/-- Names are valid up to k. -/
def NameTo (cs : List ByteArray) (k : Nat) : Prop := OnceA cs k ∧ AllTo lv cs k
theorem names_full {cs : List ByteArray} (h : NameTo cs cs.length) : tbNames cs = (decide (1 ≤ cs.length) && decide (cs.length ≤ 6)) := by
  unfold tbNames onceS
  rw [h.2.full, decide_eq_true h.1.full, Bool.and_true, Bool.and_true]
theorem names_lv {cs : List ByteArray} {k : Nat} (hk : k < cs.length) (h : lv cs[k] = false) : tbNames cs = false := by
  unfold tbNames; rw [all_no hk h, Bool.and_false]
theorem names_in {cs : List ByteArray} {k : Nat} (hk : k < cs.length) (h : cs[k] ∈ cs.take k) : tbNames cs = false := by
  unfold tbNames onceS; rw [decide_eq_false (once_bad hk h), Bool.and_false, Bool.false_and]
set_option maxRecDepth 100000 in
set_option maxHeartbeats 2000000 in
theorem l11Names_any (xs : List ByteArray) (v : Value) (B : Nat) (w : World) (hv : kStr.Rd B w v xs) (hB : B ≤ w.heap.size) (hok : ∀ s ∈ xs, s.size ≤ maxLen) (hn : xs.length ≤ 1048576) :
    Calls Try.prog 65 #[v] w fun e w' => e = .returned (.bool (tbNames xs)) ∧ Below w.heap.size w w' := by
  obtain ⟨p, cap, rfl⟩ := hv.form
  have hmx := hv.max
  unfold maxLen at hmx
  have HV := Lib.hid hv
  have HOK := Lib.hid hok
  clear hv hok
  go_enter Try.func65, Try.ntmps65
  go_wp2_with fail
  go_loopw [3] (fun i wr => ∃ k : Nat, k ≤ xs.length ∧ i = .int .i64 k ∧ RowKit.Hid (NameTo xs k) ∧ Below w.heap.size w wr) (fun i _ => xs.length - (intOf i).toNat)
  case atStart => exact ⟨0, Nat.zero_le _, rfl, Lib.hid ⟨OnceA.zero _, AllTo.zero _ _⟩, Below.refl _ _⟩
  case round =>
    obtain ⟨k, hk, rfl, ha, hbw⟩ := hrel
    have hsz := hbw.size
    have HB := Lib.hid hbw
    clear hbw
    by_cases hlt : k < xs.length
    · have hv' := HV.out.to (HB.out.mono hB) (Nat.le_refl _)
      have HS := Lib.hid (fun (E : World) (hE : Below wr.heap.size wr E) => ((hv'.take (Nat.le_of_lt hlt)).to (hE.mono (Nat.le_trans hB hsz)) (Nat.le_refl _)))
      obtain ⟨b, off, rfl, hb, c0⟩ := kStr_get hv' hlt
      have hx := HOK.out _ (List.getElem_mem hlt)
      have hgood := Lib.hid (show xs[k] ∉ xs.take k → lv xs[k] = true → NameTo xs (k + 1) from fun h h2 => ⟨ha.out.1.succ hlt h, ha.out.2.succ hlt h2⟩)
      have hin := Lib.hid (names_in (cs := xs) hlt)
      have hlv := Lib.hid (names_lv (cs := xs) hlt)
      obtain ⟨x, ex⟩ : ∃ x, x = xs[k] := ⟨_, rfl⟩
      rw [← ex] at hgood hin hlv c0 hx
      have HX := Lib.hid hx
      have HTL := Lib.hid (show (xs.take k).length ≤ 1048576 by rw [List.length_take]; omega)
      have hbr : b < wr.heap.size := by omega
      have HK := Lib.hid (fun (E : World) (hE : Below wr.heap.size wr E) => (keepc hE hbr c0 : E.cell? ⟨b, off + k, none⟩ = some (.string x)))
      have r0 := Below.refl wr.heap.size wr
      have hkl : k ≤ cap := by omega
      have hkk : (k : Int) < (xs.length : Int) := by omega
      clear ex ha hv' hx
      cases hE : lv x with
      | false =>
        have HG := Lib.hid (hlv.out hE)
        have CL := Lib.hid (fun (E : World) => (Calls.mono (hE ▸ specLabelValid_any x E HX.out) (fun _ _ h => ⟨h.1, h.2.symm⟩) : Calls Try.prog 99 #[.string x] E fun e w' => e = .returned (.bool false) ∧ w' = E))
        clear hE hgood hin hlv
        go_wp2_with fail
        go_quiet ((go_at_call 99; exact Calls.quiet_of_same (CL.out _)))
        go_wp2_with fail
        go_ret
        exact ⟨ret_bool (by rw [HG.out]), tb_drewN HB.out _⟩
      | true =>
        have CL := Lib.hid (fun (E : World) => (Calls.mono (hE ▸ specLabelValid_any x E HX.out) (fun _ _ h => ⟨h.1, h.2.symm⟩) : Calls Try.prog 99 #[.string x] E fun e w' => e = .returned (.bool true) ∧ w' = E))
        by_cases hM : x ∈ xs.take k
        · have HG := Lib.hid (hin.out hM)
          have CI := Lib.hid (fun (E : World) (hE : Below wr.heap.size wr E) => (Calls.mono ((hasS_yes hM) ▸ specIn_any (xs.take k) x _ _ E (HS.out E hE) HTL.out) (fun _ _ h => ⟨h.1, h.2.symm⟩) : Calls Try.prog 100 #[.slice (some ⟨b, off, none⟩) k cap, .string x] E fun e w' => e = .returned (.bool true) ∧ w' = E))
          clear hE hM hgood hin hlv
          go_wp2_with fail
          go_quiet (first | (go_at_call 99; exact Calls.quiet_of_same (CL.out _)) | (go_at_call 100; exact Calls.quiet_of_same (CI.out _ (tb_drewN (Below.refl _ _) _))))
          go_wp2_with fail
          go_ret
          exact ⟨ret_bool (by rw [HG.out]), tb_drewN HB.out _⟩
        · have HG := Lib.hid (hgood.out hM hE)
          have CI := Lib.hid (fun (E : World) (hE : Below wr.heap.size wr E) => (Calls.mono ((hasS_no hM) ▸ specIn_any (xs.take k) x _ _ E (HS.out E hE) HTL.out) (fun _ _ h => ⟨h.1, h.2.symm⟩) : Calls Try.prog 100 #[.slice (some ⟨b, off, none⟩) k cap, .string x] E fun e w' => e = .returned (.bool false) ∧ w' = E))
          clear hE hM hgood hin hlv
          go_wp2_with fail
          go_quiet (first | (go_at_call 99; exact Calls.quiet_of_same (CL.out _)) | (go_at_call 100; exact Calls.quiet_of_same (CI.out _ (tb_drewN (Below.refl _ _) _))))
          go_wp2_with fail
          go_roundw
          case rel => exact ⟨k + 1, by omega, by go_num, HG, tb_drewN HB.out _⟩
          case measure => simp [intOf]; omega
    · obtain rfl : k = xs.length := by omega
      have HG := Lib.hid (names_full ha.out)
      clear ha
      by_cases h1 : 1 ≤ xs.length
      · have q0 : decide ((1 : Int) ≤ (xs.length : Int)) = true := decide_eq_true (by omega)
        rw [decide_eq_true h1] at HG
        by_cases h6 : xs.length ≤ 6
        · have q1 : decide ((xs.length : Int) ≤ 6) = true := decide_eq_true (by omega)
          rw [decide_eq_true h6] at HG
          clear h1 h6
          go_wp2_with fail
          go_ret
          exact ⟨ret_bool (by rw [HG.out]; rfl), HB.out⟩
        · have q1 : decide ((xs.length : Int) ≤ 6) = false := decide_eq_false (by omega)
          rw [decide_eq_false h6] at HG
          clear h1 h6
          go_wp2_with fail
          go_ret
          exact ⟨ret_bool (by rw [HG.out]; rfl), HB.out⟩
      · have q0 : decide ((1 : Int) ≤ (xs.length : Int)) = false := decide_eq_false (by omega)
        rw [decide_eq_false h1] at HG
        clear h1
        go_wp2_with fail
        go_ret
        exact ⟨ret_bool (by rw [HG.out]; rfl), HB.out⟩

set_option maxRecDepth 100000 in
set_option maxHeartbeats 2000000 in
theorem specTableValid_any (x : Tb) (v : Value) (B : Nat) (w : World) (hx : x.At B w v) (hB : B ≤ w.heap.size) (hok : ∀ s ∈ x.cs, s.size ≤ maxLen) (hn : x.cs.length ≤ 1048576) :
    Calls Try.prog 23 #[v] w fun e w' => e = .returned (.bool x.ok) ∧ Below w.heap.size w w' := by
  obtain ⟨a, b, rfl, ha, hb⟩ := hx
  obtain ⟨p, c, rfl⟩ := ha.form
  obtain ⟨q, d, rfl⟩ := hb.form
  have hm1 := ha.max
  have hm2 := hb.max
  unfold maxLen at hm1 hm2
  have HA := Lib.hid ha
  have HBR := Lib.hid hb
  have HOK := Lib.hid hok
  have HN := Lib.hid (ok_names' (x := x))
  have HM := Lib.hid (ok_many' (x := x))
  have HR := Lib.hid (ok_rows' (x := x))
  clear ha hb hok
  go_enter Try.func23, Try.ntmps23
  go_wp2_with fail
  have H0 := Lib.hid ((Below.refl w.heap.size w).alloc (Nat.le_refl _) (.cells #[.slice p x.cs.length c, .slice q x.rs.length d] 33))
  with_reducible refine (l11Names_any x.cs _ B _ (HA.out.to (H0.out.mono hB) (Nat.le_refl _)) (by simp; omega) HOK.out hn).mono ?_
  rintro e w1 ⟨rfl, hb1⟩
  have hs1 : w.heap.size < w1.heap.size := by have := hb1.size; simp at this; omega
  have c0 : w1.cell? ⟨w.heap.size, 0, none⟩ = some (.slice p x.cs.length c) := new_cell hb1 (j := 0) rfl
  have c1 : w1.cell? ⟨w.heap.size, 1, none⟩ = some (.slice q x.rs.length d) := new_cell hb1 (j := 1) rfl
  have HB1 := Lib.hid (H0.out.trans (hb1.mono (by simp)))
  clear hb1 H0
  cases hE : tbNames x.cs with
  | false =>
    have HF := Lib.hid (HN.out hE)
    clear hE
    go_wp2_with fail
    go_ret
    exact ⟨ret_bool (by rw [HF.out]), HB1.out⟩
  | true =>
    by_cases h4 : 400 < x.rs.length
    · have HF := Lib.hid (HM.out h4)
      have q2 : decide ((400 : Int) < (x.rs.length : Int)) = true := decide_eq_true (by omega)
      have q3 : ((400 : Int) < (x.rs.length : Int)) = True := eq_true (by omega)
      clear hE h4
      go_wp2_with fail
      go_ret
      exact ⟨ret_bool (by rw [HF.out]), HB1.out⟩
    · have HF := Lib.hid (HR.out hE h4)
      have q2 : decide ((400 : Int) < (x.rs.length : Int)) = false := decide_eq_false (by omega)
      have q3 : ((400 : Int) < (x.rs.length : Int)) = False := eq_false (by omega)
      have hrl : x.rs.length ≤ 400 := by omega
      clear hE h4
      have CK := Lib.hid (fun (E : World) (hE : Below w1.heap.size w1 E) => (⟨by have := hE.size; omega, keepc hE hs1 c0, keepc hE hs1 c1⟩ : w.heap.size < E.heap.size ∧ E.cell? ⟨w.heap.size, 0, none⟩ = some (.slice p x.cs.length c) ∧ E.cell? ⟨w.heap.size, 1, none⟩ = some (.slice q x.rs.length d)))
      go_wp2_with fail
      clear c0 c1
      go_loopw [3] (fun i wr => ∃ k : Nat, k ≤ x.rs.length ∧ i = .int .i64 k ∧ RowKit.Hid (AllTo (rowOk x.cs.length) x.rs k) ∧ Below w1.heap.size w1 wr) (fun i _ => x.rs.length - (intOf i).toNat)
      case atStart => exact ⟨0, Nat.zero_le _, rfl, Lib.hid (AllTo.zero _ _), Below.refl _ _⟩
      case round =>
        rename World => wo
        obtain ⟨k, hk, rfl, ha, hbw⟩ := hrel
        have hsz := hbw.size
        have HB := Lib.hid hbw
        obtain ⟨hz0, c0, c1⟩ := CK.out _ hbw
        clear hbw
        by_cases hlt : k < x.rs.length
        · obtain ⟨b, off, q2, c2, rfl, hb, d0, hin⟩ := kRow_get (HBR.out.to ((HB1.out.trans (HB.out.mono (by omega))).mono hB) (Nat.le_refl _)) hlt
          have hgood := Lib.hid (fun h => ha.out.succ hlt h)
          have hbad := Lib.hid (fun h => all_no (p := rowOk x.cs.length) (xs := x.rs) hlt h)
          obtain ⟨y, ey⟩ : ∃ y, y = x.rs[k] := ⟨_, rfl⟩
          rw [← ey] at d0 hin hgood hbad
          have HIN := Lib.hid hin
          have hmy := hin.max
          unfold maxLen at hmy
          have hbo : b < wo.heap.size := by have := HB1.out.size; omega
          clear ey ha hin
          by_cases hn : y.length = x.cs.length
          · have HS := Lib.hid (rowOk_all' hn)
            have hq : ((y.length : Int) != (x.cs.length : Int)) = false := by rw [hn]; simp
            clear hn
            have DK := Lib.hid (fun (E : World) (hE : Below wo.heap.size wo E) => (⟨keepc hE hz0 c0, keepc hE hz0 c1, keepc hE hbo d0⟩ : E.cell? ⟨w.heap.size, 0, none⟩ = some (.slice p x.cs.length c) ∧ E.cell? ⟨w.heap.size, 1, none⟩ = some (.slice (some ⟨b, off, none⟩) x.rs.length d) ∧ E.cell? ⟨b, off + k, none⟩ = some (.slice q2 y.length c2)))
            go_wp2_with fail
            go_quiet (fail)
            go_wp2_with fail
            go_loopw [4] (fun i wr => ∃ j : Nat, j ≤ y.length ∧ i = .int .i64 j ∧ RowKit.Hid (AllTo okNum y j) ∧ Below wo.heap.size wo wr) (fun i _ => y.length - (intOf i).toNat)
            case atStart => exact ⟨0, Nat.zero_le _, rfl, Lib.hid (AllTo.zero _ _), tb_drewN (Below.refl _ _) _⟩
            case round =>
              obtain ⟨j, hj, rfl, haj, hbj⟩ := hrel
              have hszj := hbj.size
              have HBJ := Lib.hid hbj
              clear c0 c1 d0
              obtain ⟨c0, c1, d0⟩ := DK.out _ hbj
              have HBA := Lib.hid (HB.out.trans (hbj.mono hsz))
              clear hbj
              by_cases hjt : j < y.length
              · obtain ⟨g, og, rfl, hg, e0⟩ := (HIN.out.below (HBJ.out.mono (by have := HB1.out.size; omega))).it hjt
                have hgoodj := Lib.hid (fun h => haj.out.succ hjt h)
                have hbadj := Lib.hid (fun h => all_no (p := okNum) (xs := y) hjt h)
                obtain ⟨n, en⟩ : ∃ n, n = y[j] := ⟨_, rfl⟩
                rw [← en] at e0 hgoodj hbadj
                clear en haj
                have hjl : (j : Int) < (y.length : Int) := by omega
                have hkl : (k : Int) < (x.rs.length : Int) := by omega
                by_cases h0 : n < -1
                · have p0 : decide (n < -1) = true := decide_eq_true h0
                  have HX := Lib.hid (hbad.out (by rw [HS.out]; exact hbadj.out (okNum_lo' h0)))
                  clear h0 hgood hbad hgoodj hbadj
                  go_wp2_with fail
                  go_ret
                  exact ⟨ret_bool (by rw [HF.out, HX.out]), HB1.out.trans (HBA.out.mono (by omega))⟩
                · have p0 : decide (n < -1) = false := decide_eq_false h0
                  by_cases h1 : 1000 < n
                  · have p1 : decide (1000 < n) = true := decide_eq_true h1
                    have HX := Lib.hid (hbad.out (by rw [HS.out]; exact hbadj.out (okNum_hi' h1)))
                    clear h0 h1 hgood hbad hgoodj hbadj
                    go_wp2_with fail
                    go_ret
                    exact ⟨ret_bool (by rw [HF.out, HX.out]), HB1.out.trans (HBA.out.mono (by omega))⟩
                  · have p1 : decide (1000 < n) = false := decide_eq_false h1
                    have HX := Lib.hid (hgoodj.out (okNum_in' h0 h1))
                    clear h0 h1 hgoodj hbadj
                    go_wp2_with fail
                    go_roundw
                    case rel => exact ⟨j + 1, by omega, by go_num, HX, HBJ.out⟩
                    case measure => simp [intOf]; omega
              · obtain rfl : j = y.length := by omega
                have HX := Lib.hid (hgood.out (by rw [HS.out]; exact haj.out.full))
                have hkl : (k : Int) < (x.rs.length : Int) := by omega
                clear hgood hbad haj
                go_wp2_with fail
                go_roundw
                case rel => exact ⟨k + 1, by omega, by go_num, HX, HBA.out⟩
                case measure => simp [intOf]; omega
          · have HS := Lib.hid (rowOk_len' hn)
            have hq : ((y.length : Int) != (x.cs.length : Int)) = true := by simp; omega
            have HX := Lib.hid (hbad.out HS.out)
            have hkl : (k : Int) < (x.rs.length : Int) := by omega
            clear hn hgood hbad
            go_wp2_with fail
            go_quiet (fail)
            go_wp2_with fail
            go_ret
            exact ⟨ret_bool (by rw [HF.out, HX.out]), tb_drewN (HB1.out.trans (HB.out.mono (by omega))) _⟩
        · obtain rfl : k = x.rs.length := by omega
          have HX := Lib.hid ha.out.full
          go_wp2_with fail
          go_ret
          exact ⟨ret_bool (by rw [HF.out, HX.out]), HB1.out.trans (HB.out.mono (by omega))⟩
end Go.Proofs.Ytfdkmngkpihpbaa
