/- Contracts of the functions that ask whether a graph is valid. -/
import Derived.Test.YtbbemeaojmfndaaDoorLabel
import Derived.Test.YtbbemeaojmfndaaDoorMem
namespace Go.Proofs.YtbbemeaojmfndaaDoor
open Go.RowKit

def pv (s : ByteArray) (n : Int) : Bool := (decide (s.size = 0) || lv s) && (decide (0 ≤ n) && decide (n ≤ 99))
def hn (k : Nat) (n : Int) : Bool := decide (0 ≤ n) && decide (n < k)
def ndV (x : Nd) : Bool := pv x.l x.n
def edV (k : Nat) (e : Ed) : Bool := hn k e.f && (hn k e.t && pv e.l e.n)
def gv (g : Gr) : Bool := (decide (1 ≤ g.ns.length) && (decide (g.ns.length ≤ 8) && decide (g.es.length ≤ 14))) && (g.ns.all ndV && g.es.all (edV g.ns.length))

theorem pv_neg {s : ByteArray} {n : Int} (h : n < 0) : pv s n = false := by unfold pv; rw [decide_eq_false (p := 0 ≤ n) (by omega)]; simp
theorem pv_big {s : ByteArray} {n : Int} (h : 99 < n) : pv s n = false := by unfold pv; rw [decide_eq_false (p := n ≤ 99) (by omega)]; simp
theorem pv_empty {s : ByteArray} {n : Int} (hs : s.size = 0) (h : 0 ≤ n) (h' : n ≤ 99) : pv s n = true := by unfold pv; rw [decide_eq_true hs, decide_eq_true h, decide_eq_true h']; rfl
theorem pv_lv {s : ByteArray} {n : Int} (hs : 0 < s.size) (h : 0 ≤ n) (h' : n ≤ 99) : pv s n = lv s := by unfold pv; rw [decide_eq_false (p := s.size = 0) (by omega), decide_eq_true h, decide_eq_true h']; simp
theorem str_empty' {s : ByteArray} (h : s.size = 0) : s.toList.isEmpty = true := by rw [str_empty h]; rfl
theorem str_nonempty'' {s : ByteArray} (h : 0 < s.size) : s.toList.isEmpty = false := by
  have := str_nonempty' h
  revert this; cases s.toList.isEmpty <;> simp

set_option maxHeartbeats 400000 in
/-- impl.propsValid -/
theorem propsValid_any (s : ByteArray) (n : Int) (w : World) (hs : s.size ≤ maxLen) :
    Calls Tryd.prog 68 #[.string s, .int .i64 n] w fun e w' => e = .returned (.bool (pv s n)) ∧ w = w' := by
  by_cases h0 : s.size = 0
  · have e2 := str_empty h0
    have e3 := str_empty' h0
    go_enter Tryd.func68, Tryd.ntmps68
    go_wp2_with (go_at_call 37; refine (labelValid_any _ _ hs).mono ?_; rintro e w' ⟨rfl, rfl⟩)
    all_goals
      go_ret
      refine ⟨ret_bool ?_, rfl⟩
      unfold pv
      rw [Bool.eq_iff_iff]
      simp [*]
      try omega
  · have e2 := str_nonempty (s := s) (by omega)
    have e3 := str_nonempty'' (s := s) (by omega)
    go_enter Tryd.func68, Tryd.ntmps68
    go_wp2_with (go_at_call 37; refine (labelValid_any _ _ hs).mono ?_; rintro e w' ⟨rfl, rfl⟩)
    all_goals
      go_ret
      refine ⟨ret_bool ?_, rfl⟩
      unfold pv
      rw [Bool.eq_iff_iff]
      simp [*]
      try omega

set_option maxHeartbeats 400000 in
/-- impl.hasNode -/
theorem hasNode_any (g : Gr) (v : Value) (n : Int) (B : Nat) (w : World) (hg : g.At B w v) :
    Calls Tryd.prog 35 #[v, .int .i64 n] w fun e w' => e = .returned (.bool (hn g.ns.length n)) ∧ Below w.heap.size w w' := by
  obtain ⟨a, b, rfl, h1, h2⟩ := hg
  obtain ⟨p, cap, rfl⟩ := h1.form
  obtain ⟨p', cap', rfl⟩ := h2.form
  have hm := h1.max
  unfold maxLen at hm
  go_enter Tryd.func35, Tryd.ntmps35
  go_wp2
  all_goals
    go_ret
    refine ⟨ret_bool ?_, (Below.refl _ _).alloc (Nat.le_refl _) _⟩
    unfold hn
    rw [Bool.eq_iff_iff]
    simp [*]
    try omega

/-- The first k elements answer yes. -/
def AllP {α : Type} (f : α → Bool) (xs : List α) (k : Nat) : Prop := (xs.take k).all f = true
theorem AllP.zero {α : Type} (f : α → Bool) (xs : List α) : AllP f xs 0 := rfl
theorem AllP.succ {α : Type} {f : α → Bool} {xs : List α} {k : Nat} (h : AllP f xs k) (hk : k < xs.length) (hc : f xs[k] = true) : AllP f xs (k + 1) := by
  unfold AllP at *
  rw [List.take_succ_eq_append_getElem hk, List.all_append, h]
  simp only [List.all_cons, List.all_nil, Bool.and_true, Bool.true_and]; exact hc
theorem AllP.full {α : Type} {f : α → Bool} {xs : List α} (h : AllP f xs xs.length) : xs.all f = true := by
  unfold AllP at h; rwa [List.take_of_length_le (Nat.le_refl _)] at h
theorem all_bad {α : Type} {f : α → Bool} {xs : List α} {k : Nat} (hk : k < xs.length) (hc : f xs[k] = false) : xs.all f = false := by
  rw [List.all_eq_false]
  exact ⟨xs[k], List.getElem_mem hk, by rw [hc]; simp⟩
theorem gv_size {g : Gr} (h : ¬ (1 ≤ g.ns.length ∧ g.ns.length ≤ 8 ∧ g.es.length ≤ 14)) : gv g = false := by
  unfold gv
  by_cases a : 1 ≤ g.ns.length
  · by_cases b : g.ns.length ≤ 8
    · rw [decide_eq_false (p := g.es.length ≤ 14) (by omega)]; simp
    · rw [decide_eq_false (p := g.ns.length ≤ 8) b]; simp
  · rw [decide_eq_false (p := 1 ≤ g.ns.length) a]; simp
theorem gv_in {g : Gr} (h : 1 ≤ g.ns.length ∧ g.ns.length ≤ 8 ∧ g.es.length ≤ 14) : gv g = (g.ns.all ndV && g.es.all (edV g.ns.length)) := by
  unfold gv; rw [decide_eq_true h.1, decide_eq_true h.2.1, decide_eq_true h.2.2]; rfl

set_option maxHeartbeats 1000000 in
/-- impl.GraphValid -/
theorem graphValid_any (g : Gr) (v : Value) (B : Nat) (w : World) (hg : g.At B w v) (hB : B ≤ w.heap.size) (hok : g.Ok) :
    Calls Tryd.prog 34 #[v] w fun e w' => e = .returned (.bool (gv g)) ∧ Below w.heap.size w w' := by
  obtain ⟨a, b, rfl, h1, h2⟩ := hg
  obtain ⟨p, cap, rfl⟩ := h1.form
  obtain ⟨p', cap', rfl⟩ := h2.form
  have hm := h1.max
  have hm' := h2.max
  unfold maxLen at hm hm'
  by_cases hsz : 1 ≤ g.ns.length ∧ g.ns.length ≤ 8 ∧ g.es.length ≤ 14
  · obtain ⟨s1, s2, s3⟩ := hsz
    have hgv := Lib.hid (gv_in ⟨s1, s2, s3⟩)
    have q1 : decide ((g.ns.length : Int) < 1) = false := by simp; omega
    have q2 : decide ((8 : Int) < g.ns.length) = false := by simp; omega
    have q3 : decide ((14 : Int) < g.es.length) = false := by simp; omega
    go_enter Tryd.func34, Tryd.ntmps34
    go_wp2
    go_loopw [26] (fun i wr => ∃ k : Nat, k ≤ g.ns.length ∧ i = .int .i64 k ∧ AllP ndV g.ns k ∧ Below (w.heap.size + 1) (w.alloc (.cells #[.slice p g.ns.length cap, .slice p' g.es.length cap'] 36)) wr) (fun i _ => g.ns.length - (intOf i).toNat)
    case atStart => exact ⟨0, Nat.zero_le _, rfl, AllP.zero _ _, Below.refl _ _⟩
    case round =>
      obtain ⟨k, hk, rfl, ha, hbw⟩ := hrel
      have hwr : w.heap.size < wr.heap.size := by have := hbw.size; simp at this; omega
      have b0 : wr.cell? ⟨w.heap.size, 0, none⟩ = some (.slice p g.ns.length cap) := (hbw.cell (by simp)).trans (by simp [go_sem])
      have b1 : wr.cell? ⟨w.heap.size, 1, none⟩ = some (.slice p' g.es.length cap') := (hbw.cell (by simp)).trans (by simp [go_sem])
      have HBW := Lib.hid hbw
      clear hbw
      by_cases hlt : k < g.ns.length
      · obtain ⟨b, off, rfl, hb, c0, c1⟩ := (h1.below ((Below.refl B w).alloc hB (.cells #[.slice p g.ns.length cap, .slice p' g.es.length cap'] 36)) |>.below (HBW.out.mono (by omega))).nd hlt
        have hx := hok.1 _ (List.getElem_mem hlt)
        obtain ⟨x, ex⟩ : ∃ x, x = g.ns[k] := ⟨_, rfl⟩
        have EX := Lib.hid ex
        rw [← ex] at c0 c1 hx
        clear ex
        obtain ⟨x1, x2⟩ := hx
        cases hv : ndV x with
        | true =>
          have hv' : pv x.l x.n = true := hv
          clear hv
          go_wp2_with (go_at_call 68; refine (propsValid_any _ _ _ x1).mono ?_; rintro e w' ⟨rfl, rfl⟩)
          go_roundw
          case rel => exact ⟨k + 1, by omega, by go_num, ha.succ hlt (by rw [← EX.out]; exact hv'), HBW.out.alloc (by omega) _⟩
          case measure => simp [intOf]; omega
        | false =>
          have hv' : pv x.l x.n = false := hv
          have hf := Lib.hid (all_bad (f := ndV) hlt (by rw [← EX.out]; exact hv))
          clear hv
          go_wp2_with (go_at_call 68; refine (propsValid_any _ _ _ x1).mono ?_; rintro e w' ⟨rfl, rfl⟩)
          go_ret
          exact ⟨ret_bool (by rw [hgv.out, hf.out]; rfl), (((Below.refl _ w).alloc (Nat.le_refl _) _).trans (HBW.out.mono (by omega))).alloc (by omega) _⟩
      · obtain rfl : k = g.ns.length := by omega
        have hf := Lib.hid ha.full
        go_wp2
        clear hwr b0 b1
        obtain ⟨w2, rfl⟩ : ∃ w2 : World, w2 = wr := ⟨_, rfl⟩
        go_loopw [40] (fun i wr => ∃ k : Nat, k ≤ g.es.length ∧ i = .int .i64 k ∧ AllP (edV g.ns.length) g.es k ∧ Below (w.heap.size + 1) w2 wr) (fun i _ => g.es.length - (intOf i).toNat)
        case atStart => exact ⟨0, Nat.zero_le _, rfl, AllP.zero _ _, Below.refl _ _⟩
        case round =>
          obtain ⟨k, hk, rfl, ha, hbw0⟩ := hrel
          have hbw := HBW.out.trans hbw0
          have hbw0 := Lib.hid hbw0
          have hwr : w.heap.size < wr.heap.size := by have := hbw.size; simp at this; omega
          have b0 : wr.cell? ⟨w.heap.size, 0, none⟩ = some (.slice p g.ns.length cap) := (hbw.cell (by simp)).trans (by simp [go_sem])
          have b1 : wr.cell? ⟨w.heap.size, 1, none⟩ = some (.slice p' g.es.length cap') := (hbw.cell (by simp)).trans (by simp [go_sem])
          have HBV := Lib.hid hbw
          clear hbw
          have hat : g.At B wr (.agg #[.slice p g.ns.length cap, .slice p' g.es.length cap']) := (Gr.At.below ⟨_, _, rfl, h1, h2⟩ ((Below.refl B w).alloc hB (.cells #[.slice p g.ns.length cap, .slice p' g.es.length cap'] 36))).below (HBV.out.mono (by omega))
          by_cases hlt : k < g.es.length
          · obtain ⟨b, off, rfl, hb, c0, c1, c2, c3⟩ := ((h2.below ((Below.refl B w).alloc hB (.cells #[.slice p g.ns.length cap, .slice p' g.es.length cap'] 36))).below (HBV.out.mono (by omega))).ed hlt
            have hx := hok.2 _ (List.getElem_mem hlt)
            obtain ⟨x, ex⟩ : ∃ x, x = g.es[k] := ⟨_, rfl⟩
            have EX := Lib.hid ex
            rw [← ex] at c0 c1 c2 c3 hx
            clear ex
            obtain ⟨x1, x2, x3, x4⟩ := hx
            have hat1 : ∀ o, g.At B (wr.alloc o) (.agg #[.slice p g.ns.length cap, .slice (some ⟨b, off, none⟩) g.es.length cap']) := fun o => hat.below ((Below.refl B wr).alloc (by omega) o)
            clear hat
            have HAT := Lib.hid hat1
            clear hat1
            have hend := Lib.hid (((Below.refl _ w).alloc (Nat.le_refl _) (.cells #[.slice p g.ns.length cap, .slice (some ⟨b, off, none⟩) g.es.length cap'] 36)).trans (HBV.out.mono (by omega)))
            go_wp2_with fail
            refine (hasNode_any g _ _ B _ (HAT.out _)).mono ?_
            rintro e w1 ⟨rfl, hb1⟩
            have d1 := new_cell hb1 (j := 1) rfl
            have d2 := new_cell hb1 (j := 2) rfl
            have d3 := new_cell hb1 (j := 3) rfl
            have k1 := below_past hb1
            have f0 := (k1.cell (p := ⟨w.heap.size, 0, none⟩) hwr).trans b0
            have f1 := (k1.cell (p := ⟨w.heap.size, 1, none⟩) hwr).trans b1
            have hw1 : wr.heap.size < w1.heap.size := by have := hb1.size; simp at this; omega
            have HA1 := Lib.hid ((HAT.out _).below (hb1.mono (by simp; omega)))
            have K1 := Lib.hid k1
            clear hb1 k1
            by_cases e1 : hn g.ns.length x.f = true
            · go_wp2_with fail
              refine (hasNode_any g _ _ B _ HA1.out).mono ?_
              rintro e w3 ⟨rfl, hb2⟩
              have g2 := (hb2.cell (p := ⟨wr.heap.size, 2, none⟩) hw1).trans d2
              have g3 := (hb2.cell (p := ⟨wr.heap.size, 3, none⟩) hw1).trans d3
              have K2 := Lib.hid (K1.out.trans (hb2.mono (by omega)))
              clear hb2 d1 d2 d3 f0 f1
              by_cases e2 : hn g.ns.length x.t = true
              · go_wp2_with fail
                refine (propsValid_any _ _ _ x3).mono ?_
                rintro e w4 ⟨rfl, rfl⟩
                by_cases e3 : pv x.l x.n = true
                · have hv : edV g.ns.length x = true := by unfold edV; rw [e1, e2, e3]; rfl
                  have hs := Lib.hid (ha.succ hlt (by rw [← EX.out]; exact hv))
                  clear ha hv
                  go_wp2_with fail
                  go_roundw
                  case rel => exact ⟨k + 1, by omega, by go_num, hs.out, hbw0.out.trans (K2.out.mono (by omega))⟩
                  case measure => simp [intOf]; omega
                · have hv : edV g.ns.length x = false := by unfold edV; rw [Bool.eq_false_iff.2 e3]; simp
                  have hs := Lib.hid (all_bad (f := edV g.ns.length) hlt (by rw [← EX.out]; exact hv))
                  clear ha hv
                  go_wp2_with fail
                  go_ret
                  exact ⟨ret_bool (by rw [hgv.out, hs.out]; simp), hend.out.trans (K2.out.mono (by omega))⟩
              · have hv : edV g.ns.length x = false := by unfold edV; rw [Bool.eq_false_iff.2 e2]; simp
                have hs := Lib.hid (all_bad (f := edV g.ns.length) hlt (by rw [← EX.out]; exact hv))
                clear ha hv
                go_wp2_with fail
                go_ret
                exact ⟨ret_bool (by rw [hgv.out, hs.out]; simp), hend.out.trans (K2.out.mono (by omega))⟩
            · have hv : edV g.ns.length x = false := by unfold edV; rw [Bool.eq_false_iff.2 e1]; simp
              have hs := Lib.hid (all_bad (f := edV g.ns.length) hlt (by rw [← EX.out]; exact hv))
              clear ha hv
              go_wp2_with fail
              go_ret
              exact ⟨ret_bool (by rw [hgv.out, hs.out]; simp), hend.out.trans (K1.out.mono (by omega))⟩
          · obtain rfl : k = g.es.length := by omega
            have hf2 := Lib.hid ha.full
            go_wp2
            go_ret
            exact ⟨ret_bool (by rw [hgv.out, hf.out, hf2.out]; rfl), ((Below.refl _ w).alloc (Nat.le_refl _) _).trans (HBV.out.mono (by omega))⟩
  · have hgv := Lib.hid (gv_size hsz)
    by_cases s1 : 1 ≤ g.ns.length
    · by_cases s2 : g.ns.length ≤ 8
      · have s3 : 14 < g.es.length := by omega
        clear hsz
        go_enter Tryd.func34, Tryd.ntmps34
        go_wp2
        go_ret
        exact ⟨ret_bool (by rw [hgv.out]), (Below.refl _ _).alloc (Nat.le_refl _) _⟩
      · clear hsz
        go_enter Tryd.func34, Tryd.ntmps34
        go_wp2
        go_ret
        exact ⟨ret_bool (by rw [hgv.out]), (Below.refl _ _).alloc (Nat.le_refl _) _⟩
    · clear hsz
      go_enter Tryd.func34, Tryd.ntmps34
      go_wp2
      go_ret
      exact ⟨ret_bool (by rw [hgv.out]), (Below.refl _ _).alloc (Nat.le_refl _) _⟩
end Go.Proofs.YtbbemeaojmfndaaDoor
