/- Contracts of the model's functions that ask whether a graph is valid. -/
import Derived.Test.YthephdglianipaaDoorGValid
namespace Go.Proofs.YthephdglianipaaDoor
open Go.RowKit

def lbl (s : ByteArray) : Bool := decide (s.size = 0) || lv s
def nm (n : Int) : Bool := decide (0 ≤ n) && decide (n ≤ 99)
theorem pv_eq (s : ByteArray) (n : Int) : pv s n = (lbl s && nm n) := rfl

set_option maxHeartbeats 400000 in
/-- spec.l1Label -/
theorem l1Label_any (s : ByteArray) (w : World) (hs : s.size ≤ maxLen) :
    Calls Tryd.prog 22 #[.string s] w fun e w' => e = .returned (.bool (lbl s)) ∧ w = w' := by
  by_cases h0 : s.size = 0
  · have e2 := str_empty h0
    have e3 := str_empty' h0
    go_enter Tryd.func22, Tryd.ntmps22
    go_wp2_with fail
    go_ret
    exact ⟨ret_bool (by unfold lbl; rw [decide_eq_true h0]; rfl), rfl⟩
  · have e2 := str_nonempty (s := s) (by omega)
    have e3 := str_nonempty'' (s := s) (by omega)
    have e4 := Lib.hid (decide_eq_false h0)
    clear h0
    go_enter Tryd.func22, Tryd.ntmps22
    go_wp2_with fail
    refine (specLabelValid_any _ _ hs).mono ?_
    rintro e w' ⟨rfl, rfl⟩
    go_wp2_with fail
    go_ret
    exact ⟨ret_bool (by unfold lbl; rw [e4.out]; rfl), rfl⟩

set_option maxHeartbeats 400000 in
/-- spec.l1Num -/
theorem l1Num_any (n : Int) (w : World) :
    Calls Tryd.prog 23 #[.int .i64 n] w fun e w' => e = .returned (.bool (nm n)) ∧ w = w' := by
  go_enter Tryd.func23, Tryd.ntmps23
  go_wp2_with fail
  all_goals
    go_ret
    refine ⟨ret_bool ?_, rfl⟩
    unfold nm
    rw [Bool.eq_iff_iff]
    simp [*]
    try omega

set_option maxHeartbeats 1000000 in
/-- spec.GraphValid -/
theorem specGraphValid_any (g : Gr) (v : Value) (B : Nat) (w : World) (hg : g.At B w v) (hB : B ≤ w.heap.size) (hok : g.Ok) :
    Calls Tryd.prog 13 #[v] w fun e w' => e = .returned (.bool (gv g)) ∧ Below w.heap.size w w' := by
  obtain ⟨a, b, rfl, h1, h2⟩ := hg
  obtain ⟨p, cap, rfl⟩ := h1.form
  obtain ⟨p', cap', rfl⟩ := h2.form
  have hm := h1.max
  have hm' := h2.max
  unfold maxLen at hm hm'
  by_cases hsz : 1 ≤ g.ns.length ∧ g.ns.length ≤ 8 ∧ g.es.length ≤ 14
  · obtain ⟨s1, s2, s3⟩ := hsz
    have hgv := Lib.hid (gv_in ⟨s1, s2, s3⟩)
    have q1 : decide ((g.ns.length : Int) < 1) = false := by simp; omega
    have q2 : decide ((8 : Int) < g.ns.length) = false := by simp; omega
    have q3 : decide ((14 : Int) < g.es.length) = false := by simp; omega
    go_enter Tryd.func13, Tryd.ntmps13
    go_wp2_with fail
    go_loopw [3] (fun i wr => ∃ k : Nat, k ≤ g.ns.length ∧ i = .int .i64 k ∧ AllP ndV g.ns k ∧ wr = w.alloc (.cells #[.slice p g.ns.length cap, .slice p' g.es.length cap'] 26)) (fun i _ => g.ns.length - (intOf i).toNat)
    case atStart => exact ⟨0, Nat.zero_le _, rfl, AllP.zero _ _, rfl⟩
    case round =>
      obtain ⟨k, hk, rfl, ha, rfl⟩ := hrel
      by_cases hlt : k < g.ns.length
      · obtain ⟨b, off, rfl, hb, c0, c1⟩ := (h1.below ((Below.refl B w).alloc hB (.cells #[.slice p g.ns.length cap, .slice p' g.es.length cap'] 26))).nd hlt
        have hx := hok.1 _ (List.getElem_mem hlt)
        obtain ⟨x, ex⟩ : ∃ x, x = g.ns[k] := ⟨_, rfl⟩
        have EX := Lib.hid ex
        rw [← ex] at c0 c1 hx
        clear ex
        obtain ⟨x1, x2⟩ := hx
        go_wp2_with fail
        refine (l1Label_any _ _ x1).mono ?_
        rintro e w' ⟨rfl, rfl⟩
        by_cases e1 : lbl x.l = true
        · go_wp2_with fail
          refine (l1Num_any _ _).mono ?_
          rintro e w' ⟨rfl, rfl⟩
          by_cases e2 : nm x.n = true
          · have hv : ndV x = true := by unfold ndV; rw [pv_eq, e1, e2]; rfl
            have hs := Lib.hid (ha.succ hlt (by rw [← EX.out]; exact hv))
            clear ha hv
            go_wp2_with fail
            go_roundw
            case rel => exact ⟨k + 1, by omega, by go_num, hs.out, trivial⟩
            case measure => simp [intOf]; omega
          · have hv : ndV x = false := by unfold ndV; rw [pv_eq, Bool.eq_false_iff.2 e2]; simp
            have hs := Lib.hid (all_bad (f := ndV) hlt (by rw [← EX.out]; exact hv))
            clear ha hv
            go_wp2_with fail
            go_ret
            exact ⟨ret_bool (by rw [hgv.out, hs.out]; simp), (Below.refl _ w).alloc (Nat.le_refl _) _⟩
        · have hv : ndV x = false := by unfold ndV; rw [pv_eq, Bool.eq_false_iff.2 e1]; simp
          have hs := Lib.hid (all_bad (f := ndV) hlt (by rw [← EX.out]; exact hv))
          clear ha hv
          go_wp2_with fail
          go_ret
          exact ⟨ret_bool (by rw [hgv.out, hs.out]; simp), (Below.refl _ w).alloc (Nat.le_refl _) _⟩
      · obtain rfl : k = g.ns.length := by omega
        have hf := Lib.hid ha.full
        go_wp2_with fail
        go_loopw [4] (fun i wr => ∃ k : Nat, k ≤ g.es.length ∧ i = .int .i64 k ∧ AllP (edV g.ns.length) g.es k ∧ Below (w.heap.size + 1) (w.alloc (.cells #[.slice p g.ns.length cap, .slice p' g.es.length cap'] 26)) wr) (fun i _ => g.es.length - (intOf i).toNat)
        case atStart => exact ⟨0, Nat.zero_le _, rfl, AllP.zero _ _, Below.refl _ _⟩
        case round =>
          obtain ⟨k, hk, rfl, ha, hbw⟩ := hrel
          have hwr : w.heap.size < wr.heap.size := by have := hbw.size; simp at this; omega
          have b0 : wr.cell? ⟨w.heap.size, 0, none⟩ = some (.slice p g.ns.length cap) := (hbw.cell (by simp)).trans (by simp [go_sem])
          have b1 : wr.cell? ⟨w.heap.size, 1, none⟩ = some (.slice p' g.es.length cap') := (hbw.cell (by simp)).trans (by simp [go_sem])
          have HBV := Lib.hid hbw
          clear hbw
          by_cases hlt : k < g.es.length
          · obtain ⟨b, off, rfl, hb, c0, c1, c2, c3⟩ := ((h2.below ((Below.refl B w).alloc hB (.cells #[.slice p g.ns.length cap, .slice p' g.es.length cap'] 26))).below (HBV.out.mono (by omega))).ed hlt
            have hx := hok.2 _ (List.getElem_mem hlt)
            obtain ⟨x, ex⟩ : ∃ x, x = g.es[k] := ⟨_, rfl⟩
            have EX := Lib.hid ex
            rw [← ex] at c0 c1 c2 c3 hx
            clear ex
            obtain ⟨x1, x2, x3, x4⟩ := hx
            have hend := Lib.hid (((Below.refl _ w).alloc (Nat.le_refl _) (.cells #[.slice p g.ns.length cap, .slice (some ⟨b, off, none⟩) g.es.length cap'] 26)).trans (HBV.out.mono (by omega)))
            have hrel' := Lib.hid (HBV.out.alloc (by omega) (.cells #[.int .i64 x.f, .int .i64 x.t, .string x.l, .int .i64 x.n] 42))
            have hbad : edV g.ns.length x = false → RowKit.Hid (g.es.all (edV g.ns.length) = false) := fun hv => all_bad (f := edV g.ns.length) hlt (by rw [← EX.out]; exact hv)
            have HBAD := Lib.hid hbad
            clear hbad
            by_cases cf : x.f < 0
            · have hs := HBAD.out (by unfold edV hn; rw [decide_eq_false (p := 0 ≤ x.f) (by omega)]; simp)
              go_wp2_with fail
              go_ret
              exact ⟨ret_bool (by rw [hgv.out, hs.out]; simp), (hend.out.alloc (by omega) _)⟩
            · by_cases cf2 : (g.ns.length : Int) ≤ x.f
              · have hs := HBAD.out (by unfold edV hn; rw [decide_eq_false (p := x.f < _) (by omega)]; simp)
                go_wp2_with fail
                go_ret
                exact ⟨ret_bool (by rw [hgv.out, hs.out]; simp), (hend.out.alloc (by omega) _)⟩
              · by_cases ct : x.t < 0
                · have hs := HBAD.out (by unfold edV hn; rw [decide_eq_false (p := 0 ≤ x.t) (by omega)]; simp)
                  go_wp2_with fail
                  go_ret
                  exact ⟨ret_bool (by rw [hgv.out, hs.out]; simp), (hend.out.alloc (by omega) _)⟩
                · by_cases ct2 : (g.ns.length : Int) ≤ x.t
                  · have hs := HBAD.out (by unfold edV hn; rw [decide_eq_false (p := x.t < _) (by omega)]; simp)
                    go_wp2_with fail
                    go_ret
                    exact ⟨ret_bool (by rw [hgv.out, hs.out]; simp), (hend.out.alloc (by omega) _)⟩
                  · have h12 : hn g.ns.length x.f = true ∧ hn g.ns.length x.t = true := by unfold hn; simp; omega
                    have H12 := Lib.hid h12
                    clear h12
                    go_wp2_with fail
                    refine (l1Label_any _ _ x3).mono ?_
                    rintro e w' ⟨rfl, rfl⟩
                    by_cases e1 : lbl x.l = true
                    · go_wp2_with fail
                      refine (l1Num_any _ _).mono ?_
                      rintro e w' ⟨rfl, rfl⟩
                      by_cases e2 : nm x.n = true
                      · have hs := Lib.hid (ha.succ hlt (by rw [← EX.out]; unfold edV; rw [H12.out.1, H12.out.2, pv_eq, e1, e2]; rfl))
                        clear ha
                        go_wp2_with fail
                        go_roundw
                        case rel => exact ⟨k + 1, by omega, by go_num, hs.out, hrel'.out⟩
                        case measure => simp [intOf]; omega
                      · have hs := HBAD.out (by unfold edV; rw [pv_eq, Bool.eq_false_iff.2 e2]; simp)
                        go_wp2_with fail
                        go_ret
                        exact ⟨ret_bool (by rw [hgv.out, hs.out]; simp), (hend.out.alloc (by omega) _)⟩
                    · have hs := HBAD.out (by unfold edV; rw [pv_eq, Bool.eq_false_iff.2 e1]; simp)
                      go_wp2_with fail
                      go_ret
                      exact ⟨ret_bool (by rw [hgv.out, hs.out]; simp), (hend.out.alloc (by omega) _)⟩
          · obtain rfl : k = g.es.length := by omega
            have hf2 := Lib.hid ha.full
            go_wp2_with fail
            go_ret
            exact ⟨ret_bool (by rw [hgv.out, hf.out, hf2.out]; rfl), ((Below.refl _ w).alloc (Nat.le_refl _) _).trans (HBV.out.mono (by omega))⟩
  · have hgv := Lib.hid (gv_size hsz)
    by_cases s1 : 1 ≤ g.ns.length
    · by_cases s2 : g.ns.length ≤ 8
      · have s3 : 14 < g.es.length := by omega
        clear hsz
        go_enter Tryd.func13, Tryd.ntmps13
        go_wp2_with fail
        go_ret
        exact ⟨ret_bool (by rw [hgv.out]), (Below.refl _ _).alloc (Nat.le_refl _) _⟩
      · clear hsz
        go_enter Tryd.func13, Tryd.ntmps13
        go_wp2_with fail
        go_ret
        exact ⟨ret_bool (by rw [hgv.out]), (Below.refl _ _).alloc (Nat.le_refl _) _⟩
    · clear hsz
      go_enter Tryd.func13, Tryd.ntmps13
      go_wp2_with fail
      go_ret
      exact ⟨ret_bool (by rw [hgv.out]), (Below.refl _ _).alloc (Nat.le_refl _) _⟩
end Go.Proofs.YthephdglianipaaDoor
