/- spec.OutEdges and spec.InEdges. -/
import Derived.Test.YtchhobphockhhaaEdges
namespace Go.Proofs.Ytchhobphockhhaa
open Go.RowKit

set_option maxRecDepth 100000 in
set_option maxHeartbeats 2000000 in
theorem specOutEdges_any (g : Gr) (v : Value) (node : Int) (B : Nat) (w : World) (hg : g.At B w v) (hB : B ≤ w.heap.size) (hok : g.Ok) :
    Calls Try.prog 48 #[v, .int .i64 node] w fun e w' => ∃ v' F, e = .returned v' ∧ OwnSl 1 intCells w' v' (edgesOut g node) F ∧ (∀ x ∈ F, w.heap.size ≤ x) ∧ Below w.heap.size w w' := by
  have HG := Lib.hid hg
  obtain ⟨a, b, rfl, ha, hb⟩ := hg
  obtain ⟨p, cap, rfl⟩ := hb.form
  obtain ⟨pa, ca, rfl⟩ := ha.form
  have hm := hb.max
  unfold maxLen at hm
  obtain ⟨i0, hi, hz0, hz1, hz2⟩ := info_parts infoInt
  have HV := Lib.hid ((Below.refl w.heap.size w).alloc (Nat.le_refl _) (.cells #[.slice pa g.ns.length ca, .slice p g.es.length cap] 55))
  have hz : w.heap.size + 1 ≤ (w.alloc (.cells #[.slice pa g.ns.length ca, .slice p g.es.length cap] 55)).heap.size := by simp
  have hmade0 := World.ownsRow_made (e := 3) (size := 1) (base := w.heap.size + 1) (w.alloc (.cells #[.slice pa g.ns.length ca, .slice p g.es.length cap] 55)) #[] 0 hz (Nat.zero_le _) rfl
  rw [World.size_alloc] at hmade0
  have hmade := Lib.hid hmade0
  clear hmade0
  by_cases hgv : gv g = true
  · have h14 := gv_len hgv
    have HE := Lib.hid (show edgesOut g node = pick (byOut node) g.es g.es.length by unfold edgesOut; rw [if_pos hgv])
    go_enter Try.func48, Try.ntmps48
    go_wp2_with fail
    go_loopw [5, 6] (fun fnd i wr => ∃ k : Nat, k ≤ g.es.length ∧ i = .int .i64 k ∧ wr.ownsRow (w.heap.size + 1) 3 1 fnd (pick (byOut node) g.es k).length ((pick (byOut node) g.es k).map (Value.int .i64)) ∧ Below (w.heap.size + 1) (w.alloc (.cells #[.slice pa g.ns.length ca, .slice p g.es.length cap] 55)) wr) (fun _ i _ => g.es.length - (intOf i).toNat)
    case atStart => exact ⟨0, Nat.zero_le _, rfl, hmade.out, (Below.refl _ _).alloc hz _⟩
    case round =>
      obtain ⟨k, hk, rfl, hown, hbw⟩ := hrel
      obtain ⟨hs, b0, b1⟩ := one_box hbw
      have HA := Lib.hid hbw
      have HB := Lib.hid (HV.out.trans (hbw.mono (by omega)))
      have HO := Lib.hid hown
      have hpl := pick_le (byOut node) g.es k
      clear hbw hown
      by_cases hlt : k < g.es.length
      · go_wp2_with fail
        refine (specGraphValid_any g _ B _ (HG.out.below (HB.out.mono hB)) (by omega) hok).mono ?_
        rintro e w1 ⟨rfl, hb1⟩
        have HA1 := Lib.hid (HA.out.trans (hb1.mono (by omega)))
        have HB1 := Lib.hid (HB.out.trans (hb1.mono (by omega)))
        have HO1 := Lib.hid (ownsRow_below HO.out hb1)
        clear hb1 b0 b1
        obtain ⟨hs1, b0, b1⟩ := one_box HA1.out
        obtain ⟨b, off, rfl, hbb, c0, c1, c2, c3⟩ := (hb.below (HB1.out.mono hB)).ed hlt
        have hyes := Lib.hid (fun h => pick_yes (p := byOut node) hlt h)
        have hno := Lib.hid (fun h => pick_no (p := byOut node) hlt h)
        obtain ⟨x, ex⟩ : ∃ x, x = g.es[k] := ⟨_, rfl⟩
        rw [← ex] at c0 c1 c2 c3 hyes hno
        clear ex
        cases hy : (x.f == node) with
        | true =>
          have HY := Lib.hid (hyes.out hy)
          clear hyes hno
          go_wp2_with (at_builtin; refine wpList_append_own _ rfl _ _ 23 rfl (w.heap.size + 1) 3 i0 (.int .i64 0) 1 8 Try.underlying23 hi hz0 hz1 hz2 rfl (by decide) _ _ _ rfl (HO1.out.alloc _) ⟨w1.heap.size, 0, none⟩ 1 1 [.int .i64 k] rfl rfl ?c1 ?c2 ?c3 ?c4 ?c5 ?_)
          case c1 =>
            intro j u hj
            match j, hj with
            | 0, hj => simp at hj; subst hj; simp [Addr.add]
          case c2 => intro u hu; simp at hu; subst hu; rfl
          case c3 => unfold maxLen; omega
          case c4 => omega
          case c5 => simp; omega
          intro v' w3 hown3 hgrow _
          have HA3 := Lib.hid ((HA1.out.alloc (by omega) (.cells #[.int .i64 (k : Int)] 3)).grown hgrow (by simp; omega) (fun q hq => (HO1.out.lt q hq).1))
          have HO3 := Lib.hid (show w3.ownsRow (w.heap.size + 1) 3 1 v' (pick (byOut node) g.es (k + 1)).length ((pick (byOut node) g.es (k + 1)).map (Value.int .i64)) by rw [HY.out]; simpa using hown3)
          clear hown3 hgrow
          go_wp2_with fail
          go_roundw
          case rel => exact ⟨k + 1, by omega, by go_num, HO3.out, HA3.out⟩
          case measure => simp [intOf]; omega
        | false =>
          have HY := Lib.hid (hno.out hy)
          clear hyes hno
          go_wp2_with fail
          go_roundw
          case rel => exact ⟨k + 1, by omega, by go_num, by rw [HY.out]; exact HO1.out, HA1.out⟩
          case measure => simp [intOf]; omega
      · obtain rfl : k = g.es.length := by omega
        go_wp2_with fail
        go_ret
        obtain ⟨F, h1, h2⟩ := own_of_row HO.out
        exact ⟨_, F, rfl, by rw [HE.out]; exact h1, fun x hx => by have := h2 x hx; omega, HB.out⟩
  · have HE := Lib.hid (show edgesOut g node = [] by unfold edgesOut; rw [if_neg hgv])
    have hgv' : gv g = false := Bool.eq_false_iff.2 hgv
    clear hgv
    go_enter Try.func48, Try.ntmps48
    go_wp2_with fail
    go_loopw [5, 6] (fun fnd i wr => i = .int .i64 0 ∧ wr.ownsRow (w.heap.size + 1) 3 1 fnd 0 [] ∧ Below (w.heap.size + 1) (w.alloc (.cells #[.slice pa g.ns.length ca, .slice p g.es.length cap] 55)) wr) (fun _ i _ => g.es.length - (intOf i).toNat)
    case atStart => exact ⟨rfl, hmade.out, (Below.refl _ _).alloc hz _⟩
    case round =>
      obtain ⟨rfl, hown, hbw⟩ := hrel
      obtain ⟨hs, b0, b1⟩ := one_box hbw
      have HA := Lib.hid hbw
      have HB := Lib.hid (HV.out.trans (hbw.mono (by omega)))
      have HO := Lib.hid hown
      clear hbw hown
      by_cases hlt : 0 < g.es.length
      · go_wp2_with fail
        refine (specGraphValid_any g _ B _ (HG.out.below (HB.out.mono hB)) (by omega) hok).mono ?_
        rintro e w1 ⟨rfl, hb1⟩
        have HB1 := Lib.hid (HB.out.trans (hb1.mono (by omega)))
        have HO1 := Lib.hid (ownsRow_below HO.out hb1)
        clear hb1 b0 b1
        go_wp2_with fail
        go_ret
        obtain ⟨F, h1, h2⟩ := own_of_row (xs := []) HO1.out
        exact ⟨_, F, rfl, by rw [HE.out]; exact h1, fun x hx => by have := h2 x hx; omega, HB1.out⟩
      · go_wp2_with fail
        go_ret
        obtain ⟨F, h1, h2⟩ := own_of_row (xs := []) HO.out
        exact ⟨_, F, rfl, by rw [HE.out]; exact h1, fun x hx => by have := h2 x hx; omega, HB.out⟩

set_option maxRecDepth 100000 in
set_option maxHeartbeats 2000000 in
theorem specInEdges_any (g : Gr) (v : Value) (node : Int) (B : Nat) (w : World) (hg : g.At B w v) (hB : B ≤ w.heap.size) (hok : g.Ok) :
    Calls Try.prog 49 #[v, .int .i64 node] w fun e w' => ∃ v' F, e = .returned v' ∧ OwnSl 1 intCells w' v' (edgesIn g node) F ∧ (∀ x ∈ F, w.heap.size ≤ x) ∧ Below w.heap.size w w' := by
  have HG := Lib.hid hg
  obtain ⟨a, b, rfl, ha, hb⟩ := hg
  obtain ⟨p, cap, rfl⟩ := hb.form
  obtain ⟨pa, ca, rfl⟩ := ha.form
  have hm := hb.max
  unfold maxLen at hm
  obtain ⟨i0, hi, hz0, hz1, hz2⟩ := info_parts infoInt
  have HV := Lib.hid ((Below.refl w.heap.size w).alloc (Nat.le_refl _) (.cells #[.slice pa g.ns.length ca, .slice p g.es.length cap] 55))
  have hz : w.heap.size + 1 ≤ (w.alloc (.cells #[.slice pa g.ns.length ca, .slice p g.es.length cap] 55)).heap.size := by simp
  have hmade0 := World.ownsRow_made (e := 3) (size := 1) (base := w.heap.size + 1) (w.alloc (.cells #[.slice pa g.ns.length ca, .slice p g.es.length cap] 55)) #[] 0 hz (Nat.zero_le _) rfl
  rw [World.size_alloc] at hmade0
  have hmade := Lib.hid hmade0
  clear hmade0
  by_cases hgv : gv g = true
  · have h14 := gv_len hgv
    have HE := Lib.hid (show edgesIn g node = pick (byIn node) g.es g.es.length by unfold edgesIn; rw [if_pos hgv])
    go_enter Try.func49, Try.ntmps49
    go_wp2_with fail
    go_loopw [5, 6] (fun fnd i wr => ∃ k : Nat, k ≤ g.es.length ∧ i = .int .i64 k ∧ wr.ownsRow (w.heap.size + 1) 3 1 fnd (pick (byIn node) g.es k).length ((pick (byIn node) g.es k).map (Value.int .i64)) ∧ Below (w.heap.size + 1) (w.alloc (.cells #[.slice pa g.ns.length ca, .slice p g.es.length cap] 55)) wr) (fun _ i _ => g.es.length - (intOf i).toNat)
    case atStart => exact ⟨0, Nat.zero_le _, rfl, hmade.out, (Below.refl _ _).alloc hz _⟩
    case round =>
      obtain ⟨k, hk, rfl, hown, hbw⟩ := hrel
      obtain ⟨hs, b0, b1⟩ := one_box hbw
      have HA := Lib.hid hbw
      have HB := Lib.hid (HV.out.trans (hbw.mono (by omega)))
      have HO := Lib.hid hown
      have hpl := pick_le (byIn node) g.es k
      clear hbw hown
      by_cases hlt : k < g.es.length
      · go_wp2_with fail
        refine (specGraphValid_any g _ B _ (HG.out.below (HB.out.mono hB)) (by omega) hok).mono ?_
        rintro e w1 ⟨rfl, hb1⟩
        have HA1 := Lib.hid (HA.out.trans (hb1.mono (by omega)))
        have HB1 := Lib.hid (HB.out.trans (hb1.mono (by omega)))
        have HO1 := Lib.hid (ownsRow_below HO.out hb1)
        clear hb1 b0 b1
        obtain ⟨hs1, b0, b1⟩ := one_box HA1.out
        obtain ⟨b, off, rfl, hbb, c0, c1, c2, c3⟩ := (hb.below (HB1.out.mono hB)).ed hlt
        have hyes := Lib.hid (fun h => pick_yes (p := byIn node) hlt h)
        have hno := Lib.hid (fun h => pick_no (p := byIn node) hlt h)
        obtain ⟨x, ex⟩ : ∃ x, x = g.es[k] := ⟨_, rfl⟩
        rw [← ex] at c0 c1 c2 c3 hyes hno
        clear ex
        cases hy : (x.t == node) with
        | true =>
          have HY := Lib.hid (hyes.out hy)
          clear hyes hno
          go_wp2_with (at_builtin; refine wpList_append_own _ rfl _ _ 23 rfl (w.heap.size + 1) 3 i0 (.int .i64 0) 1 8 Try.underlying23 hi hz0 hz1 hz2 rfl (by decide) _ _ _ rfl (HO1.out.alloc _) ⟨w1.heap.size, 0, none⟩ 1 1 [.int .i64 k] rfl rfl ?c1 ?c2 ?c3 ?c4 ?c5 ?_)
          case c1 =>
            intro j u hj
            match j, hj with
            | 0, hj => simp at hj; subst hj; simp [Addr.add]
          case c2 => intro u hu; simp at hu; subst hu; rfl
          case c3 => unfold maxLen; omega
          case c4 => omega
          case c5 => simp; omega
          intro v' w3 hown3 hgrow _
          have HA3 := Lib.hid ((HA1.out.alloc (by omega) (.cells #[.int .i64 (k : Int)] 3)).grown hgrow (by simp; omega) (fun q hq => (HO1.out.lt q hq).1))
          have HO3 := Lib.hid (show w3.ownsRow (w.heap.size + 1) 3 1 v' (pick (byIn node) g.es (k + 1)).length ((pick (byIn node) g.es (k + 1)).map (Value.int .i64)) by rw [HY.out]; simpa using hown3)
          clear hown3 hgrow
          go_wp2_with fail
          go_roundw
          case rel => exact ⟨k + 1, by omega, by go_num, HO3.out, HA3.out⟩
          case measure => simp [intOf]; omega
        | false =>
          have HY := Lib.hid (hno.out hy)
          clear hyes hno
          go_wp2_with fail
          go_roundw
          case rel => exact ⟨k + 1, by omega, by go_num, by rw [HY.out]; exact HO1.out, HA1.out⟩
          case measure => simp [intOf]; omega
      · obtain rfl : k = g.es.length := by omega
        go_wp2_with fail
        go_ret
        obtain ⟨F, h1, h2⟩ := own_of_row HO.out
        exact ⟨_, F, rfl, by rw [HE.out]; exact h1, fun x hx => by have := h2 x hx; omega, HB.out⟩
  · have HE := Lib.hid (show edgesIn g node = [] by unfold edgesIn; rw [if_neg hgv])
    have hgv' : gv g = false := Bool.eq_false_iff.2 hgv
    clear hgv
    go_enter Try.func49, Try.ntmps49
    go_wp2_with fail
    go_loopw [5, 6] (fun fnd i wr => i = .int .i64 0 ∧ wr.ownsRow (w.heap.size + 1) 3 1 fnd 0 [] ∧ Below (w.heap.size + 1) (w.alloc (.cells #[.slice pa g.ns.length ca, .slice p g.es.length cap] 55)) wr) (fun _ i _ => g.es.length - (intOf i).toNat)
    case atStart => exact ⟨rfl, hmade.out, (Below.refl _ _).alloc hz _⟩
    case round =>
      obtain ⟨rfl, hown, hbw⟩ := hrel
      obtain ⟨hs, b0, b1⟩ := one_box hbw
      have HA := Lib.hid hbw
      have HB := Lib.hid (HV.out.trans (hbw.mono (by omega)))
      have HO := Lib.hid hown
      clear hbw hown
      by_cases hlt : 0 < g.es.length
      · go_wp2_with fail
        refine (specGraphValid_any g _ B _ (HG.out.below (HB.out.mono hB)) (by omega) hok).mono ?_
        rintro e w1 ⟨rfl, hb1⟩
        have HB1 := Lib.hid (HB.out.trans (hb1.mono (by omega)))
        have HO1 := Lib.hid (ownsRow_below HO.out hb1)
        clear hb1 b0 b1
        go_wp2_with fail
        go_ret
        obtain ⟨F, h1, h2⟩ := own_of_row (xs := []) HO1.out
        exact ⟨_, F, rfl, by rw [HE.out]; exact h1, fun x hx => by have := h2 x hx; omega, HB1.out⟩
      · go_wp2_with fail
        go_ret
        obtain ⟨F, h1, h2⟩ := own_of_row (xs := []) HO.out
        exact ⟨_, F, rfl, by rw [HE.out]; exact h1, fun x hx => by have := h2 x hx; omega, HB.out⟩
end Go.Proofs.Ytchhobphockhhaa
