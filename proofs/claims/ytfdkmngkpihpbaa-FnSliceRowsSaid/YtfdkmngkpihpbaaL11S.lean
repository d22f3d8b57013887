/- DrawSliceRows; what the laws of sliced tables turn on (pure). -/
import Derived.Test.YtfdkmngkpihpbaaL11D
import Derived.Test.YtfdkmngkpihpbaaTbSl
namespace Go.Proofs.Ytfdkmngkpihpbaa
open Go.RowKit

/-- A table and two numbers, drawn. -/
def DrewSl (w : World) (en : Ending) (w' : World) : Prop := ∃ (x : Tb) (v : Value) (F : List Nat) (s c : Int), en = .returned (.tuple #[v, .int .i64 s, .int .i64 c]) ∧ x.Has v F w' ∧ x.Ok ∧ x.need ≤ 100000 ∧ (-1000 ≤ s ∧ s ≤ 1000) ∧ (-1000 ≤ c ∧ c ≤ 1000) ∧ Below w.heap.size w w'
set_option maxRecDepth 100000 in
set_option maxHeartbeats 8000000 in
theorem drawSliceRows_any (zs : List Int) (v : Value) (B : Nat) (w : World) (hv : Sl 1 byCells B w v zs) (hB : B ≤ w.heap.size) (hz : ∀ z ∈ zs, 0 ≤ z ∧ z ≤ 255) :
    Calls Try.prog 25 #[v] w (DrewSl w) := by
  obtain ⟨p, cap, rfl⟩ := hv.form
  have HV := Lib.hid hv
  clear hv
  go_enter Try.func25, Try.ntmps25
  go_wp2_with fail
  obtain ⟨W1, eW1⟩ : ∃ E, E = w.alloc (.cells #[.slice none 0 0, .slice none 0 0] 33) := ⟨_, rfl⟩
  obtain ⟨sW1, sW1'⟩ : w.heap.size + 1 ≤ W1.heap.size ∧ W1.heap.size ≤ w.heap.size + 1 := by rw [eW1]; constructor <;> simp
  have HW1 := Lib.hid (show Chg [] w W1 by rw [eW1]; exact (Chg.refl _ _).alloc _)
  have HRES := Lib.hid (show (W1.cell? ⟨w.heap.size, 0, none⟩ = some (.slice none 0 0) ∧ W1.cell? ⟨w.heap.size, 1, none⟩ = some (.slice none 0 0)) ∧ W1.frozen? ⟨w.heap.size, 0, none⟩ = false ∧ W1.frozen? ⟨w.heap.size, 1, none⟩ = false by rw [eW1]; exact ⟨⟨by simp [go_sem], by simp [go_sem]⟩, by simp [go_sem], by simp [go_sem]⟩)
  rw [← eW1]
  clear eW1
  refine (open_any zs _ B W1 (HV.out.below ((HW1.out.below (Nat.le_refl _) (by simp)).mono hB)) (by omega) hz).mono ?_
  rintro en u1 ⟨rfl, hr1, hs1, hb1⟩
  have d1 : Dr u1 W1.heap.size 0 := ⟨0, Nat.le_refl _, hr1⟩
  have HB1 := Lib.hid (Chg.of_below hb1 [])
  have s1 := d1.lt
  clear hr1 hb1 hs1
  go_wp2_with fail
  refine (l11Draw_any W1.heap.size 0 u1 d1 (by omega)).mono ?_
  rintro en u2 ⟨x, vx, Fx, rfl, hx, hfx, hok, hne, d2, k2⟩
  have s2 := k2.size
  have HX2 := Lib.hid hx
  have HFX := Lib.hid hfx
  have HXL := Lib.hid hx.lt
  obtain ⟨px, cx, qx, dx, rfl⟩ := hx.form
  have HKW := Lib.hid (((HB1.out.mono (by simp)).trans k2) : Chg [W1.heap.size] W1 u2)
  have HOK := Lib.hid hok
  have HNE := Lib.hid hne
  clear k2 d1 hx hfx hok hne
  go_wp2_with fail
  refine Calls.mono (num_dr W1.heap.size _ _ 5 _ _ (d2.alloc _) (by omega) (Cs.fresh intB intB_spec _ _ _ rfl rfl (by kernel_rfl)) (by decide) (by omega)) ?_
  rintro en u3 ⟨s, rfl, hs0, hs1, d3, k3⟩
  have k3' : Chg [W1.heap.size] u2 u3 := ((Chg.refl _ _).alloc _).trans k3
  have s3 := k3'.size
  have HK3 := Lib.hid (HKW.out.trans k3')
  have HX3 := Lib.hid (HX2.out.chg k3' (fun y hy => by have := HFX.out y hy; simp; omega))
  clear k3 k3' d2 HX2 HKW
  go_wp2_with fail
  refine Calls.mono (num_dr W1.heap.size _ _ 5 _ _ (d3.alloc _) (by omega) (Cs.fresh intB intB_spec _ _ _ rfl rfl (by kernel_rfl)) (by decide) (by omega)) ?_
  rintro en u4 ⟨c, rfl, hc0, hc1, d4, k4⟩
  have k4' : Chg [W1.heap.size] u3 u4 := ((Chg.refl _ _).alloc _).trans k4
  have s4 := k4'.size
  have HK4 := Lib.hid (HK3.out.trans k4')
  have HX4 := Lib.hid (HX3.out.chg k4' (fun y hy => by have := HFX.out y hy; simp; omega))
  clear k4 k4' d3 d4 HX3 HK3
  have r0 := HK4.out.cellOf (by simp; omega) HRES.out.1.1
  have r1 := HK4.out.cellOf (by simp; omega) HRES.out.1.2
  have r2 := HK4.out.frozenOf (by simp; omega) (by omega) HRES.out.2.1
  have r3 := HK4.out.frozenOf (by simp; omega) (by omega) HRES.out.2.2
  have hq1 : w.heap.size < u4.heap.size := by omega
  have HZ := Lib.hid (show (-1000 ≤ s ∧ s ≤ 1000) ∧ (-1000 ≤ c ∧ c ≤ 1000) from ⟨⟨hs0, hs1⟩, hc0, hc1⟩)
  clear hs0 hs1 hc0 hc1
  go_wp2_with fail
  exact bodyPost_ret (v := .tuple #[.agg #[.slice px x.cs.length cx, .slice qx x.rs.length dx], .int .i64 s, .int .i64 c]) (by simp [results, Try.results25, go_sem, r0, r1]) rfl ⟨x, _, Fx, s, c, rfl, HX4.out.chg (G := [w.heap.size]) (((Chg.refl _ _).setCell (by simp) _).setCell (by simp) _) (fun y hy => by have := HFX.out y hy; simp; omega), HOK.out, HNE.out, HZ.out.1, HZ.out.2,
    ((((HW1.out.mono (by simp)).trans HK4.out).past (((Chg.refl [w.heap.size] u4).setCell (by simp) _).setCell (by simp) _) (fun y hy => .inr (by simp at hy; omega))).past (Chg.refl [W1.heap.size] _) (fun y hy => .inl hy) |> fun h => (Chg.past (Chg.refl [] w) h (fun y hy => .inr (by simp at hy; omega))).below (Nat.le_refl _) (by simp))⟩
theorem cut_next {x : Tb} {s c : Int} (h0 : 0 ≤ s) (h2 : 1 ≤ c) : cutRows ⟨x.cs, cutRows x s c⟩ 1 c = cutRows x (s + 1) (c - 1) := by
  obtain ⟨sn, rfl⟩ := Int.eq_ofNat_of_zero_le h0
  obtain ⟨cn, rfl⟩ := Int.eq_ofNat_of_zero_le (show 0 ≤ c by omega)
  have e1 : ((sn : Int) + 1).toNat = sn + 1 := by omega
  have e2 : ((cn : Int) - 1).toNat = cn - 1 := by omega
  have e3 : (1 : Int).toNat = 1 := rfl
  unfold cutRows cutTo cutFrom
  simp only [e1, e2, e3, Int.toNat_natCast, List.length_drop, List.length_take]
  refine List.ext_getElem ?_ fun i hi hi' => ?_
  · simp only [List.length_drop, List.length_take]; omega
  · simp only [List.length_drop, List.length_take] at hi hi'
    simp only [List.getElem_drop, List.getElem_take]
    congr 1
    omega
theorem cutR_next {x : Tb} {s c : Int} (h : cutB x s c = true) (h1 : ¬ 300 < s) (h2 : ¬ c < 1) : cutB (cutR x s c) 1 c = true ∧ cutB x (s + 1) (c - 1) = true ∧ cutR (cutR x s c) 1 c = cutR x (s + 1) (c - 1) := by
  have hb := h
  unfold cutB at hb
  simp only [Bool.and_eq_true, decide_eq_true_eq] at hb
  obtain ⟨⟨⟨⟨hk, h3⟩, h4⟩, h5⟩, h6⟩ := hb
  have e : cutR x s c = ⟨x.cs, cutRows x s c⟩ := cutR_yes h
  have b1 : cutB (cutR x s c) 1 c = true := by rw [e]; exact cutB_yes (cut_ok hk) (by omega) (by omega) (by omega) (by omega)
  have b2 : cutB x (s + 1) (c - 1) = true := cutB_yes hk (by omega) (by omega) (by omega) (by omega)
  refine ⟨b1, b2, ?_⟩
  rw [cutR_yes b1, cutR_yes b2, e, cut_next h3 (by omega)]
theorem cutR_keep {x : Tb} {s c : Int} (hok : ∀ y ∈ x.cs, y.size ≤ maxLen) (hn : x.need ≤ 100000) : (∀ y ∈ (cutR x s c).cs, y.size ≤ maxLen) ∧ (cutR x s c).need ≤ 1048576 := by
  unfold cutR
  split
  · refine ⟨hok, ?_⟩
    have h1 := cutRows_need x s c
    unfold Tb.need at hn ⊢
    simp only
    omega
  · exact ⟨by simp [noTb], by simp [noTb, Tb.need, sumS, sumR]⟩
end Go.Proofs.Ytfdkmngkpihpbaa
