/- Lemmas on the data and the memory of this program's values: several texts in one. -/
import Derived.Test.YtfdkmngkpihpbaaM1q0p1
namespace Go.Proofs.Ytfdkmngkpihpbaa
open Go.RowKit

/-- A table, drawn. -/
def DrewDr (w : World) (en : Ending) (w' : World) : Prop := ∃ (x : Tb) (v : Value) (F : List Nat), en = .returned v ∧ x.Has v F w' ∧ x.Ok ∧ x.need ≤ 100000 ∧ Below w.heap.size w w'
set_option maxRecDepth 100000 in
set_option maxHeartbeats 8000000 in
theorem drawDistinctRows_any (zs : List Int) (v : Value) (B : Nat) (w : World) (hv : Sl 1 byCells B w v zs) (hB : B ≤ w.heap.size) (hz : ∀ z ∈ zs, 0 ≤ z ∧ z ≤ 255) :
    Calls Try.prog 18 #[v] w (DrewDr w) := by
  obtain ⟨p, cap, rfl⟩ := hv.form
  have HV := Lib.hid hv
  clear hv
  go_enter Try.func18, Try.ntmps18
  go_wp2_with fail
  obtain ⟨W1, eW1⟩ : ∃ E, E = w.alloc (.cells #[.slice none 0 0, .slice none 0 0] 33) := ⟨_, rfl⟩
  obtain ⟨sW1, sW1'⟩ : w.heap.size + 1 ≤ W1.heap.size ∧ W1.heap.size ≤ w.heap.size + 1 := by rw [eW1]; constructor <;> simp
  have HW1 := Lib.hid (show Chg [] w W1 by rw [eW1]; exact (Chg.refl _ _).alloc _)
  have HRES := Lib.hid (show (W1.cell? ⟨w.heap.size, 0, none⟩ = some (.slice none 0 0) ∧ W1.cell? ⟨w.heap.size, 1, none⟩ = some (.slice none 0 0)) ∧ W1.frozen? ⟨w.heap.size, 0, none⟩ = false ∧ W1.frozen? ⟨w.heap.size, 1, none⟩ = false by rw [eW1]; exact ⟨⟨by simp [go_sem], by simp [go_sem]⟩, by simp [go_sem], by simp [go_sem]⟩)
  rw [← eW1]
  clear eW1
  refine (open_any zs _ B W1 (HV.out.below ((HW1.out.below (Nat.le_refl _) (by simp)).mono hB)) (by omega) hz).mono ?_
  rintro en u1 ⟨rfl, hr1, hs1, hb1⟩
  have d1 : Dr u1 W1.heap.size 0 := ⟨0, Nat.le_refl _, hr1⟩
  have HB1 := Lib.hid (Chg.of_below hb1 [])
  have s1 := d1.lt
  clear hr1 hb1 hs1
  go_wp2_with fail
  refine (l11Draw_any W1.heap.size 0 u1 d1 (by omega)).mono ?_
  rintro en u2 ⟨x, vx, Fx, rfl, hx, hfx, hok, hne, d2, k2⟩
  have s2 := k2.size
  have HX2 := Lib.hid hx
  have HFX := Lib.hid hfx
  have HXL := Lib.hid hx.lt
  obtain ⟨px, cx, qx, dx, rfl⟩ := hx.form
  have HKW := Lib.hid (((HB1.out.mono (by simp)).trans k2) : Chg [W1.heap.size] W1 u2)
  have HOK := Lib.hid hok
  have HNE := Lib.hid hne
  clear k2 d1 hx hfx hok hne
  have r0 := HKW.out.cellOf (by simp; omega) HRES.out.1.1
  have r1 := HKW.out.cellOf (by simp; omega) HRES.out.1.2
  have r2 := HKW.out.frozenOf (by simp; omega) (by omega) HRES.out.2.1
  have r3 := HKW.out.frozenOf (by simp; omega) (by omega) HRES.out.2.2
  have hq1 : w.heap.size < u2.heap.size := by omega
  go_wp2_with fail
  exact bodyPost_ret (v := .agg #[.slice px x.cs.length cx, .slice qx x.rs.length dx]) (by simp [results, Try.results18, go_sem, r0, r1]) rfl ⟨x, _, Fx, rfl, HX2.out.chg (G := [w.heap.size]) (((Chg.refl _ _).setCell (by simp) _).setCell (by simp) _) (fun y hy => by have := HFX.out y hy; simp; omega), HOK.out, HNE.out,
    ((((HW1.out.mono (by simp)).trans HKW.out).past (((Chg.refl [w.heap.size] u2).setCell (by simp) _).setCell (by simp) _) (fun y hy => .inr (by simp at hy; omega))).past (Chg.refl [W1.heap.size] _) (fun y hy => .inl hy) |> fun h => (Chg.past (Chg.refl [] w) h (fun y hy => .inr (by simp at hy; omega))).below (Nat.le_refl _) (by simp))⟩
theorem dst_fold (ys acc : List (List Int)) (h : (acc ++ ys).Nodup) : ys.foldl (fun acc y => if y ∈ acc then acc else acc ++ [y]) acc = acc ++ ys := by
  induction ys generalizing acc with
  | nil => simp
  | cons y ys ih =>
    have hn : y ∉ acc := fun hm => by
      rw [List.nodup_append] at h
      exact h.2.2 y hm y (by simp) rfl
    rw [List.foldl_cons, if_neg hn, ih (acc ++ [y]) (by rw [List.append_assoc]; exact h), List.append_assoc]
    rfl
theorem dst_same {xs : List (List Int)} (h : xs.Nodup) : dst xs = xs := by
  have := dst_fold xs [] (by simpa using h)
  simpa [dst] using this
theorem ds_twice {x : Tb} (hk : x.Ok) (hn : x.need ≤ 100000) : (dsR x).Ok ∧ (dsR x).need ≤ 1048576 ∧ (x.ok = true → dsR (dsR x) = dsR x ∧ (dsR x).ok = true) := by
  have hd := dst_all x.rs
  rcases Bool.eq_false_or_eq_true x.ok with h | h
  · rw [dsR_yes h]
    refine ⟨⟨hk.1, fun y hy => hk.2 y ((hd.2.2.1 y).1 hy)⟩, ?_, fun _ => ⟨?_, ds_ok h⟩⟩
    · unfold Tb.need at hn ⊢
      simp only
      omega
    · rw [dsR_yes (ds_ok h)]
      simp only
      rw [dst_same hd.2.2.2]
  · rw [dsR_no h]
    exact ⟨⟨by simp [noTb], by simp [noTb]⟩, by simp [noTb, Tb.need, sumS, sumR], fun e => by rw [h] at e; cases e⟩
end Go.Proofs.Ytfdkmngkpihpbaa
