/- l1Bend and DrawLabelValid: some text that is not long. -/
import Derived.Test.YtggnlbclpbkfhaaDraw2
import Derived.Deep.RegionHeld3
import Derived.Deep.DeepCutAuto
namespace Go.Proofs.Ytggnlbclpbkfhaa
open Go.RowKit

/-- Some text of at most M bytes; the source lies as it was, but for its count. -/
def SomeText (M a : Nat) (w : World) (e : Ending) (w' : World) : Prop := ∃ t : ByteArray, e = .returned (.string t) ∧ t.size ≤ M ∧ Chg [a] w w'
theorem chg_cell {a b o : Nat} {x : Value} {w w' : World} (hc : Chg [a] w w') (hab : b ≠ a) (h : w.cell? ⟨b, o, none⟩ = some x) : w'.cell? ⟨b, o, none⟩ = some x :=
  (World.cell?_of_block (w := w) (a := ⟨b, o, none⟩) (hc.block b (World.block_lt_of_cell? w _ h) (by simpa using hab))).trans h
theorem bend_size (s t : ByteArray) (k q : Nat) (hk : k < s.size) (ht : t.size ≤ 1) : (s.extract 0 k ++ t ++ s.extract (k + q) s.size).size ≤ s.size + 1 := by
  simp only [ByteArray.size_append, ByteArray.size_extract]
  omega

theorem two_step {k r n : Nat} (hk : k < n) (hr : (r : Int) < 2) (hn : n ≤ 1000000) : (0 : Int) ≤ (k : Int) + (r : Int) ∧ (k : Int) + (r : Int) ≤ (n : Int) ∧ k + r ≤ n ∧ IntKind.i64.wrap ((k : Int) + (r : Int)) = (k : Int) + (r : Int) ∧ ((k : Int) + (r : Int)).toNat = k + r := by
  refine ⟨by omega, by omega, by omega, ?_, by omega⟩
  rw [IntKind.wrap_i64]; omega
theorem no_over1 {k n x : Nat} (hk : k ≤ n) (hn : n ≤ 1000000) (hx : x ≤ 1) : (9223372036854775807 < k + x) = False := eq_false (by omega)
theorem no_over2 {k n x r : Nat} (hk : k ≤ n) (hn : n ≤ 1000000) (hx : x ≤ 1) : (9223372036854775807 < k + x + (n - (k + r))) = False := eq_false (by omega)
set_option maxRecDepth 100000 in
set_option maxHeartbeats 2000000 in
theorem l1Bend_any (s : ByteArray) (ss : List ByteArray) (a n b cap : Nat) (w : World) (h : Rd w a n) (hn : n ≤ 999990) (hs : s.size ≤ 1000000) (hpos : 0 < ss.length) (hlen : ss.length ≤ 1000) (hab : b ≠ a)
    (hc : ∀ i (hi : i < ss.length), w.cell? ⟨b, i, none⟩ = some (.string ss[i])) (hmax : ∀ x ∈ ss, x.size ≤ 1) :
    Calls Try.prog 53 #[.pointer (some ⟨a, 0, none⟩), .string s, .slice (some ⟨b, 0, none⟩) ss.length cap] w (SomeText (s.size + 1) a w) := by
  have HC := Lib.hid hc
  have HM := Lib.hid hmax
  clear hc hmax
  by_cases h0 : s.size = 0
  · have q0 : ((s.size : Int) == 0) = true := beq_iff_eq.2 (by omega)
    clear h0
    go_enter Try.func53, Try.ntmps53
    go_wp2_with fail
    go_ret
    exact ⟨s, rfl, by omega, Chg.refl _ _⟩
  · have q0 : ((s.size : Int) == 0) = false := beq_eq_false_iff_ne.2 (by omega)
    have h1 : 1 ≤ s.size := by omega
    clear h0
    go_enter Try.func53, Try.ntmps53
    go_wp2_with fail
    refine (pick_any _ a n _ h (by omega)).mono ?_
    rintro e w1 ⟨q, rfl, hq0, hq1, hr, hch⟩
    have HR1 := Lib.hid hr
    have HC1 := Lib.hid hch
    clear hr hch hq1 h
    cases hqz : (q == (0 : Int)) with
    | true =>
      go_wp2_with fail
      go_ret
      exact ⟨s, rfl, by omega, HC1.out⟩
    | false =>
      go_wp2_with fail
      refine (pick_any _ a (n + 1) _ HR1.out (by omega)).mono ?_
      rintro e w2 ⟨k, rfl, hk0, hk1, hr2, hch2⟩
      rw [top_of (by omega)] at hk1
      obtain ⟨k, rfl⟩ := Int.eq_ofNat_of_zero_le hk0
      have hk : k < s.size := by omega
      have HR2 := Lib.hid hr2
      have HC2 := Lib.hid (HC1.out.trans hch2)
      clear hr2 hch2 hq0 hqz q0
      have HL := Lib.hid (fun i hi => chg_cell HC2.out hab (HC.out i hi))
      have HR2d := Lib.hid (HR2.out.keep (w' := w2.drew) (fun _ _ => rfl))
      have HC2d : RowKit.Hid (Chg [a] w w2.drew) := Lib.hid ⟨HC2.out.os, HC2.out.tape, HC2.out.output, HC2.out.size, HC2.out.block⟩
      have k0 : (0 : Int) ≤ (k : Int) := Int.natCast_nonneg _
      have k1 : (k : Int) ≤ (s.size : Int) := by omega
      have k2 : k ≤ s.size := by omega
      have e1 : (s.extract 0 k).size ≤ 1000000 := by rw [ByteArray.size_extract]; omega
      go_upto_region 4 with fail
      go_cut [6] (fun t wx => ∃ x : ByteArray, t = .string x ∧ RowKit.Hid (x.size ≤ s.size + 1) ∧ Chg [a] w wx)
      case first =>
        go_region_held3 (fun _ => True) (trivial)
          (first
            | (go_at_call 46; refine (of_any ss a (n + 1 + 1) b cap _ HR2d.out (by omega) hpos hlen hab (fun i hi => HL.out i hi)).mono ?_; rintro e w3 ⟨⟨j, hj, rfl⟩, hr3, hc3⟩; have HR3 := Lib.hid hr3; have HC3 := Lib.hid hc3; have hx1 := HM.out _ (List.getElem_mem hj); obtain ⟨x, ex⟩ : ∃ x, x = ss[j] := ⟨_, rfl⟩; rw [← ex] at hx1; rw [← ex]; have g1 := no_over1 k2 hs hx1; clear hr3 hc3 ex)
            | (go_at_call 45; refine (pick_any _ a (n + 1 + 1 + 1) _ HR3.out (by omega)).mono ?_; rintro e w4 ⟨r, rfl, hr0, hr1, hr4, hc4⟩; have HC4 := Lib.hid hc4; clear hc4 hr4; rw [top_of (by decide)] at hr1; obtain ⟨r, rfl⟩ := Int.eq_ofNat_of_zero_le hr0; have hkr := two_step hk hr1 hs; have m1 := hkr.1; have m2 := hkr.2.1; have m3 := hkr.2.2.1; have m4 := hkr.2.2.2.1; have m5 := hkr.2.2.2.2; have g2 := no_over2 (r := r) k2 hs hx1; clear hkr))
        all_goals (go_wp2_with fail; go_meet)
        all_goals exact ⟨_, rfl, Lib.hid (bend_size s x k r hk hx1), (HC2d.out.trans (HC3.out.trans HC4.out))⟩
      case rest =>
        obtain ⟨x, rfl, hx, hcx⟩ := hcut
        have HCX := Lib.hid hcx
        clear hcx
        go_wp2_with fail
        go_ret
        exact ⟨x, rfl, hx.out, HCX.out⟩

theorem strs_cells (w : World) (T : TypeId) (ss : List ByteArray) : ∀ i (hi : i < ss.length), (w.alloc (.cells (ss.map Value.string).toArray T)).cell? ⟨w.heap.size, i, none⟩ = some (.string ss[i]) := by
  intro i hi
  rw [World.cell?_alloc_at _ _ _ _ rfl]
  simp [hi]

set_option maxRecDepth 100000 in
set_option maxHeartbeats 2000000 in
theorem drawLabelValid_any (zs : List Int) (v : Value) (B : Nat) (w : World) (hv : Sl 1 byCells B w v zs) (hB : B ≤ w.heap.size) (hz : ∀ z ∈ zs, 0 ≤ z ∧ z ≤ 255) :
    Calls Try.prog 18 #[v] w fun e w' => ∃ t : ByteArray, e = .returned (.string t) ∧ t.size ≤ 7 ∧ Below w.heap.size w w' := by
  obtain ⟨p, cap, rfl⟩ := hv.form
  go_enter Try.func18, Try.ntmps18
  go_wp2_with fail
  refine (open_any zs _ B _ hv hB hz).mono ?_
  rintro e w1 ⟨rfl, hr1, hs1, hb1⟩
  have HR1 := Lib.hid hr1
  have HB1 := Lib.hid hb1
  have hw1 : w.heap.size < w1.heap.size := by omega
  clear hr1 hs1 hb1
  go_wp2_with fail
  refine (of_any [⟨#[97]⟩, ⟨#[112, 101, 114, 115, 111, 110]⟩, ⟨#[107, 110, 111, 119, 115]⟩, ⟨#[122]⟩, ⟨#[97, 98, 99, 100, 101, 102]⟩] w.heap.size 0 w1.heap.size 5 _ (HR1.out.below ((Below.refl _ _).alloc (Nat.le_refl _) _) hw1) (by omega) (by decide) (by decide) (by omega) (strs_cells w1 9 _)).mono ?_
  rintro e w2 ⟨⟨i, hi, rfl⟩, hr2, hc2⟩
  have hsz : ([⟨#[97]⟩, ⟨#[112, 101, 114, 115, 111, 110]⟩, ⟨#[107, 110, 111, 119, 115]⟩, ⟨#[122]⟩, ⟨#[97, 98, 99, 100, 101, 102]⟩] : List ByteArray)[i].size ≤ 6 := (by decide : ∀ x ∈ ([⟨#[97]⟩, ⟨#[112, 101, 114, 115, 111, 110]⟩, ⟨#[107, 110, 111, 119, 115]⟩, ⟨#[122]⟩, ⟨#[97, 98, 99, 100, 101, 102]⟩] : List ByteArray), x.size ≤ 6) _ (List.getElem_mem hi)
  obtain ⟨s, es⟩ : ∃ s, s = ([⟨#[97]⟩, ⟨#[112, 101, 114, 115, 111, 110]⟩, ⟨#[107, 110, 111, 119, 115]⟩, ⟨#[122]⟩, ⟨#[97, 98, 99, 100, 101, 102]⟩] : List ByteArray)[i] := ⟨_, rfl⟩
  rw [← es] at hsz
  rw [← es]
  have hw2 : w.heap.size < w2.heap.size := by have := hc2.size; simp at this; omega
  have HR2 := Lib.hid hr2
  have HB2 := Lib.hid ((HB1.out.alloc (by omega) (.cells #[.string ⟨#[97]⟩, .string ⟨#[112, 101, 114, 115, 111, 110]⟩, .string ⟨#[107, 110, 111, 119, 115]⟩, .string ⟨#[122]⟩, .string ⟨#[97, 98, 99, 100, 101, 102]⟩] 9)).trans (hc2.below (by simp; omega) (fun x hx => by simp at hx; omega)))
  clear hr2 hc2 es
  go_wp2_with fail
  refine (l1Bend_any s [⟨#[]⟩, ⟨#[65]⟩, ⟨#[49]⟩, ⟨#[98]⟩, ⟨#[32]⟩] w.heap.size (0 + 1) w2.heap.size 5 _ (HR2.out.below ((Below.refl _ _).alloc (Nat.le_refl _) _) hw2) (by omega) (by omega) (by decide) (by decide) (by omega) (strs_cells w2 9 _) (by decide)).mono ?_
  rintro e w3 ⟨t, rfl, ht, hc3⟩
  have HB3 := Lib.hid ((HB2.out.alloc (by omega) (.cells #[.string ⟨#[]⟩, .string ⟨#[65]⟩, .string ⟨#[49]⟩, .string ⟨#[98]⟩, .string ⟨#[32]⟩] 9)).trans (hc3.below (by simp; omega) (fun x hx => by simp at hx; omega)))
  clear hc3
  go_wp2_with fail
  go_ret
  exact ⟨t, rfl, by omega, HB3.out⟩
end Go.Proofs.Ytggnlbclpbkfhaa
