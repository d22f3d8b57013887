/- The laws' marks on graphs and on lists of ints: what markX writes, heldX finds. -/
import Derived.Test.YtfdkmngkpihpbaaGraph
import Derived.Test.YtfdkmngkpihpbaaGSame
namespace Go.Proofs.Ytfdkmngkpihpbaa
open Go.RowKit

/-- A text of one byte. -/
def dg (n : Int) : ByteArray := strOfNums [n]
theorem dg_size (n : Int) : (dg n).size = 1 := rfl
theorem conv_dg (w : World) (n : Int) : (convert 22 9 (.slice (some ⟨w.heap.size, 0, none⟩) 1 1)).run Try.prog (w.alloc (.cells #[.int .u8 n] 5)) = .ok (.string (dg n)) (w.alloc (.cells #[.int .u8 n] 5)) :=
  run_convert_bytes_arg _ 22 5 Try.underlying22 Try.underlying5 w.heap.size 0 1 1 [n] rfl (fun i hi => by
    obtain rfl : i = 0 := by omega
    simp [go_sem]) 9 Try.underlying9
/-- markText's digits: what has been gathered, and what is left. -/
def mtd : Nat → Int → ByteArray → ByteArray
  | 0, _, acc => acc
  | f + 1, k, acc => if 0 < k then mtd f (k / 10) (dg (48 + k % 10) ++ acc) else acc
/-- markText at a number from 1 on. -/
def mt (k : Int) : ByteArray := ⟨#[109]⟩ ++ mtd 20 k ⟨#[]⟩

set_option maxRecDepth 100000 in
set_option maxHeartbeats 1000000 in
theorem markText_any (k : Int) (w : World) (h0 : 1 ≤ k) (h1 : k ≤ 100000000) :
    Calls Try.prog 76 #[.int .i64 k] w fun e w' => e = .returned (.string (mt k)) ∧ Below w.heap.size w w' := by
  have hcv := conv_dg
  have q0 : decide (k ≤ 0) = false := by simp; omega
  go_enter Try.func76, Try.ntmps76
  go_wp2_with fail
  go_loopw [0, 3] (fun kk s wr => ∃ (f : Nat) (q : Int) (acc : ByteArray), f ≤ 9 ∧ kk = .int .i64 q ∧ s = .string acc ∧ 0 ≤ q ∧ q ≤ 100000000 ∧ RowKit.Hid (q < 10 ^ f) ∧ acc.size + f ≤ 9 ∧ RowKit.Hid (mtd (f + 11) q acc = mtd 20 k ⟨#[]⟩) ∧ Below w.heap.size w wr) (fun kk _ _ => (intOf kk).toNat)
  case atStart => exact ⟨9, k, ⟨#[]⟩, Nat.le_refl _, rfl, rfl, by omega, h1, Lib.hid (by omega), by simp [ByteArray.size], Lib.hid rfl, Below.refl _ _⟩
  case round =>
    obtain ⟨f, q, acc, hf, rfl, rfl, hq0, hq2, hq1, hacc, hm, hbw⟩ := hrel
    have hsz := hbw.size
    have HB := Lib.hid hbw
    clear hbw
    by_cases hq : 0 < q
    · have hq1' := hq1.out
      obtain ⟨f', rfl⟩ : ∃ f', f = f' + 1 := by
        cases f with
        | zero => simp at hq1'; omega
        | succ f' => exact ⟨f', rfl⟩
      have hp : (10 : Int) ^ (f' + 1) = 10 ^ f' * 10 := Int.pow_succ _ _
      have HQ := Lib.hid (show q / 10 < 10 ^ f' by rw [hp] at hq1'; omega)
      clear hp hq1'
      have hm' := hm.out
      have HM := Lib.hid (show mtd (f' + 11) (q / 10) (dg (48 + q % 10) ++ acc) = mtd 20 k ⟨#[]⟩ by rw [← hm', show f' + 1 + 11 = (f' + 11) + 1 from by omega]; exact (if_pos hq).symm)
      clear hm'
      have hds : (dg (48 + q % 10)).size ≤ 1 := Nat.le_of_eq (dg_size _)
      have hac : acc.size ≤ 9 := by omega
      go_wp2_with fail
      go_roundw
      case rel => exact ⟨f', q / 10, _, by omega, rfl, rfl, by omega, by omega, HQ, by rw [ByteArray.size_append, dg_size]; omega, HM, HB.out.alloc hsz _⟩
      case measure => simp [intOf]; omega
    · have hm' := hm.out
      have HM := Lib.hid (show mt k = ⟨#[109]⟩ ++ acc by unfold mt; rw [← hm']; unfold mtd; rw [if_neg hq])
      clear hm'
      have hac : acc.size ≤ 9 := by omega
      go_wp2_with fail
      go_ret
      exact ⟨by rw [HM.out]; rfl, HB.out⟩

theorem OwnSl.elem {α : Type} {sz : Nat} {enc : α → List Value} {w : World} {p : Option Addr} {len cap : Nat} {xs : List α} {F : List Nat} (h : OwnSl sz enc w (.slice p len cap) xs F) {k : Nat} (hk : k < xs.length) :
    ∃ b off, p = some ⟨b, off, none⟩ ∧ F = [b] ∧ b < w.heap.size ∧ (∀ o, w.frozen? ⟨b, o, none⟩ = false) ∧ ∀ j x, (enc xs[k])[j]? = some x → w.cell? ⟨b, off + k * sz + j, none⟩ = some x := by
  obtain ⟨p', len', cap', h1, h2, h3, h4, h5⟩ := h
  cases h1
  rcases h5 with ⟨h5, _⟩ | ⟨b, off, e1, e2, e3, e4, e5⟩
  · subst h5; simp at hk
  · exact ⟨b, off, e1, e2, e3, e4, e5 k hk⟩
theorem OwnSl.store {α : Type} {sz : Nat} {enc : α → List Value} {w : World} {b off len cap : Nat} {xs : List α} {F : List Nat} (h : OwnSl sz enc w (.slice (some ⟨b, off, none⟩) len cap) xs F) {k : Nat} (hk : k < xs.length) (hsz : ∀ x, (enc x).length = sz)
    (j : Nat) (hj : j < sz) (y : α) (u : Value) (hy : enc y = (enc xs[k]).set j u) : OwnSl sz enc (w.setCell ⟨b, off + k * sz + j, none⟩ u) (.slice (some ⟨b, off, none⟩) len cap) (xs.set k y) F := by
  obtain ⟨p', len', cap', h1, h2, h3, h4, h5⟩ := h
  cases h1
  refine ⟨_, _, _, rfl, by simpa using h2, h3, h4, ?_⟩
  rcases h5 with ⟨h5, _⟩ | ⟨b', off', e1, e2, e3, e4, e5⟩
  · subst h5; simp at hk
  · cases e1
    refine .inr ⟨b, off, rfl, e2, by simpa using e3, fun o => by simpa [go_sem] using e4 o, fun i hi j' x hx => ?_⟩
    have hi' : i < xs.length := by simpa using hi
    by_cases e : i = k
    · subst e
      rw [List.getElem_set_self, hy] at hx
      by_cases ej : j' = j
      · subst ej
        rw [List.getElem?_set_self (by rw [hsz]; exact hj)] at hx
        cases hx
        have hold := e5 i hi' j' _ (List.getElem?_eq_getElem (by rw [hsz]; exact hj))
        exact set_same _ _ _ _ _ hold
      · rw [List.getElem?_set_ne (fun h => ej h.symm)] at hx
        exact (set_near _ _ _ _ _ (by omega)).trans (e5 i hi' j' x hx)
    · rw [List.getElem_set_ne (fun h => e h.symm)] at hx
      have hj' : j' < sz := by rw [← hsz xs[i]]; exact (List.getElem?_eq_some_iff.1 hx).1
      refine (set_near _ _ _ _ _ ?_).trans (e5 i hi' j' x hx)
      rcases Nat.lt_or_gt_of_ne e with hlt | hlt
      · have : i * sz + sz ≤ k * sz := by rw [← Nat.succ_mul]; exact Nat.mul_le_mul_right _ hlt
        omega
      · have : k * sz + sz ≤ i * sz := by rw [← Nat.succ_mul]; exact Nat.mul_le_mul_right _ hlt
        omega
/-- A list whose first k elements are f's, the others xs'. -/
def half {α : Type} (f : Nat → α) (xs : List α) (k : Nat) : List α := (List.range k).map f ++ xs.drop k
theorem half_zero {α : Type} (f : Nat → α) (xs : List α) : half f xs 0 = xs := by simp [half]
theorem half_length {α : Type} (f : Nat → α) (xs : List α) {k : Nat} (h : k ≤ xs.length) : (half f xs k).length = xs.length := by simp [half]; omega
theorem half_full {α : Type} (f : Nat → α) (xs : List α) : half f xs xs.length = (List.range xs.length).map f := by simp [half]
theorem half_at {α : Type} (f : Nat → α) (xs : List α) {k : Nat} (h : k < xs.length) (h' : k < (half f xs k).length) : (half f xs k)[k] = xs[k] := by
  have e : (half f xs k)[k]? = xs[k]? := by unfold half; rw [List.getElem?_append_right (by simp)]; simp
  rw [List.getElem?_eq_getElem h', List.getElem?_eq_getElem h] at e
  exact Option.some.inj e
theorem OwnSl.restore {α : Type} {sz : Nat} {enc : α → List Value} {w : World} {b off len cap : Nat} {xs : List α} {F : List Nat} {k : Nat} {y : α} (h : OwnSl sz enc w (.slice (some ⟨b, off, none⟩) len cap) (xs.set k y) F) (hk : k < xs.length) (hsz : ∀ x, (enc x).length = sz)
    (j : Nat) (hj : j < sz) (y' : α) (u : Value) (hy : enc y' = (enc y).set j u) : OwnSl sz enc (w.setCell ⟨b, off + k * sz + j, none⟩ u) (.slice (some ⟨b, off, none⟩) len cap) (xs.set k y') F := by
  have := h.store (k := k) (by simpa using hk) hsz j hj y' u (by rw [List.getElem_set_self]; exact hy)
  rwa [List.set_set] at this
theorem OwnSl.restore1 {α : Type} {enc : α → List Value} {w : World} {b off len cap : Nat} {xs : List α} {F : List Nat} {k : Nat} {y : α} (h : OwnSl 1 enc w (.slice (some ⟨b, off, none⟩) len cap) (xs.set k y) F) (hk : k < xs.length) (hsz : ∀ x, (enc x).length = 1)
    (y' : α) (u : Value) (hy : enc y' = (enc y).set 0 u) : OwnSl 1 enc (w.setCell ⟨b, off + k, none⟩ u) (.slice (some ⟨b, off, none⟩) len cap) (xs.set k y') F := by
  have := h.restore hk hsz 0 (by decide) y' u hy
  rwa [Nat.mul_one, Nat.add_zero] at this
theorem OwnSl.setcell {α : Type} {sz : Nat} {enc : α → List Value} {w : World} {b off len cap : Nat} {xs : List α} {F : List Nat} {k : Nat} {y : α} (h : OwnSl sz enc w (.slice (some ⟨b, off, none⟩) len cap) (xs.set k y) F) (hk : k < xs.length) {j : Nat} {x : Value} (hx : (enc y)[j]? = some x) :
    w.cell? ⟨b, off + k * sz + j, none⟩ = some x ∧ w.frozen? ⟨b, off + k * sz + j, none⟩ = false := by
  obtain ⟨b', off', e1, e2, e3, e4, e5⟩ := h.elem (k := k) (by simpa using hk)
  cases e1
  exact ⟨e5 j x (by rw [List.getElem_set_self]; exact hx), e4 _⟩
theorem half_succ {α : Type} (f : Nat → α) (xs : List α) {k : Nat} (h : k < xs.length) : (half f xs k).set k (f k) = half f xs (k + 1) := by
  unfold half
  rw [List.set_append_right _ _ (by simp), List.range_succ, List.map_append, List.append_assoc]
  simp only [List.length_map, List.length_range, Nat.sub_self]
  rw [List.drop_eq_getElem_cons h]; rfl

def intCells (n : Int) : List Value := [.int .i64 n]

def mkNode (m : Int) (k : Nat) : Nd := ⟨mt (m + 2 * k), (m + 2 * k + 1)⟩

def mkEdge (m : Int) (k : Nat) : Ed := ⟨(m + 4 * k), (m + 4 * k + 1), mt (m + 4 * k + 1 + 1), (m + 4 * k + 1 + 1 + 1)⟩

def mkInt (m : Int) (k : Nat) : Int := m + k

set_option maxRecDepth 100000 in
set_option maxHeartbeats 2000000 in
theorem markIntS_any (xs : List Int) (v : Value) (F : List Nat) (m : Int) (w : World) (hv : OwnSl 1 intCells w v xs F) (hm : 1 ≤ m) (hb : m + xs.length ≤ 100000000) :
    Calls Try.prog 106 #[v, .int .i64 m] w fun e w' => e = .returned (.int .i64 (m + xs.length)) ∧ OwnSl 1 intCells w' v ((List.range xs.length).map (mkInt m)) F ∧ Chg F w w' := by
  obtain ⟨p, cap, rfl⟩ := hv.sl.form
  go_enter Try.func106, Try.ntmps106
  go_wp2_with fail
  go_loopw [1, 5] (fun kk i wr => ∃ k : Nat, k ≤ xs.length ∧ i = .int .i64 k ∧ kk = .int .i64 (m + (k : Int)) ∧ OwnSl 1 intCells wr (.slice p xs.length cap) (half (mkInt m) xs k) F ∧ Chg F w wr) (fun _ i _ => xs.length - (intOf i).toNat)
  case atStart => exact ⟨0, Nat.zero_le _, rfl, by simp, by rw [half_zero]; exact hv, Chg.refl _ _⟩
  case round =>
    obtain ⟨k, hk, rfl, rfl, hown, hch⟩ := hrel
    have HC := Lib.hid hch
    clear hch
    by_cases hlt : k < xs.length
    · skip
      obtain ⟨b, off, rfl, rfl, hbb, hfz, hcells⟩ := hown.elem (k := k) (by rw [half_length _ _ hk]; exact hlt)
      have own0 : OwnSl 1 intCells wr (.slice (some ⟨b, off, none⟩) xs.length cap) ((half (mkInt m) xs k).set k xs[k]) [b] := by
        have e := half_at (mkInt m) xs hlt (by rw [half_length _ _ hk]; exact hlt)
        rw [← e, List.set_getElem_self]; exact hown
      have hlen := half_length (mkInt m) xs hk
      obtain ⟨x, ex⟩ : ∃ x, x = xs[k] := ⟨_, rfl⟩
      rw [← ex] at own0
      clear ex hcells hown
      have HL := Lib.hid (show k < (half (mkInt m) xs k).length by rw [hlen]; exact hlt)
      clear hlen
      have OW := Lib.hid own0
      clear own0
      have cz0 := OW.out.setcell HL.out (j := 0) (x := .int .i64 x) rfl
      simp only [Nat.mul_one, Nat.add_zero] at cz0
      obtain ⟨c0, z0⟩ := cz0
      go_wp2_with fail
      go_roundw
      case rel => exact ⟨k + 1, by omega, by go_num, congrArg (Value.int .i64) (by omega), (by rw [← half_succ _ _ hlt]; exact ((OW.out).restore1 HL.out (fun _ => rfl) (m + (k : Int)) (.int .i64 ((m + (k : Int)))) rfl)), ((HC.out).setCell (p := ⟨b, off + k, none⟩) (by simp) (.int .i64 ((m + (k : Int)))))⟩
      case measure => simp [intOf]; omega
    · obtain rfl : k = xs.length := by omega
      rw [half_full] at hown
      have HO := Lib.hid hown
      clear hown
      go_wp2_with fail
      go_ret
      exact ⟨rfl, HO.out, HC.out⟩
end Go.Proofs.Ytfdkmngkpihpbaa
