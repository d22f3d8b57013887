/- slices.Grow of nil and slices.Concat at nodes and edges. -/
import Derived.Test.YtchhobphockhhaaEdges
import Derived.Lib.AppendZeros
import Derived.Lib.AppendZerosOnto
namespace Go.Proofs.Ytchhobphockhhaa
open Go.RowKit

/-- The cells of flat elements, one behind the other. -/
def flat {α : Type} (enc : α → List Value) (xs : List α) : List Value := xs.flatMap enc
theorem flat_length {α : Type} {enc : α → List Value} {sz : Nat} (h : ∀ x, (enc x).length = sz) : ∀ xs : List α, (flat enc xs).length = xs.length * sz
  | [] => by simp [flat]
  | x :: xs => by
    have := flat_length h xs
    simp only [flat, List.flatMap_cons, List.length_append, List.length_cons] at *
    rw [h, this, Nat.succ_mul]; omega
theorem flat_append {α : Type} (enc : α → List Value) (xs ys : List α) : flat enc (xs ++ ys) = flat enc xs ++ flat enc ys := by simp [flat]
theorem flat_at {α : Type} {enc : α → List Value} {sz : Nat} (h : ∀ x, (enc x).length = sz) : ∀ (xs : List α) (i : Nat) (hi : i < xs.length) (j : Nat) (x : Value), (enc xs[i])[j]? = some x → (flat enc xs)[i * sz + j]? = some x
  | x :: xs, 0, _, j, v, hv => by
    have hj : j < (enc x).length := (List.getElem?_eq_some_iff.1 hv).1
    simp only [flat, List.flatMap_cons, Nat.zero_mul, Nat.zero_add]
    rw [List.getElem?_append_left hj]; exact hv
  | x :: xs, i + 1, hi, j, v, hv => by
    have := flat_at h xs i (by simpa using hi) j v (by simpa using hv)
    simp only [flat, List.flatMap_cons]
    rw [List.getElem?_append_right (by rw [h, Nat.succ_mul]; omega), h]
    rw [show (i + 1) * sz + j - sz = i * sz + j by rw [Nat.succ_mul]; omega]; exact this
theorem flat_back {α : Type} {enc : α → List Value} {sz : Nat} (h : ∀ x, (enc x).length = sz) : ∀ (xs : List α) (q : Nat) (v : Value), (flat enc xs)[q]? = some v → ∃ i, ∃ hi : i < xs.length, ∃ j, q = i * sz + j ∧ (enc xs[i])[j]? = some v
  | [], q, v, hv => by simp [flat] at hv
  | x :: xs, q, v, hv => by
    simp only [flat, List.flatMap_cons] at hv
    by_cases hq : q < sz
    · rw [List.getElem?_append_left (by rw [h]; exact hq)] at hv
      exact ⟨0, by simp, q, by simp, by simpa using hv⟩
    · rw [List.getElem?_append_right (by rw [h]; omega), h] at hv
      obtain ⟨i, hi, j, e, hj⟩ := flat_back h xs (q - sz) v hv
      exact ⟨i + 1, by simpa using hi, j, by rw [Nat.succ_mul]; omega, by simpa using hj⟩
/-- A slice's cells, for a law on append. -/
theorem Sl.cells {α : Type} {enc : α → List Value} {sz : Nat} (h : ∀ x, (enc x).length = sz) {B : Nat} {w : World} {p : Option Addr} {len cap : Nat} {xs : List α} (hs : Sl sz enc B w (.slice p len cap) xs) :
    ∀ ad, p = some ad → ∀ j u, (flat enc xs)[j]? = some u → w.cell? (ad.add j) = some u := by
  intro ad hp j u hu
  obtain ⟨p', len', cap', h1, h2, h3, h4, h5⟩ := hs
  cases h1
  obtain ⟨i, hi, k, rfl, hk⟩ := flat_back h xs j u hu
  obtain ⟨b, off, e1, e2, e3⟩ := h5 i hi
  rw [e1] at hp
  cases hp
  rw [WideShapes.add_plain, ← Nat.add_assoc]
  exact e3 k u hk
theorem Sl.none {α : Type} {enc : α → List Value} {sz : Nat} {B : Nat} {w : World} {len cap : Nat} {xs : List α} (hs : Sl sz enc B w (.slice none len cap) xs) : len = 0 := by
  obtain ⟨p', len', cap', h1, h2, h3, h4, h5⟩ := hs
  cases h1
  rw [h2]
  cases xs with
  | nil => rfl
  | cons x xs => obtain ⟨b, off, e1, _⟩ := h5 0 (by simp); cases e1
/-- A row of the call's own, as owned elements. -/
theorem own_of_flat {α : Type} {enc : α → List Value} {sz : Nat} (hen : ∀ x, (enc x).length = sz) {w : World} {base : Nat} {e : TypeId} {v : Value} {n : Nat} {xs : List α} (hn : n = xs.length) (h : w.ownsRow base e sz v n (flat enc xs)) : ∃ F, OwnSl sz enc w v xs F ∧ ∀ x ∈ F, base ≤ x := by
  subst hn
  obtain ⟨hl, h⟩ := h
  rcases h with ⟨rfl, h0⟩ | ⟨g, cap, cur, rfl, hb, hg, hn, hc, hs, ht⟩
  · exact ⟨[], ⟨none, 0, 0, rfl, h0.symm, Nat.le_refl _, Nat.zero_le _, .inl ⟨List.eq_nil_of_length_eq_zero h0, rfl⟩⟩, by simp⟩
  · refine ⟨[g], ⟨_, _, _, rfl, rfl, hn, hc, .inr ⟨g, 0, rfl, rfl, (Array.getElem?_eq_some_iff.1 hg).1, fun o => by simp [World.frozen?, hg], fun i hi j x hx => ?_⟩⟩, by simpa using hb⟩
    have e1 := flat_at hen xs i hi j x hx
    have hj : j < sz := by rw [← hen xs[i]]; exact (List.getElem?_eq_some_iff.1 hx).1
    have hle : i * sz + sz ≤ xs.length * sz := by rw [← Nat.succ_mul]; exact Nat.mul_le_mul_right _ hi
    rw [← ht, List.getElem?_take_of_lt (by omega)] at e1
    simp only [World.cell?, hg, Nat.zero_add]
    rw [← e1]; simp

/-- The lengths of the first k parts, together. -/
def upTo {α : Type} (L : List (Value × List α)) (k : Nat) : Nat := ((L.take k).map fun x => x.2.length).sum
def joined {α : Type} (L : List (Value × List α)) (k : Nat) : List α := (L.take k).flatMap (·.2)
theorem upTo_succ {α : Type} (L : List (Value × List α)) {k : Nat} (h : k < L.length) : upTo L (k + 1) = upTo L k + L[k].2.length := by
  unfold upTo; rw [List.take_succ_eq_append_getElem h, List.map_append, List.sum_append]; simp
theorem joined_succ {α : Type} (L : List (Value × List α)) {k : Nat} (h : k < L.length) : joined L (k + 1) = joined L k ++ L[k].2 := by
  unfold joined; rw [List.take_succ_eq_append_getElem h, List.flatMap_append]; simp
theorem upTo_le {α : Type} (L : List (Value × List α)) (k : Nat) : upTo L k ≤ upTo L L.length := by
  unfold upTo
  have := congrArg (fun l => (l.map fun x : Value × List α => x.2.length).sum) (List.take_append_drop k L)
  simp only [List.map_append, List.sum_append] at this
  rw [List.take_of_length_le (Nat.le_refl _)]; omega
theorem joined_length {α : Type} (L : List (Value × List α)) : ∀ k, (joined L k).length = upTo L k
  | k => by unfold joined upTo; rw [List.length_flatMap]
theorem run_append_nil0 (w : World) (t ty e : TypeId) (i : TypeInfo) (ht : Try.prog.underlying t = some (.slice e)) (hi : Try.prog.info? e = some i) (p : Option Addr) (c : Nat) :
    (Builtin.append_ #[t, t] ty #[.slice none 0 0, .slice p 0 c]).run Try.prog w = .ok (.slice none 0 0) w := by
  have hf : (Builtin.firstCells i.size 0 (.slice p 0 c)).run Try.prog w = .ok #[] w := by
    cases p with
    | none => exact run_firstCells_none w i.size 0 0 c
    | some a => exact run_firstCells_some w i.size 0 a 0 c [] (by simp) (by simp)
  simp [Builtin.append_, run_underlying ht, sizeOf, typeInfo, hi, Builtin.lenOf, hf]
theorem run_append_room0 (w : World) (t ty e : TypeId) (i : TypeInfo) (ht : Try.prog.underlying t = some (.slice e)) (hi : Try.prog.info? e = some i) (a : Addr) (n gc c : Nat) (hn : n ≤ gc) :
    (Builtin.append_ #[t, t] ty #[.slice (some a) n gc, .slice none 0 c]).run Try.prog w = .ok (.slice (some a) n gc) w := by
  have hf := run_firstCells_none (P := Try.prog) w i.size 0 0 c
  simp [Builtin.append_, run_underlying ht, sizeOf, typeInfo, hi, Builtin.lenOf, hf, hn, storeCells]

set_option maxRecDepth 100000 in
set_option maxHeartbeats 2000000 in
theorem growNode_any (n : Nat) (w : World) (h0 : 0 < n) (h1 : n ≤ 3000000) :
    Calls Try.prog 109 #[.slice none 0 0, .int .i64 n] w fun e w' => ∃ cap, e = .returned (.slice (some ⟨w.heap.size, 0, none⟩) 0 cap) ∧ n ≤ cap ∧ w'.ownsRow w.heap.size 64 2 (.slice (some ⟨w.heap.size, 0, none⟩) 0 cap) 0 [] ∧ Below w.heap.size w w' := by
  obtain ⟨i0, hi, hz0, hz1, hz2⟩ := info_parts infoNode
  have hold : (Builtin.firstCells i0.size 0 (.slice none 0 0)).run Try.prog w.drew = .ok ([] : List Value).toArray w.drew := run_firstCells_none w.drew i0.size 0 0 0
  have hrz : ∀ ty, (Builtin.append_ #[52, 3] ty #[.slice none 0 0, .int .i64 (n : Int)]).run Try.prog w =
      .ok (.slice (some ⟨w.heap.size, 0, none⟩) n (grownCap w n 0 64)) (w.drew.alloc (.cells (Builtin.zeroCells (Value.agg #[.string ⟨#[]⟩, .int .i64 0]).cells n ++ Builtin.zeroCells (Value.agg #[.string ⟨#[]⟩, .int .i64 0]).cells (grownCap w n 0 64 - n)) 64)) := fun ty => by
    have h := Lib.run_append_grow_zeros w 52 3 ty 64 i0 _ .i64 .i64 Try.underlying52 Try.underlying3 hi hz0 none 0 0 [] hold n h0 (by rw [hz1]; decide) (by omega) (by omega)
      (by rw [hz2]; omega)
      (by rw [Nat.zero_add, hz2, nextslicecap_zero h0]; omega)
    rw [Nat.zero_add] at h
    simpa using h
  have hGn : n ≤ grownCap w n 0 64 := grownCap_ge w _ _ _
  have hG63 : grownCap w n 0 64 ≤ maxLen := grownCap_le_maxLen w n 0 64 (by unfold maxLen; omega)
  obtain ⟨G, hG⟩ : ∃ G, G = grownCap w n 0 64 := ⟨_, rfl⟩
  rw [← hG] at hrz hGn hG63
  clear hold hG
  have HO := Lib.hid (World.ownsRow_made (e := 64) (size := 2) w.drew (Builtin.zeroCells (Value.agg #[.string ⟨#[]⟩, .int .i64 0]).cells n ++ Builtin.zeroCells (Value.agg #[.string ⟨#[]⟩, .int .i64 0]).cells (G - n)) G (Nat.le_refl _) hG63
    (by rw [Array.size_append, size_zeroCells, size_zeroCells, ← Nat.add_mul, Nat.add_sub_cancel' hGn]; rfl))
  have hG63' : G ≤ 9223372036854775807 := by unfold maxLen at hG63; omega
  go_enter Try.func109, Try.ntmps109
  go_wp2_with (at_builtin; refine Lib.wpList_append_run _ rfl _ _ _ _ rfl _ _ rfl rfl _ _ (hrz _) ?_)
  go_ret
  exact ⟨G, rfl, hGn, HO.out, (Below.refl _ w).drew.alloc (Nat.le_refl _) _⟩

theorem flat_oneNode (xs : List Nd) : ∀ u ∈ flat Nd.cells xs, u.oneCell' = true := by
  intro u hu
  obtain ⟨x, _, hx⟩ := List.mem_flatMap.1 hu
  simp [Nd.cells] at hx
  rcases hx with rfl | rfl <;> rfl

set_option maxHeartbeats 400000 in
theorem growNode_zero (w : World) :
    Calls Try.prog 109 #[.slice none 0 0, .int .i64 0] w fun e w' => e = .returned (.slice none 0 0) ∧ w = w' := by
  go_enter Try.func109, Try.ntmps109
  go_wp2_with fail
  go_ret
  exact ⟨rfl, rfl⟩

set_option maxRecDepth 100000 in
set_option maxHeartbeats 4000000 in
theorem concatNode_any (L : List (Value × List Nd)) (b cap B : Nat) (w : World) (hc : ∀ i (hi : i < L.length), w.cell? ⟨b, i, none⟩ = some L[i].1) (hs : ∀ i (hi : i < L.length), Sl 2 Nd.cells B w L[i].1 L[i].2) (hB : B ≤ w.heap.size)
    (hlen : L.length ≤ 10) (htot : upTo L L.length ≤ 3000000) (hbw : b < w.heap.size) :
    Calls Try.prog 88 #[.slice (some ⟨b, 0, none⟩) L.length cap] w fun e w' => ∃ v' F, e = .returned v' ∧ OwnSl 2 Nd.cells w' v' (joined L L.length) F ∧ (∀ x ∈ F, w.heap.size ≤ x) ∧ Below w.heap.size w w' := by
  obtain ⟨i0, hi, hz0, hz1, hz2⟩ := info_parts infoNode
  have HCC := Lib.hid hc
  have HSS := Lib.hid hs
  clear hc hs
  go_enter Try.func88, Try.ntmps88
  go_wp2_with fail
  go_loop [3, 11] (fun z i => ∃ (k m : Nat), k ≤ L.length ∧ i = .int .i64 k ∧ z = .int .i64 m ∧ m ≤ 3000000 ∧ RowKit.Hid (m = upTo L k)) (fun _ i => L.length - (intOf i).toNat)
  case atStart => exact ⟨0, 0, Nat.zero_le _, rfl, rfl, by omega, Lib.hid (by simp [upTo])⟩
  case round =>
    obtain ⟨k, m, hk, rfl, rfl, hm, HM⟩ := hrel
    by_cases hlt : k < L.length
    · have c0 := HCC.out k hlt
      obtain ⟨p, cp, hf⟩ := (HSS.out k hlt).form
      have hmx := (hf ▸ HSS.out k hlt : Sl 2 Nd.cells B w (.slice p L[k].2.length cp) L[k].2).max
      rw [hf] at c0
      have hu := upTo_succ L hlt
      have hul := upTo_le L (k + 1)
      have HN := Lib.hid (show m + L[k].2.length = upTo L (k + 1) by have := HM.out; omega)
      have hb2 : m + L[k].2.length ≤ 3000000 := by have := HM.out; omega
      obtain ⟨n, en⟩ : ∃ n, n = L[k].2.length := ⟨_, rfl⟩
      rw [← en] at c0 HN hb2
      clear en hf hu hul hmx
      go_wp2_with fail
      go_round
      case rel => exact ⟨k + 1, m + n, by omega, by go_num, by go_num, hb2, HN⟩
      case measure => simp [intOf]; omega
    · obtain rfl : k = L.length := by omega
      by_cases hz : m = 0
      · subst hz
        have hz' : ∀ i (hi : i < L.length), L[i].2.length = 0 := fun i hi => by
          have h1 := upTo_succ L hi
          have h2 := upTo_le L (i + 1)
          have h3 := HM.out
          omega
        have HZ := Lib.hid hz'
        clear hz'
        go_wp2_with fail
        refine (growNode_zero _).mono ?_
        rintro e w1 ⟨rfl, rfl⟩
        go_wp2_with fail
        go_loopw [6, 27] (fun ns i wr => ∃ k : Nat, k ≤ L.length ∧ i = .int .i64 k ∧ ns = .slice none 0 0 ∧ wr = w) (fun _ i _ => L.length - (intOf i).toNat)
        case atStart => exact ⟨0, Nat.zero_le _, rfl, rfl, rfl⟩
        case round =>
          obtain ⟨k, hk, rfl, rfl, rfl⟩ := hrel
          by_cases hlt2 : k < L.length
          · have c0 := HCC.out k hlt2
            obtain ⟨p, cp, hf⟩ := (HSS.out k hlt2).form
            rw [hf, HZ.out k hlt2] at c0
            clear hf
            go_wp2_with (at_builtin; refine Lib.wpList_append_run _ rfl _ _ _ _ rfl _ _ rfl rfl _ _ (run_append_nil0 _ 52 _ 64 i0 Try.underlying52 hi p cp) ?_)
            go_roundw
            case rel => exact ⟨k + 1, by omega, by go_num, rfl, trivial⟩
            case measure => simp [intOf]; omega
          · obtain rfl : k = L.length := by omega
            go_wp2_with fail
            go_ret
            have hj : joined L L.length = [] := List.eq_nil_of_length_eq_zero (by rw [joined_length]; exact HM.out.symm)
            exact ⟨_, [], rfl, by rw [hj]; exact ⟨none, 0, 0, rfl, rfl, Nat.le_refl _, Nat.zero_le _, .inl ⟨rfl, rfl⟩⟩, by simp, Below.refl _ _⟩
      · have hmp : 0 < m := by omega
        go_wp2_with fail
        refine (growNode_any m _ hmp hm).mono ?_
        rintro e w1 ⟨gc, rfl, hgc, hown, hb1⟩
        have HO := Lib.hid hown
        have HB1 := Lib.hid hb1
        have hw1 : w.heap.size < w1.heap.size := by
          obtain ⟨_, h2⟩ := hown
          rcases h2 with ⟨h2, _⟩ | ⟨g, cp, cur, h2, hbb, hg, _⟩
          · cases h2
          · cases h2; exact (Array.getElem?_eq_some_iff.1 hg).1
        clear hown hb1
        go_wp2_with fail
        go_loopw [6, 27] (fun ns i wr => ∃ (k n : Nat), k ≤ L.length ∧ i = .int .i64 k ∧ ns = .slice (some ⟨w.heap.size, 0, none⟩) n gc ∧ RowKit.Hid (n = upTo L k) ∧ wr.ownsRow w.heap.size 64 2 (.slice (some ⟨w.heap.size, 0, none⟩) n gc) n (flat Nd.cells (joined L k)) ∧ Below w.heap.size w wr) (fun _ i _ => L.length - (intOf i).toNat)
        case atStart => exact ⟨0, 0, Nat.zero_le _, rfl, rfl, Lib.hid (by simp [upTo]), HO.out, HB1.out⟩
        case round =>
          obtain ⟨k, n, hk, rfl, rfl, hn, hown, hbw2⟩ := hrel
          have hsz := hbw2.size
          have HB := Lib.hid hbw2
          have HOW := Lib.hid hown
          clear hbw2 hown
          by_cases hlt2 : k < L.length
          · have c0 := keepc HB.out hbw (HCC.out k hlt2)
            have hsl := (HSS.out k hlt2).below (HB.out.mono hB)
            obtain ⟨p, cp, hf⟩ := (HSS.out k hlt2).form
            rw [hf] at c0 hsl
            have hu := upTo_succ L hlt2
            have hul := upTo_le L (k + 1)
            have hfit : n + L[k].2.length ≤ gc := by have := hn.out; have := HM.out; omega
            have HN := Lib.hid (show n + L[k].2.length = upTo L (k + 1) by have := hn.out; omega)
            have HJ := Lib.hid (show flat Nd.cells (joined L k) ++ flat Nd.cells L[k].2 = flat Nd.cells (joined L (k + 1)) by rw [joined_succ L hlt2, flat_append])
            have HS := Lib.hid hsl
            have HFL := Lib.hid (flat_length (enc := Nd.cells) (sz := 2) (fun _ => rfl) L[k].2)
            have HCE := Lib.hid (Sl.cells (sz := 2) (enc := Nd.cells) (fun _ => rfl) hsl)
            have HZE := Lib.hid (show p = none → L[k].2.length = 0 from fun h => by subst h; exact hsl.none)
            obtain ⟨ys, ey⟩ : ∃ ys, ys = L[k].2 := ⟨_, rfl⟩
            rw [← ey] at c0 hfit HN HJ HFL HCE HZE
            clear hsl HS ey hf hu hul
            cases p with
            | none =>
              have hy0 := HZE.out rfl
              obtain rfl : ys = [] := List.eq_nil_of_length_eq_zero hy0
              clear hy0
              go_wp2_with (at_builtin; refine Lib.wpList_append_run _ rfl _ _ _ _ rfl _ _ rfl rfl _ _ (run_append_room0 _ 52 _ 64 i0 Try.underlying52 hi _ n gc cp (by simpa using hfit)) ?_)
              have HO2 := Lib.hid (show wr.ownsRow w.heap.size 64 2 (.slice (some ⟨w.heap.size, 0, none⟩) n gc) n (flat Nd.cells (joined L (k + 1))) by rw [← HJ.out]; simpa [flat] using HOW.out)
              go_roundw
              case rel => exact ⟨k + 1, n, by omega, by go_num, rfl, HN, HO2.out, HB.out⟩
              case measure => simp [intOf]; omega
            | some pp =>
              go_wp2_with (at_builtin; refine wpList_append_fits_any _ rfl _ _ 52 rfl w.heap.size 64 i0 2 Try.underlying52 hi hz1 w.heap.size n gc _ rfl HOW.out (some pp) ys.length cp (flat Nd.cells ys) rfl HFL.out (fun h => by cases h) HCE.out (flat_oneNode ys) hfit ?_)
              intro w2 hown2 hgrow
              have HB2 := Lib.hid (HB.out.grown hgrow hsz (fun q hq => by cases hq; exact Nat.le_refl _))
              have HO2 := Lib.hid (show w2.ownsRow w.heap.size 64 2 (.slice (some ⟨w.heap.size, 0, none⟩) (n + ys.length) gc) (n + ys.length) (flat Nd.cells (joined L (k + 1))) by rw [← HJ.out]; exact hown2)
              clear hown2 hgrow
              go_wp2_with fail
              go_roundw
              case rel => exact ⟨k + 1, n + ys.length, by omega, by go_num, rfl, HN, HO2.out, HB2.out⟩
              case measure => simp [intOf]; omega
          · obtain rfl : k = L.length := by omega
            go_wp2_with fail
            go_ret
            obtain ⟨F, h1, h2⟩ := own_of_flat (enc := Nd.cells) (sz := 2) (fun _ => rfl) (n := n) (xs := joined L L.length) (by rw [joined_length]; exact hn.out) HOW.out
            exact ⟨_, F, rfl, h1, h2, HB.out⟩

set_option maxRecDepth 100000 in
set_option maxHeartbeats 2000000 in
theorem growEdge_any (n : Nat) (w : World) (h0 : 0 < n) (h1 : n ≤ 3000000) :
    Calls Try.prog 114 #[.slice none 0 0, .int .i64 n] w fun e w' => ∃ cap, e = .returned (.slice (some ⟨w.heap.size, 0, none⟩) 0 cap) ∧ n ≤ cap ∧ w'.ownsRow w.heap.size 57 4 (.slice (some ⟨w.heap.size, 0, none⟩) 0 cap) 0 [] ∧ Below w.heap.size w w' := by
  obtain ⟨i0, hi, hz0, hz1, hz2⟩ := info_parts infoEdge
  have hold : (Builtin.firstCells i0.size 0 (.slice none 0 0)).run Try.prog w.drew = .ok ([] : List Value).toArray w.drew := run_firstCells_none w.drew i0.size 0 0 0
  have hrz : ∀ ty, (Builtin.append_ #[53, 3] ty #[.slice none 0 0, .int .i64 (n : Int)]).run Try.prog w =
      .ok (.slice (some ⟨w.heap.size, 0, none⟩) n (grownCap w n 0 57)) (w.drew.alloc (.cells (Builtin.zeroCells (Value.agg #[.int .i64 0, .int .i64 0, .string ⟨#[]⟩, .int .i64 0]).cells n ++ Builtin.zeroCells (Value.agg #[.int .i64 0, .int .i64 0, .string ⟨#[]⟩, .int .i64 0]).cells (grownCap w n 0 57 - n)) 57)) := fun ty => by
    have h := Lib.run_append_grow_zeros w 53 3 ty 57 i0 _ .i64 .i64 Try.underlying53 Try.underlying3 hi hz0 none 0 0 [] hold n h0 (by rw [hz1]; decide) (by omega) (by omega)
      (by rw [hz2]; omega)
      (by rw [Nat.zero_add, hz2, nextslicecap_zero h0]; omega)
    rw [Nat.zero_add] at h
    simpa using h
  have hGn : n ≤ grownCap w n 0 57 := grownCap_ge w _ _ _
  have hG63 : grownCap w n 0 57 ≤ maxLen := grownCap_le_maxLen w n 0 57 (by unfold maxLen; omega)
  obtain ⟨G, hG⟩ : ∃ G, G = grownCap w n 0 57 := ⟨_, rfl⟩
  rw [← hG] at hrz hGn hG63
  clear hold hG
  have HO := Lib.hid (World.ownsRow_made (e := 57) (size := 4) w.drew (Builtin.zeroCells (Value.agg #[.int .i64 0, .int .i64 0, .string ⟨#[]⟩, .int .i64 0]).cells n ++ Builtin.zeroCells (Value.agg #[.int .i64 0, .int .i64 0, .string ⟨#[]⟩, .int .i64 0]).cells (G - n)) G (Nat.le_refl _) hG63
    (by rw [Array.size_append, size_zeroCells, size_zeroCells, ← Nat.add_mul, Nat.add_sub_cancel' hGn]; rfl))
  have hG63' : G ≤ 9223372036854775807 := by unfold maxLen at hG63; omega
  go_enter Try.func114, Try.ntmps114
  go_wp2_with (at_builtin; refine Lib.wpList_append_run _ rfl _ _ _ _ rfl _ _ rfl rfl _ _ (hrz _) ?_)
  go_ret
  exact ⟨G, rfl, hGn, HO.out, (Below.refl _ w).drew.alloc (Nat.le_refl _) _⟩

theorem flat_oneEdge (xs : List Ed) : ∀ u ∈ flat Ed.cells xs, u.oneCell' = true := by
  intro u hu
  obtain ⟨x, _, hx⟩ := List.mem_flatMap.1 hu
  simp [Ed.cells] at hx
  rcases hx with rfl | rfl | rfl | rfl <;> rfl

set_option maxHeartbeats 400000 in
theorem growEdge_zero (w : World) :
    Calls Try.prog 114 #[.slice none 0 0, .int .i64 0] w fun e w' => e = .returned (.slice none 0 0) ∧ w = w' := by
  go_enter Try.func114, Try.ntmps114
  go_wp2_with fail
  go_ret
  exact ⟨rfl, rfl⟩

set_option maxRecDepth 100000 in
set_option maxHeartbeats 4000000 in
theorem concatEdge_any (L : List (Value × List Ed)) (b cap B : Nat) (w : World) (hc : ∀ i (hi : i < L.length), w.cell? ⟨b, i, none⟩ = some L[i].1) (hs : ∀ i (hi : i < L.length), Sl 4 Ed.cells B w L[i].1 L[i].2) (hB : B ≤ w.heap.size)
    (hlen : L.length ≤ 10) (htot : upTo L L.length ≤ 3000000) (hbw : b < w.heap.size) :
    Calls Try.prog 108 #[.slice (some ⟨b, 0, none⟩) L.length cap] w fun e w' => ∃ v' F, e = .returned v' ∧ OwnSl 4 Ed.cells w' v' (joined L L.length) F ∧ (∀ x ∈ F, w.heap.size ≤ x) ∧ Below w.heap.size w w' := by
  obtain ⟨i0, hi, hz0, hz1, hz2⟩ := info_parts infoEdge
  have HCC := Lib.hid hc
  have HSS := Lib.hid hs
  clear hc hs
  go_enter Try.func108, Try.ntmps108
  go_wp2_with fail
  go_loop [3, 11] (fun z i => ∃ (k m : Nat), k ≤ L.length ∧ i = .int .i64 k ∧ z = .int .i64 m ∧ m ≤ 3000000 ∧ RowKit.Hid (m = upTo L k)) (fun _ i => L.length - (intOf i).toNat)
  case atStart => exact ⟨0, 0, Nat.zero_le _, rfl, rfl, by omega, Lib.hid (by simp [upTo])⟩
  case round =>
    obtain ⟨k, m, hk, rfl, rfl, hm, HM⟩ := hrel
    by_cases hlt : k < L.length
    · have c0 := HCC.out k hlt
      obtain ⟨p, cp, hf⟩ := (HSS.out k hlt).form
      have hmx := (hf ▸ HSS.out k hlt : Sl 4 Ed.cells B w (.slice p L[k].2.length cp) L[k].2).max
      rw [hf] at c0
      have hu := upTo_succ L hlt
      have hul := upTo_le L (k + 1)
      have HN := Lib.hid (show m + L[k].2.length = upTo L (k + 1) by have := HM.out; omega)
      have hb2 : m + L[k].2.length ≤ 3000000 := by have := HM.out; omega
      obtain ⟨n, en⟩ : ∃ n, n = L[k].2.length := ⟨_, rfl⟩
      rw [← en] at c0 HN hb2
      clear en hf hu hul hmx
      go_wp2_with fail
      go_round
      case rel => exact ⟨k + 1, m + n, by omega, by go_num, by go_num, hb2, HN⟩
      case measure => simp [intOf]; omega
    · obtain rfl : k = L.length := by omega
      by_cases hz : m = 0
      · subst hz
        have hz' : ∀ i (hi : i < L.length), L[i].2.length = 0 := fun i hi => by
          have h1 := upTo_succ L hi
          have h2 := upTo_le L (i + 1)
          have h3 := HM.out
          omega
        have HZ := Lib.hid hz'
        clear hz'
        go_wp2_with fail
        refine (growEdge_zero _).mono ?_
        rintro e w1 ⟨rfl, rfl⟩
        go_wp2_with fail
        go_loopw [6, 27] (fun ns i wr => ∃ k : Nat, k ≤ L.length ∧ i = .int .i64 k ∧ ns = .slice none 0 0 ∧ wr = w) (fun _ i _ => L.length - (intOf i).toNat)
        case atStart => exact ⟨0, Nat.zero_le _, rfl, rfl, rfl⟩
        case round =>
          obtain ⟨k, hk, rfl, rfl, rfl⟩ := hrel
          by_cases hlt2 : k < L.length
          · have c0 := HCC.out k hlt2
            obtain ⟨p, cp, hf⟩ := (HSS.out k hlt2).form
            rw [hf, HZ.out k hlt2] at c0
            clear hf
            go_wp2_with (at_builtin; refine Lib.wpList_append_run _ rfl _ _ _ _ rfl _ _ rfl rfl _ _ (run_append_nil0 _ 53 _ 57 i0 Try.underlying53 hi p cp) ?_)
            go_roundw
            case rel => exact ⟨k + 1, by omega, by go_num, rfl, trivial⟩
            case measure => simp [intOf]; omega
          · obtain rfl : k = L.length := by omega
            go_wp2_with fail
            go_ret
            have hj : joined L L.length = [] := List.eq_nil_of_length_eq_zero (by rw [joined_length]; exact HM.out.symm)
            exact ⟨_, [], rfl, by rw [hj]; exact ⟨none, 0, 0, rfl, rfl, Nat.le_refl _, Nat.zero_le _, .inl ⟨rfl, rfl⟩⟩, by simp, Below.refl _ _⟩
      · have hmp : 0 < m := by omega
        go_wp2_with fail
        refine (growEdge_any m _ hmp hm).mono ?_
        rintro e w1 ⟨gc, rfl, hgc, hown, hb1⟩
        have HO := Lib.hid hown
        have HB1 := Lib.hid hb1
        have hw1 : w.heap.size < w1.heap.size := by
          obtain ⟨_, h2⟩ := hown
          rcases h2 with ⟨h2, _⟩ | ⟨g, cp, cur, h2, hbb, hg, _⟩
          · cases h2
          · cases h2; exact (Array.getElem?_eq_some_iff.1 hg).1
        clear hown hb1
        go_wp2_with fail
        go_loopw [6, 27] (fun ns i wr => ∃ (k n : Nat), k ≤ L.length ∧ i = .int .i64 k ∧ ns = .slice (some ⟨w.heap.size, 0, none⟩) n gc ∧ RowKit.Hid (n = upTo L k) ∧ wr.ownsRow w.heap.size 57 4 (.slice (some ⟨w.heap.size, 0, none⟩) n gc) n (flat Ed.cells (joined L k)) ∧ Below w.heap.size w wr) (fun _ i _ => L.length - (intOf i).toNat)
        case atStart => exact ⟨0, 0, Nat.zero_le _, rfl, rfl, Lib.hid (by simp [upTo]), HO.out, HB1.out⟩
        case round =>
          obtain ⟨k, n, hk, rfl, rfl, hn, hown, hbw2⟩ := hrel
          have hsz := hbw2.size
          have HB := Lib.hid hbw2
          have HOW := Lib.hid hown
          clear hbw2 hown
          by_cases hlt2 : k < L.length
          · have c0 := keepc HB.out hbw (HCC.out k hlt2)
            have hsl := (HSS.out k hlt2).below (HB.out.mono hB)
            obtain ⟨p, cp, hf⟩ := (HSS.out k hlt2).form
            rw [hf] at c0 hsl
            have hu := upTo_succ L hlt2
            have hul := upTo_le L (k + 1)
            have hfit : n + L[k].2.length ≤ gc := by have := hn.out; have := HM.out; omega
            have HN := Lib.hid (show n + L[k].2.length = upTo L (k + 1) by have := hn.out; omega)
            have HJ := Lib.hid (show flat Ed.cells (joined L k) ++ flat Ed.cells L[k].2 = flat Ed.cells (joined L (k + 1)) by rw [joined_succ L hlt2, flat_append])
            have HS := Lib.hid hsl
            have HFL := Lib.hid (flat_length (enc := Ed.cells) (sz := 4) (fun _ => rfl) L[k].2)
            have HCE := Lib.hid (Sl.cells (sz := 4) (enc := Ed.cells) (fun _ => rfl) hsl)
            have HZE := Lib.hid (show p = none → L[k].2.length = 0 from fun h => by subst h; exact hsl.none)
            obtain ⟨ys, ey⟩ : ∃ ys, ys = L[k].2 := ⟨_, rfl⟩
            rw [← ey] at c0 hfit HN HJ HFL HCE HZE
            clear hsl HS ey hf hu hul
            cases p with
            | none =>
              have hy0 := HZE.out rfl
              obtain rfl : ys = [] := List.eq_nil_of_length_eq_zero hy0
              clear hy0
              go_wp2_with (at_builtin; refine Lib.wpList_append_run _ rfl _ _ _ _ rfl _ _ rfl rfl _ _ (run_append_room0 _ 53 _ 57 i0 Try.underlying53 hi _ n gc cp (by simpa using hfit)) ?_)
              have HO2 := Lib.hid (show wr.ownsRow w.heap.size 57 4 (.slice (some ⟨w.heap.size, 0, none⟩) n gc) n (flat Ed.cells (joined L (k + 1))) by rw [← HJ.out]; simpa [flat] using HOW.out)
              go_roundw
              case rel => exact ⟨k + 1, n, by omega, by go_num, rfl, HN, HO2.out, HB.out⟩
              case measure => simp [intOf]; omega
            | some pp =>
              go_wp2_with (at_builtin; refine wpList_append_fits_any _ rfl _ _ 53 rfl w.heap.size 57 i0 4 Try.underlying53 hi hz1 w.heap.size n gc _ rfl HOW.out (some pp) ys.length cp (flat Ed.cells ys) rfl HFL.out (fun h => by cases h) HCE.out (flat_oneEdge ys) hfit ?_)
              intro w2 hown2 hgrow
              have HB2 := Lib.hid (HB.out.grown hgrow hsz (fun q hq => by cases hq; exact Nat.le_refl _))
              have HO2 := Lib.hid (show w2.ownsRow w.heap.size 57 4 (.slice (some ⟨w.heap.size, 0, none⟩) (n + ys.length) gc) (n + ys.length) (flat Ed.cells (joined L (k + 1))) by rw [← HJ.out]; exact hown2)
              clear hown2 hgrow
              go_wp2_with fail
              go_roundw
              case rel => exact ⟨k + 1, n + ys.length, by omega, by go_num, rfl, HN, HO2.out, HB2.out⟩
              case measure => simp [intOf]; omega
          · obtain rfl : k = L.length := by omega
            go_wp2_with fail
            go_ret
            obtain ⟨F, h1, h2⟩ := own_of_flat (enc := Ed.cells) (sz := 4) (fun _ => rfl) (n := n) (xs := joined L L.length) (by rw [joined_length]; exact hn.out) HOW.out
            exact ⟨_, F, rfl, h1, h2, HB.out⟩
end Go.Proofs.Ytchhobphockhhaa
