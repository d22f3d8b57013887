/- slices.Grow of nil and slices.Concat at texts. -/
import Derived.Test.YtfdkmngkpihpbaaConcat
import Derived.Test.YtfdkmngkpihpbaaTb
namespace Go.Proofs.Ytfdkmngkpihpbaa
open Go.RowKit

set_option maxRecDepth 100000 in
set_option maxHeartbeats 2000000 in
theorem growStr_any (n : Nat) (w : World) (h0 : 0 < n) (h1 : n ≤ 3000000) :
    Calls Try.prog 112 #[.slice none 0 0, .int .i64 n] w fun e w' => ∃ cap, e = .returned (.slice (some ⟨w.heap.size, 0, none⟩) 0 cap) ∧ n ≤ cap ∧ w'.ownsRow w.heap.size 9 1 (.slice (some ⟨w.heap.size, 0, none⟩) 0 cap) 0 [] ∧ Below w.heap.size w w' := by
  obtain ⟨i0, hi, hz0, hz1, hz2⟩ := info_parts infoStrT
  have hold : (Builtin.firstCells i0.size 0 (.slice none 0 0)).run Try.prog w.drew = .ok ([] : List Value).toArray w.drew := run_firstCells_none w.drew i0.size 0 0 0
  have hrz : ∀ ty, (Builtin.append_ #[30, 3] ty #[.slice none 0 0, .int .i64 (n : Int)]).run Try.prog w =
      .ok (.slice (some ⟨w.heap.size, 0, none⟩) n (grownCap w n 0 9)) (w.drew.alloc (.cells (Builtin.zeroCells (Value.string ⟨#[]⟩).cells n ++ Builtin.zeroCells (Value.string ⟨#[]⟩).cells (grownCap w n 0 9 - n)) 9)) := fun ty => by
    have h := Lib.run_append_grow_zeros w 30 3 ty 9 i0 _ .i64 .i64 Try.underlying30 Try.underlying3 hi hz0 none 0 0 [] hold n h0 (by rw [hz1]; decide) (by omega) (by omega)
      (by rw [hz2]; omega)
      (by rw [Nat.zero_add, hz2, nextslicecap_zero h0]; omega)
    rw [Nat.zero_add] at h
    simpa using h
  have hGn : n ≤ grownCap w n 0 9 := grownCap_ge w _ _ _
  have hG63 : grownCap w n 0 9 ≤ maxLen := grownCap_le_maxLen w n 0 9 (by unfold maxLen; omega)
  obtain ⟨G, hG⟩ : ∃ G, G = grownCap w n 0 9 := ⟨_, rfl⟩
  rw [← hG] at hrz hGn hG63
  clear hold hG
  have HO := Lib.hid (World.ownsRow_made (e := 9) (size := 1) w.drew (Builtin.zeroCells (Value.string ⟨#[]⟩).cells n ++ Builtin.zeroCells (Value.string ⟨#[]⟩).cells (G - n)) G (Nat.le_refl _) hG63
    (by rw [Array.size_append, size_zeroCells, size_zeroCells, ← Nat.add_mul, Nat.add_sub_cancel' hGn]; rfl))
  have hG63' : G ≤ 9223372036854775807 := by unfold maxLen at hG63; omega
  go_enter Try.func112, Try.ntmps112
  go_wp2_with (at_builtin; refine Lib.wpList_append_run _ rfl _ _ _ _ rfl _ _ rfl rfl _ _ (hrz _) ?_)
  go_ret
  exact ⟨G, rfl, hGn, HO.out, (Below.refl _ w).drew.alloc (Nat.le_refl _) _⟩

theorem flat_oneStr (xs : List ByteArray) : ∀ u ∈ flat strCells xs, u.oneCell' = true := by
  intro u hu
  obtain ⟨x, _, hx⟩ := List.mem_flatMap.1 hu
  simp [strCells] at hx
  subst hx; rfl

set_option maxHeartbeats 400000 in
theorem growStr_zero (w : World) :
    Calls Try.prog 112 #[.slice none 0 0, .int .i64 0] w fun e w' => e = .returned (.slice none 0 0) ∧ w = w' := by
  go_enter Try.func112, Try.ntmps112
  go_wp2_with fail
  go_ret
  exact ⟨rfl, rfl⟩

set_option maxRecDepth 100000 in
set_option maxHeartbeats 4000000 in
theorem concatStr_any (L : List (Value × List ByteArray)) (b cap B : Nat) (w : World) (hc : ∀ i (hi : i < L.length), w.cell? ⟨b, i, none⟩ = some L[i].1) (hs : ∀ i (hi : i < L.length), Sl 1 strCells B w L[i].1 L[i].2) (hB : B ≤ w.heap.size)
    (hlen : L.length ≤ 10) (htot : upTo L L.length ≤ 3000000) (hbw : b < w.heap.size) :
    Calls Try.prog 91 #[.slice (some ⟨b, 0, none⟩) L.length cap] w fun e w' => ∃ v' F, e = .returned v' ∧ OwnSl 1 strCells w' v' (joined L L.length) F ∧ (∀ x ∈ F, w.heap.size ≤ x) ∧ Below w.heap.size w w' := by
  obtain ⟨i0, hi, hz0, hz1, hz2⟩ := info_parts infoStrT
  have HCC := Lib.hid hc
  have HSS := Lib.hid hs
  clear hc hs
  go_enter Try.func91, Try.ntmps91
  go_wp2_with fail
  go_loop [3, 11] (fun z i => ∃ (k m : Nat), k ≤ L.length ∧ i = .int .i64 k ∧ z = .int .i64 m ∧ m ≤ 3000000 ∧ RowKit.Hid (m = upTo L k)) (fun _ i => L.length - (intOf i).toNat)
  case atStart => exact ⟨0, 0, Nat.zero_le _, rfl, rfl, by omega, Lib.hid (by simp [upTo])⟩
  case round =>
    obtain ⟨k, m, hk, rfl, rfl, hm, HM⟩ := hrel
    by_cases hlt : k < L.length
    · have c0 := HCC.out k hlt
      obtain ⟨p, cp, hf⟩ := (HSS.out k hlt).form
      have hmx := (hf ▸ HSS.out k hlt : Sl 1 strCells B w (.slice p L[k].2.length cp) L[k].2).max
      rw [hf] at c0
      have hu := upTo_succ L hlt
      have hul := upTo_le L (k + 1)
      have HN := Lib.hid (show m + L[k].2.length = upTo L (k + 1) by have := HM.out; omega)
      have hb2 : m + L[k].2.length ≤ 3000000 := by have := HM.out; omega
      obtain ⟨n, en⟩ : ∃ n, n = L[k].2.length := ⟨_, rfl⟩
      rw [← en] at c0 HN hb2
      clear en hf hu hul hmx
      go_wp2_with fail
      go_round
      case rel => exact ⟨k + 1, m + n, by omega, by go_num, by go_num, hb2, HN⟩
      case measure => simp [intOf]; omega
    · obtain rfl : k = L.length := by omega
      by_cases hz : m = 0
      · subst hz
        have hz' : ∀ i (hi : i < L.length), L[i].2.length = 0 := fun i hi => by
          have h1 := upTo_succ L hi
          have h2 := upTo_le L (i + 1)
          have h3 := HM.out
          omega
        have HZ := Lib.hid hz'
        clear hz'
        go_wp2_with fail
        refine (growStr_zero _).mono ?_
        rintro e w1 ⟨rfl, rfl⟩
        go_wp2_with fail
        go_loopw [6, 27] (fun ns i wr => ∃ k : Nat, k ≤ L.length ∧ i = .int .i64 k ∧ ns = .slice none 0 0 ∧ wr = w) (fun _ i _ => L.length - (intOf i).toNat)
        case atStart => exact ⟨0, Nat.zero_le _, rfl, rfl, rfl⟩
        case round =>
          obtain ⟨k, hk, rfl, rfl, rfl⟩ := hrel
          by_cases hlt2 : k < L.length
          · have c0 := HCC.out k hlt2
            obtain ⟨p, cp, hf⟩ := (HSS.out k hlt2).form
            rw [hf, HZ.out k hlt2] at c0
            clear hf
            go_wp2_with (at_builtin; refine Lib.wpList_append_run _ rfl _ _ _ _ rfl _ _ rfl rfl _ _ (run_append_nil0 _ 30 _ 9 i0 Try.underlying30 hi p cp) ?_)
            go_roundw
            case rel => exact ⟨k + 1, by omega, by go_num, rfl, trivial⟩
            case measure => simp [intOf]; omega
          · obtain rfl : k = L.length := by omega
            go_wp2_with fail
            go_ret
            have hj : joined L L.length = [] := List.eq_nil_of_length_eq_zero (by rw [joined_length]; exact HM.out.symm)
            exact ⟨_, [], rfl, by rw [hj]; exact ⟨none, 0, 0, rfl, rfl, Nat.le_refl _, Nat.zero_le _, .inl ⟨rfl, rfl⟩⟩, by simp, Below.refl _ _⟩
      · have hmp : 0 < m := by omega
        go_wp2_with fail
        refine (growStr_any m _ hmp hm).mono ?_
        rintro e w1 ⟨gc, rfl, hgc, hown, hb1⟩
        have HO := Lib.hid hown
        have HB1 := Lib.hid hb1
        have hw1 : w.heap.size < w1.heap.size := by
          obtain ⟨_, h2⟩ := hown
          rcases h2 with ⟨h2, _⟩ | ⟨g, cp, cur, h2, hbb, hg, _⟩
          · cases h2
          · cases h2; exact (Array.getElem?_eq_some_iff.1 hg).1
        clear hown hb1
        go_wp2_with fail
        go_loopw [6, 27] (fun ns i wr => ∃ (k n : Nat), k ≤ L.length ∧ i = .int .i64 k ∧ ns = .slice (some ⟨w.heap.size, 0, none⟩) n gc ∧ RowKit.Hid (n = upTo L k) ∧ wr.ownsRow w.heap.size 9 1 (.slice (some ⟨w.heap.size, 0, none⟩) n gc) n (flat strCells (joined L k)) ∧ Below w.heap.size w wr) (fun _ i _ => L.length - (intOf i).toNat)
        case atStart => exact ⟨0, 0, Nat.zero_le _, rfl, rfl, Lib.hid (by simp [upTo]), HO.out, HB1.out⟩
        case round =>
          obtain ⟨k, n, hk, rfl, rfl, hn, hown, hbw2⟩ := hrel
          have hsz := hbw2.size
          have HB := Lib.hid hbw2
          have HOW := Lib.hid hown
          clear hbw2 hown
          by_cases hlt2 : k < L.length
          · have c0 := keepc HB.out hbw (HCC.out k hlt2)
            have hsl := (HSS.out k hlt2).below (HB.out.mono hB)
            obtain ⟨p, cp, hf⟩ := (HSS.out k hlt2).form
            rw [hf] at c0 hsl
            have hu := upTo_succ L hlt2
            have hul := upTo_le L (k + 1)
            have hfit : n + L[k].2.length ≤ gc := by have := hn.out; have := HM.out; omega
            have HN := Lib.hid (show n + L[k].2.length = upTo L (k + 1) by have := hn.out; omega)
            have HJ := Lib.hid (show flat strCells (joined L k) ++ flat strCells L[k].2 = flat strCells (joined L (k + 1)) by rw [joined_succ L hlt2, flat_append])
            have HS := Lib.hid hsl
            have HFL := Lib.hid (flat_length (enc := strCells) (sz := 1) (fun _ => rfl) L[k].2)
            have HCE := Lib.hid (Sl.cells (sz := 1) (enc := strCells) (fun _ => rfl) hsl)
            have HZE := Lib.hid (show p = none → L[k].2.length = 0 from fun h => by subst h; exact hsl.atNone)
            obtain ⟨ys, ey⟩ : ∃ ys, ys = L[k].2 := ⟨_, rfl⟩
            rw [← ey] at c0 hfit HN HJ HFL HCE HZE
            clear hsl HS ey hf hu hul
            cases p with
            | none =>
              have hy0 := HZE.out rfl
              obtain rfl : ys = [] := List.eq_nil_of_length_eq_zero hy0
              clear hy0
              go_wp2_with (at_builtin; refine Lib.wpList_append_run _ rfl _ _ _ _ rfl _ _ rfl rfl _ _ (run_append_room0 _ 30 _ 9 i0 Try.underlying30 hi _ n gc cp (by simpa using hfit)) ?_)
              have HO2 := Lib.hid (show wr.ownsRow w.heap.size 9 1 (.slice (some ⟨w.heap.size, 0, none⟩) n gc) n (flat strCells (joined L (k + 1))) by rw [← HJ.out]; simpa [flat] using HOW.out)
              go_roundw
              case rel => exact ⟨k + 1, n, by omega, by go_num, rfl, HN, HO2.out, HB.out⟩
              case measure => simp [intOf]; omega
            | some pp =>
              go_wp2_with (at_builtin; refine wpList_append_fits_any _ rfl _ _ 30 rfl w.heap.size 9 i0 1 Try.underlying30 hi hz1 w.heap.size n gc _ rfl HOW.out (some pp) ys.length cp (flat strCells ys) rfl HFL.out (fun h => by cases h) HCE.out (flat_oneStr ys) hfit ?_)
              intro w2 hown2 hgrow
              have HB2 := Lib.hid (HB.out.grown hgrow hsz (fun q hq => by cases hq; exact Nat.le_refl _))
              have HO2 := Lib.hid (show w2.ownsRow w.heap.size 9 1 (.slice (some ⟨w.heap.size, 0, none⟩) (n + ys.length) gc) (n + ys.length) (flat strCells (joined L (k + 1))) by rw [← HJ.out]; exact hown2)
              clear hown2 hgrow
              go_wp2_with fail
              go_roundw
              case rel => exact ⟨k + 1, n + ys.length, by omega, by go_num, rfl, HN, HO2.out, HB2.out⟩
              case measure => simp [intOf]; omega
          · obtain rfl : k = L.length := by omega
            go_wp2_with fail
            go_ret
            obtain ⟨F, h1, h2⟩ := own_of_flat (enc := strCells) (sz := 1) (fun _ => rfl) (n := n) (xs := joined L L.length) (by rw [joined_length]; exact hn.out) HOW.out
            exact ⟨_, F, rfl, h1, h2, HB.out⟩
end Go.Proofs.Ytfdkmngkpihpbaa
