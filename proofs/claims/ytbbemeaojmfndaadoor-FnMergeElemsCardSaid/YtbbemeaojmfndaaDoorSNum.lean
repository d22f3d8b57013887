/- spec.l14Num, spec.l2Atom. -/
import Derived.Test.YtbbemeaojmfndaaDoorM0q0p1
import Derived.Deep.DeepCutAuto
namespace Go.Proofs.YtbbemeaojmfndaaDoor
open Go.RowKit

theorem len_toList (s : ByteArray) : s.data.toList.length = s.size := Array.length_toList
theorem u8_eq {c d : UInt8} (h : (c.toNat : Int) = (d.toNat : Int)) : c = d := UInt8.toNat_inj.1 (by omega)
theorem head_at {s : ByteArray} (h : 0 < s.size) : s.data.toList = s[0] :: s.data.toList.tail := by
  have : s.data.toList ≠ [] := fun e => by have h2 : s.size = 0 := by rw [← len_toList, e]; rfl
                                           omega
  obtain ⟨c, r, hc⟩ := List.exists_cons_of_ne_nil this
  rw [hc]
  have : s[0] = c := by
    have h2 : s.data.toList[0]'(by rw [hc]; simp) = c := by simp [hc]
    rw [← h2]; rfl
  rw [this]; rfl
theorem digsVal_take {s : ByteArray} {k : Nat} (h : k < s.size) : digsVal 0 (s.data.toList.take (k + 1)) = digsVal 0 (s.data.toList.take k) * 10 + (s[k].toNat - 48) := by
  have hl : k < s.data.toList.length := by simpa using h
  rw [List.take_succ_eq_append_getElem hl, digsVal_snoc]; rfl
theorem all_take {s : ByteArray} {k : Nat} (h : k < s.size) (ha : (s.data.toList.take k).all isD = true) (hd : isD s[k] = true) : (s.data.toList.take (k + 1)).all isD = true := by
  have hl : k < s.data.toList.length := by simpa using h
  rw [List.take_succ_eq_append_getElem hl, List.all_append, ha]
  have : s.data.toList[k] = s[k] := rfl
  rw [this]; simp [hd]
theorem not_all {s : ByteArray} {k : Nat} (h : k < s.size) (hd : isD s[k] = false) : s.data.toList.all isD = false := by
  have hl : k < s.data.toList.length := by simpa using h
  cases hh : s.data.toList.all isD with
  | false => rfl
  | true =>
    have := List.all_eq_true.1 hh s.data.toList[k] (List.getElem_mem hl)
    have e : s.data.toList[k] = s[k] := rfl
    rw [e, hd] at this; cases this
theorem pow_le17 {k : Nat} (h : k ≤ 17) : 10 ^ k ≤ 100000000000000000 := Nat.le_trans (Nat.pow_le_pow_right (by decide) h) (by decide)
def NumR (r : Option Int) (e : Ending) : Prop := e = .returned (.tuple #[.int .i64 (r.getD 0), .bool r.isSome])
theorem numR_no {r : Option Int} (h : r = none) : NumR r (.returned (.tuple #[.int .i64 0, .bool false])) := by subst h; rfl
theorem numR_yes {r : Option Int} {v : Int} (h : r = some v) : NumR r (.returned (.tuple #[.int .i64 v, .bool true])) := by subst h; rfl
theorem num14_neg {s t : ByteArray} (h0 : 0 < s.size) (h : s[0] = 45) (ht : t.data.toList = s.data.toList.tail) : num14 s.data.toList = (mag14 true t.data.toList).map fun n : Nat => -(n : Int) := by
  unfold num14
  rw [if_pos (by rw [head_at h0, h]; rfl), ht]
theorem num14_pos {s : ByteArray} (h : ∀ hh : 0 < s.size, s[0] ≠ 45) : num14 s.data.toList = (mag14 false s.data.toList).map fun n : Nat => (n : Int) := by
  unfold num14
  rw [if_neg]
  intro e
  by_cases h0 : 0 < s.size
  · rw [head_at h0] at e
    exact h h0 (by simpa using e)
  · have : s.data.toList = [] := List.eq_nil_of_length_eq_zero (by rw [len_toList]; omega)
    rw [this] at e; cases e
theorem mag_len {t : ByteArray} {neg : Bool} (h : t.size = 0 ∨ 17 < t.size) : mag14 neg t.data.toList = none := by
  unfold mag14; rw [len_toList, if_pos h]
theorem mag_zero {t : ByteArray} {neg : Bool} (h0 : 0 < t.size) (h : t[0] = 48) (hm : 1 < t.size ∨ neg = true) : mag14 neg t.data.toList = none := by
  unfold mag14
  by_cases hl : t.data.toList.length = 0 ∨ 17 < t.data.toList.length
  · rw [if_pos hl]
  · rw [if_neg hl, if_pos ⟨by rw [head_at h0, h]; rfl, by rw [len_toList]; exact hm⟩]
theorem mag_bad {t : ByteArray} {neg : Bool} (h : t.data.toList.all isD = false) : mag14 neg t.data.toList = none := by
  unfold mag14
  split
  · rfl
  · split
    · rfl
    · rw [h]; rfl
theorem mag_good {t : ByteArray} {neg : Bool} (h1 : 0 < t.size) (h2 : t.size ≤ 17) (h3 : t[0] = 48 → ¬(1 < t.size ∨ neg = true)) (h4 : t.data.toList.all isD = true) : mag14 neg t.data.toList = some (digsVal 0 t.data.toList) := by
  refine mag14_of (by rw [len_toList]; omega) (by rw [len_toList]; exact h2) ?_ h4
  rintro ⟨e, hm⟩
  rw [head_at h1] at e
  rw [len_toList] at hm
  exact h3 (by simpa using e) hm

set_option maxRecDepth 100000 in
set_option maxHeartbeats 4000000 in
theorem l14Num_any (s : ByteArray) (w : World) (hs : s.size ≤ 1048576) : Calls Tryd.prog 100 #[.string s] w fun e w' => NumR (num14 s.data.toList) e ∧ w' = w := by
  by_cases hneg : ∃ hh : 0 < s.size, s[0] = 45
  · obtain ⟨h0s, hs45⟩ := hneg
    have h45 : ((s[0].toNat : Int) == 45) = true := by rw [hs45]; rfl
    obtain ⟨t, ht⟩ : ∃ t : ByteArray, t = s.extract 1 s.size := ⟨_, rfl⟩
    have htl : t.data.toList = s.data.toList.tail := by rw [ht]; simp [ByteArray.data_extract, List.extract_eq_take_drop]; rw [List.take_of_length_le (by simp)]
    have hts : t.size ≤ 1048576 := by rw [ht, ByteArray.size_extract]; omega
    have HP := Lib.hid (num14_neg h0s hs45 htl)
    have HT := Lib.hid ht
    have j1 : (1 : Int) ≤ (s.size : Int) := by omega
    clear ht htl hs45
    by_cases hz : t.size = 0
    · have hz0 : ((t.size : Int) == 0) = true := by rw [hz]; rfl
      have HN := Lib.hid (show num14 s.data.toList = none by rw [HP.out, mag_len (.inl hz)]; rfl)
      clear hz
      go_enter Tryd.func100, Tryd.ntmps100
      go_upto_if 15 with fail
      go_cut [0] (fun a wx => a = .string t ∧ wx = w)
      case first => (go_wp2_with fail; (try go_meet); exact ⟨by rw [HT.out], rfl⟩)
      obtain ⟨rfl, hww⟩ := hcut
      subst hww
      go_wp2_with fail
      go_ret2
      exact ⟨numR_no HN.out, rfl⟩
    have hpos : 0 < t.size := by omega
    clear hz
    have hz0 : ((t.size : Int) == 0) = false := by rw [beq_eq_false_iff_ne]; omega
    skip
    by_cases h17 : 17 < t.size
    · have HN := Lib.hid (show num14 s.data.toList = none by rw [HP.out, mag_len (.inr h17)]; rfl)
      go_enter Tryd.func100, Tryd.ntmps100
      go_upto_if 15 with fail
      go_cut [0] (fun a wx => a = .string t ∧ wx = w)
      case first => (go_wp2_with fail; (try go_meet); exact ⟨by rw [HT.out], rfl⟩)
      obtain ⟨rfl, hww⟩ := hcut
      subst hww
      go_wp2_with fail
      go_ret2
      exact ⟨numR_no HN.out, rfl⟩
    have b17 : decide ((17 : Int) < (t.size : Int)) = false := by simp; omega
    by_cases h48 : t[0] = 48 ∧ (1 < t.size ∨ true = true)
    · have HN := Lib.hid (show num14 s.data.toList = none by rw [HP.out, mag_zero hpos h48.1 h48.2]; rfl)
      have h0 : ((t[0].toNat : Int) == 48) = true := by rw [h48.1]; rfl
      cases hb1 : decide ((1 : Int) < (t.size : Int)) with
      | true =>
        clear h48
        go_enter Tryd.func100, Tryd.ntmps100
        go_upto_if 15 with fail
        go_cut [0] (fun a wx => a = .string t ∧ wx = w)
        case first => (go_wp2_with fail; (try go_meet); exact ⟨by rw [HT.out], rfl⟩)
        obtain ⟨rfl, hww⟩ := hcut
        subst hww
        go_wp2_with fail
        go_ret2
        exact ⟨numR_no HN.out, rfl⟩
      | false =>
        first
          | (exfalso; have := h48.2; simp at this hb1; omega)
          | (clear h48
             go_enter Tryd.func100, Tryd.ntmps100
             go_upto_if 15 with fail
             go_cut [0] (fun a wx => a = .string t ∧ wx = w)
             case first => (go_wp2_with fail; (try go_meet); exact ⟨by rw [HT.out], rfl⟩)
             obtain ⟨rfl, hww⟩ := hcut
             subst hww
             go_wp2_with fail
             go_ret2
             exact ⟨numR_no HN.out, rfl⟩)
    · have HR := Lib.hid (fun (h4 : t.data.toList.all isD = true) => mag_good (neg := true) hpos (by omega) (fun e h => h48 ⟨e, h⟩) h4)
      have hstart : ((t[0].toNat : Int) == 48) = false ∨ (((t[0].toNat : Int) == 48) = true ∧ decide ((1 : Int) < (t.size : Int)) = false ∧ true = false) := by
        cases he : ((t[0].toNat : Int) == 48) with
        | false => exact .inl rfl
        | true =>
          have e := u8_eq (d := 48) ((beq_iff_eq.1 he).trans rfl)
          refine .inr ⟨rfl, ?_, ?_⟩
          · simp
            by_cases h1 : 1 < t.size
            · exact absurd ⟨e, .inl h1⟩ h48
            · omega
          · cases hn : true with
            | false => rfl
            | true => exact absurd ⟨e, .inr hn⟩ h48
      clear h48
      rcases hstart with h0 | ⟨h0, h1, hneg⟩
      any_goals (first | (exfalso; cases hneg; done) | skip)
      all_goals
        go_enter Tryd.func100, Tryd.ntmps100
        go_upto_if 15 with fail
        go_cut [0] (fun a wx => a = .string t ∧ wx = w)
        case first => (go_wp2_with fail; (try go_meet); exact ⟨by rw [HT.out], rfl⟩)
        obtain ⟨rfl, hww⟩ := hcut
        subst hww
        go_wp2_with fail
        go_loop [5, 6] (fun n i => ∃ k : Nat, k ≤ t.size ∧ i = .int .i64 k ∧ ∃ m : Nat, n = .int .i64 m ∧ m < 100000000000000000 ∧ RowKit.Hid (m = digsVal 0 (t.data.toList.take k) ∧ (t.data.toList.take k).all isD = true)) (fun _ i => t.size - (intOf i).toNat)
        case atStart => exact ⟨0, Nat.zero_le _, rfl, 0, rfl, by omega, Lib.hid ⟨rfl, rfl⟩⟩
        case round =>
          obtain ⟨k, hk, rfl, m, rfl, hm, HM⟩ := hrel
          by_cases hlt : k < t.size
          · cases hD : isD t[k] with
            | true =>
              have hd := (isD_iff _).1 hD
              have d1 : (48 : Int) ≤ (t[k].toNat : Int) := by omega
              have d2 : (t[k].toNat : Int) ≤ 57 := by omega
              have HM2 := Lib.hid (show m * 10 + (t[k].toNat - 48) = digsVal 0 (t.data.toList.take (k + 1)) ∧ (t.data.toList.take (k + 1)).all isD = true from ⟨by rw [digsVal_take hlt, HM.out.1], all_take hlt HM.out.2 hD⟩)
              have hm2 : m * 10 + (t[k].toNat - 48) < 100000000000000000 := by
                have h1 := digsVal_lt 0 (t.data.toList.take (k + 1)) HM2.out.2
                have h2 : 10 ^ (t.data.toList.take (k + 1)).length ≤ 100000000000000000 := pow_le17 (by simp; omega)
                rw [← HM2.out.1] at h1; omega
              have hcast : ((m * 10 + (t[k].toNat - 48) : Nat) : Int) = (m : Int) * 10 + ((t[k].toNat : Int) - 48) := by omega
              have HC := Lib.hid hcast
              have hw8 : IntKind.u8.wrap ((t[k].toNat : Int) - 48) = (t[k].toNat : Int) - 48 := by simp [IntKind.wrap, IntKind.bits, IntKind.signed]; omega
              clear hd hD hcast
              go_wp2_with fail
              go_round
              case rel => exact ⟨k + 1, by omega, by go_num, m * 10 + (t[k].toNat - 48), by rw [HC.out], hm2, HM2⟩
              case measure => simp [intOf]; omega
            | false =>
              have HN := Lib.hid ((fun h : mag14 true t.data.toList = none => show num14 s.data.toList = none by rw [HP.out, h]; rfl) (mag_bad (not_all hlt hD)))
              by_cases d1 : (48 : Int) ≤ (t[k].toNat : Int)
              · have d2 : (57 : Int) < (t[k].toNat : Int) := by
                  by_cases h9 : t[k].toNat ≤ 57
                  · rw [(isD_iff _).2 ⟨by omega, h9⟩] at hD; cases hD
                  · omega
                clear hD
                go_wp2_with fail
                go_ret2
                exact ⟨numR_no HN.out, rfl⟩
              · clear hD
                go_wp2_with fail
                go_ret2
                exact ⟨numR_no HN.out, rfl⟩
          · obtain rfl : k = t.size := by omega
            have HM2 := Lib.hid (show m = digsVal 0 t.data.toList ∧ t.data.toList.all isD = true by have h := HM.out; rw [List.take_of_length_le (by simp)] at h; exact h)
            clear HM
            go_wp2_with fail
            go_ret2
            exact ⟨numR_yes (by rw [HP.out, HR.out HM2.out.2, ← HM2.out.1]; rfl), rfl⟩
  · have hp : ∀ hh : 0 < s.size, s[0] ≠ 45 := fun hh e => hneg ⟨hh, e⟩
    have HP := Lib.hid (num14_pos hp)
    have HQ := Lib.hid hp
    clear hneg hp
    by_cases hz : s.size = 0
    · have hz0 : ((s.size : Int) == 0) = true := by rw [hz]; rfl
      have HN := Lib.hid (show num14 s.data.toList = none by rw [HP.out, mag_len (.inl hz)]; rfl)
      clear hz
      go_enter Tryd.func100, Tryd.ntmps100
      go_wp2_with fail
      go_ret2
      exact ⟨numR_no HN.out, rfl⟩
    have hpos : 0 < s.size := by omega
    clear hz
    have hz0 : ((s.size : Int) == 0) = false := by rw [beq_eq_false_iff_ne]; omega
    have h45 : ((s[0].toNat : Int) == 45) = false := by rw [beq_eq_false_iff_ne]; intro e; exact HQ.out hpos (u8_eq (e.trans rfl))
    by_cases h17 : 17 < s.size
    · have HN := Lib.hid (show num14 s.data.toList = none by rw [HP.out, mag_len (.inr h17)]; rfl)
      go_enter Tryd.func100, Tryd.ntmps100
      go_wp2_with fail
      go_ret2
      exact ⟨numR_no HN.out, rfl⟩
    have b17 : decide ((17 : Int) < (s.size : Int)) = false := by simp; omega
    by_cases h48 : s[0] = 48 ∧ (1 < s.size ∨ false = true)
    · have HN := Lib.hid (show num14 s.data.toList = none by rw [HP.out, mag_zero hpos h48.1 h48.2]; rfl)
      have h0 : ((s[0].toNat : Int) == 48) = true := by rw [h48.1]; rfl
      cases hb1 : decide ((1 : Int) < (s.size : Int)) with
      | true =>
        clear h48
        go_enter Tryd.func100, Tryd.ntmps100
        go_wp2_with fail
        go_ret2
        exact ⟨numR_no HN.out, rfl⟩
      | false =>
        first
          | (exfalso; have := h48.2; simp at this hb1; omega)
          | (clear h48
             go_enter Tryd.func100, Tryd.ntmps100
             go_wp2_with fail
             go_ret2
             exact ⟨numR_no HN.out, rfl⟩)
    · have HR := Lib.hid (fun (h4 : s.data.toList.all isD = true) => mag_good (neg := false) hpos (by omega) (fun e h => h48 ⟨e, h⟩) h4)
      have hstart : ((s[0].toNat : Int) == 48) = false ∨ (((s[0].toNat : Int) == 48) = true ∧ decide ((1 : Int) < (s.size : Int)) = false ∧ false = false) := by
        cases he : ((s[0].toNat : Int) == 48) with
        | false => exact .inl rfl
        | true =>
          have e := u8_eq (d := 48) ((beq_iff_eq.1 he).trans rfl)
          refine .inr ⟨rfl, ?_, ?_⟩
          · simp
            by_cases h1 : 1 < s.size
            · exact absurd ⟨e, .inl h1⟩ h48
            · omega
          · cases hn : false with
            | false => rfl
            | true => exact absurd ⟨e, .inr hn⟩ h48
      clear h48
      rcases hstart with h0 | ⟨h0, h1, hneg⟩
      any_goals (first | (exfalso; cases hneg; done) | skip)
      all_goals
        go_enter Tryd.func100, Tryd.ntmps100
        go_wp2_with fail
        go_loop [5, 6] (fun n i => ∃ k : Nat, k ≤ s.size ∧ i = .int .i64 k ∧ ∃ m : Nat, n = .int .i64 m ∧ m < 100000000000000000 ∧ RowKit.Hid (m = digsVal 0 (s.data.toList.take k) ∧ (s.data.toList.take k).all isD = true)) (fun _ i => s.size - (intOf i).toNat)
        case atStart => exact ⟨0, Nat.zero_le _, rfl, 0, rfl, by omega, Lib.hid ⟨rfl, rfl⟩⟩
        case round =>
          obtain ⟨k, hk, rfl, m, rfl, hm, HM⟩ := hrel
          by_cases hlt : k < s.size
          · cases hD : isD s[k] with
            | true =>
              have hd := (isD_iff _).1 hD
              have d1 : (48 : Int) ≤ (s[k].toNat : Int) := by omega
              have d2 : (s[k].toNat : Int) ≤ 57 := by omega
              have HM2 := Lib.hid (show m * 10 + (s[k].toNat - 48) = digsVal 0 (s.data.toList.take (k + 1)) ∧ (s.data.toList.take (k + 1)).all isD = true from ⟨by rw [digsVal_take hlt, HM.out.1], all_take hlt HM.out.2 hD⟩)
              have hm2 : m * 10 + (s[k].toNat - 48) < 100000000000000000 := by
                have h1 := digsVal_lt 0 (s.data.toList.take (k + 1)) HM2.out.2
                have h2 : 10 ^ (s.data.toList.take (k + 1)).length ≤ 100000000000000000 := pow_le17 (by simp; omega)
                rw [← HM2.out.1] at h1; omega
              have hcast : ((m * 10 + (s[k].toNat - 48) : Nat) : Int) = (m : Int) * 10 + ((s[k].toNat : Int) - 48) := by omega
              have HC := Lib.hid hcast
              have hw8 : IntKind.u8.wrap ((s[k].toNat : Int) - 48) = (s[k].toNat : Int) - 48 := by simp [IntKind.wrap, IntKind.bits, IntKind.signed]; omega
              clear hd hD hcast
              go_wp2_with fail
              go_round
              case rel => exact ⟨k + 1, by omega, by go_num, m * 10 + (s[k].toNat - 48), by rw [HC.out], hm2, HM2⟩
              case measure => simp [intOf]; omega
            | false =>
              have HN := Lib.hid ((fun h : mag14 false s.data.toList = none => show num14 s.data.toList = none by rw [HP.out, h]; rfl) (mag_bad (not_all hlt hD)))
              by_cases d1 : (48 : Int) ≤ (s[k].toNat : Int)
              · have d2 : (57 : Int) < (s[k].toNat : Int) := by
                  by_cases h9 : s[k].toNat ≤ 57
                  · rw [(isD_iff _).2 ⟨by omega, h9⟩] at hD; cases hD
                  · omega
                clear hD
                go_wp2_with fail
                go_ret2
                exact ⟨numR_no HN.out, rfl⟩
              · clear hD
                go_wp2_with fail
                go_ret2
                exact ⟨numR_no HN.out, rfl⟩
          · obtain rfl : k = s.size := by omega
            have HM2 := Lib.hid (show m = digsVal 0 s.data.toList ∧ s.data.toList.all isD = true by have h := HM.out; rw [List.take_of_length_le (by simp)] at h; exact h)
            clear HM
            go_wp2_with fail
            go_ret2
            exact ⟨numR_yes (by rw [HP.out, HR.out HM2.out.2, ← HM2.out.1]; rfl), rfl⟩
end Go.Proofs.YtbbemeaojmfndaaDoor
