/- impl.splitCond, impl.exprAtomValid. -/
import Derived.Test.YtbbemeaojmfndaaDoorNum
import Derived.Test.YtbbemeaojmfndaaDoorLabel
namespace Go.Proofs.YtbbemeaojmfndaaDoor
open Go.RowKit

theorem dl_all : ∀ r : List UInt8, r.all isD = true → dl r = r.length
  | [], _ => rfl
  | c :: r, h => by
    rw [List.all_cons, Bool.and_eq_true] at h
    rw [dl, if_pos h.1, dl_all r h.2]; rfl
theorem take_dl : ∀ r : List UInt8, (r.take (dl r)).all isD = true
  | [] => rfl
  | c :: r => by
    rw [dl]
    by_cases hc : isD c = true
    · rw [if_pos hc, List.take_succ_cons, List.all_cons, hc, take_dl r]; rfl
    · rw [if_neg hc]; rfl
theorem digits_one {a : ByteArray} {c : UInt8} {r : List UInt8} (hl : a.data.toList = c :: r) : digits a 1 = r.take (dl r) := by
  unfold digits; rw [hl]; rfl
theorem drop_one {a : ByteArray} {c : UInt8} {r : List UInt8} (hl : a.data.toList = c :: r) : a.data.toList.drop 1 = r := by rw [hl]; rfl
theorem size_of {a : ByteArray} {c : UInt8} {r : List UInt8} (hl : a.data.toList = c :: r) : a.size = 1 + r.length := by
  have := congrArg List.length hl
  simp at this; omega
theorem signAt_zero {a : ByteArray} : signAt a 0 false = match a.data.toList with | c :: _ => if isS c then some c else none | [] => none := by
  unfold signAt
  cases a.data.toList <;> rfl
theorem sign_none {a : ByteArray} (h : signAt a 0 false = none) : condOf a.data.toList = none := by
  rw [signAt_zero] at h
  rw [cond_of]
  cases hl : a.data.toList with
  | nil => rfl
  | cons c r =>
    rw [hl] at h
    by_cases hc : isS c = true
    · simp [hc] at h
    · simp [hc]
theorem sign_some {a : ByteArray} {c : UInt8} (h : signAt a 0 false = some c) : isS c = true ∧ ∃ r, a.data.toList = c :: r := by
  rw [signAt_zero] at h
  cases hl : a.data.toList with
  | nil => rw [hl] at h; cases h
  | cons d r =>
    rw [hl] at h
    by_cases hc : isS d = true
    · simp [hc] at h; subst h; exact ⟨hc, r, rfl⟩
    · simp [hc] at h
theorem cond_cons {a : ByteArray} {c : UInt8} {r : List UInt8} (hl : a.data.toList = c :: r) (hc : isS c = true) : condOf a.data.toList = (num99 r).map fun n => (c, n) := by
  rw [cond_of, hl]; simp [hc]
theorem split_bad {a : ByteArray} {c : UInt8} {r : List UInt8} (hl : a.data.toList = c :: r) (hc : isS c = true) (hn : numOf (digits a 1) = none) : condOf a.data.toList = none := by
  rw [cond_cons hl hc]
  cases h : num99 r with
  | none => rfl
  | some n =>
    have hd := (num99_of h).2.2
    rw [digits_one hl, dl_all r hd, List.take_length, numOf_99 h] at hn
    cases hn
theorem split_end {a : ByteArray} {c : UInt8} {r : List UInt8} {v : Int} (hl : a.data.toList = c :: r) (hc : isS c = true) (hn : numOf (digits a 1) = some v) (he : 1 + dl (a.data.toList.drop 1) = a.size) :
    condB a = decide (v ≤ 99) ∧ ∀ s n, condOf a.data.toList = some (s, n) → c = s ∧ v = n := by
  rw [drop_one hl, size_of hl] at he
  have hdl : dl r = r.length := by omega
  have hall : r.all isD = true := by have := take_dl r; rwa [hdl, List.take_length] at this
  rw [digits_one hl, hdl, List.take_length] at hn
  unfold condB
  rw [cond_cons hl hc]
  cases h : num99 r with
  | none =>
    refine ⟨?_, fun s n e => by cases e⟩
    have : ¬ v ≤ 99 := fun h9 => by rw [numOf_small hn hall h9] at h; cases h
    rw [decide_eq_false this]; rfl
  | some n =>
    have e := numOf_99 h
    rw [hn] at e
    have e := Option.some.inj e
    have hlt := (num99_of h).1
    refine ⟨?_, fun s m e2 => ?_⟩
    · rw [decide_eq_true (by omega : v ≤ 99)]; rfl
    · simp only [Option.map_some, Option.some.injEq, Prod.mk.injEq] at e2
      exact ⟨e2.1, by rw [e, e2.2]⟩
theorem split_more {a : ByteArray} {c : UInt8} {r : List UInt8} (hl : a.data.toList = c :: r) (hc : isS c = true) (he : 1 + dl (a.data.toList.drop 1) ≠ a.size) : condOf a.data.toList = none := by
  rw [drop_one hl, size_of hl] at he
  rw [cond_cons hl hc]
  cases h : num99 r with
  | none => rfl
  | some n => exact absurd (dl_all r (num99_of h).2.2) (by omega)

def SplitPost (a : ByteArray) (w : World) (e : Ending) (w' : World) : Prop :=
  ∃ (c v : Int), e = .returned (.tuple #[.int .u8 c, .int .i64 v, .bool (condB a)]) ∧ (∀ s n, condOf a.data.toList = some (s, n) → c = s.toNat ∧ v = n) ∧ Below w.heap.size w w'
theorem splitPost_no {a : ByteArray} {w w' : World} {c v : Int} (h : condOf a.data.toList = none) (hb : Below w.heap.size w w') : SplitPost a w (.returned (.tuple #[.int .u8 c, .int .i64 v, .bool false])) w' :=
  ⟨c, v, by unfold condB; rw [h]; rfl, (fun s n e => by rw [h] at e; cases e), hb⟩
set_option maxRecDepth 100000 in
set_option maxHeartbeats 2000000 in
theorem splitCond_any (a : ByteArray) (w : World) (hs : a.size ≤ 1048576) (hv : Vars w) : Calls Tryd.prog 94 #[.string a] w (SplitPost a w) := by
  have HV := Lib.hid (hv.below ((Below.refl w.heap.size w).alloc (Nat.le_refl _) (.cells #[.string a, .int .i64 0, .bool false] 135)))
  clear hv
  go_enter Tryd.func94, Tryd.ntmps94
  go_wp2_with fail
  have HR := Lib.hid (show Rdr w.heap.size a 0 false (w.alloc (.cells #[.string a, .int .i64 0, .bool false] 135)) from Blk.new w #[.string a, .int .i64 0, .bool false] 135)
  have HB := Lib.hid ((Below.refl w.heap.size w).alloc (Nat.le_refl _) (.cells #[.string a, .int .i64 0, .bool false] 135))
  refine (takeSign_any w.heap.size a 0 false _ HR.out (by unfold maxLen; omega) (by omega)).mono ?_
  rintro e w1 hpost
  have hb1 : Below w.heap.size w w1 := by
    rcases hpost with ⟨c, _, _, _, hc⟩ | ⟨_, _, _, hc⟩ <;> exact HB.out.trans (hc.below (by simp) (by simp))
  have HB1 := Lib.hid hb1
  have HV1 := Lib.hid (show Vars w1 by rcases hpost with ⟨c, _, _, _, hc⟩ | ⟨_, _, _, hc⟩ <;> exact HV.out.rdr HR.out hc)
  clear hb1
  rcases hpost with ⟨c, hsg, rfl, hr1, hc1⟩ | ⟨hsg, rfl, hr1, hc1⟩
  · have HR1 := Lib.hid hr1
    obtain ⟨hcS, r, hl⟩ := sign_some hsg
    have HL := Lib.hid hl
    have HS := Lib.hid hcS
    have hsz := size_of hl
    clear hr1 hc1 hsg hl hcS
    go_wp2_with fail
    refine (takeNumber_any w.heap.size a 1 false _ HR1.out (by omega) (by omega) HV1.out).mono ?_
    rintro e w2 ⟨hc2, hpost⟩
    have HB2 := Lib.hid (HB1.out.trans ((hc2.below (B := w.heap.size) HB1.out.size (by simp))))
    clear hc2
    rcases hpost with ⟨v, hn, rfl, hr2⟩ | ⟨hn, rfl, hr2⟩
    · have HN := Lib.hid hn
      have HR2 := Lib.hid hr2
      obtain ⟨D, eD⟩ : ∃ D, D = dl (a.data.toList.drop 1) := ⟨_, rfl⟩
      rw [← eD] at HR2
      by_cases he : 1 + D = a.size
      · have hpure := split_end HL.out HS.out HN.out (by rw [← eD]; exact he)
        have HP := Lib.hid hpure
        have HF := Lib.hid (show ended a (1 + D) false = true by unfold ended; rw [decide_eq_true he]; rfl)
        clear hn hr2 hpure eD
        go_wp2_with fail
        refine (finished_any w.heap.size a (1 + D) false _ HR2.out).mono ?_
        rintro e w3 ⟨rfl, n, rfl⟩
        rw [HF.out]
        go_wp2_with fail
        refine bodyPost_ret (v := .tuple #[.int .u8 c.toNat, .int .i64 v, .bool (decide (v ≤ 99))]) (by simp [results, Tryd.results94, go_sem]) rfl ?_
        exact ⟨_, _, by rw [HP.out.1], (fun s n h => ⟨by rw [(HP.out.2 s n h).1], (HP.out.2 s n h).2⟩), HB2.out.trans ((chgN w.heap.size w2 n).below (B := w.heap.size) HB2.out.size (by simp))⟩
      · have HP := Lib.hid (split_more HL.out HS.out (by rw [← eD]; exact he))
        have HF := Lib.hid (show ended a (1 + D) false = false by unfold ended; rw [decide_eq_false he]; rfl)
        clear hn hr2 eD
        go_wp2_with fail
        refine (finished_any w.heap.size a (1 + D) false _ HR2.out).mono ?_
        rintro e w3 ⟨rfl, n, rfl⟩
        rw [HF.out]
        go_wp2_with fail
        refine bodyPost_ret (v := .tuple #[.int .u8 c.toNat, .int .i64 v, .bool false]) (by simp [results, Tryd.results94, go_sem]) rfl ?_
        exact splitPost_no HP.out (HB2.out.trans ((chgN w.heap.size w2 n).below (B := w.heap.size) HB2.out.size (by simp)))
    · have HP := Lib.hid (split_bad HL.out HS.out hn)
      have HR2 := Lib.hid hr2
      obtain ⟨D, eD⟩ : ∃ D, D = dl (a.data.toList.drop 1) := ⟨_, rfl⟩
      rw [← eD] at HR2
      have HF := Lib.hid (show ended a (1 + D) true = false from rfl)
      clear hn hr2 eD
      go_wp2_with fail
      refine (finished_any w.heap.size a (1 + D) true _ HR2.out).mono ?_
      rintro e w3 ⟨rfl, n, rfl⟩
      rw [HF.out]
      go_wp2_with fail
      refine bodyPost_ret (v := .tuple #[.int .u8 c.toNat, .int .i64 0, .bool false]) (by simp [results, Tryd.results94, go_sem]) rfl ?_
      exact splitPost_no HP.out (HB2.out.trans ((chgN w.heap.size w2 n).below (B := w.heap.size) HB2.out.size (by simp)))
  · have HR1 := Lib.hid hr1
    have HP := Lib.hid (sign_none hsg)
    clear hr1 hc1 hsg
    go_wp2_with fail
    refine (takeNumber_any w.heap.size a 0 true _ HR1.out (by omega) (by omega) HV1.out).mono ?_
    rintro e w2 ⟨hc2, hpost⟩
    have HB2 := Lib.hid (HB1.out.trans ((hc2.below (B := w.heap.size) HB1.out.size (by simp))))
    clear hc2
    obtain ⟨D, v, rfl, hr2⟩ : ∃ (D : Nat) (v : Int), e = .returned (.int .i64 v) ∧ Rdr w.heap.size a D true w2 := by
      rcases hpost with ⟨v, hn, rfl, hr2⟩ | ⟨hn, rfl, hr2⟩
      · exact ⟨_, _, rfl, hr2⟩
      · exact ⟨_, _, rfl, hr2⟩
    have HR2 := Lib.hid hr2
    have HF := Lib.hid (show ended a D true = false from rfl)
    clear hr2 hpost
    go_wp2_with fail
    refine (finished_any w.heap.size a D true _ HR2.out).mono ?_
    rintro e w3 ⟨rfl, n, rfl⟩
    rw [HF.out]
    go_wp2_with fail
    refine bodyPost_ret (v := .tuple #[.int .u8 0, .int .i64 v, .bool false]) (by simp [results, Tryd.results94, go_sem]) rfl ?_
    exact splitPost_no HP.out (HB2.out.trans ((chgN w.heap.size w2 n).below (B := w.heap.size) HB2.out.size (by simp)))

set_option maxRecDepth 100000 in
set_option maxHeartbeats 400000 in
theorem exprAtomValid_any (a : ByteArray) (kind : Int) (w : World) (hs : a.size ≤ 1048576) (hv : Vars w) :
    Calls Tryd.prog 95 #[.string a, .int .i64 kind] w fun e w' => e = .returned (.bool (atomB kind a)) ∧ Below w.heap.size w w' := by
  have HV := Lib.hid hv
  clear hv
  by_cases hk : kind = 1
  · subst hk
    go_enter Tryd.func95, Tryd.ntmps95
    go_wp2_with fail
    refine (labelValid_any a _ (by unfold maxLen; omega)).mono ?_
    rintro e w1 ⟨rfl, rfl⟩
    go_wp2_with fail
    go_ret
    exact ⟨by rw [show atomB 1 a = lv a from rfl]; rfl, Below.refl _ _⟩
  · have hk1 : (kind == 1) = false := beq_eq_false_iff_ne.2 hk
    have HA := Lib.hid (show atomB kind a = condB a by unfold atomB; rw [if_neg hk])
    go_enter Tryd.func95, Tryd.ntmps95
    go_wp2_with fail
    refine (splitCond_any a _ hs HV.out).mono ?_
    rintro e w1 ⟨c, v, rfl, _, hb⟩
    have HB := Lib.hid hb
    clear hb
    go_wp2_with fail
    go_ret
    exact ⟨by rw [HA.out]; rfl, HB.out⟩
end Go.Proofs.YtbbemeaojmfndaaDoor
