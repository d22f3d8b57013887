/- Decimal texts of numbers from 0 to 99, and the laws' own reader of numbers; no program. -/
import Derived.Test.YtbbemeaojmfndaaDoorExPure
import Derived.Lib.AtoiAllCases
import Derived.Lib.ItoaNum
namespace Go.Proofs.YtbbemeaojmfndaaDoor
open Go.RowKit

/-- A text of one or two digits without a leading zero. -/
def num99 : List UInt8 → Option Nat
  | [d] => if isD d then some (d.toNat - 48) else none
  | [d, e] => if isD d && (decide (d.toNat ≠ 48) && isD e) then some (10 * (d.toNat - 48) + (e.toNat - 48)) else none
  | _ => none
theorem isD_iff (c : UInt8) : isD c = true ↔ 48 ≤ c.toNat ∧ c.toNat ≤ 57 := by simp [isD]
theorem u8_of {c : UInt8} {k : Nat} (h : c.toNat = k) (hk : k < 256) : c = UInt8.ofNat k := by
  apply UInt8.toNat_inj.1
  rw [h]; simp; omega
theorem itoa_one (v : Nat) (h : v < 10) : Lib.itoa (v : Int) = [UInt8.ofNat (48 + v)] := by
  unfold Lib.itoa
  rw [if_neg (by omega), Int.toNat_natCast, Lib.decDigits, dif_pos h]
theorem itoa_two (v : Nat) (h : 10 ≤ v) (h2 : v < 100) : Lib.itoa (v : Int) = [UInt8.ofNat (48 + v / 10), UInt8.ofNat (48 + v % 10)] := by
  unfold Lib.itoa
  rw [if_neg (by omega), Int.toNat_natCast, Lib.decDigits, dif_neg (by omega), Lib.decDigits, dif_pos (by omega)]
  rfl
theorem toNat_of (k : Nat) (h : k < 256) : (UInt8.ofNat k).toNat = k := by simp; omega
theorem num99_one (d : UInt8) : num99 [d] = if isD d then some (d.toNat - 48) else none := rfl
theorem num99_two (d e : UInt8) : num99 [d, e] = if isD d && (decide (d.toNat ≠ 48) && isD e) then some (10 * (d.toNat - 48) + (e.toNat - 48)) else none := rfl
theorem num99_more (d e f : UInt8) (r : List UInt8) : num99 (d :: e :: f :: r) = none := rfl
theorem num99_cases {l : List UInt8} {n : Nat} (h : num99 l = some n) :
    (∃ d, l = [d] ∧ isD d = true ∧ n = d.toNat - 48) ∨ (∃ d e, l = [d, e] ∧ isD d = true ∧ d.toNat ≠ 48 ∧ isD e = true ∧ n = 10 * (d.toNat - 48) + (e.toNat - 48)) := by
  match l with
  | [] => simp [num99] at h
  | [d] =>
    rw [num99_one] at h
    by_cases hd : isD d = true
    · rw [if_pos hd] at h
      exact .inl ⟨d, rfl, hd, (Option.some.inj h).symm⟩
    · rw [if_neg hd] at h; cases h
  | [d, e] =>
    rw [num99_two] at h
    by_cases hd : (isD d && (decide (d.toNat ≠ 48) && isD e)) = true
    · rw [if_pos hd] at h
      simp only [Bool.and_eq_true, decide_eq_true_eq] at hd
      exact .inr ⟨d, e, rfl, hd.1, hd.2.1, hd.2.2, (Option.some.inj h).symm⟩
    · rw [if_neg hd] at h; cases h
  | d :: e :: f :: r => rw [num99_more] at h; cases h
theorem num99_itoa (v : Nat) (h : v < 100) : num99 (Lib.itoa (v : Int)) = some v := by
  by_cases h1 : v < 10
  · have e := toNat_of (48 + v) (by omega)
    have hd : isD (UInt8.ofNat (48 + v)) = true := (isD_iff _).2 (by omega)
    rw [itoa_one v h1, num99_one, if_pos hd, e]
    congr 1; omega
  · have e := toNat_of (48 + v / 10) (by omega)
    have e2 := toNat_of (48 + v % 10) (by omega)
    have hd : isD (UInt8.ofNat (48 + v / 10)) = true := (isD_iff _).2 (by omega)
    have hd2 : isD (UInt8.ofNat (48 + v % 10)) = true := (isD_iff _).2 (by omega)
    rw [itoa_two v (by omega) h, num99_two, hd, hd2, e, e2, decide_eq_true (by omega : 48 + v / 10 ≠ 48)]
    simp only [Bool.and_self, if_true]
    congr 1; omega
theorem num99_of {l : List UInt8} {n : Nat} (h : num99 l = some n) : n < 100 ∧ l = Lib.itoa (n : Int) ∧ l.all isD = true := by
  rcases num99_cases h with ⟨d, rfl, hd, rfl⟩ | ⟨d, e, rfl, hd, h48, he, rfl⟩
  · have hd2 := (isD_iff d).1 hd
    refine ⟨by omega, ?_, by simp [hd]⟩
    rw [itoa_one _ (by omega), show 48 + (d.toNat - 48) = d.toNat by omega, UInt8.ofNat_toNat]
  · have hd2 := (isD_iff d).1 hd
    have he2 := (isD_iff e).1 he
    refine ⟨by omega, ?_, by simp [hd, he]⟩
    rw [itoa_two _ (by omega) (by omega)]
    rw [show (10 * (d.toNat - 48) + (e.toNat - 48)) / 10 = d.toNat - 48 by omega, show (10 * (d.toNat - 48) + (e.toNat - 48)) % 10 = e.toNat - 48 by omega]
    rw [show 48 + (d.toNat - 48) = d.toNat by omega, show 48 + (e.toNat - 48) = e.toNat by omega, UInt8.ofNat_toNat, UInt8.ofNat_toNat]
theorem parseUint_one (acc : Nat) (c : UInt8) (r : List UInt8) (hc : isD c = true) (ha : acc < 1000000000000000000) : Lib.parseUint10 acc (c :: r) = Lib.parseUint10 (acc * 10 + (c.toNat - 48)) r := by
  have := (isD_iff c).1 hc
  rw [Lib.parseUint10, if_pos this, if_neg (by omega), if_neg (by omega)]
theorem signless_ok (u : Nat) (h : u < 9223372036854775808) : Lib.signless (.ok u) = .ok (u : Int) := by
  unfold Lib.signless
  simp only
  rw [if_neg (by omega)]
theorem atoi_99 {l : List UInt8} {n : Nat} (h : num99 l = some n) : Lib.atoiAll l = .ok (n : Int) := by
  rcases num99_cases h with ⟨d, rfl, hd, rfl⟩ | ⟨d, e, rfl, hd, h48, he, rfl⟩
  · have hd2 := (isD_iff d).1 hd
    rw [Lib.atoiAll_plain d [] (by omega) (by omega)]
    unfold Lib.parseMag
    rw [if_neg (by simp), parseUint_one 0 d [] hd (by omega), Lib.parseUint10, signless_ok _ (by omega)]
    congr 1; omega
  · have hd2 := (isD_iff d).1 hd
    have he2 := (isD_iff e).1 he
    rw [Lib.atoiAll_plain d [e] (by omega) (by omega)]
    unfold Lib.parseMag
    rw [if_neg (by simp), parseUint_one 0 d [e] hd (by omega), parseUint_one _ e [] he (by omega), Lib.parseUint10, signless_ok _ (by omega)]
    congr 1; omega
/-- The number that a text of digits is written as, if it is. -/
def numOf (l : List UInt8) : Option Int := match Lib.atoiAll l with | .ok v => if Lib.itoa v = l then some v else none | _ => none
theorem numOf_ok {l : List UInt8} {v : Int} (h : Lib.atoiAll l = .ok v) : numOf l = if Lib.itoa v = l then some v else none := by unfold numOf; rw [h]
theorem numOf_no {l : List UInt8} (h : ∀ v, Lib.atoiAll l ≠ .ok v) : numOf l = none := by
  unfold numOf
  split
  · rename_i v hv; exact absurd hv (h v)
  · rfl
theorem numOf_99 {l : List UInt8} {n : Nat} (h : num99 l = some n) : numOf l = some (n : Int) := by
  rw [numOf_ok (atoi_99 h), if_pos (num99_of h).2.1.symm]
theorem itoa_neg {v : Int} (h : v < 0) : ∃ r, Lib.itoa v = 45 :: r := ⟨_, by unfold Lib.itoa; rw [if_pos h]⟩
theorem numOf_some {l : List UInt8} {v : Int} (h : numOf l = some v) : Lib.itoa v = l := by
  unfold numOf at h
  split at h
  · split at h
    · rename_i _ _ _ hi; cases h; exact hi
    · cases h
  · cases h
theorem numOf_pos {l : List UInt8} {v : Int} (h : numOf l = some v) (hd : l.all isD = true) : 0 ≤ v := by
  have e := numOf_some h
  by_cases h0 : v < 0
  · obtain ⟨r, hr⟩ := itoa_neg h0
    rw [← e, hr] at hd
    simp at hd
    have := (isD_iff 45).1 hd.1
    simp at this
  · omega
theorem numOf_small {l : List UInt8} {v : Int} (h : numOf l = some v) (hd : l.all isD = true) (h99 : v ≤ 99) : num99 l = some v.toNat := by
  have h0 := numOf_pos h hd
  have e := numOf_some h
  have := num99_itoa v.toNat (by omega)
  rw [Int.toNat_of_nonneg h0, e] at this
  exact this

/-! The laws' reader of numbers. -/
def digsVal (n : Nat) (l : List UInt8) : Nat := l.foldl (fun n c => n * 10 + (c.toNat - 48)) n
theorem digsVal_nil (n : Nat) : digsVal n [] = n := rfl
theorem digsVal_snoc (n : Nat) (l : List UInt8) (c : UInt8) : digsVal n (l ++ [c]) = digsVal n l * 10 + (c.toNat - 48) := by unfold digsVal; rw [List.foldl_append, List.foldl_cons, List.foldl_nil]
theorem digsVal_cons (n : Nat) (c : UInt8) (r : List UInt8) : digsVal n (c :: r) = digsVal (n * 10 + (c.toNat - 48)) r := by unfold digsVal; rw [List.foldl_cons]
theorem digsVal_ge (n : Nat) (l : List UInt8) : n * 10 ^ l.length ≤ digsVal n l := by
  induction l generalizing n with
  | nil => simp [digsVal]
  | cons c r ih =>
    have h := ih (n * 10 + (c.toNat - 48))
    have h2 : n * 10 * 10 ^ r.length ≤ (n * 10 + (c.toNat - 48)) * 10 ^ r.length := Nat.mul_le_mul_right _ (by omega)
    rw [digsVal_cons, List.length_cons, Nat.pow_succ, Nat.mul_comm (10 ^ r.length) 10, ← Nat.mul_assoc]
    exact Nat.le_trans h2 h
theorem digsVal_lt (n : Nat) (l : List UInt8) (hl : l.all isD = true) : digsVal n l < (n + 1) * 10 ^ l.length := by
  induction l generalizing n with
  | nil => simp [digsVal]
  | cons c r ih =>
    rw [List.all_cons, Bool.and_eq_true] at hl
    have hc := (isD_iff c).1 hl.1
    have h := ih (n * 10 + (c.toNat - 48)) hl.2
    have h2 : (n * 10 + (c.toNat - 48) + 1) * 10 ^ r.length ≤ (n + 1) * 10 * 10 ^ r.length := Nat.mul_le_mul_right _ (by omega)
    rw [digsVal_cons, List.length_cons, Nat.pow_succ, Nat.mul_comm (10 ^ r.length) 10, ← Nat.mul_assoc]
    exact Nat.lt_of_lt_of_le h h2
/-- What stands behind a sign, read as l14Num reads it. -/
def mag14 (neg : Bool) (r : List UInt8) : Option Nat :=
  if r.length = 0 ∨ 17 < r.length then none
  else if r.head? = some 48 ∧ (1 < r.length ∨ neg = true) then none
  else if r.all isD then some (digsVal 0 r) else none
def num14 (l : List UInt8) : Option Int :=
  if l.head? = some 45 then (mag14 true l.tail).map fun n : Nat => -(n : Int) else (mag14 false l).map fun n : Nat => (n : Int)
theorem mag14_some {neg : Bool} {r : List UInt8} {n : Nat} (h : mag14 neg r = some n) :
    r.length ≠ 0 ∧ r.length ≤ 17 ∧ ¬(r.head? = some 48 ∧ (1 < r.length ∨ neg = true)) ∧ r.all isD = true ∧ n = digsVal 0 r := by
  unfold mag14 at h
  split at h
  · cases h
  · split at h
    · cases h
    · split at h
      · rename_i g1 g2 g3
        exact ⟨by omega, by omega, g2, g3, (Option.some.inj h).symm⟩
      · cases h
theorem mag14_of {neg : Bool} {r : List UInt8} (h1 : r.length ≠ 0) (h2 : r.length ≤ 17) (h3 : ¬(r.head? = some 48 ∧ (1 < r.length ∨ neg = true))) (h4 : r.all isD = true) : mag14 neg r = some (digsVal 0 r) := by
  unfold mag14
  rw [if_neg (by omega), if_neg h3, if_pos h4]
theorem mag_big {c : UInt8} {r : List UInt8} (hd : isD c = true) (h48 : c.toNat ≠ 48) : 10 ^ r.length ≤ digsVal 0 (c :: r) := by
  have hc := (isD_iff c).1 hd
  have h1 := digsVal_ge (0 * 10 + (c.toNat - 48)) r
  have h2 : 1 * 10 ^ r.length ≤ (0 * 10 + (c.toNat - 48)) * 10 ^ r.length := Nat.mul_le_mul_right _ (by omega)
  have h3 := digsVal_cons 0 c r
  omega
theorem head48 {c : UInt8} {r : List UInt8} {p : Prop} (h : ¬((c :: r).head? = some 48 ∧ p)) (hp : p) : c.toNat ≠ 48 := fun e => h ⟨by rw [List.head?_cons, u8_of e (by omega)]; rfl, hp⟩
theorem num14_99 (l : List UInt8) (v : Int) : (num14 l = some v ∧ 0 ≤ v ∧ v ≤ 99) ↔ (num99 l = some v.toNat ∧ 0 ≤ v) := by
  constructor
  · rintro ⟨h, h0, h99⟩
    refine ⟨?_, h0⟩
    unfold num14 at h
    by_cases hneg : l.head? = some 45
    · rw [if_pos hneg] at h
      obtain ⟨n, hn, rfl⟩ := Option.map_eq_some_iff.1 h
      obtain ⟨g1, g2, g3, g4, g5⟩ := mag14_some hn
      match hl : l.tail, g1, g2, g3, g4, g5 with
      | [], g1, _, _, _, _ => exact absurd rfl g1
      | c :: r, g1, g2, g3, g4, g5 =>
        rw [List.all_cons, Bool.and_eq_true] at g4
        have h1 := mag_big (r := r) g4.1 (head48 g3 (.inr rfl))
        have hp : 1 ≤ 10 ^ r.length := Nat.one_le_pow _ _ (by decide)
        omega
    · rw [if_neg hneg] at h
      obtain ⟨n, hn, rfl⟩ := Option.map_eq_some_iff.1 h
      obtain ⟨g1, g2, g3, g4, g5⟩ := mag14_some hn
      match l, g1, g2, g3, g4, g5 with
      | [], g1, _, _, _, _ => exact absurd rfl g1
      | [c], g1, g2, g3, g4, g5 =>
        rw [List.all_cons, Bool.and_eq_true] at g4
        have hc := (isD_iff c).1 g4.1
        rw [num99_one, if_pos g4.1, Int.toNat_natCast, g5]
        simp [digsVal]
      | [c, d], g1, g2, g3, g4, g5 =>
        rw [List.all_cons, List.all_cons, Bool.and_eq_true, Bool.and_eq_true] at g4
        have hc := (isD_iff c).1 g4.1
        have h48 := head48 g3 (.inl (by simp))
        rw [num99_two, g4.1, g4.2.1, decide_eq_true h48, Int.toNat_natCast, g5]
        simp [digsVal]; omega
      | c :: d :: e :: r, g1, g2, g3, g4, g5 =>
        rw [List.all_cons, Bool.and_eq_true] at g4
        have h1 := mag_big (r := d :: e :: r) g4.1 (head48 g3 (.inl (by simp)))
        have hp : 1 ≤ 10 ^ r.length := Nat.one_le_pow _ _ (by decide)
        have h2 : 10 ^ (d :: e :: r).length = 10 ^ r.length * 10 * 10 := by simp [Nat.pow_succ]
        omega
  · rintro ⟨h, h0⟩
    have hlt := (num99_of h).1
    refine ⟨?_, h0, by omega⟩
    have hv : v = (v.toNat : Int) := (Int.toNat_of_nonneg h0).symm
    rcases num99_cases h with ⟨d, rfl, hd, hn⟩ | ⟨d, e, rfl, hd, h48, he, hn⟩
    · have hd2 := (isD_iff d).1 hd
      have h45 : ¬([d] : List UInt8).head? = some 45 := fun e => by
        have e : d = 45 := by simpa using e
        subst e; simp at hd2
      unfold num14
      rw [if_neg h45, mag14_of (by simp) (by simp) (by simp) (by simp [hd]), hv, hn]
      simp [digsVal]
    · have hd2 := (isD_iff d).1 hd
      have he2 := (isD_iff e).1 he
      have h45 : ¬([d, e] : List UInt8).head? = some 45 := fun e => by
        have e : d = 45 := by simpa using e
        subst e; simp at hd2
      have h48' : ¬d = 48 := fun e => h48 (by rw [e]; rfl)
      unfold num14
      rw [if_neg h45, mag14_of (by simp) (by simp) (by simp [h48']) (by simp [hd, he]), hv, hn]
      simp [digsVal]; omega
/-- An atom of a condition, by its two readings. -/
theorem cond_of (l : List UInt8) : condOf l = match l with | [] => none | s :: r => if isS s then (num99 r).map fun n => (s, n) else none := by
  match l with
  | [] => rfl
  | [s] => simp [condOf, num99]
  | [s, d] =>
    simp only [condOf, num99]
    cases isS s <;> cases isD d <;> simp
  | [s, d, e] =>
    simp only [condOf, num99]
    cases isS s <;> cases isD d <;> cases isD e <;> by_cases h : d.toNat = 48 <;> simp [h]
  | s :: d :: e :: f :: r => simp [condOf, num99]
end Go.Proofs.YtbbemeaojmfndaaDoor
