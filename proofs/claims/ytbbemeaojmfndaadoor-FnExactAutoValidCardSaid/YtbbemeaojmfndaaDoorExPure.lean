/- Expressions: which are valid, what they hold for. Plain functions; no program. -/
import Derived.Test.YtbbemeaojmfndaaDoorEx
namespace Go.Proofs.YtbbemeaojmfndaaDoor

def isD (c : UInt8) : Bool := decide (48 ≤ c.toNat) && decide (c.toNat ≤ 57)
def isS (c : UInt8) : Bool := decide (c.toNat = 60) || (decide (c.toNat = 61) || decide (c.toNat = 62))
/-- A condition: its sign and its number. -/
def condOf : List UInt8 → Option (UInt8 × Nat)
  | [s, d] => if isS s && isD d then some (s, d.toNat - 48) else none
  | [s, d, e] => if isS s && (isD d && (decide (d.toNat ≠ 48) && isD e)) then some (s, 10 * (d.toNat - 48) + (e.toNat - 48)) else none
  | _ => none
def condB (a : ByteArray) : Bool := (condOf a.data.toList).isSome
def atomB (kind : Int) (a : ByteArray) : Bool := if kind = 1 then lv a else condB a
/-- A node, whatever its parts are. -/
def topB (kind o : Int) (a : ByteArray) (n : Nat) : Bool :=
  if o = 1 then decide (n = 0) && atomB kind a
  else if o = 2 then decide (n = 0) && decide (a.size = 0)
  else if o = 3 then decide (n = 1) && decide (a.size = 0)
  else if o = 4 ∨ o = 5 then decide (n = 2) && decide (a.size = 0)
  else false
def Fo.okB (kind : Int) : Fo → Nat → Bool
  | .nil, _ => true
  | .cons o a k r, d => (decide (0 < d) && (topB kind o a k.list.length && k.okB kind (d - 1))) && r.okB kind d
def Ex.okB (kind : Int) (e : Ex) (d : Nat) : Bool := decide (0 < d) && (topB kind e.op e.a e.ks.list.length && e.ks.okB kind (d - 1))
theorem Fo.okB_list (kind : Int) (f : Fo) (d : Nat) : f.okB kind d = f.list.all fun e => e.okB kind d := by
  induction f with
  | nil => rfl
  | cons o a k r _ ih => simp only [Fo.okB, Fo.list, ih, List.all_cons, Ex.okB]
def Ex.size (e : Ex) : Nat := 1 + e.ks.size
def exV (kind : Int) (e : Ex) : Bool := (decide (kind = 1) || decide (kind = 2)) && (e.okB kind 12 && decide (e.size ≤ 20))
theorem topB_len {kind o : Int} {a : ByteArray} {n : Nat} (h : topB kind o a n = true) : n ≤ 2 := by
  unfold topB at h
  split at h
  · simp at h; omega
  · split at h
    · simp at h; omega
    · split at h
      · simp at h; omega
      · split at h
        · simp at h; omega
        · simp at h
def Fo.sizes (l : List Ex) : Nat := (l.map Ex.size).sum
theorem Fo.size_list (f : Fo) : f.size = Fo.sizes f.list := by
  induction f with
  | nil => rfl
  | cons o a k r _ ih => simp only [Fo.size, Fo.list, ih, Fo.sizes, Ex.size, List.map_cons, List.sum_cons]; omega
theorem Fo.sizes_succ (xs : List Ex) (k : Nat) (h : k < xs.length) : Fo.sizes (xs.take (k + 1)) = Fo.sizes (xs.take k) + xs[k].size := by
  unfold Fo.sizes; rw [List.take_succ_eq_append_getElem h, List.map_append, List.sum_append]; simp only [List.map_cons, List.map_nil, List.sum_cons, List.sum_nil, Nat.add_zero]
theorem Fo.sizes_le (xs : List Ex) (k : Nat) : Fo.sizes (xs.take k) ≤ Fo.sizes xs := by
  unfold Fo.sizes
  have := congrArg (fun l => (l.map Ex.size).sum) (List.take_append_drop k xs)
  simp only [List.map_append, List.sum_append] at this; omega
theorem two_pow_le (d : Nat) : 1 ≤ 2 ^ d := Nat.one_le_two_pow
/-- A row of valid ones has few. -/
theorem Fo.size_ok (kind : Int) (f : Fo) : ∀ d : Nat, f.okB kind d = true → f.size ≤ f.list.length * (2 ^ d - 1) := by
  induction f with
  | nil => intro d _; exact Nat.zero_le _
  | cons o a k r ihk ihr =>
    intro d h
    unfold Fo.okB at h
    simp only [Bool.and_eq_true, decide_eq_true_eq] at h
    obtain ⟨⟨h1, h2, h3⟩, h4⟩ := h
    have g1 := ihk _ h3
    have g2 := ihr _ h4
    have g3 := topB_len h2
    have g4 : k.list.length * (2 ^ (d - 1) - 1) ≤ 2 * (2 ^ (d - 1) - 1) := Nat.mul_le_mul_right _ g3
    have g5 : 2 ^ d = 2 * 2 ^ (d - 1) := by rw [← Nat.pow_succ']; congr 1; omega
    have g6 := two_pow_le (d - 1)
    unfold Fo.size
    simp only [Fo.list, List.length_cons]
    rw [Nat.succ_mul]
    omega
theorem Ex.size_ok {kind : Int} {e : Ex} (h : e.okB kind 12 = true) : e.size ≤ 4095 := by
  unfold Ex.okB at h
  simp only [Bool.and_eq_true, decide_eq_true_eq] at h
  obtain ⟨h1, h2, h3⟩ := h
  have g1 := Fo.size_ok kind e.ks 11 h3
  have g3 := topB_len h2
  have g4 : e.ks.list.length * (2 ^ 11 - 1) ≤ 2 * (2 ^ 11 - 1) := Nat.mul_le_mul_right _ g3
  unfold Ex.size
  omega
end Go.Proofs.YtbbemeaojmfndaaDoor
