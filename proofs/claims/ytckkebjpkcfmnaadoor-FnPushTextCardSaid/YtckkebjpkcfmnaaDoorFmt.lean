/- The text of an expression, as data. -/
import Derived.Test.YtckkebjpkcfmnaaDoorHolds
namespace Go.Proofs.YtckkebjpkcfmnaaDoor
open Go.RowKit

def s1 (c : UInt8) : ByteArray := ⟨#[c]⟩
/-- A part's text, in brackets if it binds less than the operation l. -/
def partT (o : Int) (t : ByteArray) (l : Int) : ByteArray := if l < o then s1 40 ++ t ++ s1 41 else t
def nodeT (o : Int) (a : ByteArray) (l : List (Int × ByteArray)) : ByteArray :=
  if o = 2 then s1 37
  else if o = 3 then s1 33 ++ partT (l.getD 0 (0, a)).1 (l.getD 0 (0, a)).2 3
  else if o = 4 then partT (l.getD 0 (0, a)).1 (l.getD 0 (0, a)).2 4 ++ s1 38 ++ partT (l.getD 1 (0, a)).1 (l.getD 1 (0, a)).2 3
  else if o = 5 then partT (l.getD 0 (0, a)).1 (l.getD 0 (0, a)).2 5 ++ s1 124 ++ partT (l.getD 1 (0, a)).1 (l.getD 1 (0, a)).2 4
  else a
def Fo.txt : Fo → List (Int × ByteArray)
  | .nil => []
  | .cons o a k r => (o, nodeT o a k.txt) :: r.txt
def Ex.txt (e : Ex) : ByteArray := nodeT e.op e.a e.ks.txt
def Ex.part (e : Ex) (l : Int) : ByteArray := partT e.op e.txt l
theorem Fo.txt_list (f : Fo) : f.txt = f.list.map fun e => (e.op, e.txt) := by
  induction f with
  | nil => rfl
  | cons o a k r _ ih => simp only [Fo.txt, Fo.list, ih, List.map_cons]; rfl
theorem Fo.txt_get (f : Fo) (k : Nat) (hk : k < f.list.length) (d : Int × ByteArray) : f.txt.getD k d = (f.list[k].op, f.list[k].txt) := by
  rw [Fo.txt_list, List.getD_eq_getElem?_getD, List.getElem?_map, List.getElem?_eq_getElem hk]; rfl
theorem Ex.txt_atom {e : Ex} (h : e.op = 1) : e.txt = e.a := by
  unfold Ex.txt nodeT
  rw [if_neg (by omega), if_neg (by omega), if_neg (by omega), if_neg (by omega)]
theorem Ex.txt_any {e : Ex} (h : e.op = 2) : e.txt = s1 37 := by unfold Ex.txt nodeT; rw [if_pos h]
theorem Ex.txt_not {e : Ex} (h : e.op = 3) (hl : e.ks.list.length = 1) : e.txt = s1 33 ++ e.ks.list[0].part 3 := by
  show nodeT _ _ _ = _
  unfold nodeT
  rw [if_neg (by omega), if_pos h, Fo.txt_get e.ks 0 (by omega)]; rfl
theorem Ex.txt_and {e : Ex} (h : e.op = 4) (hl : e.ks.list.length = 2) : e.txt = e.ks.list[0].part 4 ++ s1 38 ++ e.ks.list[1].part 3 := by
  show nodeT _ _ _ = _
  unfold nodeT
  rw [if_neg (by omega), if_neg (by omega), if_pos h, Fo.txt_get e.ks 0 (by omega), Fo.txt_get e.ks 1 (by omega)]; rfl
theorem Ex.txt_or {e : Ex} (h : e.op = 5) (hl : e.ks.list.length = 2) : e.txt = e.ks.list[0].part 5 ++ s1 124 ++ e.ks.list[1].part 4 := by
  show nodeT _ _ _ = _
  unfold nodeT
  rw [if_neg (by omega), if_neg (by omega), if_neg (by omega), if_pos h, Fo.txt_get e.ks 0 (by omega), Fo.txt_get e.ks 1 (by omega)]; rfl
theorem s1_size (c : UInt8) : (s1 c).size = 1 := rfl
theorem partT_size (o : Int) (t : ByteArray) (l : Int) : (partT o t l).size ≤ t.size + 2 := by
  unfold partT
  split
  · rw [ByteArray.size_append, ByteArray.size_append, s1_size, s1_size]; omega
  · omega
theorem lv_size {s : ByteArray} (h : lv s = true) : s.size ≤ 6 := by
  unfold lv lvL at h
  simp only [Bool.and_eq_true, decide_eq_true_eq] at h
  have := h.1.2
  rw [len_toList] at this; exact this
theorem atom_size {kind : Int} {a : ByteArray} (h : atomB kind a = true) : a.size ≤ 6 := by
  unfold atomB at h
  split at h
  · exact lv_size h
  · unfold condB at h
    obtain ⟨⟨s, n⟩, hc⟩ := Option.isSome_iff_exists.1 h
    rw [cond_of] at hc
    cases hl : a.data.toList with
    | nil => rw [hl] at hc; cases hc
    | cons c r =>
      rw [hl] at hc
      have hs := size_of hl
      by_cases hcs : isS c = true
      · simp only [hcs, if_true] at hc
        obtain ⟨m, hm, e⟩ := Option.map_eq_some_iff.1 hc
        rcases num99_cases hm with ⟨d, rfl, _⟩ | ⟨d, e, rfl, _⟩ <;> simp at hs <;> omega
      · simp [hcs] at hc
theorem Ex.txt_size (kind : Int) (d : Nat) : ∀ e : Ex, e.okB kind d = true → e.txt.size + 5 ≤ 11 * 2 ^ d := by
  induction d with
  | zero => intro e h; rw [Ex.okB_zero] at h; cases h
  | succ d ih =>
    intro e h
    obtain ⟨_, htop, hk⟩ := Ex.okB_parts h
    simp only [Nat.add_sub_cancel] at hk
    have hp : 1 ≤ 2 ^ d := Nat.one_le_two_pow
    rw [Nat.pow_succ]
    rcases topB_cases htop with ⟨oo, hl, hat⟩ | ⟨oo, hl⟩ | ⟨oo, hl⟩ | ⟨oo, hl⟩ | ⟨oo, hl⟩
    · rw [Ex.txt_atom oo]; have := atom_size hat; omega
    · rw [Ex.txt_any oo, s1_size]; omega
    · rw [Ex.txt_not oo hl, ByteArray.size_append, s1_size]
      have h1 := ih _ (hk 0 (by omega))
      have h2 := partT_size e.ks.list[0].op e.ks.list[0].txt 3
      unfold Ex.part; omega
    · rw [Ex.txt_and oo hl, ByteArray.size_append, ByteArray.size_append, s1_size]
      have h1 := ih _ (hk 0 (by omega))
      have h2 := partT_size e.ks.list[0].op e.ks.list[0].txt 4
      have h3 := ih _ (hk 1 (by omega))
      have h4 := partT_size e.ks.list[1].op e.ks.list[1].txt 3
      unfold Ex.part; omega
    · rw [Ex.txt_or oo hl, ByteArray.size_append, ByteArray.size_append, s1_size]
      have h1 := ih _ (hk 0 (by omega))
      have h2 := partT_size e.ks.list[0].op e.ks.list[0].txt 5
      have h3 := ih _ (hk 1 (by omega))
      have h4 := partT_size e.ks.list[1].op e.ks.list[1].txt 4
      unfold Ex.part; omega
theorem Ex.txt_small {kind : Int} {d : Nat} {e : Ex} (h : e.okB kind d = true) (hd : d ≤ 12) : e.txt.size ≤ 50000 := by
  have h1 := Ex.txt_size kind d e h
  have h2 : 2 ^ d ≤ 2 ^ 12 := Nat.pow_le_pow_right (by decide) hd
  have h3 : (2 : Nat) ^ 12 = 4096 := rfl
  omega
def fmtE (kind : Int) (e : Ex) : ByteArray := if exV kind e then e.txt else ⟨#[]⟩
end Go.Proofs.YtckkebjpkcfmnaaDoor
