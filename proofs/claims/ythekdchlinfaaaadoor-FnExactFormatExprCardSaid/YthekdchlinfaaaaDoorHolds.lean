/- What fits an expression: as data; impl.LabelHolds, impl.NumHolds. -/
import Derived.Test.YthekdchlinfaaaaDoorExV
import Derived.Test.YthekdchlinfaaaaDoorSExV
namespace Go.Proofs.YthekdchlinfaaaaDoor
open Go.RowKit

def nodeH (atom : ByteArray → Bool) (any : Bool) (o : Int) (a : ByteArray) (l : List Bool) : Bool :=
  if o = 2 then any else if o = 3 then !(l.getD 0 false) else if o = 4 then l.getD 0 false && l.getD 1 false else if o = 5 then l.getD 0 false || l.getD 1 false else atom a
def Fo.hold (atom : ByteArray → Bool) (any : Bool) : Fo → List Bool
  | .nil => []
  | .cons o a k r => nodeH atom any o a (k.hold atom any) :: r.hold atom any
def Ex.hold (atom : ByteArray → Bool) (any : Bool) (e : Ex) : Bool := nodeH atom any e.op e.a (e.ks.hold atom any)
theorem Fo.hold_list (atom : ByteArray → Bool) (any : Bool) (f : Fo) : f.hold atom any = f.list.map (Ex.hold atom any) := by
  induction f with
  | nil => rfl
  | cons o a k r _ ih => simp only [Fo.hold, Fo.list, ih, List.map_cons]; rfl
theorem Fo.hold_get (atom : ByteArray → Bool) (any : Bool) (f : Fo) (k : Nat) (hk : k < f.list.length) : (f.hold atom any).getD k false = f.list[k].hold atom any := by
  rw [Fo.hold_list, List.getD_eq_getElem?_getD, List.getElem?_map, List.getElem?_eq_getElem hk]; rfl
theorem Ex.hold_any (atom : ByteArray → Bool) (any : Bool) {e : Ex} (h : e.op = 2) : e.hold atom any = any := by unfold Ex.hold nodeH; rw [if_pos h]
theorem Ex.hold_not (atom : ByteArray → Bool) (any : Bool) {e : Ex} (h : e.op = 3) (hl : e.ks.list.length = 1) : e.hold atom any = !(e.ks.list[0].hold atom any) := by
  rw [← Fo.hold_get atom any e.ks 0 (by omega)]
  show nodeH _ _ _ _ _ = _
  unfold nodeH
  rw [if_neg (by omega), if_pos h]
theorem Ex.hold_and (atom : ByteArray → Bool) (any : Bool) {e : Ex} (h : e.op = 4) (hl : e.ks.list.length = 2) : e.hold atom any = (e.ks.list[0].hold atom any && e.ks.list[1].hold atom any) := by
  rw [← Fo.hold_get atom any e.ks 0 (by omega), ← Fo.hold_get atom any e.ks 1 (by omega)]
  show nodeH _ _ _ _ _ = _
  unfold nodeH
  rw [if_neg (by omega), if_neg (by omega), if_pos h]
theorem Ex.hold_or (atom : ByteArray → Bool) (any : Bool) {e : Ex} (h : e.op = 5) (hl : e.ks.list.length = 2) : e.hold atom any = (e.ks.list[0].hold atom any || e.ks.list[1].hold atom any) := by
  rw [← Fo.hold_get atom any e.ks 0 (by omega), ← Fo.hold_get atom any e.ks 1 (by omega)]
  show nodeH _ _ _ _ _ = _
  unfold nodeH
  rw [if_neg (by omega), if_neg (by omega), if_neg (by omega), if_pos h]
theorem Ex.hold_atom (atom : ByteArray → Bool) (any : Bool) {e : Ex} (h : e.op = 1) : e.hold atom any = atom e.a := by
  unfold Ex.hold nodeH
  rw [if_neg (by omega), if_neg (by omega), if_neg (by omega), if_neg (by omega)]
theorem Ex.okB_parts {kind : Int} {e : Ex} {d : Nat} (h : e.okB kind d = true) : 0 < d ∧ topB kind e.op e.a e.ks.list.length = true ∧ ∀ (k : Nat) (hk : k < e.ks.list.length), e.ks.list[k].okB kind (d - 1) = true := by
  unfold Ex.okB at h
  simp only [Bool.and_eq_true, decide_eq_true_eq] at h
  exact ⟨h.1, h.2.1, Fo.okB_get.1 h.2.2⟩
theorem topB_cases {kind o : Int} {a : ByteArray} {n : Nat} (h : topB kind o a n = true) :
    (o = 1 ∧ n = 0 ∧ atomB kind a = true) ∨ (o = 2 ∧ n = 0) ∨ (o = 3 ∧ n = 1) ∨ (o = 4 ∧ n = 2) ∨ (o = 5 ∧ n = 2) := by
  unfold topB at h
  by_cases o1 : o = 1
  · rw [if_pos o1] at h; simp at h; exact .inl ⟨o1, h⟩
  rw [if_neg o1] at h
  by_cases o2 : o = 2
  · rw [if_pos o2] at h; simp at h; exact .inr (.inl ⟨o2, h.1⟩)
  rw [if_neg o2] at h
  by_cases o3 : o = 3
  · rw [if_pos o3] at h; simp at h; exact .inr (.inr (.inl ⟨o3, h.1⟩))
  rw [if_neg o3] at h
  by_cases o4 : o = 4 ∨ o = 5
  · rw [if_pos o4] at h; simp at h
    rcases o4 with o4 | o5
    · exact .inr (.inr (.inr (.inl ⟨o4, h.1⟩)))
    · exact .inr (.inr (.inr (.inr ⟨o5, h.1⟩)))
  rw [if_neg o4] at h; cases h
def cmpB (s : UInt8) (n : Nat) (num : Int) : Bool := if s.toNat = 60 then decide (num < (n : Int)) else if s.toNat = 61 then num == (n : Int) else decide ((n : Int) < num)
def condH (num : Int) (a : ByteArray) : Bool := match condOf a.data.toList with | some (s, n) => cmpB s n num | none => false
def lholds (e : Ex) (s : ByteArray) : Bool := exV 1 e && (lbl s && e.hold (fun a => a.toList == s.toList) (!decide (s.size = 0)))
def nholds (e : Ex) (num : Int) : Bool := exV 2 e && (nm num && e.hold (condH num) true)

theorem condH_none {num : Int} {a : ByteArray} (h : condOf a.data.toList = none) : condH num a = false := by unfold condH; rw [h]
theorem condH_some {num : Int} {a : ByteArray} {s : UInt8} {n : Nat} (h : condOf a.data.toList = some (s, n)) : condH num a = cmpB s n num := by unfold condH; rw [h]
theorem condOf_sign {l : List UInt8} {s : UInt8} {n : Nat} (h : condOf l = some (s, n)) : isS s = true := by
  rw [cond_of] at h
  cases l with
  | nil => cases h
  | cons c r =>
    by_cases hc : isS c = true
    · simp only [hc, if_true] at h
      obtain ⟨m, _, e⟩ := Option.map_eq_some_iff.1 h
      cases e; exact hc
    · simp [hc] at h
theorem lholds_bad {e : Ex} {s : ByteArray} (h : exV 1 e = false) : lholds e s = false := by unfold lholds; rw [h]; rfl
theorem lholds_lbl {e : Ex} {s : ByteArray} (h : lbl s = false) : lholds e s = false := by unfold lholds; rw [h]; simp
theorem exV_ok {kind : Int} {e : Ex} (h : exV kind e = true) : e.okB kind 12 = true := by
  unfold exV at h; simp only [Bool.and_eq_true] at h; exact h.2.1
theorem nholds_bad {e : Ex} {n : Int} (h : exV 2 e = false) : nholds e n = false := by unfold nholds; rw [h]; rfl
theorem nholds_nm {e : Ex} {n : Int} (h : nm n = false) : nholds e n = false := by unfold nholds; rw [h]; simp
theorem nholds_ok {e : Ex} {n : Int} (h : exV 2 e = true) (hn : nm n = true) : nholds e n = e.hold (condH n) true := by unfold nholds; rw [h, hn]; rfl
end Go.Proofs.YthekdchlinfaaaaDoor
