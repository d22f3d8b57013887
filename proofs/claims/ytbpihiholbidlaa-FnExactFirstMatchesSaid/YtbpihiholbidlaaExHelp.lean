/- Contracts of the laws' helpers on expressions: sizes, copies, equality. -/
import Derived.Test.YtbpihiholbidlaaM0q0p1
namespace Go.Proofs.Ytbpihiholbidlaa
open Go.RowKit

/-- An induction by the parts at each place. -/
theorem Fo.by_parts {P : Fo → Prop} (step : ∀ f : Fo, (∀ (k : Nat) (hk : k < f.list.length), P f.list[k].ks) → P f) (f : Fo) : P f := by
  have key : ∀ (n : Nat) (f : Fo), f.size < n → P f := by
    intro n
    induction n with
    | zero => intro f h; omega
    | succ n ih => intro f h; exact step f fun k hk => ih _ (by have := f.size_get k hk; omega)
  exact key (f.size + 1) f (by omega)

def Fo.need : Fo → Nat
  | .nil => 0
  | .cons _ a k r => 1 + a.size + k.need + r.need
def exNeed (e : Ex) : Nat := e.a.size + e.ks.need
def sumEx (l : List Ex) : Nat := (l.map exNeed).sum
theorem Fo.need_eq (f : Fo) : f.need = f.list.length + sumEx f.list := by
  induction f with
  | nil => rfl
  | cons o a k r _ ih => simp only [Fo.need, Fo.list, ih, sumEx, exNeed, List.map_cons, List.sum_cons, List.length_cons]; omega
theorem Fo.size_need (f : Fo) : f.size ≤ f.need := by
  induction f with
  | nil => exact Nat.le_refl _
  | cons o a k r ih1 ih2 => simp only [Fo.need, Fo.size]; omega
theorem sumEx_succ (xs : List Ex) (k : Nat) (h : k < xs.length) : sumEx (xs.take (k + 1)) = sumEx (xs.take k) + exNeed xs[k] := by
  unfold sumEx; rw [List.take_succ_eq_append_getElem h, List.map_append, List.sum_append]; simp only [List.map_cons, List.map_nil, List.sum_cons, List.sum_nil, Nat.add_zero]

end Go.Proofs.Ytbpihiholbidlaa
