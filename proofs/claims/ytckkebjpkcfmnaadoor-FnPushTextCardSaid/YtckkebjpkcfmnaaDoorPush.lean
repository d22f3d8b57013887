/- Negations pushed to atoms, as data; rows of one and of two expressions in memory that was made now. -/
import Derived.Test.YtckkebjpkcfmnaaDoorHolds
import Derived.Test.YtckkebjpkcfmnaaDoorExTo
namespace Go.Proofs.YtckkebjpkcfmnaaDoor
open Go.RowKit

def leafP (o : Int) (a : ByteArray) (neg : Bool) : Ex := if neg then ⟨3, ⟨#[]⟩, Fo.of [⟨o, a, .nil⟩]⟩ else ⟨o, a, .nil⟩
def pushN (neg : Bool) (o : Int) (a : ByteArray) (l : Bool → List Ex) : Ex :=
  if o = 3 then (l (!neg)).getD 0 ⟨0, a, .nil⟩
  else if o = 4 ∨ o = 5 then ⟨if neg then 9 - o else o, ⟨#[]⟩, Fo.of [(l neg).getD 0 ⟨0, a, .nil⟩, (l neg).getD 1 ⟨0, a, .nil⟩]⟩
  else leafP o a neg
def Fo.push : Fo → Bool → List Ex
  | .nil, _ => []
  | .cons o a k r, neg => pushN neg o a k.push :: r.push neg
def Ex.push (e : Ex) (neg : Bool) : Ex := pushN neg e.op e.a e.ks.push
theorem Fo.push_list (f : Fo) (neg : Bool) : f.push neg = f.list.map fun e => e.push neg := by
  induction f with
  | nil => rfl
  | cons o a k r _ ih => simp only [Fo.push, Fo.list, ih, List.map_cons]; rfl
theorem Fo.push_get (f : Fo) (k : Nat) (hk : k < f.list.length) (neg : Bool) (d : Ex) : (f.push neg).getD k d = f.list[k].push neg := by
  rw [Fo.push_list, List.getD_eq_getElem?_getD, List.getElem?_map, List.getElem?_eq_getElem hk]; rfl
theorem Ex.push_leaf {e : Ex} (neg : Bool) (h : e.op = 1 ∨ e.op = 2) : e.push neg = leafP e.op e.a neg := by
  unfold Ex.push pushN
  rw [if_neg (by omega), if_neg (by omega)]
theorem Ex.push_not {e : Ex} (neg : Bool) (h : e.op = 3) (hl : e.ks.list.length = 1) : e.push neg = e.ks.list[0].push (!neg) := by
  show pushN _ _ _ _ = _
  unfold pushN
  rw [if_pos h, Fo.push_get e.ks 0 (by omega)]
theorem Ex.push_two {e : Ex} (neg : Bool) (h : e.op = 4 ∨ e.op = 5) (hl : e.ks.list.length = 2) : e.push neg = ⟨if neg then 9 - e.op else e.op, ⟨#[]⟩, Fo.of [e.ks.list[0].push neg, e.ks.list[1].push neg]⟩ := by
  show pushN _ _ _ _ = _
  unfold pushN
  rw [if_neg (by omega), if_pos h, Fo.push_get e.ks 0 (by omega), Fo.push_get e.ks 1 (by omega)]

theorem Ex.Has.below {e : Ex} {v : Value} {F : List Nat} {w w' : World} (h : e.Has v F w) (hb : Below w.heap.size w w') : e.Has v F w' := h.chg (Chg.of_below hb []) (by simp)
theorem Ex.Has.lt {e : Ex} {v : Value} {F : List Nat} {w : World} (h : e.Has v F w) : ∀ x ∈ F, x < w.heap.size := by
  obtain ⟨k, _, h⟩ := h; exact h.lt
theorem cellsAt {w : World} {cs : Array Value} {T : TypeId} (i : Nat) : (w.alloc (.cells cs T)).cell? ⟨w.heap.size, i, none⟩ = cs[i]? := World.cell?_alloc_at cs T _ i rfl
/-- A row of one that was made now. -/
theorem own_one {e : Ex} {k : Value} {F : List Nat} {w : World} {T : TypeId} (h : e.ks.Own w k F) :
    (Fo.of [e]).Own (w.alloc (.cells #[.int .i64 e.op, .string e.a, k] T)) (.slice (some ⟨w.heap.size, 0, none⟩) 1 1) (w.heap.size :: F) := by
  have hb : Below w.heap.size w (w.alloc (.cells #[.int .i64 e.op, .string e.a, k] T)) := (Below.refl _ _).alloc (Nat.le_refl _) _
  have hlt := h.lt
  refine ⟨_, 1, by rw [Fo.list_of]; rfl, by rw [Fo.list_of]; exact Nat.le_refl _, by decide, .inr ⟨w.heap.size, F, rfl, rfl, fun hx => by have := hlt _ hx; omega, by simp, fun o => World.frozen?_alloc_at _ _ _ _ rfl, ?_⟩⟩
  refine Fo.orow_cons.2 ⟨?_, ?_, k, F, [], by simp, by simp, ?_, h.below hb, rfl⟩
  · exact cellsAt 0
  · exact cellsAt 1
  · exact cellsAt 2
/-- A row of two that was made now. -/
theorem own_two {e f : Ex} {k l : Value} {F G : List Nat} {w : World} {T : TypeId} (h : e.ks.Own w k F) (g : f.ks.Own w l G) (hd : ∀ x ∈ F, x ∉ G) :
    (Fo.of [e, f]).Own (w.alloc (.cells #[.int .i64 e.op, .string e.a, k, .int .i64 f.op, .string f.a, l] T)) (.slice (some ⟨w.heap.size, 0, none⟩) 2 2) (w.heap.size :: (F ++ G)) := by
  have hb : Below w.heap.size w (w.alloc (.cells #[.int .i64 e.op, .string e.a, k, .int .i64 f.op, .string f.a, l] T)) := (Below.refl _ _).alloc (Nat.le_refl _) _
  have h1 := h.lt
  have h2 := g.lt
  refine ⟨_, 2, by rw [Fo.list_of]; rfl, by rw [Fo.list_of]; exact Nat.le_refl _, by decide, .inr ⟨w.heap.size, F ++ G, rfl, rfl, fun hx => ?_, by simp, fun o => World.frozen?_alloc_at _ _ _ _ rfl, ?_⟩⟩
  · rcases List.mem_append.1 hx with hx | hx
    · have := h1 _ hx; omega
    · have := h2 _ hx; omega
  · refine Fo.orow_cons.2 ⟨cellsAt 0, cellsAt 1, k, F, G, rfl, hd, cellsAt 2, h.below hb, ?_⟩
    refine Fo.orow_cons.2 ⟨cellsAt 3, cellsAt 4, l, G, [], by simp, by simp, cellsAt 5, g.below hb, rfl⟩
end Go.Proofs.YtckkebjpkcfmnaaDoor
