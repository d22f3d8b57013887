/- What the laws keep of a variable that holds data in memory of the call's own. -/
import Derived.Test.YtfdkmngkpihpbaaBox
namespace Go.Proofs.Ytfdkmngkpihpbaa
open Go.RowKit

/-- A variable in block k with the cells cs, whose data P says, in the blocks F. -/
def LocV (P : Value → List Nat → World → Prop) (k : Nat) (cs : Array Value) (F : List Nat) (u : World) : Prop :=
  k < u.heap.size ∧ (∀ i x, cs[i]? = some x → u.cell? ⟨k, i, none⟩ = some x) ∧ P (.agg cs) F u
/-- P goes on to hold while other blocks change. -/
def Goes (P : Value → List Nat → World → Prop) : Prop := ∀ (v : Value) (F G : List Nat) (u u' : World), P v F u → Chg G u u' → (∀ x ∈ F, x ∉ G) → P v F u'
theorem LocV.chg {P : Value → List Nat → World → Prop} (hP : Goes P) {k : Nat} {cs : Array Value} {F G : List Nat} {u u' : World} (h : LocV P k cs F u) (hc : Chg G u u') (hk : k ∉ G) (hF : ∀ x ∈ F, x ∉ G) : LocV P k cs F u' :=
  ⟨Nat.lt_of_lt_of_le h.1 hc.size, fun i x hx => (World.cell?_of_block (w := u) (a := ⟨k, i, none⟩) (hc.block k h.1 hk)).trans (h.2.1 i x hx), hP _ _ _ _ _ h.2.2 hc hF⟩
theorem LocV.below {P : Value → List Nat → World → Prop} (hP : Goes P) {k : Nat} {cs : Array Value} {F : List Nat} {u u' : World} (h : LocV P k cs F u) (hb : Below u.heap.size u u') : LocV P k cs F u' :=
  h.chg hP (Chg.of_below hb []) (by simp) (by simp)
theorem LocV.fresh {P : Value → List Nat → World → Prop} (hP : Goes P) {cs : Array Value} {F : List Nat} {T : TypeId} {w : World} (h : P (.agg cs) F w) : LocV P w.heap.size cs F (w.alloc (.cells cs T)) :=
  ⟨by simp, fun i x hx => (World.cell?_alloc_at cs T _ i rfl).trans hx, hP _ _ [] _ _ h (Chg.of_below ((Below.refl _ _).alloc (Nat.le_refl _) _) []) (by simp)⟩
/-- The same cells, other data, where the data's blocks alone have changed. -/
theorem LocV.turn {P Q : Value → List Nat → World → Prop} {k : Nat} {cs : Array Value} {F : List Nat} {u u' : World} (h : LocV P k cs F u) (hc : Chg F u u') (hk : k ∉ F) (hq : Q (.agg cs) F u') : LocV Q k cs F u' :=
  ⟨Nat.lt_of_lt_of_le h.1 hc.size, fun i x hx => (World.cell?_of_block (w := u) (a := ⟨k, i, none⟩) (hc.block k h.1 hk)).trans (h.2.1 i x hx), hq⟩
theorem Ex.At.form {e : Ex} {B : Nat} {w : World} {v : Value} (h : e.At B w v) : ∃ p cap, v = .agg #[.int .i64 e.op, .string e.a, .slice p e.ks.list.length cap] := by
  obtain ⟨k, rfl, hk⟩ := h
  obtain ⟨p, cap, rfl⟩ := hk.form
  exact ⟨p, cap, rfl⟩
theorem Ex.goes (e : Ex) : Goes e.Has := fun _ _ _ _ _ h hc hd => h.chg hc hd
end Go.Proofs.Ytfdkmngkpihpbaa
