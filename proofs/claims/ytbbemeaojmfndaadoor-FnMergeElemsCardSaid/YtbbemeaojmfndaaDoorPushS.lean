/- spec.l2Push. -/
import Derived.Test.YtbbemeaojmfndaaDoorM4q0p1
import Derived.Deep.RegionHeld3
namespace Go.Proofs.YtbbemeaojmfndaaDoor
open Go.RowKit

theorem Ex.Has.toS {e e' : Ex} {v : Value} {F : List Nat} {w : World} (h : e = e') (hh : e'.Has v F w) : e.Has v F w := h ▸ hh
def PushPS (e : Ex) (neg : Bool) (w : World) (en : Ending) (w' : World) : Prop := ∃ v' F, en = .returned v' ∧ (e.push neg).Has v' F w' ∧ (∀ x ∈ F, w.heap.size ≤ x) ∧ Below w.heap.size w w'
/-- What a call of a part leaves. -/
def ResS (x : Ex) (neg : Bool) (y : Ex) (v : Value) (F : List Nat) (W E w : World) : Prop := y = x.push neg ∧ y.ks.Own w v F ∧ (∀ z ∈ F, E.heap.size ≤ z) ∧ Below E.heap.size E w ∧ Below W.heap.size W E
theorem resS_of {x : Ex} {neg : Bool} {en : Ending} {W E w : World} (hE : Below W.heap.size W E) (h : PushPS x neg E en w) : ∃ y p n c F, en = .returned (.agg #[.int .i64 y.op, .string y.a, .slice p n c]) ∧ ResS x neg y (.slice p n c) F W E w := by
  obtain ⟨v, F, rfl, ⟨k, rfl, ho⟩, hF, hb⟩ := h
  obtain ⟨p, c, rfl⟩ := ho.in.form
  exact ⟨_, p, _, c, F, rfl, rfl, ho, hF, hb, hE⟩
theorem ResS.past {x : Ex} {neg : Bool} {y : Ex} {v : Value} {F : List Nat} {W E w : World} (h : ResS x neg y v F W E w) : Below W.heap.size W w := h.2.2.2.2.trans (h.2.2.2.1.mono h.2.2.2.2.size)
theorem twoS_fin {x0 x1 : Ex} {neg : Bool} {y0 y1 : Ex} {v0 v1 : Value} {F0 F1 : List Nat} {W w2 w3 : World} {k : Nat} {T : TypeId} (hC : Chg [k] w2 w3) (hs : w3.heap.size = w2.heap.size) (hk : k < W.heap.size)
    (h : (∃ E w1, ResS x0 neg y0 v0 F0 W E w1 ∧ ResS x1 neg y1 v1 F1 W w1 w2) ∨ (∃ E w1, ResS x1 neg y1 v1 F1 W E w1 ∧ ResS x0 neg y0 v0 F0 W w1 w2)) :
    (Fo.of [x0.push neg, x1.push neg]).Own (w3.alloc (.cells #[.int .i64 y0.op, .string y0.a, v0, .int .i64 y1.op, .string y1.a, v1] T)) (.slice (some ⟨w2.heap.size, 0, none⟩) 2 2) (w2.heap.size :: (F0 ++ F1)) ∧ ∀ z ∈ w2.heap.size :: (F0 ++ F1), W.heap.size ≤ z := by
  rcases h with ⟨E, w1, ⟨rfl, a2, a3, a4, a5⟩, rfl, b2, b3, b4, b5⟩ | ⟨E, w1, ⟨rfl, a2, a3, a4, a5⟩, rfl, b2, b3, b4, b5⟩
  · have ha := a2.lt
    have s1 := a4.size; have s2 := a5.size; have s3 := b4.size
    rw [← hs]
    refine ⟨own_two ((a2.below b4).chg hC fun z hz hz' => by have := a3 z hz; have := List.mem_singleton.1 hz'; omega) (b2.chg hC fun z hz hz' => by have := b3 z hz; have := List.mem_singleton.1 hz'; omega) fun z hz hz' => by have := ha z hz; have := b3 z hz'; omega, fun z hz => ?_⟩
    rcases List.mem_cons.1 hz with rfl | hz
    · omega
    · rcases List.mem_append.1 hz with hz | hz
      · have := a3 z hz; omega
      · have := b3 z hz; omega
  · have ha := a2.lt
    have s1 := a4.size; have s2 := a5.size; have s3 := b4.size
    rw [← hs]
    refine ⟨own_two (b2.chg hC fun z hz hz' => by have := b3 z hz; have := List.mem_singleton.1 hz'; omega) ((a2.below b4).chg hC fun z hz hz' => by have := a3 z hz; have := List.mem_singleton.1 hz'; omega) fun z hz hz' => by have := ha z hz'; have := b3 z hz; omega, fun z hz => ?_⟩
    rcases List.mem_cons.1 hz with rfl | hz
    · omega
    · rcases List.mem_append.1 hz with hz | hz
      · have := b3 z hz; omega
      · have := a3 z hz; omega
end Go.Proofs.YtbbemeaojmfndaaDoor
