/- impl.OutEdges, impl.InEdges and the model's: the numbers of the edges that begin, or end, at a node. -/
import Derived.Test.YtfdkmngkpihpbaaMark
import Derived.Test.YtfdkmngkpihpbaaSGValid
namespace Go.Proofs.Ytfdkmngkpihpbaa
open Go.RowKit

theorem grown_of_below {w w' : World} (h : Below w.heap.size w w') : w.grownBy w' none := ⟨h.os, h.tape, h.output, h.size, fun k hk _ => h.block k hk⟩
theorem ownsRow_below {w w' : World} {base : Nat} {e : TypeId} {size : Nat} {v : Value} {n : Nat} {xs : List Value} (h : w.ownsRow base e size v n xs) (hb : Below w.heap.size w w') : w'.ownsRow base e size v n xs :=
  h.kept (grown_of_below hb) (Classical.em _)
theorem own_of_row {w : World} {base : Nat} {e : TypeId} {v : Value} {xs : List Int} (h : w.ownsRow base e 1 v xs.length (xs.map (Value.int .i64))) : ∃ F, OwnSl 1 intCells w v xs F ∧ ∀ x ∈ F, base ≤ x := by
  obtain ⟨hl, h⟩ := h
  rcases h with ⟨rfl, h0⟩ | ⟨g, cap, cur, rfl, hb, hg, hn, hc, hs, ht⟩
  · exact ⟨[], ⟨none, 0, 0, rfl, h0.symm, Nat.le_refl _, Nat.zero_le _, .inl ⟨List.eq_nil_of_length_eq_zero h0, rfl⟩⟩, by simp⟩
  · refine ⟨[g], ⟨_, _, _, rfl, rfl, hn, hc, .inr ⟨g, 0, rfl, rfl, (Array.getElem?_eq_some_iff.1 hg).1, fun o => by simp [World.frozen?, hg], fun i hi j x hx => ?_⟩⟩, by simpa using hb⟩
    have hj : j = 0 := by
      have := (List.getElem?_eq_some_iff.1 hx).1
      simp [intCells] at this; omega
    subst hj
    have hx' : x = .int .i64 xs[i] := by simpa [intCells] using hx.symm
    have e1 : (cur.toList.take (xs.length * 1))[i]? = some (.int .i64 xs[i]) := by rw [ht]; simp [hi]
    rw [List.getElem?_take_of_lt (by omega)] at e1
    simp only [World.cell?, hg, Nat.zero_add, Nat.mul_one, Nat.add_zero]
    rw [hx', ← e1]; simp

/-- The places i < k whose edge answers yes. -/
def pick (p : Ed → Bool) (es : List Ed) : Nat → List Int
  | 0 => []
  | k + 1 => if (es[k]?.map p).getD false then pick p es k ++ [(k : Int)] else pick p es k
theorem pick_yes {p : Ed → Bool} {es : List Ed} {k : Nat} (h : k < es.length) (hp : p es[k] = true) : pick p es (k + 1) = pick p es k ++ [(k : Int)] := by
  simp [pick, List.getElem?_eq_getElem h, hp]
theorem pick_no {p : Ed → Bool} {es : List Ed} {k : Nat} (h : k < es.length) (hp : p es[k] = false) : pick p es (k + 1) = pick p es k := by
  simp [pick, List.getElem?_eq_getElem h, hp]
theorem pick_le (p : Ed → Bool) (es : List Ed) : ∀ k, (pick p es k).length ≤ k
  | 0 => Nat.le_refl _
  | k + 1 => by have := pick_le p es k; unfold pick; split <;> simp <;> omega
theorem gv_len {g : Gr} (h : gv g = true) : g.es.length ≤ 14 := by
  unfold gv at h
  simp only [Bool.and_eq_true, decide_eq_true_eq] at h
  omega
theorem infoInt : (Try.prog.info? 3).map (fun i => (i.zero, i.size, i.bytes)) = some (some (.int .i64 0), 1, 8) := by kernel_rfl

def byOut (node : Int) (x : Ed) : Bool := x.f == node
def edgesOut (g : Gr) (node : Int) : List Int := if gv g then pick (byOut node) g.es g.es.length else []

def byIn (node : Int) (x : Ed) : Bool := x.t == node
def edgesIn (g : Gr) (node : Int) : List Int := if gv g then pick (byIn node) g.es g.es.length else []

end Go.Proofs.Ytfdkmngkpihpbaa
