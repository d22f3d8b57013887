/- Binds and matches: their data, and how they lie in memory. -/
import Derived.Test.YtggpnnoldjpmcaaKdTo
import Derived.Test.YtggpnnoldjpmcaaWk
namespace Go.Proofs.Ytggpnnoldjpmcaa
open Go.RowKit

structure Bn where
  v : ByteArray
  ids : List Int
  g : Bool
structure Mt where
  w : Wk
  bs : List Bn
def Bn.Ok (b : Bn) : Prop := b.v.size ≤ maxLen ∧ ∀ n ∈ b.ids, I64 n
def Mt.Ok (m : Mt) : Prop := m.w.Ok ∧ ∀ b ∈ m.bs, b.Ok
def Bn.need (b : Bn) : Nat := b.v.size + b.ids.length
def sumBn (xs : List Bn) : Nat := (xs.map Bn.need).sum
theorem sumBn_succ (xs : List Bn) (k : Nat) (h : k < xs.length) : sumBn (xs.take (k + 1)) = sumBn (xs.take k) + xs[k].need := by
  unfold sumBn; rw [List.take_succ_eq_append_getElem h, List.map_append, List.sum_append]; simp only [List.map_cons, List.map_nil, List.sum_cons, List.sum_nil, Nat.add_zero]
theorem sumBn_le (xs : List Bn) (k : Nat) : sumBn (xs.take k) ≤ sumBn xs := by
  unfold sumBn
  have := congrArg (fun l => (l.map Bn.need).sum) (List.take_append_drop k xs)
  simp only [List.map_append, List.sum_append] at this; omega
theorem sumBn_get (xs : List Bn) (k : Nat) (h : k < xs.length) : xs[k].need ≤ sumBn xs := by
  have := sumBn_succ xs k h; have := sumBn_le xs (k + 1); omega
def Mt.need (m : Mt) : Nat := m.w.need + (m.bs.length + sumBn m.bs)
def kBn : Kd Bn := (kStr.and (kInt.row.and kBool)).via fun b => (b.v, b.ids, b.g)
theorem kBn_rd {B : Nat} {w : World} {b : Bn} {cs : List Value} : kBn.rd B w b cs ↔ ∃ s, cs = [.string b.v, s, .bool b.g] ∧ Sl 1 intCells B w s b.ids := by
  constructor
  · rintro ⟨c, d, rfl, rfl, c', d', rfl, ⟨v, rfl, h⟩, rfl⟩
    exact ⟨v, rfl, kInt_rd.1 h⟩
  · rintro ⟨s, rfl, h⟩
    exact ⟨[.string b.v], [s, .bool b.g], rfl, rfl, [s], [.bool b.g], rfl, ⟨s, rfl, kInt_rd.2 h⟩, rfl⟩
theorem kBn_ow {w : World} {b : Bn} {cs : List Value} {F : List Nat} : kBn.ow w b cs F ↔ ∃ s, cs = [.string b.v, s, .bool b.g] ∧ OwnSl 1 intCells w s b.ids F := by
  constructor
  · rintro ⟨c, d, F1, F2, rfl, rfl, _, ⟨rfl, rfl⟩, c', d', F3, F4, rfl, rfl, _, ⟨v, rfl, h⟩, rfl, rfl⟩
    exact ⟨v, rfl, by simpa using kInt_ow.1 h⟩
  · rintro ⟨s, rfl, h⟩
    exact ⟨[.string b.v], [s, .bool b.g], [], F, rfl, rfl, by simp, ⟨rfl, rfl⟩, [s], [.bool b.g], F, [], rfl, by simp, by simp, ⟨s, rfl, kInt_ow.2 h⟩, rfl, rfl⟩
/-- An element's cells, at an index. -/
theorem kBn_get {B : Nat} {w : World} {p : Option Addr} {n cap : Nat} {xs : List Bn} (h : kBn.Rd B w (.slice p n cap) xs) {k : Nat} (hk : k < xs.length) :
    ∃ b off q c, p = some ⟨b, off, none⟩ ∧ b < B ∧ w.cell? ⟨b, off + k * 3, none⟩ = some (.string xs[k].v) ∧ w.cell? ⟨b, off + k * 3 + 1, none⟩ = some (.slice q xs[k].ids.length c) ∧ w.cell? ⟨b, off + k * 3 + 2, none⟩ = some (.bool xs[k].g) ∧ Sl 1 intCells B w (.slice q xs[k].ids.length c) xs[k].ids := by
  obtain ⟨b, off, cs, e, hl, hc, hr⟩ := h.get hk
  obtain ⟨s, rfl, hs⟩ := kBn_rd.1 hr
  obtain ⟨q, c, rfl⟩ := hs.form
  exact ⟨b, off, q, c, e, hl, hc 0 _ rfl, hc 1 _ rfl, hc 2 _ rfl, hs⟩
/-- The value of a struct Match. -/
def Mt.At (m : Mt) (B : Nat) (w : World) (v : Value) : Prop := ∃ a b c, v = .agg #[a, b, c] ∧ Sl 1 intCells B w a m.w.ns ∧ Sl 1 intCells B w b m.w.es ∧ kBn.Rd B w c m.bs
theorem Mt.At.to {m : Mt} {B B' : Nat} {w w' : World} {v : Value} (h : m.At B w v) (hb : Below B w w') (hB : B ≤ B') : m.At B' w' v := by
  obtain ⟨a, b, c, h1, h2, h3, h4⟩ := h
  exact ⟨a, b, c, h1, (h2.below hb).mono hB, (h3.below hb).mono hB, h4.to hb hB⟩
theorem Mt.At.form {m : Mt} {B : Nat} {w : World} {v : Value} (h : m.At B w v) : ∃ p c q d r e, v = .agg #[.slice p m.w.ns.length c, .slice q m.w.es.length d, .slice r m.bs.length e] := by
  obtain ⟨a, b, c, rfl, h1, h2, h3⟩ := h
  obtain ⟨p, c, rfl⟩ := h1.form
  obtain ⟨q, d, rfl⟩ := h2.form
  obtain ⟨r, e, rfl⟩ := h3.form
  exact ⟨p, c, q, d, r, e, rfl⟩
/-- A match in memory of the call's own, in the blocks F. -/
def Mt.Has (m : Mt) (v : Value) (F : List Nat) (u : World) : Prop :=
  ∃ a b c F1 F2, v = .agg #[a, b, c] ∧ F = F1 ++ F2 ∧ m.w.Has (.agg #[a, b]) F1 u ∧ kBn.Ow u c m.bs F2 ∧ ∀ y ∈ F1, y ∉ F2
theorem Mt.Has.at {m : Mt} {v : Value} {F : List Nat} {w : World} (h : m.Has v F w) : m.At w.heap.size w v := by
  obtain ⟨a, b, c, F1, F2, rfl, rfl, h1, h2, _⟩ := h
  obtain ⟨_, _, e, h3, h4⟩ := h1.at
  cases e
  exact ⟨a, b, c, rfl, h3, h4, h2.rd⟩
theorem Mt.Has.chg {m : Mt} {v : Value} {F G : List Nat} {w w' : World} (h : m.Has v F w) (hc : Chg G w w') (hd : ∀ y ∈ F, y ∉ G) : m.Has v F w' := by
  obtain ⟨a, b, c, F1, F2, rfl, rfl, h1, h2, h3⟩ := h
  exact ⟨a, b, c, F1, F2, rfl, rfl, h1.chg hc (fun y hy => hd y (List.mem_append_left _ hy)), h2.chg hc (fun y hy => hd y (List.mem_append_right _ hy)), h3⟩
theorem Mt.Has.lt {m : Mt} {v : Value} {F : List Nat} {w : World} (h : m.Has v F w) : ∀ y ∈ F, y < w.heap.size := by
  obtain ⟨a, b, c, F1, F2, rfl, rfl, h1, h2, h3⟩ := h
  intro y hy
  rcases List.mem_append.1 hy with hy | hy
  · exact h1.lt y hy
  · exact h2.lt y hy
theorem Mt.goes (m : Mt) : Goes m.Has := fun _ _ _ _ _ h hc hd => h.chg hc hd
end Go.Proofs.Ytggpnnoldjpmcaa
