/- Lemmas on the data and the memory of this program's values: several texts in one. -/
import Derived.Test.YtfdkmngkpihpbaaM0q0p1
import Derived.Test.YtfdkmngkpihpbaaCopy
import Derived.Test.YtfdkmngkpihpbaaM0q0p2
import Derived.Test.YtfdkmngkpihpbaaM0q0p3
import Derived.Deep.RegionHeld3
import Derived.Deep.DeepCutAuto
namespace Go.Proofs.Ytfdkmngkpihpbaa
open Go.RowKit

/-- An element's cells. -/
def RawC (n : Nat) : Type := {l : List Value // l.length = n ∧ ∀ u ∈ l, u.oneCell' = true}
def rawE {n : Nat} (r : RawC n) : List Value := r.1
theorem rawE_len {n : Nat} (r : RawC n) : (rawE r).length = n := r.2.1
theorem rawE_one {n : Nat} (r : RawC n) : ∀ u ∈ rawE r, u.oneCell' = true := r.2.2
namespace Kd
variable {α : Type}
def Ows (K : Kd α) (w : World) : List α → List (RawC K.sz) → List Nat → Prop
  | [], [], F => F = []
  | x :: xs, r :: rs, F => ∃ F1 F2, F = F1 ++ F2 ∧ (∀ y ∈ F1, y ∉ F2) ∧ K.ow w x (rawE r) F1 ∧ Ows K w xs rs F2
  | _, _, _ => False
theorem Ows.len {K : Kd α} {w : World} : ∀ {xs : List α} {rs : List (RawC K.sz)} {F : List Nat}, K.Ows w xs rs F → rs.length = xs.length
  | [], [], _, _ => rfl
  | x :: xs, r :: rs, F, h => by
    obtain ⟨F1, F2, _, _, _, h2⟩ := h
    simp [Ows.len h2]
  | [], _ :: _, _, h => h.elim
  | _ :: _, [], _, h => h.elim
theorem Ows.lt {K : Kd α} {w : World} : ∀ {xs : List α} {rs : List (RawC K.sz)} {F : List Nat}, K.Ows w xs rs F → ∀ y ∈ F, y < w.heap.size
  | [], [], _, h, y, hy => by cases h; simp at hy
  | x :: xs, r :: rs, F, h, y, hy => by
    obtain ⟨F1, F2, rfl, _, h1, h2⟩ := h
    rcases List.mem_append.1 hy with hy | hy
    · exact K.ow_lt h1 y hy
    · exact Ows.lt h2 y hy
  | [], _ :: _, _, h, _, _ => h.elim
  | _ :: _, [], _, h, _, _ => h.elim
theorem Ows.chg {K : Kd α} {w w' : World} {G : List Nat} (hc : Chg G w w') : ∀ {xs : List α} {rs : List (RawC K.sz)} {F : List Nat}, K.Ows w xs rs F → (∀ y ∈ F, y ∉ G) → K.Ows w' xs rs F
  | [], [], _, h, _ => h
  | x :: xs, r :: rs, F, h, hd => by
    obtain ⟨F1, F2, rfl, hdj, h1, h2⟩ := h
    exact ⟨F1, F2, rfl, hdj, K.ow_chg h1 hc (fun y hy => hd y (List.mem_append_left _ hy)), Ows.chg hc h2 (fun y hy => hd y (List.mem_append_right _ hy))⟩
  | [], _ :: _, _, h, _ => h.elim
  | _ :: _, [], _, h, _ => h.elim
theorem Ows.snoc {K : Kd α} {w : World} {y : α} {r : RawC K.sz} {G : List Nat} (hy : K.ow w y (rawE r) G) : ∀ {xs : List α} {rs : List (RawC K.sz)} {F : List Nat}, K.Ows w xs rs F → (∀ x ∈ F, x ∉ G) → K.Ows w (xs ++ [y]) (rs ++ [r]) (F ++ G)
  | [], [], F, h, _ => by
    cases h
    exact ⟨G, [], by simp, by simp, hy, rfl⟩
  | x :: xs, q :: rs, F, h, hd => by
    obtain ⟨F1, F2, rfl, hdj, h1, h2⟩ := h
    refine ⟨F1, F2 ++ G, by simp, fun z hz hm => ?_, h1, Ows.snoc hy h2 (fun z hz => hd z (List.mem_append_right _ hz))⟩
    rcases List.mem_append.1 hm with hm | hm
    · exact hdj z hz hm
    · exact hd z (List.mem_append_left _ hz) hm
  | [], _ :: _, _, h, _ => h.elim
  | _ :: _, [], _, h, _ => h.elim
theorem Ows.orow {K : Kd α} {w : World} : ∀ {xs : List α} {rs : List (RawC K.sz)} {F : List Nat} {c : Nat → Option Value}, K.Ows w xs rs F → (∀ j u, (flat rawE rs)[j]? = some u → c j = some u) → K.ORow w xs c F
  | [], [], F, c, h, _ => h
  | x :: xs, r :: rs, F, c, h, hc => by
    obtain ⟨F1, F2, rfl, hdj, h1, h2⟩ := h
    have hfl : flat rawE (r :: rs) = rawE r ++ flat rawE rs := by simp [flat]
    rw [hfl] at hc
    refine ⟨rawE r, F1, F2, rfl, hdj, fun j u hu => hc j u ?_, h1, Ows.orow h2 fun j u hu => hc (j + K.sz) u ?_⟩
    · rw [List.getElem?_append_left (List.getElem?_eq_some_iff.1 hu).1]; exact hu
    · rw [List.getElem?_append_right (by rw [rawE_len]; omega), rawE_len]
      simpa using hu
  | [], _ :: _, _, _, h, _ => h.elim
  | _ :: _, [], _, _, h, _ => h.elim
/-- As Ow, and the whole block is known. -/
def OwB (K : Kd α) (e : TypeId) (w : World) (v : Value) (xs : List α) (F : List Nat) : Prop :=
  ∃ rs F1 F2, F = F1 ++ F2 ∧ (∀ y ∈ F1, y ∉ F2) ∧ OwnB K.sz rawE e w v rs F1 ∧ K.Ows w xs rs F2
theorem OwB.lt {K : Kd α} {e : TypeId} {w : World} {v : Value} {xs : List α} {F : List Nat} (h : K.OwB e w v xs F) : ∀ y ∈ F, y < w.heap.size := by
  obtain ⟨rs, F1, F2, rfl, _, h1, h2⟩ := h
  intro y hy
  rcases List.mem_append.1 hy with hy | hy
  · exact h1.lt y hy
  · exact h2.lt y hy
theorem OwB.chg {K : Kd α} {e : TypeId} {w w' : World} {v : Value} {xs : List α} {F G : List Nat} (h : K.OwB e w v xs F) (hc : Chg G w w') (hd : ∀ y ∈ F, y ∉ G) : K.OwB e w' v xs F := by
  obtain ⟨rs, F1, F2, rfl, hdj, h1, h2⟩ := h
  exact ⟨rs, F1, F2, rfl, hdj, h1.chg hc (fun y hy => hd y (List.mem_append_left _ hy)), h2.chg hc (fun y hy => hd y (List.mem_append_right _ hy))⟩
theorem OwB.below {K : Kd α} {e : TypeId} {w w' : World} {v : Value} {xs : List α} {F : List Nat} (h : K.OwB e w v xs F) (hc : Below w.heap.size w w') : K.OwB e w' v xs F := h.chg (Chg.of_below hc []) (by simp)
theorem OwB.form {K : Kd α} {e : TypeId} {w : World} {v : Value} {xs : List α} {F : List Nat} (h : K.OwB e w v xs F) : ∃ p cap, v = .slice p xs.length cap := by
  obtain ⟨rs, F1, F2, rfl, _, ⟨p, cap, rfl, _⟩, h2⟩ := h
  rw [h2.len]; exact ⟨p, cap, rfl⟩
theorem OwB.nil (K : Kd α) (e : TypeId) (w : World) (p : Option Addr) : K.OwB e w (.slice p 0 0) [] [] :=
  ⟨[], [], [], rfl, by simp, ⟨p, 0, rfl, Nat.le_refl _, Nat.zero_le _, .inl ⟨rfl, rfl, rfl⟩⟩, rfl⟩
theorem OwB.ow {K : Kd α} {e : TypeId} {w : World} {v : Value} {xs : List α} {F : List Nat} (h : K.OwB e w v xs F) : K.Ow w v xs F := by
  obtain ⟨rs, F1, F2, rfl, hdj, ⟨p, cap, rfl, h2, h3, h4⟩, ho⟩ := h
  have hlen := ho.len
  rw [hlen] at h2 ⊢
  refine ⟨p, cap, rfl, h2, h3, ?_⟩
  rcases h4 with ⟨rfl, rfl, _⟩ | ⟨b, cur, rfl, rfl, hg, hs, ht⟩
  · have hx : xs = [] := List.eq_nil_of_length_eq_zero hlen.symm
    subst hx
    cases ho
    exact .inl ⟨rfl, rfl⟩
  · refine .inr ⟨b, 0, F2, rfl, rfl, hdj b (by simp), (Array.getElem?_eq_some_iff.1 hg).1, fun o => by simp [World.frozen?, hg], ho.orow fun j u hu => ?_⟩
    have hj : j < (flat rawE rs).length := (List.getElem?_eq_some_iff.1 hu).1
    have hc : cur.toList[j]? = some u := by
      have hl := flat_length (enc := rawE) (fun r : RawC K.sz => rawE_len r) rs
      rw [← hu, ← ht, List.getElem?_take_of_lt (by omega)]
    simpa [World.cell?, hg] using hc
/-- One more, behind the others. -/
theorem OwB.append {K : Kd α} {w : World} {v : Value} {xs : List α} {F : List Nat}
    (t ty e : TypeId) (i : TypeInfo) (z : Value) (bytes : Nat) (ht : Try.prog.underlying t = some (.slice e)) (hi : Try.prog.info? e = some i) (hz : i.zero = some z) (hsz : i.size = K.sz) (hby : i.bytes = bytes) (hzs : z.cells.size = K.sz)
    (h : K.OwB e w v xs F) (y : α) (cs : List Value) (G : List Nat) (g c : Nat) (ho : K.ow w y cs G) (hone : ∀ u ∈ cs, u.oneCell' = true) (hd : ∀ x ∈ F, x ∉ G) (hy : ∀ j u, cs[j]? = some u → w.cell? ⟨g, j, none⟩ = some u) (h63 : xs.length < 3000000) (hbytes : (xs.length + 1) * bytes ≤ 140737488355328) :
    ∃ v' w', (Builtin.append_ #[t, t] ty #[v, .slice (some ⟨g, 0, none⟩) 1 c]).run Try.prog w = .ok v' w' ∧ ∃ F', K.OwB e w' v' (xs ++ [y]) F' ∧ (∀ x ∈ F', x ∈ F ∨ x ∈ G ∨ w.heap.size ≤ x) ∧ Chg F w w' := by
  have hsub := h
  obtain ⟨rs, F1, F2, rfl, hdj, h1, h2⟩ := h
  have hlen := h2.len
  obtain ⟨r, hr⟩ : ∃ r : RawC K.sz, rawE r = cs := ⟨⟨cs, K.rd_len (K.ow_rd ho), hone⟩, rfl⟩
  obtain ⟨v', w', hrun, F', ho', hF', hc'⟩ := OwnB.append (enc := rawE) (fun r : RawC K.sz => rawE_len r) (fun r u hu => rawE_one r u hu) t ty e i z bytes ht hi hz hsz hby hzs h1 r g c (by rw [hr]; exact hy) (by rw [hlen]; exact h63) (by rw [hlen]; exact hbytes)
  have hG := K.ow_lt ho
  have hF2 := h2.lt
  have o2 := h2.chg hc' (fun x hx hx1 => hdj x hx1 hx)
  have oG := K.ow_chg ho hc' (fun x hx hx1 => hd x (List.mem_append_left _ hx1) hx)
  rw [← hr] at oG
  refine ⟨v', w', hrun, F' ++ (F2 ++ G), ⟨_, F', F2 ++ G, rfl, fun x hx hm => ?_, ho', o2.snoc oG (fun x hx => hd x (List.mem_append_right _ hx))⟩, fun x hx => ?_, hc'.mono fun x hx => List.mem_append_left _ hx⟩
  · rcases hF' x hx with h | h
    · rcases List.mem_append.1 hm with hm | hm
      · exact hdj x h hm
      · exact hd x (List.mem_append_left _ h) hm
    · rcases List.mem_append.1 hm with hm | hm
      · have := hF2 x hm; omega
      · have := hG x hm; omega
  · rcases List.mem_append.1 hx with hx | hx
    · rcases hF' x hx with h | h
      · exact .inl (List.mem_append_left _ h)
      · exact .inr (.inr h)
    · rcases List.mem_append.1 hx with hx | hx
      · exact .inl (List.mem_append_right _ hx)
      · exact .inr (.inl hx)
/-- An element's own memory changes. -/
theorem Ows.upd {K : Kd α} {w : World} : ∀ {xs : List α} {rs : List (RawC K.sz)} {F : List Nat}, K.Ows w xs rs F → ∀ (k : Nat) (hk : k < xs.length) (hk' : k < rs.length), ∃ G, (∀ y ∈ G, y ∈ F) ∧ K.ow w xs[k] (rawE rs[k]) G ∧
    ∀ (w' : World) (x' : α), Chg G w w' → K.ow w' x' (rawE rs[k]) G → K.Ows w' (xs.set k x') rs F
  | [], [], _, _, k, hk, _ => by simp at hk
  | x :: xs, r :: rs, F, h, k, hk, hk' => by
    obtain ⟨F1, F2, rfl, hdj, h1, h2⟩ := h
    cases k with
    | zero => exact ⟨F1, fun y hy => List.mem_append_left _ hy, h1, fun w' x' hc ho => ⟨F1, F2, rfl, hdj, ho, h2.chg hc (fun y hy hy1 => hdj y hy1 hy)⟩⟩
    | succ k =>
      obtain ⟨G, g1, g2, g3⟩ := Ows.upd h2 k (by simpa using hk) (by simpa using hk')
      exact ⟨G, fun y hy => List.mem_append_right _ (g1 y hy), by simpa using g2, fun w' x' hc ho => ⟨F1, F2, rfl, hdj, K.ow_chg h1 hc (fun y hy hy1 => hdj y hy (g1 y hy1)), g3 w' x' hc (by simpa using ho)⟩⟩
  | [], _ :: _, _, h, _, _, _ => h.elim
  | _ :: _, [], _, h, _, _, _ => h.elim
/-- An element of a row whose block is known: its cells, its own memory, and the row after it has changed there. -/
theorem OwB.upd {K : Kd α} {e : TypeId} {w : World} {v : Value} {xs : List α} {F : List Nat} (h : K.OwB e w v xs F) {k : Nat} (hk : k < xs.length) :
    ∃ (b : Nat) (cap : Nat) (cs : List Value) (G : List Nat), v = .slice (some ⟨b, 0, none⟩) xs.length cap ∧ cap ≤ maxLen ∧ b < w.heap.size ∧ b ∉ G ∧ (∀ y ∈ G, y ∈ F) ∧ (∀ j u, cs[j]? = some u → w.cell? ⟨b, k * K.sz + j, none⟩ = some u) ∧ K.ow w xs[k] cs G ∧
      ∀ (w' : World) (x' : α), Chg G w w' → K.ow w' x' cs G → K.OwB e w' v (xs.set k x') F := by
  obtain ⟨rs, F1, F2, rfl, hdj, h1, h2⟩ := h
  have hlen := h2.len
  have hk' : k < rs.length := by omega
  obtain ⟨G, g1, g2, g3⟩ := h2.upd k hk hk'
  have h1' := h1
  obtain ⟨p, cap, rfl, hc1, hc2, h4⟩ := h1
  rcases h4 with ⟨rfl, _, _⟩ | ⟨b, cur, rfl, rfl, hg, hs, ht⟩
  · simp at hk'
  · refine ⟨b, cap, rawE rs[k], G, by rw [hlen], hc2, (Array.getElem?_eq_some_iff.1 hg).1, fun hb => hdj b (by simp) (g1 b hb), fun y hy => List.mem_append_right _ (g1 y hy), fun j u hu => ?_, g2, fun w' x' hc ho => ⟨rs, [b], F2, rfl, hdj, h1'.chg hc (fun y hy hy1 => by simp at hy; subst hy; exact hdj y (by simp) (g1 y hy1)), g3 w' x' hc ho⟩⟩
    have hf := flat_at (enc := rawE) (fun r : RawC K.sz => rawE_len r) rs k hk' j u hu
    have hj : k * K.sz + j < (flat rawE rs).length := (List.getElem?_eq_some_iff.1 hf).1
    have hl := flat_length (enc := rawE) (fun r : RawC K.sz => rawE_len r) rs
    have hc : cur.toList[k * K.sz + j]? = some u := by
      rw [← hf, ← ht, List.getElem?_take_of_lt (by omega)]
    simpa [World.cell?, hg] using hc
end Kd
end Go.Proofs.Ytfdkmngkpihpbaa
namespace Go.Proofs.Ytfdkmngkpihpbaa
open Go.RowKit

/-- One more row, behind the others. -/
theorem appRow {w : World} {v : Value} {xs : List (List Int)} {F : List Nat} (h : kRow.OwB 23 w v xs F) (ty : TypeId) (y : List Int) (p : Option Addr) (c0 : Nat) (G : List Nat) (g c : Nat) (ho : OwnSl 1 intCells w (.slice p y.length c0) y G) (hd : ∀ x ∈ F, x ∉ G)
    (h0 : w.cell? ⟨g, 0, none⟩ = some (.slice p y.length c0)) (h63 : xs.length ≤ 1048576) :
    ∃ v' w', (Builtin.append_ #[31, 31] ty #[v, .slice (some ⟨g, 0, none⟩) 1 c]).run Try.prog w = .ok v' w' ∧ ∃ F', kRow.OwB 23 w' v' (xs ++ [y]) F' ∧ (∀ x ∈ F', x ∈ F ∨ x ∈ G ∨ w.heap.size ≤ x) ∧ Chg F w w' := by
  obtain ⟨i, hi, hzz⟩ := Option.map_eq_some_iff.1 infoRowT
  simp only [Prod.mk.injEq] at hzz
  obtain ⟨hz, hs, hb⟩ := hzz
  refine Kd.OwB.append (K := kRow) 31 ty 23 i _ 24 Try.underlying31 hi hz hs hb rfl h y [.slice p y.length c0] G g c ⟨_, rfl, kInt_ow.2 ho⟩ ?_ hd ?_ (by omega) (by omega)
  · intro u hu
    simp only [List.mem_cons, List.not_mem_nil, or_false] at hu
    subst hu; rfl
  · intro j u hu
    match j, hu with
    | 0, hu => simp at hu; subst hu; exact h0
    | j + 1, hu => simp at hu
/-- The variable in block k holds the names cs and the rows ys, in memory of the call's own from lo on. -/
def TAcc (cs : List ByteArray) (ys : List (List Int)) (k lo : Nat) (a b : Value) (u : World) : Prop :=
  (lo ≤ k ∧ k < u.heap.size) ∧ (u.cell? ⟨k, 0, none⟩ = some a ∧ u.cell? ⟨k, 1, none⟩ = some b) ∧ (u.frozen? ⟨k, 0, none⟩ = false ∧ u.frozen? ⟨k, 1, none⟩ = false) ∧
    ∃ F1 F2, kStr.Ow u a cs F1 ∧ kRow.OwB 23 u b ys F2 ∧ (∀ y ∈ F1, lo ≤ y ∧ y ≠ k) ∧ (∀ y ∈ F2, lo ≤ y ∧ y ≠ k) ∧ ∀ y ∈ F1, y ∉ F2
section
variable {cs : List ByteArray} {ys : List (List Int)} {k lo : Nat} {a b : Value} {u u' : World}
theorem TAcc.below (h : TAcc cs ys k lo a b u) (hb : Below u.heap.size u u') : TAcc cs ys k lo a b u' := by
  obtain ⟨⟨h1, h2⟩, ⟨h3, h4⟩, ⟨h5, h6⟩, F1, F2, h7, h8, h9⟩ := h
  exact ⟨⟨h1, Nat.lt_of_lt_of_le h2 hb.size⟩, ⟨keepc hb h2 h3, keepc hb h2 h4⟩, ⟨(hb.frozen (p := ⟨k, 0, none⟩) h2).trans h5, (hb.frozen (p := ⟨k, 1, none⟩) h2).trans h6⟩, F1, F2, h7.below hb, h8.below hb, h9⟩
theorem TAcc.form (h : TAcc cs ys k lo a b u) : ∃ p c q d, a = .slice p cs.length c ∧ b = .slice q ys.length d := by
  obtain ⟨_, _, _, F1, F2, h7, h8, _⟩ := h
  obtain ⟨p, c, rfl⟩ := h7.form
  obtain ⟨q, d, rfl⟩ := h8.form
  exact ⟨p, c, q, d, rfl, rfl⟩
theorem TAcc.has (h : TAcc cs ys k lo a b u) : ∃ F, (Tb.mk cs ys).Has (.agg #[a, b]) F u ∧ ∀ y ∈ F, lo ≤ y ∧ y ≠ k := by
  obtain ⟨_, _, _, F1, F2, h7, h8, h9, h10, h11⟩ := h
  refine ⟨F1 ++ F2, ⟨a, b, F1, F2, rfl, rfl, h7, h8.ow, h11⟩, fun y hy => ?_⟩
  rcases List.mem_append.1 hy with hy | hy
  · exact h9 y hy
  · exact h10 y hy
/-- One more row. -/
theorem TAcc.app {E : World} (h : TAcc cs ys k lo a b u) (hE : Below u.heap.size u E) (ty : TypeId) (y : List Int) (q : Option Addr) (c0 : Nat) (G : List Nat) (g c : Nat) (ho : OwnSl 1 intCells E (.slice q y.length c0) y G) (hG : ∀ x ∈ G, u.heap.size ≤ x)
    (h0 : E.cell? ⟨g, 0, none⟩ = some (.slice q y.length c0)) (h63 : ys.length ≤ 1048576) :
    ∃ v' w', (Builtin.append_ #[31, 31] ty #[b, .slice (some ⟨g, 0, none⟩) 1 c]).run Try.prog E = .ok v' w' ∧
      ((w'.cell? ⟨k, 0, none⟩ = some a ∧ w'.cell? ⟨k, 1, none⟩ = some b ∧ w'.frozen? ⟨k, 1, none⟩ = false ∧ k < w'.heap.size) ∧ TAcc cs (ys ++ [y]) k lo a v' (w'.setCell ⟨k, 1, none⟩ v') ∧ Below lo u (w'.setCell ⟨k, 1, none⟩ v')) := by
  obtain ⟨⟨h1, h2⟩, ⟨h3, h4⟩, ⟨h5, h6⟩, F1, F2, h7, h8, h9, h10, h11⟩ := h
  have lt1 := h7.lt
  have lt2 := h8.lt
  have hEs := hE.size
  have hdis : ∀ x ∈ F2, x ∉ G := fun x hx hx2 => by have := lt2 x hx; have := hG x hx2; omega
  obtain ⟨v', w', hrun, F', ho', hF', hc'⟩ := appRow (h8.below hE) ty y q c0 G g c ho hdis h0 h63
  have hkF : k ∉ F2 := fun hx => (h10 k hx).2 rfl
  have hkE : k < E.heap.size := by omega
  have hkl : k < w'.heap.size := Nat.lt_of_lt_of_le hkE hc'.size
  have e0 : w'.cell? ⟨k, 0, none⟩ = some a := (World.cell?_of_block (a := ⟨k, 0, none⟩) (hc'.block k hkE hkF)).trans (keepc hE h2 h3)
  have e1 : w'.cell? ⟨k, 1, none⟩ = some b := (World.cell?_of_block (a := ⟨k, 1, none⟩) (hc'.block k hkE hkF)).trans (keepc hE h2 h4)
  have f0 : w'.frozen? ⟨k, 0, none⟩ = false := (World.frozen?_of_block (a := ⟨k, 0, none⟩) (hc'.block k hkE hkF)).trans ((hE.frozen (p := ⟨k, 0, none⟩) h2).trans h5)
  have f1 : w'.frozen? ⟨k, 1, none⟩ = false := (World.frozen?_of_block (a := ⟨k, 1, none⟩) (hc'.block k hkE hkF)).trans ((hE.frozen (p := ⟨k, 1, none⟩) h2).trans h6)
  have hF2 : ∀ x ∈ F', lo ≤ x ∧ x ≠ k := fun x hx => by
    rcases hF' x hx with h | h | h
    · exact h10 x h
    · have := hG x h; omega
    · omega
  have hst : Chg [k] w' (w'.setCell ⟨k, 1, none⟩ v') := (Chg.refl [k] w').setCell (by simp) _
  refine ⟨v', w', hrun, ⟨e0, e1, f1, hkl⟩, ⟨⟨h1, by simpa using hkl⟩, ⟨(set_near _ _ _ _ _ (by decide)).trans e0, set_same _ _ _ _ _ e1⟩, ⟨by simpa [go_sem] using f0, by simpa [go_sem] using f1⟩, F1, F', ((h7.below hE).chg hc' (fun x hx hx2 => h11 x hx hx2)).chg hst (fun x hx => by simpa using (h9 x hx).2), ho'.chg hst (fun x hx => by simpa using (hF2 x hx).2), h9, hF2, fun x hx hx2 => ?_⟩, ?_⟩
  · have := lt1 x hx
    rcases hF' x hx2 with h | h | h
    · exact h11 x hx h
    · have := hG x h; omega
    · omega
  · exact ((hE.mono (by omega)).trans (hc'.below (by omega) (fun x hx => (h10 x hx).1))).setCell (by omega) _
end
theorem concatStr_one (xs : List ByteArray) (v : Value) (b cap B : Nat) (w : World) (hc : w.cell? ⟨b, 0, none⟩ = some v) (hv : kStr.Rd B w v xs) (hB : B ≤ w.heap.size) (hn : xs.length ≤ 3000000) (hbw : b < w.heap.size) :
    Calls Try.prog 91 #[.slice (some ⟨b, 0, none⟩) 1 cap] w fun e w' => ∃ v' F, e = .returned v' ∧ kStr.Ow w' v' xs F ∧ (∀ x ∈ F, w.heap.size ≤ x) ∧ Below w.heap.size w w' := by
  refine (concatStr_any [(v, xs)] b cap B w (fun i hi => ?_) (fun i hi => ?_) hB (by simp) (by simpa [upTo] using hn) hbw).mono ?_
  · obtain rfl : i = 0 := by simpa using hi
    exact hc
  · obtain rfl : i = 0 := by simpa using hi
    exact kStr_rd.1 hv
  · rintro e w' ⟨v', F, he, ho, h1, h2⟩
    exact ⟨v', F, he, kStr_ow.2 (by simpa [joined] using ho), h1, h2⟩
theorem concatInt_one (xs : List Int) (v : Value) (b cap B : Nat) (w : World) (hc : w.cell? ⟨b, 0, none⟩ = some v) (hv : Sl 1 intCells B w v xs) (hB : B ≤ w.heap.size) (hn : xs.length ≤ 3000000) (hbw : b < w.heap.size) :
    Calls Try.prog 92 #[.slice (some ⟨b, 0, none⟩) 1 cap] w fun e w' => ∃ v' F, e = .returned v' ∧ OwnSl 1 intCells w' v' xs F ∧ (∀ x ∈ F, w.heap.size ≤ x) ∧ Below w.heap.size w w' := by
  refine (concatInt_any [(v, xs)] b cap B w (fun i hi => ?_) (fun i hi => ?_) hB (by simp) (by simpa [upTo] using hn) hbw).mono ?_
  · obtain rfl : i = 0 := by simpa using hi
    exact hc
  · obtain rfl : i = 0 := by simpa using hi
    exact hv
  · rintro e w' ⟨v', F, he, ho, h1, h2⟩
    exact ⟨v', F, he, by simpa [joined] using ho, h1, h2⟩
/-- What an answer of a table and a bool says. -/
def TbPost (R : Tb) (T : Bool) (w : World) (en : Ending) (w' : World) : Prop := ∃ v F, en = .returned (.tuple #[v, .bool T]) ∧ R.Has v F w' ∧ (∀ y ∈ F, w.heap.size ≤ y) ∧ Below w.heap.size w w'
def noTb : Tb := ⟨[], []⟩
def twR (x : Tb) : Tb := if x.ok = true then x else noTb
theorem noTb_has (u : World) : noTb.Has (.agg #[.slice none 0 0, .slice none 0 0]) [] u := ⟨_, _, [], [], rfl, rfl, ⟨none, 0, rfl, Nat.le_refl _, Nat.zero_le _, .inl ⟨rfl, rfl⟩⟩, ⟨none, 0, rfl, Nat.le_refl _, Nat.zero_le _, .inl ⟨rfl, rfl⟩⟩, by simp⟩
theorem TbPost.no {w w' : World} (h : Below w.heap.size w w') : TbPost noTb false w (.returned (.tuple #[.agg #[.slice none 0 0, .slice none 0 0], .bool false])) w' := ⟨_, [], rfl, noTb_has _, by simp, h⟩

set_option maxRecDepth 100000 in
set_option maxHeartbeats 4000000 in
theorem tableWith_any (cs : List ByteArray) (rs : List (List Int)) (va vb : Value) (B : Nat) (w : World) (ha : kStr.Rd B w va cs) (hb : kRow.Rd B w vb rs) (hB : B ≤ w.heap.size) (hok : ∀ s ∈ cs, s.size ≤ maxLen) (hn1 : cs.length ≤ 1048576) (hn2 : rs.length + sumR rs ≤ 1048576) :
    Calls Try.prog 57 #[va, vb] w (TbPost (twR ⟨cs, rs⟩) (Tb.ok ⟨cs, rs⟩) w) := by
  have HAR := Lib.hid ha
  have HBR := Lib.hid hb
  have HOK := Lib.hid hok
  obtain ⟨p0, c0, rfl⟩ := ha.form
  obtain ⟨q, d, rfl⟩ := hb.form
  have hmx := hb.max
  unfold maxLen at hmx
  clear ha hb hok
  obtain ⟨R, eR⟩ : ∃ R, R = twR ⟨cs, rs⟩ := ⟨_, rfl⟩
  obtain ⟨T, eT⟩ : ∃ T, T = Tb.ok ⟨cs, rs⟩ := ⟨_, rfl⟩
  rw [← eR, ← eT]
  have HR := Lib.hid (show R = if T = true then ⟨cs, rs⟩ else noTb by rw [eR, eT]; rfl)
  have HT := Lib.hid eT
  clear eR eT
  go_enter Try.func57, Try.ntmps57
  go_wp2_with fail
  obtain ⟨W1, eW1⟩ : ∃ u, u = (w.alloc (.cells #[.slice none 0 0, .slice none 0 0] 33)).alloc (.cells #[.slice p0 cs.length c0] 30) := ⟨_, rfl⟩
  rw [← eW1]
  have hs1 : w.heap.size + 2 ≤ W1.heap.size := by rw [eW1]; simp
  have hb1 : Below w.heap.size w W1 := by rw [eW1]; exact ((Below.refl _ _).alloc (Nat.le_refl _) _).alloc (by simp) _
  have hc1 : W1.cell? ⟨w.heap.size + 1, 0, none⟩ = some (.slice p0 cs.length c0) := by rw [eW1]; simp [go_sem]
  have HRES := Lib.hid (show ∀ E, Below (w.heap.size + 1) W1 E → w.heap.size < E.heap.size ∧ (E.cell? ⟨w.heap.size, 0, none⟩ = some (.slice none 0 0) ∧ E.cell? ⟨w.heap.size, 1, none⟩ = some (.slice none 0 0)) ∧ E.frozen? ⟨w.heap.size, 0, none⟩ = false ∧ E.frozen? ⟨w.heap.size, 1, none⟩ = false from fun E hE => by
    rw [eW1] at hE
    exact ⟨by have := hE.size; simp at this; omega, ⟨keepc hE (by omega) (by simp [go_sem]), keepc hE (by omega) (by simp [go_sem])⟩, (hE.frozen (p := ⟨w.heap.size, 0, none⟩) (by show w.heap.size < w.heap.size + 1; omega)).trans (by simp [go_sem]), (hE.frozen (p := ⟨w.heap.size, 1, none⟩) (by show w.heap.size < w.heap.size + 1; omega)).trans (by simp [go_sem])⟩)
  have HB1 := Lib.hid hb1
  clear eW1 hb1
  refine (concatStr_one cs _ (w.heap.size + 1) 1 B W1 hc1 (HAR.out.to (HB1.out.mono hB) (Nat.le_refl _)) (by omega) (by omega) (by omega)).mono ?_
  rintro en w2 ⟨v2, F2, rfl, ho2, hf2, hb2⟩
  have hs2 : W1.heap.size ≤ w2.heap.size := hb2.size
  have HB2 := Lib.hid (HB1.out.trans (hb2.mono (by omega)))
  have HR2 := Lib.hid (show Below (w.heap.size + 1) W1 w2 from hb2.mono (by omega))
  have HO2 := Lib.hid ho2
  have HF2 := Lib.hid hf2
  obtain ⟨p2, c2, rfl⟩ := ho2.form
  clear ho2 hf2 hb2 hc1
  go_wp2_with fail
  obtain ⟨W3, eW3⟩ : ∃ u, u = w2.alloc (.cells #[.slice p2 cs.length c2, .slice none 0 0] 33) := ⟨_, rfl⟩
  rw [← eW3]
  have hs3 : w2.heap.size < W3.heap.size := by rw [eW3]; simp
  have hb3 : Below w2.heap.size w2 W3 := by rw [eW3]; exact (Below.refl _ _).alloc (Nat.le_refl _) _
  have HT3 := Lib.hid (show TAcc cs (rs.take 0) w2.heap.size (w.heap.size + 1) (.slice p2 cs.length c2) (.slice none 0 0) W3 by
    have h2 := HO2.out.below hb3
    have hlt := HO2.out.lt
    rw [eW3] at h2 ⊢
    exact ⟨⟨by omega, by simp⟩, ⟨by simp [go_sem], by simp [go_sem]⟩, ⟨by simp [go_sem], by simp [go_sem]⟩, F2, [], h2, by simpa using Kd.OwB.nil kRow _ _ _, fun y hy => ⟨by have := HF2.out y hy; omega, by have := hlt y hy; omega⟩, by simp, by simp⟩)
  have HB3 := Lib.hid (HB2.out.trans (hb3.mono (by omega)))
  have HR3 := Lib.hid (HR2.out.trans (hb3.mono (by omega)))
  obtain ⟨kb, ekb⟩ : ∃ k, k = w2.heap.size := ⟨_, rfl⟩
  rw [← ekb] at HT3 ⊢
  have hkb : w.heap.size + 2 ≤ kb := by omega
  clear eW3 hb3 HO2 HF2 ekb
  obtain ⟨⟨_, hkl⟩, ⟨x0, x1⟩, _, _⟩ := HT3.out
  go_wp2_with fail
  clear x0 x1
  go_loopw [15] (fun i wr => ∃ (k : Nat) (b : Value), k ≤ rs.length ∧ i = .int .i64 k ∧ RowKit.Hid (TAcc cs (rs.take k) kb (w.heap.size + 1) (.slice p2 cs.length c2) b wr) ∧ RowKit.Hid (Below (w.heap.size + 1) W3 wr)) (fun i _ => rs.length - (intOf i).toNat)
  case atStart => exact ⟨0, _, Nat.zero_le _, rfl, HT3, Lib.hid (Below.refl _ _)⟩
  case round =>
    obtain ⟨k, b, hk, rfl, HTA, HBW⟩ := hrel
    have hsz := HBW.out.size
    have HBA := Lib.hid (HB3.out.trans (HBW.out.mono (by omega)))
    obtain ⟨⟨_, hkl2⟩, ⟨x0, x1⟩, ⟨g0, g1⟩, _⟩ := HTA.out
    by_cases hlt : k < rs.length
    · obtain ⟨bb, off, q2, c3, rfl, hbb, c0, hin⟩ := kRow_get (HBR.out.to (HBA.out.mono hB) (Nat.le_refl _)) hlt
      have hsize := sumR_get rs k hlt
      have htk := Lib.hid (List.take_succ_eq_append_getElem hlt)
      obtain ⟨y, ey⟩ : ∃ y, y = rs[k] := ⟨_, rfl⟩
      rw [← ey] at c0 hin hsize htk
      have HIN := Lib.hid hin
      have hyl : y.length ≤ 1048576 := by omega
      have HTK := Lib.hid (show (rs.take k).length ≤ 1048576 by rw [List.length_take]; omega)
      obtain ⟨_, _, qb, cb, _, hbf⟩ := HTA.out.form
      rw [List.length_take, Nat.min_eq_left hk] at hbf
      subst hbf
      clear ey hin hsize x0
      go_upto_region 5 with fail
      refine wp_region_E (last := 8) (S := fun w' => w'.cell? ⟨kb, 1, none⟩ = some (.slice qb k cb)) (by kernel_rfl) ?_ (fun hHeld => ?_)
      · exact x1
      have cW : Below wr.heap.size wr wr.drew := (Below.refl _ _).drew
      have HK := Lib.hid (fun (E : World) (hE : Below wr.heap.size wr E) => (keepc hE hkl2 x1 : E.cell? ⟨kb, 1, none⟩ = some (.slice qb k cb)))
      have szW : wr.heap.size ≤ wr.drew.heap.size := Nat.le_refl _
      generalize wr.drew = W0 at cW hHeld szW ⊢
      (refine takeE (i := 0) (v := ?_) [] rfl (by kernel_rfl) (by kernel_rfl) (fun _ _ _ h => h) (Or.inl ⟨by kernel_rfl, ?_⟩) (by assumption) ?_; rotate_left; (focus (intro w hSw; (try dsimp only at hSw); go_simp; first | done | with_reducible rfl | fail "takeE")); (try simp only [Act.put, List.setIfInBounds_toArray, List.set_cons_zero, List.set_cons_succ]))
      (refine takeE (i := 1) (v := ?_) [] rfl (by kernel_rfl) (by kernel_rfl) (fun _ _ _ h => h) (Or.inl ⟨by kernel_rfl, ?_⟩) (by assumption) ?_; rotate_left; (focus (intro w hSw; (try dsimp only at hSw); go_simp; first | done | with_reducible rfl | fail "takeE")); (try simp only [Act.put, List.setIfInBounds_toArray, List.set_cons_zero, List.set_cons_succ]))
      (refine takeE (i := 2) (v := ?_) [] rfl (by kernel_rfl) (by kernel_rfl) (fun _ _ _ h => h) (Or.inl ⟨by kernel_rfl, ?_⟩) (by assumption) ?_; rotate_left; (focus (intro w hSw; (try dsimp only at hSw); go_simp; first | done | with_reducible rfl | fail "takeE")); (try simp only [Act.put, List.setIfInBounds_toArray, List.set_cons_zero, List.set_cons_succ]))
      refine oneE (i := 3) rfl (by kernel_rfl) (by kernel_rfl) (fun K hK => ?_)
      go_simp
      refine hK.out _ _ (HK.out _ (show Below wr.heap.size wr _ by ((repeat (first | with_reducible assumption | with_reducible exact Below.refl _ _ | refine Below.setCell ?_ (by (first | omega | (simp; omega) | (simp; done) | fail "sml")) _ | refine Below.drew ?_ | refine Below.alloc ?_ (by (first | omega | (simp; omega) | (simp; done) | fail "sml")) _)); first | done | fail "chs"))) (fun hHeld => ?_)
      clear hK K
      (try simp only [Act.put, List.setIfInBounds_toArray, List.set_cons_zero, List.set_cons_succ])
      refine oneE (i := 4) rfl (by kernel_rfl) (by kernel_rfl) (fun K hK => ?_)
      go_simp
      go_at_call 92
      refine (concatInt_one y _ W0.heap.size 1 B _ (by simp [go_sem]) (HIN.out.below ((show Below wr.heap.size wr _ by ((repeat (first | with_reducible assumption | with_reducible exact Below.refl _ _ | refine Below.setCell ?_ (by (first | omega | (simp; omega) | (simp; done) | fail "sml")) _ | refine Below.drew ?_ | refine Below.alloc ?_ (by (first | omega | (simp; omega) | (simp; done) | fail "sml")) _)); first | done | fail "chs")).mono (by have := HBA.out.size; omega))) (by simp; have := HBA.out.size; omega) (by omega) (by simp)).mono ?_
      rintro en w5 ⟨v5, F5, rfl, ho5, hf5, hb5⟩
      have k5 : Below wr.heap.size wr w5 := (show Below wr.heap.size wr _ by ((repeat (first | with_reducible assumption | with_reducible exact Below.refl _ _ | refine Below.setCell ?_ (by (first | omega | (simp; omega) | (simp; done) | fail "sml")) _ | refine Below.drew ?_ | refine Below.alloc ?_ (by (first | omega | (simp; omega) | (simp; done) | fail "sml")) _)); first | done | fail "chs")).trans (hb5.mono (by simp; omega))
      have hs5 := k5.size
      have HF5 := Lib.hid (show ∀ x ∈ F5, wr.heap.size ≤ x from fun x hx => by have := hf5 x hx; simp at this; omega)
      have HO5 := Lib.hid ho5
      obtain ⟨p5, c5, rfl⟩ := ho5.sl.form
      clear ho5 hf5 hb5
      go_wp2_with fail
      refine hK.out _ _ (HK.out _ k5) (fun hHeld => ?_)
      clear hK K
      (try simp only [Act.put, List.setIfInBounds_toArray, List.set_cons_zero, List.set_cons_succ])
      refine oneE (i := 5) rfl (by kernel_rfl) (by kernel_rfl) (fun K hK => ?_)
      go_simp
      refine hK.out _ _ (HK.out _ (show Below wr.heap.size wr _ by ((repeat (first | with_reducible assumption | with_reducible exact Below.refl _ _ | refine Below.setCell ?_ (by (first | omega | (simp; omega) | (simp; done) | fail "sml")) _ | refine Below.drew ?_ | refine Below.alloc ?_ (by (first | omega | (simp; omega) | (simp; done) | fail "sml")) _)); first | done | fail "chs"))) (fun hHeld => ?_)
      clear hK K
      (try simp only [Act.put, List.setIfInBounds_toArray, List.set_cons_zero, List.set_cons_succ])
      refine oneE (i := 6) rfl (by kernel_rfl) (by kernel_rfl) (fun K hK => ?_)
      have HAPP := HTA.out.app (E := w5.alloc (.cells #[.slice p5 y.length c5] 23)) (show Below wr.heap.size wr _ by ((repeat (first | with_reducible assumption | with_reducible exact Below.refl _ _ | refine Below.setCell ?_ (by (first | omega | (simp; omega) | (simp; done) | fail "sml")) _ | refine Below.drew ?_ | refine Below.alloc ?_ (by (first | omega | (simp; omega) | (simp; done) | fail "sml")) _)); first | done | fail "chs")) 31 y p5 c5 F5 w5.heap.size 1 (HO5.out.below ((Below.refl _ _).alloc (Nat.le_refl _) _)) HF5.out (by simp [go_sem]) HTK.out
      refine wp_app (.tmp 20) (.tmp 24) 31 (by rfl) _ _ (by rfl) (by rfl) _ HAPP ?_
      rintro v' w' ⟨⟨e0, e1, e2, e3⟩, hT6, hb6⟩
      have HT6 := Lib.hid (show TAcc cs (rs.take (k + 1)) kb (w.heap.size + 1) (.slice p2 cs.length c2) v' (w'.setCell ⟨kb, 1, none⟩ v') from by rw [htk.out]; exact hT6)
      have HB6 := Lib.hid (HBW.out.trans hb6)
      obtain ⟨_, _, q6, c6, _, hvf⟩ := HT6.out.form
      rw [List.length_take, Nat.min_eq_left (show k + 1 ≤ rs.length by omega)] at hvf
      subst hvf
      clear hT6 hb6 HAPP
      refine hK.out _ _ e1 (fun hHeld => ?_)
      clear hK K
      (try simp only [Act.put, List.setIfInBounds_toArray, List.set_cons_zero, List.set_cons_succ])
      (refine takeE (i := 7) (v := ?_) [] rfl (by kernel_rfl) (by kernel_rfl) (fun _ _ _ h => h) (Or.inl ⟨by kernel_rfl, ?_⟩) (by assumption) ?_; rotate_left; (focus (intro w hSw; (try dsimp only at hSw); go_simp; first | done | with_reducible rfl | fail "takeE")); (try simp only [Act.put, List.setIfInBounds_toArray, List.set_cons_zero, List.set_cons_succ]))
      refine lastE rfl (by kernel_rfl) (by kernel_rfl) (fun K hK => ?_)
      go_simp
      refine hK.out _ _ ?_
      clear hK K
      refine doneE (by kernel_rfl) ?_ _
      go_wp2_with fail
      go_roundw
      case rel => exact ⟨k + 1, _, by omega, by go_num, HT6, HB6⟩
      case measure => simp [intOf]; omega
    · obtain rfl : k = rs.length := by omega
      have HTE := Lib.hid (show TAcc cs rs kb (w.heap.size + 1) (.slice p2 cs.length c2) b wr by have := HTA.out; rwa [List.take_length] at this)
      clear HTA
      go_wp2_with fail
      obtain ⟨FT, hH, hFT⟩ := HTE.out.has
      have HH := Lib.hid hH
      have HFT := Lib.hid hFT
      clear hH hFT
      refine (tableValid_any ⟨cs, rs⟩ _ wr.heap.size wr HH.out.at (Nat.le_refl _) HOK.out).mono ?_
      rintro en w7 ⟨rfl, hb7⟩
      obtain ⟨hr0, ⟨hr1, hr2⟩, hr3, hr4⟩ := HRES.out w7 ((HR3.out.trans HBW.out).trans (hb7.mono (by omega)))
      have HH7 := Lib.hid (HH.out.below hb7)
      have y0 := keepc hb7 hkl2 x0
      have y1 := keepc hb7 hkl2 x1
      have HB7 := Lib.hid (HBA.out.trans (hb7.mono (by have := HBA.out.size; omega)))
      obtain ⟨_, _, qb, cb, _, rfl⟩ := HTE.out.form
      rw [← HT.out]
      clear hb7 x0 x1
      cases T with
      | false =>
        have HRR := HR.out
        simp only [Bool.false_eq_true, if_false] at HRR
        subst HRR
        go_wp2_with fail
        exact bodyPost_ret (v := .tuple #[.agg #[.slice none 0 0, .slice none 0 0], .bool false]) (by simp [results, Try.results57, go_sem, hr1, hr2]) rfl (TbPost.no ((HB7.out.setCell (by simp) _).setCell (by simp) _))
      | true =>
        have HRR := HR.out
        simp only [if_true] at HRR
        subst HRR
        go_wp2_with fail
        exact bodyPost_ret (v := .tuple #[.agg #[.slice p2 cs.length c2, .slice qb rs.length cb], .bool true]) (by simp [results, Try.results57, go_sem, hr1, hr2]) rfl ⟨_, FT, rfl, HH7.out.chg (G := [w.heap.size]) (((Chg.refl _ _).setCell (by simp) _).setCell (by simp) _) (fun y hy => by have := (HFT.out y hy).1; simp; omega), fun y hy => by have := (HFT.out y hy).1; omega, (HB7.out.setCell (by simp) _).setCell (by simp) _⟩
end Go.Proofs.Ytfdkmngkpihpbaa
namespace Go.Proofs.Ytfdkmngkpihpbaa
open Go.RowKit

theorem sumS_max {cs : List ByteArray} {m : Nat} (h : ∀ s ∈ cs, s.size ≤ m) : sumS cs ≤ m * cs.length := by
  induction cs with
  | nil => simp [sumS]
  | cons s r ih =>
    have h1 := h s (by simp)
    have h2 := ih fun x hx => h x (by simp [hx])
    simp only [sumS, List.map_cons, List.sum_cons, List.length_cons, Nat.mul_add, Nat.mul_one] at h2 ⊢
    omega
theorem sumR_max {rs : List (List Int)} {m : Nat} (h : ∀ s ∈ rs, s.length ≤ m) : sumR rs ≤ m * rs.length := by
  induction rs with
  | nil => simp [sumR]
  | cons s r ih =>
    have h1 := h s (by simp)
    have h2 := ih fun x hx => h x (by simp [hx])
    simp only [sumR, List.map_cons, List.sum_cons, List.length_cons, Nat.mul_add, Nat.mul_one] at h2 ⊢
    omega
/-- The variable in block k holds the names cs and the rows ys; both can be appended to. -/
def TDr (cs : List ByteArray) (ys : List (List Int)) (k lo : Nat) (a b : Value) (u : World) : Prop :=
  (lo ≤ k ∧ k < u.heap.size) ∧ (u.cell? ⟨k, 0, none⟩ = some a ∧ u.cell? ⟨k, 1, none⟩ = some b) ∧ (u.frozen? ⟨k, 0, none⟩ = false ∧ u.frozen? ⟨k, 1, none⟩ = false) ∧
    ∃ F1 F2, OwnS 1 strCells 9 u a cs F1 ∧ kRow.OwB 23 u b ys F2 ∧ (∀ y ∈ F1, lo ≤ y ∧ y ≠ k) ∧ (∀ y ∈ F2, lo ≤ y ∧ y ≠ k) ∧ ∀ y ∈ F1, y ∉ F2
section
variable {cs : List ByteArray} {ys : List (List Int)} {k lo : Nat} {a b : Value} {u E : World} {G : List Nat}
theorem TDr.chg (h : TDr cs ys k lo a b u) (hc : Chg G u E) (hG : ∀ x ∈ G, x < lo) : TDr cs ys k lo a b E := by
  obtain ⟨⟨h1, h2⟩, ⟨h3, h4⟩, ⟨h5, h6⟩, F1, F2, h7, h8, h9, h10, h11⟩ := h
  have hb : k ∉ G := fun hm => by have := hG k hm; omega
  exact ⟨⟨h1, Nat.lt_of_lt_of_le h2 hc.size⟩, ⟨hc.cellOf hb h3, hc.cellOf hb h4⟩, ⟨hc.frozenOf hb h2 h5, hc.frozenOf hb h2 h6⟩, F1, F2,
    h7.chg hc (fun x hx hm => by have := hG x hm; have := (h9 x hx).1; omega), h8.chg hc (fun x hx hm => by have := hG x hm; have := (h10 x hx).1; omega), h9, h10, h11⟩
theorem TDr.form (h : TDr cs ys k lo a b u) : ∃ p c q d, a = .slice p cs.length c ∧ b = .slice q ys.length d := by
  obtain ⟨_, _, _, F1, F2, h7, h8, _⟩ := h
  obtain ⟨p, c, rfl⟩ := OwnS.form h7
  obtain ⟨q, d, rfl⟩ := h8.form
  exact ⟨p, c, q, d, rfl, rfl⟩
theorem TDr.has (h : TDr cs ys k lo a b u) : ∃ F, (Tb.mk cs ys).Has (.agg #[a, b]) F u ∧ ∀ y ∈ F, lo ≤ y ∧ y ≠ k := by
  obtain ⟨_, _, _, F1, F2, h7, h8, h9, h10, h11⟩ := h
  refine ⟨F1 ++ F2, ⟨a, b, F1, F2, rfl, rfl, kStr_ow.2 (OwnS.own (enc := strCells) (fun _ => rfl) h7), h8.ow, h11⟩, fun y hy => ?_⟩
  rcases List.mem_append.1 hy with hy | hy
  · exact h9 y hy
  · exact h10 y hy
/-- What an append leaves ahead of its store. -/
def TKeep (k : Nat) (a b : Value) (w' : World) : Prop := w'.cell? ⟨k, 0, none⟩ = some a ∧ w'.cell? ⟨k, 1, none⟩ = some b ∧ w'.frozen? ⟨k, 0, none⟩ = false ∧ w'.frozen? ⟨k, 1, none⟩ = false ∧ k < w'.heap.size
/-- One more name. -/
theorem TDr.appC (h : TDr cs ys k lo a b u) (hE : Chg G u E) (hG : ∀ x ∈ G, x < lo) (ty : TypeId) (s : ByteArray) (g c : Nat) (h0 : E.cell? ⟨g, 0, none⟩ = some (.string s)) (hl : cs.length ≤ 1000) :
    ∃ v' w', (Builtin.append_ #[30, 30] ty #[a, .slice (some ⟨g, 0, none⟩) 1 c]).run Try.prog E = .ok v' w' ∧
      (TKeep k a b w' ∧ TDr (cs ++ [s]) ys k lo v' b (w'.setCell ⟨k, 0, none⟩ v') ∧ ∃ H, Chg H E (w'.setCell ⟨k, 0, none⟩ v') ∧ ∀ x ∈ H, lo ≤ x) := by
  obtain ⟨⟨h1, h2⟩, ⟨h3, h4⟩, ⟨h5, h6⟩, F1, F2, h7, h8, h9, h10, h11⟩ := h.chg hE hG
  obtain ⟨i, hi, hzz⟩ := Option.map_eq_some_iff.1 infoStrT
  simp only [Prod.mk.injEq] at hzz
  obtain ⟨hz, hs, hb⟩ := hzz
  obtain ⟨v', w', hr, F', o1, o2, hc⟩ := OwnS.append (enc := strCells) (sz := 1) (fun _ => rfl) (fun x u hu => by simp [strCells] at hu; subst hu; rfl) 30 ty 9 i _ 16 Try.underlying30 hi hz hs hb (by decide) h7 s g c
    (fun j u hu => by
      obtain rfl : j = 0 := by
        have hj := (List.getElem?_eq_some_iff.1 hu).1
        simp [strCells] at hj; omega
      simp [strCells] at hu; subst hu; exact h0) (by omega) (by omega)
  have hbF : k ∉ F1 := fun hm => (h9 k hm).2 rfl
  have c0 := hc.cellOf hbF h3
  have c1 := hc.cellOf hbF h4
  have f0 := hc.frozenOf hbF h2 h5
  have f1 := hc.frozenOf hbF h2 h6
  have hbw : k < w'.heap.size := Nat.lt_of_lt_of_le h2 hc.size
  have hnew : ∀ x ∈ F', lo ≤ x ∧ x ≠ k := fun x hx => by
    rcases o2 x hx with h | h
    · exact h9 x h
    · omega
  have hst : Chg [k] w' (w'.setCell ⟨k, 0, none⟩ v') := (Chg.refl _ _).setCell (p := ⟨k, 0, none⟩) (by simp) v'
  have hol := h8.lt
  refine ⟨v', w', hr, ⟨c0, c1, f0, f1, hbw⟩, ⟨⟨h1, by simpa using hbw⟩, ⟨set_same _ _ _ _ _ c0, (set_near _ _ _ _ _ (by omega)).trans c1⟩, ⟨by simpa [go_sem] using f0, by simpa [go_sem] using f1⟩, F', F2, OwnS.chg o1 hst (fun x hx hm => by simp at hm; exact (hnew x hx).2 hm), (h8.chg hc (fun x hx hm => h11 x hm hx)).chg hst (fun x hx hm => by simp at hm; exact (h10 x hx).2 hm), hnew, h10, fun x hx hm => ?_⟩, k :: F1, (hc.mono (fun x hx => List.mem_cons_of_mem _ hx)).trans (hst.mono (by simp)), fun x hx => ?_⟩
  · rcases o2 x hx with h | h
    · exact h11 x h hm
    · have := hol x hm; omega
  · rcases List.mem_cons.1 hx with rfl | hx
    · exact h1
    · exact (h9 x hx).1
/-- One more row. -/
theorem TDr.appR (h : TDr cs ys k lo a b u) (hE : Chg G u E) (hG : ∀ x ∈ G, x < lo) (ty : TypeId) (y : List Int) (q : Option Addr) (c0 : Nat) (Y : List Nat) (g c : Nat) (ho : OwnSl 1 intCells E (.slice q y.length c0) y Y) (hY : ∀ x ∈ Y, u.heap.size ≤ x)
    (h0 : E.cell? ⟨g, 0, none⟩ = some (.slice q y.length c0)) (hl : ys.length ≤ 1048576) :
    ∃ v' w', (Builtin.append_ #[31, 31] ty #[b, .slice (some ⟨g, 0, none⟩) 1 c]).run Try.prog E = .ok v' w' ∧
      (TKeep k a b w' ∧ TDr cs (ys ++ [y]) k lo a v' (w'.setCell ⟨k, 1, none⟩ v') ∧ ∃ H, Chg H E (w'.setCell ⟨k, 1, none⟩ v') ∧ ∀ x ∈ H, lo ≤ x) := by
  obtain ⟨⟨h1, h2⟩, ⟨h3, h4⟩, ⟨h5, h6⟩, F1, F2, h7, h8, h9, h10, h11⟩ := h
  have hb : k ∉ G := fun hm => by have := hG k hm; omega
  have lt1 := h7.lt
  have lt2 := h8.lt
  have hEs := hE.size
  have o7 := OwnS.chg h7 hE (fun x hx hm => by have := hG x hm; have := (h9 x hx).1; omega)
  have o8 := h8.chg hE (fun x hx hm => by have := hG x hm; have := (h10 x hx).1; omega)
  have d3 := hE.cellOf hb h3
  have d4 := hE.cellOf hb h4
  have d5 := hE.frozenOf hb h2 h5
  have d6 := hE.frozenOf hb h2 h6
  have hkE : k < E.heap.size := by omega
  obtain ⟨v', w', hr, F', o1, o2, hc⟩ := appRow o8 ty y q c0 Y g c ho (fun x hx hx2 => by have := lt2 x hx; have := hY x hx2; omega) h0 hl
  have hbF : k ∉ F2 := fun hm => (h10 k hm).2 rfl
  have c0' := hc.cellOf hbF d3
  have c1' := hc.cellOf hbF d4
  have f0 := hc.frozenOf hbF hkE d5
  have f1 := hc.frozenOf hbF hkE d6
  have hbw : k < w'.heap.size := Nat.lt_of_lt_of_le hkE hc.size
  have hnew : ∀ x ∈ F', lo ≤ x ∧ x ≠ k := fun x hx => by
    rcases o2 x hx with h | h | h
    · exact h10 x h
    · have := hY x h; omega
    · omega
  have hst : Chg [k] w' (w'.setCell ⟨k, 1, none⟩ v') := (Chg.refl _ _).setCell (p := ⟨k, 1, none⟩) (by simp) v'
  refine ⟨v', w', hr, ⟨c0', c1', f0, f1, hbw⟩, ⟨⟨h1, by simpa using hbw⟩, ⟨(set_near _ _ _ _ _ (by omega)).trans c0', set_same _ _ _ _ _ c1'⟩, ⟨by simpa [go_sem] using f0, by simpa [go_sem] using f1⟩, F1, F', OwnS.chg (OwnS.chg o7 hc (fun x hx hm => h11 x hx hm)) hst (fun x hx hm => by simp at hm; exact (h9 x hx).2 hm), o1.chg hst (fun x hx hm => by simp at hm; exact (hnew x hx).2 hm), h9, hnew, fun x hx hm => ?_⟩, k :: F2, (hc.mono (fun x hx => List.mem_cons_of_mem _ hx)).trans (hst.mono (by simp)), fun x hx => ?_⟩
  · have := lt1 x hx
    rcases o2 x hm with h | h | h
    · exact h11 x hx h
    · have := hY x h; omega
    · omega
  · rcases List.mem_cons.1 hx with rfl | hx
    · exact h1
    · exact (h10 x hx).1
/-- The names are left out. -/
theorem TDr.clear (h : TDr cs ys k lo a b u) (hE : Chg G u E) (hG : ∀ x ∈ G, x < lo) (p : Option Addr) : TDr [] ys k lo (.slice p 0 0) b (E.setCell ⟨k, 0, none⟩ (.slice p 0 0)) := by
  obtain ⟨⟨h1, h2⟩, ⟨h3, h4⟩, ⟨h5, h6⟩, F1, F2, h7, h8, h9, h10, h11⟩ := h.chg hE hG
  have hst : Chg [k] E (E.setCell ⟨k, 0, none⟩ (.slice p 0 0)) := (Chg.refl _ _).setCell (p := ⟨k, 0, none⟩) (by simp) _
  exact ⟨⟨h1, by simpa using h2⟩, ⟨set_same _ _ _ _ _ h3, (set_near _ _ _ _ _ (by omega)).trans h4⟩, ⟨by simpa [go_sem] using h5, by simpa [go_sem] using h6⟩, [], F2, OwnS.empty p, h8.chg hst (fun x hx hm => by simp at hm; exact (h10 x hx).2 hm), by simp, h10, by simp⟩
/-- The first number of the first row is stored anew. -/
theorem TDr.first (h : TDr cs ys k lo a b u) (h0 : 0 < ys.length) (h1 : 0 < ys[0].length) :
    ∃ bq cap r o c, b = .slice (some ⟨bq, 0, none⟩) ys.length cap ∧ cap ≤ maxLen ∧ lo ≤ bq ∧ bq < u.heap.size ∧ lo ≤ r ∧ u.cell? ⟨bq, 0, none⟩ = some (.slice (some ⟨r, o, none⟩) ys[0].length c) ∧
      ∀ (E : World), Chg G u E → (∀ x ∈ G, x < lo) → (∃ z, E.cell? ⟨r, o, none⟩ = some (.int .i64 z)) ∧ E.frozen? ⟨r, o, none⟩ = false ∧ ∀ z, TDr cs (ys.set 0 (ys[0].set 0 z)) k lo a b (E.setCell ⟨r, o, none⟩ (.int .i64 z)) := by
  obtain ⟨⟨g1, g2⟩, ⟨g3, g4⟩, ⟨g5, g6⟩, F1, F2, g7, g8, g9, g10, g11⟩ := h
  obtain ⟨bq, cap, cs0, Y, rfl, hcap, hbq, hbY, hYF, hcell, hrow, hback⟩ := g8.upd h0
  obtain ⟨v, rfl, hv⟩ := hrow
  obtain ⟨q, c, rfl⟩ := (kInt_ow.1 hv).sl.form
  obtain ⟨r, o, rfl, rfl, hr, hfz, hel⟩ := (kInt_ow.1 hv).elem h1
  have hc0 := hcell 0 _ rfl
  rw [Nat.zero_mul, Nat.zero_add] at hc0
  have hrF := hYF r (by simp)
  have hrl := g10 r hrF
  have hbqF : bq ∈ F2 := by
    obtain ⟨rs, A1, A2, rfl, _, ⟨p9, cap9, e9, _, _, h9⟩, ho9⟩ := g8
    have hlen := ho9.len
    rcases h9 with ⟨rfl, _, _⟩ | ⟨b9, cur, rfl, rfl, _⟩
    · simp at hlen; omega
    · simp only [Value.slice.injEq, Option.some.injEq, Addr.mk.injEq] at e9
      obtain ⟨⟨rfl, _⟩, _⟩ := e9
      simp
  refine ⟨bq, cap, r, o, c, rfl, hcap, (g10 bq hbqF).1, hbq, hrl.1, hc0, fun E hE hG => ?_⟩
  have hrG : r ∉ G := fun hm => by have := hG r hm; omega
  have e0 := hel 0 _ rfl
  simp only [Nat.zero_mul, Nat.add_zero] at e0
  have d0 := hE.cellOf hrG e0
  have d1 := hE.frozenOf hrG hr (hfz o)
  have hkG : k ∉ G := fun hm => by have := hG k hm; omega
  refine ⟨⟨_, d0⟩, d1, fun z => ?_⟩
  have hst : Chg [r] E (E.setCell ⟨r, o, none⟩ (.int .i64 z)) := (Chg.refl _ _).setCell (p := ⟨r, o, none⟩) (by simp) _
  have hall : Chg (r :: G) u (E.setCell ⟨r, o, none⟩ (.int .i64 z)) := (hE.mono (fun x hx => List.mem_cons_of_mem _ hx)).trans (hst.mono (by simp))
  have hkr : k ∉ (r :: G) := fun hm => by
    rcases List.mem_cons.1 hm with rfl | hm
    · exact hrl.2 rfl
    · exact hkG hm
  have hE2 := (kInt_ow.1 hv).chg hE (fun x hx hm => by simp at hx; subst hx; exact hrG hm)
  have hnew := OwnSl.store (k := 0) hE2 h1 (fun _ => rfl) 0 (by omega) z (.int .i64 z) rfl
  simp only [Nat.zero_mul, Nat.add_zero] at hnew
  have hF2G : ∀ x ∈ F2, x ∉ G := fun x hx hm => by have := hG x hm; have := (g10 x hx).1; omega
  obtain ⟨bq', cap', cs1, Y', e', _, _, hbY', hYF', hcell', hrow', hback'⟩ := (g8.chg hE hF2G).upd h0
  obtain ⟨v', rfl, hv'⟩ := hrow'
  cases e'
  have hcs := hcell' 0 _ rfl
  rw [Nat.zero_mul, Nat.zero_add] at hcs
  have hbqG : bq ∉ G := hF2G bq hbqF
  rw [hE.cellOf hbqG hc0] at hcs
  cases hcs
  obtain ⟨r', o', e2, rfl, _, _, _⟩ := (kInt_ow.1 hv').elem h1
  cases e2
  refine ⟨⟨g1, Nat.lt_of_lt_of_le g2 hall.size⟩, ⟨hall.cellOf hkr g3, hall.cellOf hkr g4⟩, ⟨hall.frozenOf hkr g2 g5, hall.frozenOf hkr g2 g6⟩, F1, F2, OwnS.chg g7 hall (fun x hx hm => ?_), ?_, g9, g10, g11⟩
  · rcases List.mem_cons.1 hm with rfl | hm
    · exact g11 x hx hrF
    · have := hG x hm; have := (g9 x hx).1; omega
  · exact hback' _ _ hst ⟨_, rfl, kInt_ow.2 (by simpa using hnew)⟩
end
end Go.Proofs.Ytfdkmngkpihpbaa
namespace Go.Proofs.Ytfdkmngkpihpbaa
open Go.RowKit

/-- What drawing a table leaves. -/
def DrewT (a N lo : Nat) (w : World) (en : Ending) (w' : World) : Prop := ∃ (x : Tb) (v : Value) (F : List Nat), en = .returned v ∧ x.Has v F w' ∧ (∀ y ∈ F, lo ≤ y) ∧ x.Ok ∧ x.need ≤ 100000 ∧ Dr w' a N ∧ Chg [a] w w'
/-- Names and rows that are drawn. -/
def Few (cs : List ByteArray) (ys : List (List Int)) : Prop := (∀ s ∈ cs, s.size ≤ 100) ∧ ∀ y ∈ ys, y.length ≤ 1000 ∧ ∀ n ∈ y, -2000 ≤ n ∧ n ≤ 2000
theorem Few.name {cs : List ByteArray} {ys : List (List Int)} (h : Few cs ys) {s : ByteArray} (hs : s.size ≤ 100) : Few (cs ++ [s]) ys := ⟨fun x hx => by
  rcases List.mem_append.1 hx with hx | hx
  · exact h.1 x hx
  · simp at hx; subst hx; exact hs, h.2⟩
theorem Few.row {cs : List ByteArray} {ys : List (List Int)} (h : Few cs ys) {y : List Int} (hy : y.length ≤ 1000) (hn : ∀ n ∈ y, -2000 ≤ n ∧ n ≤ 2000) : Few cs (ys ++ [y]) := ⟨h.1, fun x hx => by
  rcases List.mem_append.1 hx with hx | hx
  · exact h.2 x hx
  · simp at hx; subst hx; exact ⟨hy, hn⟩⟩
theorem few_more {y : List Int} {z : Int} (h : ∀ n ∈ y, -2000 ≤ n ∧ n ≤ 2000) (h0 : -2000 ≤ z) (h1 : z ≤ 2000) : ∀ n ∈ y ++ [z], -2000 ≤ n ∧ n ≤ 2000 := fun n hn => by
  rcases List.mem_append.1 hn with hn | hn
  · exact h n hn
  · simp at hn; subst hn; exact ⟨h0, h1⟩
theorem Few.ok {cs : List ByteArray} {ys : List (List Int)} (h : Few cs ys) : (Tb.mk cs ys).Ok := ⟨fun s hs => by have := h.1 s hs; unfold maxLen; omega, fun y hy n hn => by have := (h.2 y hy).2 n hn; unfold I64; omega⟩
theorem Few.first {cs : List ByteArray} {ys : List (List Int)} (h : Few cs ys) (h0 : 0 < ys.length) {z : Int} (z0 : -2000 ≤ z) (z1 : z ≤ 2000) : Few cs (ys.set 0 (ys[0].set 0 z)) := ⟨h.1, fun y hy => by
  rcases List.mem_or_eq_of_mem_set hy with hy | rfl
  · exact h.2 y hy
  · refine ⟨by rw [List.length_set]; exact (h.2 _ (List.getElem_mem h0)).1, fun n hn => ?_⟩
    rcases List.mem_or_eq_of_mem_set hn with hn | rfl
    · exact (h.2 _ (List.getElem_mem h0)).2 n hn
    · exact ⟨z0, z1⟩⟩
/-- Rows of c numbers. -/
def Wide (c : Nat) (ys : List (List Int)) : Prop := ∀ y ∈ ys, y.length = c
theorem Wide.row {c : Nat} {ys : List (List Int)} (h : Wide c ys) {y : List Int} (hy : y.length = c) : Wide c (ys ++ [y]) := fun x hx => by
  rcases List.mem_append.1 hx with hx | hx
  · exact h x hx
  · simp at hx; subst hx; exact hy
theorem Wide.sum {c : Nat} {ys : List (List Int)} (h : Wide c ys) : sumR ys ≤ c * ys.length := sumR_max fun y hy => Nat.le_of_eq (h y hy)
theorem Wide.first {c : Nat} {ys : List (List Int)} (h : Wide c ys) (h0 : 0 < ys.length) {z : Int} : Wide c (ys.set 0 (ys[0].set 0 z)) := fun y hy => by
  rcases List.mem_or_eq_of_mem_set hy with hy | rfl
  · exact h y hy
  · rw [List.length_set]; exact h _ (List.getElem_mem h0)
theorem need_few {cs : List ByteArray} {ys : List (List Int)} {c : Nat} (h : Few cs ys) (hw : Wide c ys) (h1 : cs.length ≤ 10) (h2 : ys.length ≤ 1000) (h3 : c ≤ 10) : (Tb.mk cs ys).need ≤ 100000 := by
  have a1 := sumS_max h.1
  have a2 := hw.sum
  have a3 : c * ys.length ≤ 10 * ys.length := Nat.mul_le_mul_right _ h3
  unfold Tb.need
  simp only
  omega

/-- As intP, a little wider. -/
def intQ (v : Value) : Prop := ∃ z : Int, v = .int .i64 z ∧ -2000 ≤ z ∧ z ≤ 2000
def intQB (v : Value) : Bool := match v with | .int .i64 z => decide (-2000 ≤ z) && decide (z ≤ 2000) | _ => false
theorem intQ_spec (v : Value) (h : intQB v = true) : intQ v := by
  unfold intQB at h
  split at h
  · simp at h; exact ⟨_, rfl, h.1, h.2⟩
  · cases h
set_option maxHeartbeats 1000000 in
theorem num_drQ (a N b n cap : Nat) (w : World) (h : Dr w a N) (hN : N ≤ 999000) (hc : Cs intQ w b n) (hn : 0 < n) (hab : b ≠ a) :
    Calls Try.prog 51 #[.pointer (some ⟨a, 0, none⟩), .slice (some ⟨b, 0, none⟩) n cap] w fun e w' => ∃ z : Int, e = .returned (.int .i64 z) ∧ -2000 ≤ z ∧ z ≤ 2000 ∧ Dr w' a (N + 1) ∧ Chg [a] w w' := by
  go_enter Try.func51, Try.ntmps51
  have HC := Lib.hid hc
  clear hc
  go_wp2_with fail
  refine (pick_nat n a N _ h hN hn).mono ?_
  rintro e w1 ⟨q, rfl, hq1, hr, hch⟩
  obtain ⟨v, ⟨z, rfl, hz⟩, hcell⟩ := (HC.out.chg hch (by simpa using hab)).2 q hq1
  have HR := Lib.hid hr
  have HCH := Lib.hid hch
  have HZ := Lib.hid hz
  clear hr hch hz
  go_wp2_with fail
  go_ret
  exact ⟨z, rfl, HZ.out.1, HZ.out.2, HR.out, HCH.out⟩
/-- The result's cells and the names to choose from stay. -/
def Kp (w u : World) : Prop := Cs strP u (w.heap.size + 1) 3 ∧ w.heap.size < u.heap.size ∧ (u.cell? ⟨w.heap.size, 0, none⟩ = some (.slice none 0 0) ∧ u.cell? ⟨w.heap.size, 1, none⟩ = some (.slice none 0 0)) ∧ u.frozen? ⟨w.heap.size, 0, none⟩ = false ∧ u.frozen? ⟨w.heap.size, 1, none⟩ = false
theorem Kp.chg {w u E : World} {G : List Nat} (h : Kp w u) (hc : Chg G u E) (hG : ∀ x ∈ G, x < w.heap.size ∨ w.heap.size + 1 < x) : Kp w E := by
  obtain ⟨h1, h2, ⟨h3, h4⟩, h5, h6⟩ := h
  have n0 : w.heap.size ∉ G := fun hm => by have := hG _ hm; omega
  have n1 : w.heap.size + 1 ∉ G := fun hm => by have := hG _ hm; omega
  exact ⟨h1.chg hc n1, Nat.lt_of_lt_of_le h2 hc.size, ⟨hc.cellOf n0 h3, hc.cellOf n0 h4⟩, hc.frozenOf n0 h2 h5, hc.frozenOf n0 h2 h6⟩
theorem Kp.below {w u E : World} (h : Kp w u) (hb : Below u.heap.size u E) : Kp w E := h.chg (Chg.of_below hb []) (by simp)

set_option maxRecDepth 100000 in
set_option maxHeartbeats 16000000 in
theorem l11Draw_any (a N : Nat) (w : World) (h : Dr w a N) (hN : N ≤ 900000) :
    Calls Try.prog 56 #[.pointer (some ⟨a, 0, none⟩)] w (DrewT a (N + 60000) w.heap.size w) := by
  have hal := h.lt
  go_enter Try.func56, Try.ntmps56
  go_wp2_with fail
  obtain ⟨W1, eW1⟩ : ∃ x, x = ((w.alloc (.cells #[.slice none 0 0, .slice none 0 0] 33)).alloc (.cells #[.string ⟨#[120]⟩, .string ⟨#[121]⟩, .string ⟨#[101]⟩] 9)).alloc (.cells #[.slice none 0 0, .slice none 0 0] 33) := ⟨_, rfl⟩
  rw [← eW1]
  have sW1 : w.heap.size + 3 ≤ W1.heap.size := by rw [eW1]; simp
  have HW1 := Lib.hid (show Chg [] w W1 by rw [eW1]; exact (((Chg.refl _ _).alloc _).alloc _).alloc _)
  have HKP := Lib.hid (show Kp w W1 by
    rw [eW1]
    exact ⟨(Cs.fresh strB strB_spec _ #[.string ⟨#[120]⟩, .string ⟨#[121]⟩, .string ⟨#[101]⟩] 9 (by simp) rfl (by kernel_rfl)).alloc _, by simp; omega, ⟨by simp [go_sem], by simp [go_sem]⟩, by simp [go_sem], by simp [go_sem]⟩)
  have HT1 := Lib.hid (show TDr [] [] (w.heap.size + 1 + 1) (w.heap.size + 2) (.slice none 0 0) (.slice none 0 0) W1 by
    rw [eW1]
    exact ⟨⟨by omega, by simp⟩, ⟨by simp [go_sem], by simp [go_sem]⟩, ⟨by simp [go_sem], by simp [go_sem]⟩, [], [], OwnS.empty none, Kd.OwB.nil kRow _ _ _, by simp, by simp, by simp⟩)
  have HD1 := Lib.hid (h.chg HW1.out (by simp))
  clear eW1 h
  refine Calls.mono (pick_nat 3 a N W1 HD1.out (by omega) (by decide)) ?_
  rintro en w1 ⟨q, rfl, hq, d1, k1⟩
  have HC1 := Lib.hid ((HW1.out.mono (by simp) : Chg [a] w W1).trans k1)
  have HK1 := Lib.hid (HKP.out.chg k1 (by simp; omega))
  have HT2 := Lib.hid (HT1.out.chg k1 (by simp; omega))
  clear k1 HT1
  have hqi : IntKind.i64.wrap (1 + (q : Int)) = ((1 + q : Nat) : Int) := by rw [IntKind.wrap_i64] <;> omega
  go_wp2_with fail
  go_loopw [5] (fun i wr => ∃ (k : Nat) (cs : List ByteArray) (va : Value), i = .int .i64 (k : Int) ∧ cs.length + k = 1 + q ∧ TDr cs [] (w.heap.size + 1 + 1) (w.heap.size + 2) va (.slice none 0 0) wr ∧ Few cs [] ∧ Dr wr a (N + 1) ∧ Chg [a] w wr ∧ Kp w wr) (fun i _ => (intOf i).toNat)
  case atStart => exact ⟨1 + q, [], _, by simp, by simp, HT2.out, ⟨by simp, by simp⟩, d1, HC1.out, HK1.out⟩
  case round =>
    obtain ⟨k, cs, va, rfl, hck, hT, hF, hd, hc, hkp⟩ := hrel
    have HKP1 := Lib.hid hkp
    have HT := Lib.hid hT
    have HC := Lib.hid hc
    have HF := Lib.hid hF
    have HD := Lib.hid hd
    have har : a < wr.heap.size := hd.lt
    obtain ⟨p1, c1, _, _, rfl, _⟩ := hT.form
    obtain ⟨⟨_, hkb⟩, ⟨x0, x1⟩, ⟨x2, x3⟩, _⟩ := hT
    clear hc hF hd hkp
    by_cases hpos : 0 < k
    · have q0 : decide ((0 : Int) < (k : Int)) = true := decide_eq_true (by omega)
      have q1 : ((0 : Int) < (k : Int)) = True := eq_true (by omega)
      have hcl : cs.length < 3 := by omega
      obtain ⟨v, ⟨s, rfl, hs⟩, hcell⟩ := HKP1.out.1.2 cs.length hcl
      have hlt3 : (cs.length : Int) < 3 := by omega
      have HS := Lib.hid hs
      clear hs
      go_upto_region 6 with fail
      refine wp_region_E (last := 11) (S := fun w' => w'.cell? ⟨w.heap.size + 1 + 1, 0, none⟩ = some (.slice p1 cs.length c1) ∧ w'.cell? ⟨w.heap.size + 1, cs.length, none⟩ = some (.string s)) (by kernel_rfl) ⟨x0, hcell⟩ (fun hHeld => ?_)
      have cW : Below wr.heap.size wr wr.drew := (Below.refl _ _).drew
      have HK := Lib.hid (fun (E : World) (hE : Below wr.heap.size wr E) => (⟨keepc hE hkb x0, keepc hE (World.block_lt_of_cell? _ _ hcell) hcell⟩ : E.cell? ⟨w.heap.size + 1 + 1, 0, none⟩ = some (.slice p1 cs.length c1) ∧ E.cell? ⟨w.heap.size + 1, cs.length, none⟩ = some (.string s)))
      have szW : wr.heap.size ≤ wr.drew.heap.size := Nat.le_refl _
      generalize wr.drew = W0 at cW hHeld szW ⊢
      (refine takeE (i := 0) (v := ?_) [] rfl (by kernel_rfl) (by kernel_rfl) (fun _ _ _ h => h) (Or.inl ⟨by kernel_rfl, ?_⟩) (by assumption) ?_; rotate_left; (focus (intro w hSw; (try dsimp only at hSw); go_simp; first | done | with_reducible rfl | fail "takeE")); (try simp only [Act.put, List.setIfInBounds_toArray, List.set_cons_zero, List.set_cons_succ]))
      (refine takeE (i := 1) (v := ?_) [] rfl (by kernel_rfl) (by kernel_rfl) (fun _ _ _ h => h) (Or.inl ⟨by kernel_rfl, ?_⟩) (by assumption) ?_; rotate_left; (focus (intro w hSw; (try dsimp only at hSw); go_simp; first | done | with_reducible rfl | fail "takeE")); (try simp only [Act.put, List.setIfInBounds_toArray, List.set_cons_zero, List.set_cons_succ]))
      (refine takeE (i := 2) (v := ?_) [] rfl (by kernel_rfl) (by kernel_rfl) (fun _ _ _ h => h) (Or.inl ⟨by kernel_rfl, ?_⟩) (by assumption) ?_; rotate_left; (focus (intro w hSw; (try dsimp only at hSw); go_simp; first | done | with_reducible rfl | fail "takeE")); (try simp only [Act.put, List.setIfInBounds_toArray, List.set_cons_zero, List.set_cons_succ]))
      (refine takeE (i := 3) (v := ?_) [] rfl (by kernel_rfl) (by kernel_rfl) (fun _ _ _ h => h) (Or.inl ⟨by kernel_rfl, ?_⟩) (by assumption) ?_; rotate_left; (focus (intro w hSw; (try dsimp only at hSw); go_simp; first | done | with_reducible rfl | fail "takeE")); (try simp only [Act.put, List.setIfInBounds_toArray, List.set_cons_zero, List.set_cons_succ]))
      (refine takeE (i := 4) (v := ?_) [] rfl (by kernel_rfl) (by kernel_rfl) (fun _ _ _ h => h) (Or.inl ⟨by kernel_rfl, ?_⟩) (by assumption) ?_; rotate_left; (focus (intro w hSw; (try dsimp only at hSw); go_simp; first | done | with_reducible rfl | fail "takeE")); (try simp only [Act.put, List.setIfInBounds_toArray, List.set_cons_zero, List.set_cons_succ]))
      (refine takeE (i := 5) (v := ?_) [] rfl (by kernel_rfl) (by kernel_rfl) (fun _ _ _ h => h) (Or.inl ⟨by kernel_rfl, ?_⟩) (by assumption) ?_; rotate_left; (focus (intro w hSw; (try dsimp only at hSw); go_simp; first | done | with_reducible rfl | fail "takeE")); (try simp only [Act.put, List.setIfInBounds_toArray, List.set_cons_zero, List.set_cons_succ]))
      (refine takeE (i := 6) (v := ?_) [] rfl (by kernel_rfl) (by kernel_rfl) (fun _ _ _ h => h) (Or.inl ⟨by kernel_rfl, ?_⟩) (by assumption) ?_; rotate_left; (focus (intro w hSw; (try dsimp only at hSw); go_simp; first | done | with_reducible rfl | fail "takeE")); (try simp only [Act.put, List.setIfInBounds_toArray, List.set_cons_zero, List.set_cons_succ]))
      (refine takeE (i := 7) (v := ?_) [] rfl (by kernel_rfl) (by kernel_rfl) (fun _ _ _ h => h) (Or.inl ⟨by kernel_rfl, ?_⟩) (by assumption) ?_; rotate_left; (focus (intro w hSw; (try dsimp only at hSw); go_simp; first | done | with_reducible rfl | fail "takeE")); (try simp only [Act.put, List.setIfInBounds_toArray, List.set_cons_zero, List.set_cons_succ]))
      refine oneE (i := 8) rfl (by kernel_rfl) (by kernel_rfl) (fun K hK => ?_)
      go_simp
      refine hK.out _ _ (HK.out _ (show Below wr.heap.size wr _ by ((repeat (first | with_reducible assumption | with_reducible exact Below.refl _ _ | refine Below.setCell ?_ (by (first | omega | (simp; omega) | (simp; done) | fail "sml")) _ | refine Below.drew ?_ | refine Below.alloc ?_ (by (first | omega | (simp; omega) | (simp; done) | fail "sml")) _)); first | done | fail "chs"))) (fun hHeld => ?_)
      clear hK K
      (try simp only [Act.put, List.setIfInBounds_toArray, List.set_cons_zero, List.set_cons_succ])
      refine oneE (i := 9) rfl (by kernel_rfl) (by kernel_rfl) (fun K hK => ?_)
      refine wp_app (.tmp 19) (.tmp 26) 30 (by rfl) _ _ (by rfl) (by rfl) _ (HT.out.appC (G := []) (Chg.of_below (show Below wr.heap.size wr _ by ((repeat (first | with_reducible assumption | with_reducible exact Below.refl _ _ | refine Below.setCell ?_ (by (first | omega | (simp; omega) | (simp; done) | fail "sml")) _ | refine Below.drew ?_ | refine Below.alloc ?_ (by (first | omega | (simp; omega) | (simp; done) | fail "sml")) _)); first | done | fail "chs")) []) (by simp) _ s _ _ (by simp [go_sem]) (by omega)) ?_
      rintro v' w' ⟨⟨e0, e1, e2, e3, e4⟩, hT6, H6, hH6, hH6l⟩
      obtain ⟨p6, c6, _, _, hv6, _⟩ := hT6.form
      rw [List.length_append, List.length_singleton] at hv6
      subst hv6
      have HT6 := Lib.hid hT6
      have HC6 := Lib.hid ((HC.out.trans (Chg.of_below (show Below wr.heap.size wr _ by ((repeat (first | with_reducible assumption | with_reducible exact Below.refl _ _ | refine Below.setCell ?_ (by (first | omega | (simp; omega) | (simp; done) | fail "sml")) _ | refine Below.drew ?_ | refine Below.alloc ?_ (by (first | omega | (simp; omega) | (simp; done) | fail "sml")) _)); first | done | fail "chs")) [a])).past hH6 (fun x hx => .inr (by have := hH6l x hx; omega)))
      have HD6 := Lib.hid ((HD.out.below (show Below wr.heap.size wr _ by ((repeat (first | with_reducible assumption | with_reducible exact Below.refl _ _ | refine Below.setCell ?_ (by (first | omega | (simp; omega) | (simp; done) | fail "sml")) _ | refine Below.drew ?_ | refine Below.alloc ?_ (by (first | omega | (simp; omega) | (simp; done) | fail "sml")) _)); first | done | fail "chs"))).chg hH6 (fun x hx => by have := hH6l x hx; omega))
      have HK6 := Lib.hid ((HKP1.out.below (show Below wr.heap.size wr _ by ((repeat (first | with_reducible assumption | with_reducible exact Below.refl _ _ | refine Below.setCell ?_ (by (first | omega | (simp; omega) | (simp; done) | fail "sml")) _ | refine Below.drew ?_ | refine Below.alloc ?_ (by (first | omega | (simp; omega) | (simp; done) | fail "sml")) _)); first | done | fail "chs"))).chg hH6 (fun x hx => by have := hH6l x hx; omega))
      have HN6 := Lib.hid (show w'.cell? ⟨w.heap.size + 1, cs.length, none⟩ = some (.string s) by
        have h9 := hH6.cellOf (b := w.heap.size + 1) (fun hm => by have := hH6l _ hm; omega) (HK.out _ (show Below wr.heap.size wr _ by ((repeat (first | with_reducible assumption | with_reducible exact Below.refl _ _ | refine Below.setCell ?_ (by (first | omega | (simp; omega) | (simp; done) | fail "sml")) _ | refine Below.drew ?_ | refine Below.alloc ?_ (by (first | omega | (simp; omega) | (simp; done) | fail "sml")) _)); first | done | fail "chs"))).2
        rwa [set_far _ _ _ _ _ _ (by omega)] at h9)
      clear hT6 hH6 hH6l
      refine hK.out _ _ ⟨e0, HN6.out⟩ (fun hHeld => ?_)
      clear hK K
      (try simp only [Act.put, List.setIfInBounds_toArray, List.set_cons_zero, List.set_cons_succ])
      (refine takeE (i := 10) (v := ?_) [] rfl (by kernel_rfl) (by kernel_rfl) (fun _ _ _ h => h) (Or.inl ⟨by kernel_rfl, ?_⟩) (by assumption) ?_; rotate_left; (focus (intro w hSw; (try dsimp only at hSw); go_simp; first | done | with_reducible rfl | fail "takeE")); (try simp only [Act.put, List.setIfInBounds_toArray, List.set_cons_zero, List.set_cons_succ]))
      refine lastE rfl (by kernel_rfl) (by kernel_rfl) (fun K hK => ?_)
      go_simp
      refine hK.out _ _ ?_
      clear hK K
      refine doneE (by kernel_rfl) ?_ _
      go_wp2_with fail
      go_roundw
      case rel => exact ⟨k - 1, cs ++ [s], _, by go_num, by simp; omega, HT6.out, HF.out.name HS.out, HD6.out, HC6.out, HK6.out⟩
      case measure => simp [intOf]; omega
    · obtain rfl : k = 0 := by omega
      have hcl : cs.length = 1 + q := by omega
      have hcl1 : 1 ≤ cs.length := by omega
      have hcl3 : cs.length ≤ 3 := by omega
      have hcc : 0 < cs.length := by omega
      clear hck hcl
      go_wp2_with fail
      refine Calls.mono (num_dr a (N + 1) _ 5 _ _ (HD.out.alloc _) (by omega) (Cs.fresh intB intB_spec _ _ _ rfl rfl (by kernel_rfl)) (by decide) (by omega)) ?_
      rintro en w2 ⟨z, rfl, hz0, hz1, d2, k2⟩
      have k2' : Chg [a] wr w2 := ((Chg.refl [a] wr).alloc _).trans k2
      have HT2 := Lib.hid (HT.out.chg k2' (by simp; omega))
      have HC2 := Lib.hid (HC.out.trans k2')
      have HK2 := Lib.hid (HKP1.out.chg k2' (by simp; omega))
      have HD2 := Lib.hid d2
      clear k2 k2' HT HC HD HKP1 x0 x1 x2 x3 d2
      go_wp2_with fail
      go_loopw [6] (fun i wr => ∃ (z : Int) (m : Nat) (ys : List (List Int)) (vb : Value), i = .int .i64 z ∧ z ≤ m ∧ m ≤ 1000 ∧ TDr cs ys (w.heap.size + 1 + 1) (w.heap.size + 2) (.slice p1 cs.length c1) vb wr ∧ Few cs ys ∧ Wide cs.length ys ∧ ys.length ≤ 1000 - m ∧ Dr wr a (N + 2 + 50 * (1000 - m)) ∧ Chg [a] w wr ∧ Kp w wr) (fun i _ => (intOf i).toNat)
      case atStart => exact ⟨z, 1000, [], _, rfl, by omega, Nat.le_refl _, HT2.out, ⟨HF.out.1, by simp⟩, by intro y hy; simp at hy, by simp, HD2.out.mono (by omega), HC2.out, HK2.out⟩
      case round =>
        rename World => wo
        clear HT2 HC2 HK2 HD2 HF hz0 hz1
        obtain ⟨z, m, ys, vb, rfl, hzm, hm, hT, hF, hW, hyl, hd, hc, hkp⟩ := hrel
        have HT := Lib.hid hT
        have HC := Lib.hid hc
        have HF := Lib.hid hF
        have HW := Lib.hid hW
        have HD := Lib.hid hd
        have HKP := Lib.hid hkp
        have har : a < wo.heap.size := hd.lt
        obtain ⟨_, _, qb, db, _, rfl⟩ := hT.form
        obtain ⟨⟨_, hkb⟩, ⟨x0, x1⟩, ⟨x2, x3⟩, _⟩ := hT
        clear hc hF hW hd hkp
        by_cases hpos : 0 < z
        · have q0 : decide (0 < z) = true := decide_eq_true hpos
          have hzr : IntKind.i64.wrap (z - 1) = z - 1 := by rw [IntKind.wrap_i64] <;> omega
          go_wp2_with fail
          clear x0 x1 x2 x3
          go_loopw [7, 8] (fun v i wi => ∃ (j : Nat) (y : List Int) (Y : List Nat), i = .int .i64 j ∧ j ≤ cs.length ∧ y.length = j ∧ OwnI wi v y Y ∧ (∀ x ∈ Y, wo.heap.size ≤ x) ∧ (∀ n ∈ y, -2000 ≤ n ∧ n ≤ 2000) ∧ Dr wi a (N + 2 + 50 * (1000 - m) + j) ∧ Chg [a] wo wi) (fun _ i _ => cs.length - (intOf i).toNat)
          case atStart => exact ⟨0, [], [], rfl, Nat.zero_le _, rfl, OwnI.empty _ _, by simp, by simp, (HD.out.alloc _).mono (by omega), (Chg.refl _ _).alloc _⟩
          case round =>
            obtain ⟨j, y, Y, rfl, hj, hyj, hO, hY, hn, hd, hc⟩ := hrel
            have HTI := Lib.hid (HT.out.chg hc (by simp; omega))
            have HCI := Lib.hid hc
            have HOI := Lib.hid hO
            have HYI := Lib.hid hY
            have HNI := Lib.hid hn
            have HDI := Lib.hid hd
            have HYJ := Lib.hid hyj
            have har2 : a < wr.heap.size := hd.lt
            obtain ⟨py, cy, rfl⟩ := hO.form
            have hsz := hc.size
            obtain ⟨⟨_, hkb2⟩, ⟨x0, x1⟩, ⟨x2, x3⟩, _⟩ := HTI.out
            clear hO hY hn hd hc hyj
            by_cases hjc : j < cs.length
            · have hjl : (j : Int) < (cs.length : Int) := by omega
              go_wp2_with fail
              refine Calls.mono (num_dr a (N + 2 + 50 * (1000 - m) + j) _ 6 _ _ (HDI.out.alloc _) (by omega) (Cs.fresh intB intB_spec _ _ _ rfl rfl (by kernel_rfl)) (by decide) (by omega)) ?_
              rintro en w5 ⟨zz, rfl, h0, h1, d5, k5⟩
              have k5' : Chg [a] wr w5 := ((Chg.refl [a] wr).alloc _).trans k5
              have HO5 := Lib.hid (HOI.out.chg k5' (fun x hx => by have := HYI.out x hx; simp; omega))
              have HC5 := Lib.hid (HCI.out.trans k5')
              have HD5 := Lib.hid d5
              have HZ := Lib.hid (few_more (z := zz) HNI.out (by omega) (by omega))
              have hY5 := Lib.hid (fun x hx => HYI.out x hx)
              have HAI := Lib.hid (fun (ty : TypeId) => app_int HO5.out zz (by have := HYJ.out; omega) ty)
              clear k5 k5' d5 h0 h1 x0 x1 x2 x3
              go_wp2_with (at_builtin; refine wpApp rfl (.tmp 44) (.tmp 48) 23 rfl _ _ rfl rfl _ (HAI.out _) ?_; rintro v6 w6 ⟨F6, ho6, hf6, hc6⟩; have HO6 := Lib.hid ho6; have HF6 := Lib.hid hf6; have HC6 := Lib.hid hc6; clear ho6 hf6 hc6)
              go_roundw
              case rel =>
                have hs5 := HC5.out.size
                exact ⟨j + 1, y ++ [zz], F6, by go_num, by omega, by rw [List.length_append, HYJ.out]; rfl, HO6.out, fun x hx => by
                  rcases HF6.out x hx with h | h
                  · exact hY5.out x h
                  · omega, HZ.out, (HD5.out.chg HC6.out (fun x hx => by have := hY5.out x hx; omega)).mono (by omega), HC5.out.past HC6.out (fun x hx => .inr (hY5.out x hx))⟩
              case measure => simp [intOf]; omega
            · obtain rfl : j = cs.length := by omega
              have HAR := Lib.hid (fun (ty : TypeId) => HT.out.appR (G := [a]) (E := wr.alloc (.cells #[.slice py y.length cy] 23)) (HCI.out.alloc _) (by simp; omega) ty y py cy Y wr.heap.size 1 ((HOI.out.below ((Below.refl _ _).alloc (Nat.le_refl _) _)).own) HYI.out (by simp [go_sem]) (by omega))
              have HDA := Lib.hid (HDI.out.alloc (.cells #[.slice py y.length cy] 23))
              have HCA := Lib.hid ((HC.out.trans HCI.out).alloc (.cells #[.slice py y.length cy] 23))
              have HKA := Lib.hid ((HKP.out.chg HCI.out (by simp; omega)).below ((Below.refl _ _).alloc (Nat.le_refl _) (.cells #[.slice py y.length cy] 23)))
              go_wp2_with (at_builtin; refine wpApp rfl (.tmp 51) (.tmp 53) 31 rfl _ _ rfl rfl _ (HAR.out _) ?_; rintro v7 w7 ⟨⟨e0, e1, e2, e3, e4⟩, hT7, H7, hH7, hl7⟩; obtain ⟨_, _, q7, c7, _, hv7⟩ := hT7.form; rw [List.length_append, List.length_singleton] at hv7; subst hv7; have HT7 := Lib.hid hT7; have HH7 := Lib.hid hH7; have HL7 := Lib.hid hl7; clear hT7 hH7 hl7)
              go_roundw
              case rel =>
                exact ⟨z - 1, m - 1, ys ++ [y], _, by go_num, by omega, by omega, HT7.out, HF.out.row (by have := HYJ.out; omega) HNI.out, HW.out.row HYJ.out, by simp; omega, (HDA.out.chg HH7.out (fun x hx => by have := HL7.out x hx; omega)).mono (by omega), HCA.out.past HH7.out (fun x hx => .inr (by have := HL7.out x hx; omega)), HKA.out.chg HH7.out (fun x hx => by have := HL7.out x hx; omega)⟩
              case measure => simp [intOf]; omega
        · go_wp2_with fail
          refine Calls.mono (pick_nat 24 a (N + 2 + 50 * (1000 - m)) wo HD.out (by omega) (by decide)) ?_
          rintro en w3 ⟨q2, rfl, hq2, d3, k3⟩
          have HT3 := Lib.hid (HT.out.chg k3 (by simp; omega))
          have HC3 := Lib.hid (HC.out.trans k3)
          have HK3 := Lib.hid (HKP.out.chg k3 (by simp; omega))
          have HD3 := Lib.hid d3
          have har3 : a < w3.heap.size := d3.lt
          clear d3 k3 HT HC HKP HD x0 x1 x2 x3
          obtain ⟨⟨_, hkb3⟩, ⟨x0, x1⟩, ⟨x2, x3⟩, _⟩ := HT3.out
          by_cases hq0 : q2 = 0
          · subst hq0
            go_upto_region 18 with fail
            refine wp_region_E (last := 8) (S := fun w' => w'.cell? ⟨w.heap.size + 1 + 1, 0, none⟩ = some (.slice p1 cs.length c1)) (by kernel_rfl) x0 (fun hHeld => ?_)
            have cW : Below w3.heap.size w3 w3.drew := (Below.refl _ _).drew
            have HK := Lib.hid (fun (E : World) (hE : Chg [a] w3 E) => (HT3.out.chg hE (by simp; omega)).2.1.1)
            have szW : w3.heap.size ≤ w3.drew.heap.size := Nat.le_refl _
            generalize w3.drew = Z0 at cW hHeld szW ⊢
            (refine takeE (i := 0) (v := ?_) [] rfl (by kernel_rfl) (by kernel_rfl) (fun _ _ _ h => h) (Or.inl ⟨by kernel_rfl, ?_⟩) (by assumption) ?_; rotate_left; (focus (intro w hSw; (try dsimp only at hSw); go_simp; first | done | with_reducible rfl | fail "takeE")); (try simp only [Act.put, List.setIfInBounds_toArray, List.set_cons_zero, List.set_cons_succ]))
            (refine takeE (i := 1) (v := ?_) [] rfl (by kernel_rfl) (by kernel_rfl) (fun _ _ _ h => h) (Or.inl ⟨by kernel_rfl, ?_⟩) (by assumption) ?_; rotate_left; (focus (intro w hSw; (try dsimp only at hSw); go_simp; first | done | with_reducible rfl | fail "takeE")); (try simp only [Act.put, List.setIfInBounds_toArray, List.set_cons_zero, List.set_cons_succ]))
            (refine takeE (i := 2) (v := ?_) [] rfl (by kernel_rfl) (by kernel_rfl) (fun _ _ _ h => h) (Or.inl ⟨by kernel_rfl, ?_⟩) (by assumption) ?_; rotate_left; (focus (intro w hSw; (try dsimp only at hSw); go_simp; first | done | with_reducible rfl | fail "takeE")); (try simp only [Act.put, List.setIfInBounds_toArray, List.set_cons_zero, List.set_cons_succ]))
            refine oneE (i := 3) rfl (by kernel_rfl) (by kernel_rfl) (fun K hK => ?_)
            go_simp
            refine made (K := K) strB_spec 3 (by rfl) (by kernel_rfl) ?_
            intro u1 ku1 zu1 sA
            have k1 : Chg [a] w3 u1 := (Chg.of_below cW [a]).trans (ku1.mono (by simp))
            have D1 := Lib.hid (((HD3.out.below cW).chg ku1 (by simp)))
            refine hK.out _ _ (HK.out _ k1) (fun hHeld => ?_)
            clear hK K
            (try simp only [Act.put, List.setIfInBounds_toArray, List.set_cons_zero, List.set_cons_succ])
            refine oneE (i := 4) rfl (by kernel_rfl) (by kernel_rfl) (fun K hK => ?_)
            go_simp
            go_at_call 90
            refine Calls.mono (of_dr a _ Z0.heap.size 3 _ u1 D1.out (by omega) sA (by decide) (by omega)) ?_
            rintro en u2 ⟨s, rfl, hs, du2, ku2⟩
            have k2 : Chg [a] w3 u2 := k1.trans ku2
            have D2 := Lib.hid du2
            have HS := Lib.hid hs
            clear du2 hs sA ku2 ku1
            go_wp2_with fail
            refine hK.out _ _ (HK.out _ k2) (fun hHeld => ?_)
            clear hK K
            (try simp only [Act.put, List.setIfInBounds_toArray, List.set_cons_zero, List.set_cons_succ])
            refine oneE (i := 5) rfl (by kernel_rfl) (by kernel_rfl) (fun K hK => ?_)
            go_simp
            refine hK.out _ _ (HK.out _ (k2.alloc _)) (fun hHeld => ?_)
            clear hK K
            (try simp only [Act.put, List.setIfInBounds_toArray, List.set_cons_zero, List.set_cons_succ])
            refine oneE (i := 6) rfl (by kernel_rfl) (by kernel_rfl) (fun K hK => ?_)
            refine wp_app (.tmp 61) (.tmp 65) 30 (by rfl) _ _ (by rfl) (by rfl) _ (HT3.out.appC (G := [a]) (k2.alloc _) (by simp; omega) _ s _ _ (by simp [go_sem]) (by omega)) ?_
            rintro v' w' ⟨⟨e0, e1, e2, e3, e4⟩, hT6, H6, hH6, hH6l⟩
            obtain ⟨p6, c6, _, _, hv6, _⟩ := hT6.form
            rw [List.length_append, List.length_singleton] at hv6
            subst hv6
            have HT6 := Lib.hid hT6
            have HC6 := Lib.hid ((HC3.out.trans (k2.alloc _)).past hH6 (fun x hx => .inr (by have := hH6l x hx; omega)))
            have HD6 := Lib.hid ((D2.out.alloc _).chg hH6 (fun x hx => by have := hH6l x hx; omega))
            have HK6 := Lib.hid ((HK3.out.chg (k2.alloc _) (by simp; omega)).chg hH6 (fun x hx => by have := hH6l x hx; omega))
            have HF6 := Lib.hid (HF.out.name HS.out)
            clear hT6 hH6 hH6l
            refine hK.out _ _ e0 (fun hHeld => ?_)
            clear hK K
            (try simp only [Act.put, List.setIfInBounds_toArray, List.set_cons_zero, List.set_cons_succ])
            (refine takeE (i := 7) (v := ?_) [] rfl (by kernel_rfl) (by kernel_rfl) (fun _ _ _ h => h) (Or.inl ⟨by kernel_rfl, ?_⟩) (by assumption) ?_; rotate_left; (focus (intro w hSw; (try dsimp only at hSw); go_simp; first | done | with_reducible rfl | fail "takeE")); (try simp only [Act.put, List.setIfInBounds_toArray, List.set_cons_zero, List.set_cons_succ]))
            refine lastE rfl (by kernel_rfl) (by kernel_rfl) (fun K hK => ?_)
            go_simp
            refine hK.out _ _ ?_
            clear hK K
            refine doneE (by kernel_rfl) ?_ _
            clear e0 e1 x0 x1
            obtain ⟨FT, hTH, hTF⟩ := HT6.out.has
            have HTH := Lib.hid hTH
            have HTF := Lib.hid hTF
            obtain ⟨_, hkz, ⟨r0, r1⟩, r2, r3⟩ := HK6.out
            obtain ⟨_, ⟨x0, x1⟩, _, _⟩ := HT6.out
            clear hTH hTF
            go_wp2_with fail
            exact bodyPost_ret (v := .agg #[.slice p6 (cs.length + 1) c6, .slice qb ys.length db]) (by simp [results, Try.results56, go_sem, r0, r1]) rfl ⟨⟨cs ++ [s], ys⟩, _, FT, rfl, HTH.out.chg (G := [w.heap.size]) (((Chg.refl _ _).setCell (by simp) _).setCell (by simp) _) (fun y hy => by have := (HTF.out y hy).1; simp; omega), fun y hy => by have := (HTF.out y hy).1; omega, HF6.out.ok, need_few HF6.out HW.out (by first | omega | (simp; omega) | (simp; done)) (by first | omega | (simp; omega) | (simp; done)) (show cs.length ≤ 10 by omega), ((HD6.out.set (by omega)).set (by omega)).mono (by omega), (HC6.out).past (((Chg.refl [w.heap.size] _).setCell (by simp) _).setCell (by simp) _) (fun x hx => .inr (by simp at hx; omega))⟩
          · have hn0 : ((q2 : Int) == 0) = false := by simp; omega
            by_cases hq1 : q2 = 1
            · subst hq1
              by_cases hr : 0 < ys.length
              · have hr0 : (0 : Int) < (ys.length : Int) := by omega
                have hr1 : decide ((0 : Int) < (ys.length : Int)) = true := decide_eq_true hr0
                have hrl : 0 < ys[0].length := by have := HW.out _ (List.getElem_mem hr); omega
                obtain ⟨bq, cap, r, o, c, hbf, hcap, hlq, hbqs, hlr, hrow, hback⟩ := HT3.out.first (G := [a]) hr hrl
                have HBACK := Lib.hid hback
                simp only [Value.slice.injEq] at hbf
                obtain ⟨rfl, _, rfl⟩ := hbf
                unfold maxLen at hcap
                have hrl0 : (0 : Int) < (ys[0].length : Int) := by omega
                obtain ⟨ln, eln⟩ : ∃ n, n = ys[0].length := ⟨_, rfl⟩
                rw [← eln] at hrow hrl0 hrl
                have hcl9 := HT3.out
                clear hback eln hcl9
                go_upto_region 21 with fail
                refine wp_region_E (last := 8) (S := fun w' => w'.cell? ⟨w.heap.size + 1 + 1, 1, none⟩ = some (.slice (some ⟨bq, 0, none⟩) ys.length db) ∧ w'.cell? ⟨bq, 0, none⟩ = some (.slice (some ⟨r, o, none⟩) ln c)) (by kernel_rfl) ⟨x1, hrow⟩ (fun hHeld => ?_)
                have cW : Below w3.heap.size w3 w3.drew := (Below.refl _ _).drew
                have HK := Lib.hid (fun (E : World) (hE : Chg [a] w3 E) => (⟨(HT3.out.chg hE (by simp; omega)).2.1.2, hE.cellOf (by simp; omega) hrow⟩ : E.cell? ⟨w.heap.size + 1 + 1, 1, none⟩ = some (.slice (some ⟨bq, 0, none⟩) ys.length db) ∧ E.cell? ⟨bq, 0, none⟩ = some (.slice (some ⟨r, o, none⟩) ln c)))
                have szW : w3.heap.size ≤ w3.drew.heap.size := Nat.le_refl _
                generalize w3.drew = Z0 at cW hHeld szW ⊢
                (refine takeE (i := 0) (v := ?_) [] rfl (by kernel_rfl) (by kernel_rfl) (fun _ _ _ h => h) (Or.inl ⟨by kernel_rfl, ?_⟩) (by assumption) ?_; rotate_left; (focus (intro w hSw; (try dsimp only at hSw); go_simp; first | done | with_reducible rfl | fail "takeE")); (try simp only [Act.put, List.setIfInBounds_toArray, List.set_cons_zero, List.set_cons_succ]))
                (refine takeE (i := 1) (v := ?_) [] rfl (by kernel_rfl) (by kernel_rfl) (fun _ _ _ h => h) (Or.inl ⟨by kernel_rfl, ?_⟩) (by assumption) ?_; rotate_left; (focus (intro w hSw; (try dsimp only at hSw); go_simp; first | done | with_reducible rfl | fail "takeE")); (try simp only [Act.put, List.setIfInBounds_toArray, List.set_cons_zero, List.set_cons_succ]))
                (refine takeE (i := 2) (v := ?_) [] rfl (by kernel_rfl) (by kernel_rfl) (fun _ _ _ h => h) (Or.inl ⟨by kernel_rfl, ?_⟩) (by assumption) ?_; rotate_left; (focus (intro w hSw; (try dsimp only at hSw); go_simp; first | done | with_reducible rfl | fail "takeE")); (try simp only [Act.put, List.setIfInBounds_toArray, List.set_cons_zero, List.set_cons_succ]))
                (refine takeE (i := 3) (v := ?_) [] rfl (by kernel_rfl) (by kernel_rfl) (fun _ _ _ h => h) (Or.inl ⟨by kernel_rfl, ?_⟩) (by assumption) ?_; rotate_left; (focus (intro w hSw; (try dsimp only at hSw); go_simp; first | done | with_reducible rfl | fail "takeE")); (try simp only [Act.put, List.setIfInBounds_toArray, List.set_cons_zero, List.set_cons_succ]))
                (refine takeE (i := 4) (v := ?_) [] rfl (by kernel_rfl) (by kernel_rfl) (fun _ _ _ h => h) (Or.inl ⟨by kernel_rfl, ?_⟩) (by assumption) ?_; rotate_left; (focus (intro w hSw; (try dsimp only at hSw); go_simp; first | done | with_reducible rfl | fail "takeE")); (try simp only [Act.put, List.setIfInBounds_toArray, List.set_cons_zero, List.set_cons_succ]))
                refine oneE (i := 5) rfl (by kernel_rfl) (by kernel_rfl) (fun K hK => ?_)
                go_simp
                refine made (K := K)  intQ_spec 3 (by rfl) (by kernel_rfl) ?_
                intro u1 ku1 zu1 sA
                have k1 : Chg [a] w3 u1 := (Chg.of_below cW [a]).trans (ku1.mono (by simp))
                have D1 := Lib.hid (((HD3.out.below cW).chg ku1 (by simp)))
                refine hK.out _ _ (HK.out _ k1) (fun hHeld => ?_)
                clear hK K
                (try simp only [Act.put, List.setIfInBounds_toArray, List.set_cons_zero, List.set_cons_succ])
                refine oneE (i := 6) rfl (by kernel_rfl) (by kernel_rfl) (fun K hK => ?_)
                go_simp
                go_at_call 51
                refine Calls.mono (num_drQ a _ Z0.heap.size 3 _ u1 D1.out (by omega) sA (by decide) (by omega)) ?_
                rintro en u2 ⟨zz, rfl, hz0, hz1, du2, ku2⟩
                have k2 : Chg [a] w3 u2 := k1.trans ku2
                have D2 := Lib.hid du2
                obtain ⟨⟨zo, b0⟩, b1, b2⟩ := HBACK.out u2 k2 (by simp; omega)
                have HT6 := Lib.hid (b2 zz)
                have HF6 := Lib.hid (HF.out.first hr hz0 hz1)
                have HW6 := Lib.hid (HW.out.first hr (z := zz))
                have hst : Chg [r] u2 (u2.setCell ⟨r, o, none⟩ (.int .i64 zz)) := (Chg.refl _ _).setCell (p := ⟨r, o, none⟩) (by simp) _
                have HC6 := Lib.hid ((HC3.out.trans k2).past hst (fun x hx => .inr (by simp at hx; omega)))
                have HD6 := Lib.hid (D2.out.chg hst (fun x hx => by simp at hx; omega))
                have HK6 := Lib.hid ((HK3.out.chg k2 (by simp; omega)).chg hst (fun x hx => by simp at hx; omega))
                clear du2 sA ku2 ku1 b2 hst
                go_wp2_with fail
                refine hK.out _ _ (HK.out _ k2) (fun hHeld => ?_)
                clear hK K
                (try simp only [Act.put, List.setIfInBounds_toArray, List.set_cons_zero, List.set_cons_succ])
                (refine takeE (i := 7) (v := ?_) [] rfl (by kernel_rfl) (by kernel_rfl) (fun _ _ _ h => h) (Or.inl ⟨by kernel_rfl, ?_⟩) (by assumption) ?_; rotate_left; (focus (intro w hSw; (try dsimp only at hSw); go_simp; first | done | with_reducible rfl | fail "takeE")); (try simp only [Act.put, List.setIfInBounds_toArray, List.set_cons_zero, List.set_cons_succ]))
                refine lastE rfl (by kernel_rfl) (by kernel_rfl) (fun K hK => ?_)
                go_simp
                refine hK.out _ _ ?_
                clear hK K
                refine doneE (by kernel_rfl) ?_ _
                clear b0 b1 x0 x1
                obtain ⟨FT, hTH, hTF⟩ := HT6.out.has
                have HTH := Lib.hid hTH
                have HTF := Lib.hid hTF
                obtain ⟨_, hkz, ⟨r0, r1⟩, r2, r3⟩ := HK6.out
                obtain ⟨_, ⟨x0, x1⟩, _, _⟩ := HT6.out
                clear hTH hTF
                go_wp2_with fail
                exact bodyPost_ret (v := .agg #[.slice p1 cs.length c1, .slice (some ⟨bq, 0, none⟩) ys.length db]) (by simp [results, Try.results56, go_sem, r0, r1]) rfl ⟨⟨cs, _⟩, _, FT, rfl, HTH.out.chg (G := [w.heap.size]) (((Chg.refl _ _).setCell (by simp) _).setCell (by simp) _) (fun y hy => by have := (HTF.out y hy).1; simp; omega), fun y hy => by have := (HTF.out y hy).1; omega, HF6.out.ok, need_few HF6.out HW6.out (by first | omega | (simp; omega) | (simp; done)) (by first | omega | (simp; omega) | (simp; done)) (show cs.length ≤ 10 by omega), ((HD6.out.set (by omega)).set (by omega)).mono (by omega), (HC6.out).past (((Chg.refl [w.heap.size] _).setCell (by simp) _).setCell (by simp) _) (fun x hx => .inr (by simp at hx; omega))⟩
              · have hr0 : ys.length = 0 := by omega
                have hr1 : decide ((0 : Int) < (ys.length : Int)) = false := decide_eq_false (by omega)
                clear hr0
                go_upto_region 24 with fail
                clear x0 x1
                obtain ⟨FT, hTH, hTF⟩ := HT3.out.has
                have HTH := Lib.hid hTH
                have HTF := Lib.hid hTF
                obtain ⟨_, hkz, ⟨r0, r1⟩, r2, r3⟩ := HK3.out
                obtain ⟨_, ⟨x0, x1⟩, _, _⟩ := HT3.out
                clear hTH hTF
                go_wp2_with fail
                exact bodyPost_ret (v := .agg #[.slice p1 cs.length c1, .slice qb ys.length db]) (by simp [results, Try.results56, go_sem, r0, r1]) rfl ⟨⟨cs, ys⟩, _, FT, rfl, HTH.out.chg (G := [w.heap.size]) (((Chg.refl _ _).setCell (by simp) _).setCell (by simp) _) (fun y hy => by have := (HTF.out y hy).1; simp; omega), fun y hy => by have := (HTF.out y hy).1; omega, HF.out.ok, need_few HF.out HW.out (by first | omega | (simp; omega) | (simp; done)) (by first | omega | (simp; omega) | (simp; done)) (show cs.length ≤ 10 by omega), ((HD3.out.set (by omega)).set (by omega)).mono (by omega), (HC3.out).past (((Chg.refl [w.heap.size] _).setCell (by simp) _).setCell (by simp) _) (fun x hx => .inr (by simp at hx; omega))⟩
            · have hn1 : ((q2 : Int) == 1) = false := by simp; omega
              by_cases hq2' : q2 = 2
              · subst hq2'
                go_upto_region 24 with fail
                obtain ⟨W4, eW4⟩ : ∃ E, E = (w3.setCell ⟨w.heap.size + 1 + 1, 0, none⟩ (.slice (some ⟨w3.heap.size, 0, none⟩) 0 0)).alloc (.cells #[] 9) := ⟨_, rfl⟩
                rw [← eW4]
                have hst : Chg [w.heap.size + 1 + 1] w3 W4 := by rw [eW4]; exact ((Chg.refl _ _).setCell (by simp) _).alloc _
                have HT6 := Lib.hid (show TDr [] ys (w.heap.size + 1 + 1) (w.heap.size + 2) (.slice (some ⟨w3.heap.size, 0, none⟩) 0 0) (.slice qb ys.length db) W4 by rw [eW4]; exact (HT3.out.clear (G := []) (Chg.refl _ _) (by simp) _).chg (G := []) ((Chg.refl _ _).alloc _) (by simp))
                have HC6 := Lib.hid (HC3.out.past hst (fun x hx => .inr (by simp at hx; omega)))
                have HD6 := Lib.hid (HD3.out.chg hst (fun x hx => by simp at hx; omega))
                have HK6 := Lib.hid (HK3.out.chg hst (fun x hx => by simp at hx; omega))
                have HF6 := Lib.hid (show Few [] ys from ⟨by simp, HF.out.2⟩)
                clear eW4 hst x0 x1
                obtain ⟨FT, hTH, hTF⟩ := HT6.out.has
                have HTH := Lib.hid hTH
                have HTF := Lib.hid hTF
                obtain ⟨_, hkz, ⟨r0, r1⟩, r2, r3⟩ := HK6.out
                obtain ⟨_, ⟨x0, x1⟩, _, _⟩ := HT6.out
                clear hTH hTF
                go_wp2_with fail
                exact bodyPost_ret (v := .agg #[.slice (some ⟨w3.heap.size, 0, none⟩) 0 0, .slice qb ys.length db]) (by simp [results, Try.results56, go_sem, r0, r1]) rfl ⟨⟨[], ys⟩, _, FT, rfl, HTH.out.chg (G := [w.heap.size]) (((Chg.refl _ _).setCell (by simp) _).setCell (by simp) _) (fun y hy => by have := (HTF.out y hy).1; simp; omega), fun y hy => by have := (HTF.out y hy).1; omega, HF6.out.ok, need_few HF6.out HW.out (by first | omega | (simp; omega) | (simp; done)) (by first | omega | (simp; omega) | (simp; done)) (show cs.length ≤ 10 by omega), ((HD6.out.set (by omega)).set (by omega)).mono (by omega), (HC6.out).past (((Chg.refl [w.heap.size] _).setCell (by simp) _).setCell (by simp) _) (fun x hx => .inr (by simp at hx; omega))⟩
              · have hn2 : ((q2 : Int) == 2) = false := by simp; omega
                go_upto_region 24 with fail
                clear x0 x1
                obtain ⟨FT, hTH, hTF⟩ := HT3.out.has
                have HTH := Lib.hid hTH
                have HTF := Lib.hid hTF
                obtain ⟨_, hkz, ⟨r0, r1⟩, r2, r3⟩ := HK3.out
                obtain ⟨_, ⟨x0, x1⟩, _, _⟩ := HT3.out
                clear hTH hTF
                go_wp2_with fail
                exact bodyPost_ret (v := .agg #[.slice p1 cs.length c1, .slice qb ys.length db]) (by simp [results, Try.results56, go_sem, r0, r1]) rfl ⟨⟨cs, ys⟩, _, FT, rfl, HTH.out.chg (G := [w.heap.size]) (((Chg.refl _ _).setCell (by simp) _).setCell (by simp) _) (fun y hy => by have := (HTF.out y hy).1; simp; omega), fun y hy => by have := (HTF.out y hy).1; omega, HF.out.ok, need_few HF.out HW.out (by first | omega | (simp; omega) | (simp; done)) (by first | omega | (simp; omega) | (simp; done)) (show cs.length ≤ 10 by omega), ((HD3.out.set (by omega)).set (by omega)).mono (by omega), (HC3.out).past (((Chg.refl [w.heap.size] _).setCell (by simp) _).setCell (by simp) _) (fun x hx => .inr (by simp at hx; omega))⟩
end Go.Proofs.Ytfdkmngkpihpbaa
namespace Go.Proofs.Ytfdkmngkpihpbaa
open Go.RowKit

theorem rowNone {E : World} {s u : Value} {ys : List Int} {B : Nat} (h : OwnI E s [] []) (hu : Sl 1 intCells B E u ys) (hl : ys.length ≤ 3000000) (ty : TypeId) :
    ∃ v' w', (Builtin.append_ #[23, 23] ty #[s, u]).run Try.prog E = .ok v' w' ∧ ∃ F p c, v' = .slice p ys.length c ∧ OwnSl 1 intCells w' v' ys F ∧ (∀ y ∈ F, E.heap.size ≤ y) ∧ Below E.heap.size E w' := by
  obtain ⟨v', w', hr, F, h1, h2, h3⟩ := app_ints h hu (by simpa using hl) ty
  have h4 : OwnI w' v' ys F := by simpa using h1
  obtain ⟨p, c, e⟩ := h4.form
  exact ⟨v', w', hr, F, p, c, e, h4.own, fun y hy => by rcases h2 y hy with h | h; (simp at h); exact h, h3.below (Nat.le_refl _) (by simp)⟩
theorem strNone {E : World} {s u : Value} {ys : List ByteArray} {B : Nat} (h : OwnS (α := ByteArray) 1 strCells 9 E s [] []) (hu : kStr.Rd B E u ys) (hl : ys.length ≤ 3000000) (ty : TypeId) :
    ∃ v' w', (Builtin.append_ #[30, 30] ty #[s, u]).run Try.prog E = .ok v' w' ∧ ∃ F p c, v' = .slice p ys.length c ∧ kStr.Ow w' v' ys F ∧ (∀ y ∈ F, E.heap.size ≤ y) ∧ Below E.heap.size E w' := by
  obtain ⟨i, hi, hzz⟩ := Option.map_eq_some_iff.1 infoStrT
  simp only [Prod.mk.injEq] at hzz
  obtain ⟨hz, hs, hb⟩ := hzz
  obtain ⟨v', w', hr, F, h1, h2, h3⟩ := OwnS.appends (enc := strCells) (sz := 1) (fun _ => rfl) (fun x u hu => by simp [strCells] at hu; subst hu; rfl) 30 ty 9 i _ 16 Try.underlying30 hi hz hs hb (by decide) h ys u B (kStr_rd.1 hu) (by simpa using hl) (by simp; omega)
  have h4 : OwnS 1 strCells 9 w' v' ys F := by simpa using h1
  obtain ⟨p, c, e⟩ := h4.form
  exact ⟨v', w', hr, F, p, c, e, kStr_ow.2 (OwnS.own (enc := strCells) (fun _ => rfl) h4), fun y hy => by rcases h2 y hy with h | h; (simp at h); exact h, h3.below (Nat.le_refl _) (by simp)⟩
/-- A result's cells, made ahead of what comes. -/
theorem resOf {w w2 : World} {t : TypeId} {o : Obj} (hb : Below ((w.alloc (.cells #[.slice none 0 0, .slice none 0 0] t)).alloc o).heap.size ((w.alloc (.cells #[.slice none 0 0, .slice none 0 0] t)).alloc o) w2) : ∀ E, Below (w.heap.size + 1) w2 E → w.heap.size < E.heap.size ∧ (E.cell? ⟨w.heap.size, 0, none⟩ = some (.slice none 0 0) ∧ E.cell? ⟨w.heap.size, 1, none⟩ = some (.slice none 0 0)) ∧ E.frozen? ⟨w.heap.size, 0, none⟩ = false ∧ E.frozen? ⟨w.heap.size, 1, none⟩ = false := fun E hE => by
  have hE2 : Below (w.heap.size + 1) ((w.alloc (.cells #[.slice none 0 0, .slice none 0 0] t)).alloc o) E := (hb.mono (by simp)).trans hE
  exact ⟨by have := hE2.size; simp at this; omega, ⟨keepc hE2 (by omega) (by simp [go_sem]), keepc hE2 (by omega) (by simp [go_sem])⟩, (hE2.frozen (p := ⟨w.heap.size, 0, none⟩) (by show w.heap.size < w.heap.size + 1; omega)).trans (by simp [go_sem]), (hE2.frozen (p := ⟨w.heap.size, 1, none⟩) (by show w.heap.size < w.heap.size + 1; omega)).trans (by simp [go_sem])⟩
def TbOne (R : Tb) (w : World) (en : Ending) (w' : World) : Prop := ∃ v F, en = .returned v ∧ R.Has v F w' ∧ (∀ y ∈ F, w.heap.size ≤ y) ∧ Below w.heap.size w w'

set_option maxRecDepth 100000 in
set_option maxHeartbeats 4000000 in
theorem l11Copy_any (cs : List ByteArray) (rs : List (List Int)) (va vb : Value) (B : Nat) (w : World) (ha : kStr.Rd B w va cs) (hb : kRow.Rd B w vb rs) (hB : B ≤ w.heap.size) (hn1 : cs.length ≤ 1048576) (hn2 : rs.length + sumR rs ≤ 1048576) :
    Calls Try.prog 66 #[va, vb] w (TbOne ⟨cs, rs⟩ w) := by
  have HAR := Lib.hid ha
  have HBR := Lib.hid hb
  obtain ⟨p0, c0, rfl⟩ := ha.form
  obtain ⟨q, d, rfl⟩ := hb.form
  have hmx := hb.max
  have hmx1 := ha.max
  unfold maxLen at hmx hmx1
  clear ha hb
  go_enter Try.func66, Try.ntmps66
  have r0 := Below.refl w.heap.size w
  go_wp2_with (at_builtin; refine wpApp rfl (.tmp 7) (.tmp 8) 30 rfl _ _ rfl rfl _ (strNone (OwnS.empty _) (HAR.out.to ((show Below w.heap.size w _ by ((repeat (first | with_reducible assumption | with_reducible exact Below.refl _ _ | refine Below.setCell ?_ (by (first | omega | (simp; omega) | (simp; done) | fail "sml")) _ | refine Below.drew ?_ | refine Below.alloc ?_ (by (first | omega | (simp; omega) | (simp; done) | fail "sml")) _)); first | done | fail "chs")).mono hB) (Nat.le_refl _)) (by omega) _) ?_; rintro v2 w2 ⟨F2, p2, c2, rfl, ho2, hf2, hb2⟩; have hs2 : w.heap.size + 2 ≤ w2.heap.size := (by have := hb2.size; simp at this; omega); have HRES := Lib.hid (show ∀ E, Below (w.heap.size + 1) w2 E → w.heap.size < E.heap.size ∧ (E.cell? ⟨w.heap.size, 0, none⟩ = some (.slice none 0 0) ∧ E.cell? ⟨w.heap.size, 1, none⟩ = some (.slice none 0 0)) ∧ E.frozen? ⟨w.heap.size, 0, none⟩ = false ∧ E.frozen? ⟨w.heap.size, 1, none⟩ = false from resOf hb2); have HB2 := Lib.hid ((show Below w.heap.size w _ by ((repeat (first | with_reducible assumption | with_reducible exact Below.refl _ _ | refine Below.setCell ?_ (by (first | omega | (simp; omega) | (simp; done) | fail "sml")) _ | refine Below.drew ?_ | refine Below.alloc ?_ (by (first | omega | (simp; omega) | (simp; done) | fail "sml")) _)); first | done | fail "chs")).trans (hb2.mono (by simp; omega))); have HF2 := Lib.hid (show ∀ y ∈ F2, w.heap.size + 2 ≤ y from fun y hy => by have := hf2 y hy; simp at this; omega); have HO2 := Lib.hid ho2; clear ho2 hf2 hb2)
  obtain ⟨W3, eW3⟩ : ∃ u, u = w2.alloc (.cells #[.slice p2 cs.length c2, .slice none 0 0] 33) := ⟨_, rfl⟩
  rw [← eW3]
  have hs3 : w2.heap.size < W3.heap.size := by rw [eW3]; simp
  have hb3 : Below w2.heap.size w2 W3 := by rw [eW3]; exact (Below.refl _ _).alloc (Nat.le_refl _) _
  have HT3 := Lib.hid (show TAcc cs (rs.take 0) w2.heap.size (w.heap.size + 1) (.slice p2 cs.length c2) (.slice none 0 0) W3 by
    have h2 := HO2.out.below hb3
    have hlt := HO2.out.lt
    rw [eW3] at h2 ⊢
    exact ⟨⟨by omega, by simp⟩, ⟨by simp [go_sem], by simp [go_sem]⟩, ⟨by simp [go_sem], by simp [go_sem]⟩, F2, [], h2, by simpa using Kd.OwB.nil kRow _ _ _, fun y hy => ⟨by have := HF2.out y hy; omega, by have := hlt y hy; omega⟩, by simp, by simp⟩)
  have HB3 := Lib.hid (HB2.out.trans (hb3.mono (by omega)))
  have HR3 := Lib.hid (show Below (w.heap.size + 1) w2 W3 from hb3.mono (by omega))
  obtain ⟨kb, ekb⟩ : ∃ k, k = w2.heap.size := ⟨_, rfl⟩
  rw [← ekb] at HT3 ⊢
  have hkb : w.heap.size + 2 ≤ kb := by omega
  clear eW3 hb3 HO2 HF2 ekb
  obtain ⟨⟨_, hkl⟩, ⟨x0, x1⟩, _, _⟩ := HT3.out
  go_wp2_with fail
  clear x0 x1
  go_loopw [6] (fun i wr => ∃ (k : Nat) (b : Value), k ≤ rs.length ∧ i = .int .i64 k ∧ RowKit.Hid (TAcc cs (rs.take k) kb (w.heap.size + 1) (.slice p2 cs.length c2) b wr) ∧ RowKit.Hid (Below (w.heap.size + 1) W3 wr)) (fun i _ => rs.length - (intOf i).toNat)
  case atStart => exact ⟨0, _, Nat.zero_le _, rfl, HT3, Lib.hid (Below.refl _ _)⟩
  case round =>
    obtain ⟨k, b, hk, rfl, HTA, HBW⟩ := hrel
    have hsz := HBW.out.size
    have HBA := Lib.hid (HB3.out.trans (HBW.out.mono (by omega)))
    obtain ⟨⟨_, hkl2⟩, ⟨x0, x1⟩, ⟨g0, g1⟩, _⟩ := HTA.out
    by_cases hlt : k < rs.length
    · obtain ⟨bb, off, q2, c3, rfl, hbb, d0, hin⟩ := kRow_get (HBR.out.to (HBA.out.mono hB) (Nat.le_refl _)) hlt
      have hsize := sumR_get rs k hlt
      have htk := Lib.hid (List.take_succ_eq_append_getElem hlt)
      obtain ⟨y, ey⟩ : ∃ y, y = rs[k] := ⟨_, rfl⟩
      rw [← ey] at d0 hin hsize htk
      have HIN := Lib.hid hin
      have hyl : y.length ≤ 1048576 := by omega
      have hkk : (k : Int) < (rs.length : Int) := by omega
      have hbr : bb < wr.heap.size := by have := HBA.out.size; omega
      have HTK := Lib.hid (show (rs.take k).length ≤ 1048576 by rw [List.length_take]; omega)
      obtain ⟨_, _, qb, cb, _, hbf⟩ := HTA.out.form
      rw [List.length_take, Nat.min_eq_left hk] at hbf
      subst hbf
      have hmy := hin.max
      unfold maxLen at hmy
      clear ey hin hsize x0
      go_upto_region 5 with fail
      refine wp_region_E (last := 11) (S := fun w' => w'.cell? ⟨kb, 1, none⟩ = some (.slice qb k cb) ∧ w'.cell? ⟨bb, off + k, none⟩ = some (.slice q2 y.length c3)) (by kernel_rfl) ?_ (fun hHeld => ?_)
      · exact ⟨x1, d0⟩
      have cW : Below wr.heap.size wr wr.drew := (Below.refl _ _).drew
      have HK := Lib.hid (fun (E : World) (hE : Below wr.heap.size wr E) => (⟨keepc hE hkl2 x1, keepc hE hbr d0⟩ : E.cell? ⟨kb, 1, none⟩ = some (.slice qb k cb) ∧ E.cell? ⟨bb, off + k, none⟩ = some (.slice q2 y.length c3)))
      have szW : wr.heap.size ≤ wr.drew.heap.size := Nat.le_refl _
      generalize wr.drew = W0 at cW hHeld szW ⊢
      (refine takeE (i := 0) (v := ?_) [] rfl (by kernel_rfl) (by kernel_rfl) (fun _ _ _ h => h) (Or.inl ⟨by kernel_rfl, ?_⟩) (by assumption) ?_; rotate_left; (focus (intro w hSw; (try dsimp only at hSw); go_simp; first | done | with_reducible rfl | fail "takeE")); (try simp only [Act.put, List.setIfInBounds_toArray, List.set_cons_zero, List.set_cons_succ]))
      (refine takeE (i := 1) (v := ?_) [] rfl (by kernel_rfl) (by kernel_rfl) (fun _ _ _ h => h) (Or.inl ⟨by kernel_rfl, ?_⟩) (by assumption) ?_; rotate_left; (focus (intro w hSw; (try dsimp only at hSw); go_simp; first | done | with_reducible rfl | fail "takeE")); (try simp only [Act.put, List.setIfInBounds_toArray, List.set_cons_zero, List.set_cons_succ]))
      (refine takeE (i := 3) (v := ?_) [] rfl (by kernel_rfl) (by kernel_rfl) (fun _ _ _ h => h) (Or.inl ⟨by kernel_rfl, ?_⟩) (by assumption) ?_; rotate_left; (focus (intro w hSw; (try dsimp only at hSw); go_simp; first | done | with_reducible rfl | fail "takeE")); (try simp only [Act.put, List.setIfInBounds_toArray, List.set_cons_zero, List.set_cons_succ]))
      (refine takeE (i := 4) (v := ?_) [] rfl (by kernel_rfl) (by kernel_rfl) (fun _ _ _ h => h) (Or.inl ⟨by kernel_rfl, ?_⟩) (by assumption) ?_; rotate_left; (focus (intro w hSw; (try dsimp only at hSw); go_simp; first | done | with_reducible rfl | fail "takeE")); (try simp only [Act.put, List.setIfInBounds_toArray, List.set_cons_zero, List.set_cons_succ]))
      (refine takeE (i := 5) (v := ?_) [] rfl (by kernel_rfl) (by kernel_rfl) (fun _ _ _ h => h) (Or.inl ⟨by kernel_rfl, ?_⟩) (by assumption) ?_; rotate_left; (focus (intro w hSw; (try dsimp only at hSw); go_simp; first | done | with_reducible rfl | fail "takeE")); (try simp only [Act.put, List.setIfInBounds_toArray, List.set_cons_zero, List.set_cons_succ]))
      (refine takeE (i := 6) (v := ?_) [] rfl (by kernel_rfl) (by kernel_rfl) (fun _ _ _ h => h) (Or.inl ⟨by kernel_rfl, ?_⟩) (by assumption) ?_; rotate_left; (focus (intro w hSw; (try dsimp only at hSw); go_simp; first | done | with_reducible rfl | fail "takeE")); (try simp only [Act.put, List.setIfInBounds_toArray, List.set_cons_zero, List.set_cons_succ]))
      refine oneE (i := 2) rfl (by kernel_rfl) (by kernel_rfl) (fun K hK => ?_)
      go_simp
      refine hK.out _ _ (HK.out _ (show Below wr.heap.size wr _ by ((repeat (first | with_reducible assumption | with_reducible exact Below.refl _ _ | refine Below.setCell ?_ (by (first | omega | (simp; omega) | (simp; done) | fail "sml")) _ | refine Below.drew ?_ | refine Below.alloc ?_ (by (first | omega | (simp; omega) | (simp; done) | fail "sml")) _)); first | done | fail "chs"))) (fun hHeld => ?_)
      clear hK K
      (try simp only [Act.put, List.setIfInBounds_toArray, List.set_cons_zero, List.set_cons_succ])
      refine oneE (i := 7) rfl (by kernel_rfl) (by kernel_rfl) (fun K hK => ?_)
      refine wp_app (.tmp 19) (.tmp 23) 23 (by rfl) _ _ (by rfl) (by rfl) _ (rowNone (OwnI.empty _ _) (HIN.out.below ((show Below wr.heap.size wr _ by ((repeat (first | with_reducible assumption | with_reducible exact Below.refl _ _ | refine Below.setCell ?_ (by (first | omega | (simp; omega) | (simp; done) | fail "sml")) _ | refine Below.drew ?_ | refine Below.alloc ?_ (by (first | omega | (simp; omega) | (simp; done) | fail "sml")) _)); first | done | fail "chs")).mono (by have := HBA.out.size; omega))) (by omega) _) ?_
      rintro v5 w5 ⟨F5, p5, c5, rfl, ho5, hf5, hb5⟩
      have k5 : Below wr.heap.size wr w5 := (show Below wr.heap.size wr _ by ((repeat (first | with_reducible assumption | with_reducible exact Below.refl _ _ | refine Below.setCell ?_ (by (first | omega | (simp; omega) | (simp; done) | fail "sml")) _ | refine Below.drew ?_ | refine Below.alloc ?_ (by (first | omega | (simp; omega) | (simp; done) | fail "sml")) _)); first | done | fail "chs")).trans (hb5.mono (by simp; omega))
      have hs5 := k5.size
      have HF5 := Lib.hid (show ∀ x ∈ F5, wr.heap.size ≤ x from fun x hx => by have := hf5 x hx; simp at this; omega)
      have HO5 := Lib.hid ho5
      clear ho5 hf5 hb5
      refine hK.out _ _ (HK.out _ k5) (fun hHeld => ?_)
      clear hK K
      (try simp only [Act.put, List.setIfInBounds_toArray, List.set_cons_zero, List.set_cons_succ])
      refine oneE (i := 8) rfl (by kernel_rfl) (by kernel_rfl) (fun K hK => ?_)
      go_simp
      refine hK.out _ _ (HK.out _ (show Below wr.heap.size wr _ by ((repeat (first | with_reducible assumption | with_reducible exact Below.refl _ _ | refine Below.setCell ?_ (by (first | omega | (simp; omega) | (simp; done) | fail "sml")) _ | refine Below.drew ?_ | refine Below.alloc ?_ (by (first | omega | (simp; omega) | (simp; done) | fail "sml")) _)); first | done | fail "chs"))) (fun hHeld => ?_)
      clear hK K
      (try simp only [Act.put, List.setIfInBounds_toArray, List.set_cons_zero, List.set_cons_succ])
      refine oneE (i := 9) rfl (by kernel_rfl) (by kernel_rfl) (fun K hK => ?_)
      have HAPP := HTA.out.app (E := w5.alloc (.cells #[.slice p5 y.length c5] 23)) (show Below wr.heap.size wr _ by ((repeat (first | with_reducible assumption | with_reducible exact Below.refl _ _ | refine Below.setCell ?_ (by (first | omega | (simp; omega) | (simp; done) | fail "sml")) _ | refine Below.drew ?_ | refine Below.alloc ?_ (by (first | omega | (simp; omega) | (simp; done) | fail "sml")) _)); first | done | fail "chs")) 31 y p5 c5 F5 w5.heap.size 1 (HO5.out.below ((Below.refl _ _).alloc (Nat.le_refl _) _)) HF5.out (by simp [go_sem]) HTK.out
      refine wp_app (.tmp 18) (.tmp 25) 31 (by rfl) _ _ (by rfl) (by rfl) _ HAPP ?_
      rintro v' w' ⟨⟨e0, e1, e2, e3⟩, hT6, hb6⟩
      have HT6 := Lib.hid (show TAcc cs (rs.take (k + 1)) kb (w.heap.size + 1) (.slice p2 cs.length c2) v' (w'.setCell ⟨kb, 1, none⟩ v') from by rw [htk.out]; exact hT6)
      have HB6 := Lib.hid (HBW.out.trans hb6)
      obtain ⟨_, _, q6, c6, _, hvf⟩ := HT6.out.form
      rw [List.length_take, Nat.min_eq_left (show k + 1 ≤ rs.length by omega)] at hvf
      subst hvf
      have HD6 := Lib.hid (show w'.cell? ⟨bb, off + k, none⟩ = some (.slice q2 y.length c3) by
        have h9 := keepc hb6 (show bb < w.heap.size + 1 by omega) d0
        rwa [set_far _ _ _ _ _ _ (by omega)] at h9)
      clear hT6 hb6 HAPP
      refine hK.out _ _ ⟨e1, HD6.out⟩ (fun hHeld => ?_)
      clear hK K
      (try simp only [Act.put, List.setIfInBounds_toArray, List.set_cons_zero, List.set_cons_succ])
      (refine takeE (i := 10) (v := ?_) [] rfl (by kernel_rfl) (by kernel_rfl) (fun _ _ _ h => h) (Or.inl ⟨by kernel_rfl, ?_⟩) (by assumption) ?_; rotate_left; (focus (intro w hSw; (try dsimp only at hSw); go_simp; first | done | with_reducible rfl | fail "takeE")); (try simp only [Act.put, List.setIfInBounds_toArray, List.set_cons_zero, List.set_cons_succ]))
      refine lastE rfl (by kernel_rfl) (by kernel_rfl) (fun K hK => ?_)
      go_simp
      refine hK.out _ _ ?_
      clear hK K
      refine doneE (by kernel_rfl) ?_ _
      go_wp2_with fail
      go_roundw
      case rel => exact ⟨k + 1, _, by omega, by go_num, HT6, HB6⟩
      case measure => simp [intOf]; omega
    · obtain rfl : k = rs.length := by omega
      have HTE := Lib.hid (show TAcc cs rs kb (w.heap.size + 1) (.slice p2 cs.length c2) b wr by have := HTA.out; rwa [List.take_length] at this)
      clear HTA
      obtain ⟨FT, hH, hFT⟩ := HTE.out.has
      have HH := Lib.hid hH
      have HFT := Lib.hid hFT
      obtain ⟨_, _, qb, cb, _, rfl⟩ := HTE.out.form
      obtain ⟨hr0, ⟨hr1, hr2⟩, hr3, hr4⟩ := HRES.out wr (HR3.out.trans HBW.out)
      clear hH hFT
      go_wp2_with fail
      exact bodyPost_ret (v := .agg #[.slice p2 cs.length c2, .slice qb rs.length cb]) (by simp [results, Try.results66, go_sem, hr1, hr2]) rfl ⟨_, FT, rfl, HH.out.chg (G := [w.heap.size]) (((Chg.refl _ _).setCell (by simp) _).setCell (by simp) _) (fun y hy => by have := (HFT.out y hy).1; simp; omega), fun y hy => by have := (HFT.out y hy).1; omega, (HBA.out.setCell (by simp) _).setCell (by simp) _⟩
end Go.Proofs.Ytfdkmngkpihpbaa
namespace Go.Proofs.Ytfdkmngkpihpbaa
open Go.RowKit

def cutB (x : Tb) (s c : Int) : Bool := x.ok && decide (0 ≤ s) && decide (s ≤ 400) && decide (0 ≤ c) && decide (c ≤ 400)
def cutFrom (x : Tb) (s : Int) : Nat := min s.toNat x.rs.length
def cutTo (x : Tb) (s c : Int) : Nat := min (cutFrom x s + c.toNat) x.rs.length
def cutRows (x : Tb) (s c : Int) : List (List Int) := (x.rs.take (cutTo x s c)).drop (cutFrom x s)
def cutR (x : Tb) (s c : Int) : Tb := if cutB x s c = true then ⟨x.cs, cutRows x s c⟩ else noTb
theorem sumR_drop (xs : List (List Int)) (k : Nat) : sumR (xs.drop k) ≤ sumR xs := by
  unfold sumR
  have := congrArg (fun l => (l.map List.length).sum) (List.take_append_drop k xs)
  simp only [List.map_append, List.sum_append] at this; omega
theorem cutRows_need (x : Tb) (s c : Int) : (cutRows x s c).length + sumR (cutRows x s c) ≤ x.rs.length + sumR x.rs := by
  unfold cutRows
  have h1 := sumR_drop (x.rs.take (cutTo x s c)) (cutFrom x s)
  have h2 := sumR_le x.rs (cutTo x s c)
  rw [List.length_drop, List.length_take]
  omega
theorem sub_ok {x : Tb} {ys : List (List Int)} (h : x.ok = true) (hl : ys.length ≤ x.rs.length) (hs : ∀ y ∈ ys, y ∈ x.rs) : (Tb.mk x.cs ys).ok = true := by
  unfold Tb.ok at h ⊢
  simp only [Bool.and_eq_true, decide_eq_true_eq, List.all_eq_true] at h ⊢
  exact ⟨⟨h.1.1, by omega⟩, fun y hy => h.2 y (hs y hy)⟩
theorem cut_ok {x : Tb} {s c : Int} (h : x.ok = true) : (Tb.mk x.cs (cutRows x s c)).ok = true :=
  sub_ok h (by unfold cutRows; rw [List.length_drop, List.length_take]; omega) fun y hy => List.mem_of_mem_take (List.mem_of_mem_drop hy)
theorem cutB_ok {x : Tb} {s c : Int} (h : x.ok = false) : cutB x s c = false := by unfold cutB; rw [h]; rfl
theorem cutB_1 {x : Tb} {s c : Int} (h : s < 0) : cutB x s c = false := by unfold cutB; rw [decide_eq_false (p := 0 ≤ s) (by omega)]; simp
theorem cutB_2 {x : Tb} {s c : Int} (h : 400 < s) : cutB x s c = false := by unfold cutB; rw [decide_eq_false (p := s ≤ 400) (by omega)]; simp
theorem cutB_3 {x : Tb} {s c : Int} (h : c < 0) : cutB x s c = false := by unfold cutB; rw [decide_eq_false (p := 0 ≤ c) (by omega)]; simp
theorem cutB_4 {x : Tb} {s c : Int} (h : 400 < c) : cutB x s c = false := by unfold cutB; rw [decide_eq_false (p := c ≤ 400) (by omega)]; simp
theorem cutB_yes {x : Tb} {s c : Int} (h : x.ok = true) (h1 : ¬ s < 0) (h2 : ¬ 400 < s) (h3 : ¬ c < 0) (h4 : ¬ 400 < c) : cutB x s c = true := by
  unfold cutB; rw [h, decide_eq_true (p := 0 ≤ s) (by omega), decide_eq_true (p := s ≤ 400) (by omega), decide_eq_true (p := 0 ≤ c) (by omega), decide_eq_true (p := c ≤ 400) (by omega)]; rfl
theorem cutR_no {x : Tb} {s c : Int} (h : cutB x s c = false) : cutR x s c = noTb := by unfold cutR; rw [h]; rfl
theorem cutR_yes {x : Tb} {s c : Int} (h : cutB x s c = true) : cutR x s c = ⟨x.cs, cutRows x s c⟩ := by unfold cutR; rw [h]; rfl
/-- The part of the rows as a slice: behind the capacity, or not. -/
theorem cut_at {x : Tb} {B : Nat} {E : World} {q : Option Addr} {n d : Nat} {s c : Int} {f t : Nat} (h : kRow.Rd B E (.slice q n d) x.rs) (hf : f = cutFrom x s) (ht : t = cutTo x s c) : kRow.Rd B E (.slice (q.map (fun a => a.add f)) (t - f) (d - f)) (cutRows x s c) := by
  have hl : t ≤ x.rs.length := by rw [ht]; unfold cutTo; omega
  have hft : f ≤ t := by rw [hf, ht]; unfold cutTo cutFrom; omega
  have h1 := (Kd.Rd.take h hl).drop rfl (k := f) (by rw [List.length_take]; omega)
  rw [List.length_take, Nat.min_eq_left hl] at h1
  unfold cutRows
  rw [← hf, ← ht]
  exact h1
theorem cut_at0 {x : Tb} {B : Nat} {E : World} {q : Option Addr} {n d : Nat} {s c : Int} {f : Nat} (h : kRow.Rd B E (.slice q n d) x.rs) (hf : f = cutFrom x s) (hd : d = f) : kRow.Rd B E (.slice q 0 0) (cutRows x s c) := by
  have hm := h.max
  have hl : cutTo x s c ≤ f := by unfold cutTo; omega
  have he : cutRows x s c = [] := List.eq_nil_of_length_eq_zero (by unfold cutRows; rw [List.length_drop, List.length_take]; omega)
  rw [he]
  exact Kd.Rd.nil (Nat.zero_le _)
/-- What a call of SliceRows keeps: the variable of the table and the result's cells. -/
def Kept (x : Tb) (p : Option Addr) (c : Nat) (q : Option Addr) (d : Nat) (w E : World) : Prop :=
  (w.heap.size + 2 ≤ E.heap.size ∧ (E.cell? ⟨w.heap.size, 0, none⟩ = some (.slice p x.cs.length c) ∧ E.cell? ⟨w.heap.size, 1, none⟩ = some (.slice q x.rs.length d))) ∧ (E.cell? ⟨w.heap.size + 1, 0, none⟩ = some (.slice none 0 0) ∧ E.cell? ⟨w.heap.size + 1, 1, none⟩ = some (.slice none 0 0)) ∧ E.frozen? ⟨w.heap.size + 1, 0, none⟩ = false ∧ E.frozen? ⟨w.heap.size + 1, 1, none⟩ = false
theorem kept_of {x : Tb} {p : Option Addr} {c : Nat} {q : Option Addr} {d : Nat} {w E : World} {t t' : TypeId} (hE : Below (w.heap.size + 2) ((w.alloc (.cells #[.slice p x.cs.length c, .slice q x.rs.length d] t)).alloc (.cells #[.slice none 0 0, .slice none 0 0] t')) E) : Kept x p c q d w E :=
  ⟨⟨by have := hE.size; simp at this; omega, keepc hE (by omega) (by simp [go_sem]), keepc hE (by omega) (by simp [go_sem])⟩, ⟨keepc hE (by omega) (by simp [go_sem]), keepc hE (by omega) (by simp [go_sem])⟩, (hE.frozen (p := ⟨w.heap.size + 1, 0, none⟩) (by show w.heap.size + 1 < w.heap.size + 2; omega)).trans (by simp [go_sem]), (hE.frozen (p := ⟨w.heap.size + 1, 1, none⟩) (by show w.heap.size + 1 < w.heap.size + 2; omega)).trans (by simp [go_sem])⟩
theorem tw_yes {cs : List ByteArray} {rs : List (List Int)} {va vb : Value} {w : World} (h : (Tb.mk cs rs).ok = true) (hc : Calls Try.prog 57 #[va, vb] w (TbPost (twR ⟨cs, rs⟩) (Tb.ok ⟨cs, rs⟩) w)) : Calls Try.prog 57 #[va, vb] w (TbPost ⟨cs, rs⟩ true w) := by
  rw [h, show twR ⟨cs, rs⟩ = ⟨cs, rs⟩ by unfold twR; rw [if_pos h]] at hc
  exact hc
theorem cutR_small {x : Tb} {s c : Int} (h : x.need ≤ 1048576) : (cutR x s c).cs.length + sumR (cutR x s c).rs ≤ 1048576 := by
  unfold Tb.need at h
  unfold cutR
  split
  · have h1 := cutRows_need x s c
    have h2 : sumR (cutRows x s c) ≤ sumR x.rs := by
      unfold cutRows
      exact Nat.le_trans (sumR_drop _ _) (sumR_le _ _)
    show x.cs.length + sumR (cutRows x s c) ≤ 1048576
    omega
  · simp [noTb, sumR]
end Go.Proofs.Ytfdkmngkpihpbaa
namespace Go.Proofs.Ytfdkmngkpihpbaa
open Go.RowKit

/-- A table and two numbers, drawn. -/
def DrewSl (w : World) (en : Ending) (w' : World) : Prop := ∃ (x : Tb) (v : Value) (F : List Nat) (s c : Int), en = .returned (.tuple #[v, .int .i64 s, .int .i64 c]) ∧ x.Has v F w' ∧ x.Ok ∧ x.need ≤ 100000 ∧ (-1000 ≤ s ∧ s ≤ 1000) ∧ (-1000 ≤ c ∧ c ≤ 1000) ∧ Below w.heap.size w w'
set_option maxRecDepth 100000 in
set_option maxHeartbeats 8000000 in
theorem drawSliceRows_any (zs : List Int) (v : Value) (B : Nat) (w : World) (hv : Sl 1 byCells B w v zs) (hB : B ≤ w.heap.size) (hz : ∀ z ∈ zs, 0 ≤ z ∧ z ≤ 255) :
    Calls Try.prog 25 #[v] w (DrewSl w) := by
  obtain ⟨p, cap, rfl⟩ := hv.form
  have HV := Lib.hid hv
  clear hv
  go_enter Try.func25, Try.ntmps25
  go_wp2_with fail
  obtain ⟨W1, eW1⟩ : ∃ E, E = w.alloc (.cells #[.slice none 0 0, .slice none 0 0] 33) := ⟨_, rfl⟩
  obtain ⟨sW1, sW1'⟩ : w.heap.size + 1 ≤ W1.heap.size ∧ W1.heap.size ≤ w.heap.size + 1 := by rw [eW1]; constructor <;> simp
  have HW1 := Lib.hid (show Chg [] w W1 by rw [eW1]; exact (Chg.refl _ _).alloc _)
  have HRES := Lib.hid (show (W1.cell? ⟨w.heap.size, 0, none⟩ = some (.slice none 0 0) ∧ W1.cell? ⟨w.heap.size, 1, none⟩ = some (.slice none 0 0)) ∧ W1.frozen? ⟨w.heap.size, 0, none⟩ = false ∧ W1.frozen? ⟨w.heap.size, 1, none⟩ = false by rw [eW1]; exact ⟨⟨by simp [go_sem], by simp [go_sem]⟩, by simp [go_sem], by simp [go_sem]⟩)
  rw [← eW1]
  clear eW1
  refine (open_any zs _ B W1 (HV.out.below ((HW1.out.below (Nat.le_refl _) (by simp)).mono hB)) (by omega) hz).mono ?_
  rintro en u1 ⟨rfl, hr1, hs1, hb1⟩
  have d1 : Dr u1 W1.heap.size 0 := ⟨0, Nat.le_refl _, hr1⟩
  have HB1 := Lib.hid (Chg.of_below hb1 [])
  have s1 := d1.lt
  clear hr1 hb1 hs1
  go_wp2_with fail
  refine (l11Draw_any W1.heap.size 0 u1 d1 (by omega)).mono ?_
  rintro en u2 ⟨x, vx, Fx, rfl, hx, hfx, hok, hne, d2, k2⟩
  have s2 := k2.size
  have HX2 := Lib.hid hx
  have HFX := Lib.hid hfx
  have HXL := Lib.hid hx.lt
  obtain ⟨px, cx, qx, dx, rfl⟩ := hx.form
  have HKW := Lib.hid (((HB1.out.mono (by simp)).trans k2) : Chg [W1.heap.size] W1 u2)
  have HOK := Lib.hid hok
  have HNE := Lib.hid hne
  clear k2 d1 hx hfx hok hne
  go_wp2_with fail
  refine Calls.mono (num_dr W1.heap.size _ _ 5 _ _ (d2.alloc _) (by omega) (Cs.fresh intB intB_spec _ _ _ rfl rfl (by kernel_rfl)) (by decide) (by omega)) ?_
  rintro en u3 ⟨s, rfl, hs0, hs1, d3, k3⟩
  have k3' : Chg [W1.heap.size] u2 u3 := ((Chg.refl _ _).alloc _).trans k3
  have s3 := k3'.size
  have HK3 := Lib.hid (HKW.out.trans k3')
  have HX3 := Lib.hid (HX2.out.chg k3' (fun y hy => by have := HFX.out y hy; simp; omega))
  clear k3 k3' d2 HX2 HKW
  go_wp2_with fail
  refine Calls.mono (num_dr W1.heap.size _ _ 5 _ _ (d3.alloc _) (by omega) (Cs.fresh intB intB_spec _ _ _ rfl rfl (by kernel_rfl)) (by decide) (by omega)) ?_
  rintro en u4 ⟨c, rfl, hc0, hc1, d4, k4⟩
  have k4' : Chg [W1.heap.size] u3 u4 := ((Chg.refl _ _).alloc _).trans k4
  have s4 := k4'.size
  have HK4 := Lib.hid (HK3.out.trans k4')
  have HX4 := Lib.hid (HX3.out.chg k4' (fun y hy => by have := HFX.out y hy; simp; omega))
  clear k4 k4' d3 d4 HX3 HK3
  have r0 := HK4.out.cellOf (by simp; omega) HRES.out.1.1
  have r1 := HK4.out.cellOf (by simp; omega) HRES.out.1.2
  have r2 := HK4.out.frozenOf (by simp; omega) (by omega) HRES.out.2.1
  have r3 := HK4.out.frozenOf (by simp; omega) (by omega) HRES.out.2.2
  have hq1 : w.heap.size < u4.heap.size := by omega
  have HZ := Lib.hid (show (-1000 ≤ s ∧ s ≤ 1000) ∧ (-1000 ≤ c ∧ c ≤ 1000) from ⟨⟨hs0, hs1⟩, hc0, hc1⟩)
  clear hs0 hs1 hc0 hc1
  go_wp2_with fail
  exact bodyPost_ret (v := .tuple #[.agg #[.slice px x.cs.length cx, .slice qx x.rs.length dx], .int .i64 s, .int .i64 c]) (by simp [results, Try.results25, go_sem, r0, r1]) rfl ⟨x, _, Fx, s, c, rfl, HX4.out.chg (G := [w.heap.size]) (((Chg.refl _ _).setCell (by simp) _).setCell (by simp) _) (fun y hy => by have := HFX.out y hy; simp; omega), HOK.out, HNE.out, HZ.out.1, HZ.out.2,
    ((((HW1.out.mono (by simp)).trans HK4.out).past (((Chg.refl [w.heap.size] u4).setCell (by simp) _).setCell (by simp) _) (fun y hy => .inr (by simp at hy; omega))).past (Chg.refl [W1.heap.size] _) (fun y hy => .inl hy) |> fun h => (Chg.past (Chg.refl [] w) h (fun y hy => .inr (by simp at hy; omega))).below (Nat.le_refl _) (by simp))⟩
theorem cut_next {x : Tb} {s c : Int} (h0 : 0 ≤ s) (h2 : 1 ≤ c) : cutRows ⟨x.cs, cutRows x s c⟩ 1 c = cutRows x (s + 1) (c - 1) := by
  obtain ⟨sn, rfl⟩ := Int.eq_ofNat_of_zero_le h0
  obtain ⟨cn, rfl⟩ := Int.eq_ofNat_of_zero_le (show 0 ≤ c by omega)
  have e1 : ((sn : Int) + 1).toNat = sn + 1 := by omega
  have e2 : ((cn : Int) - 1).toNat = cn - 1 := by omega
  have e3 : (1 : Int).toNat = 1 := rfl
  unfold cutRows cutTo cutFrom
  simp only [e1, e2, e3, Int.toNat_natCast, List.length_drop, List.length_take]
  refine List.ext_getElem ?_ fun i hi hi' => ?_
  · simp only [List.length_drop, List.length_take]; omega
  · simp only [List.length_drop, List.length_take] at hi hi'
    simp only [List.getElem_drop, List.getElem_take]
    congr 1
    omega
theorem cutR_next {x : Tb} {s c : Int} (h : cutB x s c = true) (h1 : ¬ 300 < s) (h2 : ¬ c < 1) : cutB (cutR x s c) 1 c = true ∧ cutB x (s + 1) (c - 1) = true ∧ cutR (cutR x s c) 1 c = cutR x (s + 1) (c - 1) := by
  have hb := h
  unfold cutB at hb
  simp only [Bool.and_eq_true, decide_eq_true_eq] at hb
  obtain ⟨⟨⟨⟨hk, h3⟩, h4⟩, h5⟩, h6⟩ := hb
  have e : cutR x s c = ⟨x.cs, cutRows x s c⟩ := cutR_yes h
  have b1 : cutB (cutR x s c) 1 c = true := by rw [e]; exact cutB_yes (cut_ok hk) (by omega) (by omega) (by omega) (by omega)
  have b2 : cutB x (s + 1) (c - 1) = true := cutB_yes hk (by omega) (by omega) (by omega) (by omega)
  refine ⟨b1, b2, ?_⟩
  rw [cutR_yes b1, cutR_yes b2, e, cut_next h3 (by omega)]
theorem cutR_keep {x : Tb} {s c : Int} (hok : ∀ y ∈ x.cs, y.size ≤ maxLen) (hn : x.need ≤ 100000) : (∀ y ∈ (cutR x s c).cs, y.size ≤ maxLen) ∧ (cutR x s c).need ≤ 1048576 := by
  unfold cutR
  split
  · refine ⟨hok, ?_⟩
    have h1 := cutRows_need x s c
    unfold Tb.need at hn ⊢
    simp only
    omega
  · exact ⟨by simp [noTb], by simp [noTb, Tb.need, sumS, sumR]⟩
end Go.Proofs.Ytfdkmngkpihpbaa
namespace Go.Proofs.Ytfdkmngkpihpbaa
open Go.RowKit

/-- A slice of a call's own whose cells are rows that lie below B. -/
def RawRows (E : World) (v : Value) (xs : List (List Int)) (F : List Nat) (B : Nat) : Prop :=
  ∃ rs : List (RawC 1), rs.length = xs.length ∧ OwnS 1 rawE 23 E v rs F ∧ (∀ x ∈ F, B ≤ x) ∧ B ≤ E.heap.size ∧ ∀ i (h1 : i < rs.length) (h2 : i < xs.length), kRow.rd B E xs[i] (rawE rs[i])
theorem raw_of {B : Nat} {w : World} {v : Value} {xs : List (List Int)} (h : kRow.Rd B w v xs) : ∃ rs : List (RawC 1), rs.length = xs.length ∧ Sl 1 rawE B w v rs ∧ ∀ i (h1 : i < rs.length) (h2 : i < xs.length), kRow.rd B w xs[i] (rawE rs[i]) := by
  obtain ⟨p, cap, rfl, h2, h3, h4⟩ := h
  have key : ∀ i : Fin xs.length, ∃ r : RawC 1, (∃ b off, p = some ⟨b, off, none⟩ ∧ b < B ∧ ∀ j u, (rawE r)[j]? = some u → w.cell? ⟨b, off + i.1 * 1 + j, none⟩ = some u) ∧ kRow.rd B w xs[i.1] (rawE r) := fun i => by
    obtain ⟨b, off, cs, e, hl, hc, hr⟩ := h4 i.1 i.2
    refine ⟨⟨cs, kRow.rd_len hr, fun u hu => ?_⟩, ⟨b, off, e, hl, hc⟩, hr⟩
    obtain ⟨z, rfl, hz⟩ := hr
    obtain ⟨q, c, rfl⟩ := hz.form
    simp only [List.mem_cons, List.not_mem_nil, or_false] at hu
    subst hu; rfl
  refine ⟨List.ofFn fun i => Classical.choose (key i), by simp, ⟨p, xs.length, cap, rfl, by simp, h2, h3, fun i hi => ?_⟩, fun i h1 h2 => ?_⟩
  · have hi' : i < xs.length := by simpa using hi
    obtain ⟨b, off, e, hl, hc⟩ := (Classical.choose_spec (key ⟨i, hi'⟩)).1
    refine ⟨b, off, e, hl, fun j u hu => hc j u ?_⟩
    rw [List.getElem_ofFn] at hu
    exact hu
  · rw [List.getElem_ofFn]
    exact (Classical.choose_spec (key ⟨i, h2⟩)).2
theorem RawRows.nil (E : World) (p : Option Addr) {B : Nat} (hB : B ≤ E.heap.size) : RawRows E (.slice p 0 0) [] [] B := ⟨[], rfl, OwnS.empty p, by simp, hB, fun i h1 => by simp at h1⟩
theorem RawRows.form {E : World} {v : Value} {xs : List (List Int)} {F : List Nat} {B : Nat} (h : RawRows E v xs F B) : ∃ p c, v = .slice p xs.length c := by
  obtain ⟨rs, hl, ho, _⟩ := h
  obtain ⟨p, c, rfl⟩ := OwnS.form ho
  rw [hl]; exact ⟨p, c, rfl⟩
theorem RawRows.rd {E : World} {v : Value} {xs : List (List Int)} {F : List Nat} {B : Nat} (h : RawRows E v xs F B) : kRow.Rd E.heap.size E v xs := by
  obtain ⟨rs, hl, ho, _, hBE, hr⟩ := h
  obtain ⟨p, len, cap, rfl, h1, h2, h3, h4⟩ := (OwnS.own (enc := rawE) (fun r => rawE_len r) ho).sl
  subst h1
  rw [hl] at h2 ⊢
  refine ⟨p, cap, rfl, h2, h3, fun i hi => ?_⟩
  obtain ⟨b, off, e, hlb, hc⟩ := h4 i (by omega)
  exact ⟨b, off, rawE rs[i], e, hlb, hc, kRow.rd_to (hr i (by omega) hi) (Below.refl _ _) hBE⟩
/-- A whole row of rows behind the others. -/
theorem RawRows.app {E : World} {v u : Value} {xs ys : List (List Int)} {F : List Nat} {B : Nat} (h : RawRows E v xs F B) (hu : kRow.Rd B E u ys) (hl : xs.length + ys.length ≤ 3000000) (ty : TypeId) :
    ∃ v' w', (Builtin.append_ #[31, 31] ty #[v, u]).run Try.prog E = .ok v' w' ∧ ∃ F', RawRows w' v' (xs ++ ys) F' B ∧ Below B E w' := by
  obtain ⟨rs, hrl, ho, hF, hBE, hr⟩ := h
  obtain ⟨qs, hql, hq, hqr⟩ := raw_of hu
  obtain ⟨i, hi, hzz⟩ := Option.map_eq_some_iff.1 infoRowT
  simp only [Prod.mk.injEq] at hzz
  obtain ⟨hz, hs, hb⟩ := hzz
  obtain ⟨v', w', hrun, F', h1, h2, h3⟩ := OwnS.appends (enc := rawE (n := 1)) (sz := 1) (fun r => rawE_len r) (fun r u hu => rawE_one r u hu) 31 ty 23 i _ 24 Try.underlying31 hi hz hs hb (by decide) ho qs u B hq (by omega) (by omega)
  have hbw : Below B E w' := h3.below hBE hF
  refine ⟨v', w', hrun, F', ⟨rs ++ qs, by rw [List.length_append, List.length_append, hrl, hql], h1, fun x hx => ?_, Nat.le_trans hBE h3.size, fun k hk1 hk2 => ?_⟩, hbw⟩
  · rcases h2 x hx with h | h
    · exact hF x h
    · omega
  · rw [List.length_append] at hk1 hk2
    by_cases hk : k < rs.length
    · rw [List.getElem_append_left hk, List.getElem_append_left (by omega)]
      exact kRow.rd_to (hr k hk (by omega)) hbw (Nat.le_refl _)
    · rw [List.getElem_append_right (by omega), List.getElem_append_right (by omega)]
      have := hqr (k - rs.length) (by omega) (by omega)
      simp only [show k - xs.length = k - rs.length by omega]
      exact kRow.rd_to this hbw (Nat.le_refl _)
/-- The three parts of a table's rows. -/
theorem cut_parts {x : Tb} {s c : Int} (h : cutB x s c = true) : cutB x 0 s = true ∧ cutB x s 400 = true ∧ (cutR x 0 s).rs ++ (cutR x s 400).rs = x.rs ∧ ((cutR x s c).rs.length : Int) ≤ c ∧ (cutR x s c).rs.length ≤ (cutR x s 400).rs.length ∧ (cutR x s 400).rs.take (cutR x s c).rs.length = (cutR x s c).rs := by
  have hb := h
  unfold cutB at hb
  simp only [Bool.and_eq_true, decide_eq_true_eq] at hb
  obtain ⟨⟨⟨⟨hk, h3⟩, h4⟩, h5⟩, h6⟩ := hb
  have hn : x.rs.length ≤ 400 := by
    have := hk
    unfold Tb.ok at this
    simp only [Bool.and_eq_true, decide_eq_true_eq] at this
    exact this.1.2
  have b1 : cutB x 0 s = true := cutB_yes hk (by omega) (by omega) (by omega) (by omega)
  have b2 : cutB x s 400 = true := cutB_yes hk (by omega) (by omega) (by omega) (by omega)
  rw [cutR_yes h, cutR_yes b1, cutR_yes b2]
  simp only
  obtain ⟨sn, rfl⟩ := Int.eq_ofNat_of_zero_le h3
  obtain ⟨cn, rfl⟩ := Int.eq_ofNat_of_zero_le h5
  have e4 : (400 : Int).toNat = 400 := rfl
  have e0 : (0 : Int).toNat = 0 := rfl
  refine ⟨b1, b2, ?_⟩
  unfold cutRows cutTo cutFrom
  simp only [e4, e0, Int.toNat_natCast, Nat.zero_min, Nat.zero_add, List.drop_zero, List.length_drop, List.length_take]
  have e5 : min (min sn x.rs.length + 400) x.rs.length = x.rs.length := by omega
  rw [e5, List.take_length]
  refine ⟨List.take_append_drop _ _, by omega, by omega, ?_⟩
  refine List.ext_getElem ?_ fun i hi hi' => ?_
  · simp only [List.length_drop, List.length_take]; omega
  · simp only [List.getElem_drop, List.getElem_take]
end Go.Proofs.Ytfdkmngkpihpbaa
namespace Go.Proofs.Ytfdkmngkpihpbaa
open Go.RowKit

/-- The rows, each once. -/
def dst (xs : List (List Int)) : List (List Int) := xs.foldl (fun acc y => if y ∈ acc then acc else acc ++ [y]) []
theorem dst_succ {xs : List (List Int)} {k : Nat} (h : k < xs.length) : dst (xs.take (k + 1)) = if xs[k] ∈ dst (xs.take k) then dst (xs.take k) else dst (xs.take k) ++ [xs[k]] := by
  unfold dst
  rw [List.take_succ_eq_append_getElem h, List.foldl_append]
  rfl
theorem dst_old {xs : List (List Int)} {k : Nat} (h : k < xs.length) (hm : xs[k] ∈ dst (xs.take k)) : dst (xs.take (k + 1)) = dst (xs.take k) := by rw [dst_succ h, if_pos hm]
theorem dst_new {xs : List (List Int)} {k : Nat} (h : k < xs.length) (hm : xs[k] ∉ dst (xs.take k)) : dst (xs.take (k + 1)) = dst (xs.take k) ++ [xs[k]] := by rw [dst_succ h, if_neg hm]
theorem dst_facts (xs : List (List Int)) : ∀ k, k ≤ xs.length → (dst (xs.take k)).length ≤ k ∧ sumR (dst (xs.take k)) ≤ sumR (xs.take k) ∧ (∀ y, y ∈ dst (xs.take k) ↔ y ∈ xs.take k) ∧ (dst (xs.take k)).Nodup
  | 0, _ => by simp [dst, sumR]
  | k + 1, h => by
    obtain ⟨h1, h2, h3, h4⟩ := dst_facts xs k (by omega)
    have hs := sumR_succ xs k (by omega)
    have ht := List.take_succ_eq_append_getElem (show k < xs.length by omega)
    by_cases hm : xs[k] ∈ dst (xs.take k)
    · rw [dst_old (by omega) hm]
      refine ⟨by omega, by omega, fun y => ?_, h4⟩
      rw [ht, h3]
      constructor
      · intro hy; exact List.mem_append_left _ hy
      · intro hy
        rcases List.mem_append.1 hy with hy | hy
        · exact hy
        · simp at hy; subst hy; exact (h3 _).1 hm
    · rw [dst_new (by omega) hm]
      refine ⟨by simp; omega, ?_, fun y => ?_, ?_⟩
      · unfold sumR at *
        rw [List.map_append, List.sum_append]
        simp only [List.map_cons, List.map_nil, List.sum_cons, List.sum_nil]
        omega
      · rw [ht]
        simp only [List.mem_append, h3]
      · rw [List.nodup_append]
        refine ⟨h4, by simp, fun a ha b hb => ?_⟩
        simp only [List.mem_singleton] at hb
        subst hb
        rintro rfl
        exact hm ha
def toK (r : List Int) : K6 := ⟨r[0]?.getD 0, r[1]?.getD 0, r[2]?.getD 0, r[3]?.getD 0, r[4]?.getD 0, r[5]?.getD 0⟩
theorem toK_inj {r s : List Int} (h : toK r = toK s) (hl : r.length = s.length) (h6 : r.length ≤ 6) : r = s := by
  simp only [toK, K6.mk.injEq] at h
  obtain ⟨h0, h1, h2, h3, h4, h5⟩ := h
  refine List.ext_getElem hl fun i hi hi' => ?_
  have key : ∀ n (hn : n < r.length) (hn' : n < s.length), r[n]?.getD 0 = s[n]?.getD 0 → r[n] = s[n] := fun n hn hn' e => by
    rw [List.getElem?_eq_getElem hn, List.getElem?_eq_getElem hn'] at e
    exact e
  match i, hi, hi' with
  | 0, hi, hi' => exact key 0 hi hi' h0
  | 1, hi, hi' => exact key 1 hi hi' h1
  | 2, hi, hi' => exact key 2 hi hi' h2
  | 3, hi, hi' => exact key 3 hi hi' h3
  | 4, hi, hi' => exact key 4 hi hi' h4
  | 5, hi, hi' => exact key 5 hi hi' h5
  | i + 6, hi, hi' => exact absurd hi (by omega)
theorem getD64 {r : List Int} (h : ∀ n ∈ r, I64 n) (i : Nat) : I64 (r[i]?.getD 0) := by
  cases e : r[i]? with
  | none => show I64 0; unfold I64; omega
  | some v => exact h v (List.mem_of_getElem? e)
theorem toK_ok {r : List Int} (h : ∀ n ∈ r, I64 n) : (toK r).Ok := ⟨getD64 h 0, getD64 h 1, getD64 h 2, getD64 h 3, getD64 h 4, getD64 h 5⟩
/-- A row's cells, filled up with zeros. -/
def fill6 (r : List Int) : List Value := r.map (Value.int .i64 ·) ++ List.replicate (6 - r.length) (.int .i64 0)
theorem fill6_eq {r : List Int} (h : r.length ≤ 6) : (endV (toK r)) = .agg (fill6 r).toArray := by
  unfold endV toK fill6
  match r, h with
  | [], _ => rfl
  | [a], _ => rfl
  | [a, b], _ => rfl
  | [a, b, c], _ => rfl
  | [a, b, c, d], _ => rfl
  | [a, b, c, d, e], _ => rfl
  | [a, b, c, d, e, f], _ => rfl
  | a :: b :: c :: d :: e :: f :: g :: r, h => simp at h
/-- What a copy of a row into six zeros leaves. -/
theorem copy6 {W : World} {g : Nat} {t : TypeId} (r : List Int) (h6 : r.length ≤ 6) {B : Nat} {q : Option Addr} {c : Nat} (hr : Sl 1 intCells B W (.slice q r.length c) r) (hg : W.heap[g]? = some (.cells #[.int .i64 0, .int .i64 0, .int .i64 0, .int .i64 0, .int .i64 0, .int .i64 0] t (0, 0))) :
    ∃ W', (∀ ty, (Builtin.copy_ #[23, 23] ty #[.slice (some ⟨g, 0, none⟩) 6 6, .slice q r.length c]).run Try.prog W = .ok (goInt r.length) W') ∧ Chg [g] W W' ∧ W'.heap[g]? = some (.cells (fill6 r).toArray t (0, 0)) := by
  have hs : (Try.prog.info? 3).map (·.size) = some 1 := by kernel_rfl
  by_cases h0 : r.length = 0
  · have hr0 : r = [] := List.eq_nil_of_length_eq_zero h0
    subst hr0
    refine ⟨W, fun ty => ?_, Chg.refl _ _, hg⟩
    exact run_copy_none W 23 23 ty 3 (some ⟨g, 0, none⟩) q 6 6 0 c Try.underlying23 hs (by simp)
  · obtain ⟨b, off, rfl, hb, _⟩ := hr.it (k := 0) (by omega)
    have hlen : (r.map (Value.int .i64 ·)).length = r.length := by simp
    refine ⟨W.setRow g ((#[Value.int .i64 0, .int .i64 0, .int .i64 0, .int .i64 0, .int .i64 0, .int .i64 0] : Array Value).toList.take 0 ++ r.map (Value.int .i64 ·) ++ (#[Value.int .i64 0, .int .i64 0, .int .i64 0, .int .i64 0, .int .i64 0, .int .i64 0] : Array Value).toList.drop (0 + (r.map (Value.int .i64 ·)).length)).toArray, fun ty => ?_, ?_, ?_⟩
    · have := run_copy_row (P := Try.prog) W 23 23 ty 3 g 0 6 6 ⟨b, off, none⟩ r.length c _ t (r.map (Value.int .i64 ·)) Try.underlying23 hs hg (by rw [hlen]; show r.length = min r.length 6; omega)
        (fun j v hv => by
          have hj : j < r.length := by have := (List.getElem?_eq_some_iff.1 hv).1; simpa using this
          rw [List.getElem?_map, List.getElem?_eq_getElem hj] at hv
          cases hv
          obtain ⟨b', off', e, _, hc⟩ := hr.it hj
          cases e
          rw [show (⟨b, off, none⟩ : Addr).add j = ⟨b, off + j, none⟩ by simp [Addr.add]]; exact hc) (by rw [hlen]; simp; omega) (fun v hv => by
          obtain ⟨n, _, rfl⟩ := List.mem_map.1 hv; rfl)
      rw [hlen] at this
      rw [hlen]
      exact this
    · exact ⟨rfl, rfl, rfl, by simp [World.setRow], fun k hk hn => by
        have : ¬ g = k := fun e => hn (by simp [e])
        simp [World.setRow, Array.getElem?_modify, this]⟩
    · refine (setRow_heap W g _ _ t (0, 0) hg).trans (congrArg (fun l : List Value => some (Obj.cells l.toArray t (0, 0))) ?_)
      unfold fill6
      match r, h6 with
      | [], _ => rfl
      | [a], _ => rfl
      | [a, b], _ => rfl
      | [a, b, c], _ => rfl
      | [a, b, c, d], _ => rfl
      | [a, b, c, d, e], _ => rfl
      | [a, b, c, d, e, f], _ => rfl
      | a :: b :: c :: d :: e :: f :: g :: r, h => simp at h
end Go.Proofs.Ytfdkmngkpihpbaa
namespace Go.Proofs.Ytfdkmngkpihpbaa
open Go.RowKit

theorem RawRows.chg {E E' : World} {v : Value} {xs : List (List Int)} {F G : List Nat} {B : Nat} (h : RawRows E v xs F B) (hc : Chg G E E') (hF : ∀ x ∈ F, x ∉ G) (hG : ∀ x ∈ G, B ≤ x) : RawRows E' v xs F B := by
  obtain ⟨rs, h1, h2, h3, h4, h5⟩ := h
  exact ⟨rs, h1, OwnS.chg h2 hc hF, h3, Nat.le_trans h4 hc.size, fun i a b => kRow.rd_to (h5 i a b) (hc.below h4 hG) (Nat.le_refl _)⟩
theorem RawRows.lt {E : World} {v : Value} {xs : List (List Int)} {F : List Nat} {B : Nat} (h : RawRows E v xs F B) : ∀ x ∈ F, x < E.heap.size := by
  obtain ⟨rs, _, h2, _⟩ := h
  exact OwnS.lt h2
/-- One more row, shared. -/
theorem RawRows.one {E : World} {v : Value} {xs : List (List Int)} {F : List Nat} {B : Nat} (h : RawRows E v xs F B) (y : List Int) (q : Option Addr) (c : Nat) (hy : Sl 1 intCells B E (.slice q y.length c) y) (g cc : Nat) (h0 : E.cell? ⟨g, 0, none⟩ = some (.slice q y.length c)) (hl : xs.length < 2000000) (ty : TypeId) :
    ∃ v' w', (Builtin.append_ #[31, 31] ty #[v, .slice (some ⟨g, 0, none⟩) 1 cc]).run Try.prog E = .ok v' w' ∧ ∃ F', RawRows w' v' (xs ++ [y]) F' B ∧ (∀ x ∈ F', x ∈ F ∨ E.heap.size ≤ x) ∧ Chg F E w' := by
  obtain ⟨rs, hrl, ho, hF, hBE, hr⟩ := h
  obtain ⟨i, hi, hzz⟩ := Option.map_eq_some_iff.1 infoRowT
  simp only [Prod.mk.injEq] at hzz
  obtain ⟨hz, hs, hb⟩ := hzz
  obtain ⟨v', w', hrun, F', h1, h2, h3⟩ := OwnS.append (enc := rawE (n := 1)) (sz := 1) (fun r => rawE_len r) (fun r u hu => rawE_one r u hu) 31 ty 23 i _ 24 Try.underlying31 hi hz hs hb (by decide) ho
    ⟨[.slice q y.length c], rfl, fun u hu => by simp only [List.mem_cons, List.not_mem_nil, or_false] at hu; subst hu; rfl⟩ g cc (fun j u hu => by
      match j, hu with
      | 0, hu => cases hu; exact h0
      | j + 1, hu => cases hu) (by omega) (by omega)
  have hbw : Below B E w' := h3.below hBE hF
  refine ⟨v', w', hrun, F', ⟨_, by rw [List.length_append, List.length_append, hrl]; rfl, h1, fun x hx => ?_, Nat.le_trans hBE h3.size, fun k hk1 hk2 => ?_⟩, h2, h3⟩
  · rcases h2 x hx with h | h
    · exact hF x h
    · omega
  · rw [List.length_append] at hk1 hk2
    by_cases hk : k < rs.length
    · rw [List.getElem_append_left hk, List.getElem_append_left (by omega)]
      exact kRow.rd_to (hr k hk (by omega)) hbw (Nat.le_refl _)
    · rw [List.getElem_append_right (by omega), List.getElem_append_right (by omega)]
      have hk1' : k < rs.length + 1 := hk1
      have e1 : k - rs.length = 0 := by omega
      have e2 : k - xs.length = 0 := by omega
      simp only [e1, e2, List.getElem_cons_zero]
      exact ⟨_, rfl, kInt_rd.2 (hy.below hbw)⟩
def dsR (x : Tb) : Tb := if x.ok = true then ⟨x.cs, dst x.rs⟩ else noTb
theorem dsR_no {x : Tb} (h : x.ok = false) : dsR x = noTb := by unfold dsR; rw [h]; rfl
theorem dsR_yes {x : Tb} (h : x.ok = true) : dsR x = ⟨x.cs, dst x.rs⟩ := by unfold dsR; rw [h]; rfl
theorem dst_all (xs : List (List Int)) : (dst xs).length ≤ xs.length ∧ sumR (dst xs) ≤ sumR xs ∧ (∀ y, y ∈ dst xs ↔ y ∈ xs) ∧ (dst xs).Nodup := by
  have h := dst_facts xs xs.length (Nat.le_refl _)
  rwa [List.take_length] at h
theorem ds_ok {x : Tb} (h : x.ok = true) : (Tb.mk x.cs (dst x.rs)).ok = true := sub_ok h (dst_all x.rs).1 fun y hy => ((dst_all x.rs).2.2.1 y).1 hy
theorem ok_len {x : Tb} (h : x.ok = true) : x.cs.length ≤ 6 ∧ x.rs.length ≤ 400 ∧ ∀ y ∈ x.rs, y.length = x.cs.length := by
  unfold Tb.ok tbNames at h
  simp only [Bool.and_eq_true, decide_eq_true_eq, List.all_eq_true] at h
  refine ⟨h.1.1.1.1.2, h.1.2, fun y hy => ?_⟩
  have := h.2 y hy
  unfold rowOk at this
  simp only [Bool.and_eq_true, decide_eq_true_eq] at this
  exact this.1
def gT : K6 → Value := fun _ => .bool true
theorem gT_upd (y : K6) : updM gT y (.bool true) = gT := by funext z; simp [updM, gT]
theorem zeroBool (w : World) : (zeroValue 4).run Try.prog w = .ok (.bool false) w := by kernel_rfl
set_option maxRecDepth 100000 in
set_option maxHeartbeats 4000000 in
theorem distinctRows_any (x : Tb) (v : Value) (B : Nat) (w : World) (hx : x.At B w v) (hB : B ≤ w.heap.size) (hok : x.Ok) (hn : x.need ≤ 1048576) :
    Calls Try.prog 19 #[v] w (TbPost (dsR x) x.ok w) := by
  obtain ⟨a, b, rfl, ha, hb⟩ := hx
  obtain ⟨p, c1, rfl⟩ := ha.form
  obtain ⟨q, d, rfl⟩ := hb.form
  have hm1 := ha.max
  have hm2 := hb.max
  unfold maxLen at hm1 hm2
  have hn1 : x.cs.length ≤ 1048576 := by unfold Tb.need at hn; omega
  have hn2 : x.rs.length + sumR x.rs ≤ 1048576 := by unfold Tb.need at hn; omega
  have HAR := Lib.hid ha
  have HBR := Lib.hid hb
  have HOK := Lib.hid hok.1
  have HOI := Lib.hid hok.2
  have CNO := Lib.hid (dsR_no (x := x))
  have CYES := Lib.hid (dsR_yes (x := x))
  have COK := Lib.hid (ds_ok (x := x))
  have CLN := Lib.hid (ok_len (x := x))
  obtain ⟨R, eR⟩ : ∃ R, R = dsR x := ⟨_, rfl⟩
  obtain ⟨T, eT⟩ : ∃ T, T = x.ok := ⟨_, rfl⟩
  rw [← eR, ← eT]
  rw [← eR] at CNO CYES
  have HTE := Lib.hid eT
  clear ha hb hok hn eR eT
  have hmm := @run_makeMap Try.prog
  obtain ⟨W0, eW⟩ : ∃ W0, W0 = (w.alloc (.cells #[.slice p x.cs.length c1, .slice q x.rs.length d] 33)).alloc (.cells #[.slice none 0 0, .slice none 0 0] 33) := ⟨_, rfl⟩
  have HK := Lib.hid (show ∀ E, Below (w.heap.size + 2) W0 E → Kept x p c1 q d w E from fun E hE => by rw [eW] at hE; exact kept_of hE)
  have HV := Lib.hid (show Below w.heap.size w W0 by rw [eW]; exact ((Below.refl _ _).alloc (Nat.le_refl _) _).alloc (by simp) _)
  have hs0 : w.heap.size + 2 ≤ W0.heap.size := by rw [eW]; simp
  have EW := Lib.hid eW
  clear eW
  go_enter Try.func19, Try.ntmps19
  obtain ⟨⟨kz, k0, k1⟩, ⟨k2, k3⟩, k4, k5⟩ := HK.out W0 (Below.refl _ _)
  go_wp2_with fail
  rw [← EW.out]
  go_wp2_with fail
  refine (tableValid_any x _ B W0 ⟨_, _, rfl, HAR.out.to (HV.out.mono hB) (Nat.le_refl _), HBR.out.to (HV.out.mono hB) (Nat.le_refl _)⟩ (by omega) HOK.out).mono ?_
  rintro en w1 ⟨rfl, hb1⟩
  have hs1 := hb1.size
  have HR1 := Lib.hid (show Below (w.heap.size + 2) W0 w1 from hb1.mono (by omega))
  have HB1 := Lib.hid (HV.out.trans (hb1.mono (by omega)))
  clear k0 k1 k2 k3 k4 k5 kz hb1
  obtain ⟨⟨kz, k0, k1⟩, ⟨k2, k3⟩, k4, k5⟩ := HK.out w1 HR1.out
  cases hE : x.ok with
  | false =>
    have HF := Lib.hid (CNO.out hE)
    have HFR := HF.out
    have hTE := HTE.out.trans hE
    clear HTE
    subst HFR hTE
    clear hE
    go_wp2_with fail
    exact bodyPost_ret (v := .tuple #[.agg #[.slice none 0 0, .slice none 0 0], .bool false]) (by simp [results, Try.results19, go_sem, k2, k3]) rfl (TbPost.no ((HB1.out.setCell (by simp) _).setCell (by simp) _))
  | true =>
    have HFR := CYES.out hE
    have HCO := Lib.hid (COK.out hE)
    have HLN := Lib.hid (CLN.out hE)
    have hTE := HTE.out.trans hE
    clear HTE
    subst HFR hTE
    obtain ⟨W2, eW2⟩ : ∃ W2, W2 = w1.alloc (.map #[] 0) := ⟨_, rfl⟩
    have kW2 : Below w1.heap.size w1 W2 := by rw [eW2]; exact (Below.refl _ _).alloc (Nat.le_refl _) _
    have HM2 := Lib.hid (show IMap W2 w1.heap.size [] gT by rw [eW2]; exact IMap.made w1 gT)
    have HR2 := Lib.hid (HR1.out.trans (kW2.mono (by omega)))
    have EW2 := Lib.hid eW2
    have hs2 := kW2.size
    clear eW2 hE kW2 CNO CYES COK CLN k0 k1 k2 k3 k4 k5 kz
    obtain ⟨⟨kz, k0, k1⟩, _⟩ := HK.out W2 HR2.out
    go_upto_region 5 with fail
    rw [← EW2.out]
    go_wp2_with fail
    clear k0 k1 kz
    go_loopw [5, 17] (fun dv i wr => ∃ (k : Nat) (F : List Nat) (S : List K6), k ≤ x.rs.length ∧ i = .int .i64 k ∧ RowKit.Hid (RawRows wr dv (dst (x.rs.take k)) F B) ∧ RowKit.Hid (∀ y ∈ F, w.heap.size + 2 ≤ y ∧ y ≠ w1.heap.size) ∧ RowKit.Hid (IMap wr w1.heap.size S gT) ∧ RowKit.Hid (∀ y : List Int, y.length = x.cs.length → (toK y ∈ S ↔ y ∈ dst (x.rs.take k))) ∧ RowKit.Hid (Below (w.heap.size + 2) W0 wr)) (fun _ i _ => x.rs.length - (intOf i).toNat)
    case atStart => exact ⟨0, [], [], Nat.zero_le _, rfl, Lib.hid (by simpa [dst] using RawRows.nil W2 none (show B ≤ W2.heap.size by omega)), Lib.hid (by simp), HM2, Lib.hid (by simp [dst]), HR2⟩
    case round =>
      obtain ⟨k, F, S, hk, rfl, HRR, HF, HM, HSM, HB⟩ := hrel
      have hsz := HB.out.size
      have hml := HM.out.lt
      have HBA := Lib.hid (HV.out.trans (HB.out.mono (by omega)))
      obtain ⟨pd, cd, rfl⟩ := HRR.out.form
      by_cases hlt : k < x.rs.length
      · obtain ⟨bb, off, q2, c3, rfl, hbb, d0, hin⟩ := kRow_get (HBR.out.to (HBA.out.mono hB) (Nat.le_refl _)) hlt
        have hyl := HLN.out.2.2 _ (List.getElem_mem hlt)
        have hyk := toK_ok (HOI.out _ (List.getElem_mem hlt))
        have hold := dst_old hlt
        have hnew := dst_new hlt
        have hdl := (dst_facts x.rs k hk).1
        obtain ⟨y, ey⟩ : ∃ y, y = x.rs[k] := ⟨_, rfl⟩
        rw [← ey] at d0 hin hyl hyk hold hnew
        have HIN := Lib.hid hin
        have HYL := Lib.hid hyl
        have HYK := Lib.hid hyk
        have HOLD := Lib.hid hold
        have HNEW := Lib.hid hnew
        have HDL := Lib.hid hdl
        have h6 : y.length ≤ 6 := by have := HLN.out.1; omega
        have hkk : (k : Int) < (x.rs.length : Int) := by omega
        have hmy := hin.max
        unfold maxLen at hmy
        clear ey hin hyl hyk hold hnew hdl
        go_upto_region 9 with fail
        obtain ⟨WA, eWA⟩ : ∃ E, E = wr.alloc (.cells #[.int .i64 0, .int .i64 0, .int .i64 0, .int .i64 0, .int .i64 0, .int .i64 0] 81) := ⟨_, rfl⟩
        rw [← eWA]
        have kWA : Below wr.heap.size wr WA := by rw [eWA]; exact (Below.refl _ _).alloc (Nat.le_refl _) _
        have hsA : wr.heap.size < WA.heap.size := by rw [eWA]; simp
        have hgA : WA.heap[wr.heap.size]? = some (.cells #[.int .i64 0, .int .i64 0, .int .i64 0, .int .i64 0, .int .i64 0, .int .i64 0] 81 (0, 0)) := by rw [eWA]; exact heap_alloc_new wr _
        obtain ⟨WC, hcp, hcC, hgC⟩ := copy6 y h6 (HIN.out.below (kWA.mono (by have := HBA.out.size; omega))) hgA
        obtain ⟨Y, eY⟩ : ∃ Y, Y = toK y := ⟨_, rfl⟩
        have hfe := fill6_eq h6
        rw [← eY] at hfe
        simp only [endV, Value.agg.injEq] at hfe
        rw [← hfe] at hgC
        have g0 : WC.cell? ⟨wr.heap.size, 0, none⟩ = some (.int .i64 Y.a) := by simp [World.cell?, hgC]
        have g1 : WC.cell? ⟨wr.heap.size, 1, none⟩ = some (.int .i64 Y.b) := by simp [World.cell?, hgC]
        have g2 : WC.cell? ⟨wr.heap.size, 2, none⟩ = some (.int .i64 Y.c) := by simp [World.cell?, hgC]
        have g3 : WC.cell? ⟨wr.heap.size, 3, none⟩ = some (.int .i64 Y.d) := by simp [World.cell?, hgC]
        have g4 : WC.cell? ⟨wr.heap.size, 4, none⟩ = some (.int .i64 Y.e) := by simp [World.cell?, hgC]
        have g5 : WC.cell? ⟨wr.heap.size, 5, none⟩ = some (.int .i64 Y.f) := by simp [World.cell?, hgC]
        have kC : Chg [wr.heap.size] wr WC := ((Chg.of_below kWA [wr.heap.size])).trans hcC
        have hsC := kC.size
        have HRC := Lib.hid (HRR.out.chg kC (fun z hz => by have := HRR.out.lt z hz; simp; omega) (by simp; have := HBA.out.size; omega))
        have HMC := Lib.hid (HM.out.chg kC (by simp; omega))
        have HBC := Lib.hid (HB.out.trans (kC.below (by omega) (by simp; omega)))
        have HIC := Lib.hid (HIN.out.below (kC.below (show B ≤ wr.heap.size by have := HBA.out.size; omega) (by simp; have := HBA.out.size; omega)))
        have hYok : Pairs64 Y := by rw [eY]; exact HYK.out
        have HSY := Lib.hid (show Y ∈ S ↔ y ∈ dst (x.rs.take k) from by rw [eY]; exact HSM.out y HYL.out)
        have HEY := Lib.hid eY
        clear eWA hgA hcC hgC hfe kC kWA eY
        by_cases hm : y ∈ dst (x.rs.take k)
        · have hl := run_lookupI (e := 4) (t := 80) Try.underlying80 zeroBool HMC.out hYok
          rw [show atM S gT (.bool false) Y = .bool true by simp [atM, gT, HSY.out.2 hm]] at hl
          simp only [endV] at hl
          have HD := Lib.hid (HOLD.out hm)
          clear hm hYok
          go_wp2_with fail
          go_roundw
          case rel => exact ⟨k + 1, F, S, by omega, by go_num, Lib.hid (by rw [HD.out]; exact HRC.out), HF, HMC, Lib.hid (by rw [HD.out]; exact HSM.out), HBC⟩
          case measure => simp [intOf]; omega
        · have hl := run_lookupI (e := 4) (t := 80) Try.underlying80 zeroBool HMC.out hYok
          have hns : Y ∉ S := fun h => hm (HSY.out.1 h)
          rw [show atM S gT (.bool false) Y = .bool false by simp [atM, hns]] at hl
          obtain ⟨WU, hru, hmu, hcu⟩ := run_updateI (e := 4) (t := 80) Try.underlying80 HMC.out hYok hns (.bool true)
          simp only [endV] at hl hru
          rw [gT_upd] at hmu
          have hsU := hcu.size
          have HMU := Lib.hid hmu
          have HRU := Lib.hid (HRC.out.chg hcu (fun z hz => by simpa using (HF.out z hz).2) (by simp; omega))
          have HBU := Lib.hid (HBC.out.trans (hcu.below (by omega) (by simp; omega)))
          have HIU := Lib.hid (HIC.out.below (hcu.below (show B ≤ WC.heap.size by have := HBA.out.size; omega) (by simp; omega)))
          have HD := Lib.hid (HNEW.out hm)
          have HSN := Lib.hid (show ∀ z : List Int, z.length = x.cs.length → (toK z ∈ Y :: S ↔ z ∈ dst (x.rs.take (k + 1))) from fun z hz => by
            rw [HD.out, List.mem_append, List.mem_singleton, List.mem_cons, HSM.out z hz]
            constructor
            · rintro (h | h)
              · exact .inr (toK_inj (h.trans HEY.out) (hz.trans HYL.out.symm) (by have := HLN.out.1; omega))
              · exact .inl h
            · rintro (h | h)
              · exact .inr h
              · exact .inl (by rw [h, HEY.out]))
          clear hm hYok hmu hcu hns
          obtain ⟨WB, eWB⟩ : ∃ E, E = WU.alloc (.cells #[.slice q2 y.length c3] 23) := ⟨_, rfl⟩
          have kWB : Below WU.heap.size WU WB := by rw [eWB]; exact (Below.refl _ _).alloc (Nat.le_refl _) _
          have HAPP := Lib.hid (fun (ty : TypeId) => (HRU.out.chg (Chg.of_below kWB []) (by simp) (by simp)).one y q2 c3 (HIU.out.below (kWB.mono (by have := HBA.out.size; omega))) WU.heap.size 1 (by rw [eWB]; simp [go_sem]) (by have := HDL.out; omega) ty)
          have HBB := Lib.hid (HBU.out.trans (kWB.mono (by omega)))
          have HMB := Lib.hid (HMU.out.chg (Chg.of_below kWB []) (by simp))
          have EWB := Lib.hid eWB
          have hsB := kWB.size
          clear eWB kWB
          go_wp2_with (at_builtin; rw [← EWB.out]; refine wpApp rfl (.tmp 30) (.tmp 32) 31 rfl _ _ rfl rfl _ (HAPP.out _) ?_; rintro v9 w9 ⟨F9, ho9, hf9, hc9⟩; have HO9 := Lib.hid ho9; have HF9 := Lib.hid hf9; have HC9 := Lib.hid hc9; clear ho9 hf9 hc9)
          go_roundw
          case rel =>
            exact ⟨k + 1, F9, Y :: S, by omega, by go_num, Lib.hid (by rw [HD.out]; exact HO9.out), Lib.hid (fun z hz => by
              rcases HF9.out z hz with h | h
              · exact HF.out z h
              · omega), Lib.hid (HMB.out.chg HC9.out (fun h => (HF.out _ h).2 rfl)), HSN, Lib.hid (HBB.out.trans (HC9.out.below (by omega) (fun z hz => (HF.out z hz).1)))⟩
          case measure => simp [intOf]; omega
      · obtain rfl : k = x.rs.length := by omega
        have HRE := Lib.hid (show RawRows wr (.slice pd (dst (x.rs.take x.rs.length)).length cd) (dst x.rs) F B by have h9 := HRR.out; rw [List.take_length] at h9 ⊢; exact h9)
        obtain ⟨⟨kz, k0, k1⟩, ⟨k2, k3⟩, k4, k5⟩ := HK.out wr HB.out
        have hda := dst_all x.rs
        have HDA := Lib.hid hda
        rw [List.take_length] at HRE ⊢
        clear hda HRR
        go_wp2_with fail
        refine (tw_yes HCO.out (tableWith_any x.cs (dst x.rs) _ _ wr.heap.size wr (HAR.out.to (HBA.out.mono hB) (by have := HBA.out.size; omega)) HRE.out.rd (Nat.le_refl _) HOK.out hn1 (by have := HDA.out.1; have := HDA.out.2.1; omega))).mono ?_
        rintro en w5 ⟨v5, F5, rfl, ho5, hf5, hb5⟩
        have hs5 := hb5.size
        have HF5 := Lib.hid (show ∀ y ∈ F5, w.heap.size + 2 ≤ y from fun y hy => by have := hf5 y hy; omega)
        have HO5 := Lib.hid ho5
        obtain ⟨pa, ca, qb, cb, rfl⟩ := ho5.form
        have HB5 := Lib.hid (HBA.out.trans (hb5.mono (by have := HBA.out.size; omega)))
        have HR5 := Lib.hid (HB.out.trans (hb5.mono (by omega)))
        clear ho5 hf5 hb5 k0 k1 k2 k3 k4 k5 kz
        obtain ⟨⟨kz, k0, k1⟩, ⟨k2, k3⟩, k4, k5⟩ := HK.out w5 HR5.out
        go_wp2_with fail
        exact bodyPost_ret (v := .tuple #[.agg #[.slice pa x.cs.length ca, .slice qb (dst x.rs).length cb], .bool true]) (by simp [results, Try.results19, go_sem, k2, k3]) rfl ⟨_, F5, rfl, HO5.out.chg (G := [w.heap.size + 1]) (((Chg.refl _ _).setCell (by simp) _).setCell (by simp) _) (fun y hy => by have := HF5.out y hy; simp; omega), fun y hy => by have := HF5.out y hy; omega, (HB5.out.setCell (by simp) _).setCell (by simp) _⟩
end Go.Proofs.Ytfdkmngkpihpbaa
namespace Go.Proofs.Ytfdkmngkpihpbaa
open Go.RowKit

theorem at_rows {x : Tb} {B : Nat} {w : World} {a b : Value} (h : x.At B w (.agg #[a, b])) : kRow.Rd B w b x.rs := by
  obtain ⟨a, b, e, _, h2⟩ := h
  cases e
  exact h2
theorem TAcc.rows {cs : List ByteArray} {ys : List (List Int)} {k lo : Nat} {a b : Value} {u : World} (h : TAcc cs ys k lo a b u) : kRow.Rd u.heap.size u b ys := by
  obtain ⟨F, hh, _⟩ := h.has
  exact at_rows hh.at
theorem mem_take_succ {ys : List (List Int)} {y : List Int} {j : Nat} (h : j < ys.length) : decide (y ∈ ys.take (j + 1)) = (decide (y ∈ ys.take j) || eqL intE ys[j] y) := by
  have hm : y ∈ ys.take (j + 1) ↔ y ∈ ys.take j ∨ y = ys[j] := by rw [List.take_succ_eq_append_getElem h, List.mem_append, List.mem_singleton]
  rw [eqL_int]
  by_cases h1 : y ∈ ys.take j
  · rw [decide_eq_true (hm.2 (.inl h1)), decide_eq_true h1]; rfl
  · by_cases h2 : y = ys[j]
    · rw [decide_eq_true (hm.2 (.inr h2)), decide_eq_true h2.symm, Bool.or_true]
    · have h3 : ¬ ys[j] = y := fun e => h2 e.symm
      rw [decide_eq_false (fun h => (hm.1 h).elim h1 h2), decide_eq_false h1, decide_eq_false h3]; rfl
set_option maxRecDepth 100000 in
set_option maxHeartbeats 8000000 in
theorem specDistinctRows_any (x : Tb) (v : Value) (B : Nat) (w : World) (hx : x.At B w v) (hB : B ≤ w.heap.size) (hok : x.Ok) (hn : x.need ≤ 1048576) :
    Calls Try.prog 20 #[v] w (TbPost (dsR x) x.ok w) := by
  obtain ⟨a, b, rfl, ha, hb⟩ := hx
  obtain ⟨p, c1, rfl⟩ := ha.form
  obtain ⟨q, d, rfl⟩ := hb.form
  have hm1 := ha.max
  have hm2 := hb.max
  unfold maxLen at hm1 hm2
  have hn1 : x.cs.length ≤ 1048576 := by unfold Tb.need at hn; omega
  have hn2 : x.rs.length + sumR x.rs ≤ 1048576 := by unfold Tb.need at hn; omega
  have HAR := Lib.hid ha
  have HBR := Lib.hid hb
  have HOK := Lib.hid hok.1
  have CNO := Lib.hid (dsR_no (x := x))
  have CYES := Lib.hid (dsR_yes (x := x))
  have CLN := Lib.hid (ok_len (x := x))
  obtain ⟨R, eR⟩ : ∃ R, R = dsR x := ⟨_, rfl⟩
  obtain ⟨T, eT⟩ : ∃ T, T = x.ok := ⟨_, rfl⟩
  rw [← eR, ← eT]
  rw [← eR] at CNO CYES
  have HTE := Lib.hid eT
  clear ha hb hok hn eR eT
  obtain ⟨W0, eW⟩ : ∃ W0, W0 = (w.alloc (.cells #[.slice p x.cs.length c1, .slice q x.rs.length d] 33)).alloc (.cells #[.slice none 0 0, .slice none 0 0] 33) := ⟨_, rfl⟩
  have HK := Lib.hid (show ∀ E, Below (w.heap.size + 2) W0 E → Kept x p c1 q d w E from fun E hE => by rw [eW] at hE; exact kept_of hE)
  have HV := Lib.hid (show Below w.heap.size w W0 by rw [eW]; exact ((Below.refl _ _).alloc (Nat.le_refl _) _).alloc (by simp) _)
  have hs0 : w.heap.size + 2 ≤ W0.heap.size := by rw [eW]; simp
  have EW := Lib.hid eW
  clear eW
  go_enter Try.func20, Try.ntmps20
  obtain ⟨⟨kz, k0, k1⟩, ⟨k2, k3⟩, k4, k5⟩ := HK.out W0 (Below.refl _ _)
  go_wp2_with fail
  rw [← EW.out]
  go_wp2_with fail
  refine (specTableValid_any x _ B W0 ⟨_, _, rfl, HAR.out.to (HV.out.mono hB) (Nat.le_refl _), HBR.out.to (HV.out.mono hB) (Nat.le_refl _)⟩ (by omega) HOK.out hn1).mono ?_
  rintro en w1 ⟨rfl, hb1⟩
  have hs1 := hb1.size
  have HR1 := Lib.hid (show Below (w.heap.size + 2) W0 w1 from hb1.mono (by omega))
  have HB1 := Lib.hid (HV.out.trans (hb1.mono (by omega)))
  clear k0 k1 k2 k3 k4 k5 kz hb1
  obtain ⟨⟨kz, k0, k1⟩, ⟨k2, k3⟩, k4, k5⟩ := HK.out w1 HR1.out
  cases hE : x.ok with
  | false =>
    have HF := Lib.hid (CNO.out hE)
    have HFR := HF.out
    have hTE := HTE.out.trans hE
    clear HTE
    subst HFR hTE
    clear hE
    go_wp2_with fail
    exact bodyPost_ret (v := .tuple #[.agg #[.slice none 0 0, .slice none 0 0], .bool false]) (by simp [results, Try.results20, go_sem, k2, k3]) rfl (TbPost.no ((HB1.out.setCell (by simp) _).setCell (by simp) _))
  | true =>
    have HFR := CYES.out hE
    have HLN := Lib.hid (CLN.out hE)
    have hTE := HTE.out.trans hE
    clear HTE
    subst HFR hTE
    clear hE CNO CYES CLN
    have rr1 := Below.refl w1.heap.size w1
    have klt : w.heap.size < w1.heap.size := by omega
    have klt2 : w.heap.size + 1 < w1.heap.size := by omega
    go_wp2_with (at_builtin; refine wpApp rfl (.tmp 12) (.tmp 14) 30 rfl _ _ rfl rfl _ (strNone (OwnS.empty _) (HAR.out.to ((HB1.out.trans ((show Below w1.heap.size w1 _ by ((repeat (first | with_reducible assumption | with_reducible exact Below.refl _ _ | refine Below.setCell ?_ (by (first | omega | (simp; omega) | (simp; done) | fail "sml")) _ | refine Below.drew ?_ | refine Below.alloc ?_ (by (first | omega | (simp; omega) | (simp; done) | fail "sml")) _)); first | done | fail "chs")).mono (by omega))).mono hB) (Nat.le_refl _)) (by omega) _) ?_; rintro v2 w2 ⟨F2, p2, c2, rfl, ho2, hf2, hb2⟩; have hs2 : w1.heap.size < w2.heap.size := (by have := hb2.size; simp at this; omega); have HB2 := Lib.hid (HR1.out.trans (((show Below w1.heap.size w1 _ by ((repeat (first | with_reducible assumption | with_reducible exact Below.refl _ _ | refine Below.setCell ?_ (by (first | omega | (simp; omega) | (simp; done) | fail "sml")) _ | refine Below.drew ?_ | refine Below.alloc ?_ (by (first | omega | (simp; omega) | (simp; done) | fail "sml")) _)); first | done | fail "chs")).trans (hb2.mono (by simp))).mono (by omega))); have HF2 := Lib.hid (show ∀ y ∈ F2, w.heap.size + 2 ≤ y from fun y hy => by have := hf2 y hy; simp at this; omega); have HO2 := Lib.hid ho2; clear ho2 hf2 hb2)
    obtain ⟨W3, eW3⟩ : ∃ u, u = w2.alloc (.cells #[.slice p2 x.cs.length c2, .slice none 0 0] 33) := ⟨_, rfl⟩
    rw [← eW3]
    have hs3 : w2.heap.size < W3.heap.size := by rw [eW3]; simp
    have hb3 : Below w2.heap.size w2 W3 := by rw [eW3]; exact (Below.refl _ _).alloc (Nat.le_refl _) _
    have HT3 := Lib.hid (show TAcc x.cs (dst (x.rs.take 0)) w2.heap.size (w.heap.size + 2) (.slice p2 x.cs.length c2) (.slice none 0 0) W3 by
      have h2 := HO2.out.below hb3
      have hlt := HO2.out.lt
      rw [eW3] at h2 ⊢
      exact ⟨⟨by omega, by simp⟩, ⟨by simp [go_sem], by simp [go_sem]⟩, ⟨by simp [go_sem], by simp [go_sem]⟩, F2, [], h2, by simpa [dst] using Kd.OwB.nil kRow _ _ _, fun y hy => ⟨by have := HF2.out y hy; omega, by have := hlt y hy; omega⟩, by simp, by simp⟩)
    have HR3 := Lib.hid (HB2.out.trans (hb3.mono (by omega)))
    obtain ⟨kb, ekb⟩ : ∃ k, k = w2.heap.size := ⟨_, rfl⟩
    rw [← ekb] at HT3 ⊢
    have hkb : w.heap.size + 2 ≤ kb := by omega
    clear eW3 hb3 HO2 HF2 ekb k0 k1 k2 k3 k4 k5 kz
    obtain ⟨⟨_, hkl⟩, ⟨x0, x1⟩, _, _⟩ := HT3.out
    obtain ⟨⟨kz, k0, k1⟩, _⟩ := HK.out W3 HR3.out
    go_wp2_with fail
    clear x0 x1 k0 k1 kz
    go_loopw [5] (fun i wr => ∃ (k : Nat) (b : Value), k ≤ x.rs.length ∧ i = .int .i64 k ∧ RowKit.Hid (TAcc x.cs (dst (x.rs.take k)) kb (w.heap.size + 2) (.slice p2 x.cs.length c2) b wr) ∧ RowKit.Hid (Below (w.heap.size + 2) W0 wr)) (fun i _ => x.rs.length - (intOf i).toNat)
    case atStart => exact ⟨0, _, Nat.zero_le _, rfl, HT3, HR3⟩
    case round =>
      rename World => wo
      clear HT3 HR3
      obtain ⟨k, b, hk, rfl, HTA, HB⟩ := hrel
      have hsz := HB.out.size
      have HBA := Lib.hid (HV.out.trans (HB.out.mono (by omega)))
      have hsz2 := HBA.out.size
      obtain ⟨⟨_, hkl2⟩, ⟨x0, x1⟩, ⟨g0, g1⟩, _⟩ := HTA.out
      obtain ⟨_, _, qb, cb, _, rfl⟩ := HTA.out.form
      obtain ⟨⟨kz, k0, k1⟩, ⟨k2, k3⟩, k4, k5⟩ := HK.out wo HB.out
      by_cases hlt : k < x.rs.length
      · obtain ⟨bb, off, q2, c3, rfl, hbb, d0, hin⟩ := kRow_get (HBR.out.to (HBA.out.mono hB) (Nat.le_refl _)) hlt
        have hsize := sumR_get x.rs k hlt
        have hold := dst_old hlt
        have hnew := dst_new hlt
        have hdl := (dst_facts x.rs k hk).1
        obtain ⟨y, ey⟩ : ∃ y, y = x.rs[k] := ⟨_, rfl⟩
        rw [← ey] at d0 hin hsize hold hnew
        obtain ⟨Z, eZ⟩ : ∃ Z, Z = dst (x.rs.take k) := ⟨_, rfl⟩
        rw [← eZ] at HTA hold hnew hdl x1
        have HIN := Lib.hid hin
        have HOLD := Lib.hid hold
        have HNEW := Lib.hid hnew
        have hyl : y.length ≤ 1048576 := by omega
        have hkk : (k : Int) < (x.rs.length : Int) := by omega
        have hbr : bb < wo.heap.size := by omega
        have hmz := HTA.out.rows.max
        have hmy := hin.max
        unfold maxLen at hmz hmy
        have HDL := Lib.hid hdl
        have CK := Lib.hid (fun (E : World) (hE : Below wo.heap.size wo E) => (⟨⟨keepc hE (show w.heap.size < wo.heap.size by omega) k1, keepc hE hkl2 x1⟩, keepc hE hbr d0⟩ : (E.cell? ⟨w.heap.size, 1, none⟩ = some (.slice (some ⟨bb, off, none⟩) x.rs.length d) ∧ E.cell? ⟨kb, 1, none⟩ = some (.slice qb Z.length cb)) ∧ E.cell? ⟨bb, off + k, none⟩ = some (.slice q2 y.length c3)))
        have RZ := Lib.hid (fun (E : World) (hE : Below wo.heap.size wo E) => HTA.out.rows.to hE (Nat.le_refl _))
        clear ey eZ hin hsize hold hnew hdl x0
        go_wp2_with fail
        go_loopw [6, 7] (fun h i wi => ∃ (j : Nat) (hb : Bool), j ≤ Z.length ∧ i = .int .i64 j ∧ h = .bool hb ∧ RowKit.Hid (hb = decide (y ∈ Z.take j)) ∧ RowKit.Hid (Below wo.heap.size wo wi)) (fun _ i _ => Z.length - (intOf i).toNat)
        case atStart => exact ⟨0, false, Nat.zero_le _, rfl, rfl, Lib.hid (by simp), Lib.hid (Below.refl _ _)⟩
        case round =>
          obtain ⟨j, hb, hj, rfl, rfl, HHB, HBI⟩ := hrel
          have hsi := HBI.out.size
          clear x1 k0 k1 d0
          obtain ⟨⟨k1, x1⟩, d0⟩ := CK.out wr HBI.out
          by_cases hjz : j < Z.length
          · obtain ⟨zb, zo, zq, zc, rfl, hzb, e0, hzin⟩ := kRow_get (RZ.out wr HBI.out) hjz
            have hms := mem_take_succ (y := y) hjz
            obtain ⟨z, ez⟩ : ∃ z, z = Z[j] := ⟨_, rfl⟩
            rw [← ez] at e0 hzin hms
            have HMS := Lib.hid (show (hb || eqL intE z y) = decide (y ∈ Z.take (j + 1)) by rw [hms, HHB.out])
            have HZIN := Lib.hid hzin
            have hzl : zb < wr.heap.size := by omega
            have hjj : (j : Int) < (Z.length : Int) := by omega
            have DK := Lib.hid (fun (E : World) (hE : Below wr.heap.size wr E) => (⟨⟨keepc hE (by omega) k1, keepc hE (by omega) x1⟩, keepc hE (by omega) d0, keepc hE hzl e0⟩ : (E.cell? ⟨w.heap.size, 1, none⟩ = some (.slice (some ⟨bb, off, none⟩) x.rs.length d) ∧ E.cell? ⟨kb, 1, none⟩ = some (.slice (some ⟨zb, zo, none⟩) Z.length cb)) ∧ E.cell? ⟨bb, off + k, none⟩ = some (.slice q2 y.length c3) ∧ E.cell? ⟨zb, zo + j, none⟩ = some (.slice zq z.length zc)))
            have CE := Lib.hid (fun (E : World) (hE : Below wr.heap.size wr E) => ((l5Ints_any z y (.slice zq z.length zc) (.slice q2 y.length c3) wo.heap.size E (HZIN.out.below (hE.mono (by omega))) ((HIN.out.below ((HBI.out.trans (hE.mono (by omega))).mono (by omega))).mono (by omega)) (by have := hE.size; omega)).mono fun e w' h => ⟨h.1, hE.trans (h.2.mono hE.size)⟩ : Calls Try.prog 58 #[.slice zq z.length zc, .slice q2 y.length c3] E fun e w' => e = .returned (.bool (eqL intE z y)) ∧ Below wr.heap.size wr w'))
            clear ez hzin hms HHB
            have r9 := Below.refl wr.heap.size wr
            cases hb with
            | true =>
              go_upto_region 11 with fail
              refine wp_region_held_drew (S := fun w' => (w'.cell? ⟨w.heap.size, 1, none⟩ = some (.slice (some ⟨bb, off, none⟩) x.rs.length d) ∧ w'.cell? ⟨kb, 1, none⟩ = some (.slice (some ⟨zb, zo, none⟩) Z.length cb)) ∧ w'.cell? ⟨bb, off + k, none⟩ = some (.slice q2 y.length c3) ∧ w'.cell? ⟨zb, zo + j, none⟩ = some (.slice zq z.length zc)) (by kernel_rfl) ?_ (fun hHeld => ?_)
              · exact DK.out _ (show Below wr.heap.size wr _ by ((repeat (first | with_reducible assumption | with_reducible exact Below.refl _ _ | refine Below.setCell ?_ (by (first | omega | (simp; omega) | (simp; done) | fail "sml")) _ | refine Below.drew ?_ | refine Below.alloc ?_ (by (first | omega | (simp; omega) | (simp; done) | fail "sml")) _)); first | done | fail "chs"))
              (refine takeL (i := 0) (v := ?_) rfl (by kernel_rfl) (by kernel_rfl) (by kernel_rfl) (fun _ _ _ h => h) (Or.inl ⟨by kernel_rfl, ?_⟩) (by assumption) ?_; rotate_left; (focus (intro w hSw; (try dsimp only at hSw); go_simp; first | done | with_reducible rfl | fail "take")); (try simp only [Act.put, List.setIfInBounds_toArray, List.set_cons_zero, List.set_cons_succ]))
              (refine takeL (i := 1) (v := ?_) rfl (by kernel_rfl) (by kernel_rfl) (by kernel_rfl) (fun _ _ _ h => h) (Or.inl ⟨by kernel_rfl, ?_⟩) (by assumption) ?_; rotate_left; (focus (intro w hSw; (try dsimp only at hSw); go_simp; first | done | with_reducible rfl | fail "take")); (try simp only [Act.put, List.setIfInBounds_toArray, List.set_cons_zero, List.set_cons_succ]))
              (refine takeL (i := 2) (v := undef) rfl (by kernel_rfl) (by kernel_rfl) (by kernel_rfl) (fun _ _ _ h => h) (Or.inr ⟨by kernel_rfl, rfl⟩) (by assumption) ?_; (try simp only [Act.put, List.setIfInBounds_toArray, List.set_cons_zero, List.set_cons_succ]))
              (refine takeL (i := 3) (v := undef) rfl (by kernel_rfl) (by kernel_rfl) (by kernel_rfl) (fun _ _ _ h => h) (Or.inr ⟨by kernel_rfl, rfl⟩) (by assumption) ?_; (try simp only [Act.put, List.setIfInBounds_toArray, List.set_cons_zero, List.set_cons_succ]))
              (refine takeL (i := 4) (v := undef) rfl (by kernel_rfl) (by kernel_rfl) (by kernel_rfl) (fun _ _ _ h => h) (Or.inr ⟨by kernel_rfl, rfl⟩) (by assumption) ?_; (try simp only [Act.put, List.setIfInBounds_toArray, List.set_cons_zero, List.set_cons_succ]))
              (refine takeL (i := 5) (v := undef) rfl (by kernel_rfl) (by kernel_rfl) (by kernel_rfl) (fun _ _ _ h => h) (Or.inr ⟨by kernel_rfl, rfl⟩) (by assumption) ?_; (try simp only [Act.put, List.setIfInBounds_toArray, List.set_cons_zero, List.set_cons_succ]))
              (refine takeL (i := 6) (v := undef) rfl (by kernel_rfl) (by kernel_rfl) (by kernel_rfl) (fun _ _ _ h => h) (Or.inr ⟨by kernel_rfl, rfl⟩) (by assumption) ?_; (try simp only [Act.put, List.setIfInBounds_toArray, List.set_cons_zero, List.set_cons_succ]))
              (refine takeL (i := 7) (v := undef) rfl (by kernel_rfl) (by kernel_rfl) (by kernel_rfl) (fun _ _ _ h => h) (Or.inr ⟨by kernel_rfl, rfl⟩) (by assumption) ?_; (try simp only [Act.put, List.setIfInBounds_toArray, List.set_cons_zero, List.set_cons_succ]))
              (refine takeL (i := 8) (v := undef) rfl (by kernel_rfl) (by kernel_rfl) (by kernel_rfl) (fun _ _ _ h => h) (Or.inr ⟨by kernel_rfl, rfl⟩) (by assumption) ?_; (try simp only [Act.put, List.setIfInBounds_toArray, List.set_cons_zero, List.set_cons_succ]))
              (refine takeL (i := 9) (v := undef) rfl (by kernel_rfl) (by kernel_rfl) (by kernel_rfl) (fun _ _ _ h => h) (Or.inr ⟨by kernel_rfl, rfl⟩) (by assumption) ?_; (try simp only [Act.put, List.setIfInBounds_toArray, List.set_cons_zero, List.set_cons_succ]))
              (refine takeL (i := 10) (v := undef) rfl (by kernel_rfl) (by kernel_rfl) (by kernel_rfl) (fun _ _ _ h => h) (Or.inr ⟨by kernel_rfl, rfl⟩) (by assumption) ?_; (try simp only [Act.put, List.setIfInBounds_toArray, List.set_cons_zero, List.set_cons_succ]))
              (refine takeL (i := 11) (v := undef) rfl (by kernel_rfl) (by kernel_rfl) (by kernel_rfl) (fun _ _ _ h => h) (Or.inr ⟨by kernel_rfl, rfl⟩) (by assumption) ?_; (try simp only [Act.put, List.setIfInBounds_toArray, List.set_cons_zero, List.set_cons_succ]))
              (refine takeL (i := 12) (v := undef) rfl (by kernel_rfl) (by kernel_rfl) (by kernel_rfl) (fun _ _ _ h => h) (Or.inr ⟨by kernel_rfl, rfl⟩) (by assumption) ?_; (try simp only [Act.put, List.setIfInBounds_toArray, List.set_cons_zero, List.set_cons_succ]))
              (refine takeL (i := 13) (v := ?_) rfl (by kernel_rfl) (by kernel_rfl) (by kernel_rfl) (fun _ _ _ h => h) (Or.inl ⟨by kernel_rfl, ?_⟩) (by assumption) ?_; rotate_left; (focus (intro w hSw; (try dsimp only at hSw); go_simp; first | done | with_reducible rfl | fail "take")); (try simp only [Act.put, List.setIfInBounds_toArray, List.set_cons_zero, List.set_cons_succ]))
              (refine takeL (i := 14) (v := ?_) rfl (by kernel_rfl) (by kernel_rfl) (by kernel_rfl) (fun _ _ _ h => h) (Or.inl ⟨by kernel_rfl, ?_⟩) (by assumption) ?_; rotate_left; (focus (intro w hSw; (try dsimp only at hSw); go_simp; first | done | with_reducible rfl | fail "take")); (try simp only [Act.put, List.setIfInBounds_toArray, List.set_cons_zero, List.set_cons_succ]))
              refine wpAnyH_done (by kernel_rfl) ?_ _
              go_wp2_with fail
              go_roundw
              case rel => exact ⟨j + 1, true, by omega, by go_num, rfl, Lib.hid (by rw [← HMS.out]; simp), Lib.hid (HBI.out.trans ((show Below wr.heap.size wr _ by ((repeat (first | with_reducible assumption | with_reducible exact Below.refl _ _ | refine Below.setCell ?_ (by (first | omega | (simp; omega) | (simp; done) | fail "sml")) _ | refine Below.drew ?_ | refine Below.alloc ?_ (by (first | omega | (simp; omega) | (simp; done) | fail "sml")) _)); first | done | fail "chs")).mono hsi))⟩
              case measure => simp [intOf]; omega
            | false =>
              go_upto_region 11 with fail
              refine wp_region_held_drew (S := fun w' => (w'.cell? ⟨w.heap.size, 1, none⟩ = some (.slice (some ⟨bb, off, none⟩) x.rs.length d) ∧ w'.cell? ⟨kb, 1, none⟩ = some (.slice (some ⟨zb, zo, none⟩) Z.length cb)) ∧ w'.cell? ⟨bb, off + k, none⟩ = some (.slice q2 y.length c3) ∧ w'.cell? ⟨zb, zo + j, none⟩ = some (.slice zq z.length zc)) (by kernel_rfl) ?_ (fun hHeld => ?_)
              · exact DK.out _ (show Below wr.heap.size wr _ by ((repeat (first | with_reducible assumption | with_reducible exact Below.refl _ _ | refine Below.setCell ?_ (by (first | omega | (simp; omega) | (simp; done) | fail "sml")) _ | refine Below.drew ?_ | refine Below.alloc ?_ (by (first | omega | (simp; omega) | (simp; done) | fail "sml")) _)); first | done | fail "chs"))
              (refine takeL (i := 0) (v := ?_) rfl (by kernel_rfl) (by kernel_rfl) (by kernel_rfl) (fun _ _ _ h => h) (Or.inl ⟨by kernel_rfl, ?_⟩) (by assumption) ?_; rotate_left; (focus (intro w hSw; (try dsimp only at hSw); go_simp; first | done | with_reducible rfl | fail "take")); (try simp only [Act.put, List.setIfInBounds_toArray, List.set_cons_zero, List.set_cons_succ]))
              (refine takeL (i := 1) (v := ?_) rfl (by kernel_rfl) (by kernel_rfl) (by kernel_rfl) (fun _ _ _ h => h) (Or.inl ⟨by kernel_rfl, ?_⟩) (by assumption) ?_; rotate_left; (focus (intro w hSw; (try dsimp only at hSw); go_simp; first | done | with_reducible rfl | fail "take")); (try simp only [Act.put, List.setIfInBounds_toArray, List.set_cons_zero, List.set_cons_succ]))
              (refine takeL (i := 2) (v := ?_) rfl (by kernel_rfl) (by kernel_rfl) (by kernel_rfl) (fun _ _ _ h => h) (Or.inl ⟨by kernel_rfl, ?_⟩) (by assumption) ?_; rotate_left; (focus (intro w hSw; (try dsimp only at hSw); go_simp; first | done | with_reducible rfl | fail "take")); (try simp only [Act.put, List.setIfInBounds_toArray, List.set_cons_zero, List.set_cons_succ]))
              (refine takeL (i := 3) (v := ?_) rfl (by kernel_rfl) (by kernel_rfl) (by kernel_rfl) (fun _ _ _ h => h) (Or.inl ⟨by kernel_rfl, ?_⟩) (by assumption) ?_; rotate_left; (focus (intro w hSw; (try dsimp only at hSw); go_simp; first | done | with_reducible rfl | fail "take")); (try simp only [Act.put, List.setIfInBounds_toArray, List.set_cons_zero, List.set_cons_succ]))
              (refine takeL (i := 4) (v := ?_) rfl (by kernel_rfl) (by kernel_rfl) (by kernel_rfl) (fun _ _ _ h => h) (Or.inl ⟨by kernel_rfl, ?_⟩) (by assumption) ?_; rotate_left; (focus (intro w hSw; (try dsimp only at hSw); go_simp; first | done | with_reducible rfl | fail "take")); (try simp only [Act.put, List.setIfInBounds_toArray, List.set_cons_zero, List.set_cons_succ]))
              (refine takeL (i := 5) (v := ?_) rfl (by kernel_rfl) (by kernel_rfl) (by kernel_rfl) (fun _ _ _ h => h) (Or.inl ⟨by kernel_rfl, ?_⟩) (by assumption) ?_; rotate_left; (focus (intro w hSw; (try dsimp only at hSw); go_simp; first | done | with_reducible rfl | fail "take")); (try simp only [Act.put, List.setIfInBounds_toArray, List.set_cons_zero, List.set_cons_succ]))
              (refine takeL (i := 6) (v := ?_) rfl (by kernel_rfl) (by kernel_rfl) (by kernel_rfl) (fun _ _ _ h => h) (Or.inl ⟨by kernel_rfl, ?_⟩) (by assumption) ?_; rotate_left; (focus (intro w hSw; (try dsimp only at hSw); go_simp; first | done | with_reducible rfl | fail "take")); (try simp only [Act.put, List.setIfInBounds_toArray, List.set_cons_zero, List.set_cons_succ]))
              (refine takeL (i := 7) (v := ?_) rfl (by kernel_rfl) (by kernel_rfl) (by kernel_rfl) (fun _ _ _ h => h) (Or.inl ⟨by kernel_rfl, ?_⟩) (by assumption) ?_; rotate_left; (focus (intro w hSw; (try dsimp only at hSw); go_simp; first | done | with_reducible rfl | fail "take")); (try simp only [Act.put, List.setIfInBounds_toArray, List.set_cons_zero, List.set_cons_succ]))
              (refine takeL (i := 8) (v := ?_) rfl (by kernel_rfl) (by kernel_rfl) (by kernel_rfl) (fun _ _ _ h => h) (Or.inl ⟨by kernel_rfl, ?_⟩) (by assumption) ?_; rotate_left; (focus (intro w hSw; (try dsimp only at hSw); go_simp; first | done | with_reducible rfl | fail "take")); (try simp only [Act.put, List.setIfInBounds_toArray, List.set_cons_zero, List.set_cons_succ]))
              (refine takeL (i := 9) (v := ?_) rfl (by kernel_rfl) (by kernel_rfl) (by kernel_rfl) (fun _ _ _ h => h) (Or.inl ⟨by kernel_rfl, ?_⟩) (by assumption) ?_; rotate_left; (focus (intro w hSw; (try dsimp only at hSw); go_simp; first | done | with_reducible rfl | fail "take")); (try simp only [Act.put, List.setIfInBounds_toArray, List.set_cons_zero, List.set_cons_succ]))
              (refine takeL (i := 10) (v := ?_) rfl (by kernel_rfl) (by kernel_rfl) (by kernel_rfl) (fun _ _ _ h => h) (Or.inl ⟨by kernel_rfl, ?_⟩) (by assumption) ?_; rotate_left; (focus (intro w hSw; (try dsimp only at hSw); go_simp; first | done | with_reducible rfl | fail "take")); (try simp only [Act.put, List.setIfInBounds_toArray, List.set_cons_zero, List.set_cons_succ]))
              (refine takeL (i := 11) (v := ?_) rfl (by kernel_rfl) (by kernel_rfl) (by kernel_rfl) (fun _ _ _ h => h) (Or.inl ⟨by kernel_rfl, ?_⟩) (by assumption) ?_; rotate_left; (focus (intro w hSw; (try dsimp only at hSw); go_simp; first | done | with_reducible rfl | fail "take")); (try simp only [Act.put, List.setIfInBounds_toArray, List.set_cons_zero, List.set_cons_succ]))
              (refine callL (i := 12) rfl (by kernel_rfl) (by kernel_rfl) (fun K hK => ?_); go_simp)
              go_at_call 58
              with_reducible refine (CE.out _ (by ((repeat (first | with_reducible assumption | with_reducible exact Below.refl _ _ | refine Below.setCell ?_ (by (first | omega | (simp; omega) | (simp; done) | fail "sml")) _ | refine Below.drew ?_ | refine Below.alloc ?_ (by (first | omega | (simp; omega) | (simp; done) | fail "sml")) _)); first | done | fail "chs"))).mono ?_
              rintro en wa ⟨rfl, hka⟩
              go_wp2_with fail
              refine hK.out _ _ ?_ (fun hHeld => ?_)
              · exact DK.out _ (show Below wr.heap.size wr _ by ((repeat (first | with_reducible assumption | with_reducible exact Below.refl _ _ | refine Below.setCell ?_ (by (first | omega | (simp; omega) | (simp; done) | fail "sml")) _ | refine Below.drew ?_ | refine Below.alloc ?_ (by (first | omega | (simp; omega) | (simp; done) | fail "sml")) _)); first | done | fail "chs"))
              clear hK K
              (try simp only [Act.put, List.setIfInBounds_toArray, List.set_cons_zero, List.set_cons_succ])
              (refine takeL (i := 13) (v := ?_) rfl (by kernel_rfl) (by kernel_rfl) (by kernel_rfl) (fun _ _ _ h => h) (Or.inl ⟨by kernel_rfl, ?_⟩) (by assumption) ?_; rotate_left; (focus (intro w hSw; (try dsimp only at hSw); go_simp; first | done | with_reducible rfl | fail "take")); (try simp only [Act.put, List.setIfInBounds_toArray, List.set_cons_zero, List.set_cons_succ]))
              (refine takeL (i := 14) (v := ?_) rfl (by kernel_rfl) (by kernel_rfl) (by kernel_rfl) (fun _ _ _ h => h) (Or.inl ⟨by kernel_rfl, ?_⟩) (by assumption) ?_; rotate_left; (focus (intro w hSw; (try dsimp only at hSw); go_simp; first | done | with_reducible rfl | fail "take")); (try simp only [Act.put, List.setIfInBounds_toArray, List.set_cons_zero, List.set_cons_succ]))
              refine wpAnyH_done (by kernel_rfl) ?_ _
              go_wp2_with fail
              go_roundw
              case rel => exact ⟨j + 1, eqL intE z y, by omega, by go_num, rfl, Lib.hid (by rw [← HMS.out]; simp), Lib.hid (HBI.out.trans ((show Below wr.heap.size wr _ by ((repeat (first | with_reducible assumption | with_reducible exact Below.refl _ _ | refine Below.setCell ?_ (by (first | omega | (simp; omega) | (simp; done) | fail "sml")) _ | refine Below.drew ?_ | refine Below.alloc ?_ (by (first | omega | (simp; omega) | (simp; done) | fail "sml")) _)); first | done | fail "chs")).mono hsi))⟩
              case measure => simp [intOf]; omega
          · obtain rfl : j = Z.length := by omega
            have HHE := Lib.hid (show hb = decide (y ∈ Z) by have h9 := HHB.out; rwa [List.take_length] at h9)
            clear HHB
            cases hb with
            | true =>
              have hm : y ∈ Z := by have h9 := HHE.out; simpa using h9.symm
              have HD := Lib.hid (HOLD.out hm)
              clear hm
              go_wp2_with fail
              go_roundw
              case rel => exact ⟨k + 1, _, by omega, by go_num, Lib.hid (by rw [HD.out]; exact HTA.out.below HBI.out), Lib.hid (HB.out.trans (HBI.out.mono (by omega)))⟩
              case measure => simp [intOf]; omega
            | false =>
              have hm : y ∉ Z := by have h9 := HHE.out; simpa using h9.symm
              have HD := Lib.hid (HNEW.out hm)
              have HTI := Lib.hid (HTA.out.below HBI.out)
              have HBJ := Lib.hid (HB.out.trans (HBI.out.mono (by omega)))
              obtain ⟨⟨_, hkl3⟩, _, ⟨g0, g1⟩, _⟩ := HTI.out
              clear hm
              go_upto_region 13 with fail
              refine wp_region_E (last := 12) (S := fun w' => (w'.cell? ⟨w.heap.size, 1, none⟩ = some (.slice (some ⟨bb, off, none⟩) x.rs.length d) ∧ w'.cell? ⟨kb, 1, none⟩ = some (.slice qb Z.length cb)) ∧ w'.cell? ⟨bb, off + k, none⟩ = some (.slice q2 y.length c3)) (by kernel_rfl) ⟨⟨k1, x1⟩, d0⟩ (fun hHeld => ?_)
              have cW : Below wr.heap.size wr wr.drew := (Below.refl _ _).drew
              have CK2 := Lib.hid (fun (E : World) (hE : Below wr.heap.size wr E) => CK.out E (HBI.out.trans (hE.mono hsi)))
              have szW : wr.heap.size ≤ wr.drew.heap.size := Nat.le_refl _
              generalize wr.drew = Z0 at cW hHeld szW ⊢
              (refine takeE (i := 0) (v := ?_) [] rfl (by kernel_rfl) (by kernel_rfl) (fun _ _ _ h => h) (Or.inl ⟨by kernel_rfl, ?_⟩) (by assumption) ?_; rotate_left; (focus (intro w hSw; (try dsimp only at hSw); go_simp; first | done | with_reducible rfl | fail "takeE")); (try simp only [Act.put, List.setIfInBounds_toArray, List.set_cons_zero, List.set_cons_succ]))
              (refine takeE (i := 1) (v := ?_) [] rfl (by kernel_rfl) (by kernel_rfl) (fun _ _ _ h => h) (Or.inl ⟨by kernel_rfl, ?_⟩) (by assumption) ?_; rotate_left; (focus (intro w hSw; (try dsimp only at hSw); go_simp; first | done | with_reducible rfl | fail "takeE")); (try simp only [Act.put, List.setIfInBounds_toArray, List.set_cons_zero, List.set_cons_succ]))
              (refine takeE (i := 3) (v := ?_) [] rfl (by kernel_rfl) (by kernel_rfl) (fun _ _ _ h => h) (Or.inl ⟨by kernel_rfl, ?_⟩) (by assumption) ?_; rotate_left; (focus (intro w hSw; (try dsimp only at hSw); go_simp; first | done | with_reducible rfl | fail "takeE")); (try simp only [Act.put, List.setIfInBounds_toArray, List.set_cons_zero, List.set_cons_succ]))
              (refine takeE (i := 4) (v := ?_) [] rfl (by kernel_rfl) (by kernel_rfl) (fun _ _ _ h => h) (Or.inl ⟨by kernel_rfl, ?_⟩) (by assumption) ?_; rotate_left; (focus (intro w hSw; (try dsimp only at hSw); go_simp; first | done | with_reducible rfl | fail "takeE")); (try simp only [Act.put, List.setIfInBounds_toArray, List.set_cons_zero, List.set_cons_succ]))
              (refine takeE (i := 5) (v := ?_) [] rfl (by kernel_rfl) (by kernel_rfl) (fun _ _ _ h => h) (Or.inl ⟨by kernel_rfl, ?_⟩) (by assumption) ?_; rotate_left; (focus (intro w hSw; (try dsimp only at hSw); go_simp; first | done | with_reducible rfl | fail "takeE")); (try simp only [Act.put, List.setIfInBounds_toArray, List.set_cons_zero, List.set_cons_succ]))
              (refine takeE (i := 6) (v := ?_) [] rfl (by kernel_rfl) (by kernel_rfl) (fun _ _ _ h => h) (Or.inl ⟨by kernel_rfl, ?_⟩) (by assumption) ?_; rotate_left; (focus (intro w hSw; (try dsimp only at hSw); go_simp; first | done | with_reducible rfl | fail "takeE")); (try simp only [Act.put, List.setIfInBounds_toArray, List.set_cons_zero, List.set_cons_succ]))
              (refine takeE (i := 7) (v := ?_) [] rfl (by kernel_rfl) (by kernel_rfl) (fun _ _ _ h => h) (Or.inl ⟨by kernel_rfl, ?_⟩) (by assumption) ?_; rotate_left; (focus (intro w hSw; (try dsimp only at hSw); go_simp; first | done | with_reducible rfl | fail "takeE")); (try simp only [Act.put, List.setIfInBounds_toArray, List.set_cons_zero, List.set_cons_succ]))
              refine oneE (i := 2) rfl (by kernel_rfl) (by kernel_rfl) (fun K hK => ?_)
              go_simp
              refine hK.out _ _ (CK2.out _ (show Below wr.heap.size wr _ by ((repeat (first | with_reducible assumption | with_reducible exact Below.refl _ _ | refine Below.setCell ?_ (by (first | omega | (simp; omega) | (simp; done) | fail "sml")) _ | refine Below.drew ?_ | refine Below.alloc ?_ (by (first | omega | (simp; omega) | (simp; done) | fail "sml")) _)); first | done | fail "chs"))) (fun hHeld => ?_)
              clear hK K
              (try simp only [Act.put, List.setIfInBounds_toArray, List.set_cons_zero, List.set_cons_succ])
              refine oneE (i := 8) rfl (by kernel_rfl) (by kernel_rfl) (fun K hK => ?_)
              refine wp_app (.tmp 49) (.tmp 54) 23 (by rfl) _ _ (by rfl) (by rfl) _ (rowNone (OwnI.empty _ _) (HIN.out.below ((HBI.out.trans ((show Below wr.heap.size wr _ by ((repeat (first | with_reducible assumption | with_reducible exact Below.refl _ _ | refine Below.setCell ?_ (by (first | omega | (simp; omega) | (simp; done) | fail "sml")) _ | refine Below.drew ?_ | refine Below.alloc ?_ (by (first | omega | (simp; omega) | (simp; done) | fail "sml")) _)); first | done | fail "chs")).mono hsi)).mono (by omega))) (by omega) _) ?_
              rintro v5 w5 ⟨F5, p5, c5, rfl, ho5, hf5, hb5⟩
              have kk5 : Below wr.heap.size wr w5 := (show Below wr.heap.size wr _ by ((repeat (first | with_reducible assumption | with_reducible exact Below.refl _ _ | refine Below.setCell ?_ (by (first | omega | (simp; omega) | (simp; done) | fail "sml")) _ | refine Below.drew ?_ | refine Below.alloc ?_ (by (first | omega | (simp; omega) | (simp; done) | fail "sml")) _)); first | done | fail "chs")).trans (hb5.mono (by simp; omega))
              have hs5 := kk5.size
              have HF5 := Lib.hid (show ∀ z ∈ F5, wr.heap.size ≤ z from fun z hz => by have := hf5 z hz; simp at this; omega)
              have HO5 := Lib.hid ho5
              clear ho5 hf5 hb5
              refine hK.out _ _ (CK2.out _ kk5) (fun hHeld => ?_)
              clear hK K
              (try simp only [Act.put, List.setIfInBounds_toArray, List.set_cons_zero, List.set_cons_succ])
              refine oneE (i := 9) rfl (by kernel_rfl) (by kernel_rfl) (fun K hK => ?_)
              go_simp
              refine hK.out _ _ (CK2.out _ (show Below wr.heap.size wr _ by ((repeat (first | with_reducible assumption | with_reducible exact Below.refl _ _ | refine Below.setCell ?_ (by (first | omega | (simp; omega) | (simp; done) | fail "sml")) _ | refine Below.drew ?_ | refine Below.alloc ?_ (by (first | omega | (simp; omega) | (simp; done) | fail "sml")) _)); first | done | fail "chs"))) (fun hHeld => ?_)
              clear hK K
              (try simp only [Act.put, List.setIfInBounds_toArray, List.set_cons_zero, List.set_cons_succ])
              refine oneE (i := 10) rfl (by kernel_rfl) (by kernel_rfl) (fun K hK => ?_)
              have HAPP := HTI.out.app (E := w5.alloc (.cells #[.slice p5 y.length c5] 23)) (show Below wr.heap.size wr _ by ((repeat (first | with_reducible assumption | with_reducible exact Below.refl _ _ | refine Below.setCell ?_ (by (first | omega | (simp; omega) | (simp; done) | fail "sml")) _ | refine Below.drew ?_ | refine Below.alloc ?_ (by (first | omega | (simp; omega) | (simp; done) | fail "sml")) _)); first | done | fail "chs")) 31 y p5 c5 F5 w5.heap.size 1 (HO5.out.below ((Below.refl _ _).alloc (Nat.le_refl _) _)) HF5.out (by simp [go_sem]) (by have := HDL.out; omega)
              refine wp_app (.tmp 48) (.tmp 56) 31 (by rfl) _ _ (by rfl) (by rfl) _ HAPP ?_
              rintro v' w' ⟨⟨e0, e1, e2, e3⟩, hT6, hb6⟩
              obtain ⟨_, _, q6, c6, _, hvf⟩ := hT6.form
              rw [List.length_append, List.length_singleton] at hvf
              subst hvf
              have HT6 := Lib.hid (show TAcc x.cs (dst (x.rs.take (k + 1))) kb (w.heap.size + 2) (.slice p2 x.cs.length c2) (.slice q6 (Z.length + 1) c6) (w'.setCell ⟨kb, 1, none⟩ (.slice q6 (Z.length + 1) c6)) from by rw [HD.out]; exact hT6)
              have HB6 := Lib.hid (HBJ.out.trans hb6)
              have HD6 := Lib.hid (show w'.cell? ⟨w.heap.size, 1, none⟩ = some (.slice (some ⟨bb, off, none⟩) x.rs.length d) ∧ w'.cell? ⟨bb, off + k, none⟩ = some (.slice q2 y.length c3) by
                have h9 := keepc hb6 (show w.heap.size < w.heap.size + 2 by omega) k1
                have h8 := keepc hb6 (show bb < w.heap.size + 2 by omega) d0
                rw [set_far _ _ _ _ _ _ (by omega)] at h9 h8
                exact ⟨h9, h8⟩)
              clear hT6 hb6 HAPP
              refine hK.out _ _ ⟨⟨HD6.out.1, e1⟩, HD6.out.2⟩ (fun hHeld => ?_)
              clear hK K
              (try simp only [Act.put, List.setIfInBounds_toArray, List.set_cons_zero, List.set_cons_succ])
              (refine takeE (i := 11) (v := ?_) [] rfl (by kernel_rfl) (by kernel_rfl) (fun _ _ _ h => h) (Or.inl ⟨by kernel_rfl, ?_⟩) (by assumption) ?_; rotate_left; (focus (intro w hSw; (try dsimp only at hSw); go_simp; first | done | with_reducible rfl | fail "takeE")); (try simp only [Act.put, List.setIfInBounds_toArray, List.set_cons_zero, List.set_cons_succ]))
              refine lastE rfl (by kernel_rfl) (by kernel_rfl) (fun K hK => ?_)
              go_simp
              refine hK.out _ _ ?_
              clear hK K
              refine doneE (by kernel_rfl) ?_ _
              go_wp2_with fail
              go_roundw
              case rel => exact ⟨k + 1, _, by omega, by go_num, HT6, HB6⟩
              case measure => simp [intOf]; omega
      · obtain rfl : k = x.rs.length := by omega
        rw [List.take_length] at HTA x1
        obtain ⟨FT, hH, hFT⟩ := HTA.out.has
        have HH := Lib.hid hH
        have HFT := Lib.hid hFT
        clear hH hFT
        go_wp2_with fail
        exact bodyPost_ret (v := .tuple #[.agg #[.slice p2 x.cs.length c2, .slice qb (dst x.rs).length cb], .bool true]) (by simp [results, Try.results20, go_sem, k2, k3]) rfl ⟨_, FT, rfl, HH.out.chg (G := [w.heap.size + 1]) (((Chg.refl _ _).setCell (by simp) _).setCell (by simp) _) (fun y hy => by have := (HFT.out y hy).1; simp; omega), fun y hy => by have := (HFT.out y hy).1; omega, (HBA.out.setCell (by simp) _).setCell (by simp) _⟩
end Go.Proofs.Ytfdkmngkpihpbaa
