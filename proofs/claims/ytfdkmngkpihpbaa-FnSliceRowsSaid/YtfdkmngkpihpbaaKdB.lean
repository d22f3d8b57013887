/- Rows of a kind in memory of a call's own, whose whole block is known: they can be appended to. -/
import Derived.Test.YtfdkmngkpihpbaaKd
import Derived.Test.YtfdkmngkpihpbaaCopy
namespace Go.Proofs.Ytfdkmngkpihpbaa
open Go.RowKit

/-- An element's cells. -/
def RawC (n : Nat) : Type := {l : List Value // l.length = n ∧ ∀ u ∈ l, u.oneCell' = true}
def rawE {n : Nat} (r : RawC n) : List Value := r.1
theorem rawE_len {n : Nat} (r : RawC n) : (rawE r).length = n := r.2.1
theorem rawE_one {n : Nat} (r : RawC n) : ∀ u ∈ rawE r, u.oneCell' = true := r.2.2
namespace Kd
variable {α : Type}
def Ows (K : Kd α) (w : World) : List α → List (RawC K.sz) → List Nat → Prop
  | [], [], F => F = []
  | x :: xs, r :: rs, F => ∃ F1 F2, F = F1 ++ F2 ∧ (∀ y ∈ F1, y ∉ F2) ∧ K.ow w x (rawE r) F1 ∧ Ows K w xs rs F2
  | _, _, _ => False
theorem Ows.len {K : Kd α} {w : World} : ∀ {xs : List α} {rs : List (RawC K.sz)} {F : List Nat}, K.Ows w xs rs F → rs.length = xs.length
  | [], [], _, _ => rfl
  | x :: xs, r :: rs, F, h => by
    obtain ⟨F1, F2, _, _, _, h2⟩ := h
    simp [Ows.len h2]
  | [], _ :: _, _, h => h.elim
  | _ :: _, [], _, h => h.elim
theorem Ows.lt {K : Kd α} {w : World} : ∀ {xs : List α} {rs : List (RawC K.sz)} {F : List Nat}, K.Ows w xs rs F → ∀ y ∈ F, y < w.heap.size
  | [], [], _, h, y, hy => by cases h; simp at hy
  | x :: xs, r :: rs, F, h, y, hy => by
    obtain ⟨F1, F2, rfl, _, h1, h2⟩ := h
    rcases List.mem_append.1 hy with hy | hy
    · exact K.ow_lt h1 y hy
    · exact Ows.lt h2 y hy
  | [], _ :: _, _, h, _, _ => h.elim
  | _ :: _, [], _, h, _, _ => h.elim
theorem Ows.chg {K : Kd α} {w w' : World} {G : List Nat} (hc : Chg G w w') : ∀ {xs : List α} {rs : List (RawC K.sz)} {F : List Nat}, K.Ows w xs rs F → (∀ y ∈ F, y ∉ G) → K.Ows w' xs rs F
  | [], [], _, h, _ => h
  | x :: xs, r :: rs, F, h, hd => by
    obtain ⟨F1, F2, rfl, hdj, h1, h2⟩ := h
    exact ⟨F1, F2, rfl, hdj, K.ow_chg h1 hc (fun y hy => hd y (List.mem_append_left _ hy)), Ows.chg hc h2 (fun y hy => hd y (List.mem_append_right _ hy))⟩
  | [], _ :: _, _, h, _ => h.elim
  | _ :: _, [], _, h, _ => h.elim
theorem Ows.snoc {K : Kd α} {w : World} {y : α} {r : RawC K.sz} {G : List Nat} (hy : K.ow w y (rawE r) G) : ∀ {xs : List α} {rs : List (RawC K.sz)} {F : List Nat}, K.Ows w xs rs F → (∀ x ∈ F, x ∉ G) → K.Ows w (xs ++ [y]) (rs ++ [r]) (F ++ G)
  | [], [], F, h, _ => by
    cases h
    exact ⟨G, [], by simp, by simp, hy, rfl⟩
  | x :: xs, q :: rs, F, h, hd => by
    obtain ⟨F1, F2, rfl, hdj, h1, h2⟩ := h
    refine ⟨F1, F2 ++ G, by simp, fun z hz hm => ?_, h1, Ows.snoc hy h2 (fun z hz => hd z (List.mem_append_right _ hz))⟩
    rcases List.mem_append.1 hm with hm | hm
    · exact hdj z hz hm
    · exact hd z (List.mem_append_left _ hz) hm
  | [], _ :: _, _, h, _ => h.elim
  | _ :: _, [], _, h, _ => h.elim
theorem Ows.orow {K : Kd α} {w : World} : ∀ {xs : List α} {rs : List (RawC K.sz)} {F : List Nat} {c : Nat → Option Value}, K.Ows w xs rs F → (∀ j u, (flat rawE rs)[j]? = some u → c j = some u) → K.ORow w xs c F
  | [], [], F, c, h, _ => h
  | x :: xs, r :: rs, F, c, h, hc => by
    obtain ⟨F1, F2, rfl, hdj, h1, h2⟩ := h
    have hfl : flat rawE (r :: rs) = rawE r ++ flat rawE rs := by simp [flat]
    rw [hfl] at hc
    refine ⟨rawE r, F1, F2, rfl, hdj, fun j u hu => hc j u ?_, h1, Ows.orow h2 fun j u hu => hc (j + K.sz) u ?_⟩
    · rw [List.getElem?_append_left (List.getElem?_eq_some_iff.1 hu).1]; exact hu
    · rw [List.getElem?_append_right (by rw [rawE_len]; omega), rawE_len]
      simpa using hu
  | [], _ :: _, _, _, h, _ => h.elim
  | _ :: _, [], _, _, h, _ => h.elim
/-- As Ow, and the whole block is known. -/
def OwB (K : Kd α) (e : TypeId) (w : World) (v : Value) (xs : List α) (F : List Nat) : Prop :=
  ∃ rs F1 F2, F = F1 ++ F2 ∧ (∀ y ∈ F1, y ∉ F2) ∧ OwnB K.sz rawE e w v rs F1 ∧ K.Ows w xs rs F2
theorem OwB.lt {K : Kd α} {e : TypeId} {w : World} {v : Value} {xs : List α} {F : List Nat} (h : K.OwB e w v xs F) : ∀ y ∈ F, y < w.heap.size := by
  obtain ⟨rs, F1, F2, rfl, _, h1, h2⟩ := h
  intro y hy
  rcases List.mem_append.1 hy with hy | hy
  · exact h1.lt y hy
  · exact h2.lt y hy
theorem OwB.chg {K : Kd α} {e : TypeId} {w w' : World} {v : Value} {xs : List α} {F G : List Nat} (h : K.OwB e w v xs F) (hc : Chg G w w') (hd : ∀ y ∈ F, y ∉ G) : K.OwB e w' v xs F := by
  obtain ⟨rs, F1, F2, rfl, hdj, h1, h2⟩ := h
  exact ⟨rs, F1, F2, rfl, hdj, h1.chg hc (fun y hy => hd y (List.mem_append_left _ hy)), h2.chg hc (fun y hy => hd y (List.mem_append_right _ hy))⟩
theorem OwB.below {K : Kd α} {e : TypeId} {w w' : World} {v : Value} {xs : List α} {F : List Nat} (h : K.OwB e w v xs F) (hc : Below w.heap.size w w') : K.OwB e w' v xs F := h.chg (Chg.of_below hc []) (by simp)
theorem OwB.form {K : Kd α} {e : TypeId} {w : World} {v : Value} {xs : List α} {F : List Nat} (h : K.OwB e w v xs F) : ∃ p cap, v = .slice p xs.length cap := by
  obtain ⟨rs, F1, F2, rfl, _, ⟨p, cap, rfl, _⟩, h2⟩ := h
  rw [h2.len]; exact ⟨p, cap, rfl⟩
theorem OwB.nil (K : Kd α) (e : TypeId) (w : World) (p : Option Addr) : K.OwB e w (.slice p 0 0) [] [] :=
  ⟨[], [], [], rfl, by simp, ⟨p, 0, rfl, Nat.le_refl _, Nat.zero_le _, .inl ⟨rfl, rfl, rfl⟩⟩, rfl⟩
theorem OwB.ow {K : Kd α} {e : TypeId} {w : World} {v : Value} {xs : List α} {F : List Nat} (h : K.OwB e w v xs F) : K.Ow w v xs F := by
  obtain ⟨rs, F1, F2, rfl, hdj, ⟨p, cap, rfl, h2, h3, h4⟩, ho⟩ := h
  have hlen := ho.len
  rw [hlen] at h2 ⊢
  refine ⟨p, cap, rfl, h2, h3, ?_⟩
  rcases h4 with ⟨rfl, rfl, _⟩ | ⟨b, cur, rfl, rfl, hg, hs, ht⟩
  · have hx : xs = [] := List.eq_nil_of_length_eq_zero hlen.symm
    subst hx
    cases ho
    exact .inl ⟨rfl, rfl⟩
  · refine .inr ⟨b, 0, F2, rfl, rfl, hdj b (by simp), (Array.getElem?_eq_some_iff.1 hg).1, fun o => by simp [World.frozen?, hg], ho.orow fun j u hu => ?_⟩
    have hj : j < (flat rawE rs).length := (List.getElem?_eq_some_iff.1 hu).1
    have hc : cur.toList[j]? = some u := by
      have hl := flat_length (enc := rawE) (fun r : RawC K.sz => rawE_len r) rs
      rw [← hu, ← ht, List.getElem?_take_of_lt (by omega)]
    simpa [World.cell?, hg] using hc
/-- One more, behind the others. -/
theorem OwB.append {K : Kd α} {w : World} {v : Value} {xs : List α} {F : List Nat}
    (t ty e : TypeId) (i : TypeInfo) (z : Value) (bytes : Nat) (ht : Try.prog.underlying t = some (.slice e)) (hi : Try.prog.info? e = some i) (hz : i.zero = some z) (hsz : i.size = K.sz) (hby : i.bytes = bytes) (hzs : z.cells.size = K.sz)
    (h : K.OwB e w v xs F) (y : α) (cs : List Value) (G : List Nat) (g c : Nat) (ho : K.ow w y cs G) (hone : ∀ u ∈ cs, u.oneCell' = true) (hd : ∀ x ∈ F, x ∉ G) (hy : ∀ j u, cs[j]? = some u → w.cell? ⟨g, j, none⟩ = some u) (h63 : xs.length < 3000000) (hbytes : (xs.length + 1) * bytes ≤ 140737488355328) :
    ∃ v' w', (Builtin.append_ #[t, t] ty #[v, .slice (some ⟨g, 0, none⟩) 1 c]).run Try.prog w = .ok v' w' ∧ ∃ F', K.OwB e w' v' (xs ++ [y]) F' ∧ (∀ x ∈ F', x ∈ F ∨ x ∈ G ∨ w.heap.size ≤ x) ∧ Chg F w w' := by
  have hsub := h
  obtain ⟨rs, F1, F2, rfl, hdj, h1, h2⟩ := h
  have hlen := h2.len
  obtain ⟨r, hr⟩ : ∃ r : RawC K.sz, rawE r = cs := ⟨⟨cs, K.rd_len (K.ow_rd ho), hone⟩, rfl⟩
  obtain ⟨v', w', hrun, F', ho', hF', hc'⟩ := OwnB.append (enc := rawE) (fun r : RawC K.sz => rawE_len r) (fun r u hu => rawE_one r u hu) t ty e i z bytes ht hi hz hsz hby hzs h1 r g c (by rw [hr]; exact hy) (by rw [hlen]; exact h63) (by rw [hlen]; exact hbytes)
  have hG := K.ow_lt ho
  have hF2 := h2.lt
  have o2 := h2.chg hc' (fun x hx hx1 => hdj x hx1 hx)
  have oG := K.ow_chg ho hc' (fun x hx hx1 => hd x (List.mem_append_left _ hx1) hx)
  rw [← hr] at oG
  refine ⟨v', w', hrun, F' ++ (F2 ++ G), ⟨_, F', F2 ++ G, rfl, fun x hx hm => ?_, ho', o2.snoc oG (fun x hx => hd x (List.mem_append_right _ hx))⟩, fun x hx => ?_, hc'.mono fun x hx => List.mem_append_left _ hx⟩
  · rcases hF' x hx with h | h
    · rcases List.mem_append.1 hm with hm | hm
      · exact hdj x h hm
      · exact hd x (List.mem_append_left _ h) hm
    · rcases List.mem_append.1 hm with hm | hm
      · have := hF2 x hm; omega
      · have := hG x hm; omega
  · rcases List.mem_append.1 hx with hx | hx
    · rcases hF' x hx with h | h
      · exact .inl (List.mem_append_left _ h)
      · exact .inr (.inr h)
    · rcases List.mem_append.1 hx with hx | hx
      · exact .inl (List.mem_append_right _ hx)
      · exact .inr (.inl hx)
/-- An element's own memory changes. -/
theorem Ows.upd {K : Kd α} {w : World} : ∀ {xs : List α} {rs : List (RawC K.sz)} {F : List Nat}, K.Ows w xs rs F → ∀ (k : Nat) (hk : k < xs.length) (hk' : k < rs.length), ∃ G, (∀ y ∈ G, y ∈ F) ∧ K.ow w xs[k] (rawE rs[k]) G ∧
    ∀ (w' : World) (x' : α), Chg G w w' → K.ow w' x' (rawE rs[k]) G → K.Ows w' (xs.set k x') rs F
  | [], [], _, _, k, hk, _ => by simp at hk
  | x :: xs, r :: rs, F, h, k, hk, hk' => by
    obtain ⟨F1, F2, rfl, hdj, h1, h2⟩ := h
    cases k with
    | zero => exact ⟨F1, fun y hy => List.mem_append_left _ hy, h1, fun w' x' hc ho => ⟨F1, F2, rfl, hdj, ho, h2.chg hc (fun y hy hy1 => hdj y hy1 hy)⟩⟩
    | succ k =>
      obtain ⟨G, g1, g2, g3⟩ := Ows.upd h2 k (by simpa using hk) (by simpa using hk')
      exact ⟨G, fun y hy => List.mem_append_right _ (g1 y hy), by simpa using g2, fun w' x' hc ho => ⟨F1, F2, rfl, hdj, K.ow_chg h1 hc (fun y hy hy1 => hdj y hy (g1 y hy1)), g3 w' x' hc (by simpa using ho)⟩⟩
  | [], _ :: _, _, h, _, _, _ => h.elim
  | _ :: _, [], _, h, _, _, _ => h.elim
/-- An element of a row whose block is known: its cells, its own memory, and the row after it has changed there. -/
theorem OwB.upd {K : Kd α} {e : TypeId} {w : World} {v : Value} {xs : List α} {F : List Nat} (h : K.OwB e w v xs F) {k : Nat} (hk : k < xs.length) :
    ∃ (b : Nat) (cap : Nat) (cs : List Value) (G : List Nat), v = .slice (some ⟨b, 0, none⟩) xs.length cap ∧ cap ≤ maxLen ∧ b < w.heap.size ∧ b ∉ G ∧ (∀ y ∈ G, y ∈ F) ∧ (∀ j u, cs[j]? = some u → w.cell? ⟨b, k * K.sz + j, none⟩ = some u) ∧ K.ow w xs[k] cs G ∧
      ∀ (w' : World) (x' : α), Chg G w w' → K.ow w' x' cs G → K.OwB e w' v (xs.set k x') F := by
  obtain ⟨rs, F1, F2, rfl, hdj, h1, h2⟩ := h
  have hlen := h2.len
  have hk' : k < rs.length := by omega
  obtain ⟨G, g1, g2, g3⟩ := h2.upd k hk hk'
  have h1' := h1
  obtain ⟨p, cap, rfl, hc1, hc2, h4⟩ := h1
  rcases h4 with ⟨rfl, _, _⟩ | ⟨b, cur, rfl, rfl, hg, hs, ht⟩
  · simp at hk'
  · refine ⟨b, cap, rawE rs[k], G, by rw [hlen], hc2, (Array.getElem?_eq_some_iff.1 hg).1, fun hb => hdj b (by simp) (g1 b hb), fun y hy => List.mem_append_right _ (g1 y hy), fun j u hu => ?_, g2, fun w' x' hc ho => ⟨rs, [b], F2, rfl, hdj, h1'.chg hc (fun y hy hy1 => by simp at hy; subst hy; exact hdj y (by simp) (g1 y hy1)), g3 w' x' hc ho⟩⟩
    have hf := flat_at (enc := rawE) (fun r : RawC K.sz => rawE_len r) rs k hk' j u hu
    have hj : k * K.sz + j < (flat rawE rs).length := (List.getElem?_eq_some_iff.1 hf).1
    have hl := flat_length (enc := rawE) (fun r : RawC K.sz => rawE_len r) rs
    have hc : cur.toList[k * K.sz + j]? = some u := by
      rw [← hf, ← ht, List.getElem?_take_of_lt (by omega)]
    simpa [World.cell?, hg] using hc
end Kd
end Go.Proofs.Ytfdkmngkpihpbaa
