/- Rows of rows that are appended whole; what FnSliceRows turns on (pure). -/
import Derived.Test.YtfdkmngkpihpbaaL11S
import Derived.Test.YtfdkmngkpihpbaaTbG
namespace Go.Proofs.Ytfdkmngkpihpbaa
open Go.RowKit

/-- A slice of a call's own whose cells are rows that lie below B. -/
def RawRows (E : World) (v : Value) (xs : List (List Int)) (F : List Nat) (B : Nat) : Prop :=
  ∃ rs : List (RawC 1), rs.length = xs.length ∧ OwnS 1 rawE 23 E v rs F ∧ (∀ x ∈ F, B ≤ x) ∧ B ≤ E.heap.size ∧ ∀ i (h1 : i < rs.length) (h2 : i < xs.length), kRow.rd B E xs[i] (rawE rs[i])
theorem raw_of {B : Nat} {w : World} {v : Value} {xs : List (List Int)} (h : kRow.Rd B w v xs) : ∃ rs : List (RawC 1), rs.length = xs.length ∧ Sl 1 rawE B w v rs ∧ ∀ i (h1 : i < rs.length) (h2 : i < xs.length), kRow.rd B w xs[i] (rawE rs[i]) := by
  obtain ⟨p, cap, rfl, h2, h3, h4⟩ := h
  have key : ∀ i : Fin xs.length, ∃ r : RawC 1, (∃ b off, p = some ⟨b, off, none⟩ ∧ b < B ∧ ∀ j u, (rawE r)[j]? = some u → w.cell? ⟨b, off + i.1 * 1 + j, none⟩ = some u) ∧ kRow.rd B w xs[i.1] (rawE r) := fun i => by
    obtain ⟨b, off, cs, e, hl, hc, hr⟩ := h4 i.1 i.2
    refine ⟨⟨cs, kRow.rd_len hr, fun u hu => ?_⟩, ⟨b, off, e, hl, hc⟩, hr⟩
    obtain ⟨z, rfl, hz⟩ := hr
    obtain ⟨q, c, rfl⟩ := hz.form
    simp only [List.mem_cons, List.not_mem_nil, or_false] at hu
    subst hu; rfl
  refine ⟨List.ofFn fun i => Classical.choose (key i), by simp, ⟨p, xs.length, cap, rfl, by simp, h2, h3, fun i hi => ?_⟩, fun i h1 h2 => ?_⟩
  · have hi' : i < xs.length := by simpa using hi
    obtain ⟨b, off, e, hl, hc⟩ := (Classical.choose_spec (key ⟨i, hi'⟩)).1
    refine ⟨b, off, e, hl, fun j u hu => hc j u ?_⟩
    rw [List.getElem_ofFn] at hu
    exact hu
  · rw [List.getElem_ofFn]
    exact (Classical.choose_spec (key ⟨i, h2⟩)).2
theorem RawRows.nil (E : World) (p : Option Addr) {B : Nat} (hB : B ≤ E.heap.size) : RawRows E (.slice p 0 0) [] [] B := ⟨[], rfl, OwnS.empty p, by simp, hB, fun i h1 => by simp at h1⟩
theorem RawRows.form {E : World} {v : Value} {xs : List (List Int)} {F : List Nat} {B : Nat} (h : RawRows E v xs F B) : ∃ p c, v = .slice p xs.length c := by
  obtain ⟨rs, hl, ho, _⟩ := h
  obtain ⟨p, c, rfl⟩ := OwnS.form ho
  rw [hl]; exact ⟨p, c, rfl⟩
theorem RawRows.rd {E : World} {v : Value} {xs : List (List Int)} {F : List Nat} {B : Nat} (h : RawRows E v xs F B) : kRow.Rd E.heap.size E v xs := by
  obtain ⟨rs, hl, ho, _, hBE, hr⟩ := h
  obtain ⟨p, len, cap, rfl, h1, h2, h3, h4⟩ := (OwnS.own (enc := rawE) (fun r => rawE_len r) ho).sl
  subst h1
  rw [hl] at h2 ⊢
  refine ⟨p, cap, rfl, h2, h3, fun i hi => ?_⟩
  obtain ⟨b, off, e, hlb, hc⟩ := h4 i (by omega)
  exact ⟨b, off, rawE rs[i], e, hlb, hc, kRow.rd_to (hr i (by omega) hi) (Below.refl _ _) hBE⟩
/-- A whole row of rows behind the others. -/
theorem RawRows.app {E : World} {v u : Value} {xs ys : List (List Int)} {F : List Nat} {B : Nat} (h : RawRows E v xs F B) (hu : kRow.Rd B E u ys) (hl : xs.length + ys.length ≤ 3000000) (ty : TypeId) :
    ∃ v' w', (Builtin.append_ #[31, 31] ty #[v, u]).run Try.prog E = .ok v' w' ∧ ∃ F', RawRows w' v' (xs ++ ys) F' B ∧ Below B E w' := by
  obtain ⟨rs, hrl, ho, hF, hBE, hr⟩ := h
  obtain ⟨qs, hql, hq, hqr⟩ := raw_of hu
  obtain ⟨i, hi, hzz⟩ := Option.map_eq_some_iff.1 infoRowT
  simp only [Prod.mk.injEq] at hzz
  obtain ⟨hz, hs, hb⟩ := hzz
  obtain ⟨v', w', hrun, F', h1, h2, h3⟩ := OwnS.appends (enc := rawE (n := 1)) (sz := 1) (fun r => rawE_len r) (fun r u hu => rawE_one r u hu) 31 ty 23 i _ 24 Try.underlying31 hi hz hs hb (by decide) ho qs u B hq (by omega) (by omega)
  have hbw : Below B E w' := h3.below hBE hF
  refine ⟨v', w', hrun, F', ⟨rs ++ qs, by rw [List.length_append, List.length_append, hrl, hql], h1, fun x hx => ?_, Nat.le_trans hBE h3.size, fun k hk1 hk2 => ?_⟩, hbw⟩
  · rcases h2 x hx with h | h
    · exact hF x h
    · omega
  · rw [List.length_append] at hk1 hk2
    by_cases hk : k < rs.length
    · rw [List.getElem_append_left hk, List.getElem_append_left (by omega)]
      exact kRow.rd_to (hr k hk (by omega)) hbw (Nat.le_refl _)
    · rw [List.getElem_append_right (by omega), List.getElem_append_right (by omega)]
      have := hqr (k - rs.length) (by omega) (by omega)
      simp only [show k - xs.length = k - rs.length by omega]
      exact kRow.rd_to this hbw (Nat.le_refl _)
/-- The three parts of a table's rows. -/
theorem cut_parts {x : Tb} {s c : Int} (h : cutB x s c = true) : cutB x 0 s = true ∧ cutB x s 400 = true ∧ (cutR x 0 s).rs ++ (cutR x s 400).rs = x.rs ∧ ((cutR x s c).rs.length : Int) ≤ c ∧ (cutR x s c).rs.length ≤ (cutR x s 400).rs.length ∧ (cutR x s 400).rs.take (cutR x s c).rs.length = (cutR x s c).rs := by
  have hb := h
  unfold cutB at hb
  simp only [Bool.and_eq_true, decide_eq_true_eq] at hb
  obtain ⟨⟨⟨⟨hk, h3⟩, h4⟩, h5⟩, h6⟩ := hb
  have hn : x.rs.length ≤ 400 := by
    have := hk
    unfold Tb.ok at this
    simp only [Bool.and_eq_true, decide_eq_true_eq] at this
    exact this.1.2
  have b1 : cutB x 0 s = true := cutB_yes hk (by omega) (by omega) (by omega) (by omega)
  have b2 : cutB x s 400 = true := cutB_yes hk (by omega) (by omega) (by omega) (by omega)
  rw [cutR_yes h, cutR_yes b1, cutR_yes b2]
  simp only
  obtain ⟨sn, rfl⟩ := Int.eq_ofNat_of_zero_le h3
  obtain ⟨cn, rfl⟩ := Int.eq_ofNat_of_zero_le h5
  have e4 : (400 : Int).toNat = 400 := rfl
  have e0 : (0 : Int).toNat = 0 := rfl
  refine ⟨b1, b2, ?_⟩
  unfold cutRows cutTo cutFrom
  simp only [e4, e0, Int.toNat_natCast, Nat.zero_min, Nat.zero_add, List.drop_zero, List.length_drop, List.length_take]
  have e5 : min (min sn x.rs.length + 400) x.rs.length = x.rs.length := by omega
  rw [e5, List.take_length]
  refine ⟨List.take_append_drop _ _, by omega, by omega, ?_⟩
  refine List.ext_getElem ?_ fun i hi hi' => ?_
  · simp only [List.length_drop, List.length_take]; omega
  · simp only [List.getElem_drop, List.getElem_take]
end Go.Proofs.Ytfdkmngkpihpbaa
