/- A block of rows of ints that each grow by appends: memory of the call's own. What PickCols answers (pure). -/
import Derived.Test.YtfdkmngkpihpbaaM1q0p1
import Derived.Test.YtfdkmngkpihpbaaM1q1p1
namespace Go.Proofs.Ytfdkmngkpihpbaa
open Go.RowKit

/-- The block p holds the rows rs; the memory of the i-th row is G i. -/
def Pk (E : World) (p : Nat) (rs : List (List Int)) (G : Nat → List Nat) (lo : Nat) : Prop :=
  (lo ≤ p ∧ p < E.heap.size) ∧ (∀ i (h : i < rs.length), ∃ q c, E.cell? ⟨p, i, none⟩ = some (.slice q rs[i].length c) ∧ OwnI E (.slice q rs[i].length c) rs[i] (G i)) ∧ (∀ i, i < rs.length → E.frozen? ⟨p, i, none⟩ = false) ∧ (∀ i j, i ≠ j → ∀ b ∈ G i, b ∉ G j) ∧ (∀ i, ∀ b ∈ G i, b ≠ p ∧ lo ≤ b ∧ b < E.heap.size)
def updG (G : Nat → List Nat) (i : Nat) (F : List Nat) : Nat → List Nat := fun j => if j = i then F else G j
theorem updG_same (G : Nat → List Nat) (i : Nat) (F : List Nat) : updG G i F i = F := if_pos rfl
theorem updG_ne {G : Nat → List Nat} {i j : Nat} {F : List Nat} (h : j ≠ i) : updG G i F j = G j := if_neg h
theorem Pk.below {E E' : World} {p : Nat} {rs : List (List Int)} {G : Nat → List Nat} {lo : Nat} (h : Pk E p rs G lo) (hb : Below E.heap.size E E') : Pk E' p rs G lo := by
  obtain ⟨⟨h1, h2⟩, h3, h4, h5, h6⟩ := h
  have hs := hb.size
  refine ⟨⟨h1, by omega⟩, fun i hi => ?_, fun i hi => ?_, h5, fun i b hb' => ?_⟩
  · obtain ⟨q, c, hc, ho⟩ := h3 i hi
    exact ⟨q, c, keepc hb h2 hc, ho.below hb⟩
  · exact (hb.frozen (p := ⟨p, i, none⟩) h2).trans (h4 i hi)
  · have := h6 i b hb'
    exact ⟨this.1, this.2.1, by omega⟩
/-- One row, one longer. -/
theorem Pk.put {E w' : World} {p : Nat} {rs : List (List Int)} {G : Nat → List Nat} {lo i : Nat} {x : Int} {v' : Value} (h : Pk E p rs G lo) (hi : i < rs.length) (ha : AppI E (rs[i] ++ [x]) (G i) v' w') :
    w'.frozen? ⟨p, i, none⟩ = false ∧ w'.cell? ⟨p, i, none⟩ = E.cell? ⟨p, i, none⟩ ∧ ∃ G', Pk (w'.setCell ⟨p, i, none⟩ v') p (rs.set i (rs[i] ++ [x])) G' lo ∧ Below lo E w' := by
  obtain ⟨⟨h1, h2⟩, h3, h4, h5, h6⟩ := h
  obtain ⟨F', ho, hF, hc⟩ := ha
  have hs := hc.size
  have hpi : p ∉ G i := fun hm => (h6 i p hm).1 rfl
  obtain ⟨q0, c0, hc0, _⟩ := h3 i hi
  have hcell := hc.cellOf hpi hc0
  have hF2 : ∀ b ∈ F', b ≠ p ∧ lo ≤ b ∧ b < w'.heap.size := fun b hb => by
    have hlt := ho.lt b hb
    rcases hF b hb with hm | hm
    · have := h6 i b hm
      exact ⟨this.1, this.2.1, hlt⟩
    · exact ⟨by omega, by omega, hlt⟩
  have hbw : Below lo E w' := hc.below (by omega) (fun b hb => (h6 i b hb).2.1)
  refine ⟨hc.frozenOf hpi h2 (h4 i hi), hcell.trans hc0.symm, updG G i F', ⟨⟨h1, by simp; omega⟩, fun j hj => ?_, fun j hj => ?_, fun j k hjk b hb => ?_, fun j b hb => ?_⟩, hbw⟩
  · rw [List.length_set] at hj
    by_cases hji : j = i
    · subst hji
      obtain ⟨q, c, rfl⟩ := ho.form
      rw [updG_same]
      simp only [List.getElem_set_self]
      exact ⟨q, c, set_same _ _ _ _ _ hcell, ho.chg (((Chg.refl [p] w').setCell (by simp) _)) (fun b hb => by have := hF2 b hb; simp; exact this.1)⟩
    · obtain ⟨q, c, hq, hoj⟩ := h3 j hj
      have e : (rs.set i (rs[i] ++ [x]))[j]'(by rw [List.length_set]; exact hj) = rs[j] := by rw [List.getElem_set]; rw [if_neg (fun e => hji e.symm)]
      rw [e, updG_ne hji]
      refine ⟨q, c, ?_, (hoj.chg hc (fun b hb hb' => h5 j i hji b hb hb')).chg (((Chg.refl [p] w').setCell (by simp) _)) (fun b hb => by have := h6 j b hb; simp; exact this.1)⟩
      rw [set_near _ _ _ _ _ (fun e => hji e.symm)]
      exact hc.cellOf hpi hq
  · rw [List.length_set] at hj
    have := hc.frozenOf hpi h2 (h4 j hj)
    simpa [go_sem] using this
  · by_cases hji : j = i
    · subst hji
      rw [updG_same] at hb
      rw [updG_ne (fun e => hjk e.symm)]
      intro hbk
      rcases hF b hb with hm | hm
      · exact h5 j k hjk b hm hbk
      · have := (h6 k b hbk).2.2
        omega
    · rw [updG_ne hji] at hb
      by_cases hki : k = i
      · subst hki
        rw [updG_same]
        intro hbk
        rcases hF b hbk with hm | hm
        · exact h5 j k hjk b hb hm
        · have := (h6 j b hb).2.2
          omega
      · rw [updG_ne hki]
        exact h5 j k hjk b hb
  · by_cases hji : j = i
    · subst hji
      rw [updG_same] at hb
      have := hF2 b hb
      exact ⟨this.1, this.2.1, by simp; exact this.2.2⟩
    · rw [updG_ne hji] at hb
      have := h6 j b hb
      exact ⟨this.1, this.2.1, by simp; omega⟩
theorem Pk.rd {E : World} {p cap : Nat} {rs : List (List Int)} {G : Nat → List Nat} {lo : Nat} (h : Pk E p rs G lo) (hc : rs.length ≤ cap) (hm : cap ≤ maxLen) : kRow.Rd E.heap.size E (.slice (some ⟨p, 0, none⟩) rs.length cap) rs := by
  obtain ⟨⟨h1, h2⟩, h3, h4, h5, h6⟩ := h
  refine ⟨_, cap, rfl, hc, hm, fun i hi => ?_⟩
  obtain ⟨q, c, hcell, ho⟩ := h3 i hi
  refine ⟨p, 0, [.slice q rs[i].length c], rfl, h2, fun j u hu => ?_, ⟨_, rfl, kInt_rd.2 ho.own.sl⟩⟩
  match j, hu with
  | 0, hu =>
    cases hu
    have e : 0 + i * kRow.sz + 0 = i := by show 0 + i * 1 + 0 = i; omega
    rw [e]; exact hcell
  | j + 1, hu => cases hu
/-- A new block of n empty rows. -/
theorem Pk.new (w : World) (n lo : Nat) (hlo : lo ≤ w.heap.size) : Pk (w.alloc (.cells (madeCells #[.slice none 0 0] n) 23)) w.heap.size (List.replicate n []) (fun _ => []) lo := by
  refine ⟨⟨hlo, by simp⟩, fun i hi => ?_, fun i hi => by simp [go_sem], fun i j _ b hb => by simp at hb, fun i b hb => by simp at hb⟩
  rw [List.length_replicate] at hi
  refine ⟨none, 0, ?_, by rw [List.getElem_replicate]; exact OwnI.empty _ _⟩
  simp only [List.getElem_replicate, List.length_nil]
  simp [go_sem, madeCells, hi, Nat.mod_one]

/-- The columns cs of a row. -/
def pkRow (ns : List ByteArray) (y : List Int) (cs : List ByteArray) : List Int := cs.map fun c => (y[(colAt ns c).toNat]?).getD 0
def pkB (x : Tb) (cs : List ByteArray) : Bool := x.ok && tbNames cs && cs.all (hasS x.cs)
def pkRs (x : Tb) (cs : List ByteArray) : List (List Int) := x.rs.map fun y => pkRow x.cs y cs
def pkR (x : Tb) (cs : List ByteArray) : Tb := if pkB x cs = true then ⟨cs, pkRs x cs⟩ else noTb
theorem pkR_yes {x : Tb} {cs : List ByteArray} (h : pkB x cs = true) : pkR x cs = ⟨cs, pkRs x cs⟩ := by unfold pkR; rw [h]; rfl
theorem pkR_no {x : Tb} {cs : List ByteArray} (h : pkB x cs = false) : pkR x cs = noTb := by unfold pkR; rw [h]; rfl
theorem pkB_1 {x : Tb} {cs : List ByteArray} (h : x.ok = false) : pkB x cs = false := by unfold pkB; rw [h]; rfl
theorem pkB_2 {x : Tb} {cs : List ByteArray} (h : tbNames cs = false) : pkB x cs = false := by unfold pkB; rw [h]; simp
theorem pkB_3 {x : Tb} {cs : List ByteArray} {k : Nat} (hk : k < cs.length) (h : colAt x.cs cs[k] < 0) : pkB x cs = false := by
  unfold pkB
  have : cs.all (hasS x.cs) = false := by
    rw [List.all_eq_false]
    exact ⟨cs[k], List.getElem_mem hk, by unfold hasS; simp; omega⟩
  rw [this]; simp
theorem pkB_yes {x : Tb} {cs : List ByteArray} (h1 : x.ok = true) (h2 : tbNames cs = true) (h : ∀ k (hk : k < cs.length), 0 ≤ colAt x.cs cs[k]) : pkB x cs = true := by
  unfold pkB
  rw [h1, h2]
  simp only [Bool.and_self, Bool.true_and, List.all_eq_true]
  intro c hc
  obtain ⟨k, hk, rfl⟩ := List.mem_iff_getElem.1 hc
  exact decide_eq_true (h k hk)
theorem pkRow_len (ns : List ByteArray) (y : List Int) (cs : List ByteArray) : (pkRow ns y cs).length = cs.length := by unfold pkRow; rw [List.length_map]
theorem pkRow_succ {ns : List ByteArray} {y : List Int} {cs : List ByteArray} {j : Nat} (hj : j < cs.length) {a : Nat} (ha : a < y.length) (he : colAt ns cs[j] = a) : pkRow ns y (cs.take (j + 1)) = pkRow ns y (cs.take j) ++ [y[a]] := by
  unfold pkRow
  rw [List.take_succ_eq_append_getElem hj, List.map_append]
  simp only [List.map_cons, List.map_nil, he]
  rw [show ((a : Int)).toNat = a from rfl, List.getElem?_eq_getElem ha]; rfl
theorem tb_parts {x : Tb} (h : x.ok = true) : x.cs.length ≤ 6 ∧ x.rs.length ≤ 400 ∧ ∀ y ∈ x.rs, y.length = x.cs.length ∧ y.all okNum = true := by
  unfold Tb.ok tbNames at h
  simp only [Bool.and_eq_true, decide_eq_true_eq, List.all_eq_true] at h
  refine ⟨h.1.1.1.1.2, h.1.2, fun y hy => ?_⟩
  have := h.2 y hy
  unfold rowOk at this
  simp only [Bool.and_eq_true, decide_eq_true_eq] at this
  exact this
theorem pk_ok {x : Tb} {cs : List ByteArray} (h : pkB x cs = true) : (Tb.mk cs (pkRs x cs)).ok = true := by
  unfold pkB at h
  simp only [Bool.and_eq_true, List.all_eq_true] at h
  obtain ⟨⟨h1, h2⟩, h3⟩ := h
  obtain ⟨h4, h5, h6⟩ := tb_parts h1
  unfold Tb.ok
  simp only [Bool.and_eq_true, decide_eq_true_eq, List.all_eq_true]
  refine ⟨⟨h2, by unfold pkRs; rw [List.length_map]; exact h5⟩, fun r hr => ?_⟩
  obtain ⟨y, hy, rfl⟩ := List.mem_map.1 hr
  unfold rowOk
  simp only [Bool.and_eq_true, decide_eq_true_eq, List.all_eq_true]
  refine ⟨pkRow_len _ _ _, fun n hn => ?_⟩
  obtain ⟨c, hc, rfl⟩ := List.mem_map.1 hn
  have h0 : 0 ≤ colAt x.cs c := of_decide_eq_true (h3 c hc)
  have hr := colAt_range x.cs c
  have hl := (h6 y hy).1
  have ha : (colAt x.cs c).toNat < y.length := by omega
  rw [List.getElem?_eq_getElem ha]
  exact List.all_eq_true.1 (h6 y hy).2 _ (List.getElem_mem ha)
theorem pk_len (x : Tb) (cs : List ByteArray) : (pkRs x cs).length = x.rs.length := by unfold pkRs; rw [List.length_map]
theorem sumR_len {k : Nat} : ∀ {rs : List (List Int)}, (∀ y ∈ rs, y.length = k) → sumR rs = rs.length * k
  | [], _ => by simp [sumR]
  | y :: rs, h => by
    have h1 := sumR_len (rs := rs) fun z hz => h z (by simp [hz])
    have h2 := h y (by simp)
    unfold sumR at h1 ⊢
    simp only [List.map_cons, List.sum_cons, List.length_cons, Nat.succ_mul, h1, h2]
    omega
theorem pk_sum (x : Tb) (cs : List ByteArray) : sumR (pkRs x cs) = x.rs.length * cs.length := by
  have := sumR_len (k := cs.length) (rs := pkRs x cs) fun y hy => by
    obtain ⟨z, _, rfl⟩ := List.mem_map.1 hy
    exact pkRow_len _ _ _
  rwa [pk_len] at this
/-- The rows after j columns, and one more in the first i rows. -/
def mixR (x : Tb) (cs : List ByteArray) (j i : Nat) : List (List Int) := (List.range x.rs.length).map fun m => pkRow x.cs ((x.rs[m]?).getD []) (cs.take (if m < i then j + 1 else j))
theorem mix_len (x : Tb) (cs : List ByteArray) (j i : Nat) : (mixR x cs j i).length = x.rs.length := by unfold mixR; simp
theorem mix_get {x : Tb} {cs : List ByteArray} {j i m : Nat} (hm : m < x.rs.length) (hm' : m < (mixR x cs j i).length) : (mixR x cs j i)[m] = pkRow x.cs x.rs[m] (cs.take (if m < i then j + 1 else j)) := by
  simp only [mixR, List.getElem_map, List.getElem_range]
  rw [List.getElem?_eq_getElem hm]; rfl
theorem mix_zero (x : Tb) (cs : List ByteArray) : mixR x cs 0 0 = List.replicate x.rs.length [] := by
  refine List.ext_getElem (by rw [mix_len, List.length_replicate]) fun m h1 h2 => ?_
  rw [mix_get (by rwa [mix_len] at h1)]
  simp [pkRow]
theorem mix_next (x : Tb) (cs : List ByteArray) (j : Nat) : mixR x cs j x.rs.length = mixR x cs (j + 1) 0 := by
  refine List.ext_getElem (by rw [mix_len, mix_len]) fun m h1 h2 => ?_
  have hm : m < x.rs.length := by rwa [mix_len] at h1
  rw [mix_get hm, mix_get hm, if_pos hm, if_neg (by omega)]
theorem mix_all (x : Tb) (cs : List ByteArray) : mixR x cs cs.length 0 = pkRs x cs := by
  refine List.ext_getElem (by rw [mix_len, pk_len]) fun m h1 h2 => ?_
  have hm : m < x.rs.length := by rwa [mix_len] at h1
  rw [mix_get hm, if_neg (by omega), List.take_length]
  simp only [pkRs, List.getElem_map]
theorem mix_step {x : Tb} {cs : List ByteArray} {j i : Nat} (hi : i < x.rs.length) (hj : j < cs.length) {a : Nat} (ha : a < x.rs[i].length) (he : colAt x.cs cs[j] = a) (hi' : i < (mixR x cs j i).length) : (mixR x cs j i).set i ((mixR x cs j i)[i] ++ [x.rs[i][a]]) = mixR x cs j (i + 1) := by
  refine List.ext_getElem (by rw [List.length_set, mix_len, mix_len]) fun m h1 h2 => ?_
  have hm : m < x.rs.length := by rwa [mix_len] at h2
  rw [List.getElem_set]
  by_cases e : i = m
  · subst e
    rw [if_pos rfl, mix_get hm, mix_get hm, if_neg (by omega), if_pos (by omega), pkRow_succ hj ha he]
  · rw [if_neg e, mix_get hm, mix_get hm]
    by_cases h3 : m < i
    · rw [if_pos h3, if_pos (by omega)]
    · rw [if_neg h3, if_neg (by omega)]
end Go.Proofs.Ytfdkmngkpihpbaa
