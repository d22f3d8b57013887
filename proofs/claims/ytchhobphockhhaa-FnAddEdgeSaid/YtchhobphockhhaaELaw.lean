/- Edges from and to nodes: what the laws say of their lists; no program. -/
import Derived.Test.YtchhobphockhhaaGLaw
namespace Go.Proofs.Ytchhobphockhhaa
open Go.RowKit

theorem pick_all (p : Ed → Bool) (es : List Ed) : ∀ k, ∀ z ∈ pick p es k, ∃ j : Nat, j < k ∧ z = (j : Int) ∧ ∃ e, es[j]? = some e ∧ p e = true
  | 0, z, hz => by simp [pick] at hz
  | k + 1, z, hz => by
    have old : z ∈ pick p es k → ∃ j : Nat, j < k + 1 ∧ z = (j : Int) ∧ ∃ e, es[j]? = some e ∧ p e = true := fun h => by
      obtain ⟨j, h1, h2⟩ := pick_all p es k z h
      exact ⟨j, by omega, h2⟩
    unfold pick at hz
    split at hz
    · rename_i hc
      rcases List.mem_append.1 hz with h | h
      · exact old h
      · simp at h
        subst h
        refine ⟨k, by omega, rfl, ?_⟩
        cases he : es[k]? with
        | none => rw [he] at hc; simp at hc
        | some e => rw [he] at hc; exact ⟨e, rfl, by simpa using hc⟩
    · exact old hz
theorem pick_up (p : Ed → Bool) (es : List Ed) : ∀ k, (pick p es k).Pairwise (· < ·)
  | 0 => List.Pairwise.nil
  | k + 1 => by
    unfold pick
    split
    · refine List.pairwise_append.2 ⟨pick_up p es k, by simp, fun a ha b hb => ?_⟩
      simp at hb
      subst hb
      obtain ⟨j, h1, rfl, _⟩ := pick_all p es k a ha
      omega
    · exact pick_up p es k
theorem out_at {g : Gr} (h : gv g = true) {n : Int} {L : List Int} (hL : L = edgesOut g n) {k : Nat} (hk : k < L.length) : ∃ j : Nat, L[k] = (j : Int) ∧ ∃ hj : j < g.es.length, (g.es[j]).f = n := by
  subst hL
  have e : edgesOut g n = pick (byOut n) g.es g.es.length := by unfold edgesOut; rw [if_pos h]
  obtain ⟨j, h1, h2, x, h3, h4⟩ := pick_all (byOut n) g.es g.es.length (edgesOut g n)[k] (by rw [← e]; exact List.getElem_mem hk)
  obtain ⟨hj, hx⟩ := List.getElem?_eq_some_iff.1 h3
  exact ⟨j, h2, hj, by rw [hx]; simpa [byOut] using h4⟩
theorem in_at {g : Gr} (h : gv g = true) {n : Int} {L : List Int} (hL : L = edgesIn g n) {k : Nat} (hk : k < L.length) : ∃ j : Nat, L[k] = (j : Int) ∧ ∃ hj : j < g.es.length, (g.es[j]).t = n := by
  subst hL
  have e : edgesIn g n = pick (byIn n) g.es g.es.length := by unfold edgesIn; rw [if_pos h]
  obtain ⟨j, h1, h2, x, h3, h4⟩ := pick_all (byIn n) g.es g.es.length (edgesIn g n)[k] (by rw [← e]; exact List.getElem_mem hk)
  obtain ⟨hj, hx⟩ := List.getElem?_eq_some_iff.1 h3
  exact ⟨j, h2, hj, by rw [hx]; simpa [byIn] using h4⟩
theorem in_up {g : Gr} (h : gv g = true) {n : Int} {L : List Int} (hL : L = edgesIn g n) {i k : Nat} (hi : i < L.length) (hk : k < L.length) (hik : i < k) : L[i] < L[k] := by
  subst hL
  have e : edgesIn g n = pick (byIn n) g.es g.es.length := by unfold edgesIn; rw [if_pos h]
  have hp : (edgesIn g n).Pairwise (· < ·) := by rw [e]; exact pick_up _ _ _
  exact List.pairwise_iff_getElem.1 hp i k hi hk hik
theorem out_none {g : Gr} (h : gv g = false) (n : Int) : edgesOut g n = [] := by unfold edgesOut; rw [if_neg (by rw [h]; simp)]
theorem in_none {g : Gr} (h : gv g = false) (n : Int) : edgesIn g n = [] := by unfold edgesIn; rw [if_neg (by rw [h]; simp)]

/-- How many edges begin, or end, at the first k nodes. -/
def cntO (g : Gr) : Nat → Nat
  | 0 => 0
  | k + 1 => cntO g k + (edgesOut g (k : Int)).length
def cntI (g : Gr) : Nat → Nat
  | 0 => 0
  | k + 1 => cntI g k + (edgesIn g (k : Int)).length
theorem pick_len (p : Ed → Bool) (es : List Ed) : ∀ k, k ≤ es.length → (pick p es k).length = (es.take k).countP p
  | 0, _ => by simp [pick]
  | k + 1, h => by
    have ih := pick_len p es k (by omega)
    have hk : k < es.length := by omega
    rw [List.take_succ_eq_append_getElem hk, List.countP_append]
    unfold pick
    rw [List.getElem?_eq_getElem hk]
    cases hp : p es[k] with
    | false => simp [hp, ih]
    | true => simp [hp, ih]
theorem cnt_one {q : Ed → Int} {e : Ed} : ∀ K : Nat, 0 ≤ q e → q e < K → ∀ (c : Nat → Nat), (∀ k, c (k + 1) = c k + if q e = (k : Int) then 1 else 0) → c 0 = 0 → c K = 1 := by
  intro K h0 h1 c hc hz
  have : ∀ k : Nat, c k = if q e < (k : Int) then 1 else 0 := by
    intro k
    induction k with
    | zero => rw [hz, if_neg (by omega)]
    | succ k ih =>
      rw [hc, ih]
      by_cases a : q e < (k : Int)
      · rw [if_pos a, if_neg (by omega), if_pos (by omega)]
      · by_cases b : q e = (k : Int)
        · rw [if_neg a, if_pos b, if_pos (by omega)]
        · rw [if_neg a, if_neg b, if_neg (by omega)]
  rw [this K, if_pos h1]
/-- All the counts together, of a function of edges into the first K numbers. -/
def cntS (q : Ed → Int) (es : List Ed) : Nat → Nat
  | 0 => 0
  | k + 1 => cntS q es k + es.countP (fun e => q e == (k : Int))
theorem cntS_cons (q : Ed → Int) (e : Ed) (es : List Ed) : ∀ k, cntS q (e :: es) k = cntS q [e] k + cntS q es k
  | 0 => rfl
  | k + 1 => by
    have ih := cntS_cons q e es k
    unfold cntS
    rw [ih, List.countP_cons, List.countP_cons]
    simp only [List.countP_nil]
    omega
theorem cntS_full (q : Ed → Int) (K : Nat) : ∀ es : List Ed, (∀ e ∈ es, 0 ≤ q e ∧ q e < K) → cntS q es K = es.length
  | [], _ => by
    have : ∀ k, cntS q [] k = 0 := fun k => by induction k with | zero => rfl | succ k ih => unfold cntS; rw [ih]; rfl
    rw [this]; rfl
  | e :: es, h => by
    rw [cntS_cons, cntS_full q K es (fun x hx => h x (List.mem_cons_of_mem _ hx))]
    have h1 : cntS q [e] K = 1 := cnt_one (q := q) (e := e) K (h e (by simp)).1 (h e (by simp)).2 (cntS q [e]) (fun k => by
      show cntS q [e] k + [e].countP _ = _
      by_cases a : q e = (k : Int) <;> simp [a]) rfl
    rw [h1, List.length_cons]; omega
theorem cntO_full {g : Gr} (h : gv g = true) : cntO g g.ns.length = g.es.length := by
  have e : ∀ k, cntO g k = cntS (·.f) g.es k := fun k => by
    induction k with
    | zero => rfl
    | succ k ih =>
      unfold cntO cntS
      rw [ih]
      unfold edgesOut
      rw [if_pos h, pick_len _ _ _ (Nat.le_refl _), List.take_length]; rfl
  rw [e]
  exact cntS_full _ _ _ (fun x hx => (edV_iff.1 ((gv_iff.1 h).2.2 x hx)).1)
theorem cntI_full {g : Gr} (h : gv g = true) : cntI g g.ns.length = g.es.length := by
  have e : ∀ k, cntI g k = cntS (·.t) g.es k := fun k => by
    induction k with
    | zero => rfl
    | succ k ih =>
      unfold cntI cntS
      rw [ih]
      unfold edgesIn
      rw [if_pos h, pick_len _ _ _ (Nat.le_refl _), List.take_length]; rfl
  rw [e]
  exact cntS_full _ _ _ (fun x hx => (edV_iff.1 ((gv_iff.1 h).2.2 x hx)).2.1)
theorem cntO_le (g : Gr) (k : Nat) : cntO g k ≤ k * g.es.length := by
  induction k with
  | zero => simp [cntO]
  | succ k ih =>
    have : (edgesOut g (k : Int)).length ≤ g.es.length := by unfold edgesOut; split; exact pick_le _ _ _; simp
    unfold cntO; rw [Nat.add_mul]; omega
theorem cntI_le (g : Gr) (k : Nat) : cntI g k ≤ k * g.es.length := by
  induction k with
  | zero => simp [cntI]
  | succ k ih =>
    have : (edgesIn g (k : Int)).length ≤ g.es.length := by unfold edgesIn; split; exact pick_le _ _ _; simp
    unfold cntI; rw [Nat.add_mul]; omega
theorem pick_succ (p : Ed → Bool) (es : List Ed) (k : Nat) : pick p es (k + 1) = if (es[k]?.map p).getD false then pick p es k ++ [(k : Int)] else pick p es k := rfl
theorem pick_pre (p : Ed → Bool) (es l : List Ed) : ∀ k, k ≤ es.length → pick p (es ++ l) k = pick p es k
  | 0, _ => rfl
  | k + 1, h => by
    have ih := pick_pre p es l k (by omega)
    unfold pick
    rw [ih, List.getElem?_append_left (by omega)]
theorem out_added {g : Gr} {x : Ed} (h : extOk g [] [x] = true) : edgesOut (more g [] [x]) x.f = edgesOut g x.f ++ [(g.es.length : Int)] ∧ edgesIn (more g [] [x]) x.t = edgesIn g x.t ++ [(g.es.length : Int)] := by
  obtain ⟨_, h2, h3⟩ := ext_of h
  unfold edgesOut edgesIn
  rw [if_pos h2, if_pos h2, if_pos h3, if_pos h3]
  have e : (more g [] [x]).es = g.es ++ [x] := rfl
  have el : (g.es ++ [x]).length = g.es.length + 1 := by simp
  have eg : (g.es ++ [x])[g.es.length]? = some x := by simp
  rw [e, el]
  constructor
  · rw [pick_succ, eg, pick_pre _ _ _ _ (Nat.le_refl _)]
    simp [byOut]
  · rw [pick_succ, eg, pick_pre _ _ _ _ (Nat.le_refl _)]
    simp [byIn]
end Go.Proofs.Ytchhobphockhhaa
