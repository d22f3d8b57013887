/- Graphs: what the laws of chapter 1 say of equality, turning, adding and edges; no program. -/
import Derived.Test.YtchhobphockhhaaEdges
import Derived.Test.YtchhobphockhhaaTurn
import Derived.Test.YtchhobphockhhaaExt
import Derived.Test.YtchhobphockhhaaGSame
namespace Go.Proofs.Ytchhobphockhhaa
open Go.RowKit

theorem eqL_self {α : Type} {f : α → α → Bool} (hf : ∀ x, f x x = true) : ∀ xs : List α, eqL f xs xs = true
  | [] => rfl
  | x :: xs => by unfold eqL; rw [hf x, eqL_self hf xs]; rfl
theorem gs_refl (g : Gr) : gs g g = true := by
  unfold gs
  rw [eqL_self (fun x => by simp [ndE]), eqL_self (fun x => by simp [edE])]; rfl
theorem Gr.At.to {g : Gr} {B B' : Nat} {w w' : World} {v : Value} (h : g.At B w v) (hb : Below B w w') (hB : B ≤ B') : g.At B' w' v := (h.below hb).mono hB

theorem gv_iff {g : Gr} : gv g = true ↔ (1 ≤ g.ns.length ∧ g.ns.length ≤ 8 ∧ g.es.length ≤ 14) ∧ (∀ x ∈ g.ns, ndV x = true) ∧ ∀ e ∈ g.es, edV g.ns.length e = true := by
  unfold gv
  simp [List.all_eq_true]
theorem hn_iff {k : Nat} {n : Int} : hn k n = true ↔ 0 ≤ n ∧ n < k := by simp [hn]
theorem edV_iff {k : Nat} {e : Ed} : edV k e = true ↔ (0 ≤ e.f ∧ e.f < k) ∧ (0 ≤ e.t ∧ e.t < k) ∧ pv e.l e.n = true := by
  unfold edV
  rw [Bool.and_eq_true, Bool.and_eq_true, hn_iff, hn_iff]
theorem edV_more {k m : Nat} {e : Ed} (h : edV k e = true) (hk : k ≤ m) : edV m e = true := by
  rw [edV_iff] at *
  obtain ⟨⟨a, b⟩, ⟨c, d⟩, e⟩ := h
  exact ⟨⟨a, by omega⟩, ⟨c, by omega⟩, e⟩

theorem turnE_turnE (x : Ed) : turnE (turnE x) = x := rfl
theorem edV_turn {k : Nat} {e : Ed} : edV k (turnE e) = edV k e := by
  rw [Bool.eq_iff_iff, edV_iff, edV_iff]
  simp only [turnE]
  constructor <;> (rintro ⟨h1, h2, h3⟩; exact ⟨h2, h1, h3⟩)
theorem tgr_of {g : Gr} (h : gv g = true) : tgr g = ⟨g.ns, g.es.map turnE⟩ := by unfold tgr; rw [if_pos h]
theorem gv_tgr {g : Gr} (h : gv g = true) : gv (tgr g) = true := by
  rw [tgr_of h]
  rw [gv_iff] at *
  obtain ⟨h1, h2, h3⟩ := h
  refine ⟨by simpa using h1, h2, fun e he => ?_⟩
  obtain ⟨x, hx, rfl⟩ := List.mem_map.1 he
  show edV g.ns.length (turnE x) = true
  rw [edV_turn]; exact h3 x hx
theorem tgr_tgr {g : Gr} (h : gv g = true) : tgr (tgr g) = g := by
  rw [tgr_of (gv_tgr h), tgr_of h]
  obtain ⟨ns, es⟩ := g
  simp only [List.map_map]
  have : turnE ∘ turnE = id := funext turnE_turnE
  rw [this, List.map_id]
theorem pick_turn (p q : Ed → Bool) (h : ∀ x, q (turnE x) = p x) (es : List Ed) : ∀ k, pick q (es.map turnE) k = pick p es k
  | 0 => rfl
  | k + 1 => by
    have ih := pick_turn p q h es k
    have e : ((es.map turnE)[k]?.map q) = es[k]?.map p := by
      rw [List.getElem?_map, Option.map_map]
      congr 1
      exact funext h
    unfold pick
    rw [e, ih]
theorem out_in {g : Gr} (h : gv g = true) (n : Int) : edgesOut g n = edgesIn (tgr g) n := by
  unfold edgesOut edgesIn
  rw [if_pos h, if_pos (gv_tgr h), tgr_of h]
  simp only [List.length_map]
  exact (pick_turn (byOut n) (byIn n) (fun _ => rfl) _ _).symm
theorem in_out {g : Gr} (h : gv g = true) (n : Int) : edgesIn g n = edgesOut (tgr g) n := by
  unfold edgesOut edgesIn
  rw [if_pos h, if_pos (gv_tgr h), tgr_of h]
  simp only [List.length_map]
  exact (pick_turn (byIn n) (byOut n) (fun _ => rfl) _ _).symm

/-- An edge that is left out and added again. -/
theorem gv_pre {g : Gr} (h : gv g = true) (k : Nat) : gv ⟨g.ns, g.es.take k⟩ = true := by
  rw [gv_iff] at *
  obtain ⟨h1, h2, h3⟩ := h
  exact ⟨by simp only [List.length_take]; omega, h2, fun e he => h3 e (List.mem_of_mem_take he)⟩
theorem more_last {g : Gr} {k : Nat} (hk : k + 1 = g.es.length) : more ⟨g.ns, g.es.take k⟩ [] [g.es[k]'(by omega)] = g := by
  obtain ⟨ns, es⟩ := g
  simp only at hk
  unfold more
  simp only [List.append_nil]
  congr 1
  rw [List.take_append_getElem]
  exact List.take_of_length_le (by omega)
theorem ext_last {g : Gr} (h : gv g = true) {k : Nat} (hk : k + 1 = g.es.length) : extOk ⟨g.ns, g.es.take k⟩ [] [g.es[k]'(by omega)] = true ∧ extR ⟨g.ns, g.es.take k⟩ [] [g.es[k]'(by omega)] = g := by
  have e : extOk ⟨g.ns, g.es.take k⟩ [] [g.es[k]'(by omega)] = true := by unfold extOk; rw [gv_pre h, more_last hk, h]; rfl
  exact ⟨e, by unfold extR; rw [if_pos e, more_last hk]⟩

/-- A node and an edge, in either order. -/
theorem ext_iff {g : Gr} {xs : List Nd} {ys : List Ed} : extOk g xs ys = true ↔ gv g = true ∧ gv (more g xs ys) = true := by unfold extOk; rw [Bool.and_eq_true]
theorem add_order {g : Gr} {e : Ed} {n : Nd} (h : extOk g [] [e] = true) : extOk (extR g [] [e]) [n] [] = extOk g [n] [] ∧
    (extOk g [n] [] = true → extOk (extR g [n] []) [] [e] = true ∧ extR (extR g [] [e]) [n] [] = extR (extR g [n] []) [] [e]) := by
  have hx : extR g [] [e] = more g [] [e] := by unfold extR; rw [if_pos h]
  obtain ⟨hg, hm⟩ := ext_iff.1 h
  obtain ⟨a1, a2, a3⟩ := gv_iff.1 hg
  obtain ⟨b1, b2, b3⟩ := gv_iff.1 hm
  unfold more at b1 b2 b3
  simp only [List.append_nil] at b1 b2 b3
  have hee := b3 e (by simp)
  have key : extOk g [n] [] = true → gv (more (more g [] [e]) [n] []) = true ∧ gv (more (more g [n] []) [] [e]) = true := fun hn => by
    obtain ⟨c1, c2, c3⟩ := gv_iff.1 (ext_iff.1 hn).2
    unfold more at c1 c2 c3
    simp only [List.append_nil, List.length_append, List.length_cons, List.length_nil] at c1 c2 c3 b1
    refine ⟨gv_iff.2 ⟨?_, ?_, ?_⟩, gv_iff.2 ⟨?_, ?_, ?_⟩⟩
    · simp only [more, List.append_nil, List.length_append, List.length_cons, List.length_nil]; omega
    · simpa only [more, List.append_nil] using c2
    · simp only [more, List.append_nil, List.length_append, List.length_cons, List.length_nil]
      exact fun x hx => edV_more (b3 x hx) (by omega)
    · simp only [more, List.append_nil, List.length_append, List.length_cons, List.length_nil]; omega
    · simpa only [more, List.append_nil] using c2
    · simp only [more, List.append_nil, List.length_append, List.length_cons, List.length_nil]
      exact fun x hx => edV_more (b3 x hx) (by omega)
  have back : extOk (more g [] [e]) [n] [] = true → extOk g [n] [] = true := fun hn => by
    obtain ⟨c1, c2, c3⟩ := gv_iff.1 (ext_iff.1 hn).2
    simp only [more, List.append_nil, List.length_append, List.length_cons, List.length_nil] at c1 c2 c3
    refine ext_iff.2 ⟨hg, gv_iff.2 ⟨?_, ?_, ?_⟩⟩
    · simp only [more, List.append_nil, List.length_append, List.length_cons, List.length_nil]; omega
    · simpa only [more, List.append_nil] using c2
    · simp only [more, List.append_nil, List.length_append, List.length_cons, List.length_nil]
      exact fun x hx => edV_more (a3 x hx) (by omega)
  rw [hx]
  refine ⟨?_, fun hn => ?_⟩
  · rw [Bool.eq_iff_iff]
    exact ⟨back, fun hn => ext_iff.2 ⟨hm, (key hn).1⟩⟩
  · have hy : extR g [n] [] = more g [n] [] := by unfold extR; rw [if_pos hn]
    have k1 : extOk (more g [] [e]) [n] [] = true := ext_iff.2 ⟨hm, (key hn).1⟩
    have k2 : extOk (more g [n] []) [] [e] = true := ext_iff.2 ⟨(ext_iff.1 hn).2, (key hn).2⟩
    rw [hy]
    refine ⟨k2, ?_⟩
    have u1 : extR (more g [] [e]) [n] [] = more (more g [] [e]) [n] [] := by unfold extR; rw [if_pos k1]
    have u2 : extR (more g [n] []) [] [e] = more (more g [n] []) [] [e] := by unfold extR; rw [if_pos k2]
    rw [u1, u2]
    simp [more]

/-- A node that is added is the last one, and without edges. -/
theorem pick_none {p : Ed → Bool} {es : List Ed} (h : ∀ e ∈ es, p e = false) : ∀ k, pick p es k = []
  | 0 => rfl
  | k + 1 => by
    have ih := pick_none h k
    unfold pick
    cases he : es[k]? with
    | none => simpa using ih
    | some x => simp [h x (List.mem_of_getElem? he), ih]
theorem ext_of {g : Gr} {xs : List Nd} {ys : List Ed} (h : extOk g xs ys = true) : extR g xs ys = more g xs ys ∧ gv (more g xs ys) = true ∧ gv g = true := ⟨by unfold extR; rw [if_pos h], (ext_iff.1 h).2, (ext_iff.1 h).1⟩
theorem add_node_alone {g : Gr} {n : Nd} (h : extOk g [n] [] = true) : edgesOut (more g [n] []) (g.ns.length : Int) = [] ∧ edgesIn (more g [n] []) (g.ns.length : Int) = [] := by
  obtain ⟨_, h2, h3⟩ := ext_of h
  obtain ⟨_, _, a3⟩ := gv_iff.1 h3
  unfold edgesOut edgesIn
  rw [if_pos h2, if_pos h2]
  constructor
  · refine pick_none (fun e he => ?_) _
    have := edV_iff.1 (a3 e (by simpa [more] using he))
    simp only [byOut, beq_eq_false_iff_ne]; omega
  · refine pick_none (fun e he => ?_) _
    have := edV_iff.1 (a3 e (by simpa [more] using he))
    simp only [byIn, beq_eq_false_iff_ne]; omega
end Go.Proofs.Ytchhobphockhhaa
