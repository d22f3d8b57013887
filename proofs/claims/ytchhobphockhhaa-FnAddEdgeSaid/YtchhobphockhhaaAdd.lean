/- impl.AddNode, impl.AddEdge. -/
import Derived.Test.YtchhobphockhhaaExt
import Derived.Test.YtchhobphockhhaaBox
namespace Go.Proofs.Ytchhobphockhhaa
open Go.RowKit

theorem slOne {α : Type} {sz : Nat} {enc : α → List Value} {B : Nat} {w : World} {b : Nat} {y : α} (hb : b < B) (h : ∀ j x, (enc y)[j]? = some x → w.cell? ⟨b, j, none⟩ = some x) : Sl sz enc B w (.slice (some ⟨b, 0, none⟩) 1 1) [y] := by
  refine ⟨_, 1, 1, rfl, rfl, Nat.le_refl _, by decide, fun i hi => ⟨b, 0, rfl, hb, fun j x hx => ?_⟩⟩
  simp at hi; subst hi
  rw [show 0 + 0 * sz + j = j by omega]; exact h j x hx
theorem slNil {α : Type} {sz : Nat} {enc : α → List Value} {B : Nat} {w : World} : Sl sz enc B w (.slice none 0 0) ([] : List α) :=
  ⟨none, 0, 0, rfl, rfl, Nat.le_refl _, Nat.zero_le _, fun i hi => by simp at hi⟩
theorem cell_new {w : World} {l : List Value} {T : TypeId} {b : Nat} (hb : b = w.heap.size) (j : Nat) (x : Value) (h : l[j]? = some x) : (w.alloc (.cells l.toArray T)).cell? ⟨b, j, none⟩ = some x := by
  subst hb; exact (World.cell?_alloc_at l.toArray T _ j rfl).trans (by simpa using h)

set_option maxRecDepth 100000 in
set_option maxHeartbeats 2000000 in
theorem addNode_any (g : Gr) (v : Value) (x : Nd) (B : Nat) (w : World) (hg : g.At B w v) (hB : B ≤ w.heap.size) (hok : g.Ok) (hx : x.Ok) :
    Calls Try.prog 35 #[v, .agg #[.string x.l, .int .i64 x.n]] w fun e w' => ∃ v' F1 F2, e = .returned (.tuple #[v', .bool (extOk g [x] [])]) ∧ (extR g [x] []).Own w.heap.size w' v' F1 F2 ∧ Below w.heap.size w w' := by
  have HG := Lib.hid hg
  have HX := Lib.hid hx
  clear hx
  obtain ⟨a, b, rfl, ha, hb⟩ := hg
  obtain ⟨pa, ca, rfl⟩ := ha.form
  obtain ⟨p, cap, rfl⟩ := hb.form
  clear ha hb
  obtain ⟨T, eT⟩ : ∃ T, T = extOk g [x] [] := ⟨_, rfl⟩
  obtain ⟨R, eR⟩ : ∃ R, R = extR g [x] [] := ⟨_, rfl⟩
  have HE := Lib.hid (fun (v : Value) (vn : Value) (ve : Value) (B : Nat) (w : World) (hg : g.At B w v) (hxs : Sl 2 Nd.cells B w vn [x]) (hys : Sl 4 Ed.cells B w ve []) (hB : B ≤ w.heap.size) => eR ▸ eT ▸ extendGraph_any g v [x] vn [] ve B w hg hxs hys hB hok (by simp) (by simp) (by simpa using HX.out) (by simp))
  rw [← eT, ← eR]
  clear eT eR
  go_enter Try.func35, Try.ntmps35
  go_wp2_with fail
  have HV := Lib.hid ((((((Below.refl w.heap.size w).alloc (by simp) (.cells #[.slice pa g.ns.length ca, .slice p g.es.length cap] 55)).alloc (by simp) (.cells #[.string x.l, .int .i64 x.n] 64)).alloc (by simp <;> omega) (.cells #[.slice none 0 0, .slice none 0 0] 55))).alloc (by simp <;> omega) (.cells #[.string x.l, .int .i64 x.n] 64))
  refine (HE.out _ (.slice (some ⟨w.heap.size + 3, 0, none⟩) 1 1) (.slice none 0 0) (w.heap.size + 4) _ ((HG.out.below (HV.out.mono hB)).mono (by omega)) (slOne (B := w.heap.size + 4) (b := w.heap.size + 3) (by omega) (fun j y hy => cell_new (l := x.cells) (by simp) j y hy)) (slNil) (by simp)).mono ?_
  rintro e w1 ⟨v1, F1, F2, rfl, ho1, hb1⟩
  have hs1 : w.heap.size + 4 ≤ w1.heap.size := by have := hb1.size; simp at this; omega
  have r0 : w1.cell? ⟨w.heap.size + 1 + 1, 0, none⟩ = some (.slice none 0 0) := (hb1.cell (by simp)).trans (by simp [go_sem])
  have r1 : w1.cell? ⟨w.heap.size + 1 + 1, 1, none⟩ = some (.slice none 0 0) := (hb1.cell (by simp)).trans (by simp [go_sem])
  have r2 : w1.frozen? ⟨w.heap.size + 1 + 1, 0, none⟩ = false := (hb1.frozen (by simp)).trans (by simp [go_sem])
  have r3 : w1.frozen? ⟨w.heap.size + 1 + 1, 1, none⟩ = false := (hb1.frozen (by simp)).trans (by simp [go_sem])
  have HB1 := Lib.hid (HV.out.trans (hb1.mono (by simp; omega)))
  have HO1 := Lib.hid ho1
  have LO := Lib.hid ho1.lo
  obtain ⟨x1, x2, rfl, hx1, hx2, _⟩ := ho1
  obtain ⟨p1, c1, rfl⟩ := hx1.sl.form
  obtain ⟨p2, c2, rfl⟩ := hx2.sl.form
  clear hx1 hx2 hb1
  go_wp2_with fail
  have hch : Chg [w.heap.size + 1 + 1] w1 ((w1.setCell ⟨w.heap.size + 1 + 1, 0, none⟩ (.slice p1 R.ns.length c1)).setCell ⟨w.heap.size + 1 + 1, 1, none⟩ (.slice p2 R.es.length c2)) := ((Chg.refl _ w1).setCell (by simp) _).setCell (by simp) _
  refine bodyPost_ret (v := .tuple #[.agg #[.slice p1 R.ns.length c1, .slice p2 R.es.length c2], .bool T]) (by simp [results, Try.results35, go_sem, r0, r1]) rfl ⟨_, F1, F2, rfl, (HO1.out.chg hch ?_ ?_).mono (by simp; omega), (HB1.out.setCell (by simp; omega) _).setCell (by simp; omega) _⟩
  · intro y hy; have := LO.out y (List.mem_append_left _ hy); simp at this; simp; omega
  · intro y hy; have := LO.out y (List.mem_append_right _ hy); simp at this; simp; omega

set_option maxRecDepth 100000 in
set_option maxHeartbeats 2000000 in
theorem addEdge_any (g : Gr) (v : Value) (x : Ed) (B : Nat) (w : World) (hg : g.At B w v) (hB : B ≤ w.heap.size) (hok : g.Ok) (hx : x.Ok) :
    Calls Try.prog 32 #[v, .agg #[.int .i64 x.f, .int .i64 x.t, .string x.l, .int .i64 x.n]] w fun e w' => ∃ v' F1 F2, e = .returned (.tuple #[v', .bool (extOk g [] [x])]) ∧ (extR g [] [x]).Own w.heap.size w' v' F1 F2 ∧ Below w.heap.size w w' := by
  have HG := Lib.hid hg
  have HX := Lib.hid hx
  clear hx
  obtain ⟨a, b, rfl, ha, hb⟩ := hg
  obtain ⟨pa, ca, rfl⟩ := ha.form
  obtain ⟨p, cap, rfl⟩ := hb.form
  clear ha hb
  obtain ⟨T, eT⟩ : ∃ T, T = extOk g [] [x] := ⟨_, rfl⟩
  obtain ⟨R, eR⟩ : ∃ R, R = extR g [] [x] := ⟨_, rfl⟩
  have HE := Lib.hid (fun (v : Value) (vn : Value) (ve : Value) (B : Nat) (w : World) (hg : g.At B w v) (hxs : Sl 2 Nd.cells B w vn []) (hys : Sl 4 Ed.cells B w ve [x]) (hB : B ≤ w.heap.size) => eR ▸ eT ▸ extendGraph_any g v [] vn [x] ve B w hg hxs hys hB hok (by simp) (by simp) (by simp) (by simpa using HX.out))
  rw [← eT, ← eR]
  clear eT eR
  go_enter Try.func32, Try.ntmps32
  go_wp2_with fail
  have HV := Lib.hid ((((((Below.refl w.heap.size w).alloc (by simp) (.cells #[.slice pa g.ns.length ca, .slice p g.es.length cap] 55)).alloc (by simp) (.cells #[.int .i64 x.f, .int .i64 x.t, .string x.l, .int .i64 x.n] 57)).alloc (by simp <;> omega) (.cells #[.slice none 0 0, .slice none 0 0] 55))).alloc (by simp <;> omega) (.cells #[.int .i64 x.f, .int .i64 x.t, .string x.l, .int .i64 x.n] 57))
  refine (HE.out _ (.slice none 0 0) (.slice (some ⟨w.heap.size + 3, 0, none⟩) 1 1) (w.heap.size + 4) _ ((HG.out.below (HV.out.mono hB)).mono (by omega)) (slNil) (slOne (B := w.heap.size + 4) (b := w.heap.size + 3) (by omega) (fun j y hy => cell_new (l := x.cells) (by simp) j y hy)) (by simp)).mono ?_
  rintro e w1 ⟨v1, F1, F2, rfl, ho1, hb1⟩
  have hs1 : w.heap.size + 4 ≤ w1.heap.size := by have := hb1.size; simp at this; omega
  have r0 : w1.cell? ⟨w.heap.size + 1 + 1, 0, none⟩ = some (.slice none 0 0) := (hb1.cell (by simp)).trans (by simp [go_sem])
  have r1 : w1.cell? ⟨w.heap.size + 1 + 1, 1, none⟩ = some (.slice none 0 0) := (hb1.cell (by simp)).trans (by simp [go_sem])
  have r2 : w1.frozen? ⟨w.heap.size + 1 + 1, 0, none⟩ = false := (hb1.frozen (by simp)).trans (by simp [go_sem])
  have r3 : w1.frozen? ⟨w.heap.size + 1 + 1, 1, none⟩ = false := (hb1.frozen (by simp)).trans (by simp [go_sem])
  have HB1 := Lib.hid (HV.out.trans (hb1.mono (by simp; omega)))
  have HO1 := Lib.hid ho1
  have LO := Lib.hid ho1.lo
  obtain ⟨x1, x2, rfl, hx1, hx2, _⟩ := ho1
  obtain ⟨p1, c1, rfl⟩ := hx1.sl.form
  obtain ⟨p2, c2, rfl⟩ := hx2.sl.form
  clear hx1 hx2 hb1
  go_wp2_with fail
  have hch : Chg [w.heap.size + 1 + 1] w1 ((w1.setCell ⟨w.heap.size + 1 + 1, 0, none⟩ (.slice p1 R.ns.length c1)).setCell ⟨w.heap.size + 1 + 1, 1, none⟩ (.slice p2 R.es.length c2)) := ((Chg.refl _ w1).setCell (by simp) _).setCell (by simp) _
  refine bodyPost_ret (v := .tuple #[.agg #[.slice p1 R.ns.length c1, .slice p2 R.es.length c2], .bool T]) (by simp [results, Try.results32, go_sem, r0, r1]) rfl ⟨_, F1, F2, rfl, (HO1.out.chg hch ?_ ?_).mono (by simp; omega), (HB1.out.setCell (by simp; omega) _).setCell (by simp; omega) _⟩
  · intro y hy; have := LO.out y (List.mem_append_left _ hy); simp at this; simp; omega
  · intro y hy; have := LO.out y (List.mem_append_right _ hy); simp at this; simp; omega
end Go.Proofs.Ytchhobphockhhaa
