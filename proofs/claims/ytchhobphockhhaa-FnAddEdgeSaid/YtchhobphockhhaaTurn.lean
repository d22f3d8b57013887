/- impl.TurnGraph. -/
import Derived.Test.YtchhobphockhhaaConcat
namespace Go.Proofs.Ytchhobphockhhaa
open Go.RowKit

def turnE (x : Ed) : Ed := ⟨x.t, x.f, x.l, x.n⟩
def tgr (g : Gr) : Gr := if gv g then ⟨g.ns, g.es.map turnE⟩ else ⟨[], []⟩
theorem row_form {w : World} {base : Nat} {e : TypeId} {size : Nat} {v : Value} {n : Nat} {xs : List Value} (h : w.ownsRow base e size v n xs) : ∃ p c, v = .slice p n c := by
  rcases h.2 with ⟨rfl, rfl⟩ | ⟨g, cap, cur, rfl, _⟩
  · exact ⟨none, 0, rfl⟩
  · exact ⟨_, _, rfl⟩
theorem gv_ns {g : Gr} (h : gv g = true) : g.ns.length ≤ 8 := by
  unfold gv at h
  simp only [Bool.and_eq_true, decide_eq_true_eq] at h
  omega
theorem Gr.Own.empty (lo : Nat) (w : World) : (⟨[], []⟩ : Gr).Own lo w (.agg #[.slice none 0 0, .slice none 0 0]) [] [] :=
  ⟨_, _, rfl, ⟨none, 0, 0, rfl, rfl, Nat.le_refl _, Nat.zero_le _, .inl ⟨rfl, rfl⟩⟩, ⟨none, 0, 0, rfl, rfl, Nat.le_refl _, Nat.zero_le _, .inl ⟨rfl, rfl⟩⟩, by simp, by simp, by simp⟩

set_option maxRecDepth 100000 in
set_option maxHeartbeats 2000000 in
theorem turnGraph_any (g : Gr) (v : Value) (B : Nat) (w : World) (hg : g.At B w v) (hB : B ≤ w.heap.size) (hok : g.Ok) :
    Calls Try.prog 37 #[v] w fun e w' => ∃ v' F1 F2, e = .returned (.tuple #[v', .bool (gv g)]) ∧ (tgr g).Own w.heap.size w' v' F1 F2 ∧ Below w.heap.size w w' := by
  have HG := Lib.hid hg
  obtain ⟨a, b, rfl, ha, hb⟩ := hg
  obtain ⟨pa, ca, rfl⟩ := ha.form
  obtain ⟨p, cap, rfl⟩ := hb.form
  have hm := hb.max
  unfold maxLen at hm
  obtain ⟨i0, hi, hz0, hz1, hz2⟩ := info_parts infoEdge
  go_enter Try.func37, Try.ntmps37
  go_wp2_with fail
  have HV := Lib.hid (((Below.refl w.heap.size w).alloc (by simp) (.cells #[.slice pa g.ns.length ca, .slice p g.es.length cap] 55)).alloc (by simp) (.cells #[.slice none 0 0, .slice none 0 0] 55))
  have HA0 := Lib.hid (Below.refl (w.heap.size + 2) ((w.alloc (.cells #[.slice pa g.ns.length ca, .slice p g.es.length cap] 55)).alloc (.cells #[.slice none 0 0, .slice none 0 0] 55)))
  refine (graphValid_any g _ B _ (HG.out.below (HV.out.mono hB)) (by simp; omega) hok).mono ?_
  rintro e w1 ⟨rfl, hb1⟩
  have HA1 := Lib.hid (HA0.out.trans (hb1.mono (by simp)))
  clear hb1
  have HB1 := Lib.hid (HV.out.trans (HA1.out.mono (by omega)))
  obtain ⟨hs1, c0, c1, c2, c3⟩ := two_boxes HA1.out
  have f2 : w1.frozen? ⟨w.heap.size + 1, 0, none⟩ = false := (HA1.out.frozen (by simp)).trans (by simp [go_sem])
  have f3 : w1.frozen? ⟨w.heap.size + 1, 1, none⟩ = false := (HA1.out.frozen (by simp)).trans (by simp [go_sem])
  cases hgv : gv g with
  | false =>
    have HT := Lib.hid (show tgr g = ⟨[], []⟩ by unfold tgr; rw [hgv]; rfl)
    go_wp2_with fail
    refine bodyPost_ret (v := .tuple #[.agg #[.slice none 0 0, .slice none 0 0], .bool false]) (by simp [results, Try.results37, go_sem, c2, c3]) rfl ⟨_, [], [], by rw [hgv], by rw [HT.out]; exact Gr.Own.empty _ _, (HB1.out.setCell (by simp) _).setCell (by simp) _⟩
  | true =>
    have h14 := gv_len hgv
    have h8 := gv_ns hgv
    have HT := Lib.hid (show tgr g = ⟨g.ns, g.es.map turnE⟩ by unfold tgr; rw [hgv]; rfl)
    have t0 : w.heap.size < w1.heap.size := by omega
    go_wp2_with fail
    have HCB := Lib.hid (HB1.out.alloc (by omega) (.cells #[.slice pa g.ns.length ca] 52))
    refine (concatNode_any [(.slice pa g.ns.length ca, g.ns)] w1.heap.size 1 B _ (fun i hi => by
        obtain rfl : i = 0 := by simp at hi; omega
        simp [go_sem]) (fun i hi => by
        obtain rfl : i = 0 := by simp at hi; omega
        exact ha.below (HCB.out.mono hB)) (by simp; omega) (by simp) (by simp [upTo]; omega) (by simp)).mono ?_
    rintro e w2 ⟨v2, F1, rfl, ho2, hf2, hb2⟩
    have hj : joined [((.slice pa g.ns.length ca : Value), g.ns)] [((.slice pa g.ns.length ca : Value), g.ns)].length = g.ns := by simp [joined]
    rw [hj] at ho2
    have hs2 : w1.heap.size < w2.heap.size := by have := hb2.size; simp at this; omega
    have HO2 := Lib.hid ho2
    have HF2 := Lib.hid (show ∀ x ∈ F1, w1.heap.size ≤ x from fun x hx => by have := hf2 x hx; simp at this; omega)
    have HA2 := Lib.hid (HA1.out.trans ((below_past hb2).mono (by omega)))
    have HB2 := Lib.hid (HB1.out.trans ((below_past hb2).mono (by omega)))
    have hb2' := below_past hb2
    have f2' : w2.frozen? ⟨w.heap.size + 1, 0, none⟩ = false := (hb2'.frozen (p := ⟨w.heap.size + 1, 0, none⟩) (by show w.heap.size + 1 < w1.heap.size; omega)).trans f2
    have f3' : w2.frozen? ⟨w.heap.size + 1, 1, none⟩ = false := (hb2'.frozen (p := ⟨w.heap.size + 1, 1, none⟩) (by show w.heap.size + 1 < w1.heap.size; omega)).trans f3
    clear hb2 hb2' hf2 c0 c1 c2 c3 f2 f3 t0
    obtain ⟨pn, cn, rfl⟩ := ho2.sl.form
    clear ho2 hj
    obtain ⟨hs2', c0, c1, c2, c3⟩ := two_boxes HA2.out
    have t0 : w.heap.size < w2.heap.size := by omega
    go_wp2_with fail
    clear c0 c1 t0
    have HP0 := Lib.hid (Below.refl w2.heap.size w2)
    go_loopw [19] (fun i wr => ∃ (k : Nat) (q : Option Addr) (c : Nat), k ≤ g.es.length ∧ i = .int .i64 k ∧ wr.cell? ⟨w2.heap.size, 0, none⟩ = some (.slice pn g.ns.length cn) ∧ wr.cell? ⟨w2.heap.size, 1, none⟩ = some (.slice q k c) ∧
        wr.frozen? ⟨w2.heap.size, 1, none⟩ = false ∧ wr.ownsRow (w2.heap.size + 1) 57 4 (.slice q k c) k (flat Ed.cells ((g.es.take k).map turnE)) ∧ Below w2.heap.size w2 wr ∧ w2.heap.size + 1 ≤ wr.heap.size) (fun i _ => g.es.length - (intOf i).toNat)
    case atStart => exact ⟨0, none, 0, Nat.zero_le _, rfl, by simp [go_sem], by simp [go_sem], by simp [go_sem], World.ownsRow_nil _ _ _ _, (Below.refl _ _).alloc (Nat.le_refl _) _, by simp⟩
    case round =>
      obtain ⟨k, q, c, hk, rfl, d0, d1, z1, hown, hbw, hsz⟩ := hrel
      have HB := Lib.hid hbw
      have HOW := Lib.hid hown
      have HBB := Lib.hid (HB2.out.trans (hbw.mono (by omega)))
      have hkm : k ≤ 14 := by omega
      clear hbw hown
      by_cases hlt : k < g.es.length
      · obtain ⟨b, off, rfl, hbb, e0, e1, e2, e3⟩ := (hb.below (HBB.out.mono hB)).ed hlt
        have hT := Lib.hid (show (g.es.take (k + 1)).map turnE = (g.es.take k).map turnE ++ [turnE g.es[k]] by rw [List.take_succ_eq_append_getElem hlt, List.map_append]; rfl)
        obtain ⟨x, ex⟩ : ∃ x, x = g.es[k] := ⟨_, rfl⟩
        rw [← ex] at e0 e1 e2 e3 hT
        clear ex
        have tw : w2.heap.size < wr.heap.size := by omega
        go_wp2_with (at_builtin; refine wpList_append_own _ rfl _ _ 53 rfl (w2.heap.size + 1) 57 i0 _ 4 40 Try.underlying53 hi hz0 hz1 hz2 rfl (by decide) _ _ _ rfl ((HOW.out.alloc _).alloc _) ⟨wr.heap.size + 1, 0, none⟩ 1 1 [.int .i64 x.t, .int .i64 x.f, .string x.l, .int .i64 x.n] rfl rfl ?c1 ?c2 ?c3 ?c4 ?c5 ?_)
        case c1 =>
          intro j u hj
          match j, hj with
          | 0, hj => simp at hj; subst hj; simp [Addr.add, go_sem]
          | 1, hj => simp at hj; subst hj; simp [Addr.add, go_sem]
          | 2, hj => simp at hj; subst hj; simp [Addr.add, go_sem]
          | 3, hj => simp at hj; subst hj; simp [Addr.add, go_sem]
        case c2 => intro u hu; simp at hu; rcases hu with rfl | rfl | rfl | rfl <;> rfl
        case c3 => unfold maxLen; omega
        case c4 => omega
        case c5 => simp; omega
        intro v' w3 hown3 hgrow _
        have hK := (((Below.refl (w2.heap.size + 1) wr).alloc hsz (.cells #[.int .i64 x.f, .int .i64 x.t, .string x.l, .int .i64 x.n] 57)).alloc (by simp; omega) (.cells #[.int .i64 x.t, .int .i64 x.f, .string x.l, .int .i64 x.n] 57)).grown hgrow (by simp; omega) (fun r hr => (HOW.out.lt r hr).1)
        have d0' := keepc hK (by omega) d0
        have d1' := keepc hK (by omega) d1
        have z1' := (hK.frozen (p := ⟨w2.heap.size, 1, none⟩) (by show w2.heap.size < w2.heap.size + 1; omega)).trans z1
        have hs3 : w2.heap.size + 1 ≤ w3.heap.size := Nat.le_trans hsz hK.size
        have HB3 := Lib.hid (HB.out.trans (hK.mono (by omega)))
        obtain ⟨q', c', rfl⟩ := row_form hown3
        have HO3 := Lib.hid (show w3.ownsRow (w2.heap.size + 1) 57 4 (.slice q' (k + 1) c') (k + 1) (flat Ed.cells ((g.es.take (k + 1)).map turnE)) by rw [hT.out, flat_append]; simpa [flat, turnE, Ed.cells] using hown3)
        clear hown3 hgrow hK d0 d1 z1 e0 e1 e2 e3
        go_wp2_with fail
        go_roundw
        case rel => exact ⟨k + 1, q', c', by omega, by go_num, (set_near _ _ _ _ _ (by omega)).trans d0', set_same _ _ _ _ _ d1', by simpa [go_sem] using z1', ownsRow_setCell_below HO3.out (by show w2.heap.size < w2.heap.size + 1; omega) _, HB3.out.setCell (Nat.le_refl _) _, by simpa using hs3⟩
        case measure => simp [intOf]; omega
      · obtain rfl : k = g.es.length := by omega
        have r2 := keepc HB.out (by omega) c2
        have r3 := keepc HB.out (by omega) c3
        have r4 := (HB.out.frozen (p := ⟨w.heap.size + 1, 0, none⟩) (by show w.heap.size + 1 < w2.heap.size; omega)).trans f2'
        have r5 := (HB.out.frozen (p := ⟨w.heap.size + 1, 1, none⟩) (by show w.heap.size + 1 < w2.heap.size; omega)).trans f3'
        go_wp2_with fail
        obtain ⟨F2, h1, h2⟩ := own_of_flat (enc := Ed.cells) (sz := 4) (fun _ => rfl) (n := g.es.length) (xs := g.es.map turnE) (by simp) (by have := HOW.out; rwa [List.take_of_length_le (Nat.le_refl _)] at this)
        refine bodyPost_ret (v := .tuple #[.agg #[.slice pn g.ns.length cn, .slice q g.es.length c], .bool true]) (by simp [results, Try.results37, go_sem, r2, r3]) rfl ⟨_, F1, F2, by rw [hgv], ?_, (HBB.out.setCell (by simp) _).setCell (by simp) _⟩
        have hch : Chg [w.heap.size + 1] wr ((wr.setCell ⟨w.heap.size + 1, 0, none⟩ (.slice pn g.ns.length cn)).setCell ⟨w.heap.size + 1, 1, none⟩ (.slice q g.es.length c)) := ((Chg.refl _ wr).setCell (by simp) _).setCell (by simp) _
        rw [HT.out]
        have l1 := HO2.out.lt
        refine ⟨_, _, rfl, (HO2.out.chg (Chg.of_below HB.out []) (by simp)).chg hch ?_, h1.chg hch ?_, ?_, ?_, ?_⟩
        · intro x hx; have := HF2.out x hx; simp; omega
        · intro x hx; have := h2 x hx; simp; omega
        · intro x hx; have := HF2.out x hx; omega
        · intro x hx; have := h2 x hx; omega
        · intro x hx hx2; have := l1 x hx; have := h2 x hx2; omega
end Go.Proofs.Ytchhobphockhhaa
