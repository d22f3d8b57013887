/- impl.extendWalk. -/
import Derived.Test.YtchhobphockhhaaWkT
namespace Go.Proofs.Ytchhobphockhhaa
open Go.RowKit

/-- A block of two cells. -/
def Pr (w : World) (b : Nat) (u v : Value) : Prop := w.cell? ⟨b, 0, none⟩ = some u ∧ w.cell? ⟨b, 1, none⟩ = some v
theorem Pr.keep {w w' : World} {B b : Nat} {u v : Value} (hb : Below B w w') (h : b < B) (hp : Pr w b u v) : Pr w' b u v := ⟨keepc hb h hp.1, keepc hb h hp.2⟩
def wkExt (x : Wk) (ns es : List Int) : Wk := ⟨x.ns ++ ns, x.es ++ es⟩
theorem concat2 (xs ys : List Int) (u v : Value) (B : Nat) (E : World) (b : Nat) (hu : Sl 1 intCells B E u xs) (hv : Sl 1 intCells B E v ys) (hB : B ≤ E.heap.size) (hp : Pr E b u v) (hl : xs.length + ys.length ≤ 3000000) :
    Calls Try.prog 99 #[.slice (some ⟨b, 0, none⟩) 2 2] E fun e w' => ∃ v' F, e = .returned v' ∧ OwnSl 1 intCells w' v' (xs ++ ys) F ∧ (∀ y ∈ F, E.heap.size ≤ y) ∧ Below E.heap.size E w' := by
  have h := concatInt_any [(u, xs), (v, ys)] b 2 B E (fun i hi => by
    match i, hi with
    | 0, _ => exact hp.1
    | 1, _ => exact hp.2) (fun i hi => by
    match i, hi with
    | 0, _ => exact hu
    | 1, _ => exact hv) hB (by simp) (by simp [upTo]; omega) (World.block_lt_of_cell? E _ hp.1)
  have hj : joined [(u, xs), (v, ys)] [(u, xs), (v, ys)].length = xs ++ ys := by simp [joined]
  rw [hj] at h
  exact h

set_option maxRecDepth 100000 in
set_option maxHeartbeats 16000000 in
theorem extendWalk_any (x : Wk) (ns es : List Int) (v vn ve : Value) (B : Nat) (w : World) (hx : x.At B w v) (hns : Sl 1 intCells B w vn ns) (hes : Sl 1 intCells B w ve es) (hB : B ≤ w.heap.size) (hn : x.need ≤ 1048576) (hn1 : ns.length ≤ 1048576) (hn2 : es.length ≤ 1048576) :
    Calls Try.prog 57 #[v, vn, ve] w fun e w' => ∃ v' F, e = .returned v' ∧ (wkExt x ns es).Has v' F w' ∧ (∀ y ∈ F, w.heap.size ≤ y) ∧ Below w.heap.size w w' := by
  obtain ⟨a, b, rfl, ha, hb⟩ := hx
  obtain ⟨p, cp, rfl⟩ := ha.form
  obtain ⟨q, cq, rfl⟩ := hb.form
  obtain ⟨pn, cn, rfl⟩ := hns.form
  obtain ⟨pe, ce, rfl⟩ := hes.form
  have H1 := Lib.hid ha
  have H2 := Lib.hid hb
  have H3 := Lib.hid hns
  have H4 := Lib.hid hes
  have hl1 : x.ns.length ≤ 1048576 := by unfold Wk.need at hn; omega
  have hl2 : x.es.length ≤ 1048576 := by unfold Wk.need at hn; omega
  clear ha hb hn hns hes
  obtain ⟨W, eW⟩ : ∃ W, W = (w.alloc (.cells #[.slice p x.ns.length cp, .slice q x.es.length cq] 25)).alloc (.cells #[.slice none 0 0, .slice none 0 0] 25) := ⟨_, rfl⟩
  have HV := Lib.hid (show Below w.heap.size w W by rw [eW]; exact two_more (Nat.le_refl _) _ _)
  have hs0 : w.heap.size + 2 ≤ W.heap.size := by rw [eW]; simp
  have HK := Lib.hid (show ∀ wk, Below W.heap.size W wk → w.heap.size + 2 ≤ wk.heap.size ∧ wk.cell? ⟨w.heap.size, 0, none⟩ = some (.slice p x.ns.length cp) ∧ wk.cell? ⟨w.heap.size, 1, none⟩ = some (.slice q x.es.length cq) ∧ wk.cell? ⟨w.heap.size + 1, 0, none⟩ = some (.slice none 0 0) ∧ wk.cell? ⟨w.heap.size + 1, 1, none⟩ = some (.slice none 0 0) from
    fun wk hk => by rw [eW] at hk; exact two_boxes (hk.mono (by simp)))
  have HKA := Lib.hid (show ∀ wk, Below (w.heap.size + 1) W wk → wk.cell? ⟨w.heap.size, 0, none⟩ = some (.slice p x.ns.length cp) ∧ wk.cell? ⟨w.heap.size, 1, none⟩ = some (.slice q x.es.length cq) from
    fun wk hk => ⟨keepc hk (by omega) (HK.out _ (Below.refl _ _)).2.1, keepc hk (by omega) (HK.out _ (Below.refl _ _)).2.2.1⟩)
  have HKF := Lib.hid (show ∀ wk, Below W.heap.size W wk → ∀ o, wk.frozen? ⟨w.heap.size + 1, o, none⟩ = false from
    fun wk hk o => by
      rw [eW] at hk
      exact (hk.frozen (p := ⟨w.heap.size + 1, o, none⟩) (by simp)).trans (World.frozen?_alloc_at _ _ _ _ (by simp)))
  have CN := Lib.hid (fun (E : World) (hE : Below W.heap.size W E) (bb : Nat) (hp : Pr E bb (.slice p x.ns.length cp) (.slice pn ns.length cn)) => concat2 x.ns ns _ _ B E bb (H1.out.below ((HV.out.mono hB).trans (hE.mono (by omega)))) (H3.out.below ((HV.out.mono hB).trans (hE.mono (by omega)))) (by have := hE.size; omega) hp (by omega))
  have CE := Lib.hid (fun (E : World) (hE : Below W.heap.size W E) (bb : Nat) (hp : Pr E bb (.slice q x.es.length cq) (.slice pe es.length ce)) => concat2 x.es es _ _ B E bb (H2.out.below ((HV.out.mono hB).trans (hE.mono (by omega)))) (H4.out.below ((HV.out.mono hB).trans (hE.mono (by omega)))) (by have := hE.size; omega) hp (by omega))
  have EW := Lib.hid eW
  clear eW
  go_enter Try.func57, Try.ntmps57
  go_wp2_with fail
  rw [← EW.out]
  have rr0 := Below.refl W.heap.size W
  have rr1 := Below.refl (w.heap.size + 1) W
  go_region_held3 (fun w' => w'.cell? ⟨w.heap.size, 0, none⟩ = some (.slice p x.ns.length cp) ∧ w'.cell? ⟨w.heap.size, 1, none⟩ = some (.slice q x.es.length cq))
    (exact HKA.out _ (show Below (w.heap.size + 1) W _ by ((repeat (first | with_reducible assumption | with_reducible exact Below.refl _ _ | refine Below.setCell ?_ (by (first | omega | (simp; omega) | (simp; done) | fail "sml")) _ | refine Below.drew ?_ | refine Below.alloc ?_ (by (first | omega | (simp; omega) | (simp; done) | fail "sml")) _)); first | done | fail "chs")))
    (first
      | (go_at_call 99; with_reducible refine Calls.mono (CN.out _ ?_ _ ?_) ?_; (· ((repeat (first | with_reducible assumption | with_reducible exact Below.refl _ _ | refine Below.setCell ?_ (by (first | omega | (simp; omega) | (simp; done) | fail "sml")) _ | refine Below.drew ?_ | refine Below.alloc ?_ (by (first | omega | (simp; omega) | (simp; done) | fail "sml")) _)); first | done | fail "chs")); (· (first | with_reducible assumption | (unfold Pr; constructor <;> (simp [go_sem]; done)) | fail "pr")); rintro en w1 ⟨v1, F1, rfl, ho1, hf1, hb1⟩; have hk1 := Below.trans (show Below W.heap.size W _ by ((repeat (first | with_reducible assumption | with_reducible exact Below.refl _ _ | refine Below.setCell ?_ (by (first | omega | (simp; omega) | (simp; done) | fail "sml")) _ | refine Below.drew ?_ | refine Below.alloc ?_ (by (first | omega | (simp; omega) | (simp; done) | fail "sml")) _)); first | done | fail "chs")) (hb1.mono (by (first | omega | (simp; omega) | (simp; done) | fail "sml"))); have z1 := hk1.size; have hk1s := hk1.mono (show w.heap.size + 1 ≤ W.heap.size by omega); obtain ⟨y0, _, _, y1, y2⟩ := HK.out _ hk1; have y3 := HKF.out _ hk1 0; have y4 := HKF.out _ hk1 1; have r1 := Below.refl w1.heap.size w1; (first | (have r12 := Below.trans (show Below w2.heap.size w2 _ by ((repeat (first | with_reducible assumption | with_reducible exact Below.refl _ _ | refine Below.setCell ?_ (by (first | omega | (simp; omega) | (simp; done) | fail "sml")) _ | refine Below.drew ?_ | refine Below.alloc ?_ (by (first | omega | (simp; omega) | (simp; done) | fail "sml")) _)); first | done | fail "chs")) (hb1.mono (by (first | omega | (simp; omega) | (simp; done) | fail "sml")))) | skip); (first | (have ue0 := Pr.keep (u := (.slice q x.es.length cq)) (v := (.slice pe es.length ce)) (b := W.heap.size) hb1 (by (first | omega | (simp; omega) | (simp; done) | fail "sml")) (by (first | with_reducible assumption | (unfold Pr; constructor <;> (simp [go_sem]; done)) | fail "pr"))) | skip); (first | (have ue1 := Pr.keep (u := (.slice q x.es.length cq)) (v := (.slice pe es.length ce)) (b := W.heap.size + 1) hb1 (by (first | omega | (simp; omega) | (simp; done) | fail "sml")) (by (first | with_reducible assumption | (unfold Pr; constructor <;> (simp [go_sem]; done)) | fail "pr"))) | skip); obtain ⟨p1, q1, rfl⟩ := ho1.sl.form; rw [List.length_append] at ho1; have O1 := Lib.hid ho1; have G1 := Lib.hid (show ∀ y ∈ F1, W.heap.size ≤ y from fun y hy => by have h1 := hf1 y hy; (try simp at h1); omega); have D1 := Lib.hid hf1; clear ho1 hf1 hb1)
      | (go_at_call 99; with_reducible refine Calls.mono (CE.out _ ?_ _ ?_) ?_; (· ((repeat (first | with_reducible assumption | with_reducible exact Below.refl _ _ | refine Below.setCell ?_ (by (first | omega | (simp; omega) | (simp; done) | fail "sml")) _ | refine Below.drew ?_ | refine Below.alloc ?_ (by (first | omega | (simp; omega) | (simp; done) | fail "sml")) _)); first | done | fail "chs")); (· (first | with_reducible assumption | (unfold Pr; constructor <;> (simp [go_sem]; done)) | fail "pr")); rintro en w2 ⟨v2, F2, rfl, ho2, hf2, hb2⟩; have hk2 := Below.trans (show Below W.heap.size W _ by ((repeat (first | with_reducible assumption | with_reducible exact Below.refl _ _ | refine Below.setCell ?_ (by (first | omega | (simp; omega) | (simp; done) | fail "sml")) _ | refine Below.drew ?_ | refine Below.alloc ?_ (by (first | omega | (simp; omega) | (simp; done) | fail "sml")) _)); first | done | fail "chs")) (hb2.mono (by (first | omega | (simp; omega) | (simp; done) | fail "sml"))); have z2 := hk2.size; have hk2s := hk2.mono (show w.heap.size + 1 ≤ W.heap.size by omega); obtain ⟨x0, _, _, x1, x2⟩ := HK.out _ hk2; have x3 := HKF.out _ hk2 0; have x4 := HKF.out _ hk2 1; have r2 := Below.refl w2.heap.size w2; (first | (have r21 := Below.trans (show Below w1.heap.size w1 _ by ((repeat (first | with_reducible assumption | with_reducible exact Below.refl _ _ | refine Below.setCell ?_ (by (first | omega | (simp; omega) | (simp; done) | fail "sml")) _ | refine Below.drew ?_ | refine Below.alloc ?_ (by (first | omega | (simp; omega) | (simp; done) | fail "sml")) _)); first | done | fail "chs")) (hb2.mono (by (first | omega | (simp; omega) | (simp; done) | fail "sml")))) | skip); (first | (have un0 := Pr.keep (u := (.slice p x.ns.length cp)) (v := (.slice pn ns.length cn)) (b := W.heap.size) hb2 (by (first | omega | (simp; omega) | (simp; done) | fail "sml")) (by (first | with_reducible assumption | (unfold Pr; constructor <;> (simp [go_sem]; done)) | fail "pr"))) | skip); (first | (have un1 := Pr.keep (u := (.slice p x.ns.length cp)) (v := (.slice pn ns.length cn)) (b := W.heap.size + 1) hb2 (by (first | omega | (simp; omega) | (simp; done) | fail "sml")) (by (first | with_reducible assumption | (unfold Pr; constructor <;> (simp [go_sem]; done)) | fail "pr"))) | skip); obtain ⟨p2, q2, rfl⟩ := ho2.sl.form; rw [List.length_append] at ho2; have O2 := Lib.hid ho2; have G2 := Lib.hid (show ∀ y ∈ F2, W.heap.size ≤ y from fun y hy => by have h1 := hf2 y hy; (try simp at h1); omega); have D2 := Lib.hid hf2; clear ho2 hf2 hb2))
  all_goals go_wp2_with fail
  all_goals first
    | exact bodyPost_ret (v := .agg #[.slice p1 (x.ns.length + ns.length) q1, .slice p2 (x.es.length + es.length) q2]) (by simp [results, Try.results57, go_sem, x1, x2]) rfl ⟨_, F1 ++ F2, rfl, wk_end (O1.out.below r21) O2.out G1.out G2.out (by omega) (fun y hy hy2 => by have a1 := O1.out.lt y hy; have b2 := D2.out y hy2; (try simp at b2); omega), (fun y hy => by rcases List.mem_append.1 hy with h | h; (have := G1.out y h; omega); (have := G2.out y h; omega)), ((HV.out.trans (hk2.mono (by omega))).setCell (by simp) _).setCell (by simp) _⟩
    | exact bodyPost_ret (v := .agg #[.slice p1 (x.ns.length + ns.length) q1, .slice p2 (x.es.length + es.length) q2]) (by simp [results, Try.results57, go_sem, y1, y2]) rfl ⟨_, F1 ++ F2, rfl, wk_end O1.out (O2.out.below r12) G1.out G2.out (by omega) (fun y hy hy2 => by have a1 := O2.out.lt y hy2; have b2 := D1.out y hy; (try simp at b2); omega), (fun y hy => by rcases List.mem_append.1 hy with h | h; (have := G1.out y h; omega); (have := G2.out y h; omega)), ((HV.out.trans (hk1.mono (by omega))).setCell (by simp) _).setCell (by simp) _⟩
    | fail "end"
end Go.Proofs.Ytchhobphockhhaa
