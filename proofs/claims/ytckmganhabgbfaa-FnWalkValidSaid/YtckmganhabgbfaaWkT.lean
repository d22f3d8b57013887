/- TurnWalk, on both sides. -/
import Derived.Test.YtckmganhabgbfaaInts
import Derived.Test.YtckmganhabgbfaaWkB
import Derived.Test.YtckmganhabgbfaaConcatI
import Derived.Deep.RegionHeld3
import Derived.Deep.DeepCutAuto
namespace Go.Proofs.Ytckmganhabgbfaa
open Go.RowKit

set_option maxRecDepth 100000 in
set_option maxHeartbeats 4000000 in
theorem l5Back_any (xs : List Int) (v : Value) (B : Nat) (w : World) (hv : Sl 1 intCells B w v xs) (hB : B ≤ w.heap.size) (hn : xs.length ≤ 1048576) :
    Calls Try.prog 58 #[v] w fun e w' => ∃ v' F, e = .returned v' ∧ OwnSl 1 intCells w' v' xs.reverse F ∧ (∀ x ∈ F, w.heap.size ≤ x) ∧ Below w.heap.size w w' := by
  obtain ⟨p, cap, rfl⟩ := hv.form
  have hm := hv.max
  unfold maxLen at hm
  go_enter Try.func58, Try.ntmps58
  go_wp2_with fail
  go_loopw [3, 4] (fun s i wr => ∃ (j : Nat) (F : List Nat), j ≤ xs.length ∧ i = .int .i64 ((j : Int) - 1) ∧ OwnI wr s (xs.drop j).reverse F ∧ (∀ x ∈ F, w.heap.size ≤ x) ∧ Below w.heap.size w wr) (fun _ i _ => (intOf i + 1).toNat)
  case atStart => exact ⟨xs.length, [], Nat.le_refl _, rfl, by rw [List.drop_of_length_le (Nat.le_refl _)]; exact OwnI.empty _ _, by simp, (Below.refl _ _).alloc (Nat.le_refl _) _⟩
  case round =>
    obtain ⟨j, F, hj, rfl, ho, hF, hbw⟩ := hrel
    have hsz := hbw.size
    have HB := Lib.hid hbw
    have HO := Lib.hid ho
    have HF := Lib.hid hF
    clear hbw ho hF
    cases j with
    | zero =>
      have HZ := Lib.hid (show (xs.drop 0).reverse = xs.reverse by simp)
      go_wp2_with fail
      go_ret
      exact ⟨_, F, rfl, HZ.out ▸ HO.out.own, HF.out, HB.out⟩
    | succ j =>
      rw [show ((j + 1 : Nat) : Int) - 1 = (j : Int) by omega]
      have hlt : j < xs.length := by omega
      obtain ⟨b, off, rfl, hb, c0⟩ := (hv.below (HB.out.mono hB)).it hlt
      have HD := Lib.hid (show (xs.drop (j + 1)).reverse ++ [xs[j]] = (xs.drop j).reverse by rw [List.drop_eq_getElem_cons hlt, List.reverse_cons])
      obtain ⟨x, ex⟩ : ∃ x, x = xs[j] := ⟨_, rfl⟩
      rw [← ex] at c0 HD
      clear ex
      have HAP := Lib.hid (app_int HO.out x (by simp; omega) 23)
      have q0 : decide (0 ≤ (j : Int)) = true := decide_eq_true (by omega)
      go_wp2_with (at_builtin; refine wpApp rfl (.tmp 13) (.tmp 18) 23 rfl _ _ rfl rfl _ HAP.out ?_; rintro v2 w2 hr; have HR := Lib.hid hr; clear hr)
      have HR2 := Lib.hid (show ∃ F', OwnI w2 v2 (xs.drop j).reverse F' ∧ (∀ x ∈ F', w.heap.size ≤ x) ∧ Below w.heap.size w w2 by
        obtain ⟨F', h1, h2, h3⟩ := HR.out
        exact ⟨F', HD.out ▸ h1, fun y hy => by rcases h2 y hy with h | h; (exact HF.out y h); omega, HB.out.trans (h3.below hsz HF.out)⟩)
      go_roundw
      case rel =>
        obtain ⟨F', h1, h2, h3⟩ := HR2.out
        exact ⟨j, F', by omega, rfl, h1, h2, h3⟩
      case measure => simp [intOf]

/-- A new walk, laid into a variable. -/
theorem wk_end {x : Wk} {B k : Nat} {wk : World} {s1 s2 : Value} {F1 F2 : List Nat} (h1 : OwnSl 1 intCells wk s1 x.ns F1) (h2 : OwnSl 1 intCells wk s2 x.es F2) (g1 : ∀ y ∈ F1, B ≤ y) (g2 : ∀ y ∈ F2, B ≤ y) (hk : k < B) (hd : ∀ y ∈ F1, y ∉ F2) :
    x.Has (.agg #[s1, s2]) (F1 ++ F2) ((wk.setCell ⟨k, 0, none⟩ s1).setCell ⟨k, 1, none⟩ s2) :=
  ⟨s1, s2, F1, F2, rfl, rfl, h1.chg (G := [k]) (((Chg.refl _ _).setCell (by simp) _).setCell (by simp) _) (fun y hy => by have := g1 y hy; simp; omega), h2.chg (G := [k]) (((Chg.refl _ _).setCell (by simp) _).setCell (by simp) _) (fun y hy => by have := g2 y hy; simp; omega), hd⟩

set_option maxRecDepth 100000 in
set_option maxHeartbeats 8000000 in
theorem specTurnWalk_any (x : Wk) (v : Value) (B : Nat) (w : World) (hx : x.At B w v) (hB : B ≤ w.heap.size) (hn : x.need ≤ 1048576) :
    Calls Try.prog 21 #[v] w fun e w' => ∃ v' F, e = .returned v' ∧ (wkTurn x).Has v' F w' ∧ (∀ y ∈ F, w.heap.size ≤ y) ∧ Below w.heap.size w w' := by
  obtain ⟨a, b, rfl, ha, hb⟩ := hx
  have H1 := Lib.hid ha
  have H2 := Lib.hid hb
  have hl1 : x.ns.length ≤ 1048576 := by unfold Wk.need at hn; omega
  have hl2 : x.es.length ≤ 1048576 := by unfold Wk.need at hn; omega
  clear ha hb hn
  obtain ⟨W, eW⟩ : ∃ W, W = (w.alloc (.cells #[a, b] 25)).alloc (.cells #[.slice none 0 0, .slice none 0 0] 25) := ⟨_, rfl⟩
  have HV := Lib.hid (show Below w.heap.size w W by rw [eW]; exact two_more (Nat.le_refl _) _ _)
  have hs0 : w.heap.size + 2 ≤ W.heap.size := by rw [eW]; simp
  have HK := Lib.hid (show ∀ wk, Below W.heap.size W wk → w.heap.size + 2 ≤ wk.heap.size ∧ wk.cell? ⟨w.heap.size, 0, none⟩ = some a ∧ wk.cell? ⟨w.heap.size, 1, none⟩ = some b ∧ wk.cell? ⟨w.heap.size + 1, 0, none⟩ = some (.slice none 0 0) ∧ wk.cell? ⟨w.heap.size + 1, 1, none⟩ = some (.slice none 0 0) from
    fun wk hk => by rw [eW] at hk; exact two_boxes (hk.mono (by simp)))
  have HKA := Lib.hid (show ∀ wk, Below (w.heap.size + 1) W wk → wk.cell? ⟨w.heap.size, 0, none⟩ = some (a) ∧ wk.cell? ⟨w.heap.size, 1, none⟩ = some (b) from
    fun wk hk => ⟨keepc hk (by omega) (HK.out _ (Below.refl _ _)).2.1, keepc hk (by omega) (HK.out _ (Below.refl _ _)).2.2.1⟩)
  have HKF := Lib.hid (show ∀ wk, Below W.heap.size W wk → ∀ o, wk.frozen? ⟨w.heap.size + 1, o, none⟩ = false from
    fun wk hk o => by
      rw [eW] at hk
      exact (hk.frozen (p := ⟨w.heap.size + 1, o, none⟩) (by simp)).trans (World.frozen?_alloc_at _ _ _ _ (by simp)))
  have CN := Lib.hid (fun (E : World) (hE : Below W.heap.size W E) => l5Back_any x.ns a B E (H1.out.below ((HV.out.mono hB).trans (hE.mono (by omega)))) (by have := hE.size; omega) hl1)
  have CE := Lib.hid (fun (E : World) (hE : Below W.heap.size W E) => l5Back_any x.es b B E (H2.out.below ((HV.out.mono hB).trans (hE.mono (by omega)))) (by have := hE.size; omega) hl2)
  have EW := Lib.hid eW
  clear eW
  go_enter Try.func21, Try.ntmps21
  go_wp2_with fail
  rw [← EW.out]
  have rr0 := Below.refl W.heap.size W
  have rr1 := Below.refl (w.heap.size + 1) W
  go_region_held3 (fun w' => w'.cell? ⟨w.heap.size, 0, none⟩ = some a ∧ w'.cell? ⟨w.heap.size, 1, none⟩ = some b)
    (exact HKA.out _ (show Below (w.heap.size + 1) W _ by ((repeat (first | with_reducible assumption | with_reducible exact Below.refl _ _ | refine Below.setCell ?_ (by (first | omega | (simp; omega) | (simp; done) | fail "sml")) _ | refine Below.drew ?_ | refine Below.alloc ?_ (by (first | omega | (simp; omega) | (simp; done) | fail "sml")) _)); first | done | fail "chs")))
    (first
      | (go_at_call 58; with_reducible refine (CN.out _ (by ((repeat (first | with_reducible assumption | with_reducible exact Below.refl _ _ | refine Below.setCell ?_ (by (first | omega | (simp; omega) | (simp; done) | fail "sml")) _ | refine Below.drew ?_ | refine Below.alloc ?_ (by (first | omega | (simp; omega) | (simp; done) | fail "sml")) _)); first | done | fail "chs"))).mono ?_; rintro en w1 ⟨v1, F1, rfl, ho1, hf1, hb1⟩; have hk1 := Below.trans (show Below W.heap.size W _ by ((repeat (first | with_reducible assumption | with_reducible exact Below.refl _ _ | refine Below.setCell ?_ (by (first | omega | (simp; omega) | (simp; done) | fail "sml")) _ | refine Below.drew ?_ | refine Below.alloc ?_ (by (first | omega | (simp; omega) | (simp; done) | fail "sml")) _)); first | done | fail "chs")) (hb1.mono (by (first | omega | (simp; omega) | (simp; done) | fail "sml"))); have z1 := hk1.size; have hk1s := hk1.mono (show w.heap.size + 1 ≤ W.heap.size by omega); obtain ⟨y0, _, _, y1, y2⟩ := HK.out _ hk1; have y3 := HKF.out _ hk1 0; have y4 := HKF.out _ hk1 1; have r1 := Below.refl w1.heap.size w1; (first | (have r12 := Below.trans (show Below w2.heap.size w2 _ by ((repeat (first | with_reducible assumption | with_reducible exact Below.refl _ _ | refine Below.setCell ?_ (by (first | omega | (simp; omega) | (simp; done) | fail "sml")) _ | refine Below.drew ?_ | refine Below.alloc ?_ (by (first | omega | (simp; omega) | (simp; done) | fail "sml")) _)); first | done | fail "chs")) (hb1.mono (by (first | omega | (simp; omega) | (simp; done) | fail "sml")))) | skip); obtain ⟨p1, q1, rfl⟩ := ho1.sl.form; rw [List.length_reverse] at ho1; have O1 := Lib.hid ho1; have G1 := Lib.hid (show ∀ y ∈ F1, W.heap.size ≤ y from fun y hy => by have h1 := hf1 y hy; (try simp at h1); omega); have D1 := Lib.hid hf1; clear ho1 hf1 hb1)
      | (go_at_call 58; with_reducible refine (CE.out _ (by ((repeat (first | with_reducible assumption | with_reducible exact Below.refl _ _ | refine Below.setCell ?_ (by (first | omega | (simp; omega) | (simp; done) | fail "sml")) _ | refine Below.drew ?_ | refine Below.alloc ?_ (by (first | omega | (simp; omega) | (simp; done) | fail "sml")) _)); first | done | fail "chs"))).mono ?_; rintro en w2 ⟨v2, F2, rfl, ho2, hf2, hb2⟩; have hk2 := Below.trans (show Below W.heap.size W _ by ((repeat (first | with_reducible assumption | with_reducible exact Below.refl _ _ | refine Below.setCell ?_ (by (first | omega | (simp; omega) | (simp; done) | fail "sml")) _ | refine Below.drew ?_ | refine Below.alloc ?_ (by (first | omega | (simp; omega) | (simp; done) | fail "sml")) _)); first | done | fail "chs")) (hb2.mono (by (first | omega | (simp; omega) | (simp; done) | fail "sml"))); have z2 := hk2.size; have hk2s := hk2.mono (show w.heap.size + 1 ≤ W.heap.size by omega); obtain ⟨x0, _, _, x1, x2⟩ := HK.out _ hk2; have x3 := HKF.out _ hk2 0; have x4 := HKF.out _ hk2 1; have r2 := Below.refl w2.heap.size w2; (first | (have r21 := Below.trans (show Below w1.heap.size w1 _ by ((repeat (first | with_reducible assumption | with_reducible exact Below.refl _ _ | refine Below.setCell ?_ (by (first | omega | (simp; omega) | (simp; done) | fail "sml")) _ | refine Below.drew ?_ | refine Below.alloc ?_ (by (first | omega | (simp; omega) | (simp; done) | fail "sml")) _)); first | done | fail "chs")) (hb2.mono (by (first | omega | (simp; omega) | (simp; done) | fail "sml")))) | skip); obtain ⟨p2, q2, rfl⟩ := ho2.sl.form; rw [List.length_reverse] at ho2; have O2 := Lib.hid ho2; have G2 := Lib.hid (show ∀ y ∈ F2, W.heap.size ≤ y from fun y hy => by have h1 := hf2 y hy; (try simp at h1); omega); have D2 := Lib.hid hf2; clear ho2 hf2 hb2))
  all_goals go_wp2_with fail
  all_goals first
    | exact bodyPost_ret (v := .agg #[.slice p1 x.ns.length q1, .slice p2 x.es.length q2]) (by simp [results, Try.results21, go_sem, x1, x2]) rfl ⟨_, F1 ++ F2, rfl, wk_end (O1.out.below r21) O2.out G1.out G2.out (by omega) (fun y hy hy2 => by have a1 := O1.out.lt y hy; have b2 := D2.out y hy2; (try simp at b2); omega), (fun y hy => by rcases List.mem_append.1 hy with h | h; (have := G1.out y h; omega); (have := G2.out y h; omega)), ((HV.out.trans (hk2.mono (by omega))).setCell (by simp) _).setCell (by simp) _⟩
    | exact bodyPost_ret (v := .agg #[.slice p1 x.ns.length q1, .slice p2 x.es.length q2]) (by simp [results, Try.results21, go_sem, y1, y2]) rfl ⟨_, F1 ++ F2, rfl, wk_end O1.out (O2.out.below r12) G1.out G2.out (by omega) (fun y hy hy2 => by have a1 := O2.out.lt y hy2; have b2 := D1.out y hy; (try simp at b2); omega), (fun y hy => by rcases List.mem_append.1 hy with h | h; (have := G1.out y h; omega); (have := G2.out y h; omega)), ((HV.out.trans (hk1.mono (by omega))).setCell (by simp) _).setCell (by simp) _⟩
    | fail "end"
end Go.Proofs.Ytckmganhabgbfaa
