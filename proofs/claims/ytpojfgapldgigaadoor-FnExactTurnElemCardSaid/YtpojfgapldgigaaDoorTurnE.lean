/- Elements turned: impl.TurnElem. -/
import Derived.Test.YtpojfgapldgigaaDoorTurnT
namespace Go.Proofs.YtpojfgapldgigaaDoor
open Go.RowKit

set_option maxRecDepth 100000 in
set_option maxHeartbeats 8000000 in
theorem turnElem_any (e : El) (u : Value) (B : Nat) (w : World) (hu : e.At B w u) (hB : B ≤ w.heap.size) (hs : e.Sm) (hvars : Vars w) :
    Calls Tryd.prog 7 #[u] w fun en w' => ∃ v' F, en = .returned (.tuple #[v', .bool (elemV e)]) ∧ (turnR e).Has v' F w' ∧ (∀ x ∈ F, w.heap.size ≤ x) ∧ Below w.heap.size w w' := by
  have HSM := Lib.hid hs
  have HVV := Lib.hid hvars
  have HIN := Lib.hid (show ∀ (p : Option Addr) (cap : Nat) (p' : Option Addr) (cap' : Nat), u = .agg #[.bool e.n, .string e.v, .int .i64 e.l.op, .string e.l.a, .slice p e.l.ks.list.length cap, .int .i64 e.c.op, .string e.c.a, .slice p' e.c.ks.list.length cap', .int .i64 e.d] → e.l.ks.In B w (.slice p e.l.ks.list.length cap) ∧ e.c.ks.In B w (.slice p' e.c.ks.list.length cap') from fun p cap p' cap' he => by
    obtain ⟨k, k', h1, h2, h3⟩ := hu
    rw [he] at h1
    simp only [Value.agg.injEq, Array.mk.injEq, List.cons.injEq, true_and, and_true] at h1
    obtain ⟨rfl, rfl⟩ := h1
    exact ⟨h2, h3⟩)
  clear hs hvars
  obtain ⟨p, cap, p', cap', rfl, hl, hc⟩ := hu.form
  have HU := Lib.hid hu
  obtain ⟨il, ic⟩ := HIN.out p cap p' cap' rfl
  have HL := Lib.hid il
  have HC := Lib.hid ic
  clear hu hl hc il ic HIN
  obtain ⟨W0, eW⟩ : ∃ W0, W0 = (w.alloc (.cells #[.bool e.n, .string e.v, .int .i64 e.l.op, .string e.l.a, .slice p e.l.ks.list.length cap, .int .i64 e.c.op, .string e.c.a, .slice p' e.c.ks.list.length cap', .int .i64 e.d] 32)).alloc (.cells #[.bool false, .string ⟨#[]⟩, .int .i64 0, .string ⟨#[]⟩, .slice none 0 0, .int .i64 0, .string ⟨#[]⟩, .slice none 0 0, .int .i64 0] 32) := ⟨_, rfl⟩
  have HV := Lib.hid (show Below w.heap.size w W0 by rw [eW]; exact ((Below.refl w.heap.size w).alloc (by simp) _).alloc (by simp) _)
  have hs0 : w.heap.size + 2 ≤ W0.heap.size := by rw [eW]; simp
  have HK := Lib.hid (show ∀ wk, Below (w.heap.size + 2) W0 wk → w.heap.size + 2 ≤ wk.heap.size ∧ wk.cell? ⟨w.heap.size, 0, none⟩ = some (.bool e.n) ∧ wk.cell? ⟨w.heap.size, 1, none⟩ = some (.string e.v) ∧ wk.cell? ⟨w.heap.size, 2, none⟩ = some (.int .i64 e.l.op) ∧ wk.cell? ⟨w.heap.size, 3, none⟩ = some (.string e.l.a) ∧ wk.cell? ⟨w.heap.size, 4, none⟩ = some (.slice p e.l.ks.list.length cap) ∧ wk.cell? ⟨w.heap.size, 5, none⟩ = some (.int .i64 e.c.op) ∧ wk.cell? ⟨w.heap.size, 6, none⟩ = some (.string e.c.a) ∧ wk.cell? ⟨w.heap.size, 7, none⟩ = some (.slice p' e.c.ks.list.length cap') ∧ wk.cell? ⟨w.heap.size, 8, none⟩ = some (.int .i64 e.d) ∧ wk.cell? ⟨w.heap.size + 1, 0, none⟩ = some (.bool false) ∧ wk.cell? ⟨w.heap.size + 1, 1, none⟩ = some (.string ⟨#[]⟩) ∧ wk.cell? ⟨w.heap.size + 1, 2, none⟩ = some (.int .i64 0) ∧ wk.cell? ⟨w.heap.size + 1, 3, none⟩ = some (.string ⟨#[]⟩) ∧ wk.cell? ⟨w.heap.size + 1, 4, none⟩ = some (.slice none 0 0) ∧ wk.cell? ⟨w.heap.size + 1, 5, none⟩ = some (.int .i64 0) ∧ wk.cell? ⟨w.heap.size + 1, 6, none⟩ = some (.string ⟨#[]⟩) ∧ wk.cell? ⟨w.heap.size + 1, 7, none⟩ = some (.slice none 0 0) ∧ wk.cell? ⟨w.heap.size + 1, 8, none⟩ = some (.int .i64 0) ∧ wk.frozen? ⟨w.heap.size + 1, 0, none⟩ = false ∧ wk.frozen? ⟨w.heap.size + 1, 1, none⟩ = false ∧ wk.frozen? ⟨w.heap.size + 1, 2, none⟩ = false ∧ wk.frozen? ⟨w.heap.size + 1, 3, none⟩ = false ∧ wk.frozen? ⟨w.heap.size + 1, 4, none⟩ = false ∧ wk.frozen? ⟨w.heap.size + 1, 5, none⟩ = false ∧ wk.frozen? ⟨w.heap.size + 1, 6, none⟩ = false ∧ wk.frozen? ⟨w.heap.size + 1, 7, none⟩ = false ∧ wk.frozen? ⟨w.heap.size + 1, 8, none⟩ = false from
    fun wk hk => by rw [eW] at hk; exact ⟨by have := hk.size; simp at this; omega, keepc hk (by omega) (by simp [go_sem]), keepc hk (by omega) (by simp [go_sem]), keepc hk (by omega) (by simp [go_sem]), keepc hk (by omega) (by simp [go_sem]), keepc hk (by omega) (by simp [go_sem]), keepc hk (by omega) (by simp [go_sem]), keepc hk (by omega) (by simp [go_sem]), keepc hk (by omega) (by simp [go_sem]), keepc hk (by omega) (by simp [go_sem]), keepc hk (by omega) (by simp [go_sem]), keepc hk (by omega) (by simp [go_sem]), keepc hk (by omega) (by simp [go_sem]), keepc hk (by omega) (by simp [go_sem]), keepc hk (by omega) (by simp [go_sem]), keepc hk (by omega) (by simp [go_sem]), keepc hk (by omega) (by simp [go_sem]), keepc hk (by omega) (by simp [go_sem]), keepc hk (by omega) (by simp [go_sem]), (hk.frozen (by simp)).trans (by simp [go_sem]), (hk.frozen (by simp)).trans (by simp [go_sem]), (hk.frozen (by simp)).trans (by simp [go_sem]), (hk.frozen (by simp)).trans (by simp [go_sem]), (hk.frozen (by simp)).trans (by simp [go_sem]), (hk.frozen (by simp)).trans (by simp [go_sem]), (hk.frozen (by simp)).trans (by simp [go_sem]), (hk.frozen (by simp)).trans (by simp [go_sem]), (hk.frozen (by simp)).trans (by simp [go_sem])⟩)
  have HA := Lib.hid (Below.refl (w.heap.size + 2) W0)
  have HEA := Lib.hid (show ∀ wk, Below (w.heap.size + 2) W0 wk → e.At B wk (.agg #[.bool e.n, .string e.v, .int .i64 e.l.op, .string e.l.a, .slice p e.l.ks.list.length cap, .int .i64 e.c.op, .string e.c.a, .slice p' e.c.ks.list.length cap', .int .i64 e.d]) from fun wk hk => HU.out.below ((HV.out.trans (hk.mono (by omega))).mono hB) (Nat.le_refl _))
  have EW := Lib.hid eW
  clear eW HU
  go_enter Tryd.func7, Tryd.ntmps7
  go_wp2_with fail
  rw [← EW.out]
  have HBK := Lib.hid (show ∀ wk, Below (w.heap.size + 2) W0 wk → Below B w wk from fun wk hk => (HV.out.trans (hk.mono (by omega))).mono hB)
  refine (elemValid_any e _ B _ (HEA.out _ HA.out) (by omega) HSM.out (HVV.out.below HV.out)).mono ?_
  rintro en w1 ⟨rfl, hb1⟩
  have hz1 := hb1.size
  have HA := Lib.hid (HA.out.trans (hb1.mono (by omega)))
  clear hb1
  obtain ⟨hz, c0, c1, c2, c3, c4, c5, c6, c7, c8, d0, d1, d2, d3, d4, d5, d6, d7, d8, f0, f1, f2, f3, f4, f5, f6, f7, f8⟩ := HK.out _ HA.out
  cases hV : elemV e with
  | false =>
    have HT := Lib.hid (turnR_bad hV)
    have HVE := Lib.hid hV
    clear hV
    have hq := HV.out.trans (HA.out.mono (show w.heap.size ≤ w.heap.size + 2 by omega))
    go_wp2_with fail
    refine bodyPost_ret (v := .tuple #[.agg #[.bool false, .string ⟨#[]⟩, .int .i64 0, .string ⟨#[]⟩, .slice none 0 0, .int .i64 0, .string ⟨#[]⟩, .slice none 0 0, .int .i64 0], .bool false]) (by simp [results, Tryd.results7, go_sem, d0, d1, d2, d3, d4, d5, d6, d7, d8]) rfl ⟨_, [], by rw [HVE.out], by rw [HT.out]; exact noEl_has _, by simp, ((((((((((hq).setCell (by simp) _).setCell (by simp) _).setCell (by simp) _).setCell (by simp) _).setCell (by simp) _).setCell (by simp) _).setCell (by simp) _).setCell (by simp) _).setCell (by simp) _)⟩
  | true =>
    have HT := Lib.hid (turnR_ok hV)
    have HVE := Lib.hid hV
    have H12 := Lib.hid (show e.l.ks.size ≤ 2000000 ∧ e.c.ks.size ≤ 2000000 by have := elemV_ks hV; omega)
    clear hV
    have CL := Lib.hid (fun (E : World) (hE : Below (w.heap.size + 2) W0 E) => (copyExprN 2000000 e.l H12.out.1 (Nat.le_refl _) _ B E (HL.out.below (HBK.out _ hE) (Nat.le_refl _)) (by have := hE.size; omega)).mono (R' := fun en w' => ∃ p c F, en = .returned (.agg #[.int .i64 e.l.op, .string e.l.a, .slice p e.l.ks.list.length c]) ∧ (∀ X, Below w'.heap.size w' X → e.l.ks.Own X (.slice p e.l.ks.list.length c) F) ∧ (∀ x ∈ F, E.heap.size ≤ x ∧ x < w'.heap.size) ∧ Below E.heap.size E w' ∧ Below (w.heap.size + 2) W0 w') fun en w' ⟨p, c, F, he, ho, hF, hb⟩ => ⟨p, c, F, he, fun X hX => ho.below hX, fun x hx => ⟨hF x hx, ho.lt x hx⟩, hb, hE.trans (hb.mono (by have := hE.size; omega))⟩)
    have CC := Lib.hid (fun (E : World) (hE : Below (w.heap.size + 2) W0 E) => (copyExprN 2000000 e.c H12.out.2 (Nat.le_refl _) _ B E (HC.out.below (HBK.out _ hE) (Nat.le_refl _)) (by have := hE.size; omega)).mono (R' := fun en w' => ∃ p c F, en = .returned (.agg #[.int .i64 e.c.op, .string e.c.a, .slice p e.c.ks.list.length c]) ∧ (∀ X, Below w'.heap.size w' X → e.c.ks.Own X (.slice p e.c.ks.list.length c) F) ∧ (∀ x ∈ F, E.heap.size ≤ x ∧ x < w'.heap.size) ∧ Below E.heap.size E w' ∧ Below (w.heap.size + 2) W0 w') fun en w' ⟨p, c, F, he, ho, hF, hb⟩ => ⟨p, c, F, he, fun X hX => ho.below hX, fun x hx => ⟨hF x hx, ho.lt x hx⟩, hb, hE.trans (hb.mono (by have := hE.size; omega))⟩)
    have HKA := Lib.hid (show ∀ wk, Below (w.heap.size + 2) W0 wk → wk.cell? ⟨w.heap.size, 0, none⟩ = some (.bool e.n) ∧ wk.cell? ⟨w.heap.size, 1, none⟩ = some (.string e.v) ∧ wk.cell? ⟨w.heap.size, 2, none⟩ = some (.int .i64 e.l.op) ∧ wk.cell? ⟨w.heap.size, 3, none⟩ = some (.string e.l.a) ∧ wk.cell? ⟨w.heap.size, 4, none⟩ = some (.slice p e.l.ks.list.length cap) ∧ wk.cell? ⟨w.heap.size, 5, none⟩ = some (.int .i64 e.c.op) ∧ wk.cell? ⟨w.heap.size, 6, none⟩ = some (.string e.c.a) ∧ wk.cell? ⟨w.heap.size, 7, none⟩ = some (.slice p' e.c.ks.list.length cap') ∧ wk.cell? ⟨w.heap.size, 8, none⟩ = some (.int .i64 e.d) from fun wk hk => by obtain ⟨_, c0, c1, c2, c3, c4, c5, c6, c7, c8, _⟩ := HK.out wk hk; exact ⟨c0, c1, c2, c3, c4, c5, c6, c7, c8⟩)
    have r0 := HA.out
    have rr1 := Below.refl w1.heap.size w1
    go_upto_region 3 with fail
    go_cut [4] (fun s wx => ∃ b, s = .pointer (some ⟨b, 0, none⟩) ∧ w.heap.size + 2 ≤ b ∧ b < wx.heap.size ∧ ∃ pl cl pc cc F, e.Has (.agg #[.bool e.n, .string e.v, .int .i64 e.l.op, .string e.l.a, .slice pl e.l.ks.list.length cl, .int .i64 e.c.op, .string e.c.a, .slice pc e.c.ks.list.length cc, .int .i64 e.d]) F wx ∧ (∀ x ∈ F, w.heap.size + 2 ≤ x ∧ x < wx.heap.size ∧ x ≠ b) ∧ Below (w.heap.size + 2) W0 wx ∧ wx.cell? ⟨b, 0, none⟩ = some (.bool e.n) ∧ wx.cell? ⟨b, 1, none⟩ = some (.string e.v) ∧ wx.cell? ⟨b, 2, none⟩ = some (.int .i64 e.l.op) ∧ wx.cell? ⟨b, 3, none⟩ = some (.string e.l.a) ∧ wx.cell? ⟨b, 4, none⟩ = some (.slice pl e.l.ks.list.length cl) ∧ wx.cell? ⟨b, 5, none⟩ = some (.int .i64 e.c.op) ∧ wx.cell? ⟨b, 6, none⟩ = some (.string e.c.a) ∧ wx.cell? ⟨b, 7, none⟩ = some (.slice pc e.c.ks.list.length cc) ∧ wx.cell? ⟨b, 8, none⟩ = some (.int .i64 e.d) ∧ wx.frozen? ⟨b, 0, none⟩ = false ∧ wx.frozen? ⟨b, 1, none⟩ = false ∧ wx.frozen? ⟨b, 2, none⟩ = false ∧ wx.frozen? ⟨b, 3, none⟩ = false ∧ wx.frozen? ⟨b, 4, none⟩ = false ∧ wx.frozen? ⟨b, 5, none⟩ = false ∧ wx.frozen? ⟨b, 6, none⟩ = false ∧ wx.frozen? ⟨b, 7, none⟩ = false ∧ wx.frozen? ⟨b, 8, none⟩ = false)
    case first =>
      refine wp_region_held_drew (S := fun w' => w'.cell? ⟨w.heap.size, 0, none⟩ = some (.bool e.n) ∧ w'.cell? ⟨w.heap.size, 1, none⟩ = some (.string e.v) ∧ w'.cell? ⟨w.heap.size, 2, none⟩ = some (.int .i64 e.l.op) ∧ w'.cell? ⟨w.heap.size, 3, none⟩ = some (.string e.l.a) ∧ w'.cell? ⟨w.heap.size, 4, none⟩ = some (.slice p e.l.ks.list.length cap) ∧ w'.cell? ⟨w.heap.size, 5, none⟩ = some (.int .i64 e.c.op) ∧ w'.cell? ⟨w.heap.size, 6, none⟩ = some (.string e.c.a) ∧ w'.cell? ⟨w.heap.size, 7, none⟩ = some (.slice p' e.c.ks.list.length cap') ∧ w'.cell? ⟨w.heap.size, 8, none⟩ = some (.int .i64 e.d)) (by kernel_rfl) ?_ (fun hHeld => ?_)
      · exact HKA.out _ (by ((repeat (first | with_reducible assumption | with_reducible exact Below.refl _ _ | refine Below.setCell ?_ (by (first | omega | (simp; omega) | (simp; done) | fail "sml")) _ | refine Below.drew ?_ | refine Below.alloc ?_ (by (first | omega | (simp; omega) | (simp; done) | fail "sml")) _)); first | done | fail "chs"))
      (refine takeL (i := 0) (v := ?_) rfl (by kernel_rfl) (by kernel_rfl) (by kernel_rfl) (fun _ _ _ h => h) (Or.inl ⟨by kernel_rfl, ?_⟩) (by assumption) ?_; rotate_left; (focus (intro w hSw; (try dsimp only at hSw); go_simp; first | done | with_reducible rfl | fail "take")); (try simp only [Act.put, List.setIfInBounds_toArray, List.set_cons_zero, List.set_cons_succ]))
      (refine takeL (i := 1) (v := ?_) rfl (by kernel_rfl) (by kernel_rfl) (by kernel_rfl) (fun _ _ _ h => h) (Or.inl ⟨by kernel_rfl, ?_⟩) (by assumption) ?_; rotate_left; (focus (intro w hSw; (try dsimp only at hSw); go_simp; first | done | with_reducible rfl | fail "take")); (try simp only [Act.put, List.setIfInBounds_toArray, List.set_cons_zero, List.set_cons_succ]))
      (refine takeL (i := 2) (v := ?_) rfl (by kernel_rfl) (by kernel_rfl) (by kernel_rfl) (fun _ _ _ h => h) (Or.inl ⟨by kernel_rfl, ?_⟩) (by assumption) ?_; rotate_left; (focus (intro w hSw; (try dsimp only at hSw); go_simp; first | done | with_reducible rfl | fail "take")); (try simp only [Act.put, List.setIfInBounds_toArray, List.set_cons_zero, List.set_cons_succ]))
      (refine takeL (i := 3) (v := ?_) rfl (by kernel_rfl) (by kernel_rfl) (by kernel_rfl) (fun _ _ _ h => h) (Or.inl ⟨by kernel_rfl, ?_⟩) (by assumption) ?_; rotate_left; (focus (intro w hSw; (try dsimp only at hSw); go_simp; first | done | with_reducible rfl | fail "take")); (try simp only [Act.put, List.setIfInBounds_toArray, List.set_cons_zero, List.set_cons_succ]))
      (refine takeL (i := 4) (v := ?_) rfl (by kernel_rfl) (by kernel_rfl) (by kernel_rfl) (fun _ _ _ h => h) (Or.inl ⟨by kernel_rfl, ?_⟩) (by assumption) ?_; rotate_left; (focus (intro w hSw; (try dsimp only at hSw); go_simp; first | done | with_reducible rfl | fail "take")); (try simp only [Act.put, List.setIfInBounds_toArray, List.set_cons_zero, List.set_cons_succ]))
      (refine takeL (i := 5) (v := ?_) rfl (by kernel_rfl) (by kernel_rfl) (by kernel_rfl) (fun _ _ _ h => h) (Or.inl ⟨by kernel_rfl, ?_⟩) (by assumption) ?_; rotate_left; (focus (intro w hSw; (try dsimp only at hSw); go_simp; first | done | with_reducible rfl | fail "take")); (try simp only [Act.put, List.setIfInBounds_toArray, List.set_cons_zero, List.set_cons_succ]))
      (refine takeL (i := 7) (v := ?_) rfl (by kernel_rfl) (by kernel_rfl) (by kernel_rfl) (fun _ _ _ h => h) (Or.inl ⟨by kernel_rfl, ?_⟩) (by assumption) ?_; rotate_left; (focus (intro w hSw; (try dsimp only at hSw); go_simp; first | done | with_reducible rfl | fail "take")); (try simp only [Act.put, List.setIfInBounds_toArray, List.set_cons_zero, List.set_cons_succ]))
      (refine takeL (i := 8) (v := ?_) rfl (by kernel_rfl) (by kernel_rfl) (by kernel_rfl) (fun _ _ _ h => h) (Or.inl ⟨by kernel_rfl, ?_⟩) (by assumption) ?_; rotate_left; (focus (intro w hSw; (try dsimp only at hSw); go_simp; first | done | with_reducible rfl | fail "take")); (try simp only [Act.put, List.setIfInBounds_toArray, List.set_cons_zero, List.set_cons_succ]))
      (refine takeL (i := 10) (v := ?_) rfl (by kernel_rfl) (by kernel_rfl) (by kernel_rfl) (fun _ _ _ h => h) (Or.inl ⟨by kernel_rfl, ?_⟩) (by assumption) ?_; rotate_left; (focus (intro w hSw; (try dsimp only at hSw); go_simp; first | done | with_reducible rfl | fail "take")); (try simp only [Act.put, List.setIfInBounds_toArray, List.set_cons_zero, List.set_cons_succ]))
      (refine takeL (i := 11) (v := ?_) rfl (by kernel_rfl) (by kernel_rfl) (by kernel_rfl) (fun _ _ _ h => h) (Or.inl ⟨by kernel_rfl, ?_⟩) (by assumption) ?_; rotate_left; (focus (intro w hSw; (try dsimp only at hSw); go_simp; first | done | with_reducible rfl | fail "take")); (try simp only [Act.put, List.setIfInBounds_toArray, List.set_cons_zero, List.set_cons_succ]))
      refine twoL (i := 6) (j := 13) rfl rfl (by kernel_rfl) (by kernel_rfl) (by kernel_rfl) (fun K hK => ?_) (fun K hK => ?_)
      · go_simp
        go_at_call 16
        refine (CL.out _ (by ((repeat (first | with_reducible assumption | with_reducible exact Below.refl _ _ | refine Below.setCell ?_ (by (first | omega | (simp; omega) | (simp; done) | fail "sml")) _ | refine Below.drew ?_ | refine Below.alloc ?_ (by (first | omega | (simp; omega) | (simp; done) | fail "sml")) _)); first | done | fail "chs"))).mono ?_
        rintro en wl ⟨pl, cl, FL, rfl, hol, hfl, hbl, hkl⟩
        have hzl := hbl.size
        (try simp at hzl)
        go_wp2_with fail
        (refine hK.out _ _ ?_ (fun hHeld => ?_); (focus (exact HKA.out _ (by ((repeat (first | with_reducible assumption | with_reducible exact Below.refl _ _ | refine Below.setCell ?_ (by (first | omega | (simp; omega) | (simp; done) | fail "sml")) _ | refine Below.drew ?_ | refine Below.alloc ?_ (by (first | omega | (simp; omega) | (simp; done) | fail "sml")) _)); first | done | fail "chs")))); clear hK K; (try simp only [Act.put, List.setIfInBounds_toArray, List.set_cons_zero, List.set_cons_succ]))
        refine twoL (i := 9) (j := 13) rfl rfl (by kernel_rfl) (by kernel_rfl) (by kernel_rfl) (fun K hK => ?_) (fun K hK => ?_)
        · go_simp
          go_at_call 16
          refine (CC.out _ (by ((repeat (first | with_reducible assumption | with_reducible exact Below.refl _ _ | refine Below.setCell ?_ (by (first | omega | (simp; omega) | (simp; done) | fail "sml")) _ | refine Below.drew ?_ | refine Below.alloc ?_ (by (first | omega | (simp; omega) | (simp; done) | fail "sml")) _)); first | done | fail "chs"))).mono ?_
          rintro en wc ⟨pc, cc, FC, rfl, hoc, hfc, hbc, hkc⟩
          have hzc := hbc.size
          (try simp at hzc)
          go_wp2_with fail
          (refine hK.out _ _ ?_ (fun hHeld => ?_); (focus (exact HKA.out _ (by ((repeat (first | with_reducible assumption | with_reducible exact Below.refl _ _ | refine Below.setCell ?_ (by (first | omega | (simp; omega) | (simp; done) | fail "sml")) _ | refine Below.drew ?_ | refine Below.alloc ?_ (by (first | omega | (simp; omega) | (simp; done) | fail "sml")) _)); first | done | fail "chs")))); clear hK K; (try simp only [Act.put, List.setIfInBounds_toArray, List.set_cons_zero, List.set_cons_succ]))
          (refine takeL (i := 12) (v := ?_) rfl (by kernel_rfl) (by kernel_rfl) (by kernel_rfl) (fun _ _ _ h => h) (Or.inl ⟨by kernel_rfl, ?_⟩) (by assumption) ?_; rotate_left; (focus (intro w hSw; (try dsimp only at hSw); go_simp; first | done | with_reducible rfl | fail "take")); (try simp only [Act.put, List.setIfInBounds_toArray, List.set_cons_zero, List.set_cons_succ]))
          (refine callL (i := 13) rfl (by kernel_rfl) (by kernel_rfl) (fun K hK => ?_); go_simp)
          (refine hK.out _ _ ?_ (fun hHeld => ?_); (focus (exact HKA.out _ (by ((repeat (first | with_reducible assumption | with_reducible exact Below.refl _ _ | refine Below.setCell ?_ (by (first | omega | (simp; omega) | (simp; done) | fail "sml")) _ | refine Below.drew ?_ | refine Below.alloc ?_ (by (first | omega | (simp; omega) | (simp; done) | fail "sml")) _)); first | done | fail "chs")))); clear hK K; (try simp only [Act.put, List.setIfInBounds_toArray, List.set_cons_zero, List.set_cons_succ]))
          (refine callL (i := 14) rfl (by kernel_rfl) (by kernel_rfl) (fun K hK => ?_); go_simp)
          have HD := Lib.hid (show ∀ x ∈ FL, x ∉ FC from fun x hx hx2 => by have h1 := (hfl x hx).2; have h2 := (hfc x hx2).1; (try simp at h2); omega)
          have HEN := Lib.hid (show e.Has (.agg #[.bool e.n, .string e.v, .int .i64 e.l.op, .string e.l.a, .slice pl e.l.ks.list.length cl, .int .i64 e.c.op, .string e.c.a, .slice pc e.c.ks.list.length cc, .int .i64 e.d]) (FL ++ FC) wc from ⟨_, _, FL, FC, rfl, rfl, HD.out, hol _ hbc, hoc _ (Below.refl _ _)⟩)
          have HFF := Lib.hid (show ∀ x ∈ FL ++ FC, w.heap.size + 2 ≤ x ∧ x < wc.heap.size ∧ x ≠ wc.heap.size from fun x hx => by
            rcases List.mem_append.1 hx with h | h
            · have h1 := (hfl x h).1; have h2 := (hfl x h).2; (try simp at h1); refine ⟨?_, ?_, ?_⟩ <;> omega
            · have h1 := (hfc x h).1; have h2 := (hfc x h).2; (try simp at h1); refine ⟨?_, ?_, ?_⟩ <;> omega)
          (refine hK.out _ _ ?_ (fun hHeld => ?_); (focus (exact HKA.out _ (by ((repeat (first | with_reducible assumption | with_reducible exact Below.refl _ _ | refine Below.setCell ?_ (by (first | omega | (simp; omega) | (simp; done) | fail "sml")) _ | refine Below.drew ?_ | refine Below.alloc ?_ (by (first | omega | (simp; omega) | (simp; done) | fail "sml")) _)); first | done | fail "chs")))); clear hK K; (try simp only [Act.put, List.setIfInBounds_toArray, List.set_cons_zero, List.set_cons_succ]))
          refine wpAnyH_done (by kernel_rfl) ?_ _
          go_wp2_with fail
          go_meet
          exact ⟨_, rfl, (by omega), (by simp), pl, cl, pc, cc, FL ++ FC, HEN.out.chg (Chg.of_below ((Below.refl _ _).alloc (Nat.le_refl _) _) []) (by simp), fun x hx => ⟨(HFF.out x hx).1, by have := (HFF.out x hx).2.1; simp; omega, (HFF.out x hx).2.2⟩, (by ((repeat (first | with_reducible assumption | with_reducible exact Below.refl _ _ | refine Below.setCell ?_ (by (first | omega | (simp; omega) | (simp; done) | fail "sml")) _ | refine Below.drew ?_ | refine Below.alloc ?_ (by (first | omega | (simp; omega) | (simp; done) | fail "sml")) _)); first | done | fail "chs")), by simp [go_sem], by simp [go_sem], by simp [go_sem], by simp [go_sem], by simp [go_sem], by simp [go_sem], by simp [go_sem], by simp [go_sem], by simp [go_sem], by simp [go_sem], by simp [go_sem], by simp [go_sem], by simp [go_sem], by simp [go_sem], by simp [go_sem], by simp [go_sem], by simp [go_sem], by simp [go_sem]⟩
        · go_simp
          (refine hK.out _ _ ?_ (fun hHeld => ?_); (focus (exact HKA.out _ (by ((repeat (first | with_reducible assumption | with_reducible exact Below.refl _ _ | refine Below.setCell ?_ (by (first | omega | (simp; omega) | (simp; done) | fail "sml")) _ | refine Below.drew ?_ | refine Below.alloc ?_ (by (first | omega | (simp; omega) | (simp; done) | fail "sml")) _)); first | done | fail "chs")))); clear hK K; (try simp only [Act.put, List.setIfInBounds_toArray, List.set_cons_zero, List.set_cons_succ]))
          (refine callL (i := 9) rfl (by kernel_rfl) (by kernel_rfl) (fun K hK => ?_); go_simp)
          go_at_call 16
          refine (CC.out _ (by ((repeat (first | with_reducible assumption | with_reducible exact Below.refl _ _ | refine Below.setCell ?_ (by (first | omega | (simp; omega) | (simp; done) | fail "sml")) _ | refine Below.drew ?_ | refine Below.alloc ?_ (by (first | omega | (simp; omega) | (simp; done) | fail "sml")) _)); first | done | fail "chs"))).mono ?_
          rintro en wc ⟨pc, cc, FC, rfl, hoc, hfc, hbc, hkc⟩
          have hzc := hbc.size
          (try simp at hzc)
          go_wp2_with fail
          (refine hK.out _ _ ?_ (fun hHeld => ?_); (focus (exact HKA.out _ (by ((repeat (first | with_reducible assumption | with_reducible exact Below.refl _ _ | refine Below.setCell ?_ (by (first | omega | (simp; omega) | (simp; done) | fail "sml")) _ | refine Below.drew ?_ | refine Below.alloc ?_ (by (first | omega | (simp; omega) | (simp; done) | fail "sml")) _)); first | done | fail "chs")))); clear hK K; (try simp only [Act.put, List.setIfInBounds_toArray, List.set_cons_zero, List.set_cons_succ]))
          (refine takeL (i := 12) (v := ?_) rfl (by kernel_rfl) (by kernel_rfl) (by kernel_rfl) (fun _ _ _ h => h) (Or.inl ⟨by kernel_rfl, ?_⟩) (by assumption) ?_; rotate_left; (focus (intro w hSw; (try dsimp only at hSw); go_simp; first | done | with_reducible rfl | fail "take")); (try simp only [Act.put, List.setIfInBounds_toArray, List.set_cons_zero, List.set_cons_succ]))
          have HD := Lib.hid (show ∀ x ∈ FL, x ∉ FC from fun x hx hx2 => by have h1 := (hfl x hx).2; have h2 := (hfc x hx2).1; (try simp at h2); omega)
          have HEN := Lib.hid (show e.Has (.agg #[.bool e.n, .string e.v, .int .i64 e.l.op, .string e.l.a, .slice pl e.l.ks.list.length cl, .int .i64 e.c.op, .string e.c.a, .slice pc e.c.ks.list.length cc, .int .i64 e.d]) (FL ++ FC) wc from ⟨_, _, FL, FC, rfl, rfl, HD.out, hol _ (below_past hbc), hoc _ (Below.refl _ _)⟩)
          have HFF := Lib.hid (show ∀ x ∈ FL ++ FC, w.heap.size + 2 ≤ x ∧ x < wc.heap.size ∧ x ≠ wl.heap.size from fun x hx => by
            rcases List.mem_append.1 hx with h | h
            · have h1 := (hfl x h).1; have h2 := (hfl x h).2; (try simp at h1); refine ⟨?_, ?_, ?_⟩ <;> omega
            · have h1 := (hfc x h).1; have h2 := (hfc x h).2; (try simp at h1); refine ⟨?_, ?_, ?_⟩ <;> omega)
          have z0 := new_cell hbc (j := 0) rfl
          have y0 : wc.frozen? ⟨wl.heap.size, 0, none⟩ = false := keepz hbc (by simp) (by simp [go_sem])
          have z1 := new_cell hbc (j := 1) rfl
          have y1 : wc.frozen? ⟨wl.heap.size, 1, none⟩ = false := keepz hbc (by simp) (by simp [go_sem])
          have z2 := new_cell hbc (j := 2) rfl
          have y2 : wc.frozen? ⟨wl.heap.size, 2, none⟩ = false := keepz hbc (by simp) (by simp [go_sem])
          have z3 := new_cell hbc (j := 3) rfl
          have y3 : wc.frozen? ⟨wl.heap.size, 3, none⟩ = false := keepz hbc (by simp) (by simp [go_sem])
          have z4 := new_cell hbc (j := 4) rfl
          have y4 : wc.frozen? ⟨wl.heap.size, 4, none⟩ = false := keepz hbc (by simp) (by simp [go_sem])
          have z5 := new_cell hbc (j := 5) rfl
          have y5 : wc.frozen? ⟨wl.heap.size, 5, none⟩ = false := keepz hbc (by simp) (by simp [go_sem])
          have z6 := new_cell hbc (j := 6) rfl
          have y6 : wc.frozen? ⟨wl.heap.size, 6, none⟩ = false := keepz hbc (by simp) (by simp [go_sem])
          have z7 := new_cell hbc (j := 7) rfl
          have y7 : wc.frozen? ⟨wl.heap.size, 7, none⟩ = false := keepz hbc (by simp) (by simp [go_sem])
          have z8 := new_cell hbc (j := 8) rfl
          have y8 : wc.frozen? ⟨wl.heap.size, 8, none⟩ = false := keepz hbc (by simp) (by simp [go_sem])
          clear hol hoc hfl hfc
          (refine callL (i := 14) rfl (by kernel_rfl) (by kernel_rfl) (fun K hK => ?_); go_simp)
          (refine hK.out _ _ ?_ (fun hHeld => ?_); (focus (exact HKA.out _ (by ((repeat (first | with_reducible assumption | with_reducible exact Below.refl _ _ | refine Below.setCell ?_ (by (first | omega | (simp; omega) | (simp; done) | fail "sml")) _ | refine Below.drew ?_ | refine Below.alloc ?_ (by (first | omega | (simp; omega) | (simp; done) | fail "sml")) _)); first | done | fail "chs")))); clear hK K; (try simp only [Act.put, List.setIfInBounds_toArray, List.set_cons_zero, List.set_cons_succ]))
          refine wpAnyH_done (by kernel_rfl) ?_ _
          go_wp2_with fail
          go_meet
          exact ⟨wl.heap.size, rfl, (by omega), (by simp; omega), pl, cl, pc, cc, FL ++ FC, HEN.out.chg (G := [wl.heap.size]) ((((((((((Chg.refl _ wc).setCell (by simp) _).setCell (by simp) _).setCell (by simp) _).setCell (by simp) _).setCell (by simp) _).setCell (by simp) _).setCell (by simp) _).setCell (by simp) _).setCell (by simp) _) (fun x hx => by have := (HFF.out x hx).2.2; simpa using this), fun x hx => ⟨(HFF.out x hx).1, by have := (HFF.out x hx).2.1; simp; omega, (HFF.out x hx).2.2⟩, ((((((((((hkc).setCell (by simp; omega) _).setCell (by simp; omega) _).setCell (by simp; omega) _).setCell (by simp; omega) _).setCell (by simp; omega) _).setCell (by simp; omega) _).setCell (by simp; omega) _).setCell (by simp; omega) _).setCell (by simp; omega) _), by simp [go_sem, z0], by simp [go_sem, z1], by simp [go_sem, z2], by simp [go_sem, z3], by simp [go_sem, z4], by simp [go_sem, z5], by simp [go_sem, z6], by simp [go_sem, z7], by simp [go_sem, z8], by simp [go_sem, y0], by simp [go_sem, y1], by simp [go_sem, y2], by simp [go_sem, y3], by simp [go_sem, y4], by simp [go_sem, y5], by simp [go_sem, y6], by simp [go_sem, y7], by simp [go_sem, y8]⟩
      · go_simp
        (refine hK.out _ _ ?_ (fun hHeld => ?_); (focus (exact HKA.out _ (by ((repeat (first | with_reducible assumption | with_reducible exact Below.refl _ _ | refine Below.setCell ?_ (by (first | omega | (simp; omega) | (simp; done) | fail "sml")) _ | refine Below.drew ?_ | refine Below.alloc ?_ (by (first | omega | (simp; omega) | (simp; done) | fail "sml")) _)); first | done | fail "chs")))); clear hK K; (try simp only [Act.put, List.setIfInBounds_toArray, List.set_cons_zero, List.set_cons_succ]))
        (refine callL (i := 6) rfl (by kernel_rfl) (by kernel_rfl) (fun K hK => ?_); go_simp)
        go_at_call 16
        refine (CL.out _ (by ((repeat (first | with_reducible assumption | with_reducible exact Below.refl _ _ | refine Below.setCell ?_ (by (first | omega | (simp; omega) | (simp; done) | fail "sml")) _ | refine Below.drew ?_ | refine Below.alloc ?_ (by (first | omega | (simp; omega) | (simp; done) | fail "sml")) _)); first | done | fail "chs"))).mono ?_
        rintro en wl ⟨pl, cl, FL, rfl, hol, hfl, hbl, hkl⟩
        have hzl := hbl.size
        (try simp at hzl)
        go_wp2_with fail
        (refine hK.out _ _ ?_ (fun hHeld => ?_); (focus (exact HKA.out _ (by ((repeat (first | with_reducible assumption | with_reducible exact Below.refl _ _ | refine Below.setCell ?_ (by (first | omega | (simp; omega) | (simp; done) | fail "sml")) _ | refine Below.drew ?_ | refine Below.alloc ?_ (by (first | omega | (simp; omega) | (simp; done) | fail "sml")) _)); first | done | fail "chs")))); clear hK K; (try simp only [Act.put, List.setIfInBounds_toArray, List.set_cons_zero, List.set_cons_succ]))
        (refine callL (i := 9) rfl (by kernel_rfl) (by kernel_rfl) (fun K hK => ?_); go_simp)
        go_at_call 16
        refine (CC.out _ (by ((repeat (first | with_reducible assumption | with_reducible exact Below.refl _ _ | refine Below.setCell ?_ (by (first | omega | (simp; omega) | (simp; done) | fail "sml")) _ | refine Below.drew ?_ | refine Below.alloc ?_ (by (first | omega | (simp; omega) | (simp; done) | fail "sml")) _)); first | done | fail "chs"))).mono ?_
        rintro en wc ⟨pc, cc, FC, rfl, hoc, hfc, hbc, hkc⟩
        have hzc := hbc.size
        (try simp at hzc)
        go_wp2_with fail
        (refine hK.out _ _ ?_ (fun hHeld => ?_); (focus (exact HKA.out _ (by ((repeat (first | with_reducible assumption | with_reducible exact Below.refl _ _ | refine Below.setCell ?_ (by (first | omega | (simp; omega) | (simp; done) | fail "sml")) _ | refine Below.drew ?_ | refine Below.alloc ?_ (by (first | omega | (simp; omega) | (simp; done) | fail "sml")) _)); first | done | fail "chs")))); clear hK K; (try simp only [Act.put, List.setIfInBounds_toArray, List.set_cons_zero, List.set_cons_succ]))
        (refine takeL (i := 12) (v := ?_) rfl (by kernel_rfl) (by kernel_rfl) (by kernel_rfl) (fun _ _ _ h => h) (Or.inl ⟨by kernel_rfl, ?_⟩) (by assumption) ?_; rotate_left; (focus (intro w hSw; (try dsimp only at hSw); go_simp; first | done | with_reducible rfl | fail "take")); (try simp only [Act.put, List.setIfInBounds_toArray, List.set_cons_zero, List.set_cons_succ]))
        have HD := Lib.hid (show ∀ x ∈ FL, x ∉ FC from fun x hx hx2 => by have h1 := (hfl x hx).2; have h2 := (hfc x hx2).1; (try simp at h2); omega)
        have HEN := Lib.hid (show e.Has (.agg #[.bool e.n, .string e.v, .int .i64 e.l.op, .string e.l.a, .slice pl e.l.ks.list.length cl, .int .i64 e.c.op, .string e.c.a, .slice pc e.c.ks.list.length cc, .int .i64 e.d]) (FL ++ FC) wc from ⟨_, _, FL, FC, rfl, rfl, HD.out, hol _ hbc, hoc _ (Below.refl _ _)⟩)
        have HFF := Lib.hid (show ∀ x ∈ FL ++ FC, w.heap.size + 2 ≤ x ∧ x < wc.heap.size ∧ x ≠ w1.heap.size from fun x hx => by
          rcases List.mem_append.1 hx with h | h
          · have h1 := (hfl x h).1; have h2 := (hfl x h).2; (try simp at h1); refine ⟨?_, ?_, ?_⟩ <;> omega
          · have h1 := (hfc x h).1; have h2 := (hfc x h).2; (try simp at h1); refine ⟨?_, ?_, ?_⟩ <;> omega)
        have z0 := show wc.cell? ⟨w1.heap.size, 0, none⟩ = some (.bool false) from keepc hbc (by omega) ((hbl.cell (by first | (simp; done) | (simp; omega))).trans (by simp [go_sem]))
        have y0 : wc.frozen? ⟨w1.heap.size, 0, none⟩ = false := keepz hbc (by omega) (keepz hbl (by simp) (by simp [go_sem]))
        have z1 := show wc.cell? ⟨w1.heap.size, 1, none⟩ = some (.string ⟨#[]⟩) from keepc hbc (by omega) ((hbl.cell (by first | (simp; done) | (simp; omega))).trans (by simp [go_sem]))
        have y1 : wc.frozen? ⟨w1.heap.size, 1, none⟩ = false := keepz hbc (by omega) (keepz hbl (by simp) (by simp [go_sem]))
        have z2 := show wc.cell? ⟨w1.heap.size, 2, none⟩ = some (.int .i64 0) from keepc hbc (by omega) ((hbl.cell (by first | (simp; done) | (simp; omega))).trans (by simp [go_sem]))
        have y2 : wc.frozen? ⟨w1.heap.size, 2, none⟩ = false := keepz hbc (by omega) (keepz hbl (by simp) (by simp [go_sem]))
        have z3 := show wc.cell? ⟨w1.heap.size, 3, none⟩ = some (.string ⟨#[]⟩) from keepc hbc (by omega) ((hbl.cell (by first | (simp; done) | (simp; omega))).trans (by simp [go_sem]))
        have y3 : wc.frozen? ⟨w1.heap.size, 3, none⟩ = false := keepz hbc (by omega) (keepz hbl (by simp) (by simp [go_sem]))
        have z4 := show wc.cell? ⟨w1.heap.size, 4, none⟩ = some (.slice none 0 0) from keepc hbc (by omega) ((hbl.cell (by first | (simp; done) | (simp; omega))).trans (by simp [go_sem]))
        have y4 : wc.frozen? ⟨w1.heap.size, 4, none⟩ = false := keepz hbc (by omega) (keepz hbl (by simp) (by simp [go_sem]))
        have z5 := show wc.cell? ⟨w1.heap.size, 5, none⟩ = some (.int .i64 0) from keepc hbc (by omega) ((hbl.cell (by first | (simp; done) | (simp; omega))).trans (by simp [go_sem]))
        have y5 : wc.frozen? ⟨w1.heap.size, 5, none⟩ = false := keepz hbc (by omega) (keepz hbl (by simp) (by simp [go_sem]))
        have z6 := show wc.cell? ⟨w1.heap.size, 6, none⟩ = some (.string ⟨#[]⟩) from keepc hbc (by omega) ((hbl.cell (by first | (simp; done) | (simp; omega))).trans (by simp [go_sem]))
        have y6 : wc.frozen? ⟨w1.heap.size, 6, none⟩ = false := keepz hbc (by omega) (keepz hbl (by simp) (by simp [go_sem]))
        have z7 := show wc.cell? ⟨w1.heap.size, 7, none⟩ = some (.slice none 0 0) from keepc hbc (by omega) ((hbl.cell (by first | (simp; done) | (simp; omega))).trans (by simp [go_sem]))
        have y7 : wc.frozen? ⟨w1.heap.size, 7, none⟩ = false := keepz hbc (by omega) (keepz hbl (by simp) (by simp [go_sem]))
        have z8 := show wc.cell? ⟨w1.heap.size, 8, none⟩ = some (.int .i64 0) from keepc hbc (by omega) ((hbl.cell (by first | (simp; done) | (simp; omega))).trans (by simp [go_sem]))
        have y8 : wc.frozen? ⟨w1.heap.size, 8, none⟩ = false := keepz hbc (by omega) (keepz hbl (by simp) (by simp [go_sem]))
        clear hol hoc hfl hfc
        (refine callL (i := 14) rfl (by kernel_rfl) (by kernel_rfl) (fun K hK => ?_); go_simp)
        (refine hK.out _ _ ?_ (fun hHeld => ?_); (focus (exact HKA.out _ (by ((repeat (first | with_reducible assumption | with_reducible exact Below.refl _ _ | refine Below.setCell ?_ (by (first | omega | (simp; omega) | (simp; done) | fail "sml")) _ | refine Below.drew ?_ | refine Below.alloc ?_ (by (first | omega | (simp; omega) | (simp; done) | fail "sml")) _)); first | done | fail "chs")))); clear hK K; (try simp only [Act.put, List.setIfInBounds_toArray, List.set_cons_zero, List.set_cons_succ]))
        refine wpAnyH_done (by kernel_rfl) ?_ _
        go_wp2_with fail
        go_meet
        exact ⟨w1.heap.size, rfl, (by omega), (by simp; omega), pl, cl, pc, cc, FL ++ FC, HEN.out.chg (G := [w1.heap.size]) ((((((((((Chg.refl _ wc).setCell (by simp) _).setCell (by simp) _).setCell (by simp) _).setCell (by simp) _).setCell (by simp) _).setCell (by simp) _).setCell (by simp) _).setCell (by simp) _).setCell (by simp) _) (fun x hx => by have := (HFF.out x hx).2.2; simpa using this), fun x hx => ⟨(HFF.out x hx).1, by have := (HFF.out x hx).2.1; simp; omega, (HFF.out x hx).2.2⟩, ((((((((((hkc).setCell (by simp; omega) _).setCell (by simp; omega) _).setCell (by simp; omega) _).setCell (by simp; omega) _).setCell (by simp; omega) _).setCell (by simp; omega) _).setCell (by simp; omega) _).setCell (by simp; omega) _).setCell (by simp; omega) _), by simp [go_sem, z0], by simp [go_sem, z1], by simp [go_sem, z2], by simp [go_sem, z3], by simp [go_sem, z4], by simp [go_sem, z5], by simp [go_sem, z6], by simp [go_sem, z7], by simp [go_sem, z8], by simp [go_sem, y0], by simp [go_sem, y1], by simp [go_sem, y2], by simp [go_sem, y3], by simp [go_sem, y4], by simp [go_sem, y5], by simp [go_sem, y6], by simp [go_sem, y7], by simp [go_sem, y8]⟩
    case rest =>
      obtain ⟨b, rfl, hbl, hbu, pl, cl, pc, cc, F, hh, hF, hbx, m0, m1, m2, m3, m4, m5, m6, m7, m8, n0, n1, n2, n3, n4, n5, n6, n7, n8⟩ := hcut
      have HH := Lib.hid hh
      have HF := Lib.hid hF
      have HA := Lib.hid hbx
      clear hh hF hbx r0 rr1
      clear hz c0 c1 c2 c3 c4 c5 c6 c7 c8 d0 d1 d2 d3 d4 d5 d6 d7 d8 f0 f1 f2 f3 f4 f5 f6 f7 f8
      obtain ⟨hz, c0, c1, c2, c3, c4, c5, c6, c7, c8, d0, d1, d2, d3, d4, d5, d6, d7, d8, f0, f1, f2, f3, f4, f5, f6, f7, f8⟩ := HK.out _ HA.out
      have hq := HV.out.trans (HA.out.mono (show w.heap.size ≤ w.heap.size + 2 by omega))
      have hq1 : w.heap.size < b := by omega
      have hq2 : w.heap.size + 1 < b := by omega
      have HD := Lib.hid (And.intro (fun h : (e.d == 1) = true => show turnD e.d = 2 by rw [beq_iff_eq.1 h]; rfl) (And.intro (fun h : (e.d == 2) = true => show turnD e.d = 1 by rw [beq_iff_eq.1 h]; rfl) (fun (h : (e.d == 1) = false) (h2 : (e.d == 2) = false) => turnD_same (beq_eq_false_iff_ne.1 h) (beq_eq_false_iff_ne.1 h2))))
      have hw1 : (e.d == 1) = true → IntKind.i64.wrap (3 - e.d) = 2 := fun h => by rw [beq_iff_eq.1 h]; rfl
      have hw2 : (e.d == 2) = true → IntKind.i64.wrap (3 - e.d) = 1 := fun h => by rw [beq_iff_eq.1 h]; rfl
      cases hb1 : (e.d == 1) with
      | true =>
        have HD := Lib.hid (HD.out.1 hb1)
        have hw := hw1 hb1
        clear hw1 hw2
        go_wp2_with fail
        refine bodyPost_ret (v := .tuple #[.agg #[.bool e.n, .string e.v, .int .i64 e.l.op, .string e.l.a, .slice pl e.l.ks.list.length cl, .int .i64 e.c.op, .string e.c.a, .slice pc e.c.ks.list.length cc, .int .i64 2], .bool true]) (by simp [results, Tryd.results7, go_sem, d0, d1, d2, d3, d4, d5, d6, d7, d8]) rfl ⟨_, F, by rw [HVE.out], by rw [HT.out]; exact HD.out ▸ (HH.out.chg (G := [b, w.heap.size + 1]) (((((((((((Chg.refl _ _).setCell (by simp) _).setCell (by simp) _).setCell (by simp) _).setCell (by simp) _).setCell (by simp) _).setCell (by simp) _).setCell (by simp) _).setCell (by simp) _).setCell (by simp) _).setCell (by simp) _) (fun x hx => by have h1 := HF.out x hx; simp; omega)).turned, fun x hx => by have := HF.out x hx; omega, ((((((((((hq.setCell (by simp; omega) _).setCell (by simp) _).setCell (by simp) _).setCell (by simp) _).setCell (by simp) _).setCell (by simp) _).setCell (by simp) _).setCell (by simp) _).setCell (by simp) _).setCell (by simp) _)⟩
      | false =>
        cases hb2 : (e.d == 2) with
        | true =>
          have HD := Lib.hid (HD.out.2.1 hb2)
          have hw := hw2 hb2
          clear hw1 hw2
          go_wp2_with fail
          refine bodyPost_ret (v := .tuple #[.agg #[.bool e.n, .string e.v, .int .i64 e.l.op, .string e.l.a, .slice pl e.l.ks.list.length cl, .int .i64 e.c.op, .string e.c.a, .slice pc e.c.ks.list.length cc, .int .i64 1], .bool true]) (by simp [results, Tryd.results7, go_sem, d0, d1, d2, d3, d4, d5, d6, d7, d8]) rfl ⟨_, F, by rw [HVE.out], by rw [HT.out]; exact HD.out ▸ (HH.out.chg (G := [b, w.heap.size + 1]) (((((((((((Chg.refl _ _).setCell (by simp) _).setCell (by simp) _).setCell (by simp) _).setCell (by simp) _).setCell (by simp) _).setCell (by simp) _).setCell (by simp) _).setCell (by simp) _).setCell (by simp) _).setCell (by simp) _) (fun x hx => by have h1 := HF.out x hx; simp; omega)).turned, fun x hx => by have := HF.out x hx; omega, ((((((((((hq.setCell (by simp; omega) _).setCell (by simp) _).setCell (by simp) _).setCell (by simp) _).setCell (by simp) _).setCell (by simp) _).setCell (by simp) _).setCell (by simp) _).setCell (by simp) _).setCell (by simp) _)⟩
        | false =>
          have HD := Lib.hid (HD.out.2.2 hb1 hb2)
          clear hw1 hw2
          go_wp2_with fail
          refine bodyPost_ret (v := .tuple #[.agg #[.bool e.n, .string e.v, .int .i64 e.l.op, .string e.l.a, .slice pl e.l.ks.list.length cl, .int .i64 e.c.op, .string e.c.a, .slice pc e.c.ks.list.length cc, .int .i64 e.d], .bool true]) (by simp [results, Tryd.results7, go_sem, d0, d1, d2, d3, d4, d5, d6, d7, d8]) rfl ⟨_, F, by rw [HVE.out], by rw [HT.out]; exact HD.out ▸ (HH.out.chg (G := [b, w.heap.size + 1]) ((((((((((Chg.refl _ _).setCell (by simp) _).setCell (by simp) _).setCell (by simp) _).setCell (by simp) _).setCell (by simp) _).setCell (by simp) _).setCell (by simp) _).setCell (by simp) _).setCell (by simp) _) (fun x hx => by have h1 := HF.out x hx; simp; omega)).turned, fun x hx => by have := HF.out x hx; omega, ((((((((((hq).setCell (by simp) _).setCell (by simp) _).setCell (by simp) _).setCell (by simp) _).setCell (by simp) _).setCell (by simp) _).setCell (by simp) _).setCell (by simp) _).setCell (by simp) _)⟩
end Go.Proofs.YtpojfgapldgigaaDoor
