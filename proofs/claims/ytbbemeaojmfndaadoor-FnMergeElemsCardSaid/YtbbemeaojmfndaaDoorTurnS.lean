/- Elements turned, in the model: spec.l3Copy, l3Turn, TurnElem. -/
import Derived.Test.YtbbemeaojmfndaaDoorCopyX
import Derived.Test.YtbbemeaojmfndaaDoorElV
import Derived.Test.YtbbemeaojmfndaaDoorM2q0p1
import Derived.Test.YtbbemeaojmfndaaDoorM0q0p1
namespace Go.Proofs.YtbbemeaojmfndaaDoor
open Go.RowKit

def turnD (d : Int) : Int := if d = 1 ∨ d = 2 then 3 - d else d
def El.turn (e : El) : El := ⟨e.n, e.v, e.l, e.c, turnD e.d⟩
def noEl : El := ⟨false, ⟨#[]⟩, ⟨0, ⟨#[]⟩, .nil⟩, ⟨0, ⟨#[]⟩, .nil⟩, 0⟩
def turnR (e : El) : El := if elemV e then e.turn else noEl
theorem turnR_bad {e : El} (h : elemV e = false) : turnR e = noEl := by unfold turnR; rw [h]; rfl
theorem turnR_ok {e : El} (h : elemV e = true) : turnR e = e.turn := by unfold turnR; rw [h]; rfl
theorem noEl_has (w : World) : noEl.Has (.agg #[.bool false, .string ⟨#[]⟩, .int .i64 0, .string ⟨#[]⟩, .slice none 0 0, .int .i64 0, .string ⟨#[]⟩, .slice none 0 0, .int .i64 0]) [] w := ⟨_, _, [], [], rfl, rfl, by simp, Fo.Own.empty w, Fo.Own.empty w⟩
theorem exV_ks {kind : Int} {e : Ex} (h : partV kind e = true) : e.ks.size ≤ 4096 := by
  unfold partV at h
  simp only [Bool.or_eq_true] at h
  rcases h with h | h
  · unfold exNone noneB at h
    simp only [Bool.and_eq_true, decide_eq_true_eq] at h
    have := Fo.list_nil (List.eq_nil_of_length_eq_zero h.2.2)
    rw [this]; exact Nat.zero_le _
  · unfold exV at h
    simp only [Bool.and_eq_true, decide_eq_true_eq] at h
    have := h.2.2
    unfold Ex.size at this; omega
theorem elemV_ks {e : El} (h : elemV e = true) : e.l.ks.size ≤ 4096 ∧ e.c.ks.size ≤ 4096 := by
  unfold elemV at h
  simp only [Bool.and_eq_true] at h
  exact ⟨exV_ks h.2.2.1, exV_ks h.2.2.2⟩
theorem turnR_size (e : El) : (turnR e).l.ks.size + (turnR e).c.ks.size ≤ 2097152 := by
  cases h : elemV e with
  | false => rw [turnR_bad h]; exact Nat.zero_le _
  | true => rw [turnR_ok h]; have := elemV_ks h; show e.l.ks.size + e.c.ks.size ≤ _; omega
theorem turnD_same {d : Int} (h : d ≠ 1) (h2 : d ≠ 2) : turnD d = d := by unfold turnD; rw [if_neg (by omega)]
theorem turnD_turn {d : Int} (h : d = 1 ∨ d = 2) : turnD d = 3 - d := by unfold turnD; rw [if_pos h]
theorem El.Has.turned {e : El} {k k' : Value} {F : List Nat} {w : World} (h : e.Has (.agg #[.bool e.n, .string e.v, .int .i64 e.l.op, .string e.l.a, k, .int .i64 e.c.op, .string e.c.a, k', .int .i64 e.d]) F w) :
    e.turn.Has (.agg #[.bool e.n, .string e.v, .int .i64 e.l.op, .string e.l.a, k, .int .i64 e.c.op, .string e.c.a, k', .int .i64 (turnD e.d)]) F w := by
  obtain ⟨k0, k1, F1, F2, e1, e2, e3, e4, e5⟩ := h
  simp only [Value.agg.injEq, Array.mk.injEq, List.cons.injEq, true_and, and_true] at e1
  obtain ⟨rfl, rfl⟩ := e1
  exact ⟨_, _, F1, F2, rfl, e2, e3, e4, e5⟩

set_option maxRecDepth 100000 in
set_option maxHeartbeats 8000000 in
theorem l3Copy_any (e : El) (u : Value) (B : Nat) (w : World) (hu : e.At B w u) (hB : B ≤ w.heap.size) (h1 : e.l.ks.size ≤ 2000000) (h2 : e.c.ks.size ≤ 2000000) :
    Calls Tryd.prog 55 #[u] w fun en w' => ∃ v' F, en = .returned v' ∧ e.Has v' F w' ∧ (∀ x ∈ F, w.heap.size ≤ x) ∧ Below w.heap.size w w' := by
  obtain ⟨p, cap, p', cap', rfl, hl, hc⟩ := hu.form
  have HU := Lib.hid hu
  have HL := Lib.hid hl
  have HC := Lib.hid hc
  clear hu hl hc
  obtain ⟨W0, eW⟩ : ∃ W0, W0 = (w.alloc (.cells #[.bool e.n, .string e.v, .int .i64 e.l.op, .string e.l.a, .slice p e.l.ks.list.length cap, .int .i64 e.c.op, .string e.c.a, .slice p' e.c.ks.list.length cap', .int .i64 e.d] 27)).alloc (.cells #[.bool false, .string ⟨#[]⟩, .int .i64 0, .string ⟨#[]⟩, .slice none 0 0, .int .i64 0, .string ⟨#[]⟩, .slice none 0 0, .int .i64 0] 27) := ⟨_, rfl⟩
  have HV := Lib.hid (show Below w.heap.size w W0 by rw [eW]; exact ((Below.refl w.heap.size w).alloc (by simp) _).alloc (by simp) _)
  have hs0 : w.heap.size + 2 ≤ W0.heap.size := by rw [eW]; simp
  have HKA := Lib.hid (show ∀ wk, Below (w.heap.size + 1) W0 wk → wk.cell? ⟨w.heap.size, 0, none⟩ = some (.bool e.n) ∧ wk.cell? ⟨w.heap.size, 1, none⟩ = some (.string e.v) ∧ wk.cell? ⟨w.heap.size, 2, none⟩ = some (.int .i64 e.l.op) ∧ wk.cell? ⟨w.heap.size, 3, none⟩ = some (.string e.l.a) ∧ wk.cell? ⟨w.heap.size, 4, none⟩ = some (.slice p e.l.ks.list.length cap) ∧ wk.cell? ⟨w.heap.size, 5, none⟩ = some (.int .i64 e.c.op) ∧ wk.cell? ⟨w.heap.size, 6, none⟩ = some (.string e.c.a) ∧ wk.cell? ⟨w.heap.size, 7, none⟩ = some (.slice p' e.c.ks.list.length cap') ∧ wk.cell? ⟨w.heap.size, 8, none⟩ = some (.int .i64 e.d) from
    fun wk hk => by rw [eW] at hk; exact ⟨keepc hk (by omega) (by simp [go_sem]), keepc hk (by omega) (by simp [go_sem]), keepc hk (by omega) (by simp [go_sem]), keepc hk (by omega) (by simp [go_sem]), keepc hk (by omega) (by simp [go_sem]), keepc hk (by omega) (by simp [go_sem]), keepc hk (by omega) (by simp [go_sem]), keepc hk (by omega) (by simp [go_sem]), keepc hk (by omega) (by simp [go_sem])⟩)
  have HKZ := Lib.hid (show ∀ wk, Below (w.heap.size + 2) W0 wk → w.heap.size + 2 ≤ wk.heap.size ∧ wk.cell? ⟨w.heap.size + 1, 0, none⟩ = some (.bool false) ∧ wk.cell? ⟨w.heap.size + 1, 1, none⟩ = some (.string ⟨#[]⟩) ∧ wk.cell? ⟨w.heap.size + 1, 2, none⟩ = some (.int .i64 0) ∧ wk.cell? ⟨w.heap.size + 1, 3, none⟩ = some (.string ⟨#[]⟩) ∧ wk.cell? ⟨w.heap.size + 1, 4, none⟩ = some (.slice none 0 0) ∧ wk.cell? ⟨w.heap.size + 1, 5, none⟩ = some (.int .i64 0) ∧ wk.cell? ⟨w.heap.size + 1, 6, none⟩ = some (.string ⟨#[]⟩) ∧ wk.cell? ⟨w.heap.size + 1, 7, none⟩ = some (.slice none 0 0) ∧ wk.cell? ⟨w.heap.size + 1, 8, none⟩ = some (.int .i64 0) ∧ wk.frozen? ⟨w.heap.size + 1, 0, none⟩ = false ∧ wk.frozen? ⟨w.heap.size + 1, 1, none⟩ = false ∧ wk.frozen? ⟨w.heap.size + 1, 2, none⟩ = false ∧ wk.frozen? ⟨w.heap.size + 1, 3, none⟩ = false ∧ wk.frozen? ⟨w.heap.size + 1, 4, none⟩ = false ∧ wk.frozen? ⟨w.heap.size + 1, 5, none⟩ = false ∧ wk.frozen? ⟨w.heap.size + 1, 6, none⟩ = false ∧ wk.frozen? ⟨w.heap.size + 1, 7, none⟩ = false ∧ wk.frozen? ⟨w.heap.size + 1, 8, none⟩ = false from
    fun wk hk => by rw [eW] at hk; exact ⟨by have := hk.size; simp at this; omega, keepc hk (by omega) (by simp [go_sem]), keepc hk (by omega) (by simp [go_sem]), keepc hk (by omega) (by simp [go_sem]), keepc hk (by omega) (by simp [go_sem]), keepc hk (by omega) (by simp [go_sem]), keepc hk (by omega) (by simp [go_sem]), keepc hk (by omega) (by simp [go_sem]), keepc hk (by omega) (by simp [go_sem]), keepc hk (by omega) (by simp [go_sem]), (hk.frozen (by simp)).trans (by simp [go_sem]), (hk.frozen (by simp)).trans (by simp [go_sem]), (hk.frozen (by simp)).trans (by simp [go_sem]), (hk.frozen (by simp)).trans (by simp [go_sem]), (hk.frozen (by simp)).trans (by simp [go_sem]), (hk.frozen (by simp)).trans (by simp [go_sem]), (hk.frozen (by simp)).trans (by simp [go_sem]), (hk.frozen (by simp)).trans (by simp [go_sem]), (hk.frozen (by simp)).trans (by simp [go_sem])⟩)
  have HA := Lib.hid (Below.refl (w.heap.size + 2) W0)
  have HBK := Lib.hid (show ∀ wk, Below (w.heap.size + 2) W0 wk → Below B w wk from fun wk hk => (HV.out.trans (hk.mono (by omega))).mono hB)
  have HEA := Lib.hid (show ∀ wk, Below (w.heap.size + 2) W0 wk → e.At B wk (.agg #[.bool e.n, .string e.v, .int .i64 e.l.op, .string e.l.a, .slice p e.l.ks.list.length cap, .int .i64 e.c.op, .string e.c.a, .slice p' e.c.ks.list.length cap', .int .i64 e.d]) from fun wk hk => HU.out.below (HBK.out wk hk) (Nat.le_refl _))
  have CL := Lib.hid (fun (E : World) (hE : Below (w.heap.size + 2) W0 E) => (l2CopyN 2000000 e.l h1 (Nat.le_refl _) _ B E (HL.out.below (HBK.out _ hE) (Nat.le_refl _)) (by have := hE.size; omega)).mono (R' := fun en w' => ∃ p c F, en = .returned (.agg #[.int .i64 e.l.op, .string e.l.a, .slice p e.l.ks.list.length c]) ∧ (∀ X, Below w'.heap.size w' X → e.l.ks.Own X (.slice p e.l.ks.list.length c) F) ∧ (∀ x ∈ F, E.heap.size ≤ x ∧ x < w'.heap.size) ∧ Below E.heap.size E w' ∧ Below (w.heap.size + 2) W0 w') fun en w' ⟨p, c, F, he, ho, hF, hb⟩ => ⟨p, c, F, he, fun X hX => ho.below hX, fun x hx => ⟨hF x hx, ho.lt x hx⟩, hb, hE.trans (hb.mono (by have := hE.size; omega))⟩)
  have CC := Lib.hid (fun (E : World) (hE : Below (w.heap.size + 2) W0 E) => (l2CopyN 2000000 e.c h2 (Nat.le_refl _) _ B E (HC.out.below (HBK.out _ hE) (Nat.le_refl _)) (by have := hE.size; omega)).mono (R' := fun en w' => ∃ p c F, en = .returned (.agg #[.int .i64 e.c.op, .string e.c.a, .slice p e.c.ks.list.length c]) ∧ (∀ X, Below w'.heap.size w' X → e.c.ks.Own X (.slice p e.c.ks.list.length c) F) ∧ (∀ x ∈ F, E.heap.size ≤ x ∧ x < w'.heap.size) ∧ Below E.heap.size E w' ∧ Below (w.heap.size + 2) W0 w') fun en w' ⟨p, c, F, he, ho, hF, hb⟩ => ⟨p, c, F, he, fun X hX => ho.below hX, fun x hx => ⟨hF x hx, ho.lt x hx⟩, hb, hE.trans (hb.mono (by have := hE.size; omega))⟩)
  have EW := Lib.hid eW
  clear eW h1 h2
  have r0 := Below.refl (w.heap.size + 2) W0
  have r1 := Below.refl (w.heap.size + 1) W0
  go_enter Tryd.func55, Tryd.ntmps55
  go_upto_region 1 with fail
  rw [← EW.out]
  have HKS := Lib.hid (fun (u : World) (hu : Below (w.heap.size + 2) W0 u) => (HKZ.out u hu).2)
  go_cut [2] (fun s wx => s = .pointer (some ⟨w.heap.size + 1, 0, none⟩) ∧ ∃ pl cl pc cc F, e.Has (.agg #[.bool e.n, .string e.v, .int .i64 e.l.op, .string e.l.a, .slice pl e.l.ks.list.length cl, .int .i64 e.c.op, .string e.c.a, .slice pc e.c.ks.list.length cc, .int .i64 e.d]) F wx ∧ (∀ x ∈ F, w.heap.size + 2 ≤ x) ∧ Below (w.heap.size + 1) W0 wx ∧ wx.cell? ⟨w.heap.size + 1, 0, none⟩ = some (.bool e.n) ∧ wx.cell? ⟨w.heap.size + 1, 1, none⟩ = some (.string e.v) ∧ wx.cell? ⟨w.heap.size + 1, 2, none⟩ = some (.int .i64 e.l.op) ∧ wx.cell? ⟨w.heap.size + 1, 3, none⟩ = some (.string e.l.a) ∧ wx.cell? ⟨w.heap.size + 1, 4, none⟩ = some (.slice pl e.l.ks.list.length cl) ∧ wx.cell? ⟨w.heap.size + 1, 5, none⟩ = some (.int .i64 e.c.op) ∧ wx.cell? ⟨w.heap.size + 1, 6, none⟩ = some (.string e.c.a) ∧ wx.cell? ⟨w.heap.size + 1, 7, none⟩ = some (.slice pc e.c.ks.list.length cc) ∧ wx.cell? ⟨w.heap.size + 1, 8, none⟩ = some (.int .i64 e.d))
  case first =>
    refine wp_region_held_drew (S := fun w' => w'.cell? ⟨w.heap.size, 0, none⟩ = some (.bool e.n) ∧ w'.cell? ⟨w.heap.size, 1, none⟩ = some (.string e.v) ∧ w'.cell? ⟨w.heap.size, 2, none⟩ = some (.int .i64 e.l.op) ∧ w'.cell? ⟨w.heap.size, 3, none⟩ = some (.string e.l.a) ∧ w'.cell? ⟨w.heap.size, 4, none⟩ = some (.slice p e.l.ks.list.length cap) ∧ w'.cell? ⟨w.heap.size, 5, none⟩ = some (.int .i64 e.c.op) ∧ w'.cell? ⟨w.heap.size, 6, none⟩ = some (.string e.c.a) ∧ w'.cell? ⟨w.heap.size, 7, none⟩ = some (.slice p' e.c.ks.list.length cap') ∧ w'.cell? ⟨w.heap.size, 8, none⟩ = some (.int .i64 e.d)) (by kernel_rfl) ?_ (fun hHeld => ?_)
    · exact HKA.out _ (by ((repeat (first | with_reducible assumption | with_reducible exact Below.refl _ _ | refine Below.setCell ?_ (by (first | omega | (simp; omega) | (simp; done) | fail "sml")) _ | refine Below.drew ?_ | refine Below.alloc ?_ (by (first | omega | (simp; omega) | (simp; done) | fail "sml")) _)); first | done | fail "chs"))
    (refine takeL (i := 0) (v := ?_) rfl (by kernel_rfl) (by kernel_rfl) (by kernel_rfl) (fun _ _ _ h => h) (Or.inl ⟨by kernel_rfl, ?_⟩) (by assumption) ?_; rotate_left; (focus (intro w hSw; (try dsimp only at hSw); go_simp; first | done | with_reducible rfl | fail "take")); (try simp only [Act.put, List.setIfInBounds_toArray, List.set_cons_zero, List.set_cons_succ]))
    (refine takeL (i := 1) (v := ?_) rfl (by kernel_rfl) (by kernel_rfl) (by kernel_rfl) (fun _ _ _ h => h) (Or.inl ⟨by kernel_rfl, ?_⟩) (by assumption) ?_; rotate_left; (focus (intro w hSw; (try dsimp only at hSw); go_simp; first | done | with_reducible rfl | fail "take")); (try simp only [Act.put, List.setIfInBounds_toArray, List.set_cons_zero, List.set_cons_succ]))
    (refine takeL (i := 2) (v := ?_) rfl (by kernel_rfl) (by kernel_rfl) (by kernel_rfl) (fun _ _ _ h => h) (Or.inl ⟨by kernel_rfl, ?_⟩) (by assumption) ?_; rotate_left; (focus (intro w hSw; (try dsimp only at hSw); go_simp; first | done | with_reducible rfl | fail "take")); (try simp only [Act.put, List.setIfInBounds_toArray, List.set_cons_zero, List.set_cons_succ]))
    (refine takeL (i := 3) (v := ?_) rfl (by kernel_rfl) (by kernel_rfl) (by kernel_rfl) (fun _ _ _ h => h) (Or.inl ⟨by kernel_rfl, ?_⟩) (by assumption) ?_; rotate_left; (focus (intro w hSw; (try dsimp only at hSw); go_simp; first | done | with_reducible rfl | fail "take")); (try simp only [Act.put, List.setIfInBounds_toArray, List.set_cons_zero, List.set_cons_succ]))
    (refine takeL (i := 4) (v := ?_) rfl (by kernel_rfl) (by kernel_rfl) (by kernel_rfl) (fun _ _ _ h => h) (Or.inl ⟨by kernel_rfl, ?_⟩) (by assumption) ?_; rotate_left; (focus (intro w hSw; (try dsimp only at hSw); go_simp; first | done | with_reducible rfl | fail "take")); (try simp only [Act.put, List.setIfInBounds_toArray, List.set_cons_zero, List.set_cons_succ]))
    (refine takeL (i := 5) (v := ?_) rfl (by kernel_rfl) (by kernel_rfl) (by kernel_rfl) (fun _ _ _ h => h) (Or.inl ⟨by kernel_rfl, ?_⟩) (by assumption) ?_; rotate_left; (focus (intro w hSw; (try dsimp only at hSw); go_simp; first | done | with_reducible rfl | fail "take")); (try simp only [Act.put, List.setIfInBounds_toArray, List.set_cons_zero, List.set_cons_succ]))
    (refine takeL (i := 7) (v := ?_) rfl (by kernel_rfl) (by kernel_rfl) (by kernel_rfl) (fun _ _ _ h => h) (Or.inl ⟨by kernel_rfl, ?_⟩) (by assumption) ?_; rotate_left; (focus (intro w hSw; (try dsimp only at hSw); go_simp; first | done | with_reducible rfl | fail "take")); (try simp only [Act.put, List.setIfInBounds_toArray, List.set_cons_zero, List.set_cons_succ]))
    (refine takeL (i := 8) (v := ?_) rfl (by kernel_rfl) (by kernel_rfl) (by kernel_rfl) (fun _ _ _ h => h) (Or.inl ⟨by kernel_rfl, ?_⟩) (by assumption) ?_; rotate_left; (focus (intro w hSw; (try dsimp only at hSw); go_simp; first | done | with_reducible rfl | fail "take")); (try simp only [Act.put, List.setIfInBounds_toArray, List.set_cons_zero, List.set_cons_succ]))
    (refine takeL (i := 10) (v := ?_) rfl (by kernel_rfl) (by kernel_rfl) (by kernel_rfl) (fun _ _ _ h => h) (Or.inl ⟨by kernel_rfl, ?_⟩) (by assumption) ?_; rotate_left; (focus (intro w hSw; (try dsimp only at hSw); go_simp; first | done | with_reducible rfl | fail "take")); (try simp only [Act.put, List.setIfInBounds_toArray, List.set_cons_zero, List.set_cons_succ]))
    (refine takeL (i := 11) (v := ?_) rfl (by kernel_rfl) (by kernel_rfl) (by kernel_rfl) (fun _ _ _ h => h) (Or.inl ⟨by kernel_rfl, ?_⟩) (by assumption) ?_; rotate_left; (focus (intro w hSw; (try dsimp only at hSw); go_simp; first | done | with_reducible rfl | fail "take")); (try simp only [Act.put, List.setIfInBounds_toArray, List.set_cons_zero, List.set_cons_succ]))
    (refine callL (i := 6) rfl (by kernel_rfl) (by kernel_rfl) (fun K hK => ?_); go_simp)
    go_at_call 61
    refine (CL.out _ (by ((repeat (first | with_reducible assumption | with_reducible exact Below.refl _ _ | refine Below.setCell ?_ (by (first | omega | (simp; omega) | (simp; done) | fail "sml")) _ | refine Below.drew ?_ | refine Below.alloc ?_ (by (first | omega | (simp; omega) | (simp; done) | fail "sml")) _)); first | done | fail "chs"))).mono ?_
    rintro en wl ⟨pl, cl, FL, rfl, hol, hfl, hbl, hkl⟩
    have HOL := Lib.hid hol
    have HFL := Lib.hid (show ∀ x ∈ FL, w.heap.size + 2 ≤ x ∧ x < wl.heap.size from fun x hx => ⟨by have h1 := (hfl x hx).1; have h2 := (show Below (w.heap.size + 2) W0 _ by ((repeat (first | with_reducible assumption | with_reducible exact Below.refl _ _ | refine Below.setCell ?_ (by (first | omega | (simp; omega) | (simp; done) | fail "sml")) _ | refine Below.drew ?_ | refine Below.alloc ?_ (by (first | omega | (simp; omega) | (simp; done) | fail "sml")) _)); first | done | fail "chs")).size; (try simp at h1); omega, (hfl x hx).2⟩)
    clear hol hfl hbl
    have hkl1 := hkl.mono (show w.heap.size + 1 ≤ w.heap.size + 2 by omega)
    go_wp2_with fail
    (refine hK.out _ _ ?_ (fun hHeld => ?_); (focus (exact HKA.out _ (by ((repeat (first | with_reducible assumption | with_reducible exact Below.refl _ _ | refine Below.setCell ?_ (by (first | omega | (simp; omega) | (simp; done) | fail "sml")) _ | refine Below.drew ?_ | refine Below.alloc ?_ (by (first | omega | (simp; omega) | (simp; done) | fail "sml")) _)); first | done | fail "chs")))); clear hK K; (try simp only [Act.put, List.setIfInBounds_toArray, List.set_cons_zero, List.set_cons_succ]))
    (refine callL (i := 9) rfl (by kernel_rfl) (by kernel_rfl) (fun K hK => ?_); go_simp)
    go_at_call 61
    refine (CC.out _ (by ((repeat (first | with_reducible assumption | with_reducible exact Below.refl _ _ | refine Below.setCell ?_ (by (first | omega | (simp; omega) | (simp; done) | fail "sml")) _ | refine Below.drew ?_ | refine Below.alloc ?_ (by (first | omega | (simp; omega) | (simp; done) | fail "sml")) _)); first | done | fail "chs"))).mono ?_
    rintro en wc ⟨pc, cc, FC, rfl, hoc, hfc, hbc, hkc⟩
    have HOC := Lib.hid (hoc _ (Below.refl _ _))
    have HFC := Lib.hid (show ∀ x ∈ FC, wl.heap.size ≤ x from fun x hx => (hfc x hx).1)
    have HOL2 := Lib.hid (HOL.out _ hbc)
    have hwl := hkl.size
    have HDI := Lib.hid (show ∀ x ∈ FL, x ∉ FC from fun x hx hx2 => by have h1 := (HFL.out x hx).2; have h2 := HFC.out x hx2; omega)
    have HLO := Lib.hid (show ∀ x ∈ FL ++ FC, w.heap.size + 2 ≤ x from fun x hx => (List.mem_append.1 hx).elim (fun hx => (HFL.out x hx).1) (fun hx => by have := HFC.out x hx; omega))
    clear hoc hfc hbc hkl
    have hkc1 := hkc.mono (show w.heap.size + 1 ≤ w.heap.size + 2 by omega)
    go_wp2_with fail
    (refine hK.out _ _ ?_ (fun hHeld => ?_); (focus (exact HKA.out _ (by ((repeat (first | with_reducible assumption | with_reducible exact Below.refl _ _ | refine Below.setCell ?_ (by (first | omega | (simp; omega) | (simp; done) | fail "sml")) _ | refine Below.drew ?_ | refine Below.alloc ?_ (by (first | omega | (simp; omega) | (simp; done) | fail "sml")) _)); first | done | fail "chs")))); clear hK K; (try simp only [Act.put, List.setIfInBounds_toArray, List.set_cons_zero, List.set_cons_succ]))
    obtain ⟨hzz, q0, q1, q2, q3, q4, q5, q6, q7, q8, f0, f1, f2, f3, f4, f5, f6, f7, f8⟩ := HKZ.out _ hkc
    have HW := Lib.hid hkc
    have HEND := Lib.hid (show e.Has (.agg #[.bool e.n, .string e.v, .int .i64 e.l.op, .string e.l.a, .slice pl e.l.ks.list.length cl, .int .i64 e.c.op, .string e.c.a, .slice pc e.c.ks.list.length cc, .int .i64 e.d]) (FL ++ FC) wc from ⟨_, _, FL, FC, rfl, rfl, HDI.out, HOL2.out, HOC.out⟩)
    (refine takeL (i := 12) (v := ?_) rfl (by kernel_rfl) (by kernel_rfl) (by kernel_rfl) (fun _ _ _ h => h) (Or.inl ⟨by kernel_rfl, ?_⟩) (by assumption) ?_; rotate_left; (focus (intro w hSw; (try dsimp only at hSw); go_simp; first | done | with_reducible rfl | fail "take")); (try simp only [Act.put, List.setIfInBounds_toArray, List.set_cons_zero, List.set_cons_succ]))
    (refine callL (i := 13) rfl (by kernel_rfl) (by kernel_rfl) (fun K hK => ?_); go_simp)
    (refine hK.out _ _ ?_ (fun hHeld => ?_); (focus (exact HKA.out _ (by ((repeat (first | with_reducible assumption | with_reducible exact Below.refl _ _ | refine Below.setCell ?_ (by (first | omega | (simp; omega) | (simp; done) | fail "sml")) _ | refine Below.drew ?_ | refine Below.alloc ?_ (by (first | omega | (simp; omega) | (simp; done) | fail "sml")) _)); first | done | fail "chs")))); clear hK K; (try simp only [Act.put, List.setIfInBounds_toArray, List.set_cons_zero, List.set_cons_succ]))
    refine wpAnyH_done (by kernel_rfl) ?_ _
    go_wp2_with fail
    go_meet
    exact ⟨rfl, pl, cl, pc, cc, FL ++ FC, HEND.out.chg (G := [w.heap.size + 1]) (by (repeat (first | refine Chg.setCell ?_ (by simp) _ | with_reducible exact Chg.refl _ _))) (fun x hx => by have := HLO.out x hx; simp; omega), HLO.out, (by ((repeat (first | with_reducible assumption | with_reducible exact Below.refl _ _ | refine Below.setCell ?_ (by (first | omega | (simp; omega) | (simp; done) | fail "sml")) _ | refine Below.drew ?_ | refine Below.alloc ?_ (by (first | omega | (simp; omega) | (simp; done) | fail "sml")) _)); first | done | fail "chs")), by simp [go_sem, *], by simp [go_sem, *], by simp [go_sem, *], by simp [go_sem, *], by simp [go_sem, *], by simp [go_sem, *], by simp [go_sem, *], by simp [go_sem, *], by simp [go_sem, *]⟩
  case rest =>
    obtain ⟨rfl, pl, cl, pc, cc, F, hh, hF, hbx, q0, q1, q2, q3, q4, q5, q6, q7, q8⟩ := hcut
    have HH := Lib.hid hh
    have HF := Lib.hid hF
    have HB := Lib.hid (HV.out.trans (hbx.mono (by omega)))
    clear hh hF hbx
    go_wp2_with fail
    exact bodyPost_ret (v := .agg #[.bool e.n, .string e.v, .int .i64 e.l.op, .string e.l.a, .slice pl e.l.ks.list.length cl, .int .i64 e.c.op, .string e.c.a, .slice pc e.c.ks.list.length cc, .int .i64 e.d]) (by simp [results, Tryd.results55, go_sem, q0, q1, q2, q3, q4, q5, q6, q7, q8]) rfl ⟨_, F, rfl, HH.out, fun x hx => by have := HF.out x hx; omega, HB.out⟩
end Go.Proofs.YtbbemeaojmfndaaDoor
