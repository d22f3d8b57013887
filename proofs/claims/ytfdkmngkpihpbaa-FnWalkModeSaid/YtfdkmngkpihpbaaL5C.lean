/- l5Copy: the same walk, in memory of the call's own. -/
import Derived.Test.YtfdkmngkpihpbaaDr2
namespace Go.Proofs.Ytfdkmngkpihpbaa
open Go.RowKit

/-- The first append: onto an empty row. -/
theorem onto_none {E : World} {s u : Value} {ys : List Int} {B : Nat} (h : OwnI E s [] []) (hu : Sl 1 intCells B E u ys) (hl : ys.length ≤ 3000000) (ty : TypeId) :
    ∃ v' w', (Builtin.append_ #[23, 23] ty #[s, u]).run Try.prog E = .ok v' w' ∧ ∃ F, OwnI w' v' ys F ∧ (∀ y ∈ F, E.heap.size ≤ y) ∧ Below E.heap.size E w' := by
  obtain ⟨v', w', hr, F, h1, h2, h3⟩ := app_ints h hu (by simpa using hl) ty
  exact ⟨v', w', hr, F, by simpa using h1, fun y hy => by rcases h2 y hy with h | h; (simp at h); exact h, h3.below (Nat.le_refl _) (by simp)⟩
/-- A walk's two rows, both in whole blocks of the call's own. -/
def WRows (x : Wk) (v : Value) (lo : Nat) (w : World) : Prop := ∃ a b F1 F2, v = .agg #[a, b] ∧ OwnI w a x.ns F1 ∧ OwnI w b x.es F2 ∧ (∀ y ∈ F1, lo ≤ y) ∧ (∀ y ∈ F2, lo ≤ y) ∧ ∀ y ∈ F1, y ∉ F2

set_option maxRecDepth 100000 in
set_option maxHeartbeats 8000000 in
theorem l5Copy_any (x : Wk) (v : Value) (B : Nat) (w : World) (hx : x.At B w v) (hB : B ≤ w.heap.size) (hn : x.need ≤ 1048576) :
    Calls Try.prog 110 #[v] w fun e w' => ∃ u, e = .returned u ∧ WRows x u w.heap.size w' ∧ Below w.heap.size w w' := by
  obtain ⟨v0, v1, rfl, h0, h1⟩ := hx
  obtain ⟨p, cp, rfl⟩ := h0.form
  obtain ⟨q, cq, rfl⟩ := h1.form
  have HAN := Lib.hid h0
  have HAE := Lib.hid h1
  have hb1 : x.ns.length ≤ 1048576 := by unfold Wk.need at hn; omega
  have hb2 : x.es.length ≤ 1048576 := by unfold Wk.need at hn; omega
  clear h0 h1 hn
  obtain ⟨W, eW⟩ : ∃ W, W = (w.alloc (.cells #[.slice p x.ns.length cp, .slice q x.es.length cq] 25)).alloc (.cells #[.slice none 0 0, .slice none 0 0] 25) := ⟨_, rfl⟩
  have HV := Lib.hid (show Below w.heap.size w W by rw [eW]; exact ((Below.refl _ _).alloc (Nat.le_refl _) _).alloc (by simp) _)
  have hs0 : w.heap.size + 2 ≤ W.heap.size := by rw [eW]; simp
  have HK := Lib.hid (show ∀ wk, Below (w.heap.size + 1) W wk → wk.cell? ⟨w.heap.size, 0, none⟩ = some (.slice p x.ns.length cp) ∧ wk.cell? ⟨w.heap.size, 1, none⟩ = some (.slice q x.es.length cq) from
    fun wk hk => by rw [eW] at hk; exact ⟨keepc hk (by omega) (by simp [go_sem]), keepc hk (by omega) (by simp [go_sem])⟩)
  have HKR := Lib.hid (show ∀ wk, Below (w.heap.size + 2) W wk → wk.cell? ⟨w.heap.size + 1, 0, none⟩ = some (.slice none 0 0) ∧ wk.cell? ⟨w.heap.size + 1, 1, none⟩ = some (.slice none 0 0) ∧ wk.frozen? ⟨w.heap.size + 1, 0, none⟩ = false ∧ wk.frozen? ⟨w.heap.size + 1, 1, none⟩ = false from
    fun wk hk => by
      rw [eW] at hk
      exact ⟨keepc hk (by omega) (by simp [go_sem]), keepc hk (by omega) (by simp [go_sem]), (hk.frozen (p := ⟨w.heap.size + 1, 0, none⟩) (by show w.heap.size + 1 < w.heap.size + 2; omega)).trans (World.frozen?_alloc_at _ _ _ _ (by simp)), (hk.frozen (p := ⟨w.heap.size + 1, 1, none⟩) (by show w.heap.size + 1 < w.heap.size + 2; omega)).trans (World.frozen?_alloc_at _ _ _ _ (by simp))⟩)
  have rr0 := Below.refl (w.heap.size + 2) W
  have rr2 := Below.refl (w.heap.size + 1) W
  have EW := Lib.hid eW
  clear eW
  have CA1 := Lib.hid (fun (E : World) (hE : Below (w.heap.size + 2) W E) (G : Option Addr) (ty : TypeId) => onto_none (OwnI.empty E G) (HAN.out.below ((HV.out.mono hB).trans (hE.mono (by omega)))) (by omega) ty)
  have CB1 := Lib.hid (fun (E : World) (hE : Below (w.heap.size + 2) W E) (G : Option Addr) (ty : TypeId) => onto_none (OwnI.empty E G) (HAE.out.below ((HV.out.mono hB).trans (hE.mono (by omega)))) (by omega) ty)
  go_enter Try.func110, Try.ntmps110
  go_wp2_with fail
  rw [← EW.out]
  go_region_held3 (fun w' => w'.cell? ⟨w.heap.size, 0, none⟩ = some (.slice p x.ns.length cp) ∧ w'.cell? ⟨w.heap.size, 1, none⟩ = some (.slice q x.es.length cq))
    (exact HK.out _ (show Below (w.heap.size + 1) W _ by ((repeat (first | with_reducible assumption | with_reducible exact Below.refl _ _ | refine Below.setCell ?_ (by (first | omega | (simp; omega) | (simp; done) | fail "sml")) _ | refine Below.drew ?_ | refine Below.alloc ?_ (by (first | omega | (simp; omega) | (simp; done) | fail "sml")) _)); first | done | fail "chs")))
    (first
      | (refine step_app_src (by rfl) (.tmp 3) (.tmp 5) 23 (by rfl) _ _ (by rfl) (by rfl) _ (CA1.out _ ?_ _ _) ?_; (· ((repeat (first | with_reducible assumption | with_reducible exact Below.refl _ _ | refine Below.setCell ?_ (by (first | omega | (simp; omega) | (simp; done) | fail "sml")) _ | refine Below.drew ?_ | refine Below.alloc ?_ (by (first | omega | (simp; omega) | (simp; done) | fail "sml")) _)); first | done | fail "chs")); intro vA1 wA1 hv; obtain ⟨FA, h1, h2, h3⟩ := hv; obtain ⟨pA, qA, rfl⟩ := h1.form; have hkA1 := Below.trans (show Below (w.heap.size + 2) W _ by ((repeat (first | with_reducible assumption | with_reducible exact Below.refl _ _ | refine Below.setCell ?_ (by (first | omega | (simp; omega) | (simp; done) | fail "sml")) _ | refine Below.drew ?_ | refine Below.alloc ?_ (by (first | omega | (simp; omega) | (simp; done) | fail "sml")) _)); first | done | fail "chs")) (h3.mono (by (first | omega | (simp; omega) | (simp; done) | fail "sml"))); have zA1 := hkA1.size; obtain ⟨yA0, yA1, yA2, yA3⟩ := HKR.out _ hkA1; have hmA1 := hkA1.mono (Nat.le_succ (w.heap.size + 1)); have rA1 := Below.refl wA1.heap.size wA1; (first | (have sA1 := Below.trans (show Below wB1.heap.size wB1 _ by ((repeat (first | with_reducible assumption | with_reducible exact Below.refl _ _ | refine Below.setCell ?_ (by (first | omega | (simp; omega) | (simp; done) | fail "sml")) _ | refine Below.drew ?_ | refine Below.alloc ?_ (by (first | omega | (simp; omega) | (simp; done) | fail "sml")) _)); first | done | fail "chs")) (h3.mono (by (first | omega | (simp; omega) | (simp; done) | fail "sml")))) | skip); have OA := Lib.hid h1; have GA := Lib.hid (show ∀ y ∈ FA, W.heap.size ≤ y from fun y hy => by have h9 := h2 y hy; (try simp at h9); omega); have EA := Lib.hid h2; clear h1 h2 h3)
      | (refine step_app_src (by rfl) (.tmp 7) (.tmp 9) 23 (by rfl) _ _ (by rfl) (by rfl) _ (CB1.out _ ?_ _ _) ?_; (· ((repeat (first | with_reducible assumption | with_reducible exact Below.refl _ _ | refine Below.setCell ?_ (by (first | omega | (simp; omega) | (simp; done) | fail "sml")) _ | refine Below.drew ?_ | refine Below.alloc ?_ (by (first | omega | (simp; omega) | (simp; done) | fail "sml")) _)); first | done | fail "chs")); intro vB1 wB1 hv; obtain ⟨FB, h1, h2, h3⟩ := hv; obtain ⟨pB, qB, rfl⟩ := h1.form; have hkB1 := Below.trans (show Below (w.heap.size + 2) W _ by ((repeat (first | with_reducible assumption | with_reducible exact Below.refl _ _ | refine Below.setCell ?_ (by (first | omega | (simp; omega) | (simp; done) | fail "sml")) _ | refine Below.drew ?_ | refine Below.alloc ?_ (by (first | omega | (simp; omega) | (simp; done) | fail "sml")) _)); first | done | fail "chs")) (h3.mono (by (first | omega | (simp; omega) | (simp; done) | fail "sml"))); have zB1 := hkB1.size; obtain ⟨yB0, yB1, yB2, yB3⟩ := HKR.out _ hkB1; have hmB1 := hkB1.mono (Nat.le_succ (w.heap.size + 1)); have rB1 := Below.refl wB1.heap.size wB1; (first | (have sB1 := Below.trans (show Below wA1.heap.size wA1 _ by ((repeat (first | with_reducible assumption | with_reducible exact Below.refl _ _ | refine Below.setCell ?_ (by (first | omega | (simp; omega) | (simp; done) | fail "sml")) _ | refine Below.drew ?_ | refine Below.alloc ?_ (by (first | omega | (simp; omega) | (simp; done) | fail "sml")) _)); first | done | fail "chs")) (h3.mono (by (first | omega | (simp; omega) | (simp; done) | fail "sml")))) | skip); have OB := Lib.hid h1; have GB := Lib.hid (show ∀ y ∈ FB, W.heap.size ≤ y from fun y hy => by have h9 := h2 y hy; (try simp at h9); omega); have EB := Lib.hid h2; clear h1 h2 h3)
      | fail "no arm")
  all_goals go_wp2_with fail
  all_goals first
    | exact bodyPost_ret (v := .agg #[.slice pA x.ns.length qA, .slice pB x.es.length qB]) (by simp [results, Try.results110, go_sem, yA0, yA1]) rfl ⟨_, rfl, ⟨_, _, FA, FB, rfl, OA.out.chg (G := [w.heap.size + 1]) (((Chg.refl _ _).setCell (by simp) _).setCell (by simp) _) (fun y hy => by have := GA.out y hy; simp; omega), (OB.out.below sA1).chg (G := [w.heap.size + 1]) (((Chg.refl _ _).setCell (by simp) _).setCell (by simp) _) (fun y hy => by have := GB.out y hy; simp; omega), fun y hy => by have := GA.out y hy; omega, fun y hy => by have := GB.out y hy; omega, fun y hy hy2 => by have h9 := EA.out y hy; have h8 := OB.out.lt y hy2; (try simp at h9); omega⟩, ((HV.out.trans (hkA1.mono (by omega))).setCell (by (first | omega | (simp; omega) | (simp; done) | fail "sml")) _).setCell (by (first | omega | (simp; omega) | (simp; done) | fail "sml")) _⟩
    | exact bodyPost_ret (v := .agg #[.slice pA x.ns.length qA, .slice pB x.es.length qB]) (by simp [results, Try.results110, go_sem, yB0, yB1]) rfl ⟨_, rfl, ⟨_, _, FA, FB, rfl, (OA.out.below sB1).chg (G := [w.heap.size + 1]) (((Chg.refl _ _).setCell (by simp) _).setCell (by simp) _) (fun y hy => by have := GA.out y hy; simp; omega), OB.out.chg (G := [w.heap.size + 1]) (((Chg.refl _ _).setCell (by simp) _).setCell (by simp) _) (fun y hy => by have := GB.out y hy; simp; omega), fun y hy => by have := GA.out y hy; omega, fun y hy => by have := GB.out y hy; omega, fun y hy hy2 => by have h9 := EB.out y hy2; have h8 := OA.out.lt y hy; (try simp at h9); omega⟩, ((HV.out.trans (hkB1.mono (by omega))).setCell (by (first | omega | (simp; omega) | (simp; done) | fail "sml")) _).setCell (by (first | omega | (simp; omega) | (simp; done) | fail "sml")) _⟩
    | fail "end"
end Go.Proofs.Ytfdkmngkpihpbaa
