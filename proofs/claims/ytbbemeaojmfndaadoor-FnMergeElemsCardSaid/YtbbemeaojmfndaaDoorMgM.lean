/- impl.mergeExprs, spec.l7And. -/
import Derived.Test.YtbbemeaojmfndaaDoorM4q0p1
import Derived.Test.YtbbemeaojmfndaaDoorM1q0p1
import Derived.Test.YtbbemeaojmfndaaDoorM0q0p1
namespace Go.Proofs.YtbbemeaojmfndaaDoor
open Go.RowKit

theorem MgPost.fin {a b : Ex} {w w1 : World} {p : Option Addr} {c : Nat} {F : List Nat} {o : Int} {s : ByteArray} {f : Fo} (he : mgX a b = ⟨o, s, f⟩) (ho : f.Own w1 (.slice p f.list.length c) F) (hF : ∀ x ∈ F, w.heap.size + 3 ≤ x) (hb : Below w.heap.size w w1) :
    MgPost a b w (.returned (.agg #[.int .i64 o, .string s, .slice p f.list.length c])) (((w1.setCell ⟨w.heap.size + 1 + 1, 0, none⟩ (.int .i64 o)).setCell ⟨w.heap.size + 1 + 1, 1, none⟩ (.string s)).setCell ⟨w.heap.size + 1 + 1, 2, none⟩ (.slice p f.list.length c)) :=
  MgPost.of he (ho.chg (G := [w.heap.size + 1 + 1]) ((((Chg.refl _ _).setCell (by simp) _).setCell (by simp) _).setCell (by simp) _) (fun x hx => by have := hF x hx; simp; omega)) (fun x hx => by have := hF x hx; omega)
    (((hb.setCell (by simp; omega) _).setCell (by simp; omega) _).setCell (by simp; omega) _)
set_option maxRecDepth 100000 in
set_option maxHeartbeats 8000000 in
theorem mergeExprs_any (a b : Ex) (ka kb : Value) (B : Nat) (w : World) (ha : a.ks.Live B w ka) (hb : b.ks.Live B w kb) (hB : B ≤ w.heap.size) (s1 : a.ks.size ≤ 1048576) (s2 : b.ks.size ≤ 1048576) :
    Calls Tryd.prog 29 #[.agg #[.int .i64 a.op, .string a.a, ka], .agg #[.int .i64 b.op, .string b.a, kb]] w (MgPost a b w) := by
  obtain ⟨pa, ca, rfl⟩ := ha.in.form
  obtain ⟨pb, cb, rfl⟩ := hb.in.form
  obtain ⟨W0, eW⟩ : ∃ W0, W0 = ((w.alloc (.cells #[.int .i64 a.op, .string a.a, .slice pa a.ks.list.length ca] 25)).alloc (.cells #[.int .i64 b.op, .string b.a, .slice pb b.ks.list.length cb] 25)).alloc (.cells #[.int .i64 0, .string ⟨#[]⟩, .slice none 0 0] 25) := ⟨_, rfl⟩
  have hs0 : w.heap.size + 3 ≤ W0.heap.size := by rw [eW]; simp
  have HV := Lib.hid (show Below w.heap.size w W0 by rw [eW]; exact (((Below.refl _ _).alloc (Nat.le_refl _) _).alloc (by simp) _).alloc (by simp; omega) _)
  have HK := Lib.hid (show ∀ E, Below (w.heap.size + 3) W0 E → (E.cell? ⟨w.heap.size, 0, none⟩ = some (.int .i64 a.op) ∧ E.cell? ⟨w.heap.size, 1, none⟩ = some (.string a.a) ∧ E.cell? ⟨w.heap.size, 2, none⟩ = some (.slice pa a.ks.list.length ca) ∧ E.cell? ⟨w.heap.size + 1, 0, none⟩ = some (.int .i64 b.op) ∧ E.cell? ⟨w.heap.size + 1, 1, none⟩ = some (.string b.a) ∧ E.cell? ⟨w.heap.size + 1, 2, none⟩ = some (.slice pb b.ks.list.length cb)) ∧ E.cell? ⟨w.heap.size + 1 + 1, 0, none⟩ = some (.int .i64 0) ∧ E.cell? ⟨w.heap.size + 1 + 1, 1, none⟩ = some (.string ⟨#[]⟩) ∧ E.cell? ⟨w.heap.size + 1 + 1, 2, none⟩ = some (.slice none 0 0) ∧ E.frozen? ⟨w.heap.size + 1 + 1, 0, none⟩ = false ∧ E.frozen? ⟨w.heap.size + 1 + 1, 1, none⟩ = false ∧ E.frozen? ⟨w.heap.size + 1 + 1, 2, none⟩ = false from fun E hE => by rw [eW] at hE; exact ⟨⟨keepc hE (by omega) (by simp [go_sem]), keepc hE (by omega) (by simp [go_sem]), keepc hE (by omega) (by simp [go_sem]), keepc hE (by omega) (by simp [go_sem]), keepc hE (by omega) (by simp [go_sem]), keepc hE (by omega) (by simp [go_sem])⟩, keepc hE (by omega) (by simp [go_sem]), keepc hE (by omega) (by simp [go_sem]), keepc hE (by omega) (by simp [go_sem]), (hE.frozen (by simp)).trans (by simp [go_sem]), (hE.frozen (by simp)).trans (by simp [go_sem]), (hE.frozen (by simp)).trans (by simp [go_sem])⟩)
  have HKA := Lib.hid (show ∀ E, Below (w.heap.size + 2) W0 E → (E.cell? ⟨w.heap.size, 0, none⟩ = some (.int .i64 a.op) ∧ E.cell? ⟨w.heap.size, 1, none⟩ = some (.string a.a) ∧ E.cell? ⟨w.heap.size, 2, none⟩ = some (.slice pa a.ks.list.length ca) ∧ E.cell? ⟨w.heap.size + 1, 0, none⟩ = some (.int .i64 b.op) ∧ E.cell? ⟨w.heap.size + 1, 1, none⟩ = some (.string b.a) ∧ E.cell? ⟨w.heap.size + 1, 2, none⟩ = some (.slice pb b.ks.list.length cb)) from fun E hE => by have EW := eW; rw [EW] at hE; exact ⟨keepc hE (by omega) (by simp [go_sem]), keepc hE (by omega) (by simp [go_sem]), keepc hE (by omega) (by simp [go_sem]), keepc hE (by omega) (by simp [go_sem]), keepc hE (by omega) (by simp [go_sem]), keepc hE (by omega) (by simp [go_sem])⟩)
  have HL2 := Lib.hid (fun (E : World) (hE : Below (w.heap.size + 3) W0 E) => (hE.mono (by omega) : Below (w.heap.size + 2) W0 E))
  have HZL := Lib.hid hs0
  have HB := Lib.hid (fun (E : World) (hE : Below (w.heap.size + 3) W0 E) => (HV.out.trans (hE.mono (by omega))).mono hB)
  have HA := Lib.hid (fun (E : World) (hE : Below (w.heap.size + 3) W0 E) => ha.below (HB.out E hE) (Nat.le_refl _))
  have HBB := Lib.hid (fun (E : World) (hE : Below (w.heap.size + 3) W0 E) => hb.below (HB.out E hE) (Nat.le_refl _))
  have HC := Lib.hid (fun (e : Ex) (he : e.ks.size ≤ 1048576) (k : Value) (E : World) (hE : Below (w.heap.size + 3) W0 E) (hk : e.ks.In B E k) => (copyExprN 2000000 e (by omega) (Nat.le_refl _) k B E hk (by have := hE.size; omega)).mono (R' := fun en w' => ∃ p c F, en = .returned (.agg #[.int .i64 e.op, .string e.a, .slice p e.ks.list.length c]) ∧ RowKit.Hid (∀ X, Below w'.heap.size w' X → e.ks.Own X (.slice p e.ks.list.length c) F) ∧ RowKit.Hid (∀ x ∈ F, E.heap.size ≤ x ∧ x < w'.heap.size) ∧ Below E.heap.size E w') fun en w' ⟨p, c, F, he, ho, hF, hb⟩ => ⟨p, c, F, he, Lib.hid fun X hX => ho.below hX, Lib.hid fun x hx => ⟨hF x hx, ho.lt x hx⟩, hb⟩)
  have EW := Lib.hid eW
  clear eW ha hb
  have r0 := Below.refl (w.heap.size + 3) W0
  go_enter Tryd.func29, Tryd.ntmps29
  go_upto_region 1 with fail
  rw [← EW.out]
  obtain ⟨⟨x0, x1, x2, y0, y1, y2⟩, z0, z1, z2, f0, f1, f2⟩ := HK.out _ r0
  go_wp2_with fail
  cases hna : exNone a with
  | true =>
    refine Calls.mono (noExpr_any _ _ _ _ _ _) ?_
    rintro en w1 ⟨rfl, hb⟩
    have rw1 := Below.trans (show Below (w.heap.size + 3) W0 _ by ((repeat (first | with_reducible assumption | with_reducible exact Below.refl _ _ | refine Below.setCell ?_ (by (first | omega | (simp; omega) | (simp; done) | fail "sml")) _ | refine Below.drew ?_ | refine Below.alloc ?_ (by (first | omega | (simp; omega) | (simp; done) | fail "sml")) _)); first | done | fail "chs")) (hb.mono (by have := (r0).size; omega))
    clear hb
    clear x0 x1 x2 y0 y1 y2 z0 z1 z2 f0 f1 f2
    obtain ⟨⟨x0, x1, x2, y0, y1, y2⟩, z0, z1, z2, f0, f1, f2⟩ := HK.out _ rw1
    rw [show noneB a.op a.a a.ks.list.length = true from hna]
    go_wp2_with fail
    refine Calls.mono (HC.out b s2 _ _ (show Below (w.heap.size + 3) W0 _ by ((repeat (first | with_reducible assumption | with_reducible exact Below.refl _ _ | refine Below.setCell ?_ (by (first | omega | (simp; omega) | (simp; done) | fail "sml")) _ | refine Below.drew ?_ | refine Below.alloc ?_ (by (first | omega | (simp; omega) | (simp; done) | fail "sml")) _)); first | done | fail "chs")) (HBB.out _ (show Below (w.heap.size + 3) W0 _ by ((repeat (first | with_reducible assumption | with_reducible exact Below.refl _ _ | refine Below.setCell ?_ (by (first | omega | (simp; omega) | (simp; done) | fail "sml")) _ | refine Below.drew ?_ | refine Below.alloc ?_ (by (first | omega | (simp; omega) | (simp; done) | fail "sml")) _)); first | done | fail "chs"))).in) ?_
    rintro en w9 ⟨p, c, F, rfl, HO, HF, hb⟩
    have r9 := Below.trans (show Below (w.heap.size + 3) W0 _ by ((repeat (first | with_reducible assumption | with_reducible exact Below.refl _ _ | refine Below.setCell ?_ (by (first | omega | (simp; omega) | (simp; done) | fail "sml")) _ | refine Below.drew ?_ | refine Below.alloc ?_ (by (first | omega | (simp; omega) | (simp; done) | fail "sml")) _)); first | done | fail "chs")) (hb.mono (by have := (rw1).size; omega))
    have hz := (rw1).size
    have HFF := Lib.hid (show ∀ x ∈ F, w.heap.size + 3 ≤ x from fun x hx => by have := HF.out x hx; omega)
    clear hb
    clear x0 x1 x2 y0 y1 y2 z0 z1 z2 f0 f1 f2
    obtain ⟨⟨x0, x1, x2, y0, y1, y2⟩, z0, z1, z2, f0, f1, f2⟩ := HK.out _ r9
    have HM := Lib.hid (MgPost.fin (a := a) (b := b) (w := w) (o := b.op) (s := b.a) (f := b.ks) (p := p) (c := c) (F := F) (mgX_b hna) (HO.out _ (Below.refl _ _)) HFF.out (HV.out.trans (r9.mono (by omega))))
    go_wp2_with fail
    exact bodyPost_ret (v := .agg #[.int .i64 b.op, .string b.a, .slice p b.ks.list.length c]) (by simp [results, Tryd.results29, go_sem, *]) rfl HM.out
  | false =>
    refine Calls.mono (noExpr_any _ _ _ _ _ _) ?_
    rintro en w1 ⟨rfl, hb⟩
    have rw1 := Below.trans (show Below (w.heap.size + 3) W0 _ by ((repeat (first | with_reducible assumption | with_reducible exact Below.refl _ _ | refine Below.setCell ?_ (by (first | omega | (simp; omega) | (simp; done) | fail "sml")) _ | refine Below.drew ?_ | refine Below.alloc ?_ (by (first | omega | (simp; omega) | (simp; done) | fail "sml")) _)); first | done | fail "chs")) (hb.mono (by have := (r0).size; omega))
    clear hb
    clear x0 x1 x2 y0 y1 y2 z0 z1 z2 f0 f1 f2
    obtain ⟨⟨x0, x1, x2, y0, y1, y2⟩, z0, z1, z2, f0, f1, f2⟩ := HK.out _ rw1
    rw [show noneB a.op a.a a.ks.list.length = false from hna]
    go_wp2_with fail
    cases hnb : exNone b with
    | true =>
      refine Calls.mono (noExpr_any _ _ _ _ _ _) ?_
      rintro en w2 ⟨rfl, hb⟩
      have rw2 := Below.trans (show Below (w.heap.size + 3) W0 _ by ((repeat (first | with_reducible assumption | with_reducible exact Below.refl _ _ | refine Below.setCell ?_ (by (first | omega | (simp; omega) | (simp; done) | fail "sml")) _ | refine Below.drew ?_ | refine Below.alloc ?_ (by (first | omega | (simp; omega) | (simp; done) | fail "sml")) _)); first | done | fail "chs")) (hb.mono (by have := (rw1).size; omega))
      clear hb
      clear x0 x1 x2 y0 y1 y2 z0 z1 z2 f0 f1 f2
      obtain ⟨⟨x0, x1, x2, y0, y1, y2⟩, z0, z1, z2, f0, f1, f2⟩ := HK.out _ rw2
      rw [show noneB b.op b.a b.ks.list.length = true from hnb]
      go_wp2_with fail
      refine Calls.mono (HC.out a s1 _ _ (show Below (w.heap.size + 3) W0 _ by ((repeat (first | with_reducible assumption | with_reducible exact Below.refl _ _ | refine Below.setCell ?_ (by (first | omega | (simp; omega) | (simp; done) | fail "sml")) _ | refine Below.drew ?_ | refine Below.alloc ?_ (by (first | omega | (simp; omega) | (simp; done) | fail "sml")) _)); first | done | fail "chs")) (HA.out _ (show Below (w.heap.size + 3) W0 _ by ((repeat (first | with_reducible assumption | with_reducible exact Below.refl _ _ | refine Below.setCell ?_ (by (first | omega | (simp; omega) | (simp; done) | fail "sml")) _ | refine Below.drew ?_ | refine Below.alloc ?_ (by (first | omega | (simp; omega) | (simp; done) | fail "sml")) _)); first | done | fail "chs"))).in) ?_
      rintro en w9 ⟨p, c, F, rfl, HO, HF, hb⟩
      have r9 := Below.trans (show Below (w.heap.size + 3) W0 _ by ((repeat (first | with_reducible assumption | with_reducible exact Below.refl _ _ | refine Below.setCell ?_ (by (first | omega | (simp; omega) | (simp; done) | fail "sml")) _ | refine Below.drew ?_ | refine Below.alloc ?_ (by (first | omega | (simp; omega) | (simp; done) | fail "sml")) _)); first | done | fail "chs")) (hb.mono (by have := (rw2).size; omega))
      have hz := (rw2).size
      have HFF := Lib.hid (show ∀ x ∈ F, w.heap.size + 3 ≤ x from fun x hx => by have := HF.out x hx; omega)
      clear hb
      clear x0 x1 x2 y0 y1 y2 z0 z1 z2 f0 f1 f2
      obtain ⟨⟨x0, x1, x2, y0, y1, y2⟩, z0, z1, z2, f0, f1, f2⟩ := HK.out _ r9
      have HM := Lib.hid (MgPost.fin (a := a) (b := b) (w := w) (o := a.op) (s := a.a) (f := a.ks) (p := p) (c := c) (F := F) (mgX_a hna hnb) (HO.out _ (Below.refl _ _)) HFF.out (HV.out.trans (r9.mono (by omega))))
      go_wp2_with fail
      exact bodyPost_ret (v := .agg #[.int .i64 a.op, .string a.a, .slice p a.ks.list.length c]) (by simp [results, Tryd.results29, go_sem, *]) rfl HM.out
    | false =>
      refine Calls.mono (noExpr_any _ _ _ _ _ _) ?_
      rintro en w2 ⟨rfl, hb⟩
      have rw2 := Below.trans (show Below (w.heap.size + 3) W0 _ by ((repeat (first | with_reducible assumption | with_reducible exact Below.refl _ _ | refine Below.setCell ?_ (by (first | omega | (simp; omega) | (simp; done) | fail "sml")) _ | refine Below.drew ?_ | refine Below.alloc ?_ (by (first | omega | (simp; omega) | (simp; done) | fail "sml")) _)); first | done | fail "chs")) (hb.mono (by have := (rw1).size; omega))
      clear hb
      clear x0 x1 x2 y0 y1 y2 z0 z1 z2 f0 f1 f2
      obtain ⟨⟨x0, x1, x2, y0, y1, y2⟩, z0, z1, z2, f0, f1, f2⟩ := HK.out _ rw2
      rw [show noneB b.op b.a b.ks.list.length = false from hnb]
      go_wp2_with fail
      refine Calls.mono (exprSame_live a b _ _ B _ (HA.out _ rw2) (HBB.out _ rw2) (by have := rw2.size; omega) s1) ?_
      rintro en w3 ⟨rfl, hb⟩
      have rw3 := Below.trans rw2 (hb.mono (by have := rw2.size; omega))
      clear hb
      clear x0 x1 x2 y0 y1 y2 z0 z1 z2 f0 f1 f2
      obtain ⟨⟨x0, x1, x2, y0, y1, y2⟩, z0, z1, z2, f0, f1, f2⟩ := HK.out _ rw3
      cases hee : exEq a b with
      | true =>
        go_wp2_with fail
        refine Calls.mono (HC.out a s1 _ _ (show Below (w.heap.size + 3) W0 _ by ((repeat (first | with_reducible assumption | with_reducible exact Below.refl _ _ | refine Below.setCell ?_ (by (first | omega | (simp; omega) | (simp; done) | fail "sml")) _ | refine Below.drew ?_ | refine Below.alloc ?_ (by (first | omega | (simp; omega) | (simp; done) | fail "sml")) _)); first | done | fail "chs")) (HA.out _ (show Below (w.heap.size + 3) W0 _ by ((repeat (first | with_reducible assumption | with_reducible exact Below.refl _ _ | refine Below.setCell ?_ (by (first | omega | (simp; omega) | (simp; done) | fail "sml")) _ | refine Below.drew ?_ | refine Below.alloc ?_ (by (first | omega | (simp; omega) | (simp; done) | fail "sml")) _)); first | done | fail "chs"))).in) ?_
        rintro en w9 ⟨p, c, F, rfl, HO, HF, hb⟩
        have r9 := Below.trans (show Below (w.heap.size + 3) W0 _ by ((repeat (first | with_reducible assumption | with_reducible exact Below.refl _ _ | refine Below.setCell ?_ (by (first | omega | (simp; omega) | (simp; done) | fail "sml")) _ | refine Below.drew ?_ | refine Below.alloc ?_ (by (first | omega | (simp; omega) | (simp; done) | fail "sml")) _)); first | done | fail "chs")) (hb.mono (by have := (rw3).size; omega))
        have hz := (rw3).size
        have HFF := Lib.hid (show ∀ x ∈ F, w.heap.size + 3 ≤ x from fun x hx => by have := HF.out x hx; omega)
        clear hb
        clear x0 x1 x2 y0 y1 y2 z0 z1 z2 f0 f1 f2
        obtain ⟨⟨x0, x1, x2, y0, y1, y2⟩, z0, z1, z2, f0, f1, f2⟩ := HK.out _ r9
        have HM := Lib.hid (MgPost.fin (a := a) (b := b) (w := w) (o := a.op) (s := a.a) (f := a.ks) (p := p) (c := c) (F := F) (mgX_eq hna hee) (HO.out _ (Below.refl _ _)) HFF.out (HV.out.trans (r9.mono (by omega))))
        go_wp2_with fail
        exact bodyPost_ret (v := .agg #[.int .i64 a.op, .string a.a, .slice p a.ks.list.length c]) (by simp [results, Tryd.results29, go_sem, *]) rfl HM.out
      | false =>
        go_wp2_with fail
        clear x0 x1 x2 y0 y1 y2 z0 z1 z2 f0 f1 f2
        have rwa0 := fun (E : World) => Below.refl E.heap.size E
        go_upto_region 5 with fail
        refine wp_region_held_drew (S := fun w' => w'.cell? ⟨w.heap.size, 0, none⟩ = some (.int .i64 a.op) ∧ w'.cell? ⟨w.heap.size, 1, none⟩ = some (.string a.a) ∧ w'.cell? ⟨w.heap.size, 2, none⟩ = some (.slice pa a.ks.list.length ca) ∧ w'.cell? ⟨w.heap.size + 1, 0, none⟩ = some (.int .i64 b.op) ∧ w'.cell? ⟨w.heap.size + 1, 1, none⟩ = some (.string b.a) ∧ w'.cell? ⟨w.heap.size + 1, 2, none⟩ = some (.slice pb b.ks.list.length cb)) (by kernel_rfl) ?_ (fun hHeld => ?_)
        · exact (HK.out _ (show Below (w.heap.size + 3) W0 _ by ((repeat (first | with_reducible assumption | with_reducible exact Below.refl _ _ | refine Below.setCell ?_ (by (first | omega | (simp; omega) | (simp; done) | fail "sml")) _ | refine Below.drew ?_ | refine Below.alloc ?_ (by (first | omega | (simp; omega) | (simp; done) | fail "sml")) _)); first | done | fail "chs"))).1
        (refine takeL (i := 0) (v := ?_) rfl (by kernel_rfl) (by kernel_rfl) (by kernel_rfl) (fun _ _ _ h => h) (Or.inl ⟨by kernel_rfl, ?_⟩) (by assumption) ?_; rotate_left; (focus (intro w hSw; (try dsimp only at hSw); go_simp; first | done | with_reducible rfl | fail "take")); (try simp only [Act.put, List.setIfInBounds_toArray, List.set_cons_zero, List.set_cons_succ]))
        (refine takeL (i := 2) (v := ?_) rfl (by kernel_rfl) (by kernel_rfl) (by kernel_rfl) (fun _ _ _ h => h) (Or.inl ⟨by kernel_rfl, ?_⟩) (by assumption) ?_; rotate_left; (focus (intro w hSw; (try dsimp only at hSw); go_simp; first | done | with_reducible rfl | fail "take")); (try simp only [Act.put, List.setIfInBounds_toArray, List.set_cons_zero, List.set_cons_succ]))
        have raa := True.intro
        (refine callL (i := 1) rfl (by kernel_rfl) (by kernel_rfl) (fun K hK => ?_); go_simp)
        go_at_call 58
        refine Calls.mono (HC.out a s1 _ _ (show Below (w.heap.size + 3) W0 _ by ((repeat (first | with_reducible assumption | with_reducible exact Below.refl _ _ | refine Below.setCell ?_ (by (first | omega | (simp; omega) | (simp; done) | fail "sml")) _ | refine Below.drew ?_ | refine Below.alloc ?_ (by (first | omega | (simp; omega) | (simp; done) | fail "sml")) _)); first | done | fail "chs")) (HA.out _ (show Below (w.heap.size + 3) W0 _ by ((repeat (first | with_reducible assumption | with_reducible exact Below.refl _ _ | refine Below.setCell ?_ (by (first | omega | (simp; omega) | (simp; done) | fail "sml")) _ | refine Below.drew ?_ | refine Below.alloc ?_ (by (first | omega | (simp; omega) | (simp; done) | fail "sml")) _)); first | done | fail "chs"))).in) ?_
        rintro en wa ⟨pwa, cwa, Fwa, rfl, HOwa, HFwa, hb⟩
        have rwa := Below.trans (show Below (w.heap.size + 3) W0 _ by ((repeat (first | with_reducible assumption | with_reducible exact Below.refl _ _ | refine Below.setCell ?_ (by (first | omega | (simp; omega) | (simp; done) | fail "sml")) _ | refine Below.drew ?_ | refine Below.alloc ?_ (by (first | omega | (simp; omega) | (simp; done) | fail "sml")) _)); first | done | fail "chs")) (hb.mono (by have hq := (show Below (w.heap.size + 3) W0 _ by ((repeat (first | with_reducible assumption | with_reducible exact Below.refl _ _ | refine Below.setCell ?_ (by (first | omega | (simp; omega) | (simp; done) | fail "sml")) _ | refine Below.drew ?_ | refine Below.alloc ?_ (by (first | omega | (simp; omega) | (simp; done) | fail "sml")) _)); first | done | fail "chs") : Below (w.heap.size + 3) W0 _).size; (first | omega | (simp at hq; omega) | (simp; omega))))
        have zwa := rwa.size
        clear hb
        go_wp2_with fail
        refine hK.out _ _ (HK.out _ (show Below (w.heap.size + 3) W0 _ by ((repeat (first | with_reducible assumption | with_reducible exact Below.refl _ _ | refine Below.setCell ?_ (by (first | omega | (simp; omega) | (simp; done) | fail "sml")) _ | refine Below.drew ?_ | refine Below.alloc ?_ (by (first | omega | (simp; omega) | (simp; done) | fail "sml")) _)); first | done | fail "chs"))).1 (fun hHeld => ?_)
        clear hK K
        (try simp only [Act.put, List.setIfInBounds_toArray, List.set_cons_zero, List.set_cons_succ])
        have rwr := Below.refl wa.heap.size wa
        (refine callL (i := 3) rfl (by kernel_rfl) (by kernel_rfl) (fun K hK => ?_); go_simp)
        go_at_call 58
        refine Calls.mono (HC.out b s2 _ _ (show Below (w.heap.size + 3) W0 _ by ((repeat (first | with_reducible assumption | with_reducible exact Below.refl _ _ | refine Below.setCell ?_ (by (first | omega | (simp; omega) | (simp; done) | fail "sml")) _ | refine Below.drew ?_ | refine Below.alloc ?_ (by (first | omega | (simp; omega) | (simp; done) | fail "sml")) _)); first | done | fail "chs")) (HBB.out _ (show Below (w.heap.size + 3) W0 _ by ((repeat (first | with_reducible assumption | with_reducible exact Below.refl _ _ | refine Below.setCell ?_ (by (first | omega | (simp; omega) | (simp; done) | fail "sml")) _ | refine Below.drew ?_ | refine Below.alloc ?_ (by (first | omega | (simp; omega) | (simp; done) | fail "sml")) _)); first | done | fail "chs"))).in) ?_
        rintro en wb ⟨pwb, cwb, Fwb, rfl, HOwb, HFwb, hb⟩
        have rwb := Below.trans (show Below (w.heap.size + 3) W0 _ by ((repeat (first | with_reducible assumption | with_reducible exact Below.refl _ _ | refine Below.setCell ?_ (by (first | omega | (simp; omega) | (simp; done) | fail "sml")) _ | refine Below.drew ?_ | refine Below.alloc ?_ (by (first | omega | (simp; omega) | (simp; done) | fail "sml")) _)); first | done | fail "chs")) (hb.mono (by have hq := (show Below (w.heap.size + 3) W0 _ by ((repeat (first | with_reducible assumption | with_reducible exact Below.refl _ _ | refine Below.setCell ?_ (by (first | omega | (simp; omega) | (simp; done) | fail "sml")) _ | refine Below.drew ?_ | refine Below.alloc ?_ (by (first | omega | (simp; omega) | (simp; done) | fail "sml")) _)); first | done | fail "chs") : Below (w.heap.size + 3) W0 _).size; (first | omega | (simp at hq; omega) | (simp; omega))))
        have zwb := rwb.size
        have rab := Below.trans (show Below wa.heap.size wa _ by ((repeat (first | with_reducible assumption | with_reducible exact Below.refl _ _ | refine Below.setCell ?_ (by (first | omega | (simp; omega) | (simp; done) | fail "sml")) _ | refine Below.drew ?_ | refine Below.alloc ?_ (by (first | omega | (simp; omega) | (simp; done) | fail "sml")) _)); first | done | fail "chs")) (hb.mono (by (first | omega | (simp; omega) | (simp; done) | fail "sml")))
        clear hb
        go_wp2_with fail
        refine hK.out _ _ (HK.out _ (show Below (w.heap.size + 3) W0 _ by ((repeat (first | with_reducible assumption | with_reducible exact Below.refl _ _ | refine Below.setCell ?_ (by (first | omega | (simp; omega) | (simp; done) | fail "sml")) _ | refine Below.drew ?_ | refine Below.alloc ?_ (by (first | omega | (simp; omega) | (simp; done) | fail "sml")) _)); first | done | fail "chs"))).1 (fun hHeld => ?_)
        clear hK K
        (try simp only [Act.put, List.setIfInBounds_toArray, List.set_cons_zero, List.set_cons_succ])
        (refine callL (i := 4) rfl (by kernel_rfl) (by kernel_rfl) (fun K hK => ?_); go_simp)
        obtain ⟨wc, ewc⟩ : ∃ E, E = wb.alloc (.cells #[.int .i64 a.op, .string a.a, .slice pwa a.ks.list.length cwa, .int .i64 b.op, .string b.a, .slice pwb b.ks.list.length cwb] 25) := ⟨_, rfl⟩
        have hdj : ∀ x ∈ Fwa, x ∉ Fwb := fun x h1 h2 => by have g1 := (HFwa.out x h1).2; have g2 := (HFwb.out x h2).1; (try simp at g2); omega
        have hbo := both_own (T := 25) (HOwa.out _ rab) (HOwb.out _ (Below.refl _ _)) hdj
        rw [← ewc] at hbo ⊢
        have kbc : Below wb.heap.size wb wc := by rw [ewc]; exact (Below.refl _ _).alloc (Nat.le_refl _) _
        have rwc := rwb.trans (kbc.mono (by omega))
        have HFF := Lib.hid (show ∀ x ∈ wb.heap.size :: (Fwa ++ Fwb), w.heap.size + 3 ≤ x from fun x hx => by
          rcases List.mem_cons.1 hx with rfl | hx
          · have := zwb; omega
          · rcases List.mem_append.1 hx with hx | hx
            · have g := (HFwa.out x hx).1; (try simp at g); have h9 := HZL.out; have h8 := (rw3).size; omega
            · have g := (HFwb.out x hx).1; (try simp at g); have := zwa; omega)
        have HM := Lib.hid (MgPost.fin (a := a) (b := b) (w := w) (o := 4) (s := ⟨#[]⟩) (f := Fo.of [a, b]) (p := some ⟨wb.heap.size, 0, none⟩) (c := 2) (F := wb.heap.size :: (Fwa ++ Fwb)) (mgX_two hna hnb hee) hbo HFF.out (HV.out.trans (rwc.mono (by omega))))
        clear ewc hdj hbo
        refine hK.out _ _ (HK.out _ rwc).1 (fun hHeld => ?_)
        clear hK K
        (try simp only [Act.put, List.setIfInBounds_toArray, List.set_cons_zero, List.set_cons_succ])
        (refine takeL (i := 5) (v := ?_) rfl (by kernel_rfl) (by kernel_rfl) (by kernel_rfl) (fun _ _ _ h => h) (Or.inl ⟨by kernel_rfl, ?_⟩) (by assumption) ?_; rotate_left; (focus (intro w hSw; (try dsimp only at hSw); go_simp; first | done | with_reducible rfl | fail "take")); (try simp only [Act.put, List.setIfInBounds_toArray, List.set_cons_zero, List.set_cons_succ]))
        obtain ⟨⟨x0, x1, x2, y0, y1, y2⟩, z0, z1, z2, f0, f1, f2⟩ := HK.out _ rwc
        have rwc2 := HL2.out _ rwc
        (refine callL (i := 6) rfl (by kernel_rfl) (by kernel_rfl) (fun K hK => ?_); go_simp)
        refine hK.out _ _ (HKA.out _ (show Below (w.heap.size + 2) W0 _ by ((repeat (first | with_reducible assumption | with_reducible exact Below.refl _ _ | refine Below.setCell ?_ (by (first | omega | (simp; omega) | (simp; done) | fail "sml")) _ | refine Below.drew ?_ | refine Below.alloc ?_ (by (first | omega | (simp; omega) | (simp; done) | fail "sml")) _)); first | done | fail "chs"))) (fun hHeld => ?_)
        clear hK K
        (try simp only [Act.put, List.setIfInBounds_toArray, List.set_cons_zero, List.set_cons_succ])
        refine wpAnyH_done (by kernel_rfl) ?_ _
        go_wp2_with fail
        exact bodyPost_ret (v := .agg #[.int .i64 4, .string ⟨#[]⟩, .slice (some ⟨wb.heap.size, 0, none⟩) 2 2]) (by simp [results, Tryd.results29, go_sem, *]) rfl HM.out

set_option maxRecDepth 100000 in
set_option maxHeartbeats 8000000 in
theorem l7And_any (a b : Ex) (ka kb : Value) (B : Nat) (w : World) (ha : a.ks.In B w ka) (hb : b.ks.In B w kb) (hB : B ≤ w.heap.size) (s1 : a.ks.size ≤ 1048576) (s2 : b.ks.size ≤ 1048576) (hza : a.op = 0 → exNone a = true) (hzb : b.op = 0 → exNone b = true) :
    Calls Tryd.prog 31 #[.agg #[.int .i64 a.op, .string a.a, ka], .agg #[.int .i64 b.op, .string b.a, kb]] w (MgPost a b w) := by
  obtain ⟨pa, ca, rfl⟩ := ha.form
  obtain ⟨pb, cb, rfl⟩ := hb.form
  obtain ⟨W0, eW⟩ : ∃ W0, W0 = ((w.alloc (.cells #[.int .i64 a.op, .string a.a, .slice pa a.ks.list.length ca] 25)).alloc (.cells #[.int .i64 b.op, .string b.a, .slice pb b.ks.list.length cb] 25)).alloc (.cells #[.int .i64 0, .string ⟨#[]⟩, .slice none 0 0] 25) := ⟨_, rfl⟩
  have hs0 : w.heap.size + 3 ≤ W0.heap.size := by rw [eW]; simp
  have HV := Lib.hid (show Below w.heap.size w W0 by rw [eW]; exact (((Below.refl _ _).alloc (Nat.le_refl _) _).alloc (by simp) _).alloc (by simp; omega) _)
  have HK := Lib.hid (show ∀ E, Below (w.heap.size + 3) W0 E → (E.cell? ⟨w.heap.size, 0, none⟩ = some (.int .i64 a.op) ∧ E.cell? ⟨w.heap.size, 1, none⟩ = some (.string a.a) ∧ E.cell? ⟨w.heap.size, 2, none⟩ = some (.slice pa a.ks.list.length ca) ∧ E.cell? ⟨w.heap.size + 1, 0, none⟩ = some (.int .i64 b.op) ∧ E.cell? ⟨w.heap.size + 1, 1, none⟩ = some (.string b.a) ∧ E.cell? ⟨w.heap.size + 1, 2, none⟩ = some (.slice pb b.ks.list.length cb)) ∧ E.cell? ⟨w.heap.size + 1 + 1, 0, none⟩ = some (.int .i64 0) ∧ E.cell? ⟨w.heap.size + 1 + 1, 1, none⟩ = some (.string ⟨#[]⟩) ∧ E.cell? ⟨w.heap.size + 1 + 1, 2, none⟩ = some (.slice none 0 0) ∧ E.frozen? ⟨w.heap.size + 1 + 1, 0, none⟩ = false ∧ E.frozen? ⟨w.heap.size + 1 + 1, 1, none⟩ = false ∧ E.frozen? ⟨w.heap.size + 1 + 1, 2, none⟩ = false from fun E hE => by rw [eW] at hE; exact ⟨⟨keepc hE (by omega) (by simp [go_sem]), keepc hE (by omega) (by simp [go_sem]), keepc hE (by omega) (by simp [go_sem]), keepc hE (by omega) (by simp [go_sem]), keepc hE (by omega) (by simp [go_sem]), keepc hE (by omega) (by simp [go_sem])⟩, keepc hE (by omega) (by simp [go_sem]), keepc hE (by omega) (by simp [go_sem]), keepc hE (by omega) (by simp [go_sem]), (hE.frozen (by simp)).trans (by simp [go_sem]), (hE.frozen (by simp)).trans (by simp [go_sem]), (hE.frozen (by simp)).trans (by simp [go_sem])⟩)
  have HKA := Lib.hid (show ∀ E, Below (w.heap.size + 2) W0 E → (E.cell? ⟨w.heap.size, 0, none⟩ = some (.int .i64 a.op) ∧ E.cell? ⟨w.heap.size, 1, none⟩ = some (.string a.a) ∧ E.cell? ⟨w.heap.size, 2, none⟩ = some (.slice pa a.ks.list.length ca) ∧ E.cell? ⟨w.heap.size + 1, 0, none⟩ = some (.int .i64 b.op) ∧ E.cell? ⟨w.heap.size + 1, 1, none⟩ = some (.string b.a) ∧ E.cell? ⟨w.heap.size + 1, 2, none⟩ = some (.slice pb b.ks.list.length cb)) from fun E hE => by have EW := eW; rw [EW] at hE; exact ⟨keepc hE (by omega) (by simp [go_sem]), keepc hE (by omega) (by simp [go_sem]), keepc hE (by omega) (by simp [go_sem]), keepc hE (by omega) (by simp [go_sem]), keepc hE (by omega) (by simp [go_sem]), keepc hE (by omega) (by simp [go_sem])⟩)
  have HL2 := Lib.hid (fun (E : World) (hE : Below (w.heap.size + 3) W0 E) => (hE.mono (by omega) : Below (w.heap.size + 2) W0 E))
  have HZL := Lib.hid hs0
  have HB := Lib.hid (fun (E : World) (hE : Below (w.heap.size + 3) W0 E) => (HV.out.trans (hE.mono (by omega))).mono hB)
  have HA := Lib.hid (fun (E : World) (hE : Below (w.heap.size + 3) W0 E) => ha.below (HB.out E hE) (Nat.le_refl _))
  have HBB := Lib.hid (fun (E : World) (hE : Below (w.heap.size + 3) W0 E) => hb.below (HB.out E hE) (Nat.le_refl _))
  have HC := Lib.hid (fun (e : Ex) (he : e.ks.size ≤ 1048576) (k : Value) (E : World) (hE : Below (w.heap.size + 3) W0 E) (hk : e.ks.In B E k) => (l2CopyN 2000000 e (by omega) (Nat.le_refl _) k B E hk (by have := hE.size; omega)).mono (R' := fun en w' => ∃ p c F, en = .returned (.agg #[.int .i64 e.op, .string e.a, .slice p e.ks.list.length c]) ∧ RowKit.Hid (∀ X, Below w'.heap.size w' X → e.ks.Own X (.slice p e.ks.list.length c) F) ∧ RowKit.Hid (∀ x ∈ F, E.heap.size ≤ x ∧ x < w'.heap.size) ∧ Below E.heap.size E w') fun en w' ⟨p, c, F, he, ho, hF, hb⟩ => ⟨p, c, F, he, Lib.hid fun X hX => ho.below hX, Lib.hid fun x hx => ⟨hF x hx, ho.lt x hx⟩, hb⟩)
  have EW := Lib.hid eW
  clear eW ha hb
  have r0 := Below.refl (w.heap.size + 3) W0
  go_enter Tryd.func31, Tryd.ntmps31
  go_upto_region 1 with fail
  rw [← EW.out]
  obtain ⟨⟨x0, x1, x2, y0, y1, y2⟩, z0, z1, z2, f0, f1, f2⟩ := HK.out _ r0
  have HNA := Lib.hid (show a.op ≠ 0 → exNone a = false from fun h => by unfold exNone noneB; rw [decide_eq_false h]; rfl)
  have HNB := Lib.hid (show b.op ≠ 0 → exNone b = false from fun h => by unfold exNone noneB; rw [decide_eq_false h]; rfl)
  by_cases hpa : a.op = 0
  · have hna := hza hpa
    have qa : (a.op == 0) = true := beq_iff_eq.2 hpa
    clear hpa
    go_wp2_with fail
    refine Calls.mono (HC.out b s2 _ _ (show Below (w.heap.size + 3) W0 _ by ((repeat (first | with_reducible assumption | with_reducible exact Below.refl _ _ | refine Below.setCell ?_ (by (first | omega | (simp; omega) | (simp; done) | fail "sml")) _ | refine Below.drew ?_ | refine Below.alloc ?_ (by (first | omega | (simp; omega) | (simp; done) | fail "sml")) _)); first | done | fail "chs")) (HBB.out _ (show Below (w.heap.size + 3) W0 _ by ((repeat (first | with_reducible assumption | with_reducible exact Below.refl _ _ | refine Below.setCell ?_ (by (first | omega | (simp; omega) | (simp; done) | fail "sml")) _ | refine Below.drew ?_ | refine Below.alloc ?_ (by (first | omega | (simp; omega) | (simp; done) | fail "sml")) _)); first | done | fail "chs")))) ?_
    rintro en w9 ⟨p, c, F, rfl, HO, HF, hb⟩
    have r9 := Below.trans (show Below (w.heap.size + 3) W0 _ by ((repeat (first | with_reducible assumption | with_reducible exact Below.refl _ _ | refine Below.setCell ?_ (by (first | omega | (simp; omega) | (simp; done) | fail "sml")) _ | refine Below.drew ?_ | refine Below.alloc ?_ (by (first | omega | (simp; omega) | (simp; done) | fail "sml")) _)); first | done | fail "chs")) (hb.mono (by have := (r0).size; omega))
    have hz := (r0).size
    have HFF := Lib.hid (show ∀ x ∈ F, w.heap.size + 3 ≤ x from fun x hx => by have := HF.out x hx; omega)
    clear hb
    clear x0 x1 x2 y0 y1 y2 z0 z1 z2 f0 f1 f2
    obtain ⟨⟨x0, x1, x2, y0, y1, y2⟩, z0, z1, z2, f0, f1, f2⟩ := HK.out _ r9
    have HM := Lib.hid (MgPost.fin (a := a) (b := b) (w := w) (o := b.op) (s := b.a) (f := b.ks) (p := p) (c := c) (F := F) (mgX_b hna) (HO.out _ (Below.refl _ _)) HFF.out (HV.out.trans (r9.mono (by omega))))
    go_wp2_with fail
    exact bodyPost_ret (v := .agg #[.int .i64 b.op, .string b.a, .slice p b.ks.list.length c]) (by simp [results, Tryd.results31, go_sem, *]) rfl HM.out
  · have hna := HNA.out hpa
    have qa : (a.op == 0) = false := beq_eq_false_iff_ne.2 hpa
    clear hpa
    by_cases hpb : b.op = 0
    · have hnb := hzb hpb
      have qb : (b.op == 0) = true := beq_iff_eq.2 hpb
      clear hpb
      go_wp2_with fail
      refine Calls.mono (HC.out a s1 _ _ (show Below (w.heap.size + 3) W0 _ by ((repeat (first | with_reducible assumption | with_reducible exact Below.refl _ _ | refine Below.setCell ?_ (by (first | omega | (simp; omega) | (simp; done) | fail "sml")) _ | refine Below.drew ?_ | refine Below.alloc ?_ (by (first | omega | (simp; omega) | (simp; done) | fail "sml")) _)); first | done | fail "chs")) (HA.out _ (show Below (w.heap.size + 3) W0 _ by ((repeat (first | with_reducible assumption | with_reducible exact Below.refl _ _ | refine Below.setCell ?_ (by (first | omega | (simp; omega) | (simp; done) | fail "sml")) _ | refine Below.drew ?_ | refine Below.alloc ?_ (by (first | omega | (simp; omega) | (simp; done) | fail "sml")) _)); first | done | fail "chs")))) ?_
      rintro en w9 ⟨p, c, F, rfl, HO, HF, hb⟩
      have r9 := Below.trans (show Below (w.heap.size + 3) W0 _ by ((repeat (first | with_reducible assumption | with_reducible exact Below.refl _ _ | refine Below.setCell ?_ (by (first | omega | (simp; omega) | (simp; done) | fail "sml")) _ | refine Below.drew ?_ | refine Below.alloc ?_ (by (first | omega | (simp; omega) | (simp; done) | fail "sml")) _)); first | done | fail "chs")) (hb.mono (by have := (r0).size; omega))
      have hz := (r0).size
      have HFF := Lib.hid (show ∀ x ∈ F, w.heap.size + 3 ≤ x from fun x hx => by have := HF.out x hx; omega)
      clear hb
      clear x0 x1 x2 y0 y1 y2 z0 z1 z2 f0 f1 f2
      obtain ⟨⟨x0, x1, x2, y0, y1, y2⟩, z0, z1, z2, f0, f1, f2⟩ := HK.out _ r9
      have HM := Lib.hid (MgPost.fin (a := a) (b := b) (w := w) (o := a.op) (s := a.a) (f := a.ks) (p := p) (c := c) (F := F) (mgX_a hna hnb) (HO.out _ (Below.refl _ _)) HFF.out (HV.out.trans (r9.mono (by omega))))
      go_wp2_with fail
      exact bodyPost_ret (v := .agg #[.int .i64 a.op, .string a.a, .slice p a.ks.list.length c]) (by simp [results, Tryd.results31, go_sem, *]) rfl HM.out
    · have hnb := HNB.out hpb
      have qb : (b.op == 0) = false := beq_eq_false_iff_ne.2 hpb
      clear hpb
      go_wp2_with fail
      refine Calls.mono (specExprSame_any a b _ _ B _ ⟨_, rfl, HA.out _ r0⟩ ⟨_, rfl, HBB.out _ r0⟩ (by have := r0.size; omega)) ?_
      rintro en w3 ⟨rfl, hb⟩
      have rw3 := Below.trans r0 (hb.mono (by have := r0.size; omega))
      clear hb
      clear x0 x1 x2 y0 y1 y2 z0 z1 z2 f0 f1 f2
      obtain ⟨⟨x0, x1, x2, y0, y1, y2⟩, z0, z1, z2, f0, f1, f2⟩ := HK.out _ rw3
      cases hee : exEq a b with
      | true =>
        go_wp2_with fail
        refine Calls.mono (HC.out a s1 _ _ (show Below (w.heap.size + 3) W0 _ by ((repeat (first | with_reducible assumption | with_reducible exact Below.refl _ _ | refine Below.setCell ?_ (by (first | omega | (simp; omega) | (simp; done) | fail "sml")) _ | refine Below.drew ?_ | refine Below.alloc ?_ (by (first | omega | (simp; omega) | (simp; done) | fail "sml")) _)); first | done | fail "chs")) (HA.out _ (show Below (w.heap.size + 3) W0 _ by ((repeat (first | with_reducible assumption | with_reducible exact Below.refl _ _ | refine Below.setCell ?_ (by (first | omega | (simp; omega) | (simp; done) | fail "sml")) _ | refine Below.drew ?_ | refine Below.alloc ?_ (by (first | omega | (simp; omega) | (simp; done) | fail "sml")) _)); first | done | fail "chs")))) ?_
        rintro en w9 ⟨p, c, F, rfl, HO, HF, hb⟩
        have r9 := Below.trans (show Below (w.heap.size + 3) W0 _ by ((repeat (first | with_reducible assumption | with_reducible exact Below.refl _ _ | refine Below.setCell ?_ (by (first | omega | (simp; omega) | (simp; done) | fail "sml")) _ | refine Below.drew ?_ | refine Below.alloc ?_ (by (first | omega | (simp; omega) | (simp; done) | fail "sml")) _)); first | done | fail "chs")) (hb.mono (by have := (rw3).size; omega))
        have hz := (rw3).size
        have HFF := Lib.hid (show ∀ x ∈ F, w.heap.size + 3 ≤ x from fun x hx => by have := HF.out x hx; omega)
        clear hb
        clear x0 x1 x2 y0 y1 y2 z0 z1 z2 f0 f1 f2
        obtain ⟨⟨x0, x1, x2, y0, y1, y2⟩, z0, z1, z2, f0, f1, f2⟩ := HK.out _ r9
        have HM := Lib.hid (MgPost.fin (a := a) (b := b) (w := w) (o := a.op) (s := a.a) (f := a.ks) (p := p) (c := c) (F := F) (mgX_eq hna hee) (HO.out _ (Below.refl _ _)) HFF.out (HV.out.trans (r9.mono (by omega))))
        go_wp2_with fail
        exact bodyPost_ret (v := .agg #[.int .i64 a.op, .string a.a, .slice p a.ks.list.length c]) (by simp [results, Tryd.results31, go_sem, *]) rfl HM.out
      | false =>
        go_wp2_with fail
        clear x0 x1 x2 y0 y1 y2 z0 z1 z2 f0 f1 f2
        have rwa0 := fun (E : World) => Below.refl E.heap.size E
        go_upto_region 5 with fail
        refine wp_region_held_drew (S := fun w' => w'.cell? ⟨w.heap.size, 0, none⟩ = some (.int .i64 a.op) ∧ w'.cell? ⟨w.heap.size, 1, none⟩ = some (.string a.a) ∧ w'.cell? ⟨w.heap.size, 2, none⟩ = some (.slice pa a.ks.list.length ca) ∧ w'.cell? ⟨w.heap.size + 1, 0, none⟩ = some (.int .i64 b.op) ∧ w'.cell? ⟨w.heap.size + 1, 1, none⟩ = some (.string b.a) ∧ w'.cell? ⟨w.heap.size + 1, 2, none⟩ = some (.slice pb b.ks.list.length cb)) (by kernel_rfl) ?_ (fun hHeld => ?_)
        · exact (HK.out _ (show Below (w.heap.size + 3) W0 _ by ((repeat (first | with_reducible assumption | with_reducible exact Below.refl _ _ | refine Below.setCell ?_ (by (first | omega | (simp; omega) | (simp; done) | fail "sml")) _ | refine Below.drew ?_ | refine Below.alloc ?_ (by (first | omega | (simp; omega) | (simp; done) | fail "sml")) _)); first | done | fail "chs"))).1
        (refine takeL (i := 0) (v := ?_) rfl (by kernel_rfl) (by kernel_rfl) (by kernel_rfl) (fun _ _ _ h => h) (Or.inl ⟨by kernel_rfl, ?_⟩) (by assumption) ?_; rotate_left; (focus (intro w hSw; (try dsimp only at hSw); go_simp; first | done | with_reducible rfl | fail "take")); (try simp only [Act.put, List.setIfInBounds_toArray, List.set_cons_zero, List.set_cons_succ]))
        (refine takeL (i := 2) (v := ?_) rfl (by kernel_rfl) (by kernel_rfl) (by kernel_rfl) (fun _ _ _ h => h) (Or.inl ⟨by kernel_rfl, ?_⟩) (by assumption) ?_; rotate_left; (focus (intro w hSw; (try dsimp only at hSw); go_simp; first | done | with_reducible rfl | fail "take")); (try simp only [Act.put, List.setIfInBounds_toArray, List.set_cons_zero, List.set_cons_succ]))
        have raa := True.intro
        (refine callL (i := 1) rfl (by kernel_rfl) (by kernel_rfl) (fun K hK => ?_); go_simp)
        go_at_call 61
        refine Calls.mono (HC.out a s1 _ _ (show Below (w.heap.size + 3) W0 _ by ((repeat (first | with_reducible assumption | with_reducible exact Below.refl _ _ | refine Below.setCell ?_ (by (first | omega | (simp; omega) | (simp; done) | fail "sml")) _ | refine Below.drew ?_ | refine Below.alloc ?_ (by (first | omega | (simp; omega) | (simp; done) | fail "sml")) _)); first | done | fail "chs")) (HA.out _ (show Below (w.heap.size + 3) W0 _ by ((repeat (first | with_reducible assumption | with_reducible exact Below.refl _ _ | refine Below.setCell ?_ (by (first | omega | (simp; omega) | (simp; done) | fail "sml")) _ | refine Below.drew ?_ | refine Below.alloc ?_ (by (first | omega | (simp; omega) | (simp; done) | fail "sml")) _)); first | done | fail "chs")))) ?_
        rintro en wa ⟨pwa, cwa, Fwa, rfl, HOwa, HFwa, hb⟩
        have rwa := Below.trans (show Below (w.heap.size + 3) W0 _ by ((repeat (first | with_reducible assumption | with_reducible exact Below.refl _ _ | refine Below.setCell ?_ (by (first | omega | (simp; omega) | (simp; done) | fail "sml")) _ | refine Below.drew ?_ | refine Below.alloc ?_ (by (first | omega | (simp; omega) | (simp; done) | fail "sml")) _)); first | done | fail "chs")) (hb.mono (by have hq := (show Below (w.heap.size + 3) W0 _ by ((repeat (first | with_reducible assumption | with_reducible exact Below.refl _ _ | refine Below.setCell ?_ (by (first | omega | (simp; omega) | (simp; done) | fail "sml")) _ | refine Below.drew ?_ | refine Below.alloc ?_ (by (first | omega | (simp; omega) | (simp; done) | fail "sml")) _)); first | done | fail "chs") : Below (w.heap.size + 3) W0 _).size; (first | omega | (simp at hq; omega) | (simp; omega))))
        have zwa := rwa.size
        clear hb
        go_wp2_with fail
        refine hK.out _ _ (HK.out _ (show Below (w.heap.size + 3) W0 _ by ((repeat (first | with_reducible assumption | with_reducible exact Below.refl _ _ | refine Below.setCell ?_ (by (first | omega | (simp; omega) | (simp; done) | fail "sml")) _ | refine Below.drew ?_ | refine Below.alloc ?_ (by (first | omega | (simp; omega) | (simp; done) | fail "sml")) _)); first | done | fail "chs"))).1 (fun hHeld => ?_)
        clear hK K
        (try simp only [Act.put, List.setIfInBounds_toArray, List.set_cons_zero, List.set_cons_succ])
        have rwr := Below.refl wa.heap.size wa
        (refine callL (i := 3) rfl (by kernel_rfl) (by kernel_rfl) (fun K hK => ?_); go_simp)
        go_at_call 61
        refine Calls.mono (HC.out b s2 _ _ (show Below (w.heap.size + 3) W0 _ by ((repeat (first | with_reducible assumption | with_reducible exact Below.refl _ _ | refine Below.setCell ?_ (by (first | omega | (simp; omega) | (simp; done) | fail "sml")) _ | refine Below.drew ?_ | refine Below.alloc ?_ (by (first | omega | (simp; omega) | (simp; done) | fail "sml")) _)); first | done | fail "chs")) (HBB.out _ (show Below (w.heap.size + 3) W0 _ by ((repeat (first | with_reducible assumption | with_reducible exact Below.refl _ _ | refine Below.setCell ?_ (by (first | omega | (simp; omega) | (simp; done) | fail "sml")) _ | refine Below.drew ?_ | refine Below.alloc ?_ (by (first | omega | (simp; omega) | (simp; done) | fail "sml")) _)); first | done | fail "chs")))) ?_
        rintro en wb ⟨pwb, cwb, Fwb, rfl, HOwb, HFwb, hb⟩
        have rwb := Below.trans (show Below (w.heap.size + 3) W0 _ by ((repeat (first | with_reducible assumption | with_reducible exact Below.refl _ _ | refine Below.setCell ?_ (by (first | omega | (simp; omega) | (simp; done) | fail "sml")) _ | refine Below.drew ?_ | refine Below.alloc ?_ (by (first | omega | (simp; omega) | (simp; done) | fail "sml")) _)); first | done | fail "chs")) (hb.mono (by have hq := (show Below (w.heap.size + 3) W0 _ by ((repeat (first | with_reducible assumption | with_reducible exact Below.refl _ _ | refine Below.setCell ?_ (by (first | omega | (simp; omega) | (simp; done) | fail "sml")) _ | refine Below.drew ?_ | refine Below.alloc ?_ (by (first | omega | (simp; omega) | (simp; done) | fail "sml")) _)); first | done | fail "chs") : Below (w.heap.size + 3) W0 _).size; (first | omega | (simp at hq; omega) | (simp; omega))))
        have zwb := rwb.size
        have rab := Below.trans (show Below wa.heap.size wa _ by ((repeat (first | with_reducible assumption | with_reducible exact Below.refl _ _ | refine Below.setCell ?_ (by (first | omega | (simp; omega) | (simp; done) | fail "sml")) _ | refine Below.drew ?_ | refine Below.alloc ?_ (by (first | omega | (simp; omega) | (simp; done) | fail "sml")) _)); first | done | fail "chs")) (hb.mono (by (first | omega | (simp; omega) | (simp; done) | fail "sml")))
        clear hb
        go_wp2_with fail
        refine hK.out _ _ (HK.out _ (show Below (w.heap.size + 3) W0 _ by ((repeat (first | with_reducible assumption | with_reducible exact Below.refl _ _ | refine Below.setCell ?_ (by (first | omega | (simp; omega) | (simp; done) | fail "sml")) _ | refine Below.drew ?_ | refine Below.alloc ?_ (by (first | omega | (simp; omega) | (simp; done) | fail "sml")) _)); first | done | fail "chs"))).1 (fun hHeld => ?_)
        clear hK K
        (try simp only [Act.put, List.setIfInBounds_toArray, List.set_cons_zero, List.set_cons_succ])
        (refine callL (i := 4) rfl (by kernel_rfl) (by kernel_rfl) (fun K hK => ?_); go_simp)
        obtain ⟨wc, ewc⟩ : ∃ E, E = wb.alloc (.cells #[.int .i64 a.op, .string a.a, .slice pwa a.ks.list.length cwa, .int .i64 b.op, .string b.a, .slice pwb b.ks.list.length cwb] 25) := ⟨_, rfl⟩
        have hdj : ∀ x ∈ Fwa, x ∉ Fwb := fun x h1 h2 => by have g1 := (HFwa.out x h1).2; have g2 := (HFwb.out x h2).1; (try simp at g2); omega
        have hbo := both_own (T := 25) (HOwa.out _ rab) (HOwb.out _ (Below.refl _ _)) hdj
        rw [← ewc] at hbo ⊢
        have kbc : Below wb.heap.size wb wc := by rw [ewc]; exact (Below.refl _ _).alloc (Nat.le_refl _) _
        have rwc := rwb.trans (kbc.mono (by omega))
        have HFF := Lib.hid (show ∀ x ∈ wb.heap.size :: (Fwa ++ Fwb), w.heap.size + 3 ≤ x from fun x hx => by
          rcases List.mem_cons.1 hx with rfl | hx
          · have := zwb; omega
          · rcases List.mem_append.1 hx with hx | hx
            · have g := (HFwa.out x hx).1; (try simp at g); have h9 := HZL.out; have h8 := (rw3).size; omega
            · have g := (HFwb.out x hx).1; (try simp at g); have := zwa; omega)
        have HM := Lib.hid (MgPost.fin (a := a) (b := b) (w := w) (o := 4) (s := ⟨#[]⟩) (f := Fo.of [a, b]) (p := some ⟨wb.heap.size, 0, none⟩) (c := 2) (F := wb.heap.size :: (Fwa ++ Fwb)) (mgX_two hna hnb hee) hbo HFF.out (HV.out.trans (rwc.mono (by omega))))
        clear ewc hdj hbo
        refine hK.out _ _ (HK.out _ rwc).1 (fun hHeld => ?_)
        clear hK K
        (try simp only [Act.put, List.setIfInBounds_toArray, List.set_cons_zero, List.set_cons_succ])
        (refine takeL (i := 5) (v := ?_) rfl (by kernel_rfl) (by kernel_rfl) (by kernel_rfl) (fun _ _ _ h => h) (Or.inl ⟨by kernel_rfl, ?_⟩) (by assumption) ?_; rotate_left; (focus (intro w hSw; (try dsimp only at hSw); go_simp; first | done | with_reducible rfl | fail "take")); (try simp only [Act.put, List.setIfInBounds_toArray, List.set_cons_zero, List.set_cons_succ]))
        obtain ⟨⟨x0, x1, x2, y0, y1, y2⟩, z0, z1, z2, f0, f1, f2⟩ := HK.out _ rwc
        have rwc2 := HL2.out _ rwc
        (refine callL (i := 6) rfl (by kernel_rfl) (by kernel_rfl) (fun K hK => ?_); go_simp)
        refine hK.out _ _ (HKA.out _ (show Below (w.heap.size + 2) W0 _ by ((repeat (first | with_reducible assumption | with_reducible exact Below.refl _ _ | refine Below.setCell ?_ (by (first | omega | (simp; omega) | (simp; done) | fail "sml")) _ | refine Below.drew ?_ | refine Below.alloc ?_ (by (first | omega | (simp; omega) | (simp; done) | fail "sml")) _)); first | done | fail "chs"))) (fun hHeld => ?_)
        clear hK K
        (try simp only [Act.put, List.setIfInBounds_toArray, List.set_cons_zero, List.set_cons_succ])
        refine wpAnyH_done (by kernel_rfl) ?_ _
        go_wp2_with fail
        exact bodyPost_ret (v := .agg #[.int .i64 4, .string ⟨#[]⟩, .slice (some ⟨wb.heap.size, 0, none⟩) 2 2]) (by simp [results, Tryd.results31, go_sem, *]) rfl HM.out

end Go.Proofs.YtbbemeaojmfndaaDoor
