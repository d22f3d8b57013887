/- The walk of FnExactAddEdge. -/
import Derived.Test.YtkbmieobmecggaaLoc
namespace Go.Proofs.Ytkbmieobmecggaa
open Go.RowKit


theorem extR_lenEdge (g : Gr) (x : Ed) : (extR g [] [x]).ns.length ≤ 8 ∧ (extR g [] [x]).es.length ≤ 14 := by
  unfold extR
  split
  · rename_i h
    unfold extOk at h
    simp only [Bool.and_eq_true] at h
    exact ⟨gv_ns h.2, gv_len h.2⟩
  · simp

set_option maxRecDepth 100000 in
set_option maxHeartbeats 8000000 in
theorem lawExactAddEdge (g : Gr) (v : Value) (x : Ed) (w : World) (hg : g.At w.heap.size w v) (hok : g.Ok) (hx : x.Ok) :
    Calls Try.prog 5 #[v, .agg #[.int .i64 x.f, .int .i64 x.t, .string x.l, .int .i64 x.n]] w fun e w' => e = .returned (.bool true) ∧ Below w.heap.size w w' := by
  have HG := Lib.hid hg
  have HX := Lib.hid hx
  clear hx
  obtain ⟨a, b, rfl, ha, hb⟩ := hg
  obtain ⟨pa, ca, rfl⟩ := ha.form
  obtain ⟨pb, cb, rfl⟩ := hb.form
  clear ha hb
  obtain ⟨R, eR⟩ : ∃ R, R = extR g [] [x] := ⟨_, rfl⟩
  obtain ⟨T, eT⟩ : ∃ T, T = extOk g [] [x] := ⟨_, rfl⟩
  have hR1 : R.ns.length ≤ 8 := eR ▸ (extR_lenEdge g x).1
  have hR2 : R.es.length ≤ 14 := eR ▸ (extR_lenEdge g x).2
  have HS := Lib.hid (fun (v : Value) (B : Nat) (w : World) (hg : g.At B w v) (hB : B ≤ w.heap.size) (h1 : g.ns.length ≤ 2000000) (h2 : g.es.length ≤ 2000000) => eR ▸ eT ▸ specAddEdge_any g v x B w hg hB hok HX.out h1 h2)
  have HI := Lib.hid (fun (v : Value) (B : Nat) (w : World) (hg : g.At B w v) (hB : B ≤ w.heap.size) => eR ▸ eT ▸ addEdge_any g v x B w hg hB hok HX.out)
  clear eR eT
  obtain ⟨W0, eW⟩ : ∃ W0, W0 = ((w.alloc (.cells #[.slice pa g.ns.length ca, .slice pb g.es.length cb] 41)).alloc (.cells #[.int .i64 x.f, .int .i64 x.t, .string x.l, .int .i64 x.n] 49)) := ⟨_, rfl⟩
  have HV := Lib.hid (show Below w.heap.size w W0 by rw [eW]; exact ((Below.refl w.heap.size w).alloc (by simp) _).alloc (by simp) _)
  have HK := Lib.hid (show ∀ wk, Below (w.heap.size + 2) W0 wk → w.heap.size + 2 ≤ wk.heap.size ∧ wk.cell? ⟨w.heap.size, 0, none⟩ = some (.slice pa g.ns.length ca) ∧ wk.cell? ⟨w.heap.size, 1, none⟩ = some (.slice pb g.es.length cb) ∧ wk.cell? ⟨w.heap.size + 1, 0, none⟩ = some (.int .i64 x.f) ∧ wk.cell? ⟨w.heap.size + 1, 1, none⟩ = some (.int .i64 x.t) ∧ wk.cell? ⟨w.heap.size + 1, 2, none⟩ = some (.string x.l) ∧ wk.cell? ⟨w.heap.size + 1, 3, none⟩ = some (.int .i64 x.n) from
    fun wk hk => by rw [eW] at hk; exact ⟨by have := hk.size; simp at this; omega, keepc hk (by omega) (by simp [go_sem]), keepc hk (by omega) (by simp [go_sem]), keepc hk (by omega) (by simp [go_sem]), keepc hk (by omega) (by simp [go_sem]), keepc hk (by omega) (by simp [go_sem]), keepc hk (by omega) (by simp [go_sem])⟩)
  have hs0 : W0.heap.size = w.heap.size + 2 := by rw [eW]; simp
  have CT := Lib.hid (fun (h1 : g.ns.length ≤ 1048576) (h2 : g.es.length ≤ 1048576) (lo : Nat) (W : World) (hl : lo ≤ W.heap.size) (hl2 : w.heap.size ≤ lo) (hW : Below w.heap.size w W) (E : World) (hE : Below lo W E) => (toGraph_any g _ w.heap.size E (HG.out.below (hW.trans (hE.mono hl2))) (by have := hE.size; omega) h1 h2).mono (R' := fun e w' => ∃ v' F, e = .returned v' ∧ g.Has v' F w' ∧ (∀ x ∈ F, E.heap.size ≤ x) ∧ Below E.heap.size E w' ∧ Below lo W w') fun e w' ⟨v', F1, F2, he, ho, hb⟩ => ⟨v', F1 ++ F2, he, ho.has, fun x hx => (ho.lo x hx).1, hb, hE.trans (hb.mono (Nat.le_trans hl hE.size))⟩)
  have CN := Lib.hid (fun (lo : Nat) (W : World) (hl : lo ≤ W.heap.size) (E : World) (hE : Below lo W E) => (toEdge_any x E).mono (R' := fun e w' => e = .returned (.agg #[.int .i64 x.f, .int .i64 x.t, .string x.l, .int .i64 x.n]) ∧ Below E.heap.size E w' ∧ Below lo W w') fun e w' ⟨he, hb⟩ => ⟨he, hb, hE.trans (hb.mono (Nat.le_trans hl hE.size))⟩)
  have CS := Lib.hid (fun (h1 : g.ns.length ≤ 1048576) (h2 : g.es.length ≤ 1048576) (lo : Nat) (W : World) (hl : lo ≤ W.heap.size) (E : World) (hE : Below lo W E) (va : Value) (B : Nat) (wa : World) (hv : g.At B wa va) (hB : Below B wa E) (hBE : B ≤ E.heap.size) => (HS.out va B E (hv.below hB) hBE (by omega) (by omega)).mono (R' := fun e w' => ∃ p c q d F, e = .returned (.tuple #[.agg #[.slice p R.ns.length c, .slice q R.es.length d], .bool T]) ∧ R.Has (.agg #[.slice p R.ns.length c, .slice q R.es.length d]) F w' ∧ (∀ x ∈ F, E.heap.size ≤ x) ∧ Below E.heap.size E w' ∧ Below lo W w') fun e w' ⟨v', F1, F2, he, ho, hb⟩ => by
    obtain ⟨x1, x2, rfl, hx1, hx2, hh⟩ := id ho
    obtain ⟨p1, c1, rfl⟩ := hx1.sl.form
    obtain ⟨p2, c2, rfl⟩ := hx2.sl.form
    exact ⟨p1, c1, p2, c2, F1 ++ F2, he, ho.has, fun x hx => (ho.lo x hx).1, hb, hE.trans (hb.mono (Nat.le_trans hl hE.size))⟩)
  have CI := Lib.hid (fun (lo : Nat) (W : World) (hl : lo ≤ W.heap.size) (E : World) (hE : Below lo W E) (va : Value) (B : Nat) (wa : World) (hv : g.At B wa va) (hB : Below B wa E) (hBE : B ≤ E.heap.size) => (HI.out va B E (hv.below hB) hBE).mono (R' := fun e w' => ∃ p c q d F, e = .returned (.tuple #[.agg #[.slice p R.ns.length c, .slice q R.es.length d], .bool T]) ∧ R.Has (.agg #[.slice p R.ns.length c, .slice q R.es.length d]) F w' ∧ (∀ x ∈ F, E.heap.size ≤ x) ∧ Below E.heap.size E w' ∧ Below lo W w') fun e w' ⟨v', F1, F2, he, ho, hb⟩ => by
    obtain ⟨x1, x2, rfl, hx1, hx2, hh⟩ := id ho
    obtain ⟨p1, c1, rfl⟩ := hx1.sl.form
    obtain ⟨p2, c2, rfl⟩ := hx2.sl.form
    exact ⟨p1, c1, p2, c2, F1 ++ F2, he, ho.has, fun x hx => (ho.lo x hx).1, hb, hE.trans (hb.mono (Nat.le_trans hl hE.size))⟩)
  have HA := Lib.hid (Below.refl (w.heap.size + 2) W0)
  have EW := Lib.hid eW
  clear eW
  go_enter Try.func5, Try.ntmps5
  go_wp2_with fail
  rw [← EW.out]
  refine (szGraph_any g _ 1048576 w.heap.size _ (HG.out.below HV.out) (by omega) (by omega) (by omega) hok).mono ?_
  rintro e w1 ⟨r, rfl, hr, hb1⟩
  have HA := Lib.hid (HA.out.trans (hb1.mono (by omega)))
  clear hb1
  obtain ⟨hz, c0, c1, n0, n1, n2, n3⟩ := HK.out w1 HA.out
  rcases hr with hr | ⟨hr0, hr⟩
  · have hneg : r < 0 := by omega
    clear hr
    go_wp2_with fail
    go_ret
    exact ⟨rfl, HV.out.trans (HA.out.mono (by omega))⟩
  have hl1 : g.ns.length ≤ 1048576 := by unfold Gr.need at hr; omega
  have hl2 : g.es.length ≤ 1048576 := by unfold Gr.need at hr; omega
  have hrm : r ≤ 1048576 := by omega
  clear hr
  go_wp2_with fail
  refine (szEdge_any x r _ hr0 hrm HX.out).mono ?_
  rintro e w2 ⟨r2, rfl, hr, hb2⟩
  have HA := Lib.hid (HA.out.trans (hb2.mono (by omega)))
  clear hb2 c0 c1 n0 n1 n2 n3 hz
  obtain ⟨hz, c0, c1, n0, n1, n2, n3⟩ := HK.out w2 HA.out
  rcases hr with hr | ⟨hr20, hr⟩
  · have hneg : r2 < 0 := by omega
    clear hr
    go_wp2_with fail
    go_ret
    exact ⟨rfl, HV.out.trans (HA.out.mono (by omega))⟩
  clear hr
  have CT := Lib.hid (CT.out hl1 hl2)
  have CS := Lib.hid (CS.out hl1 hl2)
  have ha0 := HA.out
  have HVB := HV.out
  go_upto_region 8 with fail
  go_cut [6, 7] (fun s t wx => Filled R T (w.heap.size + 2) W0 s t wx)
  case first =>
    go_region_held3 (fun w' => w'.cell? ⟨w.heap.size, 0, none⟩ = some (.slice pa g.ns.length ca) ∧ w'.cell? ⟨w.heap.size, 1, none⟩ = some (.slice pb g.es.length cb) ∧ w'.cell? ⟨w.heap.size + 1, 0, none⟩ = some (.int .i64 x.f) ∧ w'.cell? ⟨w.heap.size + 1, 1, none⟩ = some (.int .i64 x.t) ∧ w'.cell? ⟨w.heap.size + 1, 2, none⟩ = some (.string x.l) ∧ w'.cell? ⟨w.heap.size + 1, 3, none⟩ = some (.int .i64 x.n))
      (exact (HK.out _ (show Below (w.heap.size + 2) W0 _ by ((repeat (first | with_reducible assumption | with_reducible exact Below.refl _ _ | refine Below.setCell ?_ (by (first | omega | (simp; omega) | (simp; done) | fail "sml")) _ | refine Below.drew ?_ | refine Below.alloc ?_ (by (first | omega | (simp; omega) | (simp; done) | fail "sml")) _)); first | done | fail "chs"))).2)
      (first
        | (go_at_call 16; refine (CT.out (w.heap.size + 2) W0 (by omega) (by omega) HVB _ (by ((repeat (first | with_reducible assumption | with_reducible exact Below.refl _ _ | refine Below.setCell ?_ (by (first | omega | (simp; omega) | (simp; done) | fail "sml")) _ | refine Below.drew ?_ | refine Below.alloc ?_ (by (first | omega | (simp; omega) | (simp; done) | fail "sml")) _)); first | done | fail "chs"))).mono ?_; rintro e wa ⟨va, FA, rfl, hha, hfa, hba, hka⟩; (first | (have yy := early hba; obtain ⟨y0, y1, y2, y3, y4⟩ := yy) | (have yy := earlyD hba; obtain ⟨y0, y1, y2, y3, y4⟩ := yy) | (have yy := later hba ⟨y0, y1, y2, y3, y4⟩; obtain ⟨y0, y1, y2, y3, y4⟩ := yy) | skip); have za := hka.size; have HHa := Lib.hid hha.at; have jab := Below.refl wa.heap.size wa; clear hha hfa hba)
        | (go_at_call 22; refine (CN.out (w.heap.size + 2) W0 (by omega) _ (by ((repeat (first | with_reducible assumption | with_reducible exact Below.refl _ _ | refine Below.setCell ?_ (by (first | omega | (simp; omega) | (simp; done) | fail "sml")) _ | refine Below.drew ?_ | refine Below.alloc ?_ (by (first | omega | (simp; omega) | (simp; done) | fail "sml")) _)); first | done | fail "chs"))).mono ?_; rintro e wb ⟨rfl, hbb, hkb⟩; (first | (have yy := early hbb; obtain ⟨y0, y1, y2, y3, y4⟩ := yy) | (have yy := earlyD hbb; obtain ⟨y0, y1, y2, y3, y4⟩ := yy) | (have yy := later hbb ⟨y0, y1, y2, y3, y4⟩; obtain ⟨y0, y1, y2, y3, y4⟩ := yy) | skip); have zb := hkb.size; (first | (have jab := Below.trans (show Below wa.heap.size wa _ by ((repeat (first | with_reducible assumption | with_reducible exact Below.refl _ _ | refine Below.setCell ?_ (by (first | omega | (simp; omega) | (simp; done) | fail "sml")) _ | refine Below.drew ?_ | refine Below.alloc ?_ (by (first | omega | (simp; omega) | (simp; done) | fail "sml")) _)); first | done | fail "chs")) (hbb.mono (by (first | omega | (simp; omega) | (simp; done) | fail "sml"))); have zab := jab.size) | skip); clear hbb)
        | (go_at_call 10; refine (CS.out (w.heap.size + 2) W0 (by omega) _ (by ((repeat (first | with_reducible assumption | with_reducible exact Below.refl _ _ | refine Below.setCell ?_ (by (first | omega | (simp; omega) | (simp; done) | fail "sml")) _ | refine Below.drew ?_ | refine Below.alloc ?_ (by (first | omega | (simp; omega) | (simp; done) | fail "sml")) _)); first | done | fail "chs")) va wa.heap.size wa HHa.out (by ((repeat (first | with_reducible assumption | with_reducible exact Below.refl _ _ | refine Below.setCell ?_ (by (first | omega | (simp; omega) | (simp; done) | fail "sml")) _ | refine Below.drew ?_ | refine Below.alloc ?_ (by (first | omega | (simp; omega) | (simp; done) | fail "sml")) _)); first | done | fail "chs")) (by have := jab.size; (first | omega | (simp; omega) | (simp; done) | fail "sml"))).mono ?_; rintro e wc ⟨p8, c8, q8, d8, F8, rfl, hhc, hfc, hbc, hkc⟩; (first | (have yy := early hbc; obtain ⟨y0, y1, y2, y3, y4⟩ := yy) | (have yy := earlyD hbc; obtain ⟨y0, y1, y2, y3, y4⟩ := yy) | (have yy := later hbc ⟨y0, y1, y2, y3, y4⟩; obtain ⟨y0, y1, y2, y3, y4⟩ := yy) | skip); have zc := hkc.size; have HHc := Lib.hid hhc; have HFc := Lib.hid hfc; clear hhc hfc hbc))
    all_goals (go_wp2_with fail; go_meet)
    all_goals first
      | exact filled_of (by first | omega | (simp; omega)) y0 ⟨_, y1⟩ ⟨_, y2⟩ HHc.out (fun x hx => by have h1 := HFc.out x hx; (try simp at h1); omega) (fun hx => by have h1 := HFc.out _ hx; (try simp at h1); omega) hkc
      | exact ⟨_, _, _, _, _, _, rfl, rfl, by first | omega | (simp; omega), Loc.fresh HHc.out, (fun x hx => by have h1 := HFc.out x hx; (try simp at h1); omega), (fun hx => by have h1 := HHc.out.lt _ hx; omega), hkc.alloc (by first | omega | (simp; omega)) _⟩
      | fail "end"
  case rest =>
    obtain ⟨kw, pw, cw, qw, dw, FW, rfl, rfl, hkw, hLW, hFW, hnW, hbx⟩ := hcut
    have HA := Lib.hid hbx
    have LW := Lib.hid hLW
    have GW := Lib.hid (show ∀ x ∈ FW, w.heap.size + 2 ≤ x from hFW)
    have NW := Lib.hid hnW
    clear hbx hLW hFW hnW ha0 HVB hz c0 c1 n0 n1 n2 n3
    obtain ⟨hz, c0, c1, n0, n1, n2, n3⟩ := HK.out wc HA.out
    obtain ⟨hw1, hw2, hw3, _⟩ := LW.out
    have hFWl := Lib.hid LW.out.lt.2
    go_wp2_with fail
    refine (CT.out (w.heap.size + 2) W0 (by omega) (by omega) HV.out _ HA.out).mono ?_
    rintro e w4 ⟨v4, F4, rfl, hh4, hf4, hb4, hk4⟩
    have hs4 := hb4.size
    have HA := Lib.hid hk4
    have LW := Lib.hid (LW.out.below hb4)
    have HX4 := Lib.hid hh4
    have GX := Lib.hid (show ∀ x ∈ F4, wc.heap.size ≤ x ∧ x < w4.heap.size from fun x hx => ⟨hf4 x hx, hh4.lt x hx⟩)
    obtain ⟨x1, x2, rfl, hx1, hx2⟩ := hh4.at
    obtain ⟨px, cx, rfl⟩ := hx1.form
    obtain ⟨qx, dx, rfl⟩ := hx2.form
    have hzc := hz
    clear hx1 hx2 hh4 hf4 hb4 hk4 hz c0 c1 n0 n1 n2 n3 hw2 hw3
    go_wp2_with fail
    obtain ⟨W4, eW⟩ : ∃ W, W = w4.alloc (.cells #[.slice px g.ns.length cx, .slice qx g.es.length dx] 26) := ⟨_, rfl⟩
    rw [← eW]
    have hW4 : w4.heap.size < W4.heap.size := by rw [eW]; simp
    have hbW : Below w4.heap.size w4 W4 := by rw [eW]; exact (Below.refl _ _).alloc (Nat.le_refl _) _
    have LX := Lib.hid (show Loc g w4.heap.size (.slice px g.ns.length cx) (.slice qx g.es.length dx) F4 W4 by rw [eW]; exact Loc.fresh HX4.out)
    have HA := Lib.hid (HA.out.trans (hbW.mono (by omega)))
    have LW := Lib.hid (LW.out.below hbW)
    clear hbW eW
    obtain ⟨hz, c0, c1, n0, n1, n2, n3⟩ := HK.out W4 HA.out
    obtain ⟨kx1, kx2, kx3, _⟩ := LX.out
    have ha4 := HA.out
    go_upto_region 10 with fail
    go_cut [9, 10] (fun s t wx => Filled R T W4.heap.size W4 s t wx)
    case first =>
      go_region_held3 (fun w' => w'.cell? ⟨w4.heap.size, 0, none⟩ = some (.slice px g.ns.length cx) ∧ w'.cell? ⟨w4.heap.size, 1, none⟩ = some (.slice qx g.es.length dx) ∧ w'.cell? ⟨w.heap.size + 1, 0, none⟩ = some (.int .i64 x.f) ∧ w'.cell? ⟨w.heap.size + 1, 1, none⟩ = some (.int .i64 x.t) ∧ w'.cell? ⟨w.heap.size + 1, 2, none⟩ = some (.string x.l) ∧ w'.cell? ⟨w.heap.size + 1, 3, none⟩ = some (.int .i64 x.n))
        (exact ⟨keepc (show Below W4.heap.size W4 _ by ((repeat (first | with_reducible assumption | with_reducible exact Below.refl _ _ | refine Below.setCell ?_ (by (first | omega | (simp; omega) | (simp; done) | fail "sml")) _ | refine Below.drew ?_ | refine Below.alloc ?_ (by (first | omega | (simp; omega) | (simp; done) | fail "sml")) _)); first | done | fail "chs")) kx1 kx2, keepc (show Below W4.heap.size W4 _ by ((repeat (first | with_reducible assumption | with_reducible exact Below.refl _ _ | refine Below.setCell ?_ (by (first | omega | (simp; omega) | (simp; done) | fail "sml")) _ | refine Below.drew ?_ | refine Below.alloc ?_ (by (first | omega | (simp; omega) | (simp; done) | fail "sml")) _)); first | done | fail "chs")) kx1 kx3, keepc (show Below W4.heap.size W4 _ by ((repeat (first | with_reducible assumption | with_reducible exact Below.refl _ _ | refine Below.setCell ?_ (by (first | omega | (simp; omega) | (simp; done) | fail "sml")) _ | refine Below.drew ?_ | refine Below.alloc ?_ (by (first | omega | (simp; omega) | (simp; done) | fail "sml")) _)); first | done | fail "chs")) (by omega) n0, keepc (show Below W4.heap.size W4 _ by ((repeat (first | with_reducible assumption | with_reducible exact Below.refl _ _ | refine Below.setCell ?_ (by (first | omega | (simp; omega) | (simp; done) | fail "sml")) _ | refine Below.drew ?_ | refine Below.alloc ?_ (by (first | omega | (simp; omega) | (simp; done) | fail "sml")) _)); first | done | fail "chs")) (by omega) n1, keepc (show Below W4.heap.size W4 _ by ((repeat (first | with_reducible assumption | with_reducible exact Below.refl _ _ | refine Below.setCell ?_ (by (first | omega | (simp; omega) | (simp; done) | fail "sml")) _ | refine Below.drew ?_ | refine Below.alloc ?_ (by (first | omega | (simp; omega) | (simp; done) | fail "sml")) _)); first | done | fail "chs")) (by omega) n2, keepc (show Below W4.heap.size W4 _ by ((repeat (first | with_reducible assumption | with_reducible exact Below.refl _ _ | refine Below.setCell ?_ (by (first | omega | (simp; omega) | (simp; done) | fail "sml")) _ | refine Below.drew ?_ | refine Below.alloc ?_ (by (first | omega | (simp; omega) | (simp; done) | fail "sml")) _)); first | done | fail "chs")) (by omega) n3⟩)
        (first
          | (go_at_call 22; refine (CN.out W4.heap.size W4 (Nat.le_refl _) _ (by ((repeat (first | with_reducible assumption | with_reducible exact Below.refl _ _ | refine Below.setCell ?_ (by (first | omega | (simp; omega) | (simp; done) | fail "sml")) _ | refine Below.drew ?_ | refine Below.alloc ?_ (by (first | omega | (simp; omega) | (simp; done) | fail "sml")) _)); first | done | fail "chs"))).mono ?_; rintro e wb ⟨rfl, hbb, hkb⟩; (first | (have yy := early hbb; obtain ⟨y0, y1, y2, y3, y4⟩ := yy) | (have yy := earlyD hbb; obtain ⟨y0, y1, y2, y3, y4⟩ := yy) | (have yy := later hbb ⟨y0, y1, y2, y3, y4⟩; obtain ⟨y0, y1, y2, y3, y4⟩ := yy) | skip); have zb := hkb.size; clear hbb)
          | (go_at_call 9; refine (CI.out W4.heap.size W4 (Nat.le_refl _) _ (by ((repeat (first | with_reducible assumption | with_reducible exact Below.refl _ _ | refine Below.setCell ?_ (by (first | omega | (simp; omega) | (simp; done) | fail "sml")) _ | refine Below.drew ?_ | refine Below.alloc ?_ (by (first | omega | (simp; omega) | (simp; done) | fail "sml")) _)); first | done | fail "chs")) _ W4.heap.size W4 LX.out.at (by ((repeat (first | with_reducible assumption | with_reducible exact Below.refl _ _ | refine Below.setCell ?_ (by (first | omega | (simp; omega) | (simp; done) | fail "sml")) _ | refine Below.drew ?_ | refine Below.alloc ?_ (by (first | omega | (simp; omega) | (simp; done) | fail "sml")) _)); first | done | fail "chs")) (by (first | omega | (simp; omega) | (simp; done) | fail "sml"))).mono ?_; rintro e wc ⟨p8, c8, q8, d8, F8, rfl, hhc, hfc, hbc, hkc⟩; (first | (have yy := early hbc; obtain ⟨y0, y1, y2, y3, y4⟩ := yy) | (have yy := earlyD hbc; obtain ⟨y0, y1, y2, y3, y4⟩ := yy) | (have yy := later hbc ⟨y0, y1, y2, y3, y4⟩; obtain ⟨y0, y1, y2, y3, y4⟩ := yy) | skip); have zc := hkc.size; have HHc := Lib.hid hhc; have HFc := Lib.hid hfc; clear hhc hfc hbc))
      all_goals (go_wp2_with fail; go_meet)
      all_goals first
        | exact filled_of (by first | omega | (simp; omega)) y0 ⟨_, y1⟩ ⟨_, y2⟩ HHc.out (fun x hx => by have h1 := HFc.out x hx; (try simp at h1); omega) (fun hx => by have h1 := HFc.out _ hx; (try simp at h1); omega) hkc
        | exact ⟨_, _, _, _, _, _, rfl, rfl, by first | omega | (simp; omega), Loc.fresh HHc.out, (fun x hx => by have h1 := HFc.out x hx; (try simp at h1); omega), (fun hx => by have h1 := HHc.out.lt _ hx; omega), hkc.alloc (by first | omega | (simp; omega)) _⟩
        | fail "end"
    case rest =>
      obtain ⟨kg, pg, cg, qg, dg, FG, rfl, rfl, hkg, hLG, hFG, hnG, hbx⟩ := hcut
      have hs5 := hbx.size
      have HA := Lib.hid (HA.out.trans (hbx.mono (by omega)))
      have LW := Lib.hid (LW.out.below hbx)
      have LX := Lib.hid (LX.out.below hbx)
      have LG := Lib.hid hLG
      have GG := Lib.hid (show ∀ x ∈ FG, W4.heap.size ≤ x from hFG)
      have NG := Lib.hid hnG
      clear hLG hFG hnG hbx ha4 hz c0 c1 n0 n1 n2 n3 kx1 kx2 kx3
      obtain ⟨hz, c0, c1, n0, n1, n2, n3⟩ := HK.out wc HA.out
      obtain ⟨kw1, kw2, kw3, _⟩ := LW.out
      obtain ⟨kg1, kg2, kg3, _⟩ := LG.out
      go_wp2_with fail
      refine (eqGraph_any R _ _ wc.heap.size _ LG.out.at LW.out.at (Nat.le_refl _)).mono ?_
      rintro e w6 ⟨rfl, hb6⟩
      have hs6 := hb6.size
      have HA := Lib.hid (HA.out.trans (hb6.mono (by omega)))
      have LW := Lib.hid (LW.out.below hb6)
      have LX := Lib.hid (LX.out.below hb6)
      have LG := Lib.hid (LG.out.below hb6)
      clear hb6 hz c0 c1 n0 n1 n2 n3 kw1 kw2 kw3 kg1 kg2 kg3
      obtain ⟨hz, c0, c1, n0, n1, n2, n3⟩ := HK.out w6 HA.out
      obtain ⟨kx1, kx2, kx3, _⟩ := LX.out
      have HV6 := HV.out.trans (HA.out.mono (by omega))
      go_upto_region 13 with fail
      go_cut [56] (fun s wx => s = .bool false ∧ Below w6.heap.size w6 wx)
      case first =>
        go_region_held3 (fun w' => w'.cell? ⟨w.heap.size, 0, none⟩ = some (.slice pa g.ns.length ca) ∧ w'.cell? ⟨w.heap.size, 1, none⟩ = some (.slice pb g.es.length cb) ∧ w'.cell? ⟨w4.heap.size, 0, none⟩ = some (.slice px g.ns.length cx) ∧ w'.cell? ⟨w4.heap.size, 1, none⟩ = some (.slice qx g.es.length dx))
          (exact ⟨keepc (show Below w6.heap.size w6 _ by ((repeat (first | with_reducible assumption | with_reducible exact Below.refl _ _ | refine Below.setCell ?_ (by (first | omega | (simp; omega) | (simp; done) | fail "sml")) _ | refine Below.drew ?_ | refine Below.alloc ?_ (by (first | omega | (simp; omega) | (simp; done) | fail "sml")) _)); first | done | fail "chs")) (by omega) c0, keepc (show Below w6.heap.size w6 _ by ((repeat (first | with_reducible assumption | with_reducible exact Below.refl _ _ | refine Below.setCell ?_ (by (first | omega | (simp; omega) | (simp; done) | fail "sml")) _ | refine Below.drew ?_ | refine Below.alloc ?_ (by (first | omega | (simp; omega) | (simp; done) | fail "sml")) _)); first | done | fail "chs")) (by omega) c1, keepc (show Below w6.heap.size w6 _ by ((repeat (first | with_reducible assumption | with_reducible exact Below.refl _ _ | refine Below.setCell ?_ (by (first | omega | (simp; omega) | (simp; done) | fail "sml")) _ | refine Below.drew ?_ | refine Below.alloc ?_ (by (first | omega | (simp; omega) | (simp; done) | fail "sml")) _)); first | done | fail "chs")) kx1 kx2, keepc (show Below w6.heap.size w6 _ by ((repeat (first | with_reducible assumption | with_reducible exact Below.refl _ _ | refine Below.setCell ?_ (by (first | omega | (simp; omega) | (simp; done) | fail "sml")) _ | refine Below.drew ?_ | refine Below.alloc ?_ (by (first | omega | (simp; omega) | (simp; done) | fail "sml")) _)); first | done | fail "chs")) kx1 kx3⟩)
          (first
            | (go_at_call 16; refine (CT.out w6.heap.size w6 (Nat.le_refl _) (by omega) HV6 _ (by ((repeat (first | with_reducible assumption | with_reducible exact Below.refl _ _ | refine Below.setCell ?_ (by (first | omega | (simp; omega) | (simp; done) | fail "sml")) _ | refine Below.drew ?_ | refine Below.alloc ?_ (by (first | omega | (simp; omega) | (simp; done) | fail "sml")) _)); first | done | fail "chs"))).mono ?_; rintro e wa ⟨va, FA, rfl, hha, hfa, hba, hka⟩; have za := hka.size; have HHa := Lib.hid hha.at; clear hha hfa hba)
            | (go_at_call 18; refine (eqGraph_any g _ _ wa.heap.size _ ((LX.out.at.below (by ((repeat (first | with_reducible assumption | with_reducible exact Below.refl _ _ | refine Below.setCell ?_ (by (first | omega | (simp; omega) | (simp; done) | fail "sml")) _ | refine Below.drew ?_ | refine Below.alloc ?_ (by (first | omega | (simp; omega) | (simp; done) | fail "sml")) _)); first | done | fail "chs"))).mono (by omega)) (HHa.out.below (by ((repeat (first | with_reducible assumption | with_reducible exact Below.refl _ _ | refine Below.setCell ?_ (by (first | omega | (simp; omega) | (simp; done) | fail "sml")) _ | refine Below.drew ?_ | refine Below.alloc ?_ (by (first | omega | (simp; omega) | (simp; done) | fail "sml")) _)); first | done | fail "chs"))) (by (first | omega | (simp; omega) | (simp; done) | fail "sml"))).mono ?_; rintro e wb ⟨rfl, hbb⟩; have hkb := Below.trans (show Below w6.heap.size w6 _ by ((repeat (first | with_reducible assumption | with_reducible exact Below.refl _ _ | refine Below.setCell ?_ (by (first | omega | (simp; omega) | (simp; done) | fail "sml")) _ | refine Below.drew ?_ | refine Below.alloc ?_ (by (first | omega | (simp; omega) | (simp; done) | fail "sml")) _)); first | done | fail "chs")) (hbb.mono (by first | omega | (simp; omega))); clear hbb))
        all_goals (go_wp2_with fail; go_meet)
        all_goals exact ⟨rfl, by ((repeat (first | with_reducible assumption | with_reducible exact Below.refl _ _ | refine Below.setCell ?_ (by (first | omega | (simp; omega) | (simp; done) | fail "sml")) _ | refine Below.drew ?_ | refine Below.alloc ?_ (by (first | omega | (simp; omega) | (simp; done) | fail "sml")) _)); first | done | fail "chs")⟩
      case rest =>
      obtain ⟨rfl, hbx⟩ := hcut
      have HA := Lib.hid (HA.out.trans (hbx.mono (by omega)))
      have LW := Lib.hid (LW.out.below hbx)
      have LX := Lib.hid (LX.out.below hbx)
      have LG := Lib.hid (LG.out.below hbx)
      have hs7 := hbx.size
      clear hbx HV6 hz c0 c1 n0 n1 n2 n3 kx1 kx2 kx3
      obtain ⟨hz, c0, c1, n0, n1, n2, n3⟩ := HK.out wc HA.out
      obtain ⟨kx1, kx2, kx3, _⟩ := LX.out
      go_wp2_with fail
      refine (markHas g _ F4 _ LX.out.2.2.2 (by omega)).mono ?_
      rintro e w8 ⟨rfl, _, hc8⟩
      have hs8 := hc8.size
      have HA := Lib.hid (HA.out.trans (hc8.below (by omega) (fun y hy => by have := GX.out y hy; omega)))
      have LW := Lib.hid (LW.out.chg hc8 (fun hy => by have := GX.out _ hy; omega) (fun y hy hy2 => by have h1 := hFWl.out y hy; have h2 := GX.out y hy2; omega))
      have LG := Lib.hid (LG.out.chg hc8 (fun hy => by have := GX.out _ hy; omega) (fun y hy hy2 => by have h1 := GG.out y hy; have h2 := GX.out y hy2; omega))
      clear hc8 hz c0 c1 n0 n1 n2 n3 kx1 kx2 kx3
      obtain ⟨hz, c0, c1, n0, n1, n2, n3⟩ := HK.out w8 HA.out
      obtain ⟨kw1, kw2, kw3, _⟩ := LW.out
      obtain ⟨kg1, kg2, kg3, _⟩ := LG.out
      go_wp2_with fail
      refine (eqGraph_any R _ _ w8.heap.size _ LG.out.at LW.out.at (Nat.le_refl _)).mono ?_
      rintro e w9 ⟨rfl, hb9⟩
      have hs9 := hb9.size
      have HA := Lib.hid (HA.out.trans (hb9.mono (by omega)))
      have LW := Lib.hid (LW.out.below hb9)
      have LG := Lib.hid (LG.out.below hb9)
      clear hb9 hz c0 c1 n0 n1 n2 n3 kw1 kw2 kw3 kg1 kg2 kg3
      obtain ⟨hz, c0, c1, n0, n1, n2, n3⟩ := HK.out w9 HA.out
      obtain ⟨kg1, kg2, kg3, _⟩ := LG.out
      go_wp2_with fail
      refine (markHas R _ FG _ LG.out.2.2.2 (by omega)).mono ?_
      rintro e w10 ⟨rfl, ho10, hc10⟩
      have hs10 := hc10.size
      have HA := Lib.hid (HA.out.trans (hc10.below (by omega) (fun y hy => by have := GG.out y hy; omega)))
      have LW := Lib.hid (LW.out.chg hc10 (fun hy => by have := GG.out _ hy; omega) (fun y hy hy2 => by have h1 := hFWl.out y hy; have h2 := GG.out y hy2; omega))
      have LM := Lib.hid (show Loc (R.marked 1) kg (.slice pg R.ns.length cg) (.slice qg R.es.length dg) FG w10 from ⟨Nat.lt_of_lt_of_le LG.out.1 hc10.size, chgc hc10 NG.out LG.out.2.1, chgc hc10 NG.out LG.out.2.2.1, ho10⟩)
      clear hc10 ho10 hz c0 c1 n0 n1 n2 n3 kg1 kg2 kg3
      obtain ⟨hz, c0, c1, n0, n1, n2, n3⟩ := HK.out w10 HA.out
      obtain ⟨kg1, kg2, kg3, _⟩ := LM.out
      go_wp2_with fail
      refine (heldGraph_any R _ 1 w10.heap.size _ LM.out.at (Nat.le_refl _) (by omega) (by omega)).mono ?_
      rintro e w11 ⟨rfl, hb11⟩
      have hs11 := hb11.size
      have HA := Lib.hid (HA.out.trans (hb11.mono (by omega)))
      have LW := Lib.hid (LW.out.below hb11)
      have LM := Lib.hid (LM.out.below hb11)
      clear hb11 hz c0 c1 n0 n1 n2 n3 kg1 kg2 kg3
      obtain ⟨hz, c0, c1, n0, n1, n2, n3⟩ := HK.out w11 HA.out
      have HVB := HV.out.trans (HA.out.mono (by omega))
      go_upto_region 27 with fail
      go_cut [14, 15] (fun s t wx => Filled R T w11.heap.size w11 s t wx)
      case first =>
        go_region_held3 (fun w' => w'.cell? ⟨w.heap.size, 0, none⟩ = some (.slice pa g.ns.length ca) ∧ w'.cell? ⟨w.heap.size, 1, none⟩ = some (.slice pb g.es.length cb) ∧ w'.cell? ⟨w.heap.size + 1, 0, none⟩ = some (.int .i64 x.f) ∧ w'.cell? ⟨w.heap.size + 1, 1, none⟩ = some (.int .i64 x.t) ∧ w'.cell? ⟨w.heap.size + 1, 2, none⟩ = some (.string x.l) ∧ w'.cell? ⟨w.heap.size + 1, 3, none⟩ = some (.int .i64 x.n))
          (exact (HK.out _ (HA.out.trans (Below.mono (show Below w11.heap.size w11 _ by ((repeat (first | with_reducible assumption | with_reducible exact Below.refl _ _ | refine Below.setCell ?_ (by (first | omega | (simp; omega) | (simp; done) | fail "sml")) _ | refine Below.drew ?_ | refine Below.alloc ?_ (by (first | omega | (simp; omega) | (simp; done) | fail "sml")) _)); first | done | fail "chs")) (by omega)))).2)
          (first
            | (go_at_call 16; refine (CT.out w11.heap.size w11 (by omega) (by omega) HVB _ (by ((repeat (first | with_reducible assumption | with_reducible exact Below.refl _ _ | refine Below.setCell ?_ (by (first | omega | (simp; omega) | (simp; done) | fail "sml")) _ | refine Below.drew ?_ | refine Below.alloc ?_ (by (first | omega | (simp; omega) | (simp; done) | fail "sml")) _)); first | done | fail "chs"))).mono ?_; rintro e wa ⟨va, FA, rfl, hha, hfa, hba, hka⟩; (first | (have yy := early hba; obtain ⟨y0, y1, y2, y3, y4⟩ := yy) | (have yy := earlyD hba; obtain ⟨y0, y1, y2, y3, y4⟩ := yy) | (have yy := later hba ⟨y0, y1, y2, y3, y4⟩; obtain ⟨y0, y1, y2, y3, y4⟩ := yy) | skip); have za := hka.size; have HHa := Lib.hid hha.at; have jab := Below.refl wa.heap.size wa; clear hha hfa hba)
            | (go_at_call 22; refine (CN.out w11.heap.size w11 (by omega) _ (by ((repeat (first | with_reducible assumption | with_reducible exact Below.refl _ _ | refine Below.setCell ?_ (by (first | omega | (simp; omega) | (simp; done) | fail "sml")) _ | refine Below.drew ?_ | refine Below.alloc ?_ (by (first | omega | (simp; omega) | (simp; done) | fail "sml")) _)); first | done | fail "chs"))).mono ?_; rintro e wb ⟨rfl, hbb, hkb⟩; (first | (have yy := early hbb; obtain ⟨y0, y1, y2, y3, y4⟩ := yy) | (have yy := earlyD hbb; obtain ⟨y0, y1, y2, y3, y4⟩ := yy) | (have yy := later hbb ⟨y0, y1, y2, y3, y4⟩; obtain ⟨y0, y1, y2, y3, y4⟩ := yy) | skip); have zb := hkb.size; (first | (have jab := Below.trans (show Below wa.heap.size wa _ by ((repeat (first | with_reducible assumption | with_reducible exact Below.refl _ _ | refine Below.setCell ?_ (by (first | omega | (simp; omega) | (simp; done) | fail "sml")) _ | refine Below.drew ?_ | refine Below.alloc ?_ (by (first | omega | (simp; omega) | (simp; done) | fail "sml")) _)); first | done | fail "chs")) (hbb.mono (by (first | omega | (simp; omega) | (simp; done) | fail "sml"))); have zab := jab.size) | skip); clear hbb)
            | (go_at_call 9; refine (CI.out w11.heap.size w11 (by omega) _ (by ((repeat (first | with_reducible assumption | with_reducible exact Below.refl _ _ | refine Below.setCell ?_ (by (first | omega | (simp; omega) | (simp; done) | fail "sml")) _ | refine Below.drew ?_ | refine Below.alloc ?_ (by (first | omega | (simp; omega) | (simp; done) | fail "sml")) _)); first | done | fail "chs")) va wa.heap.size wa HHa.out (by ((repeat (first | with_reducible assumption | with_reducible exact Below.refl _ _ | refine Below.setCell ?_ (by (first | omega | (simp; omega) | (simp; done) | fail "sml")) _ | refine Below.drew ?_ | refine Below.alloc ?_ (by (first | omega | (simp; omega) | (simp; done) | fail "sml")) _)); first | done | fail "chs")) (by have := jab.size; (first | omega | (simp; omega) | (simp; done) | fail "sml"))).mono ?_; rintro e wc ⟨p8, c8, q8, d8, F8, rfl, hhc, hfc, hbc, hkc⟩; (first | (have yy := early hbc; obtain ⟨y0, y1, y2, y3, y4⟩ := yy) | (have yy := earlyD hbc; obtain ⟨y0, y1, y2, y3, y4⟩ := yy) | (have yy := later hbc ⟨y0, y1, y2, y3, y4⟩; obtain ⟨y0, y1, y2, y3, y4⟩ := yy) | skip); have zc := hkc.size; have HHc := Lib.hid hhc; have HFc := Lib.hid hfc; clear hhc hfc hbc))
        all_goals (go_wp2_with fail; go_meet)
        all_goals first
          | exact filled_of (by first | omega | (simp; omega)) y0 ⟨_, y1⟩ ⟨_, y2⟩ HHc.out (fun x hx => by have h1 := HFc.out x hx; (try simp at h1); omega) (fun hx => by have h1 := HFc.out _ hx; (try simp at h1); omega) hkc
          | exact ⟨_, _, _, _, _, _, rfl, rfl, by first | omega | (simp; omega), Loc.fresh HHc.out, (fun x hx => by have h1 := HFc.out x hx; (try simp at h1); omega), (fun hx => by have h1 := HHc.out.lt _ hx; omega), hkc.alloc (by first | omega | (simp; omega)) _⟩
          | fail "end"
      case rest =>
      obtain ⟨kh, ph, ch, qh, dh, FH, rfl, rfl, hkh, hLH, hFH, hnH, hbx⟩ := hcut
      have hs12 := hbx.size
      have HA := Lib.hid (HA.out.trans (hbx.mono (by omega)))
      have LW := Lib.hid (LW.out.below hbx)
      have LM := Lib.hid (LM.out.below hbx)
      have LH := Lib.hid hLH
      clear hLH hFH hnH hbx HVB hz c0 c1 n0 n1 n2 n3
      obtain ⟨hz, c0, c1, n0, n1, n2, n3⟩ := HK.out wc HA.out
      obtain ⟨kw1, kw2, kw3, _⟩ := LW.out
      obtain ⟨kh1, kh2, kh3, _⟩ := LH.out
      go_wp2_with fail
      refine (eqGraph_any R _ _ wc.heap.size _ LH.out.at LW.out.at (Nat.le_refl _)).mono ?_
      rintro e w14 ⟨rfl, hb14⟩
      have HA := Lib.hid (HA.out.trans (hb14.mono (by omega)))
      have LM := Lib.hid (LM.out.below hb14)
      clear hb14 hz c0 c1 n0 n1 n2 n3 kw1 kw2 kw3 kh1 kh2 kh3
      obtain ⟨hz, c0, c1, n0, n1, n2, n3⟩ := HK.out w14 HA.out
      obtain ⟨kg1, kg2, kg3, _⟩ := LM.out
      go_wp2_with fail
      refine (heldGraph_any R _ 1 w14.heap.size _ LM.out.at (Nat.le_refl _) (by omega) (by omega)).mono ?_
      rintro e w15 ⟨rfl, hb15⟩
      have HA := Lib.hid (HA.out.trans (hb15.mono (by omega)))
      clear hb15
      go_wp2_with fail
      go_ret
      exact ⟨rfl, HV.out.trans (HA.out.mono (by omega))⟩
end Go.Proofs.Ytkbmieobmecggaa
