/- The walk of FnExactFormatElem. -/
import Derived.Test.YtekhjlmbhoegkaaDoorFmtE
import Derived.Test.YtekhjlmbhoegkaaDoorElem
import Derived.Deep.RegionHeld3
import Derived.Deep.DeepCutAuto
namespace Go.Proofs.YtekhjlmbhoegkaaDoor
open Go.RowKit

set_option maxRecDepth 100000 in
set_option maxHeartbeats 4000000 in
theorem lawExactFormatElem (e : El) (v : Value) (w : World) (hv : e.At w.heap.size w v) (hok : e.Ok) (hvars : VarsF w) :
    Calls Tryd.prog 7 #[v] w fun en w' => en = .returned (.bool true) ∧ Below w.heap.size w w' := by
  have HE := Lib.hid hv
  have HKO := Lib.hid hok
  have HVV := Lib.hid hvars
  obtain ⟨p, cap, p', cap', rfl, _, _⟩ := hv.form
  clear hv hvars hok
  obtain ⟨W0, eW⟩ : ∃ W0, W0 = w.alloc (.cells #[.bool e.n, .string e.v, .int .i64 e.l.op, .string e.l.a, .slice p e.l.ks.list.length cap, .int .i64 e.c.op, .string e.c.a, .slice p' e.c.ks.list.length cap', .int .i64 e.d] 26) := ⟨_, rfl⟩
  have HV := Lib.hid (show Below w.heap.size w W0 by rw [eW]; exact (Below.refl w.heap.size w).alloc (by simp) _)
  have HK := Lib.hid (show ∀ wk, Below (w.heap.size + 1) W0 wk → w.heap.size + 1 ≤ wk.heap.size ∧ wk.cell? ⟨w.heap.size, 0, none⟩ = some (.bool e.n) ∧ wk.cell? ⟨w.heap.size, 1, none⟩ = some (.string e.v) ∧ wk.cell? ⟨w.heap.size, 2, none⟩ = some (.int .i64 e.l.op) ∧ wk.cell? ⟨w.heap.size, 3, none⟩ = some (.string e.l.a) ∧ wk.cell? ⟨w.heap.size, 4, none⟩ = some (.slice p e.l.ks.list.length cap) ∧ wk.cell? ⟨w.heap.size, 5, none⟩ = some (.int .i64 e.c.op) ∧ wk.cell? ⟨w.heap.size, 6, none⟩ = some (.string e.c.a) ∧ wk.cell? ⟨w.heap.size, 7, none⟩ = some (.slice p' e.c.ks.list.length cap') ∧ wk.cell? ⟨w.heap.size, 8, none⟩ = some (.int .i64 e.d) from
    fun wk hk => by rw [eW] at hk; exact ⟨by have := hk.size; simp at this; omega, keepc hk (by omega) (by simp [go_sem]), keepc hk (by omega) (by simp [go_sem]), keepc hk (by omega) (by simp [go_sem]), keepc hk (by omega) (by simp [go_sem]), keepc hk (by omega) (by simp [go_sem]), keepc hk (by omega) (by simp [go_sem]), keepc hk (by omega) (by simp [go_sem]), keepc hk (by omega) (by simp [go_sem]), keepc hk (by omega) (by simp [go_sem])⟩)
  have hs0 : w.heap.size + 1 ≤ W0.heap.size := by rw [eW]; simp
  have HA := Lib.hid (Below.refl (w.heap.size + 1) W0)
  have HVA := Lib.hid (show ∀ wk, Below (w.heap.size + 1) W0 wk → VarsF wk from fun wk hk => HVV.out.below (HV.out.trans (hk.mono (by omega))))
  have HEA := Lib.hid (show ∀ wk, Below (w.heap.size + 1) W0 wk → e.At w.heap.size wk (.agg #[.bool e.n, .string e.v, .int .i64 e.l.op, .string e.l.a, .slice p e.l.ks.list.length cap, .int .i64 e.c.op, .string e.c.a, .slice p' e.c.ks.list.length cap', .int .i64 e.d]) from fun wk hk => HE.out.below (HV.out.trans (hk.mono (by omega))) (Nat.le_refl _))
  have EW := Lib.hid eW
  clear eW
  go_enter Tryd.func7, Tryd.ntmps7
  go_wp2_with fail
  rw [← EW.out]
  refine (szElem_any e _ 1048576 w.heap.size _ (HEA.out _ HA.out) (by omega) (by omega) (by omega) HKO.out).mono ?_
  rintro en w1 ⟨r, rfl, hr, hb1⟩
  have HA := Lib.hid (HA.out.trans (hb1.mono (by omega)))
  clear hb1
  obtain ⟨hz, c0, c1, c2, c3, c4, c5, c6, c7, c8⟩ := HK.out w1 HA.out
  rcases hr with hr | ⟨hr0, hr⟩
  · have hneg : r < 0 := by omega
    clear hr
    go_wp2_with fail
    go_ret
    exact ⟨rfl, HV.out.trans (HA.out.mono (by omega))⟩
  have hneed : elNeed e ≤ 1048576 := by omega
  have hsm := El.sm_of hneed
  have hz1 := (El.sm_need hneed).2.2.1
  have hz2 := (El.sm_need hneed).2.2.2.2.1
  have HS := Lib.hid (fun (v : Value) (B : Nat) (w : World) (hv : e.At B w v) (hB : B ≤ w.heap.size) => specFormatElem_any e v B w hv hB hsm)
  have HI := Lib.hid (fun (v : Value) (B : Nat) (w : World) (hv : e.At B w v) (hB : B ≤ w.heap.size) (hV : VarsF w) => formatElem_any e v B w hv hB hsm hV)
  clear hr hneed hsm
  go_wp2_with fail
  refine (toElem_any e _ w.heap.size _ (HEA.out _ HA.out) (by omega) hz1 hz2).mono ?_
  rintro en w2 ⟨v2, F2, rfl, ho2, _, hb2⟩
  have HA := Lib.hid (HA.out.trans (hb2.mono (by omega)))
  have HO2 := Lib.hid ho2.at
  have hs2 := hb2.size
  clear ho2 hb2 hz c0 c1 c2 c3 c4 c5 c6 c7 c8
  obtain ⟨hz, c0, c1, c2, c3, c4, c5, c6, c7, c8⟩ := HK.out w2 HA.out
  go_wp2_with fail
  refine (HS.out _ w2.heap.size _ HO2.out (Nat.le_refl _)).mono ?_
  rintro en w3 ⟨rfl, hb3⟩
  have HA := Lib.hid (HA.out.trans (hb3.mono (by omega)))
  clear hb3 hz c0 c1 c2 c3 c4 c5 c6 c7 c8
  obtain ⟨hz, c0, c1, c2, c3, c4, c5, c6, c7, c8⟩ := HK.out w3 HA.out
  go_wp2_with fail
  refine (toElem_any e _ w.heap.size _ (HEA.out _ HA.out) (by omega) hz1 hz2).mono ?_
  rintro en w4 ⟨v4, F4, rfl, ho4, _, hb4⟩
  have HA := Lib.hid (HA.out.trans (hb4.mono (by omega)))
  have HO4 := Lib.hid ho4.at
  have hz4 : w.heap.size + 1 ≤ w4.heap.size := by have := hb4.size; omega
  obtain ⟨pA, cA, qA, dA, rfl, _, _⟩ := ho4.at.form
  clear ho4 hb4 hz c0 c1 c2 c3 c4 c5 c6 c7 c8
  obtain ⟨hz, c0, c1, c2, c3, c4, c5, c6, c7, c8⟩ := HK.out w4 HA.out
  go_wp2_with fail
  have HA4 := Lib.hid (HA.out.alloc (by omega) (.cells #[.bool e.n, .string e.v, .int .i64 e.l.op, .string e.l.a, .slice pA e.l.ks.list.length cA, .int .i64 e.c.op, .string e.c.a, .slice qA e.c.ks.list.length dA, .int .i64 e.d] 33))
  refine (HI.out _ w4.heap.size _ (HO4.out.below ((Below.refl _ _).alloc (Nat.le_refl _) _) (Nat.le_refl _)) (by simp) (HVA.out _ HA4.out)).mono ?_
  rintro en w5 ⟨rfl, hb5⟩
  have d0 := new_cell hb5 (j := 0) rfl
  have d1 := new_cell hb5 (j := 1) rfl
  have d2 := new_cell hb5 (j := 2) rfl
  have d3 := new_cell hb5 (j := 3) rfl
  have d4 := new_cell hb5 (j := 4) rfl
  have d5 := new_cell hb5 (j := 5) rfl
  have d6 := new_cell hb5 (j := 6) rfl
  have d7 := new_cell hb5 (j := 7) rfl
  have d8 := new_cell hb5 (j := 8) rfl
  have hs5 : w4.heap.size < w5.heap.size := by have := hb5.size; simp at this; omega
  have HA := Lib.hid (HA4.out.trans (hb5.mono (by simp; omega)))
  have HO5 := Lib.hid (HO4.out.below (below_past hb5) (Nat.le_refl _))
  clear hb5 hz c0 c1 c2 c3 c4 c5 c6 c7 c8
  obtain ⟨hz, c0, c1, c2, c3, c4, c5, c6, c7, c8⟩ := HK.out w5 HA.out
  have HV5 := Lib.hid (HV.out.trans (HA.out.mono (by omega)))
  have CT := Lib.hid (fun (E : World) (hE : Below w5.heap.size w5 E) => (toElem_any e _ w.heap.size E (HEA.out _ (HA.out.trans (hE.mono (by omega)))) (by have := hE.size; omega) hz1 hz2).mono (R' := fun en w' => ∃ v', en = .returned v' ∧ e.At w'.heap.size w' v' ∧ Below w5.heap.size w5 w') fun en w' ⟨v', F, he, ho, _, hb⟩ => ⟨v', he, ho.at, hE.trans (hb.mono hE.size)⟩)
  go_upto_region 10 with fail
  go_cut [26] (fun s wx => s = .bool false ∧ Below w5.heap.size w5 wx)
  case first =>
    go_region_held3 (fun w' => w'.cell? ⟨w.heap.size, 0, none⟩ = some (.bool e.n) ∧ w'.cell? ⟨w.heap.size, 1, none⟩ = some (.string e.v) ∧ w'.cell? ⟨w.heap.size, 2, none⟩ = some (.int .i64 e.l.op) ∧ w'.cell? ⟨w.heap.size, 3, none⟩ = some (.string e.l.a) ∧ w'.cell? ⟨w.heap.size, 4, none⟩ = some (.slice p e.l.ks.list.length cap) ∧ w'.cell? ⟨w.heap.size, 5, none⟩ = some (.int .i64 e.c.op) ∧ w'.cell? ⟨w.heap.size, 6, none⟩ = some (.string e.c.a) ∧ w'.cell? ⟨w.heap.size, 7, none⟩ = some (.slice p' e.c.ks.list.length cap') ∧ w'.cell? ⟨w.heap.size, 8, none⟩ = some (.int .i64 e.d) ∧ w'.cell? ⟨w4.heap.size, 0, none⟩ = some (.bool e.n) ∧ w'.cell? ⟨w4.heap.size, 1, none⟩ = some (.string e.v) ∧ w'.cell? ⟨w4.heap.size, 2, none⟩ = some (.int .i64 e.l.op) ∧ w'.cell? ⟨w4.heap.size, 3, none⟩ = some (.string e.l.a) ∧ w'.cell? ⟨w4.heap.size, 4, none⟩ = some (.slice pA e.l.ks.list.length cA) ∧ w'.cell? ⟨w4.heap.size, 5, none⟩ = some (.int .i64 e.c.op) ∧ w'.cell? ⟨w4.heap.size, 6, none⟩ = some (.string e.c.a) ∧ w'.cell? ⟨w4.heap.size, 7, none⟩ = some (.slice qA e.c.ks.list.length dA) ∧ w'.cell? ⟨w4.heap.size, 8, none⟩ = some (.int .i64 e.d))
      (exact ⟨keepc (show Below w5.heap.size w5 _ by ((repeat (first | with_reducible assumption | with_reducible exact Below.refl _ _ | refine Below.setCell ?_ (by (first | omega | (simp; omega) | (simp; done) | fail "sml")) _ | refine Below.drew ?_ | refine Below.alloc ?_ (by (first | omega | (simp; omega) | (simp; done) | fail "sml")) _)); first | done | fail "chs")) (by omega) c0, keepc (show Below w5.heap.size w5 _ by ((repeat (first | with_reducible assumption | with_reducible exact Below.refl _ _ | refine Below.setCell ?_ (by (first | omega | (simp; omega) | (simp; done) | fail "sml")) _ | refine Below.drew ?_ | refine Below.alloc ?_ (by (first | omega | (simp; omega) | (simp; done) | fail "sml")) _)); first | done | fail "chs")) (by omega) c1, keepc (show Below w5.heap.size w5 _ by ((repeat (first | with_reducible assumption | with_reducible exact Below.refl _ _ | refine Below.setCell ?_ (by (first | omega | (simp; omega) | (simp; done) | fail "sml")) _ | refine Below.drew ?_ | refine Below.alloc ?_ (by (first | omega | (simp; omega) | (simp; done) | fail "sml")) _)); first | done | fail "chs")) (by omega) c2, keepc (show Below w5.heap.size w5 _ by ((repeat (first | with_reducible assumption | with_reducible exact Below.refl _ _ | refine Below.setCell ?_ (by (first | omega | (simp; omega) | (simp; done) | fail "sml")) _ | refine Below.drew ?_ | refine Below.alloc ?_ (by (first | omega | (simp; omega) | (simp; done) | fail "sml")) _)); first | done | fail "chs")) (by omega) c3, keepc (show Below w5.heap.size w5 _ by ((repeat (first | with_reducible assumption | with_reducible exact Below.refl _ _ | refine Below.setCell ?_ (by (first | omega | (simp; omega) | (simp; done) | fail "sml")) _ | refine Below.drew ?_ | refine Below.alloc ?_ (by (first | omega | (simp; omega) | (simp; done) | fail "sml")) _)); first | done | fail "chs")) (by omega) c4, keepc (show Below w5.heap.size w5 _ by ((repeat (first | with_reducible assumption | with_reducible exact Below.refl _ _ | refine Below.setCell ?_ (by (first | omega | (simp; omega) | (simp; done) | fail "sml")) _ | refine Below.drew ?_ | refine Below.alloc ?_ (by (first | omega | (simp; omega) | (simp; done) | fail "sml")) _)); first | done | fail "chs")) (by omega) c5, keepc (show Below w5.heap.size w5 _ by ((repeat (first | with_reducible assumption | with_reducible exact Below.refl _ _ | refine Below.setCell ?_ (by (first | omega | (simp; omega) | (simp; done) | fail "sml")) _ | refine Below.drew ?_ | refine Below.alloc ?_ (by (first | omega | (simp; omega) | (simp; done) | fail "sml")) _)); first | done | fail "chs")) (by omega) c6, keepc (show Below w5.heap.size w5 _ by ((repeat (first | with_reducible assumption | with_reducible exact Below.refl _ _ | refine Below.setCell ?_ (by (first | omega | (simp; omega) | (simp; done) | fail "sml")) _ | refine Below.drew ?_ | refine Below.alloc ?_ (by (first | omega | (simp; omega) | (simp; done) | fail "sml")) _)); first | done | fail "chs")) (by omega) c7, keepc (show Below w5.heap.size w5 _ by ((repeat (first | with_reducible assumption | with_reducible exact Below.refl _ _ | refine Below.setCell ?_ (by (first | omega | (simp; omega) | (simp; done) | fail "sml")) _ | refine Below.drew ?_ | refine Below.alloc ?_ (by (first | omega | (simp; omega) | (simp; done) | fail "sml")) _)); first | done | fail "chs")) (by omega) c8, keepc (show Below w5.heap.size w5 _ by ((repeat (first | with_reducible assumption | with_reducible exact Below.refl _ _ | refine Below.setCell ?_ (by (first | omega | (simp; omega) | (simp; done) | fail "sml")) _ | refine Below.drew ?_ | refine Below.alloc ?_ (by (first | omega | (simp; omega) | (simp; done) | fail "sml")) _)); first | done | fail "chs")) hs5 d0, keepc (show Below w5.heap.size w5 _ by ((repeat (first | with_reducible assumption | with_reducible exact Below.refl _ _ | refine Below.setCell ?_ (by (first | omega | (simp; omega) | (simp; done) | fail "sml")) _ | refine Below.drew ?_ | refine Below.alloc ?_ (by (first | omega | (simp; omega) | (simp; done) | fail "sml")) _)); first | done | fail "chs")) hs5 d1, keepc (show Below w5.heap.size w5 _ by ((repeat (first | with_reducible assumption | with_reducible exact Below.refl _ _ | refine Below.setCell ?_ (by (first | omega | (simp; omega) | (simp; done) | fail "sml")) _ | refine Below.drew ?_ | refine Below.alloc ?_ (by (first | omega | (simp; omega) | (simp; done) | fail "sml")) _)); first | done | fail "chs")) hs5 d2, keepc (show Below w5.heap.size w5 _ by ((repeat (first | with_reducible assumption | with_reducible exact Below.refl _ _ | refine Below.setCell ?_ (by (first | omega | (simp; omega) | (simp; done) | fail "sml")) _ | refine Below.drew ?_ | refine Below.alloc ?_ (by (first | omega | (simp; omega) | (simp; done) | fail "sml")) _)); first | done | fail "chs")) hs5 d3, keepc (show Below w5.heap.size w5 _ by ((repeat (first | with_reducible assumption | with_reducible exact Below.refl _ _ | refine Below.setCell ?_ (by (first | omega | (simp; omega) | (simp; done) | fail "sml")) _ | refine Below.drew ?_ | refine Below.alloc ?_ (by (first | omega | (simp; omega) | (simp; done) | fail "sml")) _)); first | done | fail "chs")) hs5 d4, keepc (show Below w5.heap.size w5 _ by ((repeat (first | with_reducible assumption | with_reducible exact Below.refl _ _ | refine Below.setCell ?_ (by (first | omega | (simp; omega) | (simp; done) | fail "sml")) _ | refine Below.drew ?_ | refine Below.alloc ?_ (by (first | omega | (simp; omega) | (simp; done) | fail "sml")) _)); first | done | fail "chs")) hs5 d5, keepc (show Below w5.heap.size w5 _ by ((repeat (first | with_reducible assumption | with_reducible exact Below.refl _ _ | refine Below.setCell ?_ (by (first | omega | (simp; omega) | (simp; done) | fail "sml")) _ | refine Below.drew ?_ | refine Below.alloc ?_ (by (first | omega | (simp; omega) | (simp; done) | fail "sml")) _)); first | done | fail "chs")) hs5 d6, keepc (show Below w5.heap.size w5 _ by ((repeat (first | with_reducible assumption | with_reducible exact Below.refl _ _ | refine Below.setCell ?_ (by (first | omega | (simp; omega) | (simp; done) | fail "sml")) _ | refine Below.drew ?_ | refine Below.alloc ?_ (by (first | omega | (simp; omega) | (simp; done) | fail "sml")) _)); first | done | fail "chs")) hs5 d7, keepc (show Below w5.heap.size w5 _ by ((repeat (first | with_reducible assumption | with_reducible exact Below.refl _ _ | refine Below.setCell ?_ (by (first | omega | (simp; omega) | (simp; done) | fail "sml")) _ | refine Below.drew ?_ | refine Below.alloc ?_ (by (first | omega | (simp; omega) | (simp; done) | fail "sml")) _)); first | done | fail "chs")) hs5 d8⟩)
      (first
        | (go_at_call 11; refine (CT.out _ (by ((repeat (first | with_reducible assumption | with_reducible exact Below.refl _ _ | refine Below.setCell ?_ (by (first | omega | (simp; omega) | (simp; done) | fail "sml")) _ | refine Below.drew ?_ | refine Below.alloc ?_ (by (first | omega | (simp; omega) | (simp; done) | fail "sml")) _)); first | done | fail "chs"))).mono ?_; rintro en wa ⟨va, rfl, hha, hka⟩; have za := hka.size; have HHa := Lib.hid hha; clear hha)
        | (go_at_call 13; refine (eqElem_any e _ _ wa.heap.size _ (HO5.out.below (Below.mono (show Below w5.heap.size w5 _ by ((repeat (first | with_reducible assumption | with_reducible exact Below.refl _ _ | refine Below.setCell ?_ (by (first | omega | (simp; omega) | (simp; done) | fail "sml")) _ | refine Below.drew ?_ | refine Below.alloc ?_ (by (first | omega | (simp; omega) | (simp; done) | fail "sml")) _)); first | done | fail "chs")) (by omega)) (by omega)) (HHa.out.below (by ((repeat (first | with_reducible assumption | with_reducible exact Below.refl _ _ | refine Below.setCell ?_ (by (first | omega | (simp; omega) | (simp; done) | fail "sml")) _ | refine Below.drew ?_ | refine Below.alloc ?_ (by (first | omega | (simp; omega) | (simp; done) | fail "sml")) _)); first | done | fail "chs")) (Nat.le_refl _)) (by (first | omega | (simp; omega) | (simp; done) | fail "sml"))).mono ?_; rintro en wb ⟨rfl, hbb⟩; have hkb := Below.trans (show Below w5.heap.size w5 _ by ((repeat (first | with_reducible assumption | with_reducible exact Below.refl _ _ | refine Below.setCell ?_ (by (first | omega | (simp; omega) | (simp; done) | fail "sml")) _ | refine Below.drew ?_ | refine Below.alloc ?_ (by (first | omega | (simp; omega) | (simp; done) | fail "sml")) _)); first | done | fail "chs")) (hbb.mono (by first | omega | (simp; omega))); clear hbb))
    all_goals (go_wp2_with fail; go_meet)
    all_goals exact ⟨rfl, by ((repeat (first | with_reducible assumption | with_reducible exact Below.refl _ _ | refine Below.setCell ?_ (by (first | omega | (simp; omega) | (simp; done) | fail "sml")) _ | refine Below.drew ?_ | refine Below.alloc ?_ (by (first | omega | (simp; omega) | (simp; done) | fail "sml")) _)); first | done | fail "chs")⟩
  case rest =>
    obtain ⟨rfl, hbx⟩ := hcut
    have HB := Lib.hid (HV5.out.trans (hbx.mono (by omega)))
    clear hbx
    go_wp2_with fail
    go_ret
    exact ⟨rfl, HB.out⟩
end Go.Proofs.YtekhjlmbhoegkaaDoor
