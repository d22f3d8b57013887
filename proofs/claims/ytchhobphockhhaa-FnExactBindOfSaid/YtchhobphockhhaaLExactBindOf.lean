/- The walk of FnExactBindOf. -/
import Derived.Test.YtchhobphockhhaaMarkM2
import Derived.Test.YtchhobphockhhaaLocV
import Derived.Deep.RegionHeld3
import Derived.Deep.DeepCutAuto
namespace Go.Proofs.Ytchhobphockhhaa
open Go.RowKit

def BoP (R : Bn) (T : Bool) (w : World) (e : Ending) (w' : World) : Prop := ∃ u F, e = .returned (.tuple #[u, .bool T]) ∧ R.Has u F w' ∧ (∀ y ∈ F, w.heap.size ≤ y) ∧ Below w.heap.size w w'
theorem bof_need {xs : List Bn} {s : ByteArray} (h : sumBn xs ≤ 1048576) : (bof xs s).1.ids.length ≤ 1048576 := by
  unfold bof
  cases hf : xs.find? (bnP s) with
  | none => simp
  | some b =>
    obtain ⟨i, hi, e⟩ := List.getElem_of_mem (List.mem_of_find?_eq_some hf)
    have := bn_need h hi
    rw [e] at this
    exact this

set_option maxRecDepth 100000 in
set_option maxHeartbeats 16000000 in
theorem lawExactBindOf (x : Mt) (v_x : Value) (s : ByteArray) (w : World) (h_x : x.At w.heap.size w v_x) (hok_x : x.Ok) :
    Calls Try.prog 7 #[v_x, .string s] w fun en w' => en = .returned (.bool true) ∧ Below w.heap.size w w' := by
  have HE_x := Lib.hid h_x
  have HOK_x := Lib.hid hok_x
  obtain ⟨p0x, c0x, q0x, d0x, r0x, e0x, rfl⟩ := h_x.form
  clear h_x hok_x
  by_cases hbig : (1048576 : Int) < s.size
  · go_enter Try.func7, Try.ntmps7
    go_wp2_with fail
    go_ret
    exact ⟨rfl, (Below.refl _ _).alloc (Nat.le_refl _) _⟩
  obtain ⟨R, eR⟩ : ∃ R : Bn, R = (bof x.bs s).1 := ⟨_, rfl⟩
  obtain ⟨T, eT⟩ : ∃ T : Bool, T = (bof x.bs s).2 := ⟨_, rfl⟩
  obtain ⟨W0, eW⟩ : ∃ W0, W0 = (w.alloc (.cells #[.slice p0x x.w.ns.length c0x, .slice q0x x.w.es.length d0x, .slice r0x x.bs.length e0x] 36)) := ⟨_, rfl⟩
  have HV := Lib.hid (show Below w.heap.size w W0 by rw [eW]; exact (Below.refl w.heap.size w).alloc (by simp) _)
  have HK := Lib.hid (show ∀ wk, Below (w.heap.size + 1) W0 wk → w.heap.size + 1 ≤ wk.heap.size ∧ wk.cell? ⟨w.heap.size, 0, none⟩ = some (.slice p0x x.w.ns.length c0x) ∧ wk.cell? ⟨w.heap.size, 1, none⟩ = some (.slice q0x x.w.es.length d0x) ∧ wk.cell? ⟨w.heap.size, 2, none⟩ = some (.slice r0x x.bs.length e0x) from
    fun wk hk => by rw [eW] at hk; exact ⟨by have := hk.size; simp at this; omega, keepc hk (by omega) (by simp [go_sem]), keepc hk (by omega) (by simp [go_sem]), keepc hk (by omega) (by simp [go_sem])⟩)
  have hs0 : w.heap.size + 1 ≤ W0.heap.size := by rw [eW]; simp
  have HA := Lib.hid (Below.refl (w.heap.size + 1) W0)
  have HEA_x := Lib.hid (show ∀ wk, Below (w.heap.size + 1) W0 wk → x.At w.heap.size wk (.agg #[.slice p0x x.w.ns.length c0x, .slice q0x x.w.es.length d0x, .slice r0x x.bs.length e0x]) from fun wk hk => HE_x.out.to (HV.out.trans (hk.mono (by omega))) (Nat.le_refl _))
  have EW := Lib.hid eW
  clear eW HE_x
  go_enter Try.func7, Try.ntmps7
  go_wp2_with fail
  rw [← EW.out]
  refine (szMatch_any x _ 1048576 w.heap.size _ (HEA_x.out _ HA.out) (by omega) (by omega) (by omega) HOK_x.out).mono ?_
  rintro en w1 ⟨r_x, rfl, hr_x, hb⟩
  have hs_w1 : W0.heap.size ≤ w1.heap.size := hb.size
  have HA := Lib.hid (HA.out.trans (hb.mono (by omega)))
  clear hb
  obtain ⟨hz, a0, a1, a2⟩ := HK.out _ HA.out
  have hq : w.heap.size < w1.heap.size := by omega
  rcases hr_x with hr_x | ⟨hr0_x, hr_x⟩
  · have hneg : r_x < 0 := by omega
    clear hr_x
    go_wp2_with fail
    go_ret
    exact ⟨rfl, HV.out.trans (HA.out.mono (by omega))⟩
  have hneed_x : x.need ≤ 1048576 := by omega
  have hsum_x : sumBn x.bs ≤ 1048576 := by have h9 : x.need = x.w.ns.length + x.w.es.length + (x.bs.length + sumBn x.bs) := rfl; omega
  clear hr_x
  have hRB : R.ids.length ≤ 1048576 := eR ▸ bof_need hsum_x
  have CS := Lib.hid (fun (v_x : Value) (B : Nat) (E : World) (hB : B ≤ E.heap.size) (h_x : x.At B E v_x) => (show Calls Try.prog 25 #[v_x, .string s] E (BoP R T E) from by rw [eR, eT]; exact specBindOf_any x v_x s B E h_x hB hsum_x))
  have CI := Lib.hid (fun (v_x : Value) (B : Nat) (E : World) (hB : B ≤ E.heap.size) (h_x : x.At B E v_x) => (show Calls Try.prog 26 #[v_x, .string s] E (BoP R T E) from by rw [eR, eT]; exact bindOf_any x v_x s B E h_x hB hsum_x))
  have CT := Lib.hid (fun (E : World) (hE : Below (w.heap.size + 1) W0 E) => (show Calls Try.prog 22 #[.agg #[.slice p0x x.w.ns.length c0x, .slice q0x x.w.es.length d0x, .slice r0x x.bs.length e0x]] E _ from toMatch_any x _ w.heap.size E (HEA_x.out E hE) (by have := hE.size; omega) hneed_x))
  clear eR eT
  go_wp2_with fail
  refine (CT.out _ HA.out).mono ?_
  rintro en w2 ⟨vw2, FY, rfl, ho, hf, hb⟩
  clear hz hq a0 a1 a2
  have hs_w2 : w1.heap.size ≤ w2.heap.size := hb.size
  have HA := Lib.hid (HA.out.trans (hb.mono (by omega)))
  have HO := Lib.hid ho
  have GY := Lib.hid (show ∀ y ∈ FY, w1.heap.size ≤ y ∧ y < w2.heap.size from fun y hy => ⟨hf y hy, ho.lt y hy⟩)
  obtain ⟨pY, cY, qY, dY, rY, eY, rfl⟩ := ho.at.form
  clear ho hf hb
  obtain ⟨hz, a0, a1, a2⟩ := HK.out _ HA.out
  have hq : w.heap.size < w2.heap.size := by omega
  go_wp2_with fail
  refine (CS.out _ w2.heap.size _ (Nat.le_refl _) HO.out.at).mono ?_
  rintro en w3 ⟨vw3, FW, rfl, ho, hf, hb⟩
  clear hz hq a0 a1 a2
  have hs_w3 : w2.heap.size ≤ w3.heap.size := hb.size
  have HA := Lib.hid (HA.out.trans (hb.mono (by omega)))
  have HO := Lib.hid ho
  have GW := Lib.hid (show ∀ y ∈ FW, w2.heap.size ≤ y ∧ y < w3.heap.size from fun y hy => ⟨hf y hy, ho.lt y hy⟩)
  obtain ⟨pW, cW, rfl⟩ := ho.at.form
  clear ho hf hb
  obtain ⟨hz, a0, a1, a2⟩ := HK.out _ HA.out
  have hq : w.heap.size < w3.heap.size := by omega
  go_wp2_with fail
  clear hz hq a0 a1 a2
  obtain ⟨V3, eW⟩ : ∃ u, u = w3.alloc (.cells #[.string R.v, .slice pW R.ids.length cW, .bool R.g] 45) := ⟨_, rfl⟩
  rw [← eW]
  have hszV3 : w3.heap.size < V3.heap.size := by rw [eW]; simp
  have hbW : Below w3.heap.size w3 V3 := by rw [eW]; exact (Below.refl _ _).alloc (Nat.le_refl _) _
  have LW := Lib.hid (show LocV R.Has w3.heap.size #[.string R.v, .slice pW R.ids.length cW, .bool R.g] FW V3 by rw [eW]; exact LocV.fresh (Bn.goes R) HO.out)
  have hs_V3 : w3.heap.size ≤ V3.heap.size := hbW.size
  have HA := Lib.hid (HA.out.trans (hbW.mono (by omega)))
  clear hbW eW HO
  obtain ⟨hz, a0, a1, a2⟩ := HK.out _ HA.out
  have hq : w.heap.size < V3.heap.size := by omega
  obtain ⟨wwk, wwc, _⟩ := LW.out
  have ww0 := wwc 0 _ rfl
  have ww1 := wwc 1 _ rfl
  have ww2 := wwc 2 _ rfl
  clear wwc
  go_wp2_with fail
  refine (CT.out _ HA.out).mono ?_
  rintro en w4 ⟨vw4, FX, rfl, ho, hf, hb⟩
  clear hz hq a0 a1 a2 wwk ww0 ww1 ww2
  have hs_w4 : V3.heap.size ≤ w4.heap.size := hb.size
  have LW := Lib.hid (LW.out.below (Bn.goes R) hb)
  have HA := Lib.hid (HA.out.trans (hb.mono (by omega)))
  have HO := Lib.hid ho
  have GX := Lib.hid (show ∀ y ∈ FX, V3.heap.size ≤ y ∧ y < w4.heap.size from fun y hy => ⟨hf y hy, ho.lt y hy⟩)
  obtain ⟨pX, cX, qX, dX, rX, eX, rfl⟩ := ho.at.form
  clear ho hf hb
  obtain ⟨hz, a0, a1, a2⟩ := HK.out _ HA.out
  have hq : w.heap.size < w4.heap.size := by omega
  obtain ⟨wwk, wwc, _⟩ := LW.out
  have ww0 := wwc 0 _ rfl
  have ww1 := wwc 1 _ rfl
  have ww2 := wwc 2 _ rfl
  clear wwc
  go_wp2_with fail
  clear hz hq a0 a1 a2 wwk ww0 ww1 ww2
  obtain ⟨V4, eW⟩ : ∃ u, u = w4.alloc (.cells #[.slice pX x.w.ns.length cX, .slice qX x.w.es.length dX, .slice rX x.bs.length eX] 41) := ⟨_, rfl⟩
  rw [← eW]
  have hszV4 : w4.heap.size < V4.heap.size := by rw [eW]; simp
  have hbW : Below w4.heap.size w4 V4 := by rw [eW]; exact (Below.refl _ _).alloc (Nat.le_refl _) _
  have LX := Lib.hid (show LocV x.Has w4.heap.size #[.slice pX x.w.ns.length cX, .slice qX x.w.es.length dX, .slice rX x.bs.length eX] FX V4 by rw [eW]; exact LocV.fresh (Mt.goes x) HO.out)
  have hs_V4 : w4.heap.size ≤ V4.heap.size := hbW.size
  have LW := Lib.hid (LW.out.below (Bn.goes R) hbW)
  have HA := Lib.hid (HA.out.trans (hbW.mono (by omega)))
  clear hbW eW HO
  obtain ⟨hz, a0, a1, a2⟩ := HK.out _ HA.out
  have hq : w.heap.size < V4.heap.size := by omega
  obtain ⟨wwk, wwc, _⟩ := LW.out
  have ww0 := wwc 0 _ rfl
  have ww1 := wwc 1 _ rfl
  have ww2 := wwc 2 _ rfl
  clear wwc
  obtain ⟨xxk, xxc, _⟩ := LX.out
  have xx0 := xxc 0 _ rfl
  have xx1 := xxc 1 _ rfl
  have xx2 := xxc 2 _ rfl
  clear xxc
  go_wp2_with fail
  refine (CI.out _ V4.heap.size _ (Nat.le_refl _) (LX.out.2.2.at.to (Below.refl _ _) (Nat.le_refl _))).mono ?_
  rintro en w5 ⟨vw5, FG, rfl, ho, hf, hb⟩
  clear hz hq a0 a1 a2 wwk ww0 ww1 ww2 xxk xx0 xx1 xx2
  have hs_w5 : V4.heap.size ≤ w5.heap.size := hb.size
  have LW := Lib.hid (LW.out.below (Bn.goes R) hb)
  have LX := Lib.hid (LX.out.below (Mt.goes x) hb)
  have HA := Lib.hid (HA.out.trans (hb.mono (by omega)))
  have HO := Lib.hid ho
  have GG := Lib.hid (show ∀ y ∈ FG, V4.heap.size ≤ y ∧ y < w5.heap.size from fun y hy => ⟨hf y hy, ho.lt y hy⟩)
  obtain ⟨pG, cG, rfl⟩ := ho.at.form
  clear ho hf hb
  obtain ⟨hz, a0, a1, a2⟩ := HK.out _ HA.out
  have hq : w.heap.size < w5.heap.size := by omega
  obtain ⟨wwk, wwc, _⟩ := LW.out
  have ww0 := wwc 0 _ rfl
  have ww1 := wwc 1 _ rfl
  have ww2 := wwc 2 _ rfl
  clear wwc
  obtain ⟨xxk, xxc, _⟩ := LX.out
  have xx0 := xxc 0 _ rfl
  have xx1 := xxc 1 _ rfl
  have xx2 := xxc 2 _ rfl
  clear xxc
  go_wp2_with fail
  clear hz hq a0 a1 a2 wwk ww0 ww1 ww2 xxk xx0 xx1 xx2
  obtain ⟨V5, eW⟩ : ∃ u, u = w5.alloc (.cells #[.string R.v, .slice pG R.ids.length cG, .bool R.g] 45) := ⟨_, rfl⟩
  rw [← eW]
  have hszV5 : w5.heap.size < V5.heap.size := by rw [eW]; simp
  have hbW : Below w5.heap.size w5 V5 := by rw [eW]; exact (Below.refl _ _).alloc (Nat.le_refl _) _
  have LG := Lib.hid (show LocV R.Has w5.heap.size #[.string R.v, .slice pG R.ids.length cG, .bool R.g] FG V5 by rw [eW]; exact LocV.fresh (Bn.goes R) HO.out)
  have hs_V5 : w5.heap.size ≤ V5.heap.size := hbW.size
  have LW := Lib.hid (LW.out.below (Bn.goes R) hbW)
  have LX := Lib.hid (LX.out.below (Mt.goes x) hbW)
  have HA := Lib.hid (HA.out.trans (hbW.mono (by omega)))
  clear hbW eW HO
  obtain ⟨hz, a0, a1, a2⟩ := HK.out _ HA.out
  have hq : w.heap.size < V5.heap.size := by omega
  obtain ⟨wwk, wwc, _⟩ := LW.out
  have ww0 := wwc 0 _ rfl
  have ww1 := wwc 1 _ rfl
  have ww2 := wwc 2 _ rfl
  clear wwc
  obtain ⟨xxk, xxc, _⟩ := LX.out
  have xx0 := xxc 0 _ rfl
  have xx1 := xxc 1 _ rfl
  have xx2 := xxc 2 _ rfl
  clear xxc
  obtain ⟨ggk, ggc, _⟩ := LG.out
  have gg0 := ggc 0 _ rfl
  have gg1 := ggc 1 _ rfl
  have gg2 := ggc 2 _ rfl
  clear ggc
  go_wp2_with fail
  refine (eqBindV_any R _ _ V5.heap.size _ LG.out.2.2.at LW.out.2.2.at (Nat.le_refl _)).mono ?_
  rintro en w6 ⟨rfl, hb⟩
  clear hz hq a0 a1 a2 wwk ww0 ww1 ww2 xxk xx0 xx1 xx2 ggk gg0 gg1 gg2
  have hs_w6 : V5.heap.size ≤ w6.heap.size := hb.size
  have LW := Lib.hid (LW.out.below (Bn.goes R) hb)
  have LX := Lib.hid (LX.out.below (Mt.goes x) hb)
  have LG := Lib.hid (LG.out.below (Bn.goes R) hb)
  have HA := Lib.hid (HA.out.trans (hb.mono (by omega)))
  clear hb
  obtain ⟨hz, a0, a1, a2⟩ := HK.out _ HA.out
  have hq : w.heap.size < w6.heap.size := by omega
  obtain ⟨wwk, wwc, _⟩ := LW.out
  have ww0 := wwc 0 _ rfl
  have ww1 := wwc 1 _ rfl
  have ww2 := wwc 2 _ rfl
  clear wwc
  obtain ⟨xxk, xxc, _⟩ := LX.out
  have xx0 := xxc 0 _ rfl
  have xx1 := xxc 1 _ rfl
  have xx2 := xxc 2 _ rfl
  clear xxc
  obtain ⟨ggk, ggc, _⟩ := LG.out
  have gg0 := ggc 0 _ rfl
  have gg1 := ggc 1 _ rfl
  have gg2 := ggc 2 _ rfl
  clear ggc
  have hA0 := HA.out
  have rr0 := Below.refl w6.heap.size w6
  go_upto_region 12 with fail
  go_cut [52] (fun s wx => s = .bool false ∧ Below w6.heap.size w6 wx)
  case first =>
    go_region_held3 (fun w' => w'.cell? ⟨w.heap.size, 0, none⟩ = some (.slice p0x x.w.ns.length c0x) ∧ w'.cell? ⟨w.heap.size, 1, none⟩ = some (.slice q0x x.w.es.length d0x) ∧ w'.cell? ⟨w.heap.size, 2, none⟩ = some (.slice r0x x.bs.length e0x) ∧ w'.cell? ⟨w4.heap.size, 0, none⟩ = some (.slice pX x.w.ns.length cX) ∧ w'.cell? ⟨w4.heap.size, 1, none⟩ = some (.slice qX x.w.es.length dX) ∧ w'.cell? ⟨w4.heap.size, 2, none⟩ = some (.slice rX x.bs.length eX))
      (exact ⟨keepc (show Below w6.heap.size w6 _ by ((repeat (first | with_reducible assumption | with_reducible exact Below.refl _ _ | refine Below.setCell ?_ (by (first | omega | (simp; omega) | (simp; done) | fail "sml")) _ | refine Below.drew ?_ | refine Below.alloc ?_ (by (first | omega | (simp; omega) | (simp; done) | fail "sml")) _)); first | done | fail "chs")) hq a0, keepc (show Below w6.heap.size w6 _ by ((repeat (first | with_reducible assumption | with_reducible exact Below.refl _ _ | refine Below.setCell ?_ (by (first | omega | (simp; omega) | (simp; done) | fail "sml")) _ | refine Below.drew ?_ | refine Below.alloc ?_ (by (first | omega | (simp; omega) | (simp; done) | fail "sml")) _)); first | done | fail "chs")) hq a1, keepc (show Below w6.heap.size w6 _ by ((repeat (first | with_reducible assumption | with_reducible exact Below.refl _ _ | refine Below.setCell ?_ (by (first | omega | (simp; omega) | (simp; done) | fail "sml")) _ | refine Below.drew ?_ | refine Below.alloc ?_ (by (first | omega | (simp; omega) | (simp; done) | fail "sml")) _)); first | done | fail "chs")) hq a2, keepc (show Below w6.heap.size w6 _ by ((repeat (first | with_reducible assumption | with_reducible exact Below.refl _ _ | refine Below.setCell ?_ (by (first | omega | (simp; omega) | (simp; done) | fail "sml")) _ | refine Below.drew ?_ | refine Below.alloc ?_ (by (first | omega | (simp; omega) | (simp; done) | fail "sml")) _)); first | done | fail "chs")) xxk xx0, keepc (show Below w6.heap.size w6 _ by ((repeat (first | with_reducible assumption | with_reducible exact Below.refl _ _ | refine Below.setCell ?_ (by (first | omega | (simp; omega) | (simp; done) | fail "sml")) _ | refine Below.drew ?_ | refine Below.alloc ?_ (by (first | omega | (simp; omega) | (simp; done) | fail "sml")) _)); first | done | fail "chs")) xxk xx1, keepc (show Below w6.heap.size w6 _ by ((repeat (first | with_reducible assumption | with_reducible exact Below.refl _ _ | refine Below.setCell ?_ (by (first | omega | (simp; omega) | (simp; done) | fail "sml")) _ | refine Below.drew ?_ | refine Below.alloc ?_ (by (first | omega | (simp; omega) | (simp; done) | fail "sml")) _)); first | done | fail "chs")) xxk xx2⟩)
      (first
        | (go_at_call 22; refine (CT.out _ (hA0.trans (Below.mono (show Below w6.heap.size w6 _ by ((repeat (first | with_reducible assumption | with_reducible exact Below.refl _ _ | refine Below.setCell ?_ (by (first | omega | (simp; omega) | (simp; done) | fail "sml")) _ | refine Below.drew ?_ | refine Below.alloc ?_ (by (first | omega | (simp; omega) | (simp; done) | fail "sml")) _)); first | done | fail "chs")) (by omega)))).mono ?_; rintro en wa ⟨va, Fa, rfl, hh, _, hb⟩; have hka := Below.trans (show Below w6.heap.size w6 _ by ((repeat (first | with_reducible assumption | with_reducible exact Below.refl _ _ | refine Below.setCell ?_ (by (first | omega | (simp; omega) | (simp; done) | fail "sml")) _ | refine Below.drew ?_ | refine Below.alloc ?_ (by (first | omega | (simp; omega) | (simp; done) | fail "sml")) _)); first | done | fail "chs")) (hb.mono (by (first | omega | (simp; omega) | (simp; done) | fail "sml"))); have za := hka.size; have HHa := Lib.hid hh.at; clear hh hb)
        | (go_at_call 24; refine (eqMatch_any x _ _ wa.heap.size _ (LX.out.2.2.at.to (by ((repeat (first | with_reducible assumption | with_reducible exact Below.refl _ _ | refine Below.setCell ?_ (by (first | omega | (simp; omega) | (simp; done) | fail "sml")) _ | refine Below.drew ?_ | refine Below.alloc ?_ (by (first | omega | (simp; omega) | (simp; done) | fail "sml")) _)); first | done | fail "chs")) (by omega)) (HHa.out.to (by ((repeat (first | with_reducible assumption | with_reducible exact Below.refl _ _ | refine Below.setCell ?_ (by (first | omega | (simp; omega) | (simp; done) | fail "sml")) _ | refine Below.drew ?_ | refine Below.alloc ?_ (by (first | omega | (simp; omega) | (simp; done) | fail "sml")) _)); first | done | fail "chs")) (Nat.le_refl _)) (by (first | omega | (simp; omega) | (simp; done) | fail "sml"))).mono ?_; rintro en wb ⟨rfl, hbb⟩; have hkb := Below.trans (show Below w6.heap.size w6 _ by ((repeat (first | with_reducible assumption | with_reducible exact Below.refl _ _ | refine Below.setCell ?_ (by (first | omega | (simp; omega) | (simp; done) | fail "sml")) _ | refine Below.drew ?_ | refine Below.alloc ?_ (by (first | omega | (simp; omega) | (simp; done) | fail "sml")) _)); first | done | fail "chs")) (hbb.mono (by first | omega | (simp; omega))); clear hbb))
    all_goals (go_wp2_with fail; go_meet)
    all_goals exact ⟨rfl, by ((repeat (first | with_reducible assumption | with_reducible exact Below.refl _ _ | refine Below.setCell ?_ (by (first | omega | (simp; omega) | (simp; done) | fail "sml")) _ | refine Below.drew ?_ | refine Below.alloc ?_ (by (first | omega | (simp; omega) | (simp; done) | fail "sml")) _)); first | done | fail "chs")⟩
  case rest =>
  obtain ⟨rfl, hbx⟩ := hcut
  clear hz hq a0 a1 a2 wwk ww0 ww1 ww2 xxk xx0 xx1 xx2 ggk gg0 gg1 gg2
  clear hA0 rr0
  obtain ⟨w7, ew⟩ : ∃ u, u = wc := ⟨_, rfl⟩
  subst ew
  have hs_w7 : w6.heap.size ≤ w7.heap.size := hbx.size
  have LW := Lib.hid (LW.out.below (Bn.goes R) hbx)
  have LX := Lib.hid (LX.out.below (Mt.goes x) hbx)
  have LG := Lib.hid (LG.out.below (Bn.goes R) hbx)
  have HA := Lib.hid (HA.out.trans (hbx.mono (by omega)))
  clear hbx
  obtain ⟨hz, a0, a1, a2⟩ := HK.out _ HA.out
  have hq : w.heap.size < w7.heap.size := by omega
  obtain ⟨wwk, wwc, _⟩ := LW.out
  have ww0 := wwc 0 _ rfl
  have ww1 := wwc 1 _ rfl
  have ww2 := wwc 2 _ rfl
  clear wwc
  obtain ⟨xxk, xxc, _⟩ := LX.out
  have xx0 := xxc 0 _ rfl
  have xx1 := xxc 1 _ rfl
  have xx2 := xxc 2 _ rfl
  clear xxc
  obtain ⟨ggk, ggc, _⟩ := LG.out
  have gg0 := ggc 0 _ rfl
  have gg1 := ggc 1 _ rfl
  have gg2 := ggc 2 _ rfl
  clear ggc
  go_wp2_with fail
  refine (markMatch_any x _ FX 1 _ LX.out.2.2 (by omega) (by omega)).mono ?_
  rintro en w8 ⟨rr, rfl, hrr, hc⟩
  clear hz hq a0 a1 a2 wwk ww0 ww1 ww2 xxk xx0 xx1 xx2 ggk gg0 gg1 gg2
  have hs_w8 : w7.heap.size ≤ w8.heap.size := hc.size
  have HA := Lib.hid (HA.out.trans (hc.below (by omega) (fun y hy => by have := GX.out y hy; omega)))
  have LW := Lib.hid (LW.out.chg (Bn.goes R) hc (fun hy => by have := GX.out _ hy; omega) (fun y hy hy2 => by have h1 := GW.out y hy; have h2 := GX.out y hy2; omega))
  have LG := Lib.hid (LG.out.chg (Bn.goes R) hc (fun hy => by have := GX.out _ hy; omega) (fun y hy hy2 => by have h1 := GG.out y hy; have h2 := GX.out y hy2; omega))
  clear hc LX
  obtain ⟨hz, a0, a1, a2⟩ := HK.out _ HA.out
  have hq : w.heap.size < w8.heap.size := by omega
  obtain ⟨wwk, wwc, _⟩ := LW.out
  have ww0 := wwc 0 _ rfl
  have ww1 := wwc 1 _ rfl
  have ww2 := wwc 2 _ rfl
  clear wwc
  obtain ⟨ggk, ggc, _⟩ := LG.out
  have gg0 := ggc 0 _ rfl
  have gg1 := ggc 1 _ rfl
  have gg2 := ggc 2 _ rfl
  clear ggc
  have hn1 : ¬ (rr < 0) := by omega
  go_wp2_with fail
  refine (eqBindV_any R _ _ w8.heap.size _ LG.out.2.2.at LW.out.2.2.at (Nat.le_refl _)).mono ?_
  rintro en w9 ⟨rfl, hb⟩
  clear hz hq a0 a1 a2 wwk ww0 ww1 ww2 ggk gg0 gg1 gg2
  have hs_w9 : w8.heap.size ≤ w9.heap.size := hb.size
  have LW := Lib.hid (LW.out.below (Bn.goes R) hb)
  have LG := Lib.hid (LG.out.below (Bn.goes R) hb)
  have HA := Lib.hid (HA.out.trans (hb.mono (by omega)))
  clear hb
  obtain ⟨hz, a0, a1, a2⟩ := HK.out _ HA.out
  have hq : w.heap.size < w9.heap.size := by omega
  obtain ⟨wwk, wwc, _⟩ := LW.out
  have ww0 := wwc 0 _ rfl
  have ww1 := wwc 1 _ rfl
  have ww2 := wwc 2 _ rfl
  clear wwc
  obtain ⟨ggk, ggc, _⟩ := LG.out
  have gg0 := ggc 0 _ rfl
  have gg1 := ggc 1 _ rfl
  have gg2 := ggc 2 _ rfl
  clear ggc
  clear hn1
  go_wp2_with fail
  refine (markBind_any R _ FG 1 _ LG.out.2.2 (by omega) (by omega)).mono ?_
  rintro en w10 ⟨rfl, ho, hc⟩
  clear hz hq a0 a1 a2 wwk ww0 ww1 ww2 ggk gg0 gg1 gg2
  have hs_w10 : w9.heap.size ≤ w10.heap.size := hc.size
  have HA := Lib.hid (HA.out.trans (hc.below (by omega) (fun y hy => by have := GG.out y hy; omega)))
  have LW := Lib.hid (LW.out.chg (Bn.goes R) hc (fun hy => by have := GG.out _ hy; omega) (fun y hy hy2 => by have h1 := GW.out y hy; have h2 := GG.out y hy2; omega))
  have LM := Lib.hid (LG.out.turn (Q := (R.mk1 1).Has) hc (fun hy => by have := GG.out _ hy; omega) ho)
  clear hc ho LG
  obtain ⟨hz, a0, a1, a2⟩ := HK.out _ HA.out
  have hq : w.heap.size < w10.heap.size := by omega
  obtain ⟨wwk, wwc, _⟩ := LW.out
  have ww0 := wwc 0 _ rfl
  have ww1 := wwc 1 _ rfl
  have ww2 := wwc 2 _ rfl
  clear wwc
  obtain ⟨mmk, mmc, _⟩ := LM.out
  have mm0 := mmc 0 _ rfl
  have mm1 := mmc 1 _ rfl
  have mm2 := mmc 2 _ rfl
  clear mmc
  go_wp2_with fail
  refine (heldBind_any R _ 1 w10.heap.size _ LM.out.2.2.at (Nat.le_refl _) (by omega) (by omega)).mono ?_
  rintro en w11 ⟨rfl, hb⟩
  clear hz hq a0 a1 a2 wwk ww0 ww1 ww2 mmk mm0 mm1 mm2
  have hs_w11 : w10.heap.size ≤ w11.heap.size := hb.size
  have LW := Lib.hid (LW.out.below (Bn.goes R) hb)
  have LM := Lib.hid (LM.out.below (Bn.goes (R.mk1 1)) hb)
  have HA := Lib.hid (HA.out.trans (hb.mono (by omega)))
  clear hb
  obtain ⟨hz, a0, a1, a2⟩ := HK.out _ HA.out
  have hq : w.heap.size < w11.heap.size := by omega
  obtain ⟨wwk, wwc, _⟩ := LW.out
  have ww0 := wwc 0 _ rfl
  have ww1 := wwc 1 _ rfl
  have ww2 := wwc 2 _ rfl
  clear wwc
  obtain ⟨mmk, mmc, _⟩ := LM.out
  have mm0 := mmc 0 _ rfl
  have mm1 := mmc 1 _ rfl
  have mm2 := mmc 2 _ rfl
  clear mmc
  have hn2 : ¬ ((1 : Int) + R.ids.length < 0) := by omega
  go_wp2_with fail
  refine (CT.out _ HA.out).mono ?_
  rintro en w12 ⟨vw12, FZ, rfl, ho, hf, hb⟩
  clear hz hq a0 a1 a2 wwk ww0 ww1 ww2 mmk mm0 mm1 mm2
  have hs_w12 : w11.heap.size ≤ w12.heap.size := hb.size
  have LW := Lib.hid (LW.out.below (Bn.goes R) hb)
  have LM := Lib.hid (LM.out.below (Bn.goes (R.mk1 1)) hb)
  have HA := Lib.hid (HA.out.trans (hb.mono (by omega)))
  have HO := Lib.hid ho
  have GZ := Lib.hid (show ∀ y ∈ FZ, w11.heap.size ≤ y ∧ y < w12.heap.size from fun y hy => ⟨hf y hy, ho.lt y hy⟩)
  obtain ⟨pZ, cZ, qZ, dZ, rZ, eZ, rfl⟩ := ho.at.form
  clear ho hf hb
  obtain ⟨hz, a0, a1, a2⟩ := HK.out _ HA.out
  have hq : w.heap.size < w12.heap.size := by omega
  obtain ⟨wwk, wwc, _⟩ := LW.out
  have ww0 := wwc 0 _ rfl
  have ww1 := wwc 1 _ rfl
  have ww2 := wwc 2 _ rfl
  clear wwc
  obtain ⟨mmk, mmc, _⟩ := LM.out
  have mm0 := mmc 0 _ rfl
  have mm1 := mmc 1 _ rfl
  have mm2 := mmc 2 _ rfl
  clear mmc
  go_wp2_with fail
  refine (CI.out _ w12.heap.size _ (Nat.le_refl _) HO.out.at).mono ?_
  rintro en w13 ⟨vw13, FH, rfl, ho, hf, hb⟩
  clear hz hq a0 a1 a2 wwk ww0 ww1 ww2 mmk mm0 mm1 mm2
  have hs_w13 : w12.heap.size ≤ w13.heap.size := hb.size
  have LW := Lib.hid (LW.out.below (Bn.goes R) hb)
  have LM := Lib.hid (LM.out.below (Bn.goes (R.mk1 1)) hb)
  have HA := Lib.hid (HA.out.trans (hb.mono (by omega)))
  have HO := Lib.hid ho
  have GH := Lib.hid (show ∀ y ∈ FH, w12.heap.size ≤ y ∧ y < w13.heap.size from fun y hy => ⟨hf y hy, ho.lt y hy⟩)
  obtain ⟨pH, cH, rfl⟩ := ho.at.form
  clear ho hf hb
  obtain ⟨hz, a0, a1, a2⟩ := HK.out _ HA.out
  have hq : w.heap.size < w13.heap.size := by omega
  obtain ⟨wwk, wwc, _⟩ := LW.out
  have ww0 := wwc 0 _ rfl
  have ww1 := wwc 1 _ rfl
  have ww2 := wwc 2 _ rfl
  clear wwc
  obtain ⟨mmk, mmc, _⟩ := LM.out
  have mm0 := mmc 0 _ rfl
  have mm1 := mmc 1 _ rfl
  have mm2 := mmc 2 _ rfl
  clear mmc
  go_wp2_with fail
  clear hz hq a0 a1 a2 wwk ww0 ww1 ww2 mmk mm0 mm1 mm2
  obtain ⟨V13, eW⟩ : ∃ u, u = w13.alloc (.cells #[.string R.v, .slice pH R.ids.length cH, .bool R.g] 45) := ⟨_, rfl⟩
  rw [← eW]
  have hszV13 : w13.heap.size < V13.heap.size := by rw [eW]; simp
  have hbW : Below w13.heap.size w13 V13 := by rw [eW]; exact (Below.refl _ _).alloc (Nat.le_refl _) _
  have LH := Lib.hid (show LocV R.Has w13.heap.size #[.string R.v, .slice pH R.ids.length cH, .bool R.g] FH V13 by rw [eW]; exact LocV.fresh (Bn.goes R) HO.out)
  have hs_V13 : w13.heap.size ≤ V13.heap.size := hbW.size
  have LW := Lib.hid (LW.out.below (Bn.goes R) hbW)
  have LM := Lib.hid (LM.out.below (Bn.goes (R.mk1 1)) hbW)
  have HA := Lib.hid (HA.out.trans (hbW.mono (by omega)))
  clear hbW eW HO
  obtain ⟨hz, a0, a1, a2⟩ := HK.out _ HA.out
  have hq : w.heap.size < V13.heap.size := by omega
  obtain ⟨wwk, wwc, _⟩ := LW.out
  have ww0 := wwc 0 _ rfl
  have ww1 := wwc 1 _ rfl
  have ww2 := wwc 2 _ rfl
  clear wwc
  obtain ⟨mmk, mmc, _⟩ := LM.out
  have mm0 := mmc 0 _ rfl
  have mm1 := mmc 1 _ rfl
  have mm2 := mmc 2 _ rfl
  clear mmc
  obtain ⟨hhk, hhc, _⟩ := LH.out
  have hh0 := hhc 0 _ rfl
  have hh1 := hhc 1 _ rfl
  have hh2 := hhc 2 _ rfl
  clear hhc
  go_wp2_with fail
  refine (eqBindV_any R _ _ V13.heap.size _ LH.out.2.2.at LW.out.2.2.at (Nat.le_refl _)).mono ?_
  rintro en w14 ⟨rfl, hb⟩
  clear hz hq a0 a1 a2 wwk ww0 ww1 ww2 mmk mm0 mm1 mm2 hhk hh0 hh1 hh2
  have hs_w14 : V13.heap.size ≤ w14.heap.size := hb.size
  have LW := Lib.hid (LW.out.below (Bn.goes R) hb)
  have LM := Lib.hid (LM.out.below (Bn.goes (R.mk1 1)) hb)
  have LH := Lib.hid (LH.out.below (Bn.goes R) hb)
  have HA := Lib.hid (HA.out.trans (hb.mono (by omega)))
  clear hb
  obtain ⟨hz, a0, a1, a2⟩ := HK.out _ HA.out
  have hq : w.heap.size < w14.heap.size := by omega
  obtain ⟨wwk, wwc, _⟩ := LW.out
  have ww0 := wwc 0 _ rfl
  have ww1 := wwc 1 _ rfl
  have ww2 := wwc 2 _ rfl
  clear wwc
  obtain ⟨mmk, mmc, _⟩ := LM.out
  have mm0 := mmc 0 _ rfl
  have mm1 := mmc 1 _ rfl
  have mm2 := mmc 2 _ rfl
  clear mmc
  obtain ⟨hhk, hhc, _⟩ := LH.out
  have hh0 := hhc 0 _ rfl
  have hh1 := hhc 1 _ rfl
  have hh2 := hhc 2 _ rfl
  clear hhc
  go_wp2_with fail
  refine (heldBind_any R _ 1 w14.heap.size _ LM.out.2.2.at (Nat.le_refl _) (by omega) (by omega)).mono ?_
  rintro en w15 ⟨rfl, hb⟩
  clear hz hq a0 a1 a2 wwk ww0 ww1 ww2 mmk mm0 mm1 mm2 hhk hh0 hh1 hh2
  have hs_w15 : w14.heap.size ≤ w15.heap.size := hb.size
  have LW := Lib.hid (LW.out.below (Bn.goes R) hb)
  have LM := Lib.hid (LM.out.below (Bn.goes (R.mk1 1)) hb)
  have LH := Lib.hid (LH.out.below (Bn.goes R) hb)
  have HA := Lib.hid (HA.out.trans (hb.mono (by omega)))
  clear hb
  obtain ⟨hz, a0, a1, a2⟩ := HK.out _ HA.out
  have hq : w.heap.size < w15.heap.size := by omega
  obtain ⟨wwk, wwc, _⟩ := LW.out
  have ww0 := wwc 0 _ rfl
  have ww1 := wwc 1 _ rfl
  have ww2 := wwc 2 _ rfl
  clear wwc
  obtain ⟨mmk, mmc, _⟩ := LM.out
  have mm0 := mmc 0 _ rfl
  have mm1 := mmc 1 _ rfl
  have mm2 := mmc 2 _ rfl
  clear mmc
  obtain ⟨hhk, hhc, _⟩ := LH.out
  have hh0 := hhc 0 _ rfl
  have hh1 := hhc 1 _ rfl
  have hh2 := hhc 2 _ rfl
  clear hhc
  go_wp2_with fail
  go_ret
  exact ⟨rfl, HV.out.trans (HA.out.mono (by omega))⟩
end Go.Proofs.Ytchhobphockhhaa
