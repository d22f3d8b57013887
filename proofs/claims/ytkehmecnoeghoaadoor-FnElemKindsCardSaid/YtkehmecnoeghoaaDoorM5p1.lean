/- Lemmas on the data and the memory of this program's values: several texts in one. -/
import Derived.Test.YtkehmecnoeghoaaDoorElV
import Derived.Test.YtkehmecnoeghoaaDoorHolds
import Derived.Test.YtkehmecnoeghoaaDoorSHolds
namespace Go.Proofs.YtkehmecnoeghoaaDoor
open Go.RowKit

def labF (e : Ex) (s : ByteArray) : Bool := exNone e || lholds e s
def numF (e : Ex) (m : Int) : Bool := exNone e || nholds e m
def elemF (e : El) (s : ByteArray) (m : Int) : Bool := labF e.l s && numF e.c m
theorem exV_op {kind : Int} {e : Ex} (h : exV kind e = true) : e.op ≠ 0 := by
  have h1 := exV_ok h
  obtain ⟨_, h2, _⟩ := Ex.okB_parts h1
  rcases topB_cases h2 with ⟨h, _⟩ | ⟨h, _⟩ | ⟨h, _⟩ | ⟨h, _⟩ | ⟨h, _⟩ <;> omega
theorem partV_none {kind : Int} {e : Ex} (h : partV kind e = true) (h0 : e.op = 0) : exNone e = true := by
  unfold partV at h
  cases hn : exNone e with
  | true => rfl
  | false =>
    rw [hn] at h
    exact absurd h0 (exV_op (kind := kind) (by simpa using h))
theorem partV_some {kind : Int} {e : Ex} (h : partV kind e = true) (h0 : e.op ≠ 0) : exNone e = false ∧ exV kind e = true := by
  have hn : exNone e = false := by unfold exNone noneB; rw [decide_eq_false h0]; rfl
  unfold partV at h
  rw [hn] at h
  exact ⟨hn, by simpa using h⟩

set_option maxRecDepth 100000 in
set_option maxHeartbeats 8000000 in
theorem propsFit_any (e : El) (u : Value) (s : ByteArray) (m : Int) (B : Nat) (w : World) (hu : e.At B w u) (hB : B ≤ w.heap.size) (hs : e.Sm) (hss : s.size ≤ 1048576) (hvars : Vars w) :
    Calls Tryd.prog 32 #[.string s, .int .i64 m, u] w fun en w' => en = .returned (.bool (elemF e s m)) ∧ Below w.heap.size w w' := by
  obtain ⟨p, cap, p', cap', rfl, hl, hc⟩ := hu.form
  obtain ⟨s1, s2, s3, s4, s5⟩ := hs
  have HS3 := Lib.hid s3
  have HS5 := Lib.hid s5
  have HL := Lib.hid hl
  have HC := Lib.hid hc
  have HVV := Lib.hid hvars
  clear hu hl hc s3 s5 hvars
  obtain ⟨W0, eW⟩ : ∃ W0, W0 = w.alloc (.cells #[.bool e.n, .string e.v, .int .i64 e.l.op, .string e.l.a, .slice p e.l.ks.list.length cap, .int .i64 e.c.op, .string e.c.a, .slice p' e.c.ks.list.length cap', .int .i64 e.d] 27) := ⟨_, rfl⟩
  have HV := Lib.hid (show Below w.heap.size w W0 by rw [eW]; exact (Below.refl w.heap.size w).alloc (by simp) _)
  have hs0 : w.heap.size + 1 ≤ W0.heap.size := by rw [eW]; simp
  have HK := Lib.hid (show ∀ wk, Below (w.heap.size + 1) W0 wk → w.heap.size + 1 ≤ wk.heap.size ∧ wk.cell? ⟨w.heap.size, 2, none⟩ = some (.int .i64 e.l.op) ∧ wk.cell? ⟨w.heap.size, 3, none⟩ = some (.string e.l.a) ∧ wk.cell? ⟨w.heap.size, 4, none⟩ = some (.slice p e.l.ks.list.length cap) ∧ wk.cell? ⟨w.heap.size, 5, none⟩ = some (.int .i64 e.c.op) ∧ wk.cell? ⟨w.heap.size, 6, none⟩ = some (.string e.c.a) ∧ wk.cell? ⟨w.heap.size, 7, none⟩ = some (.slice p' e.c.ks.list.length cap') ∧ wk.cell? ⟨w.heap.size, 8, none⟩ = some (.int .i64 e.d) from
    fun wk hk => by rw [eW] at hk; exact ⟨by have := hk.size; simp at this; omega, keepc hk (by omega) (by simp [go_sem]), keepc hk (by omega) (by simp [go_sem]), keepc hk (by omega) (by simp [go_sem]), keepc hk (by omega) (by simp [go_sem]), keepc hk (by omega) (by simp [go_sem]), keepc hk (by omega) (by simp [go_sem]), keepc hk (by omega) (by simp [go_sem])⟩)
  have HA := Lib.hid (Below.refl (w.heap.size + 1) W0)
  have HLA := Lib.hid (show ∀ wk, Below (w.heap.size + 1) W0 wk → e.l.At B wk (.agg #[.int .i64 e.l.op, .string e.l.a, .slice p e.l.ks.list.length cap]) from fun wk hk => ⟨_, rfl, HL.out.below ((HV.out.trans (hk.mono (by omega))).mono hB) (Nat.le_refl _)⟩)
  have HCA := Lib.hid (show ∀ wk, Below (w.heap.size + 1) W0 wk → e.c.At B wk (.agg #[.int .i64 e.c.op, .string e.c.a, .slice p' e.c.ks.list.length cap']) from fun wk hk => ⟨_, rfl, HC.out.below ((HV.out.trans (hk.mono (by omega))).mono hB) (Nat.le_refl _)⟩)
  have HVA := Lib.hid (show ∀ wk, Below (w.heap.size + 1) W0 wk → Vars wk from fun wk hk => HVV.out.below (HV.out.trans (hk.mono (by omega))))
  have EW := Lib.hid eW
  clear eW
  clear HVV
  go_enter Tryd.func32, Tryd.ntmps32
  go_wp2_with fail
  rw [← EW.out]
  obtain ⟨hz, c2, c3, c4, c5, c6, c7, c8⟩ := HK.out _ HA.out
  refine (noExpr_any e.l.op e.l.a _ e.l.ks.list.length _ _).mono ?_
  rintro en w1 ⟨rfl, hb⟩
  have HA := Lib.hid (HA.out.trans (hb.mono (by omega)))
  clear hb hz c2 c3 c4 c5 c6 c7 c8
  obtain ⟨hz, c2, c3, c4, c5, c6, c7, c8⟩ := HK.out _ HA.out
  cases hN : noneB e.l.op e.l.a e.l.ks.list.length with
  | true =>
    have HPL := Lib.hid (show labF e.l s = true by unfold labF exNone; rw [hN]; rfl)
    clear hN
    go_wp2_with fail
    refine (noExpr_any e.c.op e.c.a _ e.c.ks.list.length _ _).mono ?_
    rintro en w3 ⟨rfl, hb⟩
    have HA := Lib.hid (HA.out.trans (hb.mono (by omega)))
    clear hb hz c2 c3 c4 c5 c6 c7 c8
    obtain ⟨hz, c2, c3, c4, c5, c6, c7, c8⟩ := HK.out _ HA.out
    cases hN : noneB e.c.op e.c.a e.c.ks.list.length with
    | true =>
      have HPC := Lib.hid (show numF e.c m = true by unfold numF exNone; rw [hN]; rfl)
      clear hN
      have HT := Lib.hid (show elemF e s m = true by unfold elemF; rw [HPL.out, HPC.out]; rfl)
      go_wp2_with fail
      go_ret
      exact ⟨by rw [HT.out]; first | rfl | simp [*], HV.out.trans (HA.out.mono (by omega))⟩
    | false =>
      have HQ := Lib.hid (show numF e.c m = nholds e.c m by unfold numF exNone; rw [hN]; rfl)
      clear hN
      go_wp2_with fail
      refine (numHolds_any e.c _ m B _ (HCA.out _ HA.out) (by omega) s4 HS5.out (HVA.out _ HA.out)).mono ?_
      rintro en w4 ⟨rfl, hb⟩
      have HA := Lib.hid (HA.out.trans (hb.mono (by omega)))
      clear hb hz c2 c3 c4 c5 c6 c7 c8
      obtain ⟨hz, c2, c3, c4, c5, c6, c7, c8⟩ := HK.out _ HA.out
      cases hX : nholds e.c m with
      | false =>
        have HPC := Lib.hid (show numF e.c m = false by rw [HQ.out, hX])
        have HT := Lib.hid (show elemF e s m = false by unfold elemF; rw [HPC.out]; simp)
        clear hX
        go_wp2_with fail
        go_ret
        exact ⟨by rw [HT.out]; first | rfl | simp [*], HV.out.trans (HA.out.mono (by omega))⟩
      | true =>
        have HPC := Lib.hid (show numF e.c m = true by rw [HQ.out, hX])
        clear hX
        have HT := Lib.hid (show elemF e s m = true by unfold elemF; rw [HPL.out, HPC.out]; rfl)
        go_wp2_with fail
        go_ret
        exact ⟨by rw [HT.out]; first | rfl | simp [*], HV.out.trans (HA.out.mono (by omega))⟩
  | false =>
    have HQ := Lib.hid (show labF e.l s = lholds e.l s by unfold labF exNone; rw [hN]; rfl)
    clear hN
    go_wp2_with fail
    refine (labelHolds_any e.l _ s B _ (HLA.out _ HA.out) (by omega) s2 HS3.out hss (HVA.out _ HA.out)).mono ?_
    rintro en w2 ⟨rfl, hb⟩
    have HA := Lib.hid (HA.out.trans (hb.mono (by omega)))
    clear hb hz c2 c3 c4 c5 c6 c7 c8
    obtain ⟨hz, c2, c3, c4, c5, c6, c7, c8⟩ := HK.out _ HA.out
    cases hX : lholds e.l s with
    | false =>
      have HPL := Lib.hid (show labF e.l s = false by rw [HQ.out, hX])
      have HT := Lib.hid (show elemF e s m = false by unfold elemF; rw [HPL.out]; simp)
      clear hX
      go_wp2_with fail
      go_ret
      exact ⟨by rw [HT.out]; first | rfl | simp [*], HV.out.trans (HA.out.mono (by omega))⟩
    | true =>
      have HPL := Lib.hid (show labF e.l s = true by rw [HQ.out, hX])
      clear hX
      go_wp2_with fail
      refine (noExpr_any e.c.op e.c.a _ e.c.ks.list.length _ _).mono ?_
      rintro en w3 ⟨rfl, hb⟩
      have HA := Lib.hid (HA.out.trans (hb.mono (by omega)))
      clear hb hz c2 c3 c4 c5 c6 c7 c8
      obtain ⟨hz, c2, c3, c4, c5, c6, c7, c8⟩ := HK.out _ HA.out
      cases hN : noneB e.c.op e.c.a e.c.ks.list.length with
      | true =>
        have HPC := Lib.hid (show numF e.c m = true by unfold numF exNone; rw [hN]; rfl)
        clear hN
        have HT := Lib.hid (show elemF e s m = true by unfold elemF; rw [HPL.out, HPC.out]; rfl)
        go_wp2_with fail
        go_ret
        exact ⟨by rw [HT.out]; first | rfl | simp [*], HV.out.trans (HA.out.mono (by omega))⟩
      | false =>
        have HQ := Lib.hid (show numF e.c m = nholds e.c m by unfold numF exNone; rw [hN]; rfl)
        clear hN
        go_wp2_with fail
        refine (numHolds_any e.c _ m B _ (HCA.out _ HA.out) (by omega) s4 HS5.out (HVA.out _ HA.out)).mono ?_
        rintro en w4 ⟨rfl, hb⟩
        have HA := Lib.hid (HA.out.trans (hb.mono (by omega)))
        clear hb hz c2 c3 c4 c5 c6 c7 c8
        obtain ⟨hz, c2, c3, c4, c5, c6, c7, c8⟩ := HK.out _ HA.out
        cases hX : nholds e.c m with
        | false =>
          have HPC := Lib.hid (show numF e.c m = false by rw [HQ.out, hX])
          have HT := Lib.hid (show elemF e s m = false by unfold elemF; rw [HPC.out]; simp)
          clear hX
          go_wp2_with fail
          go_ret
          exact ⟨by rw [HT.out]; first | rfl | simp [*], HV.out.trans (HA.out.mono (by omega))⟩
        | true =>
          have HPC := Lib.hid (show numF e.c m = true by rw [HQ.out, hX])
          clear hX
          have HT := Lib.hid (show elemF e s m = true by unfold elemF; rw [HPL.out, HPC.out]; rfl)
          go_wp2_with fail
          go_ret
          exact ⟨by rw [HT.out]; first | rfl | simp [*], HV.out.trans (HA.out.mono (by omega))⟩

set_option maxRecDepth 100000 in
set_option maxHeartbeats 8000000 in
theorem l3Fits_any (e : El) (u : Value) (s : ByteArray) (m : Int) (B : Nat) (w : World) (hu : e.At B w u) (hB : B ≤ w.heap.size) (hs : e.Sm) (hpl : partV 1 e.l = true) (hpc : partV 2 e.c = true) (hlb : lbl s = true) (hnm : nm m = true) :
    Calls Tryd.prog 34 #[u, .string s, .int .i64 m] w fun en w' => en = .returned (.bool (elemF e s m)) ∧ Below w.heap.size w w' := by
  obtain ⟨p, cap, p', cap', rfl, hl, hc⟩ := hu.form
  obtain ⟨s1, s2, s3, s4, s5⟩ := hs
  have HS3 := Lib.hid s3
  have HS5 := Lib.hid s5
  have HL := Lib.hid hl
  have HC := Lib.hid hc
  skip
  clear hu hl hc s3 s5
  obtain ⟨W0, eW⟩ : ∃ W0, W0 = w.alloc (.cells #[.bool e.n, .string e.v, .int .i64 e.l.op, .string e.l.a, .slice p e.l.ks.list.length cap, .int .i64 e.c.op, .string e.c.a, .slice p' e.c.ks.list.length cap', .int .i64 e.d] 27) := ⟨_, rfl⟩
  have HV := Lib.hid (show Below w.heap.size w W0 by rw [eW]; exact (Below.refl w.heap.size w).alloc (by simp) _)
  have hs0 : w.heap.size + 1 ≤ W0.heap.size := by rw [eW]; simp
  have HK := Lib.hid (show ∀ wk, Below (w.heap.size + 1) W0 wk → w.heap.size + 1 ≤ wk.heap.size ∧ wk.cell? ⟨w.heap.size, 2, none⟩ = some (.int .i64 e.l.op) ∧ wk.cell? ⟨w.heap.size, 3, none⟩ = some (.string e.l.a) ∧ wk.cell? ⟨w.heap.size, 4, none⟩ = some (.slice p e.l.ks.list.length cap) ∧ wk.cell? ⟨w.heap.size, 5, none⟩ = some (.int .i64 e.c.op) ∧ wk.cell? ⟨w.heap.size, 6, none⟩ = some (.string e.c.a) ∧ wk.cell? ⟨w.heap.size, 7, none⟩ = some (.slice p' e.c.ks.list.length cap') ∧ wk.cell? ⟨w.heap.size, 8, none⟩ = some (.int .i64 e.d) from
    fun wk hk => by rw [eW] at hk; exact ⟨by have := hk.size; simp at this; omega, keepc hk (by omega) (by simp [go_sem]), keepc hk (by omega) (by simp [go_sem]), keepc hk (by omega) (by simp [go_sem]), keepc hk (by omega) (by simp [go_sem]), keepc hk (by omega) (by simp [go_sem]), keepc hk (by omega) (by simp [go_sem]), keepc hk (by omega) (by simp [go_sem])⟩)
  have HA := Lib.hid (Below.refl (w.heap.size + 1) W0)
  have HLA := Lib.hid (show ∀ wk, Below (w.heap.size + 1) W0 wk → e.l.At B wk (.agg #[.int .i64 e.l.op, .string e.l.a, .slice p e.l.ks.list.length cap]) from fun wk hk => ⟨_, rfl, HL.out.below ((HV.out.trans (hk.mono (by omega))).mono hB) (Nat.le_refl _)⟩)
  have HCA := Lib.hid (show ∀ wk, Below (w.heap.size + 1) W0 wk → e.c.At B wk (.agg #[.int .i64 e.c.op, .string e.c.a, .slice p' e.c.ks.list.length cap']) from fun wk hk => ⟨_, rfl, HC.out.below ((HV.out.trans (hk.mono (by omega))).mono hB) (Nat.le_refl _)⟩)
  skip
  have EW := Lib.hid eW
  clear eW
  have HLB := Lib.hid hlb
  have HNM := Lib.hid hnm
  clear hlb hnm
  obtain ⟨hz, c2, c3, c4, c5, c6, c7, c8⟩ := HK.out _ HA.out
  by_cases l0 : e.l.op = 0
  · have bl : (e.l.op == 0) = true := beq_iff_eq.2 l0
    have HPL := Lib.hid (show labF e.l s = true by unfold labF; rw [partV_none hpl l0]; rfl)
    clear l0
    by_cases c0 : e.c.op = 0
    · have bc : (e.c.op == 0) = true := beq_iff_eq.2 c0
      have HPC := Lib.hid (show numF e.c m = true by unfold numF; rw [partV_none hpc c0]; rfl)
      clear c0
      have HT := Lib.hid (show elemF e s m = true by unfold elemF; rw [HPL.out, HPC.out]; rfl)
      go_enter Tryd.func34, Tryd.ntmps34
      go_wp2_with fail
      go_ret
      exact ⟨by rw [HT.out]; first | rfl | simp [*], by have := HV.out; rw [EW.out] at this; exact this⟩
    · have bc : (e.c.op == 0) = false := beq_eq_false_iff_ne.2 c0
      obtain ⟨hq1, hq2⟩ := partV_some hpc c0
      have HOK := Lib.hid (exV_ok hq2)
      have HQ := Lib.hid (show numF e.c m = e.c.hold (condH m) true by unfold numF nholds; rw [hq1, hq2, HNM.out]; rfl)
      clear hq1
      go_enter Tryd.func34, Tryd.ntmps34
      go_wp2_with fail
      rw [← EW.out]
      refine (l2HoldsN_any m (condH m) true (Lib.hid rfl) (Lib.hid rfl) 12 e.c _ B _ (HC.out.below ((HV.out.trans (HA.out.mono (by omega))).mono hB) (Nat.le_refl _)) (by omega) HOK.out s4 HS5.out).mono ?_
      rintro en w2 ⟨rfl, hb⟩
      have HA := Lib.hid (HA.out.trans (hb.mono (by omega)))
      clear hb hz c2 c3 c4 c5 c6 c7 c8
      obtain ⟨hz, c2, c3, c4, c5, c6, c7, c8⟩ := HK.out _ HA.out
      cases hX : e.c.hold (condH m) true with
      | false =>
        have HPC := Lib.hid (show numF e.c m = false by rw [HQ.out, hX])
        have HT := Lib.hid (show elemF e s m = false by unfold elemF; rw [HPC.out]; simp)
        clear hX
        go_wp2_with fail
        go_ret
        exact ⟨by rw [HT.out]; first | rfl | simp [*], HV.out.trans (HA.out.mono (by omega))⟩
      | true =>
        have HPC := Lib.hid (show numF e.c m = true by rw [HQ.out, hX])
        clear hX c0 hq2
        have HT := Lib.hid (show elemF e s m = true by unfold elemF; rw [HPL.out, HPC.out]; rfl)
        go_wp2_with fail
        go_ret
        exact ⟨by rw [HT.out]; first | rfl | simp [*], HV.out.trans (HA.out.mono (by omega))⟩
  · have bl : (e.l.op == 0) = false := beq_eq_false_iff_ne.2 l0
    obtain ⟨hq1, hq2⟩ := partV_some hpl l0
    have HOK := Lib.hid (exV_ok hq2)
    obtain ⟨AT, eAT⟩ : ∃ AT : ByteArray → Bool, AT = fun a => a.toList == s.toList := ⟨_, rfl⟩
    obtain ⟨AN, eAN⟩ : ∃ AN : Bool, AN = !decide (s.size = 0) := ⟨_, rfl⟩
    have HQ := Lib.hid (show labF e.l s = e.l.hold AT AN by rw [eAT, eAN]; unfold labF lholds; rw [hq1, hq2, HLB.out]; rfl)
    have HAT := Lib.hid eAT
    have HAN := Lib.hid eAN
    clear eAT eAN hq1
    go_enter Tryd.func34, Tryd.ntmps34
    go_wp2_with fail
    rw [← EW.out]
    refine (l2HoldsL_any s AT AN HAT HAN 12 e.l _ B _ (HL.out.below ((HV.out.trans (HA.out.mono (by omega))).mono hB) (Nat.le_refl _)) (by omega) HOK.out s2 HS3.out).mono ?_
    rintro en w1 ⟨rfl, hb⟩
    have HA := Lib.hid (HA.out.trans (hb.mono (by omega)))
    clear hb hz c2 c3 c4 c5 c6 c7 c8
    obtain ⟨hz, c2, c3, c4, c5, c6, c7, c8⟩ := HK.out _ HA.out
    cases hX : e.l.hold AT AN with
    | false =>
      have HPL := Lib.hid (show labF e.l s = false by rw [HQ.out, hX])
      have HT := Lib.hid (show elemF e s m = false by unfold elemF; rw [HPL.out]; simp)
      clear hX
      go_wp2_with fail
      go_ret
      exact ⟨by rw [HT.out]; first | rfl | simp [*], HV.out.trans (HA.out.mono (by omega))⟩
    | true =>
      have HPL := Lib.hid (show labF e.l s = true by rw [HQ.out, hX])
      clear hX l0 hq2
      by_cases c0 : e.c.op = 0
      · have bc : (e.c.op == 0) = true := beq_iff_eq.2 c0
        have HPC := Lib.hid (show numF e.c m = true by unfold numF; rw [partV_none hpc c0]; rfl)
        clear c0
        have HT := Lib.hid (show elemF e s m = true by unfold elemF; rw [HPL.out, HPC.out]; rfl)
        go_wp2_with fail
        go_ret
        exact ⟨by rw [HT.out]; first | rfl | simp [*], HV.out.trans (HA.out.mono (by omega))⟩
      · have bc : (e.c.op == 0) = false := beq_eq_false_iff_ne.2 c0
        obtain ⟨hq1, hq2⟩ := partV_some hpc c0
        have HOK := Lib.hid (exV_ok hq2)
        have HQ := Lib.hid (show numF e.c m = e.c.hold (condH m) true by unfold numF nholds; rw [hq1, hq2, HNM.out]; rfl)
        clear hq1
        go_wp2_with fail
        refine (l2HoldsN_any m (condH m) true (Lib.hid rfl) (Lib.hid rfl) 12 e.c _ B _ (HC.out.below ((HV.out.trans (HA.out.mono (by omega))).mono hB) (Nat.le_refl _)) (by omega) HOK.out s4 HS5.out).mono ?_
        rintro en w2 ⟨rfl, hb⟩
        have HA := Lib.hid (HA.out.trans (hb.mono (by omega)))
        clear hb hz c2 c3 c4 c5 c6 c7 c8
        obtain ⟨hz, c2, c3, c4, c5, c6, c7, c8⟩ := HK.out _ HA.out
        cases hX : e.c.hold (condH m) true with
        | false =>
          have HPC := Lib.hid (show numF e.c m = false by rw [HQ.out, hX])
          have HT := Lib.hid (show elemF e s m = false by unfold elemF; rw [HPC.out]; simp)
          clear hX
          go_wp2_with fail
          go_ret
          exact ⟨by rw [HT.out]; first | rfl | simp [*], HV.out.trans (HA.out.mono (by omega))⟩
        | true =>
          have HPC := Lib.hid (show numF e.c m = true by rw [HQ.out, hX])
          clear hX c0 hq2
          have HT := Lib.hid (show elemF e s m = true by unfold elemF; rw [HPL.out, HPC.out]; rfl)
          go_wp2_with fail
          go_ret
          exact ⟨by rw [HT.out]; first | rfl | simp [*], HV.out.trans (HA.out.mono (by omega))⟩
end Go.Proofs.YtkehmecnoeghoaaDoor
