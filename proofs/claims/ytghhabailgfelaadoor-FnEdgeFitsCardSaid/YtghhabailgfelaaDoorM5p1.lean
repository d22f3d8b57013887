/- Lemmas on the data and the memory of this program's values: several texts in one. -/
import Derived.Test.YtghhabailgfelaaDoorElV
import Derived.Test.YtghhabailgfelaaDoorHolds
import Derived.Test.YtghhabailgfelaaDoorSHolds
import Derived.Test.YtghhabailgfelaaDoorTurnS
namespace Go.Proofs.YtghhabailgfelaaDoor
open Go.RowKit

def labF (e : Ex) (s : ByteArray) : Bool := exNone e || lholds e s
def numF (e : Ex) (m : Int) : Bool := exNone e || nholds e m
def elemF (e : El) (s : ByteArray) (m : Int) : Bool := labF e.l s && numF e.c m
theorem exV_op {kind : Int} {e : Ex} (h : exV kind e = true) : e.op ≠ 0 := by
  have h1 := exV_ok h
  obtain ⟨_, h2, _⟩ := Ex.okB_parts h1
  rcases topB_cases h2 with ⟨h, _⟩ | ⟨h, _⟩ | ⟨h, _⟩ | ⟨h, _⟩ | ⟨h, _⟩ <;> omega
theorem partV_none {kind : Int} {e : Ex} (h : partV kind e = true) (h0 : e.op = 0) : exNone e = true := by
  unfold partV at h
  cases hn : exNone e with
  | true => rfl
  | false =>
    rw [hn] at h
    exact absurd h0 (exV_op (kind := kind) (by simpa using h))
theorem partV_some {kind : Int} {e : Ex} (h : partV kind e = true) (h0 : e.op ≠ 0) : exNone e = false ∧ exV kind e = true := by
  have hn : exNone e = false := by unfold exNone noneB; rw [decide_eq_false h0]; rfl
  unfold partV at h
  rw [hn] at h
  exact ⟨hn, by simpa using h⟩

set_option maxRecDepth 100000 in
set_option maxHeartbeats 8000000 in
theorem propsFit_any (e : El) (u : Value) (s : ByteArray) (m : Int) (B : Nat) (w : World) (hu : e.At B w u) (hB : B ≤ w.heap.size) (hs : e.Sm) (hss : s.size ≤ 1048576) (hvars : Vars w) :
    Calls Tryd.prog 29 #[.string s, .int .i64 m, u] w fun en w' => en = .returned (.bool (elemF e s m)) ∧ Below w.heap.size w w' := by
  obtain ⟨p, cap, p', cap', rfl, hl, hc⟩ := hu.form
  obtain ⟨s1, s2, s3, s4, s5⟩ := hs
  have HS3 := Lib.hid s3
  have HS5 := Lib.hid s5
  have HL := Lib.hid hl
  have HC := Lib.hid hc
  have HVV := Lib.hid hvars
  clear hu hl hc s3 s5 hvars
  obtain ⟨W0, eW⟩ : ∃ W0, W0 = w.alloc (.cells #[.bool e.n, .string e.v, .int .i64 e.l.op, .string e.l.a, .slice p e.l.ks.list.length cap, .int .i64 e.c.op, .string e.c.a, .slice p' e.c.ks.list.length cap', .int .i64 e.d] 31) := ⟨_, rfl⟩
  have HV := Lib.hid (show Below w.heap.size w W0 by rw [eW]; exact (Below.refl w.heap.size w).alloc (by simp) _)
  have hs0 : w.heap.size + 1 ≤ W0.heap.size := by rw [eW]; simp
  have HK := Lib.hid (show ∀ wk, Below (w.heap.size + 1) W0 wk → w.heap.size + 1 ≤ wk.heap.size ∧ wk.cell? ⟨w.heap.size, 2, none⟩ = some (.int .i64 e.l.op) ∧ wk.cell? ⟨w.heap.size, 3, none⟩ = some (.string e.l.a) ∧ wk.cell? ⟨w.heap.size, 4, none⟩ = some (.slice p e.l.ks.list.length cap) ∧ wk.cell? ⟨w.heap.size, 5, none⟩ = some (.int .i64 e.c.op) ∧ wk.cell? ⟨w.heap.size, 6, none⟩ = some (.string e.c.a) ∧ wk.cell? ⟨w.heap.size, 7, none⟩ = some (.slice p' e.c.ks.list.length cap') ∧ wk.cell? ⟨w.heap.size, 8, none⟩ = some (.int .i64 e.d) from
    fun wk hk => by rw [eW] at hk; exact ⟨by have := hk.size; simp at this; omega, keepc hk (by omega) (by simp [go_sem]), keepc hk (by omega) (by simp [go_sem]), keepc hk (by omega) (by simp [go_sem]), keepc hk (by omega) (by simp [go_sem]), keepc hk (by omega) (by simp [go_sem]), keepc hk (by omega) (by simp [go_sem]), keepc hk (by omega) (by simp [go_sem])⟩)
  have HA := Lib.hid (Below.refl (w.heap.size + 1) W0)
  have HLA := Lib.hid (show ∀ wk, Below (w.heap.size + 1) W0 wk → e.l.At B wk (.agg #[.int .i64 e.l.op, .string e.l.a, .slice p e.l.ks.list.length cap]) from fun wk hk => ⟨_, rfl, HL.out.below ((HV.out.trans (hk.mono (by omega))).mono hB) (Nat.le_refl _)⟩)
  have HCA := Lib.hid (show ∀ wk, Below (w.heap.size + 1) W0 wk → e.c.At B wk (.agg #[.int .i64 e.c.op, .string e.c.a, .slice p' e.c.ks.list.length cap']) from fun wk hk => ⟨_, rfl, HC.out.below ((HV.out.trans (hk.mono (by omega))).mono hB) (Nat.le_refl _)⟩)
  have HVA := Lib.hid (show ∀ wk, Below (w.heap.size + 1) W0 wk → Vars wk from fun wk hk => HVV.out.below (HV.out.trans (hk.mono (by omega))))
  have EW := Lib.hid eW
  clear eW
  clear HVV
  go_enter Tryd.func29, Tryd.ntmps29
  go_wp2_with fail
  rw [← EW.out]
  obtain ⟨hz, c2, c3, c4, c5, c6, c7, c8⟩ := HK.out _ HA.out
  refine (noExpr_any e.l.op e.l.a _ e.l.ks.list.length _ _).mono ?_
  rintro en w1 ⟨rfl, hb⟩
  have HA := Lib.hid (HA.out.trans (hb.mono (by omega)))
  clear hb hz c2 c3 c4 c5 c6 c7 c8
  obtain ⟨hz, c2, c3, c4, c5, c6, c7, c8⟩ := HK.out _ HA.out
  cases hN : noneB e.l.op e.l.a e.l.ks.list.length with
  | true =>
    have HPL := Lib.hid (show labF e.l s = true by unfold labF exNone; rw [hN]; rfl)
    clear hN
    go_wp2_with fail
    refine (noExpr_any e.c.op e.c.a _ e.c.ks.list.length _ _).mono ?_
    rintro en w3 ⟨rfl, hb⟩
    have HA := Lib.hid (HA.out.trans (hb.mono (by omega)))
    clear hb hz c2 c3 c4 c5 c6 c7 c8
    obtain ⟨hz, c2, c3, c4, c5, c6, c7, c8⟩ := HK.out _ HA.out
    cases hN : noneB e.c.op e.c.a e.c.ks.list.length with
    | true =>
      have HPC := Lib.hid (show numF e.c m = true by unfold numF exNone; rw [hN]; rfl)
      clear hN
      have HT := Lib.hid (show elemF e s m = true by unfold elemF; rw [HPL.out, HPC.out]; rfl)
      go_wp2_with fail
      go_ret
      exact ⟨by rw [HT.out]; first | rfl | simp [*], HV.out.trans (HA.out.mono (by omega))⟩
    | false =>
      have HQ := Lib.hid (show numF e.c m = nholds e.c m by unfold numF exNone; rw [hN]; rfl)
      clear hN
      go_wp2_with fail
      refine (numHolds_any e.c _ m B _ (HCA.out _ HA.out) (by omega) s4 HS5.out (HVA.out _ HA.out)).mono ?_
      rintro en w4 ⟨rfl, hb⟩
      have HA := Lib.hid (HA.out.trans (hb.mono (by omega)))
      clear hb hz c2 c3 c4 c5 c6 c7 c8
      obtain ⟨hz, c2, c3, c4, c5, c6, c7, c8⟩ := HK.out _ HA.out
      cases hX : nholds e.c m with
      | false =>
        have HPC := Lib.hid (show numF e.c m = false by rw [HQ.out, hX])
        have HT := Lib.hid (show elemF e s m = false by unfold elemF; rw [HPC.out]; simp)
        clear hX
        go_wp2_with fail
        go_ret
        exact ⟨by rw [HT.out]; first | rfl | simp [*], HV.out.trans (HA.out.mono (by omega))⟩
      | true =>
        have HPC := Lib.hid (show numF e.c m = true by rw [HQ.out, hX])
        clear hX
        have HT := Lib.hid (show elemF e s m = true by unfold elemF; rw [HPL.out, HPC.out]; rfl)
        go_wp2_with fail
        go_ret
        exact ⟨by rw [HT.out]; first | rfl | simp [*], HV.out.trans (HA.out.mono (by omega))⟩
  | false =>
    have HQ := Lib.hid (show labF e.l s = lholds e.l s by unfold labF exNone; rw [hN]; rfl)
    clear hN
    go_wp2_with fail
    refine (labelHolds_any e.l _ s B _ (HLA.out _ HA.out) (by omega) s2 HS3.out hss (HVA.out _ HA.out)).mono ?_
    rintro en w2 ⟨rfl, hb⟩
    have HA := Lib.hid (HA.out.trans (hb.mono (by omega)))
    clear hb hz c2 c3 c4 c5 c6 c7 c8
    obtain ⟨hz, c2, c3, c4, c5, c6, c7, c8⟩ := HK.out _ HA.out
    cases hX : lholds e.l s with
    | false =>
      have HPL := Lib.hid (show labF e.l s = false by rw [HQ.out, hX])
      have HT := Lib.hid (show elemF e s m = false by unfold elemF; rw [HPL.out]; simp)
      clear hX
      go_wp2_with fail
      go_ret
      exact ⟨by rw [HT.out]; first | rfl | simp [*], HV.out.trans (HA.out.mono (by omega))⟩
    | true =>
      have HPL := Lib.hid (show labF e.l s = true by rw [HQ.out, hX])
      clear hX
      go_wp2_with fail
      refine (noExpr_any e.c.op e.c.a _ e.c.ks.list.length _ _).mono ?_
      rintro en w3 ⟨rfl, hb⟩
      have HA := Lib.hid (HA.out.trans (hb.mono (by omega)))
      clear hb hz c2 c3 c4 c5 c6 c7 c8
      obtain ⟨hz, c2, c3, c4, c5, c6, c7, c8⟩ := HK.out _ HA.out
      cases hN : noneB e.c.op e.c.a e.c.ks.list.length with
      | true =>
        have HPC := Lib.hid (show numF e.c m = true by unfold numF exNone; rw [hN]; rfl)
        clear hN
        have HT := Lib.hid (show elemF e s m = true by unfold elemF; rw [HPL.out, HPC.out]; rfl)
        go_wp2_with fail
        go_ret
        exact ⟨by rw [HT.out]; first | rfl | simp [*], HV.out.trans (HA.out.mono (by omega))⟩
      | false =>
        have HQ := Lib.hid (show numF e.c m = nholds e.c m by unfold numF exNone; rw [hN]; rfl)
        clear hN
        go_wp2_with fail
        refine (numHolds_any e.c _ m B _ (HCA.out _ HA.out) (by omega) s4 HS5.out (HVA.out _ HA.out)).mono ?_
        rintro en w4 ⟨rfl, hb⟩
        have HA := Lib.hid (HA.out.trans (hb.mono (by omega)))
        clear hb hz c2 c3 c4 c5 c6 c7 c8
        obtain ⟨hz, c2, c3, c4, c5, c6, c7, c8⟩ := HK.out _ HA.out
        cases hX : nholds e.c m with
        | false =>
          have HPC := Lib.hid (show numF e.c m = false by rw [HQ.out, hX])
          have HT := Lib.hid (show elemF e s m = false by unfold elemF; rw [HPC.out]; simp)
          clear hX
          go_wp2_with fail
          go_ret
          exact ⟨by rw [HT.out]; first | rfl | simp [*], HV.out.trans (HA.out.mono (by omega))⟩
        | true =>
          have HPC := Lib.hid (show numF e.c m = true by rw [HQ.out, hX])
          clear hX
          have HT := Lib.hid (show elemF e s m = true by unfold elemF; rw [HPL.out, HPC.out]; rfl)
          go_wp2_with fail
          go_ret
          exact ⟨by rw [HT.out]; first | rfl | simp [*], HV.out.trans (HA.out.mono (by omega))⟩

set_option maxRecDepth 100000 in
set_option maxHeartbeats 8000000 in
theorem l3Fits_any (e : El) (u : Value) (s : ByteArray) (m : Int) (B : Nat) (w : World) (hu : e.At B w u) (hB : B ≤ w.heap.size) (hs : e.Sm) (hpl : partV 1 e.l = true) (hpc : partV 2 e.c = true) (hlb : lbl s = true) (hnm : nm m = true) :
    Calls Tryd.prog 38 #[u, .string s, .int .i64 m] w fun en w' => en = .returned (.bool (elemF e s m)) ∧ Below w.heap.size w w' := by
  obtain ⟨p, cap, p', cap', rfl, hl, hc⟩ := hu.form
  obtain ⟨s1, s2, s3, s4, s5⟩ := hs
  have HS3 := Lib.hid s3
  have HS5 := Lib.hid s5
  have HL := Lib.hid hl
  have HC := Lib.hid hc
  skip
  clear hu hl hc s3 s5
  obtain ⟨W0, eW⟩ : ∃ W0, W0 = w.alloc (.cells #[.bool e.n, .string e.v, .int .i64 e.l.op, .string e.l.a, .slice p e.l.ks.list.length cap, .int .i64 e.c.op, .string e.c.a, .slice p' e.c.ks.list.length cap', .int .i64 e.d] 31) := ⟨_, rfl⟩
  have HV := Lib.hid (show Below w.heap.size w W0 by rw [eW]; exact (Below.refl w.heap.size w).alloc (by simp) _)
  have hs0 : w.heap.size + 1 ≤ W0.heap.size := by rw [eW]; simp
  have HK := Lib.hid (show ∀ wk, Below (w.heap.size + 1) W0 wk → w.heap.size + 1 ≤ wk.heap.size ∧ wk.cell? ⟨w.heap.size, 2, none⟩ = some (.int .i64 e.l.op) ∧ wk.cell? ⟨w.heap.size, 3, none⟩ = some (.string e.l.a) ∧ wk.cell? ⟨w.heap.size, 4, none⟩ = some (.slice p e.l.ks.list.length cap) ∧ wk.cell? ⟨w.heap.size, 5, none⟩ = some (.int .i64 e.c.op) ∧ wk.cell? ⟨w.heap.size, 6, none⟩ = some (.string e.c.a) ∧ wk.cell? ⟨w.heap.size, 7, none⟩ = some (.slice p' e.c.ks.list.length cap') ∧ wk.cell? ⟨w.heap.size, 8, none⟩ = some (.int .i64 e.d) from
    fun wk hk => by rw [eW] at hk; exact ⟨by have := hk.size; simp at this; omega, keepc hk (by omega) (by simp [go_sem]), keepc hk (by omega) (by simp [go_sem]), keepc hk (by omega) (by simp [go_sem]), keepc hk (by omega) (by simp [go_sem]), keepc hk (by omega) (by simp [go_sem]), keepc hk (by omega) (by simp [go_sem]), keepc hk (by omega) (by simp [go_sem])⟩)
  have HA := Lib.hid (Below.refl (w.heap.size + 1) W0)
  have HLA := Lib.hid (show ∀ wk, Below (w.heap.size + 1) W0 wk → e.l.At B wk (.agg #[.int .i64 e.l.op, .string e.l.a, .slice p e.l.ks.list.length cap]) from fun wk hk => ⟨_, rfl, HL.out.below ((HV.out.trans (hk.mono (by omega))).mono hB) (Nat.le_refl _)⟩)
  have HCA := Lib.hid (show ∀ wk, Below (w.heap.size + 1) W0 wk → e.c.At B wk (.agg #[.int .i64 e.c.op, .string e.c.a, .slice p' e.c.ks.list.length cap']) from fun wk hk => ⟨_, rfl, HC.out.below ((HV.out.trans (hk.mono (by omega))).mono hB) (Nat.le_refl _)⟩)
  skip
  have EW := Lib.hid eW
  clear eW
  have HLB := Lib.hid hlb
  have HNM := Lib.hid hnm
  clear hlb hnm
  obtain ⟨hz, c2, c3, c4, c5, c6, c7, c8⟩ := HK.out _ HA.out
  by_cases l0 : e.l.op = 0
  · have bl : (e.l.op == 0) = true := beq_iff_eq.2 l0
    have HPL := Lib.hid (show labF e.l s = true by unfold labF; rw [partV_none hpl l0]; rfl)
    clear l0
    by_cases c0 : e.c.op = 0
    · have bc : (e.c.op == 0) = true := beq_iff_eq.2 c0
      have HPC := Lib.hid (show numF e.c m = true by unfold numF; rw [partV_none hpc c0]; rfl)
      clear c0
      have HT := Lib.hid (show elemF e s m = true by unfold elemF; rw [HPL.out, HPC.out]; rfl)
      go_enter Tryd.func38, Tryd.ntmps38
      go_wp2_with fail
      go_ret
      exact ⟨by rw [HT.out]; first | rfl | simp [*], by have := HV.out; rw [EW.out] at this; exact this⟩
    · have bc : (e.c.op == 0) = false := beq_eq_false_iff_ne.2 c0
      obtain ⟨hq1, hq2⟩ := partV_some hpc c0
      have HOK := Lib.hid (exV_ok hq2)
      have HQ := Lib.hid (show numF e.c m = e.c.hold (condH m) true by unfold numF nholds; rw [hq1, hq2, HNM.out]; rfl)
      clear hq1
      go_enter Tryd.func38, Tryd.ntmps38
      go_wp2_with fail
      rw [← EW.out]
      refine (l2HoldsN_any m (condH m) true (Lib.hid rfl) (Lib.hid rfl) 12 e.c _ B _ (HC.out.below ((HV.out.trans (HA.out.mono (by omega))).mono hB) (Nat.le_refl _)) (by omega) HOK.out s4 HS5.out).mono ?_
      rintro en w2 ⟨rfl, hb⟩
      have HA := Lib.hid (HA.out.trans (hb.mono (by omega)))
      clear hb hz c2 c3 c4 c5 c6 c7 c8
      obtain ⟨hz, c2, c3, c4, c5, c6, c7, c8⟩ := HK.out _ HA.out
      cases hX : e.c.hold (condH m) true with
      | false =>
        have HPC := Lib.hid (show numF e.c m = false by rw [HQ.out, hX])
        have HT := Lib.hid (show elemF e s m = false by unfold elemF; rw [HPC.out]; simp)
        clear hX
        go_wp2_with fail
        go_ret
        exact ⟨by rw [HT.out]; first | rfl | simp [*], HV.out.trans (HA.out.mono (by omega))⟩
      | true =>
        have HPC := Lib.hid (show numF e.c m = true by rw [HQ.out, hX])
        clear hX c0 hq2
        have HT := Lib.hid (show elemF e s m = true by unfold elemF; rw [HPL.out, HPC.out]; rfl)
        go_wp2_with fail
        go_ret
        exact ⟨by rw [HT.out]; first | rfl | simp [*], HV.out.trans (HA.out.mono (by omega))⟩
  · have bl : (e.l.op == 0) = false := beq_eq_false_iff_ne.2 l0
    obtain ⟨hq1, hq2⟩ := partV_some hpl l0
    have HOK := Lib.hid (exV_ok hq2)
    obtain ⟨AT, eAT⟩ : ∃ AT : ByteArray → Bool, AT = fun a => a.toList == s.toList := ⟨_, rfl⟩
    obtain ⟨AN, eAN⟩ : ∃ AN : Bool, AN = !decide (s.size = 0) := ⟨_, rfl⟩
    have HQ := Lib.hid (show labF e.l s = e.l.hold AT AN by rw [eAT, eAN]; unfold labF lholds; rw [hq1, hq2, HLB.out]; rfl)
    have HAT := Lib.hid eAT
    have HAN := Lib.hid eAN
    clear eAT eAN hq1
    go_enter Tryd.func38, Tryd.ntmps38
    go_wp2_with fail
    rw [← EW.out]
    refine (l2HoldsL_any s AT AN HAT HAN 12 e.l _ B _ (HL.out.below ((HV.out.trans (HA.out.mono (by omega))).mono hB) (Nat.le_refl _)) (by omega) HOK.out s2 HS3.out).mono ?_
    rintro en w1 ⟨rfl, hb⟩
    have HA := Lib.hid (HA.out.trans (hb.mono (by omega)))
    clear hb hz c2 c3 c4 c5 c6 c7 c8
    obtain ⟨hz, c2, c3, c4, c5, c6, c7, c8⟩ := HK.out _ HA.out
    cases hX : e.l.hold AT AN with
    | false =>
      have HPL := Lib.hid (show labF e.l s = false by rw [HQ.out, hX])
      have HT := Lib.hid (show elemF e s m = false by unfold elemF; rw [HPL.out]; simp)
      clear hX
      go_wp2_with fail
      go_ret
      exact ⟨by rw [HT.out]; first | rfl | simp [*], HV.out.trans (HA.out.mono (by omega))⟩
    | true =>
      have HPL := Lib.hid (show labF e.l s = true by rw [HQ.out, hX])
      clear hX l0 hq2
      by_cases c0 : e.c.op = 0
      · have bc : (e.c.op == 0) = true := beq_iff_eq.2 c0
        have HPC := Lib.hid (show numF e.c m = true by unfold numF; rw [partV_none hpc c0]; rfl)
        clear c0
        have HT := Lib.hid (show elemF e s m = true by unfold elemF; rw [HPL.out, HPC.out]; rfl)
        go_wp2_with fail
        go_ret
        exact ⟨by rw [HT.out]; first | rfl | simp [*], HV.out.trans (HA.out.mono (by omega))⟩
      · have bc : (e.c.op == 0) = false := beq_eq_false_iff_ne.2 c0
        obtain ⟨hq1, hq2⟩ := partV_some hpc c0
        have HOK := Lib.hid (exV_ok hq2)
        have HQ := Lib.hid (show numF e.c m = e.c.hold (condH m) true by unfold numF nholds; rw [hq1, hq2, HNM.out]; rfl)
        clear hq1
        go_wp2_with fail
        refine (l2HoldsN_any m (condH m) true (Lib.hid rfl) (Lib.hid rfl) 12 e.c _ B _ (HC.out.below ((HV.out.trans (HA.out.mono (by omega))).mono hB) (Nat.le_refl _)) (by omega) HOK.out s4 HS5.out).mono ?_
        rintro en w2 ⟨rfl, hb⟩
        have HA := Lib.hid (HA.out.trans (hb.mono (by omega)))
        clear hb hz c2 c3 c4 c5 c6 c7 c8
        obtain ⟨hz, c2, c3, c4, c5, c6, c7, c8⟩ := HK.out _ HA.out
        cases hX : e.c.hold (condH m) true with
        | false =>
          have HPC := Lib.hid (show numF e.c m = false by rw [HQ.out, hX])
          have HT := Lib.hid (show elemF e s m = false by unfold elemF; rw [HPC.out]; simp)
          clear hX
          go_wp2_with fail
          go_ret
          exact ⟨by rw [HT.out]; first | rfl | simp [*], HV.out.trans (HA.out.mono (by omega))⟩
        | true =>
          have HPC := Lib.hid (show numF e.c m = true by rw [HQ.out, hX])
          clear hX c0 hq2
          have HT := Lib.hid (show elemF e s m = true by unfold elemF; rw [HPL.out, HPC.out]; rfl)
          go_wp2_with fail
          go_ret
          exact ⟨by rw [HT.out]; first | rfl | simp [*], HV.out.trans (HA.out.mono (by omega))⟩
end Go.Proofs.YtghhabailgfelaaDoor
namespace Go.Proofs.YtghhabailgfelaaDoor
open Go.RowKit

set_option maxRecDepth 100000 in
set_option maxHeartbeats 8000000 in
theorem l3Turn_any (e : El) (u : Value) (B : Nat) (w : World) (hu : e.At B w u) (hB : B ≤ w.heap.size) (h1 : e.l.ks.size ≤ 2000000) (h2 : e.c.ks.size ≤ 2000000) :
    Calls Tryd.prog 35 #[u] w fun en w' => ∃ v' F, en = .returned v' ∧ e.turn.Has v' F w' ∧ (∀ x ∈ F, w.heap.size ≤ x) ∧ Below w.heap.size w w' := by
  obtain ⟨p, cap, p', cap', rfl, hl, hc⟩ := hu.form
  have HU := Lib.hid hu
  clear hu hl hc
  have H12 := Lib.hid (And.intro h1 h2)
  clear h1 h2
  obtain ⟨W0, eW⟩ : ∃ W0, W0 = (w.alloc (.cells #[.bool e.n, .string e.v, .int .i64 e.l.op, .string e.l.a, .slice p e.l.ks.list.length cap, .int .i64 e.c.op, .string e.c.a, .slice p' e.c.ks.list.length cap', .int .i64 e.d] 31)).alloc (.cells #[.bool false, .string ⟨#[]⟩, .int .i64 0, .string ⟨#[]⟩, .slice none 0 0, .int .i64 0, .string ⟨#[]⟩, .slice none 0 0, .int .i64 0] 31) := ⟨_, rfl⟩
  have HV := Lib.hid (show Below w.heap.size w W0 by rw [eW]; exact ((Below.refl w.heap.size w).alloc (by simp) _).alloc (by simp) _)
  have hs0 : w.heap.size + 2 ≤ W0.heap.size := by rw [eW]; simp
  have HK := Lib.hid (show ∀ wk, Below (w.heap.size + 2) W0 wk → w.heap.size + 2 ≤ wk.heap.size ∧ wk.cell? ⟨w.heap.size, 0, none⟩ = some (.bool e.n) ∧ wk.cell? ⟨w.heap.size, 1, none⟩ = some (.string e.v) ∧ wk.cell? ⟨w.heap.size, 2, none⟩ = some (.int .i64 e.l.op) ∧ wk.cell? ⟨w.heap.size, 3, none⟩ = some (.string e.l.a) ∧ wk.cell? ⟨w.heap.size, 4, none⟩ = some (.slice p e.l.ks.list.length cap) ∧ wk.cell? ⟨w.heap.size, 5, none⟩ = some (.int .i64 e.c.op) ∧ wk.cell? ⟨w.heap.size, 6, none⟩ = some (.string e.c.a) ∧ wk.cell? ⟨w.heap.size, 7, none⟩ = some (.slice p' e.c.ks.list.length cap') ∧ wk.cell? ⟨w.heap.size, 8, none⟩ = some (.int .i64 e.d) ∧ wk.cell? ⟨w.heap.size + 1, 0, none⟩ = some (.bool false) ∧ wk.cell? ⟨w.heap.size + 1, 1, none⟩ = some (.string ⟨#[]⟩) ∧ wk.cell? ⟨w.heap.size + 1, 2, none⟩ = some (.int .i64 0) ∧ wk.cell? ⟨w.heap.size + 1, 3, none⟩ = some (.string ⟨#[]⟩) ∧ wk.cell? ⟨w.heap.size + 1, 4, none⟩ = some (.slice none 0 0) ∧ wk.cell? ⟨w.heap.size + 1, 5, none⟩ = some (.int .i64 0) ∧ wk.cell? ⟨w.heap.size + 1, 6, none⟩ = some (.string ⟨#[]⟩) ∧ wk.cell? ⟨w.heap.size + 1, 7, none⟩ = some (.slice none 0 0) ∧ wk.cell? ⟨w.heap.size + 1, 8, none⟩ = some (.int .i64 0) ∧ wk.frozen? ⟨w.heap.size + 1, 0, none⟩ = false ∧ wk.frozen? ⟨w.heap.size + 1, 1, none⟩ = false ∧ wk.frozen? ⟨w.heap.size + 1, 2, none⟩ = false ∧ wk.frozen? ⟨w.heap.size + 1, 3, none⟩ = false ∧ wk.frozen? ⟨w.heap.size + 1, 4, none⟩ = false ∧ wk.frozen? ⟨w.heap.size + 1, 5, none⟩ = false ∧ wk.frozen? ⟨w.heap.size + 1, 6, none⟩ = false ∧ wk.frozen? ⟨w.heap.size + 1, 7, none⟩ = false ∧ wk.frozen? ⟨w.heap.size + 1, 8, none⟩ = false from
    fun wk hk => by rw [eW] at hk; exact ⟨by have := hk.size; simp at this; omega, keepc hk (by omega) (by simp [go_sem]), keepc hk (by omega) (by simp [go_sem]), keepc hk (by omega) (by simp [go_sem]), keepc hk (by omega) (by simp [go_sem]), keepc hk (by omega) (by simp [go_sem]), keepc hk (by omega) (by simp [go_sem]), keepc hk (by omega) (by simp [go_sem]), keepc hk (by omega) (by simp [go_sem]), keepc hk (by omega) (by simp [go_sem]), keepc hk (by omega) (by simp [go_sem]), keepc hk (by omega) (by simp [go_sem]), keepc hk (by omega) (by simp [go_sem]), keepc hk (by omega) (by simp [go_sem]), keepc hk (by omega) (by simp [go_sem]), keepc hk (by omega) (by simp [go_sem]), keepc hk (by omega) (by simp [go_sem]), keepc hk (by omega) (by simp [go_sem]), keepc hk (by omega) (by simp [go_sem]), (hk.frozen (by simp)).trans (by simp [go_sem]), (hk.frozen (by simp)).trans (by simp [go_sem]), (hk.frozen (by simp)).trans (by simp [go_sem]), (hk.frozen (by simp)).trans (by simp [go_sem]), (hk.frozen (by simp)).trans (by simp [go_sem]), (hk.frozen (by simp)).trans (by simp [go_sem]), (hk.frozen (by simp)).trans (by simp [go_sem]), (hk.frozen (by simp)).trans (by simp [go_sem]), (hk.frozen (by simp)).trans (by simp [go_sem])⟩)
  have HA := Lib.hid (Below.refl (w.heap.size + 2) W0)
  have HEA := Lib.hid (show ∀ wk, Below (w.heap.size + 2) W0 wk → e.At B wk (.agg #[.bool e.n, .string e.v, .int .i64 e.l.op, .string e.l.a, .slice p e.l.ks.list.length cap, .int .i64 e.c.op, .string e.c.a, .slice p' e.c.ks.list.length cap', .int .i64 e.d]) from fun wk hk => HU.out.below ((HV.out.trans (hk.mono (by omega))).mono hB) (Nat.le_refl _))
  have EW := Lib.hid eW
  clear eW HU
  go_enter Tryd.func35, Tryd.ntmps35
  go_wp2_with fail
  rw [← EW.out]
  refine (l3Copy_any e _ B _ (HEA.out _ HA.out) (by omega) H12.out.1 H12.out.2).mono ?_
  rintro en w1 ⟨v1, F, rfl, hh, hF, hb1⟩
  have hz1 := hb1.size
  have HA := Lib.hid (HA.out.trans (hb1.mono (by omega)))
  have HF := Lib.hid (show ∀ x ∈ F, w.heap.size + 2 ≤ x ∧ x < w1.heap.size from fun x hx => ⟨by have := hF x hx; omega, hh.lt x hx⟩)
  obtain ⟨pl, cl, pc, cc, rfl, _, _⟩ := hh.at.form
  have HH := Lib.hid hh
  clear hh hF hb1
  obtain ⟨hz, c0, c1, c2, c3, c4, c5, c6, c7, c8, d0, d1, d2, d3, d4, d5, d6, d7, d8, f0, f1, f2, f3, f4, f5, f6, f7, f8⟩ := HK.out _ HA.out
  have hq1 : w.heap.size < w1.heap.size := by omega
  have hq2 : w.heap.size + 1 < w1.heap.size := by omega
  have HT := Lib.hid (And.intro (fun h : (e.d == 1) = true => show turnD e.d = 2 by rw [beq_iff_eq.1 h]; rfl) (And.intro (fun h : (e.d == 2) = true => show turnD e.d = 1 by rw [beq_iff_eq.1 h]; rfl) (fun (h : (e.d == 1) = false) (h2 : (e.d == 2) = false) => turnD_same (beq_eq_false_iff_ne.1 h) (beq_eq_false_iff_ne.1 h2))))
  have hw1 : (e.d == 1) = true → IntKind.i64.wrap (3 - e.d) = 2 := fun h => by rw [beq_iff_eq.1 h]; rfl
  have hw2 : (e.d == 2) = true → IntKind.i64.wrap (3 - e.d) = 1 := fun h => by rw [beq_iff_eq.1 h]; rfl
  cases hb1 : (e.d == 1) with
  | true =>
    have HT := Lib.hid (HT.out.1 hb1)
    have hw := hw1 hb1
    clear hw1 hw2
    go_wp2_with fail
    have hq := HV.out.trans (HA.out.mono (show w.heap.size ≤ w.heap.size + 2 by omega))
    refine bodyPost_ret (v := .agg #[.bool e.n, .string e.v, .int .i64 e.l.op, .string e.l.a, .slice pl e.l.ks.list.length cl, .int .i64 e.c.op, .string e.c.a, .slice pc e.c.ks.list.length cc, .int .i64 2]) (by simp [results, Tryd.results35, go_sem, hq2, d0, d1, d2, d3, d4, d5, d6, d7, d8]) rfl ⟨_, F, rfl, HT.out ▸ (HH.out.chg (G := [w.heap.size + 1]) (Chg.trans ((((((((((Chg.refl _ w1).setCell (by simp) _).setCell (by simp) _).setCell (by simp) _).setCell (by simp) _).setCell (by simp) _).setCell (by simp) _).setCell (by simp) _).setCell (by simp) _).setCell (by simp) _) (Chg.of_below ((Below.refl _ _).alloc (Nat.le_refl _) _) _)) (fun x hx => by have := HF.out x hx; simp; omega)).turned, fun x hx => by have := HF.out x hx; omega, ((((((((((hq).setCell (by simp) _).setCell (by simp) _).setCell (by simp) _).setCell (by simp) _).setCell (by simp) _).setCell (by simp) _).setCell (by simp) _).setCell (by simp) _).setCell (by simp) _).alloc (by simp; omega) _⟩
  | false =>
    cases hb2 : (e.d == 2) with
    | true =>
      have HT := Lib.hid (HT.out.2.1 hb2)
      have hw := hw2 hb2
      clear hw1 hw2
      go_wp2_with fail
      have hq := HV.out.trans (HA.out.mono (show w.heap.size ≤ w.heap.size + 2 by omega))
      refine bodyPost_ret (v := .agg #[.bool e.n, .string e.v, .int .i64 e.l.op, .string e.l.a, .slice pl e.l.ks.list.length cl, .int .i64 e.c.op, .string e.c.a, .slice pc e.c.ks.list.length cc, .int .i64 1]) (by simp [results, Tryd.results35, go_sem, hq2, d0, d1, d2, d3, d4, d5, d6, d7, d8]) rfl ⟨_, F, rfl, HT.out ▸ (HH.out.chg (G := [w.heap.size + 1]) (Chg.trans ((((((((((Chg.refl _ w1).setCell (by simp) _).setCell (by simp) _).setCell (by simp) _).setCell (by simp) _).setCell (by simp) _).setCell (by simp) _).setCell (by simp) _).setCell (by simp) _).setCell (by simp) _) (Chg.of_below ((Below.refl _ _).alloc (Nat.le_refl _) _) _)) (fun x hx => by have := HF.out x hx; simp; omega)).turned, fun x hx => by have := HF.out x hx; omega, ((((((((((hq).setCell (by simp) _).setCell (by simp) _).setCell (by simp) _).setCell (by simp) _).setCell (by simp) _).setCell (by simp) _).setCell (by simp) _).setCell (by simp) _).setCell (by simp) _).alloc (by simp; omega) _⟩
    | false =>
      have HT := Lib.hid (HT.out.2.2 hb1 hb2)
      clear hw1 hw2
      go_wp2_with fail
      have hq := HV.out.trans (HA.out.mono (show w.heap.size ≤ w.heap.size + 2 by omega))
      refine bodyPost_ret (v := .agg #[.bool e.n, .string e.v, .int .i64 e.l.op, .string e.l.a, .slice pl e.l.ks.list.length cl, .int .i64 e.c.op, .string e.c.a, .slice pc e.c.ks.list.length cc, .int .i64 e.d]) (by simp [results, Tryd.results35, go_sem, hq2, d0, d1, d2, d3, d4, d5, d6, d7, d8]) rfl ⟨_, F, rfl, HT.out ▸ (HH.out.chg (G := [w.heap.size + 1]) (Chg.trans ((((((((((Chg.refl _ w1).setCell (by simp) _).setCell (by simp) _).setCell (by simp) _).setCell (by simp) _).setCell (by simp) _).setCell (by simp) _).setCell (by simp) _).setCell (by simp) _).setCell (by simp) _) (Chg.of_below ((Below.refl _ _).alloc (Nat.le_refl _) _) _)) (fun x hx => by have := HF.out x hx; simp; omega)).turned, fun x hx => by have := HF.out x hx; omega, ((((((((((hq).setCell (by simp) _).setCell (by simp) _).setCell (by simp) _).setCell (by simp) _).setCell (by simp) _).setCell (by simp) _).setCell (by simp) _).setCell (by simp) _).setCell (by simp) _).alloc (by simp; omega) _⟩
theorem turn_form {e : El} {v : Value} {F : List Nat} {w : World} (h : e.turn.Has v F w) : ∃ pl cl pc cc, v = .agg #[.bool e.n, .string e.v, .int .i64 e.l.op, .string e.l.a, .slice pl e.l.ks.list.length cl, .int .i64 e.c.op, .string e.c.a, .slice pc e.c.ks.list.length cc, .int .i64 (turnD e.d)] := by
  obtain ⟨pl, cl, pc, cc, rfl, _, _⟩ := h.at.form
  exact ⟨pl, cl, pc, cc, rfl⟩
set_option maxRecDepth 100000 in
set_option maxHeartbeats 8000000 in
theorem specTurnElem_any (e : El) (u : Value) (B : Nat) (w : World) (hu : e.At B w u) (hB : B ≤ w.heap.size) (hs : e.Sm) :
    Calls Tryd.prog 15 #[u] w fun en w' => ∃ v' F, en = .returned (.tuple #[v', .bool (elemV e)]) ∧ (turnR e).Has v' F w' ∧ (∀ x ∈ F, w.heap.size ≤ x) ∧ Below w.heap.size w w' := by
  obtain ⟨p, cap, p', cap', rfl, hl, hc⟩ := hu.form
  have HU := Lib.hid hu
  clear hu hl hc
  have HSM := Lib.hid hs
  clear hs
  obtain ⟨W0, eW⟩ : ∃ W0, W0 = (w.alloc (.cells #[.bool e.n, .string e.v, .int .i64 e.l.op, .string e.l.a, .slice p e.l.ks.list.length cap, .int .i64 e.c.op, .string e.c.a, .slice p' e.c.ks.list.length cap', .int .i64 e.d] 31)).alloc (.cells #[.bool false, .string ⟨#[]⟩, .int .i64 0, .string ⟨#[]⟩, .slice none 0 0, .int .i64 0, .string ⟨#[]⟩, .slice none 0 0, .int .i64 0] 31) := ⟨_, rfl⟩
  have HV := Lib.hid (show Below w.heap.size w W0 by rw [eW]; exact ((Below.refl w.heap.size w).alloc (by simp) _).alloc (by simp) _)
  have hs0 : w.heap.size + 2 ≤ W0.heap.size := by rw [eW]; simp
  have HK := Lib.hid (show ∀ wk, Below (w.heap.size + 2) W0 wk → w.heap.size + 2 ≤ wk.heap.size ∧ wk.cell? ⟨w.heap.size, 0, none⟩ = some (.bool e.n) ∧ wk.cell? ⟨w.heap.size, 1, none⟩ = some (.string e.v) ∧ wk.cell? ⟨w.heap.size, 2, none⟩ = some (.int .i64 e.l.op) ∧ wk.cell? ⟨w.heap.size, 3, none⟩ = some (.string e.l.a) ∧ wk.cell? ⟨w.heap.size, 4, none⟩ = some (.slice p e.l.ks.list.length cap) ∧ wk.cell? ⟨w.heap.size, 5, none⟩ = some (.int .i64 e.c.op) ∧ wk.cell? ⟨w.heap.size, 6, none⟩ = some (.string e.c.a) ∧ wk.cell? ⟨w.heap.size, 7, none⟩ = some (.slice p' e.c.ks.list.length cap') ∧ wk.cell? ⟨w.heap.size, 8, none⟩ = some (.int .i64 e.d) ∧ wk.cell? ⟨w.heap.size + 1, 0, none⟩ = some (.bool false) ∧ wk.cell? ⟨w.heap.size + 1, 1, none⟩ = some (.string ⟨#[]⟩) ∧ wk.cell? ⟨w.heap.size + 1, 2, none⟩ = some (.int .i64 0) ∧ wk.cell? ⟨w.heap.size + 1, 3, none⟩ = some (.string ⟨#[]⟩) ∧ wk.cell? ⟨w.heap.size + 1, 4, none⟩ = some (.slice none 0 0) ∧ wk.cell? ⟨w.heap.size + 1, 5, none⟩ = some (.int .i64 0) ∧ wk.cell? ⟨w.heap.size + 1, 6, none⟩ = some (.string ⟨#[]⟩) ∧ wk.cell? ⟨w.heap.size + 1, 7, none⟩ = some (.slice none 0 0) ∧ wk.cell? ⟨w.heap.size + 1, 8, none⟩ = some (.int .i64 0) ∧ wk.frozen? ⟨w.heap.size + 1, 0, none⟩ = false ∧ wk.frozen? ⟨w.heap.size + 1, 1, none⟩ = false ∧ wk.frozen? ⟨w.heap.size + 1, 2, none⟩ = false ∧ wk.frozen? ⟨w.heap.size + 1, 3, none⟩ = false ∧ wk.frozen? ⟨w.heap.size + 1, 4, none⟩ = false ∧ wk.frozen? ⟨w.heap.size + 1, 5, none⟩ = false ∧ wk.frozen? ⟨w.heap.size + 1, 6, none⟩ = false ∧ wk.frozen? ⟨w.heap.size + 1, 7, none⟩ = false ∧ wk.frozen? ⟨w.heap.size + 1, 8, none⟩ = false from
    fun wk hk => by rw [eW] at hk; exact ⟨by have := hk.size; simp at this; omega, keepc hk (by omega) (by simp [go_sem]), keepc hk (by omega) (by simp [go_sem]), keepc hk (by omega) (by simp [go_sem]), keepc hk (by omega) (by simp [go_sem]), keepc hk (by omega) (by simp [go_sem]), keepc hk (by omega) (by simp [go_sem]), keepc hk (by omega) (by simp [go_sem]), keepc hk (by omega) (by simp [go_sem]), keepc hk (by omega) (by simp [go_sem]), keepc hk (by omega) (by simp [go_sem]), keepc hk (by omega) (by simp [go_sem]), keepc hk (by omega) (by simp [go_sem]), keepc hk (by omega) (by simp [go_sem]), keepc hk (by omega) (by simp [go_sem]), keepc hk (by omega) (by simp [go_sem]), keepc hk (by omega) (by simp [go_sem]), keepc hk (by omega) (by simp [go_sem]), keepc hk (by omega) (by simp [go_sem]), (hk.frozen (by simp)).trans (by simp [go_sem]), (hk.frozen (by simp)).trans (by simp [go_sem]), (hk.frozen (by simp)).trans (by simp [go_sem]), (hk.frozen (by simp)).trans (by simp [go_sem]), (hk.frozen (by simp)).trans (by simp [go_sem]), (hk.frozen (by simp)).trans (by simp [go_sem]), (hk.frozen (by simp)).trans (by simp [go_sem]), (hk.frozen (by simp)).trans (by simp [go_sem]), (hk.frozen (by simp)).trans (by simp [go_sem])⟩)
  have HA := Lib.hid (Below.refl (w.heap.size + 2) W0)
  have HEA := Lib.hid (show ∀ wk, Below (w.heap.size + 2) W0 wk → e.At B wk (.agg #[.bool e.n, .string e.v, .int .i64 e.l.op, .string e.l.a, .slice p e.l.ks.list.length cap, .int .i64 e.c.op, .string e.c.a, .slice p' e.c.ks.list.length cap', .int .i64 e.d]) from fun wk hk => HU.out.below ((HV.out.trans (hk.mono (by omega))).mono hB) (Nat.le_refl _))
  have EW := Lib.hid eW
  clear eW HU
  go_enter Tryd.func15, Tryd.ntmps15
  go_wp2_with fail
  rw [← EW.out]
  refine (specElemValid_any e _ B _ (HEA.out _ HA.out) (by omega) HSM.out).mono ?_
  rintro en w1 ⟨rfl, hb1⟩
  have hz1 := hb1.size
  have HA := Lib.hid (HA.out.trans (hb1.mono (by omega)))
  clear hb1
  obtain ⟨hz, c0, c1, c2, c3, c4, c5, c6, c7, c8, d0, d1, d2, d3, d4, d5, d6, d7, d8, f0, f1, f2, f3, f4, f5, f6, f7, f8⟩ := HK.out _ HA.out
  cases hV : elemV e with
  | false =>
    have HT := Lib.hid (turnR_bad hV)
    have HVE := Lib.hid hV
    clear hV
    have hq := HV.out.trans (HA.out.mono (show w.heap.size ≤ w.heap.size + 2 by omega))
    go_wp2_with fail
    refine bodyPost_ret (v := .tuple #[.agg #[.bool false, .string ⟨#[]⟩, .int .i64 0, .string ⟨#[]⟩, .slice none 0 0, .int .i64 0, .string ⟨#[]⟩, .slice none 0 0, .int .i64 0], .bool false]) (by simp [results, Tryd.results15, go_sem, d0, d1, d2, d3, d4, d5, d6, d7, d8]) rfl ⟨_, [], by rw [HVE.out], by rw [HT.out]; exact noEl_has _, by simp, ((((((((((hq).setCell (by simp) _).setCell (by simp) _).setCell (by simp) _).setCell (by simp) _).setCell (by simp) _).setCell (by simp) _).setCell (by simp) _).setCell (by simp) _).setCell (by simp) _)⟩
  | true =>
    have HT := Lib.hid (turnR_ok hV)
    have HVE := Lib.hid hV
    have HKS := Lib.hid (elemV_ks hV)
    clear hV
    go_wp2_with fail
    refine (l3Turn_any e _ B _ (HEA.out _ HA.out) (by omega) (by have := HKS.out; omega) (by have := HKS.out; omega)).mono ?_
    rintro en w2 ⟨v1, F, rfl, hh, hF, hb2⟩
    have hz2 := hb2.size
    have HA := Lib.hid (HA.out.trans (hb2.mono (by omega)))
    have HF := Lib.hid (show ∀ x ∈ F, w.heap.size + 2 ≤ x ∧ x < w2.heap.size from fun x hx => ⟨by have := hF x hx; omega, hh.lt x hx⟩)
    obtain ⟨pl, cl, pc, cc, rfl⟩ := turn_form hh
    have HH := Lib.hid hh
    clear hh hF hb2
    clear hz c0 c1 c2 c3 c4 c5 c6 c7 c8 d0 d1 d2 d3 d4 d5 d6 d7 d8 f0 f1 f2 f3 f4 f5 f6 f7 f8
    obtain ⟨hz, c0, c1, c2, c3, c4, c5, c6, c7, c8, d0, d1, d2, d3, d4, d5, d6, d7, d8, f0, f1, f2, f3, f4, f5, f6, f7, f8⟩ := HK.out _ HA.out
    have hq := HV.out.trans (HA.out.mono (show w.heap.size ≤ w.heap.size + 2 by omega))
    go_wp2_with fail
    refine bodyPost_ret (v := .tuple #[.agg #[.bool e.n, .string e.v, .int .i64 e.l.op, .string e.l.a, .slice pl e.l.ks.list.length cl, .int .i64 e.c.op, .string e.c.a, .slice pc e.c.ks.list.length cc, .int .i64 (turnD e.d)], .bool true]) (by simp [results, Tryd.results15, go_sem, d0, d1, d2, d3, d4, d5, d6, d7, d8]) rfl ⟨_, F, by rw [HVE.out], by rw [HT.out]; exact HH.out.chg (G := [w.heap.size + 1]) ((((((((((Chg.refl _ w2).setCell (by simp) _).setCell (by simp) _).setCell (by simp) _).setCell (by simp) _).setCell (by simp) _).setCell (by simp) _).setCell (by simp) _).setCell (by simp) _).setCell (by simp) _) (fun x hx => by have := HF.out x hx; simp; omega), fun x hx => by have := HF.out x hx; omega, ((((((((((hq).setCell (by simp) _).setCell (by simp) _).setCell (by simp) _).setCell (by simp) _).setCell (by simp) _).setCell (by simp) _).setCell (by simp) _).setCell (by simp) _).setCell (by simp) _)⟩
end Go.Proofs.YtghhabailgfelaaDoor
namespace Go.Proofs.YtghhabailgfelaaDoor
open Go.RowKit

set_option maxRecDepth 100000 in
set_option maxHeartbeats 8000000 in
theorem copyElem_any (e : El) (u : Value) (B : Nat) (w : World) (hu : e.At B w u) (hB : B ≤ w.heap.size) (h1 : e.l.ks.size ≤ 2000000) (h2 : e.c.ks.size ≤ 2000000) :
    Calls Tryd.prog 34 #[u] w fun en w' => ∃ v' F, en = .returned v' ∧ e.Has v' F w' ∧ (∀ x ∈ F, w.heap.size ≤ x) ∧ Below w.heap.size w w' := by
  obtain ⟨p, cap, p', cap', rfl, hl, hc⟩ := hu.form
  have HU := Lib.hid hu
  have HL := Lib.hid hl
  have HC := Lib.hid hc
  clear hu hl hc
  obtain ⟨W0, eW⟩ : ∃ W0, W0 = (w.alloc (.cells #[.bool e.n, .string e.v, .int .i64 e.l.op, .string e.l.a, .slice p e.l.ks.list.length cap, .int .i64 e.c.op, .string e.c.a, .slice p' e.c.ks.list.length cap', .int .i64 e.d] 31)).alloc (.cells #[.bool false, .string ⟨#[]⟩, .int .i64 0, .string ⟨#[]⟩, .slice none 0 0, .int .i64 0, .string ⟨#[]⟩, .slice none 0 0, .int .i64 0] 31) := ⟨_, rfl⟩
  have HV := Lib.hid (show Below w.heap.size w W0 by rw [eW]; exact ((Below.refl w.heap.size w).alloc (by simp) _).alloc (by simp) _)
  have hs0 : w.heap.size + 2 ≤ W0.heap.size := by rw [eW]; simp
  have HKA := Lib.hid (show ∀ wk, Below (w.heap.size + 1) W0 wk → wk.cell? ⟨w.heap.size, 0, none⟩ = some (.bool e.n) ∧ wk.cell? ⟨w.heap.size, 1, none⟩ = some (.string e.v) ∧ wk.cell? ⟨w.heap.size, 2, none⟩ = some (.int .i64 e.l.op) ∧ wk.cell? ⟨w.heap.size, 3, none⟩ = some (.string e.l.a) ∧ wk.cell? ⟨w.heap.size, 4, none⟩ = some (.slice p e.l.ks.list.length cap) ∧ wk.cell? ⟨w.heap.size, 5, none⟩ = some (.int .i64 e.c.op) ∧ wk.cell? ⟨w.heap.size, 6, none⟩ = some (.string e.c.a) ∧ wk.cell? ⟨w.heap.size, 7, none⟩ = some (.slice p' e.c.ks.list.length cap') ∧ wk.cell? ⟨w.heap.size, 8, none⟩ = some (.int .i64 e.d) from
    fun wk hk => by rw [eW] at hk; exact ⟨keepc hk (by omega) (by simp [go_sem]), keepc hk (by omega) (by simp [go_sem]), keepc hk (by omega) (by simp [go_sem]), keepc hk (by omega) (by simp [go_sem]), keepc hk (by omega) (by simp [go_sem]), keepc hk (by omega) (by simp [go_sem]), keepc hk (by omega) (by simp [go_sem]), keepc hk (by omega) (by simp [go_sem]), keepc hk (by omega) (by simp [go_sem])⟩)
  have HKZ := Lib.hid (show ∀ wk, Below (w.heap.size + 2) W0 wk → w.heap.size + 2 ≤ wk.heap.size ∧ wk.cell? ⟨w.heap.size + 1, 0, none⟩ = some (.bool false) ∧ wk.cell? ⟨w.heap.size + 1, 1, none⟩ = some (.string ⟨#[]⟩) ∧ wk.cell? ⟨w.heap.size + 1, 2, none⟩ = some (.int .i64 0) ∧ wk.cell? ⟨w.heap.size + 1, 3, none⟩ = some (.string ⟨#[]⟩) ∧ wk.cell? ⟨w.heap.size + 1, 4, none⟩ = some (.slice none 0 0) ∧ wk.cell? ⟨w.heap.size + 1, 5, none⟩ = some (.int .i64 0) ∧ wk.cell? ⟨w.heap.size + 1, 6, none⟩ = some (.string ⟨#[]⟩) ∧ wk.cell? ⟨w.heap.size + 1, 7, none⟩ = some (.slice none 0 0) ∧ wk.cell? ⟨w.heap.size + 1, 8, none⟩ = some (.int .i64 0) ∧ wk.frozen? ⟨w.heap.size + 1, 0, none⟩ = false ∧ wk.frozen? ⟨w.heap.size + 1, 1, none⟩ = false ∧ wk.frozen? ⟨w.heap.size + 1, 2, none⟩ = false ∧ wk.frozen? ⟨w.heap.size + 1, 3, none⟩ = false ∧ wk.frozen? ⟨w.heap.size + 1, 4, none⟩ = false ∧ wk.frozen? ⟨w.heap.size + 1, 5, none⟩ = false ∧ wk.frozen? ⟨w.heap.size + 1, 6, none⟩ = false ∧ wk.frozen? ⟨w.heap.size + 1, 7, none⟩ = false ∧ wk.frozen? ⟨w.heap.size + 1, 8, none⟩ = false from
    fun wk hk => by rw [eW] at hk; exact ⟨by have := hk.size; simp at this; omega, keepc hk (by omega) (by simp [go_sem]), keepc hk (by omega) (by simp [go_sem]), keepc hk (by omega) (by simp [go_sem]), keepc hk (by omega) (by simp [go_sem]), keepc hk (by omega) (by simp [go_sem]), keepc hk (by omega) (by simp [go_sem]), keepc hk (by omega) (by simp [go_sem]), keepc hk (by omega) (by simp [go_sem]), keepc hk (by omega) (by simp [go_sem]), (hk.frozen (by simp)).trans (by simp [go_sem]), (hk.frozen (by simp)).trans (by simp [go_sem]), (hk.frozen (by simp)).trans (by simp [go_sem]), (hk.frozen (by simp)).trans (by simp [go_sem]), (hk.frozen (by simp)).trans (by simp [go_sem]), (hk.frozen (by simp)).trans (by simp [go_sem]), (hk.frozen (by simp)).trans (by simp [go_sem]), (hk.frozen (by simp)).trans (by simp [go_sem]), (hk.frozen (by simp)).trans (by simp [go_sem])⟩)
  have HA := Lib.hid (Below.refl (w.heap.size + 2) W0)
  have HBK := Lib.hid (show ∀ wk, Below (w.heap.size + 2) W0 wk → Below B w wk from fun wk hk => (HV.out.trans (hk.mono (by omega))).mono hB)
  have HEA := Lib.hid (show ∀ wk, Below (w.heap.size + 2) W0 wk → e.At B wk (.agg #[.bool e.n, .string e.v, .int .i64 e.l.op, .string e.l.a, .slice p e.l.ks.list.length cap, .int .i64 e.c.op, .string e.c.a, .slice p' e.c.ks.list.length cap', .int .i64 e.d]) from fun wk hk => HU.out.below (HBK.out wk hk) (Nat.le_refl _))
  have CL := Lib.hid (fun (E : World) (hE : Below (w.heap.size + 2) W0 E) => (copyExprN 2000000 e.l h1 (Nat.le_refl _) _ B E (HL.out.below (HBK.out _ hE) (Nat.le_refl _)) (by have := hE.size; omega)).mono (R' := fun en w' => ∃ p c F, en = .returned (.agg #[.int .i64 e.l.op, .string e.l.a, .slice p e.l.ks.list.length c]) ∧ (∀ X, Below w'.heap.size w' X → e.l.ks.Own X (.slice p e.l.ks.list.length c) F) ∧ (∀ x ∈ F, E.heap.size ≤ x ∧ x < w'.heap.size) ∧ Below E.heap.size E w' ∧ Below (w.heap.size + 2) W0 w') fun en w' ⟨p, c, F, he, ho, hF, hb⟩ => ⟨p, c, F, he, fun X hX => ho.below hX, fun x hx => ⟨hF x hx, ho.lt x hx⟩, hb, hE.trans (hb.mono (by have := hE.size; omega))⟩)
  have CC := Lib.hid (fun (E : World) (hE : Below (w.heap.size + 2) W0 E) => (copyExprN 2000000 e.c h2 (Nat.le_refl _) _ B E (HC.out.below (HBK.out _ hE) (Nat.le_refl _)) (by have := hE.size; omega)).mono (R' := fun en w' => ∃ p c F, en = .returned (.agg #[.int .i64 e.c.op, .string e.c.a, .slice p e.c.ks.list.length c]) ∧ (∀ X, Below w'.heap.size w' X → e.c.ks.Own X (.slice p e.c.ks.list.length c) F) ∧ (∀ x ∈ F, E.heap.size ≤ x ∧ x < w'.heap.size) ∧ Below E.heap.size E w' ∧ Below (w.heap.size + 2) W0 w') fun en w' ⟨p, c, F, he, ho, hF, hb⟩ => ⟨p, c, F, he, fun X hX => ho.below hX, fun x hx => ⟨hF x hx, ho.lt x hx⟩, hb, hE.trans (hb.mono (by have := hE.size; omega))⟩)
  have EW := Lib.hid eW
  clear eW h1 h2
  have r0 := Below.refl (w.heap.size + 2) W0
  have r1 := Below.refl (w.heap.size + 1) W0
  go_enter Tryd.func34, Tryd.ntmps34
  go_upto_region 1 with fail
  rw [← EW.out]
  have HKS := Lib.hid (fun (u : World) (hu : Below (w.heap.size + 2) W0 u) => (HKZ.out u hu).2)
  go_cut [2] (fun s wx => s = .pointer (some ⟨w.heap.size + 1, 0, none⟩) ∧ ∃ pl cl pc cc F, e.Has (.agg #[.bool e.n, .string e.v, .int .i64 e.l.op, .string e.l.a, .slice pl e.l.ks.list.length cl, .int .i64 e.c.op, .string e.c.a, .slice pc e.c.ks.list.length cc, .int .i64 e.d]) F wx ∧ (∀ x ∈ F, w.heap.size + 2 ≤ x) ∧ Below (w.heap.size + 1) W0 wx ∧ wx.cell? ⟨w.heap.size + 1, 0, none⟩ = some (.bool e.n) ∧ wx.cell? ⟨w.heap.size + 1, 1, none⟩ = some (.string e.v) ∧ wx.cell? ⟨w.heap.size + 1, 2, none⟩ = some (.int .i64 e.l.op) ∧ wx.cell? ⟨w.heap.size + 1, 3, none⟩ = some (.string e.l.a) ∧ wx.cell? ⟨w.heap.size + 1, 4, none⟩ = some (.slice pl e.l.ks.list.length cl) ∧ wx.cell? ⟨w.heap.size + 1, 5, none⟩ = some (.int .i64 e.c.op) ∧ wx.cell? ⟨w.heap.size + 1, 6, none⟩ = some (.string e.c.a) ∧ wx.cell? ⟨w.heap.size + 1, 7, none⟩ = some (.slice pc e.c.ks.list.length cc) ∧ wx.cell? ⟨w.heap.size + 1, 8, none⟩ = some (.int .i64 e.d))
  case first =>
    refine wp_region_held_drew (S := fun w' => w'.cell? ⟨w.heap.size, 0, none⟩ = some (.bool e.n) ∧ w'.cell? ⟨w.heap.size, 1, none⟩ = some (.string e.v) ∧ w'.cell? ⟨w.heap.size, 2, none⟩ = some (.int .i64 e.l.op) ∧ w'.cell? ⟨w.heap.size, 3, none⟩ = some (.string e.l.a) ∧ w'.cell? ⟨w.heap.size, 4, none⟩ = some (.slice p e.l.ks.list.length cap) ∧ w'.cell? ⟨w.heap.size, 5, none⟩ = some (.int .i64 e.c.op) ∧ w'.cell? ⟨w.heap.size, 6, none⟩ = some (.string e.c.a) ∧ w'.cell? ⟨w.heap.size, 7, none⟩ = some (.slice p' e.c.ks.list.length cap') ∧ w'.cell? ⟨w.heap.size, 8, none⟩ = some (.int .i64 e.d)) (by kernel_rfl) ?_ (fun hHeld => ?_)
    · exact HKA.out _ (by ((repeat (first | with_reducible assumption | with_reducible exact Below.refl _ _ | refine Below.setCell ?_ (by (first | omega | (simp; omega) | (simp; done) | fail "sml")) _ | refine Below.drew ?_ | refine Below.alloc ?_ (by (first | omega | (simp; omega) | (simp; done) | fail "sml")) _)); first | done | fail "chs"))
    (refine takeL (i := 0) (v := ?_) rfl (by kernel_rfl) (by kernel_rfl) (by kernel_rfl) (fun _ _ _ h => h) (Or.inl ⟨by kernel_rfl, ?_⟩) (by assumption) ?_; rotate_left; (focus (intro w hSw; (try dsimp only at hSw); go_simp; first | done | with_reducible rfl | fail "take")); (try simp only [Act.put, List.setIfInBounds_toArray, List.set_cons_zero, List.set_cons_succ]))
    (refine takeL (i := 1) (v := ?_) rfl (by kernel_rfl) (by kernel_rfl) (by kernel_rfl) (fun _ _ _ h => h) (Or.inl ⟨by kernel_rfl, ?_⟩) (by assumption) ?_; rotate_left; (focus (intro w hSw; (try dsimp only at hSw); go_simp; first | done | with_reducible rfl | fail "take")); (try simp only [Act.put, List.setIfInBounds_toArray, List.set_cons_zero, List.set_cons_succ]))
    (refine takeL (i := 2) (v := ?_) rfl (by kernel_rfl) (by kernel_rfl) (by kernel_rfl) (fun _ _ _ h => h) (Or.inl ⟨by kernel_rfl, ?_⟩) (by assumption) ?_; rotate_left; (focus (intro w hSw; (try dsimp only at hSw); go_simp; first | done | with_reducible rfl | fail "take")); (try simp only [Act.put, List.setIfInBounds_toArray, List.set_cons_zero, List.set_cons_succ]))
    (refine takeL (i := 3) (v := ?_) rfl (by kernel_rfl) (by kernel_rfl) (by kernel_rfl) (fun _ _ _ h => h) (Or.inl ⟨by kernel_rfl, ?_⟩) (by assumption) ?_; rotate_left; (focus (intro w hSw; (try dsimp only at hSw); go_simp; first | done | with_reducible rfl | fail "take")); (try simp only [Act.put, List.setIfInBounds_toArray, List.set_cons_zero, List.set_cons_succ]))
    (refine takeL (i := 4) (v := ?_) rfl (by kernel_rfl) (by kernel_rfl) (by kernel_rfl) (fun _ _ _ h => h) (Or.inl ⟨by kernel_rfl, ?_⟩) (by assumption) ?_; rotate_left; (focus (intro w hSw; (try dsimp only at hSw); go_simp; first | done | with_reducible rfl | fail "take")); (try simp only [Act.put, List.setIfInBounds_toArray, List.set_cons_zero, List.set_cons_succ]))
    (refine takeL (i := 5) (v := ?_) rfl (by kernel_rfl) (by kernel_rfl) (by kernel_rfl) (fun _ _ _ h => h) (Or.inl ⟨by kernel_rfl, ?_⟩) (by assumption) ?_; rotate_left; (focus (intro w hSw; (try dsimp only at hSw); go_simp; first | done | with_reducible rfl | fail "take")); (try simp only [Act.put, List.setIfInBounds_toArray, List.set_cons_zero, List.set_cons_succ]))
    (refine takeL (i := 7) (v := ?_) rfl (by kernel_rfl) (by kernel_rfl) (by kernel_rfl) (fun _ _ _ h => h) (Or.inl ⟨by kernel_rfl, ?_⟩) (by assumption) ?_; rotate_left; (focus (intro w hSw; (try dsimp only at hSw); go_simp; first | done | with_reducible rfl | fail "take")); (try simp only [Act.put, List.setIfInBounds_toArray, List.set_cons_zero, List.set_cons_succ]))
    (refine takeL (i := 8) (v := ?_) rfl (by kernel_rfl) (by kernel_rfl) (by kernel_rfl) (fun _ _ _ h => h) (Or.inl ⟨by kernel_rfl, ?_⟩) (by assumption) ?_; rotate_left; (focus (intro w hSw; (try dsimp only at hSw); go_simp; first | done | with_reducible rfl | fail "take")); (try simp only [Act.put, List.setIfInBounds_toArray, List.set_cons_zero, List.set_cons_succ]))
    (refine takeL (i := 10) (v := ?_) rfl (by kernel_rfl) (by kernel_rfl) (by kernel_rfl) (fun _ _ _ h => h) (Or.inl ⟨by kernel_rfl, ?_⟩) (by assumption) ?_; rotate_left; (focus (intro w hSw; (try dsimp only at hSw); go_simp; first | done | with_reducible rfl | fail "take")); (try simp only [Act.put, List.setIfInBounds_toArray, List.set_cons_zero, List.set_cons_succ]))
    (refine takeL (i := 11) (v := ?_) rfl (by kernel_rfl) (by kernel_rfl) (by kernel_rfl) (fun _ _ _ h => h) (Or.inl ⟨by kernel_rfl, ?_⟩) (by assumption) ?_; rotate_left; (focus (intro w hSw; (try dsimp only at hSw); go_simp; first | done | with_reducible rfl | fail "take")); (try simp only [Act.put, List.setIfInBounds_toArray, List.set_cons_zero, List.set_cons_succ]))
    (refine callL (i := 6) rfl (by kernel_rfl) (by kernel_rfl) (fun K hK => ?_); go_simp)
    go_at_call 61
    refine (CL.out _ (by ((repeat (first | with_reducible assumption | with_reducible exact Below.refl _ _ | refine Below.setCell ?_ (by (first | omega | (simp; omega) | (simp; done) | fail "sml")) _ | refine Below.drew ?_ | refine Below.alloc ?_ (by (first | omega | (simp; omega) | (simp; done) | fail "sml")) _)); first | done | fail "chs"))).mono ?_
    rintro en wl ⟨pl, cl, FL, rfl, hol, hfl, hbl, hkl⟩
    have HOL := Lib.hid hol
    have HFL := Lib.hid (show ∀ x ∈ FL, w.heap.size + 2 ≤ x ∧ x < wl.heap.size from fun x hx => ⟨by have h1 := (hfl x hx).1; have h2 := (show Below (w.heap.size + 2) W0 _ by ((repeat (first | with_reducible assumption | with_reducible exact Below.refl _ _ | refine Below.setCell ?_ (by (first | omega | (simp; omega) | (simp; done) | fail "sml")) _ | refine Below.drew ?_ | refine Below.alloc ?_ (by (first | omega | (simp; omega) | (simp; done) | fail "sml")) _)); first | done | fail "chs")).size; (try simp at h1); omega, (hfl x hx).2⟩)
    clear hol hfl hbl
    have hkl1 := hkl.mono (show w.heap.size + 1 ≤ w.heap.size + 2 by omega)
    go_wp2_with fail
    (refine hK.out _ _ ?_ (fun hHeld => ?_); (focus (exact HKA.out _ (by ((repeat (first | with_reducible assumption | with_reducible exact Below.refl _ _ | refine Below.setCell ?_ (by (first | omega | (simp; omega) | (simp; done) | fail "sml")) _ | refine Below.drew ?_ | refine Below.alloc ?_ (by (first | omega | (simp; omega) | (simp; done) | fail "sml")) _)); first | done | fail "chs")))); clear hK K; (try simp only [Act.put, List.setIfInBounds_toArray, List.set_cons_zero, List.set_cons_succ]))
    (refine callL (i := 9) rfl (by kernel_rfl) (by kernel_rfl) (fun K hK => ?_); go_simp)
    go_at_call 61
    refine (CC.out _ (by ((repeat (first | with_reducible assumption | with_reducible exact Below.refl _ _ | refine Below.setCell ?_ (by (first | omega | (simp; omega) | (simp; done) | fail "sml")) _ | refine Below.drew ?_ | refine Below.alloc ?_ (by (first | omega | (simp; omega) | (simp; done) | fail "sml")) _)); first | done | fail "chs"))).mono ?_
    rintro en wc ⟨pc, cc, FC, rfl, hoc, hfc, hbc, hkc⟩
    have HOC := Lib.hid (hoc _ (Below.refl _ _))
    have HFC := Lib.hid (show ∀ x ∈ FC, wl.heap.size ≤ x from fun x hx => (hfc x hx).1)
    have HOL2 := Lib.hid (HOL.out _ hbc)
    have hwl := hkl.size
    have HDI := Lib.hid (show ∀ x ∈ FL, x ∉ FC from fun x hx hx2 => by have h1 := (HFL.out x hx).2; have h2 := HFC.out x hx2; omega)
    have HLO := Lib.hid (show ∀ x ∈ FL ++ FC, w.heap.size + 2 ≤ x from fun x hx => (List.mem_append.1 hx).elim (fun hx => (HFL.out x hx).1) (fun hx => by have := HFC.out x hx; omega))
    clear hoc hfc hbc hkl
    have hkc1 := hkc.mono (show w.heap.size + 1 ≤ w.heap.size + 2 by omega)
    go_wp2_with fail
    (refine hK.out _ _ ?_ (fun hHeld => ?_); (focus (exact HKA.out _ (by ((repeat (first | with_reducible assumption | with_reducible exact Below.refl _ _ | refine Below.setCell ?_ (by (first | omega | (simp; omega) | (simp; done) | fail "sml")) _ | refine Below.drew ?_ | refine Below.alloc ?_ (by (first | omega | (simp; omega) | (simp; done) | fail "sml")) _)); first | done | fail "chs")))); clear hK K; (try simp only [Act.put, List.setIfInBounds_toArray, List.set_cons_zero, List.set_cons_succ]))
    obtain ⟨hzz, q0, q1, q2, q3, q4, q5, q6, q7, q8, f0, f1, f2, f3, f4, f5, f6, f7, f8⟩ := HKZ.out _ hkc
    have HW := Lib.hid hkc
    have HEND := Lib.hid (show e.Has (.agg #[.bool e.n, .string e.v, .int .i64 e.l.op, .string e.l.a, .slice pl e.l.ks.list.length cl, .int .i64 e.c.op, .string e.c.a, .slice pc e.c.ks.list.length cc, .int .i64 e.d]) (FL ++ FC) wc from ⟨_, _, FL, FC, rfl, rfl, HDI.out, HOL2.out, HOC.out⟩)
    (refine takeL (i := 12) (v := ?_) rfl (by kernel_rfl) (by kernel_rfl) (by kernel_rfl) (fun _ _ _ h => h) (Or.inl ⟨by kernel_rfl, ?_⟩) (by assumption) ?_; rotate_left; (focus (intro w hSw; (try dsimp only at hSw); go_simp; first | done | with_reducible rfl | fail "take")); (try simp only [Act.put, List.setIfInBounds_toArray, List.set_cons_zero, List.set_cons_succ]))
    (refine callL (i := 13) rfl (by kernel_rfl) (by kernel_rfl) (fun K hK => ?_); go_simp)
    (refine hK.out _ _ ?_ (fun hHeld => ?_); (focus (exact HKA.out _ (by ((repeat (first | with_reducible assumption | with_reducible exact Below.refl _ _ | refine Below.setCell ?_ (by (first | omega | (simp; omega) | (simp; done) | fail "sml")) _ | refine Below.drew ?_ | refine Below.alloc ?_ (by (first | omega | (simp; omega) | (simp; done) | fail "sml")) _)); first | done | fail "chs")))); clear hK K; (try simp only [Act.put, List.setIfInBounds_toArray, List.set_cons_zero, List.set_cons_succ]))
    refine wpAnyH_done (by kernel_rfl) ?_ _
    go_wp2_with fail
    go_meet
    exact ⟨rfl, pl, cl, pc, cc, FL ++ FC, HEND.out.chg (G := [w.heap.size + 1]) (by (repeat (first | refine Chg.setCell ?_ (by simp) _ | with_reducible exact Chg.refl _ _))) (fun x hx => by have := HLO.out x hx; simp; omega), HLO.out, (by ((repeat (first | with_reducible assumption | with_reducible exact Below.refl _ _ | refine Below.setCell ?_ (by (first | omega | (simp; omega) | (simp; done) | fail "sml")) _ | refine Below.drew ?_ | refine Below.alloc ?_ (by (first | omega | (simp; omega) | (simp; done) | fail "sml")) _)); first | done | fail "chs")), by simp [go_sem, *], by simp [go_sem, *], by simp [go_sem, *], by simp [go_sem, *], by simp [go_sem, *], by simp [go_sem, *], by simp [go_sem, *], by simp [go_sem, *], by simp [go_sem, *]⟩
  case rest =>
    obtain ⟨rfl, pl, cl, pc, cc, F, hh, hF, hbx, q0, q1, q2, q3, q4, q5, q6, q7, q8⟩ := hcut
    have HH := Lib.hid hh
    have HF := Lib.hid hF
    have HB := Lib.hid (HV.out.trans (hbx.mono (by omega)))
    clear hh hF hbx
    go_wp2_with fail
    exact bodyPost_ret (v := .agg #[.bool e.n, .string e.v, .int .i64 e.l.op, .string e.l.a, .slice pl e.l.ks.list.length cl, .int .i64 e.c.op, .string e.c.a, .slice pc e.c.ks.list.length cc, .int .i64 e.d]) (by simp [results, Tryd.results34, go_sem, q0, q1, q2, q3, q4, q5, q6, q7, q8]) rfl ⟨_, F, rfl, HH.out, fun x hx => by have := HF.out x hx; omega, HB.out⟩
end Go.Proofs.YtghhabailgfelaaDoor
namespace Go.Proofs.YtghhabailgfelaaDoor
open Go.RowKit

set_option maxRecDepth 100000 in
set_option maxHeartbeats 8000000 in
theorem turnElem_any (e : El) (u : Value) (B : Nat) (w : World) (hu : e.At B w u) (hB : B ≤ w.heap.size) (hs : e.Sm) (hvars : Vars w) :
    Calls Tryd.prog 14 #[u] w fun en w' => ∃ v' F, en = .returned (.tuple #[v', .bool (elemV e)]) ∧ (turnR e).Has v' F w' ∧ (∀ x ∈ F, w.heap.size ≤ x) ∧ Below w.heap.size w w' := by
  have HSM := Lib.hid hs
  have HVV := Lib.hid hvars
  have HIN := Lib.hid (show ∀ (p : Option Addr) (cap : Nat) (p' : Option Addr) (cap' : Nat), u = .agg #[.bool e.n, .string e.v, .int .i64 e.l.op, .string e.l.a, .slice p e.l.ks.list.length cap, .int .i64 e.c.op, .string e.c.a, .slice p' e.c.ks.list.length cap', .int .i64 e.d] → e.l.ks.In B w (.slice p e.l.ks.list.length cap) ∧ e.c.ks.In B w (.slice p' e.c.ks.list.length cap') from fun p cap p' cap' he => by
    obtain ⟨k, k', h1, h2, h3⟩ := hu
    rw [he] at h1
    simp only [Value.agg.injEq, Array.mk.injEq, List.cons.injEq, true_and, and_true] at h1
    obtain ⟨rfl, rfl⟩ := h1
    exact ⟨h2, h3⟩)
  clear hs hvars
  obtain ⟨p, cap, p', cap', rfl, hl, hc⟩ := hu.form
  have HU := Lib.hid hu
  obtain ⟨il, ic⟩ := HIN.out p cap p' cap' rfl
  have HL := Lib.hid il
  have HC := Lib.hid ic
  clear hu hl hc il ic HIN
  obtain ⟨W0, eW⟩ : ∃ W0, W0 = (w.alloc (.cells #[.bool e.n, .string e.v, .int .i64 e.l.op, .string e.l.a, .slice p e.l.ks.list.length cap, .int .i64 e.c.op, .string e.c.a, .slice p' e.c.ks.list.length cap', .int .i64 e.d] 31)).alloc (.cells #[.bool false, .string ⟨#[]⟩, .int .i64 0, .string ⟨#[]⟩, .slice none 0 0, .int .i64 0, .string ⟨#[]⟩, .slice none 0 0, .int .i64 0] 31) := ⟨_, rfl⟩
  have HV := Lib.hid (show Below w.heap.size w W0 by rw [eW]; exact ((Below.refl w.heap.size w).alloc (by simp) _).alloc (by simp) _)
  have hs0 : w.heap.size + 2 ≤ W0.heap.size := by rw [eW]; simp
  have HK := Lib.hid (show ∀ wk, Below (w.heap.size + 2) W0 wk → w.heap.size + 2 ≤ wk.heap.size ∧ wk.cell? ⟨w.heap.size, 0, none⟩ = some (.bool e.n) ∧ wk.cell? ⟨w.heap.size, 1, none⟩ = some (.string e.v) ∧ wk.cell? ⟨w.heap.size, 2, none⟩ = some (.int .i64 e.l.op) ∧ wk.cell? ⟨w.heap.size, 3, none⟩ = some (.string e.l.a) ∧ wk.cell? ⟨w.heap.size, 4, none⟩ = some (.slice p e.l.ks.list.length cap) ∧ wk.cell? ⟨w.heap.size, 5, none⟩ = some (.int .i64 e.c.op) ∧ wk.cell? ⟨w.heap.size, 6, none⟩ = some (.string e.c.a) ∧ wk.cell? ⟨w.heap.size, 7, none⟩ = some (.slice p' e.c.ks.list.length cap') ∧ wk.cell? ⟨w.heap.size, 8, none⟩ = some (.int .i64 e.d) ∧ wk.cell? ⟨w.heap.size + 1, 0, none⟩ = some (.bool false) ∧ wk.cell? ⟨w.heap.size + 1, 1, none⟩ = some (.string ⟨#[]⟩) ∧ wk.cell? ⟨w.heap.size + 1, 2, none⟩ = some (.int .i64 0) ∧ wk.cell? ⟨w.heap.size + 1, 3, none⟩ = some (.string ⟨#[]⟩) ∧ wk.cell? ⟨w.heap.size + 1, 4, none⟩ = some (.slice none 0 0) ∧ wk.cell? ⟨w.heap.size + 1, 5, none⟩ = some (.int .i64 0) ∧ wk.cell? ⟨w.heap.size + 1, 6, none⟩ = some (.string ⟨#[]⟩) ∧ wk.cell? ⟨w.heap.size + 1, 7, none⟩ = some (.slice none 0 0) ∧ wk.cell? ⟨w.heap.size + 1, 8, none⟩ = some (.int .i64 0) ∧ wk.frozen? ⟨w.heap.size + 1, 0, none⟩ = false ∧ wk.frozen? ⟨w.heap.size + 1, 1, none⟩ = false ∧ wk.frozen? ⟨w.heap.size + 1, 2, none⟩ = false ∧ wk.frozen? ⟨w.heap.size + 1, 3, none⟩ = false ∧ wk.frozen? ⟨w.heap.size + 1, 4, none⟩ = false ∧ wk.frozen? ⟨w.heap.size + 1, 5, none⟩ = false ∧ wk.frozen? ⟨w.heap.size + 1, 6, none⟩ = false ∧ wk.frozen? ⟨w.heap.size + 1, 7, none⟩ = false ∧ wk.frozen? ⟨w.heap.size + 1, 8, none⟩ = false from
    fun wk hk => by rw [eW] at hk; exact ⟨by have := hk.size; simp at this; omega, keepc hk (by omega) (by simp [go_sem]), keepc hk (by omega) (by simp [go_sem]), keepc hk (by omega) (by simp [go_sem]), keepc hk (by omega) (by simp [go_sem]), keepc hk (by omega) (by simp [go_sem]), keepc hk (by omega) (by simp [go_sem]), keepc hk (by omega) (by simp [go_sem]), keepc hk (by omega) (by simp [go_sem]), keepc hk (by omega) (by simp [go_sem]), keepc hk (by omega) (by simp [go_sem]), keepc hk (by omega) (by simp [go_sem]), keepc hk (by omega) (by simp [go_sem]), keepc hk (by omega) (by simp [go_sem]), keepc hk (by omega) (by simp [go_sem]), keepc hk (by omega) (by simp [go_sem]), keepc hk (by omega) (by simp [go_sem]), keepc hk (by omega) (by simp [go_sem]), keepc hk (by omega) (by simp [go_sem]), (hk.frozen (by simp)).trans (by simp [go_sem]), (hk.frozen (by simp)).trans (by simp [go_sem]), (hk.frozen (by simp)).trans (by simp [go_sem]), (hk.frozen (by simp)).trans (by simp [go_sem]), (hk.frozen (by simp)).trans (by simp [go_sem]), (hk.frozen (by simp)).trans (by simp [go_sem]), (hk.frozen (by simp)).trans (by simp [go_sem]), (hk.frozen (by simp)).trans (by simp [go_sem]), (hk.frozen (by simp)).trans (by simp [go_sem])⟩)
  have HA := Lib.hid (Below.refl (w.heap.size + 2) W0)
  have HEA := Lib.hid (show ∀ wk, Below (w.heap.size + 2) W0 wk → e.At B wk (.agg #[.bool e.n, .string e.v, .int .i64 e.l.op, .string e.l.a, .slice p e.l.ks.list.length cap, .int .i64 e.c.op, .string e.c.a, .slice p' e.c.ks.list.length cap', .int .i64 e.d]) from fun wk hk => HU.out.below ((HV.out.trans (hk.mono (by omega))).mono hB) (Nat.le_refl _))
  have EW := Lib.hid eW
  clear eW HU
  go_enter Tryd.func14, Tryd.ntmps14
  go_wp2_with fail
  rw [← EW.out]
  have HBK := Lib.hid (show ∀ wk, Below (w.heap.size + 2) W0 wk → Below B w wk from fun wk hk => (HV.out.trans (hk.mono (by omega))).mono hB)
  refine (elemValid_any e _ B _ (HEA.out _ HA.out) (by omega) HSM.out (HVV.out.below HV.out)).mono ?_
  rintro en w1 ⟨rfl, hb1⟩
  have hz1 := hb1.size
  have HA := Lib.hid (HA.out.trans (hb1.mono (by omega)))
  clear hb1
  obtain ⟨hz, c0, c1, c2, c3, c4, c5, c6, c7, c8, d0, d1, d2, d3, d4, d5, d6, d7, d8, f0, f1, f2, f3, f4, f5, f6, f7, f8⟩ := HK.out _ HA.out
  cases hV : elemV e with
  | false =>
    have HT := Lib.hid (turnR_bad hV)
    have HVE := Lib.hid hV
    clear hV
    have hq := HV.out.trans (HA.out.mono (show w.heap.size ≤ w.heap.size + 2 by omega))
    go_wp2_with fail
    refine bodyPost_ret (v := .tuple #[.agg #[.bool false, .string ⟨#[]⟩, .int .i64 0, .string ⟨#[]⟩, .slice none 0 0, .int .i64 0, .string ⟨#[]⟩, .slice none 0 0, .int .i64 0], .bool false]) (by simp [results, Tryd.results14, go_sem, d0, d1, d2, d3, d4, d5, d6, d7, d8]) rfl ⟨_, [], by rw [HVE.out], by rw [HT.out]; exact noEl_has _, by simp, ((((((((((hq).setCell (by simp) _).setCell (by simp) _).setCell (by simp) _).setCell (by simp) _).setCell (by simp) _).setCell (by simp) _).setCell (by simp) _).setCell (by simp) _).setCell (by simp) _)⟩
  | true =>
    have HT := Lib.hid (turnR_ok hV)
    have HVE := Lib.hid hV
    have H12 := Lib.hid (show e.l.ks.size ≤ 2000000 ∧ e.c.ks.size ≤ 2000000 by have := elemV_ks hV; omega)
    clear hV
    go_wp2_with fail
    refine (copyElem_any e _ B _ (HEA.out _ HA.out) (by omega) H12.out.1 H12.out.2).mono ?_
    rintro en w2 ⟨v1, F, rfl, hh, hF, hb2⟩
    have hz2 := hb2.size
    have HA2 := Lib.hid (HA.out.trans (hb2.mono (by omega)))
    have HF := Lib.hid (show ∀ x ∈ F, w.heap.size + 2 ≤ x from fun x hx => by have := hF x hx; omega)
    obtain ⟨pl, cl, pc, cc, rfl, _, _⟩ := hh.at.form
    have HFIN := Lib.hid (fun (E : World) (D : Int) (hD : turnD e.d = D) (hE : Chg [w.heap.size + 1] w2 E) => show ∃ v' F, Ending.returned (.tuple #[.agg #[.bool e.n, .string e.v, .int .i64 e.l.op, .string e.l.a, .slice pl e.l.ks.list.length cl, .int .i64 e.c.op, .string e.c.a, .slice pc e.c.ks.list.length cc, .int .i64 D], .bool true]) = .returned (.tuple #[v', .bool (elemV e)]) ∧ (turnR e).Has v' F E ∧ (∀ x ∈ F, w.heap.size ≤ x) ∧ Below w.heap.size w E from
      ⟨_, F, by rw [HVE.out], by rw [HT.out]; have := El.Has.turned (hh.chg hE (fun x hx hm => by have := HF.out x hx; simp at hm; omega)); rw [hD] at this; exact this, fun x hx => by have := HF.out x hx; omega,
        (HV.out.trans (HA2.out.mono (by omega))).trans (hE.below (by omega) (by simp))⟩)
    clear hh hF hb2 c0 c1 c2 c3 c4 c5 c6 c7 c8 d0 d1 d2 d3 d4 d5 d6 d7 d8 f0 f1 f2 f3 f4 f5 f6 f7 f8
    obtain ⟨hzz, c0, c1, c2, c3, c4, c5, c6, c7, c8, d0, d1, d2, d3, d4, d5, d6, d7, d8, f0, f1, f2, f3, f4, f5, f6, f7, f8⟩ := HK.out _ HA2.out
    have hq1 : w.heap.size < w2.heap.size := by omega
    have hq2 : w.heap.size + 1 < w2.heap.size := by omega
    by_cases k1 : e.d = 1
    · have b1 : (e.d == 1) = true := beq_iff_eq.2 k1
      have hw : IntKind.i64.wrap (3 - e.d) = 2 := by rw [k1]; rfl
      have HD := Lib.hid (show turnD e.d = 2 by rw [k1]; rfl)
      clear k1
      go_wp2_with fail
      refine bodyPost_ret (v := .tuple #[.agg #[.bool e.n, .string e.v, .int .i64 e.l.op, .string e.l.a, .slice pl e.l.ks.list.length cl, .int .i64 e.c.op, .string e.c.a, .slice pc e.c.ks.list.length cc, .int .i64 2], .bool true]) (by simp [results, Tryd.results14, go_sem, hq2, d0, d1, d2, d3, d4, d5, d6, d7, d8]) rfl (HFIN.out _ _ HD.out ?_)
      repeat (first | with_reducible exact Chg.refl _ _ | with_reducible refine Chg.setCell ?_ (by simp) _ | with_reducible refine Chg.then_below ?_ ((Below.refl _ _).alloc (Nat.le_refl _) _))
    · have b1 : (e.d == 1) = false := beq_eq_false_iff_ne.2 k1
      by_cases k2 : e.d = 2
      · have b2 : (e.d == 2) = true := beq_iff_eq.2 k2
        have hw : IntKind.i64.wrap (3 - e.d) = 1 := by rw [k2]; rfl
        have HD := Lib.hid (show turnD e.d = 1 by rw [k2]; rfl)
        clear k1 k2
        go_wp2_with fail
        refine bodyPost_ret (v := .tuple #[.agg #[.bool e.n, .string e.v, .int .i64 e.l.op, .string e.l.a, .slice pl e.l.ks.list.length cl, .int .i64 e.c.op, .string e.c.a, .slice pc e.c.ks.list.length cc, .int .i64 1], .bool true]) (by simp [results, Tryd.results14, go_sem, hq2, d0, d1, d2, d3, d4, d5, d6, d7, d8]) rfl (HFIN.out _ _ HD.out ?_)
        repeat (first | with_reducible exact Chg.refl _ _ | with_reducible refine Chg.setCell ?_ (by simp) _ | with_reducible refine Chg.then_below ?_ ((Below.refl _ _).alloc (Nat.le_refl _) _))
      · have b2 : (e.d == 2) = false := beq_eq_false_iff_ne.2 k2
        have HD := Lib.hid (turnD_same k1 k2)
        clear k1 k2
        go_wp2_with fail
        refine bodyPost_ret (v := .tuple #[.agg #[.bool e.n, .string e.v, .int .i64 e.l.op, .string e.l.a, .slice pl e.l.ks.list.length cl, .int .i64 e.c.op, .string e.c.a, .slice pc e.c.ks.list.length cc, .int .i64 e.d], .bool true]) (by simp [results, Tryd.results14, go_sem, hq2, d0, d1, d2, d3, d4, d5, d6, d7, d8]) rfl (HFIN.out _ _ HD.out ?_)
        repeat (first | with_reducible exact Chg.refl _ _ | with_reducible refine Chg.setCell ?_ (by simp) _ | with_reducible refine Chg.then_below ?_ ((Below.refl _ _).alloc (Nat.le_refl _) _))
end Go.Proofs.YtghhabailgfelaaDoor
