/- Which elements are valid: impl.ElemValid, spec.ElemValid. -/
import Derived.Test.YtbbemeaojmfndaaDoorM2q0p1
import Derived.Test.YtbbemeaojmfndaaDoorExV
import Derived.Test.YtbbemeaojmfndaaDoorSExV
namespace Go.Proofs.YtbbemeaojmfndaaDoor
open Go.RowKit

/-- Each text in it is short. -/
def El.Sm (e : El) : Prop := e.v.size ≤ 1048576 ∧ e.l.a.size ≤ 1048576 ∧ e.l.ks.Sm ∧ e.c.a.size ≤ 1048576 ∧ e.c.ks.Sm
theorem El.sm_of {e : El} (h : elNeed e ≤ 1048576) : e.Sm := by
  obtain ⟨h1, h2, _, h4, _, h6, h7⟩ := El.sm_need h
  exact ⟨h1, h2, e.l.ks.sm_need h6, h4, e.c.ks.sm_need h7⟩
def noneB (o : Int) (a : ByteArray) (n : Nat) : Bool := decide (o = 0) && (decide (a.size = 0) && decide (n = 0))
def exNone (e : Ex) : Bool := noneB e.op e.a e.ks.list.length
def partV (kind : Int) (e : Ex) : Bool := exNone e || exV kind e
def dirV (n : Bool) (d : Int) : Bool := (n == decide (d = 0)) && (decide (0 ≤ d) && decide (d ≤ 3))
def varV (v : ByteArray) : Bool := decide (v.size = 0) || lv v
def elemV (e : El) : Bool := dirV e.n e.d && (varV e.v && (partV 1 e.l && partV 2 e.c))
theorem El.At.lab {e : El} {B : Nat} {w : World} {u : Value} (h : e.At B w u) : ∃ k, e.l.At B w (.agg #[.int .i64 e.l.op, .string e.l.a, k]) := by
  obtain ⟨k, k', h1, h2, h3⟩ := h; exact ⟨k, k, rfl, h2⟩

set_option maxRecDepth 100000 in
set_option maxHeartbeats 1000000 in
theorem noExpr_any (o : Int) (a : ByteArray) (p : Option Addr) (n cap : Nat) (w : World) :
    Calls Tryd.prog 38 #[.agg #[.int .i64 o, .string a, .slice p n cap]] w fun en w' => en = .returned (.bool (noneB o a n)) ∧ Below w.heap.size w w' := by
  by_cases o0 : o = 0
  · have b0 : (o == 0) = true := beq_iff_eq.2 o0
    by_cases ha : a.size = 0
    · have h1 := str_empty ha
      have h2 := str_empty' ha
      by_cases hn : n = 0
      · have h3 : ((n : Int) == 0) = true := beq_iff_eq.2 (by omega)
        have HT := Lib.hid (show noneB o a n = true by simp [noneB, o0, ha, hn])
        clear o0 ha hn
        go_enter Tryd.func38, Tryd.ntmps38
        go_wp2_with fail
        go_ret
        exact ⟨by rw [HT.out]; first | rfl | simp [*], (Below.refl _ _).alloc (Nat.le_refl _) _⟩
      · have h3 : ((n : Int) == 0) = false := by rw [beq_eq_false_iff_ne]; omega
        have HT := Lib.hid (show noneB o a n = false by simp [noneB, hn])
        clear o0 ha hn
        go_enter Tryd.func38, Tryd.ntmps38
        go_wp2_with fail
        go_ret
        exact ⟨by rw [HT.out]; first | rfl | simp [*], (Below.refl _ _).alloc (Nat.le_refl _) _⟩
    · have h1 := str_nonempty (s := a) (by omega)
      have h2 := str_nonempty'' (s := a) (by omega)
      have HT := Lib.hid (show noneB o a n = false by simp [noneB, ha])
      clear o0 ha
      go_enter Tryd.func38, Tryd.ntmps38
      go_wp2_with fail
      go_ret
      exact ⟨by rw [HT.out]; first | rfl | simp [*], (Below.refl _ _).alloc (Nat.le_refl _) _⟩
  · have b0 : (o == 0) = false := beq_eq_false_iff_ne.2 o0
    have HT := Lib.hid (show noneB o a n = false by simp [noneB, o0])
    clear o0
    go_enter Tryd.func38, Tryd.ntmps38
    go_wp2_with fail
    go_ret
    exact ⟨by rw [HT.out]; first | rfl | simp [*], (Below.refl _ _).alloc (Nat.le_refl _) _⟩

set_option maxRecDepth 100000 in
set_option maxHeartbeats 2000000 in
theorem l3Expr_any (e : Ex) (v : Value) (kind : Int) (B : Nat) (w : World) (hv : e.At B w v) (hB : B ≤ w.heap.size) (ha' : e.a.size ≤ 1048576) (hsm : e.ks.Sm) :
    Calls Tryd.prog 60 #[v, .int .i64 kind] w fun en w' => en = .returned (.bool (partV kind e)) ∧ Below w.heap.size w w' := by
  obtain ⟨k, rfl, hk⟩ := hv
  obtain ⟨p, cap, rfl⟩ := hk.form
  have HK := Lib.hid hk
  have HSM := Lib.hid hsm
  clear hk hsm
  have HB0 := Lib.hid (show Below w.heap.size w (w.alloc (.cells #[.int .i64 e.op, .string e.a, .slice p e.ks.list.length cap] 25)) from (Below.refl _ _).alloc (Nat.le_refl _) _)
  by_cases o0 : e.op = 0
  · have b0 : (e.op == 0) = true := beq_iff_eq.2 o0
    by_cases ha : e.a.size = 0
    · have h1 := str_empty ha
      have h2 := str_empty' ha
      by_cases hn : e.ks.list.length = 0
      · have h3 : ((e.ks.list.length : Int) == 0) = true := beq_iff_eq.2 (by omega)
        have HT := Lib.hid (show partV kind e = true by simp [partV, exNone, noneB, o0, ha, hn])
        clear o0 ha hn
        go_enter Tryd.func60, Tryd.ntmps60
        go_wp2_with fail
        go_ret
        exact ⟨by rw [HT.out]; first | rfl | simp [*], HB0.out⟩
      · have h3 : ((e.ks.list.length : Int) == 0) = false := by rw [beq_eq_false_iff_ne]; omega
        have HT := Lib.hid (show partV kind e = exV kind e by unfold partV exNone noneB; rw [decide_eq_false hn]; simp)
        clear o0 ha hn
        go_enter Tryd.func60, Tryd.ntmps60
        go_wp2_with fail
        refine (specExprValid_any e _ kind B _ ⟨_, rfl, HK.out.below (HB0.out.mono hB) (Nat.le_refl _)⟩ (by simp; omega) ha' HSM.out).mono ?_
        rintro en w1 ⟨rfl, hb1⟩
        have HB1 := Lib.hid (HB0.out.trans (hb1.mono (by simp)))
        clear hb1
        go_wp2_with fail
        go_ret
        exact ⟨by rw [HT.out]; rfl, HB1.out⟩
    · have h1 := str_nonempty (s := e.a) (by omega)
      have h2 := str_nonempty'' (s := e.a) (by omega)
      have HT := Lib.hid (show partV kind e = exV kind e by unfold partV exNone noneB; rw [decide_eq_false ha]; simp)
      clear o0 ha
      go_enter Tryd.func60, Tryd.ntmps60
      go_wp2_with fail
      refine (specExprValid_any e _ kind B _ ⟨_, rfl, HK.out.below (HB0.out.mono hB) (Nat.le_refl _)⟩ (by simp; omega) ha' HSM.out).mono ?_
      rintro en w1 ⟨rfl, hb1⟩
      have HB1 := Lib.hid (HB0.out.trans (hb1.mono (by simp)))
      clear hb1
      go_wp2_with fail
      go_ret
      exact ⟨by rw [HT.out]; rfl, HB1.out⟩
  · have b0 : (e.op == 0) = false := beq_eq_false_iff_ne.2 o0
    have HT := Lib.hid (show partV kind e = exV kind e by unfold partV exNone noneB; rw [decide_eq_false o0]; simp)
    clear o0
    go_enter Tryd.func60, Tryd.ntmps60
    go_wp2_with fail
    refine (specExprValid_any e _ kind B _ ⟨_, rfl, HK.out.below (HB0.out.mono hB) (Nat.le_refl _)⟩ (by simp; omega) ha' HSM.out).mono ?_
    rintro en w1 ⟨rfl, hb1⟩
    have HB1 := Lib.hid (HB0.out.trans (hb1.mono (by simp)))
    clear hb1
    go_wp2_with fail
    go_ret
    exact ⟨by rw [HT.out]; rfl, HB1.out⟩

set_option maxRecDepth 100000 in
set_option maxHeartbeats 8000000 in
theorem elemValid_any (e : El) (u : Value) (B : Nat) (w : World) (hu : e.At B w u) (hB : B ≤ w.heap.size) (hs : e.Sm) (hvars : Vars w) :
    Calls Tryd.prog 13 #[u] w fun en w' => en = .returned (.bool (elemV e)) ∧ Below w.heap.size w w' := by
  obtain ⟨p, cap, p', cap', rfl, hl, hc⟩ := hu.form
  obtain ⟨s1, s2, s3, s4, s5⟩ := hs
  have HS3 := Lib.hid s3
  have HS5 := Lib.hid s5
  have HL := Lib.hid hl
  have HC := Lib.hid hc
  have HVV := Lib.hid hvars
  clear hu hl hc s3 s5 hvars
  have hm1 : e.v.size ≤ maxLen := by unfold maxLen; omega
  obtain ⟨W0, eW⟩ : ∃ W0, W0 = w.alloc (.cells #[.bool e.n, .string e.v, .int .i64 e.l.op, .string e.l.a, .slice p e.l.ks.list.length cap, .int .i64 e.c.op, .string e.c.a, .slice p' e.c.ks.list.length cap', .int .i64 e.d] 27) := ⟨_, rfl⟩
  have HV := Lib.hid (show Below w.heap.size w W0 by rw [eW]; exact (Below.refl w.heap.size w).alloc (by simp) _)
  have hs0 : w.heap.size + 1 ≤ W0.heap.size := by rw [eW]; simp
  have HK := Lib.hid (show ∀ wk, Below (w.heap.size + 1) W0 wk → w.heap.size + 1 ≤ wk.heap.size ∧ wk.cell? ⟨w.heap.size, 2, none⟩ = some (.int .i64 e.l.op) ∧ wk.cell? ⟨w.heap.size, 3, none⟩ = some (.string e.l.a) ∧ wk.cell? ⟨w.heap.size, 4, none⟩ = some (.slice p e.l.ks.list.length cap) ∧ wk.cell? ⟨w.heap.size, 5, none⟩ = some (.int .i64 e.c.op) ∧ wk.cell? ⟨w.heap.size, 6, none⟩ = some (.string e.c.a) ∧ wk.cell? ⟨w.heap.size, 7, none⟩ = some (.slice p' e.c.ks.list.length cap') ∧ wk.cell? ⟨w.heap.size, 8, none⟩ = some (.int .i64 e.d) from
    fun wk hk => by rw [eW] at hk; exact ⟨by have := hk.size; simp at this; omega, keepc hk (by omega) (by simp [go_sem]), keepc hk (by omega) (by simp [go_sem]), keepc hk (by omega) (by simp [go_sem]), keepc hk (by omega) (by simp [go_sem]), keepc hk (by omega) (by simp [go_sem]), keepc hk (by omega) (by simp [go_sem]), keepc hk (by omega) (by simp [go_sem])⟩)
  have HA := Lib.hid (Below.refl (w.heap.size + 1) W0)
  have HLA := Lib.hid (show ∀ wk, Below (w.heap.size + 1) W0 wk → e.l.At B wk (.agg #[.int .i64 e.l.op, .string e.l.a, .slice p e.l.ks.list.length cap]) from fun wk hk => ⟨_, rfl, HL.out.below ((HV.out.trans (hk.mono (by omega))).mono hB) (Nat.le_refl _)⟩)
  have HCA := Lib.hid (show ∀ wk, Below (w.heap.size + 1) W0 wk → e.c.At B wk (.agg #[.int .i64 e.c.op, .string e.c.a, .slice p' e.c.ks.list.length cap']) from fun wk hk => ⟨_, rfl, HC.out.below ((HV.out.trans (hk.mono (by omega))).mono hB) (Nat.le_refl _)⟩)
  have HVA := Lib.hid (show ∀ wk, Below (w.heap.size + 1) W0 wk → Vars wk from fun wk hk => HVV.out.below (HV.out.trans (hk.mono (by omega))))
  have EW := Lib.hid eW
  clear eW
  clear HL HC HVV
  by_cases d0 : e.d = 0
  · have b0 : (e.d == 0) = true := beq_iff_eq.2 d0
    have l0 : ¬ (e.d < 0) := by omega
    have l3 : ¬ (3 < e.d) := by omega
    cases hn : e.n with
    | true =>
      have HD := Lib.hid (show dirV e.n e.d = true by rw [hn]; unfold dirV; rw [decide_eq_true d0, decide_eq_true (p := 0 ≤ e.d) (by omega), decide_eq_true (p := e.d ≤ 3) (by omega)]; rfl)
      rw [hn] at EW
      clear hn d0
      by_cases v0 : e.v.size = 0
      · have HVR := Lib.hid (show varV e.v = true by unfold varV; rw [decide_eq_true v0]; rfl)
        have h1 := str_empty v0
        have h2 := str_empty' v0
        clear v0
        go_enter Tryd.func13, Tryd.ntmps13
        go_wp2_with fail
        rw [← EW.out]
        obtain ⟨hz, c2, c3, c4, c5, c6, c7, c8⟩ := HK.out _ HA.out
        refine (noExpr_any e.l.op e.l.a _ e.l.ks.list.length _ _).mono ?_
        rintro en w1 ⟨rfl, hb⟩
        have HA := Lib.hid (HA.out.trans (hb.mono (by omega)))
        clear hb hz c2 c3 c4 c5 c6 c7 c8
        obtain ⟨hz, c2, c3, c4, c5, c6, c7, c8⟩ := HK.out _ HA.out
        cases hN : noneB e.l.op e.l.a e.l.ks.list.length with
        | true =>
          have HPL := Lib.hid (show partV 1 e.l = true by unfold partV exNone; rw [hN]; rfl)
          clear hN
          go_wp2_with fail
          refine (noExpr_any e.c.op e.c.a _ e.c.ks.list.length _ _).mono ?_
          rintro en w3 ⟨rfl, hb⟩
          have HA := Lib.hid (HA.out.trans (hb.mono (by omega)))
          clear hb hz c2 c3 c4 c5 c6 c7 c8
          obtain ⟨hz, c2, c3, c4, c5, c6, c7, c8⟩ := HK.out _ HA.out
          cases hN : noneB e.c.op e.c.a e.c.ks.list.length with
          | true =>
            have HPC := Lib.hid (show partV 2 e.c = true by unfold partV exNone; rw [hN]; rfl)
            clear hN
            have HT := Lib.hid (show elemV e = true by unfold elemV; rw [HD.out, HVR.out, HPL.out, HPC.out]; rfl)
            go_wp2_with fail
            go_ret
            exact ⟨by rw [HT.out]; first | rfl | simp [*], HV.out.trans (HA.out.mono (by omega))⟩
          | false =>
            have HQ := Lib.hid (show partV 2 e.c = exV 2 e.c by unfold partV exNone; rw [hN]; rfl)
            clear hN
            go_wp2_with fail
            refine (exprValid_any e.c _ 2 B _ (HCA.out _ HA.out) (by omega) s4 HS5.out (HVA.out _ HA.out)).mono ?_
            rintro en w4 ⟨rfl, hb⟩
            have HA := Lib.hid (HA.out.trans (hb.mono (by omega)))
            clear hb hz c2 c3 c4 c5 c6 c7 c8
            obtain ⟨hz, c2, c3, c4, c5, c6, c7, c8⟩ := HK.out _ HA.out
            cases hX : exV 2 e.c with
            | false =>
              have HPC := Lib.hid (show partV 2 e.c = false by rw [HQ.out, hX])
              have HT := Lib.hid (show elemV e = false by unfold elemV; rw [HPC.out]; simp)
              clear hX
              go_wp2_with fail
              go_ret
              exact ⟨by rw [HT.out]; first | rfl | simp [*], HV.out.trans (HA.out.mono (by omega))⟩
            | true =>
              have HPC := Lib.hid (show partV 2 e.c = true by rw [HQ.out, hX])
              clear hX
              have HT := Lib.hid (show elemV e = true by unfold elemV; rw [HD.out, HVR.out, HPL.out, HPC.out]; rfl)
              go_wp2_with fail
              go_ret
              exact ⟨by rw [HT.out]; first | rfl | simp [*], HV.out.trans (HA.out.mono (by omega))⟩
        | false =>
          have HQ := Lib.hid (show partV 1 e.l = exV 1 e.l by unfold partV exNone; rw [hN]; rfl)
          clear hN
          go_wp2_with fail
          refine (exprValid_any e.l _ 1 B _ (HLA.out _ HA.out) (by omega) s2 HS3.out (HVA.out _ HA.out)).mono ?_
          rintro en w2 ⟨rfl, hb⟩
          have HA := Lib.hid (HA.out.trans (hb.mono (by omega)))
          clear hb hz c2 c3 c4 c5 c6 c7 c8
          obtain ⟨hz, c2, c3, c4, c5, c6, c7, c8⟩ := HK.out _ HA.out
          cases hX : exV 1 e.l with
          | false =>
            have HPL := Lib.hid (show partV 1 e.l = false by rw [HQ.out, hX])
            have HT := Lib.hid (show elemV e = false by unfold elemV; rw [HPL.out]; simp)
            clear hX
            go_wp2_with fail
            go_ret
            exact ⟨by rw [HT.out]; first | rfl | simp [*], HV.out.trans (HA.out.mono (by omega))⟩
          | true =>
            have HPL := Lib.hid (show partV 1 e.l = true by rw [HQ.out, hX])
            clear hX
            go_wp2_with fail
            refine (noExpr_any e.c.op e.c.a _ e.c.ks.list.length _ _).mono ?_
            rintro en w3 ⟨rfl, hb⟩
            have HA := Lib.hid (HA.out.trans (hb.mono (by omega)))
            clear hb hz c2 c3 c4 c5 c6 c7 c8
            obtain ⟨hz, c2, c3, c4, c5, c6, c7, c8⟩ := HK.out _ HA.out
            cases hN : noneB e.c.op e.c.a e.c.ks.list.length with
            | true =>
              have HPC := Lib.hid (show partV 2 e.c = true by unfold partV exNone; rw [hN]; rfl)
              clear hN
              have HT := Lib.hid (show elemV e = true by unfold elemV; rw [HD.out, HVR.out, HPL.out, HPC.out]; rfl)
              go_wp2_with fail
              go_ret
              exact ⟨by rw [HT.out]; first | rfl | simp [*], HV.out.trans (HA.out.mono (by omega))⟩
            | false =>
              have HQ := Lib.hid (show partV 2 e.c = exV 2 e.c by unfold partV exNone; rw [hN]; rfl)
              clear hN
              go_wp2_with fail
              refine (exprValid_any e.c _ 2 B _ (HCA.out _ HA.out) (by omega) s4 HS5.out (HVA.out _ HA.out)).mono ?_
              rintro en w4 ⟨rfl, hb⟩
              have HA := Lib.hid (HA.out.trans (hb.mono (by omega)))
              clear hb hz c2 c3 c4 c5 c6 c7 c8
              obtain ⟨hz, c2, c3, c4, c5, c6, c7, c8⟩ := HK.out _ HA.out
              cases hX : exV 2 e.c with
              | false =>
                have HPC := Lib.hid (show partV 2 e.c = false by rw [HQ.out, hX])
                have HT := Lib.hid (show elemV e = false by unfold elemV; rw [HPC.out]; simp)
                clear hX
                go_wp2_with fail
                go_ret
                exact ⟨by rw [HT.out]; first | rfl | simp [*], HV.out.trans (HA.out.mono (by omega))⟩
              | true =>
                have HPC := Lib.hid (show partV 2 e.c = true by rw [HQ.out, hX])
                clear hX
                have HT := Lib.hid (show elemV e = true by unfold elemV; rw [HD.out, HVR.out, HPL.out, HPC.out]; rfl)
                go_wp2_with fail
                go_ret
                exact ⟨by rw [HT.out]; first | rfl | simp [*], HV.out.trans (HA.out.mono (by omega))⟩
      · have HVQ := Lib.hid (show varV e.v = lv e.v by unfold varV; rw [decide_eq_false v0]; rfl)
        have h1 := str_nonempty (s := e.v) (by omega)
        have h2 := str_nonempty'' (s := e.v) (by omega)
        clear v0
        go_enter Tryd.func13, Tryd.ntmps13
        go_wp2_with fail
        rw [← EW.out]
        refine (labelValid_any _ _ hm1).mono ?_
        rintro en wx ⟨rfl, rfl⟩
        obtain ⟨hz, c2, c3, c4, c5, c6, c7, c8⟩ := HK.out _ HA.out
        cases hv : lv e.v with
        | false =>
          have HT := Lib.hid (show elemV e = false by unfold elemV; rw [HVQ.out, hv]; simp)
          clear hv
          go_wp2_with fail
          go_ret
          exact ⟨by rw [HT.out]; first | rfl | simp [*], HV.out.trans (HA.out.mono (by omega))⟩
        | true =>
          have HVR := Lib.hid (show varV e.v = true by rw [HVQ.out, hv])
          clear hv
          go_wp2_with fail
          refine (noExpr_any e.l.op e.l.a _ e.l.ks.list.length _ _).mono ?_
          rintro en w1 ⟨rfl, hb⟩
          have HA := Lib.hid (HA.out.trans (hb.mono (by omega)))
          clear hb hz c2 c3 c4 c5 c6 c7 c8
          obtain ⟨hz, c2, c3, c4, c5, c6, c7, c8⟩ := HK.out _ HA.out
          cases hN : noneB e.l.op e.l.a e.l.ks.list.length with
          | true =>
            have HPL := Lib.hid (show partV 1 e.l = true by unfold partV exNone; rw [hN]; rfl)
            clear hN
            go_wp2_with fail
            refine (noExpr_any e.c.op e.c.a _ e.c.ks.list.length _ _).mono ?_
            rintro en w3 ⟨rfl, hb⟩
            have HA := Lib.hid (HA.out.trans (hb.mono (by omega)))
            clear hb hz c2 c3 c4 c5 c6 c7 c8
            obtain ⟨hz, c2, c3, c4, c5, c6, c7, c8⟩ := HK.out _ HA.out
            cases hN : noneB e.c.op e.c.a e.c.ks.list.length with
            | true =>
              have HPC := Lib.hid (show partV 2 e.c = true by unfold partV exNone; rw [hN]; rfl)
              clear hN
              have HT := Lib.hid (show elemV e = true by unfold elemV; rw [HD.out, HVR.out, HPL.out, HPC.out]; rfl)
              go_wp2_with fail
              go_ret
              exact ⟨by rw [HT.out]; first | rfl | simp [*], HV.out.trans (HA.out.mono (by omega))⟩
            | false =>
              have HQ := Lib.hid (show partV 2 e.c = exV 2 e.c by unfold partV exNone; rw [hN]; rfl)
              clear hN
              go_wp2_with fail
              refine (exprValid_any e.c _ 2 B _ (HCA.out _ HA.out) (by omega) s4 HS5.out (HVA.out _ HA.out)).mono ?_
              rintro en w4 ⟨rfl, hb⟩
              have HA := Lib.hid (HA.out.trans (hb.mono (by omega)))
              clear hb hz c2 c3 c4 c5 c6 c7 c8
              obtain ⟨hz, c2, c3, c4, c5, c6, c7, c8⟩ := HK.out _ HA.out
              cases hX : exV 2 e.c with
              | false =>
                have HPC := Lib.hid (show partV 2 e.c = false by rw [HQ.out, hX])
                have HT := Lib.hid (show elemV e = false by unfold elemV; rw [HPC.out]; simp)
                clear hX
                go_wp2_with fail
                go_ret
                exact ⟨by rw [HT.out]; first | rfl | simp [*], HV.out.trans (HA.out.mono (by omega))⟩
              | true =>
                have HPC := Lib.hid (show partV 2 e.c = true by rw [HQ.out, hX])
                clear hX
                have HT := Lib.hid (show elemV e = true by unfold elemV; rw [HD.out, HVR.out, HPL.out, HPC.out]; rfl)
                go_wp2_with fail
                go_ret
                exact ⟨by rw [HT.out]; first | rfl | simp [*], HV.out.trans (HA.out.mono (by omega))⟩
          | false =>
            have HQ := Lib.hid (show partV 1 e.l = exV 1 e.l by unfold partV exNone; rw [hN]; rfl)
            clear hN
            go_wp2_with fail
            refine (exprValid_any e.l _ 1 B _ (HLA.out _ HA.out) (by omega) s2 HS3.out (HVA.out _ HA.out)).mono ?_
            rintro en w2 ⟨rfl, hb⟩
            have HA := Lib.hid (HA.out.trans (hb.mono (by omega)))
            clear hb hz c2 c3 c4 c5 c6 c7 c8
            obtain ⟨hz, c2, c3, c4, c5, c6, c7, c8⟩ := HK.out _ HA.out
            cases hX : exV 1 e.l with
            | false =>
              have HPL := Lib.hid (show partV 1 e.l = false by rw [HQ.out, hX])
              have HT := Lib.hid (show elemV e = false by unfold elemV; rw [HPL.out]; simp)
              clear hX
              go_wp2_with fail
              go_ret
              exact ⟨by rw [HT.out]; first | rfl | simp [*], HV.out.trans (HA.out.mono (by omega))⟩
            | true =>
              have HPL := Lib.hid (show partV 1 e.l = true by rw [HQ.out, hX])
              clear hX
              go_wp2_with fail
              refine (noExpr_any e.c.op e.c.a _ e.c.ks.list.length _ _).mono ?_
              rintro en w3 ⟨rfl, hb⟩
              have HA := Lib.hid (HA.out.trans (hb.mono (by omega)))
              clear hb hz c2 c3 c4 c5 c6 c7 c8
              obtain ⟨hz, c2, c3, c4, c5, c6, c7, c8⟩ := HK.out _ HA.out
              cases hN : noneB e.c.op e.c.a e.c.ks.list.length with
              | true =>
                have HPC := Lib.hid (show partV 2 e.c = true by unfold partV exNone; rw [hN]; rfl)
                clear hN
                have HT := Lib.hid (show elemV e = true by unfold elemV; rw [HD.out, HVR.out, HPL.out, HPC.out]; rfl)
                go_wp2_with fail
                go_ret
                exact ⟨by rw [HT.out]; first | rfl | simp [*], HV.out.trans (HA.out.mono (by omega))⟩
              | false =>
                have HQ := Lib.hid (show partV 2 e.c = exV 2 e.c by unfold partV exNone; rw [hN]; rfl)
                clear hN
                go_wp2_with fail
                refine (exprValid_any e.c _ 2 B _ (HCA.out _ HA.out) (by omega) s4 HS5.out (HVA.out _ HA.out)).mono ?_
                rintro en w4 ⟨rfl, hb⟩
                have HA := Lib.hid (HA.out.trans (hb.mono (by omega)))
                clear hb hz c2 c3 c4 c5 c6 c7 c8
                obtain ⟨hz, c2, c3, c4, c5, c6, c7, c8⟩ := HK.out _ HA.out
                cases hX : exV 2 e.c with
                | false =>
                  have HPC := Lib.hid (show partV 2 e.c = false by rw [HQ.out, hX])
                  have HT := Lib.hid (show elemV e = false by unfold elemV; rw [HPC.out]; simp)
                  clear hX
                  go_wp2_with fail
                  go_ret
                  exact ⟨by rw [HT.out]; first | rfl | simp [*], HV.out.trans (HA.out.mono (by omega))⟩
                | true =>
                  have HPC := Lib.hid (show partV 2 e.c = true by rw [HQ.out, hX])
                  clear hX
                  have HT := Lib.hid (show elemV e = true by unfold elemV; rw [HD.out, HVR.out, HPL.out, HPC.out]; rfl)
                  go_wp2_with fail
                  go_ret
                  exact ⟨by rw [HT.out]; first | rfl | simp [*], HV.out.trans (HA.out.mono (by omega))⟩
    | false =>
      have HT := Lib.hid (show elemV e = false by unfold elemV dirV; rw [hn, decide_eq_true d0]; rfl)
      rw [hn] at EW
      clear hn d0
      go_enter Tryd.func13, Tryd.ntmps13
      go_wp2_with fail
      rw [← EW.out]
      go_ret
      exact ⟨by rw [HT.out]; first | rfl | simp [*], HV.out.trans (HA.out.mono (by omega))⟩
  have b0 : (e.d == 0) = false := beq_eq_false_iff_ne.2 d0
  cases hn : e.n with
  | true =>
    have HT := Lib.hid (show elemV e = false by unfold elemV dirV; rw [hn, decide_eq_false d0]; rfl)
    rw [hn] at EW
    clear hn d0
    go_enter Tryd.func13, Tryd.ntmps13
    go_wp2_with fail
    rw [← EW.out]
    go_ret
    exact ⟨by rw [HT.out]; first | rfl | simp [*], HV.out.trans (HA.out.mono (by omega))⟩
  | false =>
    by_cases l0 : e.d < 0
    · have HT := Lib.hid (show elemV e = false by unfold elemV dirV; rw [decide_eq_false (p := 0 ≤ e.d) (by omega)]; simp)
      rw [hn] at EW
      clear hn d0
      go_enter Tryd.func13, Tryd.ntmps13
      go_wp2_with fail
      rw [← EW.out]
      go_ret
      exact ⟨by rw [HT.out]; first | rfl | simp [*], HV.out.trans (HA.out.mono (by omega))⟩
    by_cases l3 : 3 < e.d
    · have HT := Lib.hid (show elemV e = false by unfold elemV dirV; rw [decide_eq_false (p := e.d ≤ 3) (by omega)]; simp)
      rw [hn] at EW
      clear hn d0
      go_enter Tryd.func13, Tryd.ntmps13
      go_wp2_with fail
      rw [← EW.out]
      go_ret
      exact ⟨by rw [HT.out]; first | rfl | simp [*], HV.out.trans (HA.out.mono (by omega))⟩
    have HD := Lib.hid (show dirV e.n e.d = true by rw [hn]; unfold dirV; rw [decide_eq_false d0, decide_eq_true (p := 0 ≤ e.d) (by omega), decide_eq_true (p := e.d ≤ 3) (by omega)]; rfl)
    rw [hn] at EW
    clear hn d0
    by_cases v0 : e.v.size = 0
    · have HVR := Lib.hid (show varV e.v = true by unfold varV; rw [decide_eq_true v0]; rfl)
      have h1 := str_empty v0
      have h2 := str_empty' v0
      clear v0
      go_enter Tryd.func13, Tryd.ntmps13
      go_wp2_with fail
      rw [← EW.out]
      obtain ⟨hz, c2, c3, c4, c5, c6, c7, c8⟩ := HK.out _ HA.out
      refine (noExpr_any e.l.op e.l.a _ e.l.ks.list.length _ _).mono ?_
      rintro en w1 ⟨rfl, hb⟩
      have HA := Lib.hid (HA.out.trans (hb.mono (by omega)))
      clear hb hz c2 c3 c4 c5 c6 c7 c8
      obtain ⟨hz, c2, c3, c4, c5, c6, c7, c8⟩ := HK.out _ HA.out
      cases hN : noneB e.l.op e.l.a e.l.ks.list.length with
      | true =>
        have HPL := Lib.hid (show partV 1 e.l = true by unfold partV exNone; rw [hN]; rfl)
        clear hN
        go_wp2_with fail
        refine (noExpr_any e.c.op e.c.a _ e.c.ks.list.length _ _).mono ?_
        rintro en w3 ⟨rfl, hb⟩
        have HA := Lib.hid (HA.out.trans (hb.mono (by omega)))
        clear hb hz c2 c3 c4 c5 c6 c7 c8
        obtain ⟨hz, c2, c3, c4, c5, c6, c7, c8⟩ := HK.out _ HA.out
        cases hN : noneB e.c.op e.c.a e.c.ks.list.length with
        | true =>
          have HPC := Lib.hid (show partV 2 e.c = true by unfold partV exNone; rw [hN]; rfl)
          clear hN
          have HT := Lib.hid (show elemV e = true by unfold elemV; rw [HD.out, HVR.out, HPL.out, HPC.out]; rfl)
          go_wp2_with fail
          go_ret
          exact ⟨by rw [HT.out]; first | rfl | simp [*], HV.out.trans (HA.out.mono (by omega))⟩
        | false =>
          have HQ := Lib.hid (show partV 2 e.c = exV 2 e.c by unfold partV exNone; rw [hN]; rfl)
          clear hN
          go_wp2_with fail
          refine (exprValid_any e.c _ 2 B _ (HCA.out _ HA.out) (by omega) s4 HS5.out (HVA.out _ HA.out)).mono ?_
          rintro en w4 ⟨rfl, hb⟩
          have HA := Lib.hid (HA.out.trans (hb.mono (by omega)))
          clear hb hz c2 c3 c4 c5 c6 c7 c8
          obtain ⟨hz, c2, c3, c4, c5, c6, c7, c8⟩ := HK.out _ HA.out
          cases hX : exV 2 e.c with
          | false =>
            have HPC := Lib.hid (show partV 2 e.c = false by rw [HQ.out, hX])
            have HT := Lib.hid (show elemV e = false by unfold elemV; rw [HPC.out]; simp)
            clear hX
            go_wp2_with fail
            go_ret
            exact ⟨by rw [HT.out]; first | rfl | simp [*], HV.out.trans (HA.out.mono (by omega))⟩
          | true =>
            have HPC := Lib.hid (show partV 2 e.c = true by rw [HQ.out, hX])
            clear hX
            have HT := Lib.hid (show elemV e = true by unfold elemV; rw [HD.out, HVR.out, HPL.out, HPC.out]; rfl)
            go_wp2_with fail
            go_ret
            exact ⟨by rw [HT.out]; first | rfl | simp [*], HV.out.trans (HA.out.mono (by omega))⟩
      | false =>
        have HQ := Lib.hid (show partV 1 e.l = exV 1 e.l by unfold partV exNone; rw [hN]; rfl)
        clear hN
        go_wp2_with fail
        refine (exprValid_any e.l _ 1 B _ (HLA.out _ HA.out) (by omega) s2 HS3.out (HVA.out _ HA.out)).mono ?_
        rintro en w2 ⟨rfl, hb⟩
        have HA := Lib.hid (HA.out.trans (hb.mono (by omega)))
        clear hb hz c2 c3 c4 c5 c6 c7 c8
        obtain ⟨hz, c2, c3, c4, c5, c6, c7, c8⟩ := HK.out _ HA.out
        cases hX : exV 1 e.l with
        | false =>
          have HPL := Lib.hid (show partV 1 e.l = false by rw [HQ.out, hX])
          have HT := Lib.hid (show elemV e = false by unfold elemV; rw [HPL.out]; simp)
          clear hX
          go_wp2_with fail
          go_ret
          exact ⟨by rw [HT.out]; first | rfl | simp [*], HV.out.trans (HA.out.mono (by omega))⟩
        | true =>
          have HPL := Lib.hid (show partV 1 e.l = true by rw [HQ.out, hX])
          clear hX
          go_wp2_with fail
          refine (noExpr_any e.c.op e.c.a _ e.c.ks.list.length _ _).mono ?_
          rintro en w3 ⟨rfl, hb⟩
          have HA := Lib.hid (HA.out.trans (hb.mono (by omega)))
          clear hb hz c2 c3 c4 c5 c6 c7 c8
          obtain ⟨hz, c2, c3, c4, c5, c6, c7, c8⟩ := HK.out _ HA.out
          cases hN : noneB e.c.op e.c.a e.c.ks.list.length with
          | true =>
            have HPC := Lib.hid (show partV 2 e.c = true by unfold partV exNone; rw [hN]; rfl)
            clear hN
            have HT := Lib.hid (show elemV e = true by unfold elemV; rw [HD.out, HVR.out, HPL.out, HPC.out]; rfl)
            go_wp2_with fail
            go_ret
            exact ⟨by rw [HT.out]; first | rfl | simp [*], HV.out.trans (HA.out.mono (by omega))⟩
          | false =>
            have HQ := Lib.hid (show partV 2 e.c = exV 2 e.c by unfold partV exNone; rw [hN]; rfl)
            clear hN
            go_wp2_with fail
            refine (exprValid_any e.c _ 2 B _ (HCA.out _ HA.out) (by omega) s4 HS5.out (HVA.out _ HA.out)).mono ?_
            rintro en w4 ⟨rfl, hb⟩
            have HA := Lib.hid (HA.out.trans (hb.mono (by omega)))
            clear hb hz c2 c3 c4 c5 c6 c7 c8
            obtain ⟨hz, c2, c3, c4, c5, c6, c7, c8⟩ := HK.out _ HA.out
            cases hX : exV 2 e.c with
            | false =>
              have HPC := Lib.hid (show partV 2 e.c = false by rw [HQ.out, hX])
              have HT := Lib.hid (show elemV e = false by unfold elemV; rw [HPC.out]; simp)
              clear hX
              go_wp2_with fail
              go_ret
              exact ⟨by rw [HT.out]; first | rfl | simp [*], HV.out.trans (HA.out.mono (by omega))⟩
            | true =>
              have HPC := Lib.hid (show partV 2 e.c = true by rw [HQ.out, hX])
              clear hX
              have HT := Lib.hid (show elemV e = true by unfold elemV; rw [HD.out, HVR.out, HPL.out, HPC.out]; rfl)
              go_wp2_with fail
              go_ret
              exact ⟨by rw [HT.out]; first | rfl | simp [*], HV.out.trans (HA.out.mono (by omega))⟩
    · have HVQ := Lib.hid (show varV e.v = lv e.v by unfold varV; rw [decide_eq_false v0]; rfl)
      have h1 := str_nonempty (s := e.v) (by omega)
      have h2 := str_nonempty'' (s := e.v) (by omega)
      clear v0
      go_enter Tryd.func13, Tryd.ntmps13
      go_wp2_with fail
      rw [← EW.out]
      refine (labelValid_any _ _ hm1).mono ?_
      rintro en wx ⟨rfl, rfl⟩
      obtain ⟨hz, c2, c3, c4, c5, c6, c7, c8⟩ := HK.out _ HA.out
      cases hv : lv e.v with
      | false =>
        have HT := Lib.hid (show elemV e = false by unfold elemV; rw [HVQ.out, hv]; simp)
        clear hv
        go_wp2_with fail
        go_ret
        exact ⟨by rw [HT.out]; first | rfl | simp [*], HV.out.trans (HA.out.mono (by omega))⟩
      | true =>
        have HVR := Lib.hid (show varV e.v = true by rw [HVQ.out, hv])
        clear hv
        go_wp2_with fail
        refine (noExpr_any e.l.op e.l.a _ e.l.ks.list.length _ _).mono ?_
        rintro en w1 ⟨rfl, hb⟩
        have HA := Lib.hid (HA.out.trans (hb.mono (by omega)))
        clear hb hz c2 c3 c4 c5 c6 c7 c8
        obtain ⟨hz, c2, c3, c4, c5, c6, c7, c8⟩ := HK.out _ HA.out
        cases hN : noneB e.l.op e.l.a e.l.ks.list.length with
        | true =>
          have HPL := Lib.hid (show partV 1 e.l = true by unfold partV exNone; rw [hN]; rfl)
          clear hN
          go_wp2_with fail
          refine (noExpr_any e.c.op e.c.a _ e.c.ks.list.length _ _).mono ?_
          rintro en w3 ⟨rfl, hb⟩
          have HA := Lib.hid (HA.out.trans (hb.mono (by omega)))
          clear hb hz c2 c3 c4 c5 c6 c7 c8
          obtain ⟨hz, c2, c3, c4, c5, c6, c7, c8⟩ := HK.out _ HA.out
          cases hN : noneB e.c.op e.c.a e.c.ks.list.length with
          | true =>
            have HPC := Lib.hid (show partV 2 e.c = true by unfold partV exNone; rw [hN]; rfl)
            clear hN
            have HT := Lib.hid (show elemV e = true by unfold elemV; rw [HD.out, HVR.out, HPL.out, HPC.out]; rfl)
            go_wp2_with fail
            go_ret
            exact ⟨by rw [HT.out]; first | rfl | simp [*], HV.out.trans (HA.out.mono (by omega))⟩
          | false =>
            have HQ := Lib.hid (show partV 2 e.c = exV 2 e.c by unfold partV exNone; rw [hN]; rfl)
            clear hN
            go_wp2_with fail
            refine (exprValid_any e.c _ 2 B _ (HCA.out _ HA.out) (by omega) s4 HS5.out (HVA.out _ HA.out)).mono ?_
            rintro en w4 ⟨rfl, hb⟩
            have HA := Lib.hid (HA.out.trans (hb.mono (by omega)))
            clear hb hz c2 c3 c4 c5 c6 c7 c8
            obtain ⟨hz, c2, c3, c4, c5, c6, c7, c8⟩ := HK.out _ HA.out
            cases hX : exV 2 e.c with
            | false =>
              have HPC := Lib.hid (show partV 2 e.c = false by rw [HQ.out, hX])
              have HT := Lib.hid (show elemV e = false by unfold elemV; rw [HPC.out]; simp)
              clear hX
              go_wp2_with fail
              go_ret
              exact ⟨by rw [HT.out]; first | rfl | simp [*], HV.out.trans (HA.out.mono (by omega))⟩
            | true =>
              have HPC := Lib.hid (show partV 2 e.c = true by rw [HQ.out, hX])
              clear hX
              have HT := Lib.hid (show elemV e = true by unfold elemV; rw [HD.out, HVR.out, HPL.out, HPC.out]; rfl)
              go_wp2_with fail
              go_ret
              exact ⟨by rw [HT.out]; first | rfl | simp [*], HV.out.trans (HA.out.mono (by omega))⟩
        | false =>
          have HQ := Lib.hid (show partV 1 e.l = exV 1 e.l by unfold partV exNone; rw [hN]; rfl)
          clear hN
          go_wp2_with fail
          refine (exprValid_any e.l _ 1 B _ (HLA.out _ HA.out) (by omega) s2 HS3.out (HVA.out _ HA.out)).mono ?_
          rintro en w2 ⟨rfl, hb⟩
          have HA := Lib.hid (HA.out.trans (hb.mono (by omega)))
          clear hb hz c2 c3 c4 c5 c6 c7 c8
          obtain ⟨hz, c2, c3, c4, c5, c6, c7, c8⟩ := HK.out _ HA.out
          cases hX : exV 1 e.l with
          | false =>
            have HPL := Lib.hid (show partV 1 e.l = false by rw [HQ.out, hX])
            have HT := Lib.hid (show elemV e = false by unfold elemV; rw [HPL.out]; simp)
            clear hX
            go_wp2_with fail
            go_ret
            exact ⟨by rw [HT.out]; first | rfl | simp [*], HV.out.trans (HA.out.mono (by omega))⟩
          | true =>
            have HPL := Lib.hid (show partV 1 e.l = true by rw [HQ.out, hX])
            clear hX
            go_wp2_with fail
            refine (noExpr_any e.c.op e.c.a _ e.c.ks.list.length _ _).mono ?_
            rintro en w3 ⟨rfl, hb⟩
            have HA := Lib.hid (HA.out.trans (hb.mono (by omega)))
            clear hb hz c2 c3 c4 c5 c6 c7 c8
            obtain ⟨hz, c2, c3, c4, c5, c6, c7, c8⟩ := HK.out _ HA.out
            cases hN : noneB e.c.op e.c.a e.c.ks.list.length with
            | true =>
              have HPC := Lib.hid (show partV 2 e.c = true by unfold partV exNone; rw [hN]; rfl)
              clear hN
              have HT := Lib.hid (show elemV e = true by unfold elemV; rw [HD.out, HVR.out, HPL.out, HPC.out]; rfl)
              go_wp2_with fail
              go_ret
              exact ⟨by rw [HT.out]; first | rfl | simp [*], HV.out.trans (HA.out.mono (by omega))⟩
            | false =>
              have HQ := Lib.hid (show partV 2 e.c = exV 2 e.c by unfold partV exNone; rw [hN]; rfl)
              clear hN
              go_wp2_with fail
              refine (exprValid_any e.c _ 2 B _ (HCA.out _ HA.out) (by omega) s4 HS5.out (HVA.out _ HA.out)).mono ?_
              rintro en w4 ⟨rfl, hb⟩
              have HA := Lib.hid (HA.out.trans (hb.mono (by omega)))
              clear hb hz c2 c3 c4 c5 c6 c7 c8
              obtain ⟨hz, c2, c3, c4, c5, c6, c7, c8⟩ := HK.out _ HA.out
              cases hX : exV 2 e.c with
              | false =>
                have HPC := Lib.hid (show partV 2 e.c = false by rw [HQ.out, hX])
                have HT := Lib.hid (show elemV e = false by unfold elemV; rw [HPC.out]; simp)
                clear hX
                go_wp2_with fail
                go_ret
                exact ⟨by rw [HT.out]; first | rfl | simp [*], HV.out.trans (HA.out.mono (by omega))⟩
              | true =>
                have HPC := Lib.hid (show partV 2 e.c = true by rw [HQ.out, hX])
                clear hX
                have HT := Lib.hid (show elemV e = true by unfold elemV; rw [HD.out, HVR.out, HPL.out, HPC.out]; rfl)
                go_wp2_with fail
                go_ret
                exact ⟨by rw [HT.out]; first | rfl | simp [*], HV.out.trans (HA.out.mono (by omega))⟩

set_option maxRecDepth 100000 in
set_option maxHeartbeats 8000000 in
theorem specElemValid_any (e : El) (u : Value) (B : Nat) (w : World) (hu : e.At B w u) (hB : B ≤ w.heap.size) (hs : e.Sm) :
    Calls Tryd.prog 30 #[u] w fun en w' => en = .returned (.bool (elemV e)) ∧ Below w.heap.size w w' := by
  obtain ⟨p, cap, p', cap', rfl, hl, hc⟩ := hu.form
  obtain ⟨s1, s2, s3, s4, s5⟩ := hs
  have HS3 := Lib.hid s3
  have HS5 := Lib.hid s5
  have HL := Lib.hid hl
  have HC := Lib.hid hc
  skip
  clear hu hl hc s3 s5
  have hm1 : e.v.size ≤ maxLen := by unfold maxLen; omega
  obtain ⟨W0, eW⟩ : ∃ W0, W0 = w.alloc (.cells #[.bool e.n, .string e.v, .int .i64 e.l.op, .string e.l.a, .slice p e.l.ks.list.length cap, .int .i64 e.c.op, .string e.c.a, .slice p' e.c.ks.list.length cap', .int .i64 e.d] 27) := ⟨_, rfl⟩
  have HV := Lib.hid (show Below w.heap.size w W0 by rw [eW]; exact (Below.refl w.heap.size w).alloc (by simp) _)
  have hs0 : w.heap.size + 1 ≤ W0.heap.size := by rw [eW]; simp
  have HK := Lib.hid (show ∀ wk, Below (w.heap.size + 1) W0 wk → w.heap.size + 1 ≤ wk.heap.size ∧ wk.cell? ⟨w.heap.size, 2, none⟩ = some (.int .i64 e.l.op) ∧ wk.cell? ⟨w.heap.size, 3, none⟩ = some (.string e.l.a) ∧ wk.cell? ⟨w.heap.size, 4, none⟩ = some (.slice p e.l.ks.list.length cap) ∧ wk.cell? ⟨w.heap.size, 5, none⟩ = some (.int .i64 e.c.op) ∧ wk.cell? ⟨w.heap.size, 6, none⟩ = some (.string e.c.a) ∧ wk.cell? ⟨w.heap.size, 7, none⟩ = some (.slice p' e.c.ks.list.length cap') ∧ wk.cell? ⟨w.heap.size, 8, none⟩ = some (.int .i64 e.d) from
    fun wk hk => by rw [eW] at hk; exact ⟨by have := hk.size; simp at this; omega, keepc hk (by omega) (by simp [go_sem]), keepc hk (by omega) (by simp [go_sem]), keepc hk (by omega) (by simp [go_sem]), keepc hk (by omega) (by simp [go_sem]), keepc hk (by omega) (by simp [go_sem]), keepc hk (by omega) (by simp [go_sem]), keepc hk (by omega) (by simp [go_sem])⟩)
  have HA := Lib.hid (Below.refl (w.heap.size + 1) W0)
  have HLA := Lib.hid (show ∀ wk, Below (w.heap.size + 1) W0 wk → e.l.At B wk (.agg #[.int .i64 e.l.op, .string e.l.a, .slice p e.l.ks.list.length cap]) from fun wk hk => ⟨_, rfl, HL.out.below ((HV.out.trans (hk.mono (by omega))).mono hB) (Nat.le_refl _)⟩)
  have HCA := Lib.hid (show ∀ wk, Below (w.heap.size + 1) W0 wk → e.c.At B wk (.agg #[.int .i64 e.c.op, .string e.c.a, .slice p' e.c.ks.list.length cap']) from fun wk hk => ⟨_, rfl, HC.out.below ((HV.out.trans (hk.mono (by omega))).mono hB) (Nat.le_refl _)⟩)
  skip
  have EW := Lib.hid eW
  clear eW
  clear HL HC
  have HK0 := Lib.hid (show ∀ wk, Below (w.heap.size + 1) W0 wk → wk.cell? ⟨w.heap.size, 0, none⟩ = some (.bool e.n) from fun wk hk => by rw [EW.out] at hk; exact keepc hk (by omega) (by simp [go_sem]))
  by_cases v0 : e.v.size = 0
  · have HVR := Lib.hid (show varV e.v = true by unfold varV; rw [decide_eq_true v0]; rfl)
    have h1 := str_empty v0
    have h2 := str_empty' v0
    clear v0
    go_enter Tryd.func30, Tryd.ntmps30
    go_wp2_with fail
    rw [← EW.out]
    obtain ⟨hz, c2, c3, c4, c5, c6, c7, c8⟩ := HK.out _ HA.out
    refine (l3Expr_any e.l _ 1 B _ (HLA.out _ HA.out) (by omega) s2 HS3.out).mono ?_
    rintro en w1 ⟨rfl, hb⟩
    have HA := Lib.hid (HA.out.trans (hb.mono (by omega)))
    clear hb hz c2 c3 c4 c5 c6 c7 c8
    obtain ⟨hz, c2, c3, c4, c5, c6, c7, c8⟩ := HK.out _ HA.out
    cases hX : partV 1 e.l with
    | false =>
      have HT := Lib.hid (show elemV e = false by unfold elemV; rw [hX]; simp)
      clear hX
      go_wp2_with fail
      go_ret
      exact ⟨by rw [HT.out]; first | rfl | simp [*], HV.out.trans (HA.out.mono (by omega))⟩
    | true =>
      have HPL := Lib.hid hX
      clear hX
      go_wp2_with fail
      refine (l3Expr_any e.c _ 2 B _ (HCA.out _ HA.out) (by omega) s4 HS5.out).mono ?_
      rintro en w2 ⟨rfl, hb⟩
      have HA := Lib.hid (HA.out.trans (hb.mono (by omega)))
      clear hb hz c2 c3 c4 c5 c6 c7 c8
      obtain ⟨hz, c2, c3, c4, c5, c6, c7, c8⟩ := HK.out _ HA.out
      cases hX : partV 2 e.c with
      | false =>
        have HT := Lib.hid (show elemV e = false by unfold elemV; rw [hX]; simp)
        clear hX
        go_wp2_with fail
        go_ret
        exact ⟨by rw [HT.out]; first | rfl | simp [*], HV.out.trans (HA.out.mono (by omega))⟩
      | true =>
        have HPC := Lib.hid hX
        clear hX
        have cn := HK0.out _ HA.out
        have HE := Lib.hid (show elemV e = dirV e.n e.d by unfold elemV; rw [HVR.out, HPL.out, HPC.out]; simp)
        by_cases d0 : e.d = 0
        · have b0 : (e.d == 0) = true := beq_iff_eq.2 d0
          have l1 : ¬ (1 ≤ e.d) := by omega
          cases hn : e.n with
          | true =>
            have HT := Lib.hid (show elemV e = true by rw [HE.out, hn]; unfold dirV; rw [decide_eq_true d0, decide_eq_true (p := 0 ≤ e.d) (by omega), decide_eq_true (p := e.d ≤ 3) (by omega)]; rfl)
            rw [hn] at cn
            clear hn d0
            go_wp2_with fail
            go_ret
            exact ⟨by rw [HT.out]; first | rfl | simp [*], HV.out.trans (HA.out.mono (by omega))⟩
          | false =>
            have HT := Lib.hid (show elemV e = false by rw [HE.out, hn]; unfold dirV; rw [decide_eq_true d0]; rfl)
            rw [hn] at cn
            clear hn d0
            go_wp2_with fail
            go_ret
            exact ⟨by rw [HT.out]; first | rfl | simp [*], HV.out.trans (HA.out.mono (by omega))⟩
        have b0 : (e.d == 0) = false := beq_eq_false_iff_ne.2 d0
        cases hn : e.n with
        | true =>
          have HT := Lib.hid (show elemV e = false by rw [HE.out, hn]; unfold dirV; rw [decide_eq_false d0]; rfl)
          rw [hn] at cn
          clear hn d0
          go_wp2_with fail
          go_ret
          exact ⟨by rw [HT.out]; first | rfl | simp [*], HV.out.trans (HA.out.mono (by omega))⟩
        | false =>
          by_cases l1 : 1 ≤ e.d
          · by_cases l3 : e.d ≤ 3
            · have HT := Lib.hid (show elemV e = true by rw [HE.out, hn]; unfold dirV; rw [decide_eq_false d0, decide_eq_true (p := 0 ≤ e.d) (by omega), decide_eq_true (p := e.d ≤ 3) (by omega)]; rfl)
              rw [hn] at cn
              clear hn d0
              go_wp2_with fail
              go_ret
              exact ⟨by rw [HT.out]; first | rfl | simp [*], HV.out.trans (HA.out.mono (by omega))⟩
            · have HT := Lib.hid (show elemV e = false by rw [HE.out]; unfold dirV; rw [decide_eq_false l3]; simp)
              rw [hn] at cn
              clear hn d0
              go_wp2_with fail
              go_ret
              exact ⟨by rw [HT.out]; first | rfl | simp [*], HV.out.trans (HA.out.mono (by omega))⟩
          · have HT := Lib.hid (show elemV e = false by rw [HE.out]; unfold dirV; rw [decide_eq_false (p := 0 ≤ e.d) (by omega)]; simp)
            rw [hn] at cn
            clear hn d0
            go_wp2_with fail
            go_ret
            exact ⟨by rw [HT.out]; first | rfl | simp [*], HV.out.trans (HA.out.mono (by omega))⟩
  · have HVQ := Lib.hid (show varV e.v = lv e.v by unfold varV; rw [decide_eq_false v0]; rfl)
    have h1 := str_nonempty (s := e.v) (by omega)
    have h2 := str_nonempty'' (s := e.v) (by omega)
    clear v0
    go_enter Tryd.func30, Tryd.ntmps30
    go_wp2_with fail
    rw [← EW.out]
    refine (specLabelValid_any _ _ hm1).mono ?_
    rintro en wx ⟨rfl, rfl⟩
    obtain ⟨hz, c2, c3, c4, c5, c6, c7, c8⟩ := HK.out _ HA.out
    cases hv : lv e.v with
    | false =>
      have HT := Lib.hid (show elemV e = false by unfold elemV; rw [HVQ.out, hv]; simp)
      clear hv
      go_wp2_with fail
      go_ret
      exact ⟨by rw [HT.out]; first | rfl | simp [*], HV.out.trans (HA.out.mono (by omega))⟩
    | true =>
      have HVR := Lib.hid (show varV e.v = true by rw [HVQ.out, hv])
      clear hv
      go_wp2_with fail
      refine (l3Expr_any e.l _ 1 B _ (HLA.out _ HA.out) (by omega) s2 HS3.out).mono ?_
      rintro en w1 ⟨rfl, hb⟩
      have HA := Lib.hid (HA.out.trans (hb.mono (by omega)))
      clear hb hz c2 c3 c4 c5 c6 c7 c8
      obtain ⟨hz, c2, c3, c4, c5, c6, c7, c8⟩ := HK.out _ HA.out
      cases hX : partV 1 e.l with
      | false =>
        have HT := Lib.hid (show elemV e = false by unfold elemV; rw [hX]; simp)
        clear hX
        go_wp2_with fail
        go_ret
        exact ⟨by rw [HT.out]; first | rfl | simp [*], HV.out.trans (HA.out.mono (by omega))⟩
      | true =>
        have HPL := Lib.hid hX
        clear hX
        go_wp2_with fail
        refine (l3Expr_any e.c _ 2 B _ (HCA.out _ HA.out) (by omega) s4 HS5.out).mono ?_
        rintro en w2 ⟨rfl, hb⟩
        have HA := Lib.hid (HA.out.trans (hb.mono (by omega)))
        clear hb hz c2 c3 c4 c5 c6 c7 c8
        obtain ⟨hz, c2, c3, c4, c5, c6, c7, c8⟩ := HK.out _ HA.out
        cases hX : partV 2 e.c with
        | false =>
          have HT := Lib.hid (show elemV e = false by unfold elemV; rw [hX]; simp)
          clear hX
          go_wp2_with fail
          go_ret
          exact ⟨by rw [HT.out]; first | rfl | simp [*], HV.out.trans (HA.out.mono (by omega))⟩
        | true =>
          have HPC := Lib.hid hX
          clear hX
          have cn := HK0.out _ HA.out
          have HE := Lib.hid (show elemV e = dirV e.n e.d by unfold elemV; rw [HVR.out, HPL.out, HPC.out]; simp)
          by_cases d0 : e.d = 0
          · have b0 : (e.d == 0) = true := beq_iff_eq.2 d0
            have l1 : ¬ (1 ≤ e.d) := by omega
            cases hn : e.n with
            | true =>
              have HT := Lib.hid (show elemV e = true by rw [HE.out, hn]; unfold dirV; rw [decide_eq_true d0, decide_eq_true (p := 0 ≤ e.d) (by omega), decide_eq_true (p := e.d ≤ 3) (by omega)]; rfl)
              rw [hn] at cn
              clear hn d0
              go_wp2_with fail
              go_ret
              exact ⟨by rw [HT.out]; first | rfl | simp [*], HV.out.trans (HA.out.mono (by omega))⟩
            | false =>
              have HT := Lib.hid (show elemV e = false by rw [HE.out, hn]; unfold dirV; rw [decide_eq_true d0]; rfl)
              rw [hn] at cn
              clear hn d0
              go_wp2_with fail
              go_ret
              exact ⟨by rw [HT.out]; first | rfl | simp [*], HV.out.trans (HA.out.mono (by omega))⟩
          have b0 : (e.d == 0) = false := beq_eq_false_iff_ne.2 d0
          cases hn : e.n with
          | true =>
            have HT := Lib.hid (show elemV e = false by rw [HE.out, hn]; unfold dirV; rw [decide_eq_false d0]; rfl)
            rw [hn] at cn
            clear hn d0
            go_wp2_with fail
            go_ret
            exact ⟨by rw [HT.out]; first | rfl | simp [*], HV.out.trans (HA.out.mono (by omega))⟩
          | false =>
            by_cases l1 : 1 ≤ e.d
            · by_cases l3 : e.d ≤ 3
              · have HT := Lib.hid (show elemV e = true by rw [HE.out, hn]; unfold dirV; rw [decide_eq_false d0, decide_eq_true (p := 0 ≤ e.d) (by omega), decide_eq_true (p := e.d ≤ 3) (by omega)]; rfl)
                rw [hn] at cn
                clear hn d0
                go_wp2_with fail
                go_ret
                exact ⟨by rw [HT.out]; first | rfl | simp [*], HV.out.trans (HA.out.mono (by omega))⟩
              · have HT := Lib.hid (show elemV e = false by rw [HE.out]; unfold dirV; rw [decide_eq_false l3]; simp)
                rw [hn] at cn
                clear hn d0
                go_wp2_with fail
                go_ret
                exact ⟨by rw [HT.out]; first | rfl | simp [*], HV.out.trans (HA.out.mono (by omega))⟩
            · have HT := Lib.hid (show elemV e = false by rw [HE.out]; unfold dirV; rw [decide_eq_false (p := 0 ≤ e.d) (by omega)]; simp)
              rw [hn] at cn
              clear hn d0
              go_wp2_with fail
              go_ret
              exact ⟨by rw [HT.out]; first | rfl | simp [*], HV.out.trans (HA.out.mono (by omega))⟩
end Go.Proofs.YtbbemeaojmfndaaDoor
