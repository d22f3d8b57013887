/- Lemmas on the data and the memory of this program's values: several texts in one. -/
import Derived.Test.YtbbemeaojmfndaaDoorM4q0p1
import Derived.Test.YtbbemeaojmfndaaDoorTurnS
import Derived.Test.YtbbemeaojmfndaaDoorElV
import Derived.Test.YtbbemeaojmfndaaDoorHolds
import Derived.Test.YtbbemeaojmfndaaDoorSHolds
import Derived.IntWalk
namespace Go.Proofs.YtbbemeaojmfndaaDoor
open Go.RowKit

/-- The variables of two elements go together. -/
def varsT (a b : ByteArray) : Bool := a.toList.isEmpty || (b.toList.isEmpty || (a.toList == b.toList))
noncomputable def mgE (a b : El) : El := ⟨true, if a.v.toList.isEmpty then b.v else a.v, mgX a.l b.l, mgX a.c b.c, 0⟩
noncomputable def mergeB (a b : El) : Bool := ((a.n && elemV a) && ((b.n && elemV b) && varsT a.v b.v)) && elemV (mgE a b)
noncomputable def mergeR (a b : El) : El := if mergeB a b then mgE a b else noEl
theorem mergeR_no {a b : El} (h : mergeB a b = false) : mergeR a b = noEl := by unfold mergeR; rw [h]; rfl
theorem mergeR_yes {a b : El} (h : mergeB a b = true) : mergeR a b = mgE a b := by unfold mergeR; rw [h]; rfl
theorem mergeB_parts {a b : El} (h : mergeB a b = true) : (a.n = true ∧ elemV a = true) ∧ (b.n = true ∧ elemV b = true) ∧ varsT a.v b.v = true ∧ elemV (mgE a b) = true := by
  unfold mergeB at h
  simp only [Bool.and_eq_true] at h
  exact ⟨h.1.1, h.1.2.1, h.1.2.2, h.2⟩
theorem mergeR_size (a b : El) : (mergeR a b).l.ks.size + (mergeR a b).c.ks.size ≤ 2097152 := by
  cases h : mergeB a b with
  | false => rw [mergeR_no h]; exact Nat.zero_le _
  | true =>
    obtain ⟨_, _, _, h4⟩ := mergeB_parts h
    rw [mergeR_yes h]
    have := elemV_ks h4
    omega
theorem mergeR_small (a b : El) : (mergeR a b).l.ks.size ≤ 1048576 ∧ (mergeR a b).c.ks.size ≤ 1048576 := by
  cases h : mergeB a b with
  | false => rw [mergeR_no h]; exact ⟨Nat.zero_le _, Nat.zero_le _⟩
  | true =>
    obtain ⟨_, _, _, h4⟩ := mergeB_parts h
    rw [mergeR_yes h]
    have := elemV_ks h4
    exact ⟨by omega, by omega⟩
end Go.Proofs.YtbbemeaojmfndaaDoor
namespace Go.Proofs.YtbbemeaojmfndaaDoor
open Go.RowKit

def labF (e : Ex) (s : ByteArray) : Bool := exNone e || lholds e s
def numF (e : Ex) (m : Int) : Bool := exNone e || nholds e m
def elemF (e : El) (s : ByteArray) (m : Int) : Bool := labF e.l s && numF e.c m
theorem exV_op {kind : Int} {e : Ex} (h : exV kind e = true) : e.op ≠ 0 := by
  have h1 := exV_ok h
  obtain ⟨_, h2, _⟩ := Ex.okB_parts h1
  rcases topB_cases h2 with ⟨h, _⟩ | ⟨h, _⟩ | ⟨h, _⟩ | ⟨h, _⟩ | ⟨h, _⟩ <;> omega
theorem partV_none {kind : Int} {e : Ex} (h : partV kind e = true) (h0 : e.op = 0) : exNone e = true := by
  unfold partV at h
  cases hn : exNone e with
  | true => rfl
  | false =>
    rw [hn] at h
    exact absurd h0 (exV_op (kind := kind) (by simpa using h))
theorem partV_some {kind : Int} {e : Ex} (h : partV kind e = true) (h0 : e.op ≠ 0) : exNone e = false ∧ exV kind e = true := by
  have hn : exNone e = false := by unfold exNone noneB; rw [decide_eq_false h0]; rfl
  unfold partV at h
  rw [hn] at h
  exact ⟨hn, by simpa using h⟩

set_option maxRecDepth 100000 in
set_option maxHeartbeats 8000000 in
theorem propsFit_any (e : El) (u : Value) (s : ByteArray) (m : Int) (B : Nat) (w : World) (hu : e.At B w u) (hB : B ≤ w.heap.size) (hs : e.Sm) (hss : s.size ≤ 1048576) (hvars : Vars w) :
    Calls Tryd.prog 36 #[.string s, .int .i64 m, u] w fun en w' => en = .returned (.bool (elemF e s m)) ∧ Below w.heap.size w w' := by
  obtain ⟨p, cap, p', cap', rfl, hl, hc⟩ := hu.form
  obtain ⟨s1, s2, s3, s4, s5⟩ := hs
  have HS3 := Lib.hid s3
  have HS5 := Lib.hid s5
  have HL := Lib.hid hl
  have HC := Lib.hid hc
  have HVV := Lib.hid hvars
  clear hu hl hc s3 s5 hvars
  obtain ⟨W0, eW⟩ : ∃ W0, W0 = w.alloc (.cells #[.bool e.n, .string e.v, .int .i64 e.l.op, .string e.l.a, .slice p e.l.ks.list.length cap, .int .i64 e.c.op, .string e.c.a, .slice p' e.c.ks.list.length cap', .int .i64 e.d] 27) := ⟨_, rfl⟩
  have HV := Lib.hid (show Below w.heap.size w W0 by rw [eW]; exact (Below.refl w.heap.size w).alloc (by simp) _)
  have hs0 : w.heap.size + 1 ≤ W0.heap.size := by rw [eW]; simp
  have HK := Lib.hid (show ∀ wk, Below (w.heap.size + 1) W0 wk → w.heap.size + 1 ≤ wk.heap.size ∧ wk.cell? ⟨w.heap.size, 2, none⟩ = some (.int .i64 e.l.op) ∧ wk.cell? ⟨w.heap.size, 3, none⟩ = some (.string e.l.a) ∧ wk.cell? ⟨w.heap.size, 4, none⟩ = some (.slice p e.l.ks.list.length cap) ∧ wk.cell? ⟨w.heap.size, 5, none⟩ = some (.int .i64 e.c.op) ∧ wk.cell? ⟨w.heap.size, 6, none⟩ = some (.string e.c.a) ∧ wk.cell? ⟨w.heap.size, 7, none⟩ = some (.slice p' e.c.ks.list.length cap') ∧ wk.cell? ⟨w.heap.size, 8, none⟩ = some (.int .i64 e.d) from
    fun wk hk => by rw [eW] at hk; exact ⟨by have := hk.size; simp at this; omega, keepc hk (by omega) (by simp [go_sem]), keepc hk (by omega) (by simp [go_sem]), keepc hk (by omega) (by simp [go_sem]), keepc hk (by omega) (by simp [go_sem]), keepc hk (by omega) (by simp [go_sem]), keepc hk (by omega) (by simp [go_sem]), keepc hk (by omega) (by simp [go_sem])⟩)
  have HA := Lib.hid (Below.refl (w.heap.size + 1) W0)
  have HLA := Lib.hid (show ∀ wk, Below (w.heap.size + 1) W0 wk → e.l.At B wk (.agg #[.int .i64 e.l.op, .string e.l.a, .slice p e.l.ks.list.length cap]) from fun wk hk => ⟨_, rfl, HL.out.below ((HV.out.trans (hk.mono (by omega))).mono hB) (Nat.le_refl _)⟩)
  have HCA := Lib.hid (show ∀ wk, Below (w.heap.size + 1) W0 wk → e.c.At B wk (.agg #[.int .i64 e.c.op, .string e.c.a, .slice p' e.c.ks.list.length cap']) from fun wk hk => ⟨_, rfl, HC.out.below ((HV.out.trans (hk.mono (by omega))).mono hB) (Nat.le_refl _)⟩)
  have HVA := Lib.hid (show ∀ wk, Below (w.heap.size + 1) W0 wk → Vars wk from fun wk hk => HVV.out.below (HV.out.trans (hk.mono (by omega))))
  have EW := Lib.hid eW
  clear eW
  clear HVV
  go_enter Tryd.func36, Tryd.ntmps36
  go_wp2_with fail
  rw [← EW.out]
  obtain ⟨hz, c2, c3, c4, c5, c6, c7, c8⟩ := HK.out _ HA.out
  refine (noExpr_any e.l.op e.l.a _ e.l.ks.list.length _ _).mono ?_
  rintro en w1 ⟨rfl, hb⟩
  have HA := Lib.hid (HA.out.trans (hb.mono (by omega)))
  clear hb hz c2 c3 c4 c5 c6 c7 c8
  obtain ⟨hz, c2, c3, c4, c5, c6, c7, c8⟩ := HK.out _ HA.out
  cases hN : noneB e.l.op e.l.a e.l.ks.list.length with
  | true =>
    have HPL := Lib.hid (show labF e.l s = true by unfold labF exNone; rw [hN]; rfl)
    clear hN
    go_wp2_with fail
    refine (noExpr_any e.c.op e.c.a _ e.c.ks.list.length _ _).mono ?_
    rintro en w3 ⟨rfl, hb⟩
    have HA := Lib.hid (HA.out.trans (hb.mono (by omega)))
    clear hb hz c2 c3 c4 c5 c6 c7 c8
    obtain ⟨hz, c2, c3, c4, c5, c6, c7, c8⟩ := HK.out _ HA.out
    cases hN : noneB e.c.op e.c.a e.c.ks.list.length with
    | true =>
      have HPC := Lib.hid (show numF e.c m = true by unfold numF exNone; rw [hN]; rfl)
      clear hN
      have HT := Lib.hid (show elemF e s m = true by unfold elemF; rw [HPL.out, HPC.out]; rfl)
      go_wp2_with fail
      go_ret
      exact ⟨by rw [HT.out]; first | rfl | simp [*], HV.out.trans (HA.out.mono (by omega))⟩
    | false =>
      have HQ := Lib.hid (show numF e.c m = nholds e.c m by unfold numF exNone; rw [hN]; rfl)
      clear hN
      go_wp2_with fail
      refine (numHolds_any e.c _ m B _ (HCA.out _ HA.out) (by omega) s4 HS5.out (HVA.out _ HA.out)).mono ?_
      rintro en w4 ⟨rfl, hb⟩
      have HA := Lib.hid (HA.out.trans (hb.mono (by omega)))
      clear hb hz c2 c3 c4 c5 c6 c7 c8
      obtain ⟨hz, c2, c3, c4, c5, c6, c7, c8⟩ := HK.out _ HA.out
      cases hX : nholds e.c m with
      | false =>
        have HPC := Lib.hid (show numF e.c m = false by rw [HQ.out, hX])
        have HT := Lib.hid (show elemF e s m = false by unfold elemF; rw [HPC.out]; simp)
        clear hX
        go_wp2_with fail
        go_ret
        exact ⟨by rw [HT.out]; first | rfl | simp [*], HV.out.trans (HA.out.mono (by omega))⟩
      | true =>
        have HPC := Lib.hid (show numF e.c m = true by rw [HQ.out, hX])
        clear hX
        have HT := Lib.hid (show elemF e s m = true by unfold elemF; rw [HPL.out, HPC.out]; rfl)
        go_wp2_with fail
        go_ret
        exact ⟨by rw [HT.out]; first | rfl | simp [*], HV.out.trans (HA.out.mono (by omega))⟩
  | false =>
    have HQ := Lib.hid (show labF e.l s = lholds e.l s by unfold labF exNone; rw [hN]; rfl)
    clear hN
    go_wp2_with fail
    refine (labelHolds_any e.l _ s B _ (HLA.out _ HA.out) (by omega) s2 HS3.out hss (HVA.out _ HA.out)).mono ?_
    rintro en w2 ⟨rfl, hb⟩
    have HA := Lib.hid (HA.out.trans (hb.mono (by omega)))
    clear hb hz c2 c3 c4 c5 c6 c7 c8
    obtain ⟨hz, c2, c3, c4, c5, c6, c7, c8⟩ := HK.out _ HA.out
    cases hX : lholds e.l s with
    | false =>
      have HPL := Lib.hid (show labF e.l s = false by rw [HQ.out, hX])
      have HT := Lib.hid (show elemF e s m = false by unfold elemF; rw [HPL.out]; simp)
      clear hX
      go_wp2_with fail
      go_ret
      exact ⟨by rw [HT.out]; first | rfl | simp [*], HV.out.trans (HA.out.mono (by omega))⟩
    | true =>
      have HPL := Lib.hid (show labF e.l s = true by rw [HQ.out, hX])
      clear hX
      go_wp2_with fail
      refine (noExpr_any e.c.op e.c.a _ e.c.ks.list.length _ _).mono ?_
      rintro en w3 ⟨rfl, hb⟩
      have HA := Lib.hid (HA.out.trans (hb.mono (by omega)))
      clear hb hz c2 c3 c4 c5 c6 c7 c8
      obtain ⟨hz, c2, c3, c4, c5, c6, c7, c8⟩ := HK.out _ HA.out
      cases hN : noneB e.c.op e.c.a e.c.ks.list.length with
      | true =>
        have HPC := Lib.hid (show numF e.c m = true by unfold numF exNone; rw [hN]; rfl)
        clear hN
        have HT := Lib.hid (show elemF e s m = true by unfold elemF; rw [HPL.out, HPC.out]; rfl)
        go_wp2_with fail
        go_ret
        exact ⟨by rw [HT.out]; first | rfl | simp [*], HV.out.trans (HA.out.mono (by omega))⟩
      | false =>
        have HQ := Lib.hid (show numF e.c m = nholds e.c m by unfold numF exNone; rw [hN]; rfl)
        clear hN
        go_wp2_with fail
        refine (numHolds_any e.c _ m B _ (HCA.out _ HA.out) (by omega) s4 HS5.out (HVA.out _ HA.out)).mono ?_
        rintro en w4 ⟨rfl, hb⟩
        have HA := Lib.hid (HA.out.trans (hb.mono (by omega)))
        clear hb hz c2 c3 c4 c5 c6 c7 c8
        obtain ⟨hz, c2, c3, c4, c5, c6, c7, c8⟩ := HK.out _ HA.out
        cases hX : nholds e.c m with
        | false =>
          have HPC := Lib.hid (show numF e.c m = false by rw [HQ.out, hX])
          have HT := Lib.hid (show elemF e s m = false by unfold elemF; rw [HPC.out]; simp)
          clear hX
          go_wp2_with fail
          go_ret
          exact ⟨by rw [HT.out]; first | rfl | simp [*], HV.out.trans (HA.out.mono (by omega))⟩
        | true =>
          have HPC := Lib.hid (show numF e.c m = true by rw [HQ.out, hX])
          clear hX
          have HT := Lib.hid (show elemF e s m = true by unfold elemF; rw [HPL.out, HPC.out]; rfl)
          go_wp2_with fail
          go_ret
          exact ⟨by rw [HT.out]; first | rfl | simp [*], HV.out.trans (HA.out.mono (by omega))⟩

end Go.Proofs.YtbbemeaojmfndaaDoor
namespace Go.Proofs.YtbbemeaojmfndaaDoor
open Go.RowKit

theorem str_empty_eq {s : ByteArray} (h : s.toList.isEmpty = true) : s = ⟨#[]⟩ := by
  obtain ⟨⟨l⟩⟩ := s
  by_cases h0 : 0 < (⟨⟨l⟩⟩ : ByteArray).size
  · rw [str_nonempty'' h0] at h; cases h
  · have : l.length = 0 := by have e : (⟨⟨l⟩⟩ : ByteArray).size = l.length := rfl; omega
    rw [List.eq_nil_of_length_eq_zero this]

set_option maxRecDepth 100000 in
set_option maxHeartbeats 2000000 in
theorem nodeElemValid_any (e : El) (u : Value) (B : Nat) (w : World) (hu : e.At B w u) (hB : B ≤ w.heap.size) (hs : e.Sm) (hvars : Vars w) :
    Calls Tryd.prog 27 #[u] w fun en w' => en = .returned (.bool (e.n && elemV e)) ∧ Below w.heap.size w w' := by
  have HVV := Lib.hid hvars
  have HU := Lib.hid hu
  obtain ⟨n, v, l, c, d⟩ := e
  obtain ⟨p, cap, p', cap', rfl, _, _⟩ := hu.form
  clear hvars hu
  cases n with
  | false =>
    go_enter Tryd.func27, Tryd.ntmps27
    go_wp2_with fail
    go_ret
    exact ⟨rfl, (Below.refl _ _).alloc (Nat.le_refl _) _⟩
  | true =>
    go_enter Tryd.func27, Tryd.ntmps27
    go_wp2_with fail
    refine Calls.mono (elemValid_any _ _ B _ (HU.out.below ((Below.refl B w).alloc hB _) (Nat.le_refl _)) (by simp; omega) hs (HVV.out.below ((Below.refl _ _).alloc (Nat.le_refl _) _))) ?_
    rintro en w1 ⟨rfl, hb⟩
    have HB := Lib.hid (below_past hb)
    clear hb
    go_wp2_with fail
    go_ret
    exact ⟨by first | rfl | simp, HB.out⟩
/-- The first text that is not empty. -/
def orS (x y : ByteArray) : ByteArray := if x.toList.isEmpty then y else x
theorem orS_a {x y : ByteArray} (h : x.toList.isEmpty = false) : orS x y = x := by unfold orS; rw [if_neg (by rw [h]; decide)]
theorem orS_b {x y : ByteArray} (h : x.toList.isEmpty = true) : orS x y = y := by unfold orS; rw [if_pos h]
set_option maxRecDepth 100000 in
set_option maxHeartbeats 2000000 in
theorem orStr_any (x y : ByteArray) (b : Nat) (w : World) (h0 : w.cell? ⟨b, 0, none⟩ = some (.string x)) (h1 : w.cell? ⟨b, 1, none⟩ = some (.string y)) :
    Calls Tryd.prog 28 #[.slice (some ⟨b, 0, none⟩) 2 2] w fun en w' => en = .returned (.string (orS x y)) ∧ Below w.heap.size w w' := by
  have HC := Lib.hid (And.intro h0 h1)
  clear h0 h1
  go_enter Tryd.func28, Tryd.ntmps28
  go_wp2_with fail
  go_loopw [8] (fun i wr => ∃ k : Nat, k ≤ 2 ∧ i = .int .i64 (k : Int) ∧ wr = w ∧ RowKit.Hid ((0 < k → x.toList.isEmpty = true) ∧ (1 < k → y.toList.isEmpty = true))) (fun i _ => 2 - (intOf i).toNat)
  case atStart => exact ⟨0, by omega, rfl, rfl, Lib.hid ⟨fun h => by omega, fun h => by omega⟩⟩
  case round =>
    obtain ⟨k, hk, rfl, rfl, HE⟩ := hrel
    obtain ⟨c0, c1⟩ := HC.out
    have hk3 : k = 0 ∨ k = 1 ∨ k = 2 := by omega
    rcases hk3 with rfl | rfl | rfl
    · cases hx : x.toList.isEmpty with
      | true =>
        have HX := Lib.hid hx
        go_wp2_with fail
        go_roundw
        case rel => exact ⟨1, by omega, by go_num, by first | rfl | trivial, Lib.hid ⟨fun _ => by first | exact HX.out | trivial, fun h => by omega⟩⟩
        case measure => simp [intOf]
      | false =>
        have HX := Lib.hid hx
        go_wp2_with fail
        exact bodyPost_ret (v := .string x) (by simp [results, Tryd.results28, go_sem]) rfl ⟨by rw [orS_a HX.out], Below.refl _ _⟩
    · have hx := HE.out.1 (by omega)
      cases hy : y.toList.isEmpty with
      | true =>
        have HX := Lib.hid (And.intro hx hy)
        go_wp2_with fail
        go_roundw
        case rel => exact ⟨2, by omega, by go_num, by first | rfl | trivial, Lib.hid ⟨fun _ => by first | exact HX.out.1 | trivial, fun _ => by first | exact HX.out.2 | trivial⟩⟩
        case measure => simp [intOf]
      | false =>
        have HX := Lib.hid hx
        go_wp2_with fail
        exact bodyPost_ret (v := .string y) (by simp [results, Tryd.results28, go_sem]) rfl ⟨by rw [orS_b HX.out], Below.refl _ _⟩
    · have HX := Lib.hid (And.intro (HE.out.1 (by omega)) (str_empty_eq (HE.out.2 (by omega))))
      go_wp2_with fail
      exact bodyPost_ret (v := .string ⟨#[]⟩) (by simp [results, Tryd.results28, go_sem]) rfl ⟨by rw [orS_b HX.out.1, HX.out.2], Below.refl _ _⟩
end Go.Proofs.YtbbemeaojmfndaaDoor
