/- The laws' helpers on patterns: sizes, equality. -/
import Derived.Test.YtggpnnoldjpmcaaPt
import Derived.StillTailTactics
namespace Go.Proofs.Ytggpnnoldjpmcaa
open Go.RowKit

def Pf.need : Pf → Nat
  | .nil => 0
  | .cons _ e k _ _ r => 1 + elNeed e + k.need + r.need
def ptNeed (x : Pt) : Nat := elNeed x.e + x.ks.need
def sumPt (l : List Pt) : Nat := (l.map ptNeed).sum
theorem Pf.need_eq (f : Pf) : f.need = f.list.length + sumPt f.list := by
  induction f with
  | nil => rfl
  | cons o e k lo hi r _ ih => simp only [Pf.need, Pf.list, ih, sumPt, ptNeed, List.map_cons, List.sum_cons, List.length_cons]; omega
theorem Pf.size_need (f : Pf) : f.size ≤ f.need := by
  induction f with
  | nil => exact Nat.le_refl _
  | cons o e k lo hi r ih1 ih2 => simp only [Pf.need, Pf.size]; omega
theorem sumPt_succ (xs : List Pt) (k : Nat) (h : k < xs.length) : sumPt (xs.take (k + 1)) = sumPt (xs.take k) + ptNeed xs[k] := by
  unfold sumPt; rw [List.take_succ_eq_append_getElem h, List.map_append, List.sum_append]; simp only [List.map_cons, List.map_nil, List.sum_cons, List.sum_nil, Nat.add_zero]
theorem Pf.need_get (f : Pf) (k : Nat) (hk : k < f.list.length) : ptNeed f.list[k] ≤ f.need := by
  rw [f.need_eq]
  have h1 := sumPt_succ f.list k hk
  have h2 : sumPt (f.list.take (k + 1)) ≤ sumPt f.list := by
    unfold sumPt
    have := congrArg (fun l => (l.map ptNeed).sum) (List.take_append_drop (k + 1) f.list)
    simp only [List.map_append, List.sum_append] at this; omega
  omega
theorem keepz' {B b o : Nat} {w w' : World} (hb : Below B w w') (h : b < B) (hc : w.frozen? ⟨b, o, none⟩ = false) : w'.frozen? ⟨b, o, none⟩ = false := (hb.frozen (p := ⟨b, o, none⟩) h).trans hc

def SzPf (f : Pf) : Prop := ∀ (v : Value) (left : Int) (B : Nat) (w : World), f.Is false B w v → B ≤ w.heap.size → 0 ≤ left → left ≤ 1048576 → f.Ok →
  Calls Try.prog 40 #[v, .int .i64 left] w (SzPost left f.need w.heap.size w)

set_option maxRecDepth 100000 in
set_option maxHeartbeats 1000000 in
theorem szPat_of (x : Pt) (ih : SzPf x.ks) (v : Value) (left : Int) (B : Nat) (w : World) (hv : x.At B w v) (hB : B ≤ w.heap.size) (h0 : 0 ≤ left) (h1 : left ≤ 1048576) (hok : x.Ok) :
    Calls Try.prog 86 #[v, .int .i64 left] w (SzPost left (ptNeed x) w.heap.size w) := by
  have IH := Lib.hid ih
  have HOK := Lib.hid hok
  clear ih hok
  obtain ⟨p, pc, q, qc, r, rc, rfl, hl, hc, hk⟩ := Pt.AtL.form hv
  have HL := Lib.hid hl
  have HC := Lib.hid hc
  have HK := Lib.hid hk
  clear hv hl hc hk
  obtain ⟨W0, eW⟩ : ∃ W0, W0 = w.alloc (.cells #[.int .i64 x.op, .bool x.e.n, .string x.e.v, .int .i64 x.e.l.op, .string x.e.l.a, .slice p x.e.l.ks.list.length pc, .int .i64 x.e.c.op, .string x.e.c.a, .slice q x.e.c.ks.list.length qc, .int .i64 x.e.d, .slice r x.ks.list.length rc, .int .i64 x.lo, .int .i64 x.hi] 127) := ⟨_, rfl⟩
  have HV := Lib.hid (show Below w.heap.size w W0 by rw [eW]; exact (Below.refl w.heap.size w).alloc (by simp) _)
  have hz0 : w.heap.size + 1 ≤ W0.heap.size := by rw [eW]; simp
  have HX := Lib.hid (show ∀ wk, Below (w.heap.size + 1) W0 wk → wk.cell? ⟨w.heap.size, 10, none⟩ = some (.slice r x.ks.list.length rc) from fun wk hk => by rw [eW] at hk; exact keepc hk (by omega) (by simp [go_sem]))
  have EW := Lib.hid eW
  clear eW
  go_enter Try.func86, Try.ntmps86
  go_wp2_with fail
  rw [← EW.out]
  refine (szElem_any x.e _ _ B _ ⟨_, _, rfl, (HL.out.below (HV.out.mono hB) (Nat.le_refl _)).1, (HC.out.below (HV.out.mono hB) (Nat.le_refl _)).1⟩ (by omega) h0 h1 HOK.out.1.2.1).mono ?_
  rintro en w1 ⟨m, rfl, hr, hb1⟩
  have c10 := HX.out w1 (hb1.mono hz0)
  have hz1 : w.heap.size + 1 ≤ w1.heap.size := by have := hb1.size; omega
  have HB1 := Lib.hid (HV.out.trans (hb1.mono (by omega)))
  clear hb1
  rcases hr with hr | ⟨hr0, hr⟩
  · have hneg : m < 0 := by omega
    clear hr
    go_wp2_with fail
    go_ret
    exact ⟨-1, rfl, .inl rfl, HB1.out⟩
  have HR := Lib.hid hr
  have hrm : m ≤ 1048576 := by omega
  clear hr
  go_wp2_with fail
  refine (IH.out _ _ B _ (HK.out.below (HB1.out.mono hB) (Nat.le_refl _)) (by omega) hr0 hrm HOK.out.2).mono ?_
  rintro en w2 ⟨s, rfl, hs, hb2⟩
  have HB2 := Lib.hid (HB1.out.trans (hb2.mono (by omega)))
  clear hb2
  rcases hs with hs | ⟨hs0, hs⟩
  · have hneg : s < 0 := by omega
    clear hs
    go_wp2_with fail
    go_ret
    exact ⟨-1, rfl, .inl rfl, HB2.out⟩
  have HS := Lib.hid (show s = left - ptNeed x by have := HR.out; unfold ptNeed; omega)
  clear hs
  go_wp2_with fail
  go_ret
  exact ⟨s, rfl, .inr ⟨hs0, HS.out⟩, HB2.out⟩

set_option maxRecDepth 100000 in
set_option maxHeartbeats 1000000 in
theorem szPatS_step (f : Pf) (ih : ∀ (k : Nat) (hk : k < f.list.length), SzPf f.list[k].ks) : SzPf f := by
  intro v left B w hv hB h0 h1 hok
  have IH := Lib.hid ih
  have HOK := Lib.hid hok
  clear ih hok
  obtain ⟨p, cap, rfl⟩ := hv.form
  obtain ⟨_, hm1, hm2⟩ := hv.max
  unfold maxLen at hm2
  have HV := Lib.hid hv
  clear hv
  by_cases hlt : left < f.list.length
  · go_enter Try.func40, Try.ntmps40
    go_wp2_with fail
    go_ret
    exact ⟨-1, rfl, .inl rfl, Below.refl _ _⟩
  · have q1 : decide (left - (f.list.length : Int) < 0) = false := by simp; omega
    have q1' : decide (left < (f.list.length : Int)) = false := by simp; omega
    go_enter Try.func40, Try.ntmps40
    go_wp2_with fail
    go_loopw [1, 5] (fun l i wr => ∃ (k : Nat) (m : Int), k ≤ f.list.length ∧ i = .int .i64 k ∧ l = .int .i64 m ∧ 0 ≤ m ∧ m ≤ 1048576 ∧ RowKit.Hid (m = left - (f.list.length + sumPt (f.list.take k))) ∧ Below w.heap.size w wr) (fun _ i _ => f.list.length - (intOf i).toNat)
    case atStart => exact ⟨0, left - f.list.length, Nat.zero_le _, rfl, rfl, by omega, by omega, Lib.hid (by simp [sumPt]), Below.refl _ _⟩
    case round =>
      obtain ⟨k, m, hk, rfl, rfl, hm0, hm1, hme, hbw⟩ := hrel
      have hsz := hbw.size
      have HB := Lib.hid hbw
      clear hbw
      by_cases hlt2 : k < f.list.length
      · obtain ⟨b, off, rfl, hb, _, h13⟩ := (HV.out.below (HB.out.mono hB) (Nat.le_refl _)).get k hlt2
        obtain ⟨p', pc, q, qc, r, rc, c0, c1, c2, c3, c4, c5, c6, c7, c8, c9, c10, c11, c12, hat⟩ := h13.at
        have hok := f.ok_get HOK.out k hlt2
        have hsum := sumPt_succ f.list k hlt2
        have hih := IH.out k hlt2
        obtain ⟨x, ex⟩ : ∃ x, x = f.list[k] := ⟨_, rfl⟩
        rw [← ex] at c0 c1 c2 c3 c4 c5 c6 c7 c8 c9 c10 c11 c12 hat hok hsum hih
        have HS := Lib.hid hsum
        have HAT := Lib.hid hat
        have HO := Lib.hid hok
        have HI := Lib.hid hih
        clear ex hsum hat hok hih h13
        simp only [Nat.add_zero] at c0
        go_wp2_with fail
        refine (szPat_of x HI.out _ m B _ HAT.out (by omega) hm0 hm1 HO.out).mono ?_
        rintro e w' ⟨s, rfl, hr, hb1⟩
        have HB1 := Lib.hid hb1
        clear hb1
        rcases hr with hr | ⟨hr0, hr⟩
        · have HR := Lib.hid hr
          have hneg : s < 0 := by omega
          clear hr
          go_wp2_with fail
          go_ret
          exact ⟨-1, rfl, .inl rfl, HB.out.trans (HB1.out.mono hsz)⟩
        · have hr1 : s ≤ 1048576 := by omega
          have HR := Lib.hid (show s = left - (f.list.length + sumPt (f.list.take (k + 1))) by have a := hme.out; have b := HS.out; omega)
          clear hr
          go_wp2_with fail
          go_roundw
          case rel => exact ⟨k + 1, s, by omega, by go_num, rfl, hr0, hr1, HR, HB.out.trans (HB1.out.mono hsz)⟩
          case measure => simp [intOf]; omega
      · obtain rfl : k = f.list.length := by omega
        have HE := Lib.hid (show m = left - f.need by have a := hme.out; rw [List.take_of_length_le (Nat.le_refl _)] at a; rw [f.need_eq]; simpa using a)
        go_wp2_with fail
        go_ret
        exact ⟨m, rfl, .inr ⟨hm0, HE.out⟩, HB.out⟩
theorem szPatS_any (f : Pf) : SzPf f := Pf.by_parts szPatS_step f
theorem szPat_any (x : Pt) (v : Value) (left : Int) (B : Nat) (w : World) (hv : x.At B w v) (hB : B ≤ w.heap.size) (h0 : 0 ≤ left) (h1 : left ≤ 1048576) (hok : x.Ok) :
    Calls Try.prog 86 #[v, .int .i64 left] w (SzPost left (ptNeed x) w.heap.size w) := szPat_of x (szPatS_any x.ks) v left B w hv hB h0 h1 hok

def EqPf (f : Pf) : Prop := ∀ (v v' : Value) (B : Nat) (w : World), f.Is false B w v → f.Is false B w v' → B ≤ w.heap.size →
  Calls Try.prog 48 #[v, v'] w fun e w' => e = .returned (.bool true) ∧ Below w.heap.size w w'

set_option maxRecDepth 100000 in
set_option maxHeartbeats 2000000 in
theorem eqPat_of (x : Pt) (ih : EqPf x.ks) (v v' : Value) (B : Nat) (w : World) (hv : x.At B w v) (hv' : x.At B w v') (hB : B ≤ w.heap.size) :
    Calls Try.prog 94 #[v, v'] w fun e w' => e = .returned (.bool true) ∧ Below w.heap.size w w' := by
  have IH := Lib.hid ih
  clear ih
  obtain ⟨p, pc, q, qc, r, rc, rfl, hl, hc, hk⟩ := Pt.AtL.form hv
  obtain ⟨p2, pc2, q2, qc2, r2, rc2, rfl, hl2, hc2, hk2⟩ := Pt.AtL.form hv'
  have HL := Lib.hid hl
  have HC := Lib.hid hc
  have HK := Lib.hid hk
  have HL2 := Lib.hid hl2
  have HC2 := Lib.hid hc2
  have HK2 := Lib.hid hk2
  clear hv hl hc hk hv' hl2 hc2 hk2
  obtain ⟨W0, eW⟩ : ∃ W0, W0 = (w.alloc (.cells #[.int .i64 x.op, .bool x.e.n, .string x.e.v, .int .i64 x.e.l.op, .string x.e.l.a, .slice p x.e.l.ks.list.length pc, .int .i64 x.e.c.op, .string x.e.c.a, .slice q x.e.c.ks.list.length qc, .int .i64 x.e.d, .slice r x.ks.list.length rc, .int .i64 x.lo, .int .i64 x.hi] 78)).alloc (.cells #[.int .i64 x.op, .bool x.e.n, .string x.e.v, .int .i64 x.e.l.op, .string x.e.l.a, .slice p2 x.e.l.ks.list.length pc2, .int .i64 x.e.c.op, .string x.e.c.a, .slice q2 x.e.c.ks.list.length qc2, .int .i64 x.e.d, .slice r2 x.ks.list.length rc2, .int .i64 x.lo, .int .i64 x.hi] 78) := ⟨_, rfl⟩
  have HV := Lib.hid (show Below w.heap.size w W0 by rw [eW]; exact ((Below.refl w.heap.size w).alloc (by simp) _).alloc (by simp) _)
  have hz0 : w.heap.size + 2 ≤ W0.heap.size := by rw [eW]; simp
  have HX := Lib.hid (show ∀ wk, Below (w.heap.size + 2) W0 wk → wk.cell? ⟨w.heap.size, 10, none⟩ = some (.slice r x.ks.list.length rc) ∧ wk.cell? ⟨w.heap.size, 11, none⟩ = some (.int .i64 x.lo) ∧ wk.cell? ⟨w.heap.size, 12, none⟩ = some (.int .i64 x.hi) ∧ wk.cell? ⟨w.heap.size + 1, 10, none⟩ = some (.slice r2 x.ks.list.length rc2) ∧ wk.cell? ⟨w.heap.size + 1, 11, none⟩ = some (.int .i64 x.lo) ∧ wk.cell? ⟨w.heap.size + 1, 12, none⟩ = some (.int .i64 x.hi) from fun wk hk => by rw [eW] at hk; exact ⟨keepc hk (by omega) (by simp [go_sem]), keepc hk (by omega) (by simp [go_sem]), keepc hk (by omega) (by simp [go_sem]), keepc hk (by omega) (by simp [go_sem]), keepc hk (by omega) (by simp [go_sem]), keepc hk (by omega) (by simp [go_sem])⟩)
  have EW := Lib.hid eW
  clear eW
  go_enter Try.func94, Try.ntmps94
  go_wp2_with fail
  rw [← EW.out]
  refine (eqElem_any x.e _ _ B _ ⟨_, _, rfl, (HL.out.below (HV.out.mono hB) (Nat.le_refl _)).1, (HC.out.below (HV.out.mono hB) (Nat.le_refl _)).1⟩ ⟨_, _, rfl, (HL2.out.below (HV.out.mono hB) (Nat.le_refl _)).1, (HC2.out.below (HV.out.mono hB) (Nat.le_refl _)).1⟩ (by omega)).mono ?_
  rintro en w1 ⟨rfl, hb1⟩
  have HA := Lib.hid (hb1.mono hz0)
  have hz1 : w.heap.size + 2 ≤ w1.heap.size := by have := hb1.size; omega
  have HB1 := Lib.hid (HV.out.trans (hb1.mono (by omega)))
  clear hb1
  obtain ⟨a0, a1, a2, b0, b1, b2⟩ := HX.out _ HA.out
  go_wp2_with fail
  refine (IH.out _ _ B _ (HK.out.below (HB1.out.mono hB) (Nat.le_refl _)) (HK2.out.below (HB1.out.mono hB) (Nat.le_refl _)) (by omega)).mono ?_
  rintro en w2 ⟨rfl, hb2⟩
  have HA2 := Lib.hid (HA.out.trans (hb2.mono (by omega)))
  have HB2 := Lib.hid (HB1.out.trans (hb2.mono (by omega)))
  clear hb2 a0 a1 a2 b0 b1 b2
  obtain ⟨a0, a1, a2, b0, b1, b2⟩ := HX.out _ HA2.out
  go_wp2_with fail
  go_ret
  exact ⟨rfl, HB2.out⟩

set_option maxRecDepth 100000 in
set_option maxHeartbeats 2000000 in
theorem eqPatS_step (f : Pf) (ih : ∀ (k : Nat) (hk : k < f.list.length), EqPf f.list[k].ks) : EqPf f := by
  intro v v' B w hv hv' hB
  have IH := Lib.hid ih
  clear ih
  obtain ⟨p, cap, rfl⟩ := hv.form
  obtain ⟨p', cap', rfl⟩ := hv'.form
  obtain ⟨_, hm1, hm2⟩ := hv.max
  unfold maxLen at hm2
  have HV := Lib.hid hv
  have HV' := Lib.hid hv'
  clear hv hv'
  go_enter Try.func48, Try.ntmps48
  go_wp2_with fail
  go_loopw [5] (fun i wr => ∃ (k : Nat), k ≤ f.list.length ∧ i = .int .i64 k ∧ Below w.heap.size w wr) (fun i _ => f.list.length - (intOf i).toNat)
  case atStart => exact ⟨0, Nat.zero_le _, rfl, Below.refl _ _⟩
  case round =>
    obtain ⟨k, hk, rfl, hbw⟩ := hrel
    have hsz := hbw.size
    have HB := Lib.hid hbw
    clear hbw
    by_cases hlt2 : k < f.list.length
    · obtain ⟨b, off, rfl, hb, _, h13⟩ := (HV.out.below (HB.out.mono hB) (Nat.le_refl _)).get k hlt2
      obtain ⟨p2, pc, q, qc, r, rc, c0, c1, c2, c3, c4, c5, c6, c7, c8, c9, c10, c11, c12, hat⟩ := h13.at
      obtain ⟨b', off', rfl, hb', _, h13'⟩ := (HV'.out.below (HB.out.mono hB) (Nat.le_refl _)).get k hlt2
      obtain ⟨p2', pc', q', qc', r', rc', d0, d1, d2, d3, d4, d5, d6, d7, d8, d9, d10, d11, d12, hat'⟩ := h13'.at
      have hih := IH.out k hlt2
      obtain ⟨x, ex⟩ : ∃ x, x = f.list[k] := ⟨_, rfl⟩
      rw [← ex] at c0 c1 c2 c3 c4 c5 c6 c7 c8 c9 c10 c11 c12 hat d0 d1 d2 d3 d4 d5 d6 d7 d8 d9 d10 d11 d12 hat' hih
      have HAT := Lib.hid hat
      have HAT' := Lib.hid hat'
      have HI := Lib.hid hih
      clear ex hat hat' hih h13 h13'
      simp only [Nat.add_zero] at c0 d0
      go_wp2_with fail
      go_still_tail 8, (by kernel_rfl)
      go_wp2_with fail
      refine (eqPat_of x HI.out _ _ B _ (Pt.At.to HAT.out (Below.refl _ _).drew (Nat.le_refl _)) (Pt.At.to HAT'.out (Below.refl _ _).drew (Nat.le_refl _)) (by simp; omega)).mono ?_
      rintro e w' ⟨rfl, hb1⟩
      have HB1 := Lib.hid (HB.out.drew.trans (hb1.mono hsz))
      clear hb1
      go_wp2_with fail
      go_roundw
      case rel => exact ⟨k + 1, by omega, by go_num, HB1.out⟩
      case measure => simp [intOf]; omega
    · obtain rfl : k = f.list.length := by omega
      go_wp2_with fail
      go_ret
      exact ⟨rfl, HB.out⟩
theorem eqPatS_any (f : Pf) : EqPf f := Pf.by_parts eqPatS_step f
theorem eqPat_any (x : Pt) (v v' : Value) (B : Nat) (w : World) (hv : x.At B w v) (hv' : x.At B w v') (hB : B ≤ w.heap.size) :
    Calls Try.prog 94 #[v, v'] w fun e w' => e = .returned (.bool true) ∧ Below w.heap.size w w' := eqPat_of x (eqPatS_any x.ks) v v' B w hv hv' hB
end Go.Proofs.Ytggpnnoldjpmcaa
