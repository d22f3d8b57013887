/- Contracts of the laws' helpers on expressions: sizes, copies, equality. -/
import Derived.Test.YtggpnnoldjpmcaaEx
import Derived.Test.YtggpnnoldjpmcaaGEq
namespace Go.Proofs.Ytggpnnoldjpmcaa
open Go.RowKit

/-- An induction by the parts at each place. -/
theorem Fo.by_parts {P : Fo → Prop} (step : ∀ f : Fo, (∀ (k : Nat) (hk : k < f.list.length), P f.list[k].ks) → P f) (f : Fo) : P f := by
  have key : ∀ (n : Nat) (f : Fo), f.size < n → P f := by
    intro n
    induction n with
    | zero => intro f h; omega
    | succ n ih => intro f h; exact step f fun k hk => ih _ (by have := f.size_get k hk; omega)
  exact key (f.size + 1) f (by omega)

def Fo.need : Fo → Nat
  | .nil => 0
  | .cons _ a k r => 1 + a.size + k.need + r.need
def exNeed (e : Ex) : Nat := e.a.size + e.ks.need
def sumEx (l : List Ex) : Nat := (l.map exNeed).sum
theorem Fo.need_eq (f : Fo) : f.need = f.list.length + sumEx f.list := by
  induction f with
  | nil => rfl
  | cons o a k r _ ih => simp only [Fo.need, Fo.list, ih, sumEx, exNeed, List.map_cons, List.sum_cons, List.length_cons]; omega
theorem Fo.size_need (f : Fo) : f.size ≤ f.need := by
  induction f with
  | nil => exact Nat.le_refl _
  | cons o a k r ih1 ih2 => simp only [Fo.need, Fo.size]; omega
theorem sumEx_succ (xs : List Ex) (k : Nat) (h : k < xs.length) : sumEx (xs.take (k + 1)) = sumEx (xs.take k) + exNeed xs[k] := by
  unfold sumEx; rw [List.take_succ_eq_append_getElem h, List.map_append, List.sum_append]; simp only [List.map_cons, List.map_nil, List.sum_cons, List.sum_nil, Nat.add_zero]

def SzFo (f : Fo) : Prop := ∀ (v : Value) (left : Int) (B : Nat) (w : World), f.In B w v → B ≤ w.heap.size → 0 ≤ left → left ≤ 1048576 → f.Ok →
  Calls Try.prog 131 #[v, .int .i64 left] w (SzPost left f.need w.heap.size w)

set_option maxHeartbeats 400000 in
theorem szExpr_of (e : Ex) (ih : SzFo e.ks) (k : Value) (left : Int) (B : Nat) (w : World) (hv : e.ks.In B w k) (hB : B ≤ w.heap.size) (h0 : 0 ≤ left) (h1 : left ≤ 1048576) (ha : e.a.size ≤ maxLen) (hok : e.ks.Ok) :
    Calls Try.prog 125 #[.agg #[.int .i64 e.op, .string e.a, k], .int .i64 left] w (SzPost left (exNeed e) w.heap.size w) := by
  have IH := Lib.hid ih
  have HK := Lib.hid hok
  clear ih hok
  obtain ⟨p, cap, rfl⟩ := hv.form
  unfold maxLen at ha
  by_cases hlt : left < e.a.size
  · go_enter Try.func125, Try.ntmps125
    go_wp2_with fail
    go_ret
    exact ⟨-1, rfl, .inl rfl, (Below.refl _ _).alloc (Nat.le_refl _) _⟩
  · go_enter Try.func125, Try.ntmps125
    go_wp2_with fail
    refine (IH.out _ _ B _ (hv.below ((Below.refl B w).alloc hB _) (Nat.le_refl _)) (by simp; omega) (by omega) (by omega) HK.out).mono ?_
    rintro e' w1 ⟨r, rfl, hr, hb1⟩
    have HB1 := Lib.hid (below_past hb1)
    clear hb1
    rcases hr with hr | ⟨hr0, hr⟩
    · have hneg : r < 0 := by omega
      clear hr
      go_wp2_with fail
      go_ret
      exact ⟨-1, rfl, .inl rfl, HB1.out⟩
    · have HR := Lib.hid (show r = left - exNeed e by unfold exNeed; omega)
      clear hr
      go_wp2_with fail
      go_ret
      exact ⟨r, rfl, .inr ⟨hr0, HR.out⟩, HB1.out⟩

set_option maxRecDepth 100000 in
set_option maxHeartbeats 1000000 in
theorem szExprS_step (f : Fo) (ih : ∀ (k : Nat) (hk : k < f.list.length), SzFo f.list[k].ks) : SzFo f := by
  intro v left B w hv hB h0 h1 hok
  have IH := Lib.hid ih
  have HOK := Lib.hid hok
  clear ih hok
  obtain ⟨p, cap, rfl⟩ := hv.form
  obtain ⟨_, hm1, hm2⟩ := hv.max
  unfold maxLen at hm2
  have HV := Lib.hid hv
  clear hv
  by_cases hlt : left < f.list.length
  · go_enter Try.func131, Try.ntmps131
    go_wp2_with fail
    go_ret
    exact ⟨-1, rfl, .inl rfl, Below.refl _ _⟩
  · have q1 : decide (left - (f.list.length : Int) < 0) = false := by simp; omega
    have q1' : decide (left < (f.list.length : Int)) = false := by simp; omega
    go_enter Try.func131, Try.ntmps131
    go_wp2_with fail
    go_loopw [1, 5] (fun l i wr => ∃ (k : Nat) (m : Int), k ≤ f.list.length ∧ i = .int .i64 k ∧ l = .int .i64 m ∧ 0 ≤ m ∧ m ≤ 1048576 ∧ RowKit.Hid (m = left - (f.list.length + sumEx (f.list.take k))) ∧ Below w.heap.size w wr) (fun _ i _ => f.list.length - (intOf i).toNat)
    case atStart => exact ⟨0, left - f.list.length, Nat.zero_le _, rfl, rfl, by omega, by omega, Lib.hid (by simp [sumEx]), Below.refl _ _⟩
    case round =>
      obtain ⟨k, m, hk, rfl, rfl, hm0, hm1, hme, hbw⟩ := hrel
      have hsz := hbw.size
      have HB := Lib.hid hbw
      clear hbw
      by_cases hlt2 : k < f.list.length
      · obtain ⟨b, off, q, n, c, rfl, hb, c0, c1, c2, hin⟩ := (HV.out.below (HB.out.mono hB) (Nat.le_refl _)).get k hlt2
        obtain ⟨_, ha, hok⟩ := f.ok_get HOK.out k hlt2
        have hsum := sumEx_succ f.list k hlt2
        have hih := IH.out k hlt2
        obtain ⟨x, ex⟩ : ∃ x, x = f.list[k] := ⟨_, rfl⟩
        rw [← ex] at c0 c1 hin ha hok hsum hih
        have HS := Lib.hid hsum
        have HIN := Lib.hid hin
        have HO := Lib.hid hok
        have HI := Lib.hid hih
        clear ex hsum hin hok hih
        go_wp2_with fail
        refine (szExpr_of x HI.out _ m B _ HIN.out (by omega) hm0 hm1 ha HO.out).mono ?_
        rintro e w' ⟨r, rfl, hr, hb1⟩
        have HB1 := Lib.hid hb1
        clear hb1
        rcases hr with hr | ⟨hr0, hr⟩
        · have HR := Lib.hid hr
          have hneg : r < 0 := by omega
          clear hr
          go_wp2_with fail
          go_ret
          exact ⟨-1, rfl, .inl rfl, HB.out.trans (HB1.out.mono hsz)⟩
        · have hr1 : r ≤ 1048576 := by omega
          have HR := Lib.hid (show r = left - (f.list.length + sumEx (f.list.take (k + 1))) by have a := hme.out; have b := HS.out; omega)
          clear hr
          go_wp2_with fail
          go_roundw
          case rel => exact ⟨k + 1, r, by omega, by go_num, rfl, hr0, hr1, HR, HB.out.trans (HB1.out.mono hsz)⟩
          case measure => simp [intOf]; omega
      · obtain rfl : k = f.list.length := by omega
        have HE := Lib.hid (show m = left - f.need by have a := hme.out; rw [List.take_of_length_le (Nat.le_refl _)] at a; rw [f.need_eq]; simpa using a)
        go_wp2_with fail
        go_ret
        exact ⟨m, rfl, .inr ⟨hm0, HE.out⟩, HB.out⟩
theorem szExprS_any (f : Fo) : SzFo f := Fo.by_parts szExprS_step f
theorem szExpr_any (e : Ex) (v : Value) (left : Int) (B : Nat) (w : World) (hv : e.At B w v) (hB : B ≤ w.heap.size) (h0 : 0 ≤ left) (h1 : left ≤ 1048576) (ha : e.a.size ≤ maxLen) (hok : e.ks.Ok) :
    Calls Try.prog 125 #[v, .int .i64 left] w (SzPost left (exNeed e) w.heap.size w) := by
  obtain ⟨k, rfl, hk⟩ := hv
  exact szExpr_of e (szExprS_any e.ks) k left B w hk hB h0 h1 ha hok

def EqFo (f : Fo) : Prop := ∀ (v v' : Value) (B : Nat) (w : World), f.In B w v → f.In B w v' → B ≤ w.heap.size →
  Calls Try.prog 136 #[v, v'] w fun e w' => e = .returned (.bool true) ∧ Below w.heap.size w w'

set_option maxHeartbeats 400000 in
theorem eqExpr_of (e : Ex) (ih : EqFo e.ks) (k k' : Value) (B : Nat) (w : World) (hv : e.ks.In B w k) (hv' : e.ks.In B w k') (hB : B ≤ w.heap.size) :
    Calls Try.prog 128 #[.agg #[.int .i64 e.op, .string e.a, k], .agg #[.int .i64 e.op, .string e.a, k']] w fun e w' => e = .returned (.bool true) ∧ Below w.heap.size w w' := by
  have IH := Lib.hid ih
  clear ih
  obtain ⟨p, cap, rfl⟩ := hv.form
  obtain ⟨p', cap', rfl⟩ := hv'.form
  go_enter Try.func128, Try.ntmps128
  go_wp2_with fail
  have HW := Lib.hid (((Below.refl B w).alloc hB (.cells #[.int .i64 e.op, .string e.a, .slice p e.ks.list.length cap] 74)).alloc (by simp; omega) (.cells #[.int .i64 e.op, .string e.a, .slice p' e.ks.list.length cap'] 74))
  refine (IH.out _ _ B _ (hv.below HW.out (Nat.le_refl _)) (hv'.below HW.out (Nat.le_refl _)) (by simp; omega)).mono ?_
  rintro e' w1 ⟨rfl, hb1⟩
  have HB1 := Lib.hid (below_past (below_past hb1))
  clear hb1
  go_wp2_with fail
  go_ret
  exact ⟨rfl, HB1.out⟩

set_option maxRecDepth 100000 in
set_option maxHeartbeats 1000000 in
theorem eqExprS_step (f : Fo) (ih : ∀ (k : Nat) (hk : k < f.list.length), EqFo f.list[k].ks) : EqFo f := by
  intro v v' B w hv hv' hB
  have IH := Lib.hid ih
  clear ih
  obtain ⟨p, cap, rfl⟩ := hv.form
  obtain ⟨p', cap', rfl⟩ := hv'.form
  obtain ⟨_, hm1, hm2⟩ := hv.max
  unfold maxLen at hm2
  have HV := Lib.hid hv
  have HV' := Lib.hid hv'
  clear hv hv'
  go_enter Try.func136, Try.ntmps136
  go_wp2_with fail
  go_loopw [5] (fun i wr => ∃ (k : Nat), k ≤ f.list.length ∧ i = .int .i64 k ∧ Below w.heap.size w wr) (fun i _ => f.list.length - (intOf i).toNat)
  case atStart => exact ⟨0, Nat.zero_le _, rfl, Below.refl _ _⟩
  case round =>
    obtain ⟨k, hk, rfl, hbw⟩ := hrel
    have hsz := hbw.size
    have HB := Lib.hid hbw
    clear hbw
    by_cases hlt2 : k < f.list.length
    · obtain ⟨b, off, q, n, c, rfl, hb, c0, c1, c2, hin⟩ := (HV.out.below (HB.out.mono hB) (Nat.le_refl _)).get k hlt2
      obtain ⟨b', off', q', n', c', rfl, hb', c0', c1', c2', hin'⟩ := (HV'.out.below (HB.out.mono hB) (Nat.le_refl _)).get k hlt2
      have hih := IH.out k hlt2
      obtain ⟨x, ex⟩ : ∃ x, x = f.list[k] := ⟨_, rfl⟩
      rw [← ex] at c0 c1 hin hih c0' c1' hin'
      have HIN := Lib.hid hin
      have HIN' := Lib.hid hin'
      have HI := Lib.hid hih
      clear ex hin hih hin'
      go_wp2_with fail
      go_still_tail 8, (by kernel_rfl)
      go_wp2_with fail
      refine (eqExpr_of x HI.out _ _ B _ (HIN.out.below (Below.refl _ _).drew (Nat.le_refl _)) (HIN'.out.below (Below.refl _ _).drew (Nat.le_refl _)) (by simp; omega)).mono ?_
      rintro e w' ⟨rfl, hb1⟩
      have HB1 := Lib.hid (HB.out.drew.trans (hb1.mono hsz))
      clear hb1
      go_wp2_with fail
      go_roundw
      case rel => exact ⟨k + 1, by omega, by go_num, HB1.out⟩
      case measure => simp [intOf]; omega
    · obtain rfl : k = f.list.length := by omega
      go_wp2_with fail
      go_ret
      exact ⟨rfl, HB.out⟩
theorem eqExprS_any (f : Fo) : EqFo f := Fo.by_parts eqExprS_step f
theorem eqExpr_any (e : Ex) (v v' : Value) (B : Nat) (w : World) (hv : e.At B w v) (hv' : e.At B w v') (hB : B ≤ w.heap.size) :
    Calls Try.prog 128 #[v, v'] w fun e w' => e = .returned (.bool true) ∧ Below w.heap.size w w' := by
  obtain ⟨k, rfl, hk⟩ := hv
  obtain ⟨k', rfl, hk'⟩ := hv'
  exact eqExpr_of e (eqExprS_any e.ks) k k' B w hk hk' hB
end Go.Proofs.Ytggpnnoldjpmcaa
