/- impl.ExprValid and its parts. -/
import Derived.Test.YtbbemeaojmfndaaDoorM1q0p1
import Derived.Test.YtbbemeaojmfndaaDoorExHelp
namespace Go.Proofs.YtbbemeaojmfndaaDoor
open Go.RowKit

set_option maxRecDepth 100000 in
set_option maxHeartbeats 2000000 in
theorem exprTopValid_any (kind o : Int) (a : ByteArray) (p : Option Addr) (n cap : Nat) (w : World) (hs : a.size ≤ 1048576) (hv : Vars w) :
    Calls Tryd.prog 90 #[.agg #[.int .i64 o, .string a, .slice p n cap], .int .i64 kind] w fun e w' => e = .returned (.bool (topB kind o a n)) ∧ Below w.heap.size w w' := by
  have HV := Lib.hid hv
  clear hv
  by_cases o1 : o = 1
  · subst o1
    by_cases hn : n = 0
    · subst hn
      have HT := Lib.hid (show topB kind 1 a 0 = atomB kind a by simp [topB])
      go_enter Tryd.func90, Tryd.ntmps90
      go_wp2_with fail
      refine (exprAtomValid_any a kind _ hs (HV.out.below ((Below.refl _ _).alloc (Nat.le_refl _) _))).mono ?_
      rintro e w1 ⟨rfl, hb1⟩
      have HB1 := Lib.hid (below_past hb1)
      clear hb1
      go_wp2_with fail
      go_ret
      exact ⟨by rw [HT.out]; rfl, HB1.out⟩
    · have h1 : ((n : Int) == 0) = false := by rw [beq_eq_false_iff_ne]; omega
      have HT := Lib.hid (show topB kind 1 a n = false by simp [topB, hn])
      go_enter Tryd.func90, Tryd.ntmps90
      go_wp2_with fail
      go_ret
      exact ⟨by rw [HT.out]; rfl, (Below.refl _ _).alloc (Nat.le_refl _) _⟩
  by_cases o2 : o = 2
  · subst o2
    by_cases hn : n = 0
    · subst hn
      by_cases ha : a.size = 0
      · have h1 := str_empty ha
        have h2 := str_empty' ha
        have HT := Lib.hid (show topB kind 2 a 0 = true by simp [topB, ha])
        go_enter Tryd.func90, Tryd.ntmps90
        go_wp2_with fail
        go_ret
        exact ⟨by rw [HT.out]; rfl, (Below.refl _ _).alloc (Nat.le_refl _) _⟩
      · have h1 := str_nonempty (s := a) (by omega)
        have h2 := str_nonempty'' (s := a) (by omega)
        have HT := Lib.hid (show topB kind 2 a 0 = false by simp [topB, ha])
        go_enter Tryd.func90, Tryd.ntmps90
        go_wp2_with fail
        go_ret
        exact ⟨by rw [HT.out]; rfl, (Below.refl _ _).alloc (Nat.le_refl _) _⟩
    · have h1 : ((n : Int) == 0) = false := by rw [beq_eq_false_iff_ne]; omega
      have HT := Lib.hid (show topB kind 2 a n = false by simp [topB, hn])
      go_enter Tryd.func90, Tryd.ntmps90
      go_wp2_with fail
      go_ret
      exact ⟨by rw [HT.out]; rfl, (Below.refl _ _).alloc (Nat.le_refl _) _⟩
  by_cases o3 : o = 3
  · subst o3
    by_cases hn : n = 1
    · subst hn
      by_cases ha : a.size = 0
      · have h1 := str_empty ha
        have h2 := str_empty' ha
        have HT := Lib.hid (show topB kind 3 a 1 = true by simp [topB, ha])
        go_enter Tryd.func90, Tryd.ntmps90
        go_wp2_with fail
        go_ret
        exact ⟨by rw [HT.out]; rfl, (Below.refl _ _).alloc (Nat.le_refl _) _⟩
      · have h1 := str_nonempty (s := a) (by omega)
        have h2 := str_nonempty'' (s := a) (by omega)
        have HT := Lib.hid (show topB kind 3 a 1 = false by simp [topB, ha])
        go_enter Tryd.func90, Tryd.ntmps90
        go_wp2_with fail
        go_ret
        exact ⟨by rw [HT.out]; rfl, (Below.refl _ _).alloc (Nat.le_refl _) _⟩
    · have h1 : ((n : Int) == 1) = false := by rw [beq_eq_false_iff_ne]; omega
      have HT := Lib.hid (show topB kind 3 a n = false by simp [topB, hn])
      go_enter Tryd.func90, Tryd.ntmps90
      go_wp2_with fail
      go_ret
      exact ⟨by rw [HT.out]; rfl, (Below.refl _ _).alloc (Nat.le_refl _) _⟩
  by_cases o4 : o = 4
  · subst o4
    by_cases hn : n = 2
    · subst hn
      by_cases ha : a.size = 0
      · have h1 := str_empty ha
        have h2 := str_empty' ha
        have HT := Lib.hid (show topB kind 4 a 2 = true by simp [topB, ha])
        go_enter Tryd.func90, Tryd.ntmps90
        go_wp2_with fail
        go_ret
        exact ⟨by rw [HT.out]; rfl, (Below.refl _ _).alloc (Nat.le_refl _) _⟩
      · have h1 := str_nonempty (s := a) (by omega)
        have h2 := str_nonempty'' (s := a) (by omega)
        have HT := Lib.hid (show topB kind 4 a 2 = false by simp [topB, ha])
        go_enter Tryd.func90, Tryd.ntmps90
        go_wp2_with fail
        go_ret
        exact ⟨by rw [HT.out]; rfl, (Below.refl _ _).alloc (Nat.le_refl _) _⟩
    · have h1 : ((n : Int) == 2) = false := by rw [beq_eq_false_iff_ne]; omega
      have HT := Lib.hid (show topB kind 4 a n = false by simp [topB, hn])
      go_enter Tryd.func90, Tryd.ntmps90
      go_wp2_with fail
      go_ret
      exact ⟨by rw [HT.out]; rfl, (Below.refl _ _).alloc (Nat.le_refl _) _⟩
  by_cases o5 : o = 5
  · subst o5
    by_cases hn : n = 2
    · subst hn
      by_cases ha : a.size = 0
      · have h1 := str_empty ha
        have h2 := str_empty' ha
        have HT := Lib.hid (show topB kind 5 a 2 = true by simp [topB, ha])
        go_enter Tryd.func90, Tryd.ntmps90
        go_wp2_with fail
        go_ret
        exact ⟨by rw [HT.out]; rfl, (Below.refl _ _).alloc (Nat.le_refl _) _⟩
      · have h1 := str_nonempty (s := a) (by omega)
        have h2 := str_nonempty'' (s := a) (by omega)
        have HT := Lib.hid (show topB kind 5 a 2 = false by simp [topB, ha])
        go_enter Tryd.func90, Tryd.ntmps90
        go_wp2_with fail
        go_ret
        exact ⟨by rw [HT.out]; rfl, (Below.refl _ _).alloc (Nat.le_refl _) _⟩
    · have h1 : ((n : Int) == 2) = false := by rw [beq_eq_false_iff_ne]; omega
      have HT := Lib.hid (show topB kind 5 a n = false by simp [topB, hn])
      go_enter Tryd.func90, Tryd.ntmps90
      go_wp2_with fail
      go_ret
      exact ⟨by rw [HT.out]; rfl, (Below.refl _ _).alloc (Nat.le_refl _) _⟩
  have HT := Lib.hid (show topB kind o a n = false by simp [topB, o1, o2, o3, o4, o5])
  have b1 : (o == 1) = false := beq_eq_false_iff_ne.2 o1
  have b2 : (o == 2) = false := beq_eq_false_iff_ne.2 o2
  have b3 : (o == 3) = false := beq_eq_false_iff_ne.2 o3
  have b4 : (o == 4) = false := beq_eq_false_iff_ne.2 o4
  have b5 : (o == 5) = false := beq_eq_false_iff_ne.2 o5
  clear o1 o2 o3 o4 o5
  go_enter Tryd.func90, Tryd.ntmps90
  go_wp2_with fail
  go_ret
  exact ⟨by rw [HT.out]; rfl, (Below.refl _ _).alloc (Nat.le_refl _) _⟩

theorem Fo.okB_get {kind : Int} {f : Fo} {d : Nat} : f.okB kind d = true ↔ ∀ (k : Nat) (h : k < f.list.length), f.list[k].okB kind d = true := by
  rw [Fo.okB_list, List.all_eq_true]
  constructor
  · intro h k hk; exact h _ (List.getElem_mem hk)
  · intro h x hx
    obtain ⟨k, hk, rfl⟩ := List.getElem_of_mem hx
    exact h k hk
theorem Ex.okB_zero (kind : Int) (e : Ex) : e.okB kind 0 = false := by unfold Ex.okB; simp
theorem Ex.okB_top {kind : Int} {e : Ex} {d : Nat} (hd : 0 < d) (h : topB kind e.op e.a e.ks.list.length = true) : e.okB kind d = e.ks.okB kind (d - 1) := by
  unfold Ex.okB; rw [h, decide_eq_true hd]; simp
theorem Ex.okB_bad {kind : Int} {e : Ex} {d : Nat} (h : topB kind e.op e.a e.ks.list.length = false) : e.okB kind d = false := by
  unfold Ex.okB; rw [h]; simp
/-- Each text in it is short. -/
def Fo.Sm : Fo → Prop
  | .nil => True
  | .cons _ a k r => a.size ≤ 1048576 ∧ k.Sm ∧ r.Sm
theorem Fo.Sm.get {f : Fo} (h : f.Sm) (k : Nat) (hk : k < f.list.length) : f.list[k].a.size ≤ 1048576 ∧ f.list[k].ks.Sm := by
  induction f generalizing k with
  | nil => simp [Fo.list] at hk
  | cons o a ks r _ ih =>
    obtain ⟨h1, h2, h3⟩ := h
    cases k with
    | zero => exact ⟨h1, h2⟩
    | succ k => simpa [Fo.list] using ih h3 k (by simpa [Fo.list] using hk)
theorem Fo.sm_need (f : Fo) (h : f.need ≤ 1048576) : f.Sm := by
  induction f with
  | nil => trivial
  | cons o a k r ih1 ih2 => simp only [Fo.need] at h; exact ⟨by omega, ih1 (by omega), ih2 (by omega)⟩

set_option maxRecDepth 100000 in
set_option maxHeartbeats 2000000 in
theorem exprWaysValid_any (kind : Int) (d : Nat) : ∀ (e : Ex) (k : Value) (B : Nat) (w : World), e.ks.In B w k → B ≤ w.heap.size → e.a.size ≤ 1048576 → e.ks.Sm → d ≤ 12 → Vars w →
    Calls Tryd.prog 72 #[.agg #[.int .i64 e.op, .string e.a, k], .int .i64 kind, .int .i64 d] w fun en w' => en = .returned (.bool (e.okB kind d)) ∧ Below w.heap.size w w' := by
  induction d with
  | zero =>
    intro e k B w hk hB ha hsm hd hv
    obtain ⟨p, cap, rfl⟩ := hk.form
    have HT := Lib.hid (Ex.okB_zero kind e)
    clear hk hv hsm
    go_enter Tryd.func72, Tryd.ntmps72
    go_wp2_with fail
    go_ret
    exact ⟨by rw [HT.out]; rfl, (Below.refl _ _).alloc (Nat.le_refl _) _⟩
  | succ d ih =>
    intro e k B w hk hB ha hsm hd hv
    have IH := Lib.hid ih
    have HSM := Lib.hid hsm
    have HV := Lib.hid hv
    clear ih hsm hv
    obtain ⟨p, cap, rfl⟩ := hk.form
    obtain ⟨_, hm1, hm2⟩ := hk.max
    unfold maxLen at hm2
    have HK := Lib.hid hk
    clear hk
    have hd1 : decide (((d + 1 : Nat) : Int) < 1) = false := by simp; omega
    have hd0 : ¬ ((d : Int) + 1 < 1) := by omega
    have HB0 := Lib.hid (show Below w.heap.size w (w.alloc (.cells #[.int .i64 e.op, .string e.a, .slice p e.ks.list.length cap] 25)) from (Below.refl _ _).alloc (Nat.le_refl _) _)
    go_enter Tryd.func72, Tryd.ntmps72
    go_wp2_with fail
    refine (exprTopValid_any kind e.op e.a p e.ks.list.length cap _ ha (HV.out.below HB0.out)).mono ?_
    rintro en w1 ⟨rfl, hb1⟩
    have c2 := new_cell hb1 (j := 2) rfl
    have hs1 : w.heap.size < w1.heap.size := by have := hb1.size; simp at this; omega
    have HB1 := Lib.hid (below_past hb1)
    clear hb1
    cases ht : topB kind e.op e.a e.ks.list.length with
    | false =>
      have HT := Lib.hid (Ex.okB_bad (d := d + 1) ht)
      go_wp2_with fail
      go_ret
      exact ⟨by rw [HT.out]; rfl, HB1.out⟩
    | true =>
      have HT := Lib.hid (Ex.okB_top (d := d + 1) (by omega) ht)
      go_wp2_with fail
      go_loopw [20] (fun i wr => ∃ m : Nat, m ≤ e.ks.list.length ∧ i = .int .i64 m ∧ RowKit.Hid (∀ j (h : j < e.ks.list.length), j < m → e.ks.list[j].okB kind d = true) ∧ Below w1.heap.size w1 wr) (fun i _ => e.ks.list.length - (intOf i).toNat)
      case atStart => exact ⟨0, Nat.zero_le _, rfl, Lib.hid (fun j h hj => by omega), Below.refl _ _⟩
      case round =>
        obtain ⟨m, hm, rfl, HP, hbw⟩ := hrel
        have hsz := hbw.size
        have HB := Lib.hid (HB1.out.trans (hbw.mono (by omega)))
        have c2' := keepc hbw hs1 c2
        have HW := Lib.hid hbw
        clear hbw
        by_cases hlt : m < e.ks.list.length
        · obtain ⟨b, off, q, n, c, rfl, hb, d0, d1, d2, hin⟩ := (HK.out.below (HB.out.mono hB) (Nat.le_refl _)).get m hlt
          have hsmx := HSM.out.get m hlt
          have hokx := fun (h : e.ks.list[m].okB kind d = true) => fun j (hj : j < e.ks.list.length) (hjm : j < m + 1) => by
            by_cases hjm2 : j < m
            · exact HP.out j hj hjm2
            · obtain rfl : j = m := by omega
              exact h
          have hbad := fun (h : e.ks.list[m].okB kind d = false) => show e.ks.okB kind d = false by
            cases hh : e.ks.okB kind d with
            | false => rfl
            | true => rw [Fo.okB_get.1 hh m hlt] at h; cases h
          obtain ⟨x, ex⟩ : ∃ x, x = e.ks.list[m] := ⟨_, rfl⟩
          rw [← ex] at d0 d1 hin hsmx hokx hbad
          have HIN := Lib.hid hin
          have hxa := hsmx.1
          have HXS := Lib.hid hsmx.2
          have HOK := Lib.hid hokx
          have HBAD := Lib.hid hbad
          clear ex hin hsmx hokx hbad
          have HW2 := Lib.hid (show Below wr.heap.size wr (wr.alloc (.cells #[.int .i64 x.op, .string x.a, .slice q n c] 25)) from (Below.refl _ _).alloc (Nat.le_refl _) _)
          go_wp2_with fail
          refine (IH.out x _ B _ (HIN.out.below (HW2.out.mono (by omega)) (Nat.le_refl _)) (by simp; omega) hxa HXS.out (by omega) (HV.out.below (HB.out.trans (HW2.out.mono (by omega))))).mono ?_
          rintro en w2 ⟨rfl, hb2⟩
          have HB2 := Lib.hid (below_past hb2)
          clear hb2
          cases hx : x.okB kind d with
          | false =>
            have HF := Lib.hid (HBAD.out hx)
            go_wp2_with fail
            go_ret
            exact ⟨by rw [HT.out]; simp only [Nat.add_sub_cancel]; rw [HF.out]; rfl, HB.out.trans (HB2.out.mono (by omega))⟩
          | true =>
            have HP2 := Lib.hid (HOK.out hx)
            go_wp2_with fail
            go_roundw
            case rel => exact ⟨m + 1, by omega, by go_num, HP2, HW.out.trans (HB2.out.mono hsz)⟩
            case measure => simp [intOf]; omega
        · obtain rfl : m = e.ks.list.length := by omega
          have HF := Lib.hid (show e.ks.okB kind d = true from Fo.okB_get.2 fun k h => HP.out k h h)
          go_wp2_with fail
          go_ret
          exact ⟨by rw [HT.out]; simp only [Nat.add_sub_cancel]; rw [HF.out]; rfl, HB.out⟩

def CntFo (e : Ex) : Prop := ∀ (k : Value) (B : Nat) (w : World), e.ks.In B w k → B ≤ w.heap.size →
  Calls Tryd.prog 73 #[.agg #[.int .i64 e.op, .string e.a, k]] w fun en w' => en = .returned (.int .i64 e.size) ∧ Below w.heap.size w w'
theorem Fo.sizes_get (f : Fo) (k : Nat) (h : k < f.list.length) : Fo.sizes (f.list.take (k + 1)) = Fo.sizes (f.list.take k) + f.list[k].size ∧ Fo.sizes (f.list.take (k + 1)) ≤ f.size := by
  refine ⟨Fo.sizes_succ _ _ h, ?_⟩
  rw [Fo.size_list]; exact Fo.sizes_le _ _
set_option maxRecDepth 100000 in
set_option maxHeartbeats 2000000 in
theorem countExpr_any (n : Nat) : ∀ e : Ex, e.ks.size ≤ n → n ≤ 1048576 → CntFo e := by
  induction n using Nat.strongRecOn with
  | _ n ih =>
    intro e hn hmax k B w hk hB
    have IH := Lib.hid ih
    clear ih
    obtain ⟨p, cap, rfl⟩ := hk.form
    obtain ⟨_, hm1, hm2⟩ := hk.max
    unfold maxLen at hm2
    have HK := Lib.hid hk
    clear hk
    have HB1 := Lib.hid (show Below w.heap.size w (w.alloc (.cells #[.int .i64 e.op, .string e.a, .slice p e.ks.list.length cap] 25)) from (Below.refl _ _).alloc (Nat.le_refl _) _)
    go_enter Tryd.func73, Tryd.ntmps73
    go_wp2_with fail
    go_loopw [3, 9] (fun c i wr => ∃ m : Nat, ∃ s : Int, m ≤ e.ks.list.length ∧ i = .int .i64 m ∧ c = .int .i64 s ∧ 0 ≤ s ∧ s ≤ 1048577 ∧ RowKit.Hid (s = 1 + Fo.sizes (e.ks.list.take m)) ∧ Below (w.heap.size + 1) (w.alloc (.cells #[.int .i64 e.op, .string e.a, .slice p e.ks.list.length cap] 25)) wr) (fun _ i _ => e.ks.list.length - (intOf i).toNat)
    case atStart => exact ⟨0, 1, Nat.zero_le _, rfl, rfl, by omega, by omega, Lib.hid (by simp [Fo.sizes]), Below.refl _ _⟩
    case round =>
      obtain ⟨m, s, hm, rfl, rfl, h0, h1, HS, hbw⟩ := hrel
      have hsz : w.heap.size + 1 ≤ wr.heap.size := by have := hbw.size; simp at this; omega
      have HB := Lib.hid (HB1.out.trans (hbw.mono (by omega)))
      have HW := Lib.hid hbw
      clear hbw
      by_cases hlt : m < e.ks.list.length
      · obtain ⟨b, off, q, l, c, rfl, hb, d0, d1, d2, hin⟩ := (HK.out.below (HB.out.mono hB) (Nat.le_refl _)).get m hlt
        have hsum := e.ks.sizes_get m hlt
        have hlt2 := e.ks.size_get m hlt
        have hih := IH.out e.ks.list[m].ks.size (by omega) e.ks.list[m] (Nat.le_refl _) (by omega)
        obtain ⟨x, ex⟩ : ∃ x, x = e.ks.list[m] := ⟨_, rfl⟩
        rw [← ex] at d0 d1 hin hsum hih
        have HIN := Lib.hid hin
        have HI := Lib.hid hih
        have HSUM := Lib.hid (show s + (x.size : Int) = 1 + Fo.sizes (e.ks.list.take (m + 1)) ∧ s + (x.size : Int) ≤ 1048577 by have := HS.out; omega)
        have hx1 : s + (x.size : Int) ≤ 1048577 := HSUM.out.2
        clear ex hin hsum hih hlt2
        have HW2 := Lib.hid (show Below wr.heap.size wr (wr.alloc (.cells #[.int .i64 x.op, .string x.a, .slice q l c] 25)) from (Below.refl _ _).alloc (Nat.le_refl _) _)
        go_wp2_with fail
        refine (HI.out _ B _ (HIN.out.below (HW2.out.mono (by omega)) (Nat.le_refl _)) (by simp; omega)).mono ?_
        rintro en w2 ⟨rfl, hb2⟩
        have HB2 := Lib.hid (below_past hb2)
        clear hb2
        go_wp2_with fail
        go_roundw
        case rel => exact ⟨m + 1, s + x.size, by omega, by go_num, rfl, by omega, hx1, Lib.hid HSUM.out.1, HW.out.trans (HB2.out.mono hsz)⟩
        case measure => simp [intOf]; omega
      · obtain rfl : m = e.ks.list.length := by omega
        have HE := Lib.hid (show s = (e.size : Int) by have := HS.out; rw [List.take_length, ← Fo.size_list] at this; unfold Ex.size; omega)
        go_wp2_with fail
        go_ret
        exact ⟨by rw [HE.out]; rfl, HB.out⟩

set_option maxRecDepth 100000 in
set_option maxHeartbeats 1000000 in
theorem exprValid_any (e : Ex) (v : Value) (kind : Int) (B : Nat) (w : World) (hv : e.At B w v) (hB : B ≤ w.heap.size) (ha : e.a.size ≤ 1048576) (hsm : e.ks.Sm) (hvars : Vars w) :
    Calls Tryd.prog 39 #[v, .int .i64 kind] w fun en w' => en = .returned (.bool (exV kind e)) ∧ Below w.heap.size w w' := by
  have HSM := Lib.hid hsm
  have HV := Lib.hid hvars
  clear hsm hvars
  obtain ⟨k, rfl, hk⟩ := hv
  obtain ⟨p, cap, rfl⟩ := hk.form
  have HK := Lib.hid hk
  clear hk
  have HB0 := Lib.hid (show Below w.heap.size w (w.alloc (.cells #[.int .i64 e.op, .string e.a, .slice p e.ks.list.length cap] 25)) from (Below.refl _ _).alloc (Nat.le_refl _) _)
  by_cases kd1 : kind = 1
  · subst kd1
    go_enter Tryd.func39, Tryd.ntmps39
    go_wp2_with fail
    refine (exprWaysValid_any 1 12 e _ B _ (HK.out.below (HB0.out.mono hB) (Nat.le_refl _)) (by simp; omega) ha HSM.out (by omega) (HV.out.below HB0.out)).mono ?_
    rintro en w1 ⟨rfl, hb1⟩
    have c0 := new_cell hb1 (j := 0) rfl
    have c1 := new_cell hb1 (j := 1) rfl
    have c2 := new_cell hb1 (j := 2) rfl
    have hs1 : w.heap.size < w1.heap.size := by have := hb1.size; simp at this; omega
    have HB1 := Lib.hid (below_past hb1)
    clear hb1
    cases hw : e.okB 1 12 with
    | false =>
      have HT := Lib.hid (show exV 1 e = false by unfold exV; rw [hw]; simp)
      go_wp2_with fail
      go_ret
      exact ⟨by rw [HT.out]; rfl, HB1.out⟩
    | true =>
      have hsz := Ex.size_ok hw
      have HT := Lib.hid (show exV 1 e = decide ((e.size : Int) ≤ 20) by unfold exV; rw [hw]; simp; omega)
      have hes : e.ks.size ≤ 4095 := by unfold Ex.size at hsz; omega
      go_wp2_with fail
      refine (countExpr_any 4095 e hes (by omega) _ B _ (HK.out.below (HB1.out.mono hB) (Nat.le_refl _)) (by omega)).mono ?_
      rintro en w2 ⟨rfl, hb2⟩
      have HB2 := Lib.hid (HB1.out.trans (hb2.mono (by omega)))
      clear hb2
      go_wp2_with fail
      go_ret
      exact ⟨by rw [HT.out]; rfl, HB2.out⟩
  by_cases kd2 : kind = 2
  · subst kd2
    go_enter Tryd.func39, Tryd.ntmps39
    go_wp2_with fail
    refine (exprWaysValid_any 2 12 e _ B _ (HK.out.below (HB0.out.mono hB) (Nat.le_refl _)) (by simp; omega) ha HSM.out (by omega) (HV.out.below HB0.out)).mono ?_
    rintro en w1 ⟨rfl, hb1⟩
    have c0 := new_cell hb1 (j := 0) rfl
    have c1 := new_cell hb1 (j := 1) rfl
    have c2 := new_cell hb1 (j := 2) rfl
    have hs1 : w.heap.size < w1.heap.size := by have := hb1.size; simp at this; omega
    have HB1 := Lib.hid (below_past hb1)
    clear hb1
    cases hw : e.okB 2 12 with
    | false =>
      have HT := Lib.hid (show exV 2 e = false by unfold exV; rw [hw]; simp)
      go_wp2_with fail
      go_ret
      exact ⟨by rw [HT.out]; rfl, HB1.out⟩
    | true =>
      have hsz := Ex.size_ok hw
      have HT := Lib.hid (show exV 2 e = decide ((e.size : Int) ≤ 20) by unfold exV; rw [hw]; simp; omega)
      have hes : e.ks.size ≤ 4095 := by unfold Ex.size at hsz; omega
      go_wp2_with fail
      refine (countExpr_any 4095 e hes (by omega) _ B _ (HK.out.below (HB1.out.mono hB) (Nat.le_refl _)) (by omega)).mono ?_
      rintro en w2 ⟨rfl, hb2⟩
      have HB2 := Lib.hid (HB1.out.trans (hb2.mono (by omega)))
      clear hb2
      go_wp2_with fail
      go_ret
      exact ⟨by rw [HT.out]; rfl, HB2.out⟩
  have k1 : (kind == 1) = false := beq_eq_false_iff_ne.2 kd1
  have k2 : (kind == 2) = false := beq_eq_false_iff_ne.2 kd2
  have k1' : (kind != 1) = true := by simpa using kd1
  have k2' : (kind != 2) = true := by simpa using kd2
  have HT := Lib.hid (show exV kind e = false by unfold exV; rw [decide_eq_false kd1, decide_eq_false kd2]; rfl)
  clear kd1 kd2
  go_enter Tryd.func39, Tryd.ntmps39
  go_wp2_with fail
  go_ret
  exact ⟨by rw [HT.out]; rfl, HB0.out⟩
end Go.Proofs.YtbbemeaojmfndaaDoor
