/- spec.ExprValid and its parts. -/
import Derived.Test.YtbbemeaojmfndaaDoorSNum
import Derived.Test.YtbbemeaojmfndaaDoorExV
namespace Go.Proofs.YtbbemeaojmfndaaDoor
open Go.RowKit

theorem nm_iff (v : Int) : nm v = true ↔ 0 ≤ v ∧ v ≤ 99 := by unfold nm; simp
theorem condB_num {s : ByteArray} {c : UInt8} {r : List UInt8} (hl : s.data.toList = c :: r) (hc : isS c = true) : condB s = match num14 r with | some v => nm v | none => false := by
  unfold condB
  rw [cond_cons hl hc]
  cases h : num14 r with
  | none =>
    cases h9 : num99 r with
    | none => rfl
    | some n =>
      have := ((num14_99 r (n : Int)).2 ⟨by simpa using h9, by omega⟩).1
      rw [h] at this; cases this
  | some v =>
    show _ = nm v
    cases hv : nm v with
    | true =>
      obtain ⟨h0, h1⟩ := (nm_iff v).1 hv
      have := ((num14_99 r v).1 ⟨h, h0, h1⟩).1
      rw [this]; rfl
    | false =>
      cases h9 : num99 r with
      | none => rfl
      | some n =>
        have h2 := ((num14_99 r (n : Int)).2 ⟨by simpa using h9, by omega⟩)
        rw [h] at h2
        have e := Option.some.inj h2.1
        subst e
        rw [(nm_iff _).2 h2.2] at hv; cases hv
theorem condB_short {s : ByteArray} (h : s.size < 2) : condB s = false := by
  unfold condB
  rw [cond_of]
  cases hl : s.data.toList with
  | nil => rfl
  | cons c r =>
    have : r = [] := List.eq_nil_of_length_eq_zero (by have := congrArg List.length hl; rw [len_toList] at this; simp at this; omega)
    subst this
    simp [num99]
theorem condB_sign {s : ByteArray} (h0 : 0 < s.size) (h : isS s[0] = false) : condB s = false := by
  unfold condB
  rw [cond_of, head_at h0]
  simp [h]
theorem isS_iff (c : UInt8) : isS c = true ↔ c.toNat = 60 ∨ c.toNat = 61 ∨ c.toNat = 62 := by simp [isS]

set_option maxRecDepth 100000 in
set_option maxHeartbeats 2000000 in
theorem l2Atom_any (s : ByteArray) (kind : Int) (w : World) (hs : s.size ≤ 1048576) :
    Calls Tryd.prog 96 #[.string s, .int .i64 kind] w fun e w' => e = .returned (.bool (atomB kind s)) ∧ w' = w := by
  by_cases hk : kind = 1
  · subst hk
    go_enter Tryd.func96, Tryd.ntmps96
    go_wp2_with fail
    refine (specLabelValid_any s _ (by unfold maxLen; omega)).mono ?_
    rintro e w1 ⟨rfl, rfl⟩
    go_wp2_with fail
    go_ret
    exact ⟨by rw [show atomB 1 s = lv s from rfl]; rfl, rfl⟩
  · have hk1 : (kind == 1) = false := beq_eq_false_iff_ne.2 hk
    have HA := Lib.hid (show atomB kind s = condB s by unfold atomB; rw [if_neg hk])
    clear hk
    by_cases h2 : s.size < 2
    · have HF := Lib.hid (show atomB kind s = false by rw [HA.out, condB_short h2])
      have b2 : decide ((s.size : Int) < 2) = true := by simp; omega
      go_enter Tryd.func96, Tryd.ntmps96
      go_wp2_with fail
      go_ret
      exact ⟨by rw [HF.out]; rfl, rfl⟩
    have b2 : decide ((s.size : Int) < 2) = false := by simp; omega
    have hpos : 0 < s.size := by omega
    have j1 : (1 : Int) ≤ (s.size : Int) := by omega
    cases hS : isS s[0] with
    | false =>
      have HF := Lib.hid (show atomB kind s = false by rw [HA.out, condB_sign hpos hS])
      have n60 : ((s[0].toNat : Int) == 60) = false := by rw [beq_eq_false_iff_ne]; intro e; rw [(isS_iff _).2 (by omega)] at hS; cases hS
      have n61 : ((s[0].toNat : Int) == 61) = false := by rw [beq_eq_false_iff_ne]; intro e; rw [(isS_iff _).2 (by omega)] at hS; cases hS
      have n62 : ((s[0].toNat : Int) == 62) = false := by rw [beq_eq_false_iff_ne]; intro e; rw [(isS_iff _).2 (by omega)] at hS; cases hS
      have m60 : ((s[0].toNat : Int) != 60) = true := by rw [bne, n60]; rfl
      have m61 : ((s[0].toNat : Int) != 61) = true := by rw [bne, n61]; rfl
      have m62 : ((s[0].toNat : Int) != 62) = true := by rw [bne, n62]; rfl
      clear hS
      go_enter Tryd.func96, Tryd.ntmps96
      go_wp2_with fail
      go_ret
      exact ⟨by rw [HF.out]; rfl, rfl⟩
    | true =>
      have HS := Lib.hid hS
      have hc := (isS_iff _).1 hS
      have hcc : ((s[0].toNat : Int) != 60) = false ∨ (((s[0].toNat : Int) != 60) = true ∧ ((s[0].toNat : Int) != 61) = false) ∨ (((s[0].toNat : Int) != 60) = true ∧ ((s[0].toNat : Int) != 61) = true ∧ ((s[0].toNat : Int) != 62) = false) := by
        rcases hc with e | e | e <;> simp [e]
      clear hS hc
      rcases hcc with m60 | ⟨m60, m61⟩ | ⟨m60, m61, m62⟩
      all_goals
        go_enter Tryd.func96, Tryd.ntmps96
        go_wp2_with fail
        refine (l14Num_any (s.extract 1 s.size) _ (by rw [ByteArray.size_extract]; omega)).mono ?_
        rintro e w' ⟨he, rfl⟩
        unfold NumR at he
        subst he
        have HC := Lib.hid (condB_num (head_at (s := s) (by omega)) HS.out)
        rw [show (s.extract 1 s.size).data.toList = s.data.toList.tail from by simp [ByteArray.data_extract, List.extract_eq_take_drop]; rw [List.take_of_length_le (by simp)]]
        cases hn : num14 s.data.toList.tail with
        | none =>
          have HF := Lib.hid (show atomB kind s = false by rw [HA.out, HC.out, hn])
          go_wp2_with fail
          go_ret
          exact ⟨by rw [HF.out]; rfl, rfl⟩
        | some v =>
          have HF := Lib.hid (show atomB kind s = nm v by rw [HA.out, HC.out, hn])
          go_wp2_with fail
          refine (l1Num_any v _).mono ?_
          rintro e w' ⟨rfl, rfl⟩
          go_wp2_with fail
          go_ret
          exact ⟨by rw [HF.out]; rfl, rfl⟩

set_option maxRecDepth 100000 in
set_option maxHeartbeats 8000000 in
theorem l2Is_any (kind : Int) (d : Nat) : ∀ (e : Ex) (k : Value) (B : Nat) (w : World), e.ks.In B w k → B ≤ w.heap.size → e.a.size ≤ 1048576 → e.ks.Sm → d ≤ 12 →
    Calls Tryd.prog 92 #[.agg #[.int .i64 e.op, .string e.a, k], .int .i64 kind, .int .i64 d] w fun en w' => en = .returned (.bool (e.okB kind d)) ∧ Below w.heap.size w w' := by
  induction d with
  | zero =>
    intro e k B w hk hB ha hsm hd
    obtain ⟨p, cap, rfl⟩ := hk.form
    have HT := Lib.hid (Ex.okB_zero kind e)
    clear hk hsm
    go_enter Tryd.func92, Tryd.ntmps92
    go_wp2_with fail
    go_ret
    exact ⟨by rw [HT.out]; rfl, (Below.refl _ _).alloc (Nat.le_refl _) _⟩
  | succ d ih =>
    intro e k B w hk hB ha hsm hd
    have IH := Lib.hid ih
    have HSM := Lib.hid hsm
    clear ih hsm
    obtain ⟨p, cap, rfl⟩ := hk.form
    obtain ⟨_, hm1, hm2⟩ := hk.max
    unfold maxLen at hm2
    have HK := Lib.hid hk
    clear hk
    have hd0 : (((d + 1 : Nat) : Int) == 0) = false := by rw [beq_eq_false_iff_ne]; omega
    have hd0' : ((d : Int) + 1 == 0) = false := by rw [beq_eq_false_iff_ne]; omega
    have HB0 := Lib.hid (show ∀ o : Int, Below w.heap.size w (w.alloc (.cells #[.int .i64 o, .string e.a, .slice p e.ks.list.length cap] 25)) from fun o => (Below.refl _ _).alloc (Nat.le_refl _) _)
    by_cases oo : e.op = 1
    · have HE := Lib.hid (show e.okB kind (d + 1) = (atomB kind e.a && decide (e.ks.list.length = 0)) by
        unfold Ex.okB topB
        rw [oo, if_pos rfl]
        by_cases hl : e.ks.list.length = 0
        · have hz : e.ks.okB kind (d + 1 - 1) = true := Fo.okB_get.2 fun k hk => by omega
          rw [hz]; simp [hl]
        · simp [hl])
      rw [oo]
      go_enter Tryd.func92, Tryd.ntmps92
      go_wp2_with fail
      refine (l2Atom_any e.a kind _ ha).mono ?_
      rintro en w1 ⟨rfl, rfl⟩
      cases hat : atomB kind e.a with
      | false =>
        have HT := Lib.hid (show e.okB kind (d + 1) = false by rw [HE.out, hat]; rfl)
        go_wp2_with fail
        go_ret
        exact ⟨by rw [HT.out]; rfl, HB0.out 1⟩
      | true =>
        have HT := Lib.hid (show e.okB kind (d + 1) = ((e.ks.list.length : Int) == 0) by
          rw [HE.out, hat, Bool.true_and]
          cases hl : decide (e.ks.list.length = 0) with
          | true => have := of_decide_eq_true hl; rw [this]; rfl
          | false => have := of_decide_eq_false hl; symm; rw [beq_eq_false_iff_ne]; omega)
        go_wp2_with fail
        go_ret
        exact ⟨by rw [HT.out]; rfl, HB0.out 1⟩
    by_cases oo : e.op = 2
    · by_cases ha0 : e.a.size = 0
      · have h1 := str_empty ha0
        have h2 := str_empty' ha0
        have HT := Lib.hid (show e.okB kind (d + 1) = ((e.ks.list.length : Int) == 0) by
          unfold Ex.okB topB
          rw [oo]
          by_cases hl : e.ks.list.length = 0
          · have hz : e.ks.okB kind (d + 1 - 1) = true := Fo.okB_get.2 fun k hk => by omega
            rw [hz]; simp [hl, ha0]
          · have : ((e.ks.list.length : Int) == 0) = false := by rw [beq_eq_false_iff_ne]; omega
            rw [this]; simp [hl])
        rw [oo]
        go_enter Tryd.func92, Tryd.ntmps92
        go_wp2_with fail
        go_ret
        exact ⟨by rw [HT.out]; rfl, HB0.out 2⟩
      · have HT := Lib.hid (Ex.okB_bad (d := d + 1) (show topB kind e.op e.a e.ks.list.length = false by rw [oo]; simp [topB, ha0]))
        have h1 := str_nonempty (s := e.a) (by omega)
        have h2 := str_nonempty'' (s := e.a) (by omega)
        rw [oo]
        go_enter Tryd.func92, Tryd.ntmps92
        go_wp2_with fail
        go_ret
        exact ⟨by rw [HT.out]; rfl, HB0.out 2⟩
    by_cases oo : e.op = 3
    · skip
      by_cases ha0 : e.a.size = 0
      · by_cases hl : e.ks.list.length = 1
        · have htop : topB kind e.op e.a e.ks.list.length = true := by rw [oo, hl]; simp [topB, ha0]
          rw [oo]
          have HT := Lib.hid (show e.okB kind (d + 1) = e.ks.okB kind d from Ex.okB_top (d := d + 1) (by omega) htop)
          have h1 := str_empty ha0
          have h2 := str_empty' ha0
          have HL := Lib.hid hl
          have hl1 : e.ks.list.length = 1 := hl
          rw [hl1] at hm1
          clear htop hl ha0 hl1
          go_enter Tryd.func92, Tryd.ntmps92
          rw [HL.out]
          go_wp2_with fail
          go_loopw [8] (fun i wr => ∃ m : Nat, m ≤ 1 ∧ i = .int .i64 m ∧ RowKit.Hid (∀ j (h : j < e.ks.list.length), j < m → e.ks.list[j].okB kind d = true) ∧ Below (w.heap.size + 1) (w.alloc (.cells #[.int .i64 3, .string e.a, .slice p 1 cap] 25)) wr) (fun i _ => 1 - (intOf i).toNat)
          case atStart => exact ⟨0, Nat.zero_le _, rfl, Lib.hid (fun j h hj => by omega), Below.refl _ _⟩
          case round =>
            obtain ⟨m, hm, rfl, HP, hbw⟩ := hrel
            have hsz : w.heap.size + 1 ≤ wr.heap.size := by have := hbw.size; simp at this; omega
            have HB := Lib.hid ((show Below w.heap.size w (w.alloc (.cells #[.int .i64 3, .string e.a, .slice p 1 cap] 25)) from (Below.refl _ _).alloc (Nat.le_refl _) _).trans (hbw.mono (by omega)))
            have k2 := keepc hbw (by omega : w.heap.size < w.heap.size + 1) (show (w.alloc (.cells #[.int .i64 3, .string e.a, .slice p 1 cap] 25)).cell? ⟨w.heap.size, 2, none⟩ = some (.slice p 1 cap) by simp [go_sem])
            have HW := Lib.hid hbw
            clear hbw
            by_cases hlt : m < 1
            · have hlt' : m < e.ks.list.length := by rw [HL.out]; exact hlt
              obtain ⟨b, off, q, n, c, rfl, hb, d0, d1, d2, hin⟩ := (HK.out.below (HB.out.mono hB) (Nat.le_refl _)).get m hlt'
              have hsmx := HSM.out.get m hlt'
              have hokx := fun (h : e.ks.list[m].okB kind d = true) => fun j (hj : j < e.ks.list.length) (hjm : j < m + 1) => by
                by_cases hjm2 : j < m
                · exact HP.out j hj hjm2
                · obtain rfl : j = m := by omega
                  exact h
              have hbad := fun (h : e.ks.list[m].okB kind d = false) => show e.ks.okB kind d = false by
                cases hh : e.ks.okB kind d with
                | false => rfl
                | true => rw [Fo.okB_get.1 hh m hlt'] at h; cases h
              obtain ⟨x, ex⟩ : ∃ x, x = e.ks.list[m] := ⟨_, rfl⟩
              rw [← ex] at d0 d1 hin hsmx hokx hbad
              have HIN := Lib.hid hin
              have hxa := hsmx.1
              have HXS := Lib.hid hsmx.2
              have HOK := Lib.hid hokx
              have HBAD := Lib.hid hbad
              clear ex hin hsmx hokx hbad hlt'
              go_wp2_with fail
              refine (IH.out x _ B _ HIN.out (by omega) hxa HXS.out (by omega)).mono ?_
              rintro en w2 ⟨rfl, hb2⟩
              have HB2 := Lib.hid hb2
              clear hb2
              cases hx : x.okB kind d with
              | false =>
                have HF := Lib.hid (HBAD.out hx)
                go_wp2_with fail
                go_ret
                exact ⟨by rw [HT.out, HF.out]; rfl, HB.out.trans (HB2.out.mono (by omega))⟩
              | true =>
                have HP2 := Lib.hid (HOK.out hx)
                go_wp2_with fail
                go_roundw
                case rel => exact ⟨m + 1, by omega, by go_num, HP2, HW.out.trans (HB2.out.mono hsz)⟩
                case measure => simp [intOf]; omega
            · obtain rfl : m = 1 := by omega
              have HF := Lib.hid (show e.ks.okB kind d = true from Fo.okB_get.2 fun k h => HP.out k h (by rw [← HL.out]; exact h))
              go_wp2_with fail
              go_ret
              exact ⟨by rw [HT.out, HF.out]; rfl, HB.out⟩
        · have HT := Lib.hid (Ex.okB_bad (d := d + 1) (show topB kind e.op e.a e.ks.list.length = false by rw [oo]; simp [topB, hl]))
          have h1 := str_empty ha0
          have h2 := str_empty' ha0
          have b1 : ((e.ks.list.length : Int) == 1) = false := by rw [beq_eq_false_iff_ne]; omega
          have b2 : ((e.ks.list.length : Int) != 1) = true := by simp; omega
          rw [oo]
          go_enter Tryd.func92, Tryd.ntmps92
          go_wp2_with fail
          go_ret
          exact ⟨by rw [HT.out]; rfl, HB0.out _⟩
      · have HT := Lib.hid (Ex.okB_bad (d := d + 1) (show topB kind e.op e.a e.ks.list.length = false by rw [oo]; simp [topB, ha0]))
        have h1 := str_nonempty (s := e.a) (by omega)
        have h2 := str_nonempty'' (s := e.a) (by omega)
        rw [oo]
        go_enter Tryd.func92, Tryd.ntmps92
        go_wp2_with fail
        go_ret
        exact ⟨by rw [HT.out]; rfl, HB0.out _⟩
    by_cases oo : e.op = 4
    · skip
      by_cases ha0 : e.a.size = 0
      · by_cases hl : e.ks.list.length = 2
        · have htop : topB kind e.op e.a e.ks.list.length = true := by rw [oo, hl]; simp [topB, ha0]
          rw [oo]
          have HT := Lib.hid (show e.okB kind (d + 1) = e.ks.okB kind d from Ex.okB_top (d := d + 1) (by omega) htop)
          have h1 := str_empty ha0
          have h2 := str_empty' ha0
          have HL := Lib.hid hl
          have hl1 : e.ks.list.length = 2 := hl
          rw [hl1] at hm1
          clear htop hl ha0 hl1
          go_enter Tryd.func92, Tryd.ntmps92
          rw [HL.out]
          go_wp2_with fail
          go_loopw [8] (fun i wr => ∃ m : Nat, m ≤ 2 ∧ i = .int .i64 m ∧ RowKit.Hid (∀ j (h : j < e.ks.list.length), j < m → e.ks.list[j].okB kind d = true) ∧ Below (w.heap.size + 1) (w.alloc (.cells #[.int .i64 4, .string e.a, .slice p 2 cap] 25)) wr) (fun i _ => 2 - (intOf i).toNat)
          case atStart => exact ⟨0, Nat.zero_le _, rfl, Lib.hid (fun j h hj => by omega), Below.refl _ _⟩
          case round =>
            obtain ⟨m, hm, rfl, HP, hbw⟩ := hrel
            have hsz : w.heap.size + 1 ≤ wr.heap.size := by have := hbw.size; simp at this; omega
            have HB := Lib.hid ((show Below w.heap.size w (w.alloc (.cells #[.int .i64 4, .string e.a, .slice p 2 cap] 25)) from (Below.refl _ _).alloc (Nat.le_refl _) _).trans (hbw.mono (by omega)))
            have k2 := keepc hbw (by omega : w.heap.size < w.heap.size + 1) (show (w.alloc (.cells #[.int .i64 4, .string e.a, .slice p 2 cap] 25)).cell? ⟨w.heap.size, 2, none⟩ = some (.slice p 2 cap) by simp [go_sem])
            have HW := Lib.hid hbw
            clear hbw
            by_cases hlt : m < 2
            · have hlt' : m < e.ks.list.length := by rw [HL.out]; exact hlt
              obtain ⟨b, off, q, n, c, rfl, hb, d0, d1, d2, hin⟩ := (HK.out.below (HB.out.mono hB) (Nat.le_refl _)).get m hlt'
              have hsmx := HSM.out.get m hlt'
              have hokx := fun (h : e.ks.list[m].okB kind d = true) => fun j (hj : j < e.ks.list.length) (hjm : j < m + 1) => by
                by_cases hjm2 : j < m
                · exact HP.out j hj hjm2
                · obtain rfl : j = m := by omega
                  exact h
              have hbad := fun (h : e.ks.list[m].okB kind d = false) => show e.ks.okB kind d = false by
                cases hh : e.ks.okB kind d with
                | false => rfl
                | true => rw [Fo.okB_get.1 hh m hlt'] at h; cases h
              obtain ⟨x, ex⟩ : ∃ x, x = e.ks.list[m] := ⟨_, rfl⟩
              rw [← ex] at d0 d1 hin hsmx hokx hbad
              have HIN := Lib.hid hin
              have hxa := hsmx.1
              have HXS := Lib.hid hsmx.2
              have HOK := Lib.hid hokx
              have HBAD := Lib.hid hbad
              clear ex hin hsmx hokx hbad hlt'
              go_wp2_with fail
              refine (IH.out x _ B _ HIN.out (by omega) hxa HXS.out (by omega)).mono ?_
              rintro en w2 ⟨rfl, hb2⟩
              have HB2 := Lib.hid hb2
              clear hb2
              cases hx : x.okB kind d with
              | false =>
                have HF := Lib.hid (HBAD.out hx)
                go_wp2_with fail
                go_ret
                exact ⟨by rw [HT.out, HF.out]; rfl, HB.out.trans (HB2.out.mono (by omega))⟩
              | true =>
                have HP2 := Lib.hid (HOK.out hx)
                go_wp2_with fail
                go_roundw
                case rel => exact ⟨m + 1, by omega, by go_num, HP2, HW.out.trans (HB2.out.mono hsz)⟩
                case measure => simp [intOf]; omega
            · obtain rfl : m = 2 := by omega
              have HF := Lib.hid (show e.ks.okB kind d = true from Fo.okB_get.2 fun k h => HP.out k h (by rw [← HL.out]; exact h))
              go_wp2_with fail
              go_ret
              exact ⟨by rw [HT.out, HF.out]; rfl, HB.out⟩
        · have HT := Lib.hid (Ex.okB_bad (d := d + 1) (show topB kind e.op e.a e.ks.list.length = false by rw [oo]; simp [topB, hl]))
          have h1 := str_empty ha0
          have h2 := str_empty' ha0
          have b1 : ((e.ks.list.length : Int) == 2) = false := by rw [beq_eq_false_iff_ne]; omega
          have b2 : ((e.ks.list.length : Int) != 2) = true := by simp; omega
          rw [oo]
          go_enter Tryd.func92, Tryd.ntmps92
          go_wp2_with fail
          go_ret
          exact ⟨by rw [HT.out]; rfl, HB0.out _⟩
      · have HT := Lib.hid (Ex.okB_bad (d := d + 1) (show topB kind e.op e.a e.ks.list.length = false by rw [oo]; simp [topB, ha0]))
        have h1 := str_nonempty (s := e.a) (by omega)
        have h2 := str_nonempty'' (s := e.a) (by omega)
        rw [oo]
        go_enter Tryd.func92, Tryd.ntmps92
        go_wp2_with fail
        go_ret
        exact ⟨by rw [HT.out]; rfl, HB0.out _⟩
    by_cases oo : e.op = 5
    · skip
      by_cases ha0 : e.a.size = 0
      · by_cases hl : e.ks.list.length = 2
        · have htop : topB kind e.op e.a e.ks.list.length = true := by rw [oo, hl]; simp [topB, ha0]
          rw [oo]
          have HT := Lib.hid (show e.okB kind (d + 1) = e.ks.okB kind d from Ex.okB_top (d := d + 1) (by omega) htop)
          have h1 := str_empty ha0
          have h2 := str_empty' ha0
          have HL := Lib.hid hl
          have hl1 : e.ks.list.length = 2 := hl
          rw [hl1] at hm1
          clear htop hl ha0 hl1
          go_enter Tryd.func92, Tryd.ntmps92
          rw [HL.out]
          go_wp2_with fail
          go_loopw [8] (fun i wr => ∃ m : Nat, m ≤ 2 ∧ i = .int .i64 m ∧ RowKit.Hid (∀ j (h : j < e.ks.list.length), j < m → e.ks.list[j].okB kind d = true) ∧ Below (w.heap.size + 1) (w.alloc (.cells #[.int .i64 5, .string e.a, .slice p 2 cap] 25)) wr) (fun i _ => 2 - (intOf i).toNat)
          case atStart => exact ⟨0, Nat.zero_le _, rfl, Lib.hid (fun j h hj => by omega), Below.refl _ _⟩
          case round =>
            obtain ⟨m, hm, rfl, HP, hbw⟩ := hrel
            have hsz : w.heap.size + 1 ≤ wr.heap.size := by have := hbw.size; simp at this; omega
            have HB := Lib.hid ((show Below w.heap.size w (w.alloc (.cells #[.int .i64 5, .string e.a, .slice p 2 cap] 25)) from (Below.refl _ _).alloc (Nat.le_refl _) _).trans (hbw.mono (by omega)))
            have k2 := keepc hbw (by omega : w.heap.size < w.heap.size + 1) (show (w.alloc (.cells #[.int .i64 5, .string e.a, .slice p 2 cap] 25)).cell? ⟨w.heap.size, 2, none⟩ = some (.slice p 2 cap) by simp [go_sem])
            have HW := Lib.hid hbw
            clear hbw
            by_cases hlt : m < 2
            · have hlt' : m < e.ks.list.length := by rw [HL.out]; exact hlt
              obtain ⟨b, off, q, n, c, rfl, hb, d0, d1, d2, hin⟩ := (HK.out.below (HB.out.mono hB) (Nat.le_refl _)).get m hlt'
              have hsmx := HSM.out.get m hlt'
              have hokx := fun (h : e.ks.list[m].okB kind d = true) => fun j (hj : j < e.ks.list.length) (hjm : j < m + 1) => by
                by_cases hjm2 : j < m
                · exact HP.out j hj hjm2
                · obtain rfl : j = m := by omega
                  exact h
              have hbad := fun (h : e.ks.list[m].okB kind d = false) => show e.ks.okB kind d = false by
                cases hh : e.ks.okB kind d with
                | false => rfl
                | true => rw [Fo.okB_get.1 hh m hlt'] at h; cases h
              obtain ⟨x, ex⟩ : ∃ x, x = e.ks.list[m] := ⟨_, rfl⟩
              rw [← ex] at d0 d1 hin hsmx hokx hbad
              have HIN := Lib.hid hin
              have hxa := hsmx.1
              have HXS := Lib.hid hsmx.2
              have HOK := Lib.hid hokx
              have HBAD := Lib.hid hbad
              clear ex hin hsmx hokx hbad hlt'
              go_wp2_with fail
              refine (IH.out x _ B _ HIN.out (by omega) hxa HXS.out (by omega)).mono ?_
              rintro en w2 ⟨rfl, hb2⟩
              have HB2 := Lib.hid hb2
              clear hb2
              cases hx : x.okB kind d with
              | false =>
                have HF := Lib.hid (HBAD.out hx)
                go_wp2_with fail
                go_ret
                exact ⟨by rw [HT.out, HF.out]; rfl, HB.out.trans (HB2.out.mono (by omega))⟩
              | true =>
                have HP2 := Lib.hid (HOK.out hx)
                go_wp2_with fail
                go_roundw
                case rel => exact ⟨m + 1, by omega, by go_num, HP2, HW.out.trans (HB2.out.mono hsz)⟩
                case measure => simp [intOf]; omega
            · obtain rfl : m = 2 := by omega
              have HF := Lib.hid (show e.ks.okB kind d = true from Fo.okB_get.2 fun k h => HP.out k h (by rw [← HL.out]; exact h))
              go_wp2_with fail
              go_ret
              exact ⟨by rw [HT.out, HF.out]; rfl, HB.out⟩
        · have HT := Lib.hid (Ex.okB_bad (d := d + 1) (show topB kind e.op e.a e.ks.list.length = false by rw [oo]; simp [topB, hl]))
          have h1 := str_empty ha0
          have h2 := str_empty' ha0
          have b1 : ((e.ks.list.length : Int) == 2) = false := by rw [beq_eq_false_iff_ne]; omega
          have b2 : ((e.ks.list.length : Int) != 2) = true := by simp; omega
          rw [oo]
          go_enter Tryd.func92, Tryd.ntmps92
          go_wp2_with fail
          go_ret
          exact ⟨by rw [HT.out]; rfl, HB0.out _⟩
      · have HT := Lib.hid (Ex.okB_bad (d := d + 1) (show topB kind e.op e.a e.ks.list.length = false by rw [oo]; simp [topB, ha0]))
        have h1 := str_nonempty (s := e.a) (by omega)
        have h2 := str_nonempty'' (s := e.a) (by omega)
        rw [oo]
        go_enter Tryd.func92, Tryd.ntmps92
        go_wp2_with fail
        go_ret
        exact ⟨by rw [HT.out]; rfl, HB0.out _⟩
    rename_i o1 o2 o3 o4
    have HT := Lib.hid (Ex.okB_bad (d := d + 1) (show topB kind e.op e.a e.ks.list.length = false by simp [topB, o1, o2, o3, o4, oo]))
    have b1 : (e.op == 1) = false := beq_eq_false_iff_ne.2 o1
    have b2 : (e.op == 2) = false := beq_eq_false_iff_ne.2 o2
    have b3 : (e.op == 3) = false := beq_eq_false_iff_ne.2 o3
    by_cases hlt : e.op < 3
    · have b4 : decide (e.op < 3) = true := decide_eq_true hlt
      clear o1 o2 o3 o4 oo
      go_enter Tryd.func92, Tryd.ntmps92
      go_wp2_with fail
      go_ret
      exact ⟨by rw [HT.out]; rfl, HB0.out _⟩
    · have b4 : decide (e.op < 3) = false := decide_eq_false hlt
      have hgt : 5 < e.op := by omega
      have b5 : decide (5 < e.op) = true := decide_eq_true hgt
      clear o1 o2 o3 o4 oo
      go_enter Tryd.func92, Tryd.ntmps92
      go_wp2_with fail
      go_ret
      exact ⟨by rw [HT.out]; rfl, HB0.out _⟩

def CntS (e : Ex) : Prop := ∀ (k : Value) (B : Nat) (w : World), e.ks.In B w k → B ≤ w.heap.size →
  Calls Tryd.prog 93 #[.agg #[.int .i64 e.op, .string e.a, k]] w fun en w' => en = .returned (.int .i64 e.size) ∧ Below w.heap.size w w'
set_option maxRecDepth 100000 in
set_option maxHeartbeats 2000000 in
theorem l2Count_any (n : Nat) : ∀ e : Ex, e.ks.size ≤ n → n ≤ 1048576 → CntS e := by
  induction n using Nat.strongRecOn with
  | _ n ih =>
    intro e hn hmax k B w hk hB
    have IH := Lib.hid ih
    clear ih
    obtain ⟨p, cap, rfl⟩ := hk.form
    obtain ⟨_, hm1, hm2⟩ := hk.max
    unfold maxLen at hm2
    have HK := Lib.hid hk
    clear hk
    have HB1 := Lib.hid (show Below w.heap.size w (w.alloc (.cells #[.int .i64 e.op, .string e.a, .slice p e.ks.list.length cap] 25)) from (Below.refl _ _).alloc (Nat.le_refl _) _)
    go_enter Tryd.func93, Tryd.ntmps93
    go_wp2_with fail
    go_loopw [3, 4] (fun c i wr => ∃ m : Nat, ∃ s : Int, m ≤ e.ks.list.length ∧ i = .int .i64 m ∧ c = .int .i64 s ∧ 0 ≤ s ∧ s ≤ 1048577 ∧ RowKit.Hid (s = 1 + Fo.sizes (e.ks.list.take m)) ∧ Below (w.heap.size + 1) (w.alloc (.cells #[.int .i64 e.op, .string e.a, .slice p e.ks.list.length cap] 25)) wr) (fun _ i _ => e.ks.list.length - (intOf i).toNat)
    case atStart => exact ⟨0, 1, Nat.zero_le _, rfl, rfl, by omega, by omega, Lib.hid (by simp [Fo.sizes]), Below.refl _ _⟩
    case round =>
      obtain ⟨m, s, hm, rfl, rfl, h0, h1, HS, hbw⟩ := hrel
      have hsz : w.heap.size + 1 ≤ wr.heap.size := by have := hbw.size; simp at this; omega
      have HB := Lib.hid (HB1.out.trans (hbw.mono (by omega)))
      have k2 := keepc hbw (by omega : w.heap.size < w.heap.size + 1) (show (w.alloc (.cells #[.int .i64 e.op, .string e.a, .slice p e.ks.list.length cap] 25)).cell? ⟨w.heap.size, 2, none⟩ = some (.slice p e.ks.list.length cap) by simp [go_sem])
      have HW := Lib.hid hbw
      clear hbw
      by_cases hlt : m < e.ks.list.length
      · obtain ⟨b, off, q, l, c, rfl, hb, d0, d1, d2, hin⟩ := (HK.out.below (HB.out.mono hB) (Nat.le_refl _)).get m hlt
        have hsum := e.ks.sizes_get m hlt
        have hlt2 := e.ks.size_get m hlt
        have hih := IH.out e.ks.list[m].ks.size (by omega) e.ks.list[m] (Nat.le_refl _) (by omega)
        obtain ⟨x, ex⟩ : ∃ x, x = e.ks.list[m] := ⟨_, rfl⟩
        rw [← ex] at d0 d1 hin hsum hih
        have HIN := Lib.hid hin
        have HI := Lib.hid hih
        have HSUM := Lib.hid (show s + (x.size : Int) = 1 + Fo.sizes (e.ks.list.take (m + 1)) ∧ s + (x.size : Int) ≤ 1048577 by have := HS.out; omega)
        have hx1 : s + (x.size : Int) ≤ 1048577 := HSUM.out.2
        clear ex hin hsum hih hlt2
        go_wp2_with fail
        refine (HI.out _ B _ HIN.out (by omega)).mono ?_
        rintro en w2 ⟨rfl, hb2⟩
        have HB2 := Lib.hid hb2
        clear hb2
        go_wp2_with fail
        go_roundw
        case rel => exact ⟨m + 1, s + x.size, by omega, by go_num, rfl, by omega, hx1, Lib.hid HSUM.out.1, HW.out.trans (HB2.out.mono hsz)⟩
        case measure => simp [intOf]; omega
      · obtain rfl : m = e.ks.list.length := by omega
        have HE := Lib.hid (show s = (e.size : Int) by have := HS.out; rw [List.take_length, ← Fo.size_list] at this; unfold Ex.size; omega)
        go_wp2_with fail
        go_ret
        exact ⟨by rw [HE.out]; rfl, HB.out⟩

set_option maxRecDepth 100000 in
set_option maxHeartbeats 1000000 in
theorem specExprValid_any (e : Ex) (v : Value) (kind : Int) (B : Nat) (w : World) (hv : e.At B w v) (hB : B ≤ w.heap.size) (ha : e.a.size ≤ 1048576) (hsm : e.ks.Sm) :
    Calls Tryd.prog 84 #[v, .int .i64 kind] w fun en w' => en = .returned (.bool (exV kind e)) ∧ Below w.heap.size w w' := by
  have HSM := Lib.hid hsm
  clear hsm
  obtain ⟨k, rfl, hk⟩ := hv
  obtain ⟨p, cap, rfl⟩ := hk.form
  have HK := Lib.hid hk
  clear hk
  have HB0 := Lib.hid (show Below w.heap.size w (w.alloc (.cells #[.int .i64 e.op, .string e.a, .slice p e.ks.list.length cap] 25)) from (Below.refl _ _).alloc (Nat.le_refl _) _)
  by_cases kd1 : kind = 1
  · subst kd1
    go_enter Tryd.func84, Tryd.ntmps84
    go_wp2_with fail
    refine (l2Is_any 1 12 e _ B _ (HK.out.below (HB0.out.mono hB) (Nat.le_refl _)) (by simp; omega) ha HSM.out (by omega)).mono ?_
    rintro en w1 ⟨rfl, hb1⟩
    have c0 := new_cell hb1 (j := 0) rfl
    have c1 := new_cell hb1 (j := 1) rfl
    have c2 := new_cell hb1 (j := 2) rfl
    have hs1 : w.heap.size < w1.heap.size := by have := hb1.size; simp at this; omega
    have HB1 := Lib.hid (below_past hb1)
    clear hb1
    cases hw : e.okB 1 12 with
    | false =>
      have HT := Lib.hid (show exV 1 e = false by unfold exV; rw [hw]; simp)
      go_wp2_with fail
      go_ret
      exact ⟨by rw [HT.out]; rfl, HB1.out⟩
    | true =>
      have hsz := Ex.size_ok hw
      have HT := Lib.hid (show exV 1 e = decide ((e.size : Int) ≤ 20) by unfold exV; rw [hw]; simp; omega)
      have hes : e.ks.size ≤ 4095 := by unfold Ex.size at hsz; omega
      go_wp2_with fail
      refine (l2Count_any 4095 e hes (by omega) _ B _ (HK.out.below (HB1.out.mono hB) (Nat.le_refl _)) (by omega)).mono ?_
      rintro en w2 ⟨rfl, hb2⟩
      have HB2 := Lib.hid (HB1.out.trans (hb2.mono (by omega)))
      clear hb2
      go_wp2_with fail
      go_ret
      exact ⟨by rw [HT.out]; rfl, HB2.out⟩
  by_cases kd2 : kind = 2
  · subst kd2
    go_enter Tryd.func84, Tryd.ntmps84
    go_wp2_with fail
    refine (l2Is_any 2 12 e _ B _ (HK.out.below (HB0.out.mono hB) (Nat.le_refl _)) (by simp; omega) ha HSM.out (by omega)).mono ?_
    rintro en w1 ⟨rfl, hb1⟩
    have c0 := new_cell hb1 (j := 0) rfl
    have c1 := new_cell hb1 (j := 1) rfl
    have c2 := new_cell hb1 (j := 2) rfl
    have hs1 : w.heap.size < w1.heap.size := by have := hb1.size; simp at this; omega
    have HB1 := Lib.hid (below_past hb1)
    clear hb1
    cases hw : e.okB 2 12 with
    | false =>
      have HT := Lib.hid (show exV 2 e = false by unfold exV; rw [hw]; simp)
      go_wp2_with fail
      go_ret
      exact ⟨by rw [HT.out]; rfl, HB1.out⟩
    | true =>
      have hsz := Ex.size_ok hw
      have HT := Lib.hid (show exV 2 e = decide ((e.size : Int) ≤ 20) by unfold exV; rw [hw]; simp; omega)
      have hes : e.ks.size ≤ 4095 := by unfold Ex.size at hsz; omega
      go_wp2_with fail
      refine (l2Count_any 4095 e hes (by omega) _ B _ (HK.out.below (HB1.out.mono hB) (Nat.le_refl _)) (by omega)).mono ?_
      rintro en w2 ⟨rfl, hb2⟩
      have HB2 := Lib.hid (HB1.out.trans (hb2.mono (by omega)))
      clear hb2
      go_wp2_with fail
      go_ret
      exact ⟨by rw [HT.out]; rfl, HB2.out⟩
  have k1 : (kind == 1) = false := beq_eq_false_iff_ne.2 kd1
  have k2 : (kind == 2) = false := beq_eq_false_iff_ne.2 kd2
  have HT := Lib.hid (show exV kind e = false by unfold exV; rw [decide_eq_false kd1, decide_eq_false kd2]; rfl)
  clear kd1 kd2
  go_enter Tryd.func84, Tryd.ntmps84
  go_wp2_with fail
  go_ret
  exact ⟨by rw [HT.out]; rfl, HB0.out⟩
end Go.Proofs.YtbbemeaojmfndaaDoor
