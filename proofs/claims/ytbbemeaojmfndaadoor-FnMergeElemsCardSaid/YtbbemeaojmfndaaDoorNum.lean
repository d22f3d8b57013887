/- impl.reader.takeNumber, over strconv. -/
import Derived.Test.YtbbemeaojmfndaaDoorM0q0p1
import Derived.Deep.RegionHeld3
import Derived.Deep.LoopGhost
import Derived.Lib.AppendIntMem
import Derived.Lib.SmallJoins
import Derived.Lib.AtoiErrMem
namespace Go.Proofs.YtbbemeaojmfndaaDoor
open Go.RowKit

/-- The library's variables hold what they begin with. -/
def Vars (w : World) : Prop := (∃ tp p, w.var? Tryd.prog "strconv.ErrSyntax" = some #[.iface tp p]) ∧ (∃ tp p, w.var? Tryd.prog "strconv.ErrRange" = some #[.iface tp p]) ∧ Lib.TabIs Tryd.prog w "internal/strconv.uint64pow10" .u64 Lib.pow10Tab
theorem gES : Tryd.prog.globalNamed "strconv.ErrSyntax" = some 1 := by kernel_rfl
theorem gER : Tryd.prog.globalNamed "strconv.ErrRange" = some 2 := by kernel_rfl
theorem gPT : Tryd.prog.globalNamed "internal/strconv.uint64pow10" = some 3 := by kernel_rfl
theorem var_block {w : World} {n : String} {g : Nat} {cs : Array Value} (hg : Tryd.prog.globalNamed n = some g) (h : w.var? Tryd.prog n = some cs) : ∃ T r, w.heap[g]? = some (.cells cs T r) := by
  unfold World.var? at h
  rw [hg] at h
  simp only [Option.bind_some] at h
  split at h
  · rename_i cs' T r e
    cases h
    exact ⟨T, r, e⟩
  · cases h
theorem var_keep {w w' : World} {n : String} {g : Nat} {cs : Array Value} (hg : Tryd.prog.globalNamed n = some g) (hh : w'.heap[g]? = w.heap[g]?) (h : w.var? Tryd.prog n = some cs) : w'.var? Tryd.prog n = some cs := by
  unfold World.var? at h ⊢
  rw [hg] at h ⊢
  simp only [Option.bind_some] at h ⊢
  rw [hh]; exact h
/-- They do while other blocks alone are changed. -/
theorem Vars.chg {F : List Nat} {w w' : World} (h : Vars w) (hc : Chg F w w') (hF : ∀ b ∈ F, b ≠ 1 ∧ b ≠ 2 ∧ b ≠ 3) : Vars w' := by
  obtain ⟨⟨t1, p1, h1⟩, ⟨t2, p2, h2⟩, h3⟩ := h
  have lt : ∀ {n : String} {g : Nat} {cs : Array Value}, Tryd.prog.globalNamed n = some g → w.var? Tryd.prog n = some cs → g < w.heap.size := fun hg hv => by
    obtain ⟨T, r, e⟩ := var_block hg hv
    exact (Array.getElem?_eq_some_iff.1 e).1
  refine ⟨⟨t1, p1, var_keep gES (hc.block _ (lt gES h1) fun hx => (hF _ hx).1 rfl) h1⟩, ⟨t2, p2, var_keep gER (hc.block _ (lt gER h2) fun hx => (hF _ hx).2.1 rfl) h2⟩, var_keep gPT (hc.block _ (lt gPT h3) fun hx => (hF _ hx).2.2 rfl) h3⟩
theorem Vars.below {w w' : World} (h : Vars w) (hb : Below w.heap.size w w') : Vars w' := h.chg (Chg.of_below hb []) (by simp)
theorem Box.vars {w : World} (h : Vars w) : Box w Vars := fun _ hu => h.below hu
theorem Vars.rdr {b : Nat} {s : ByteArray} {k : Nat} {bad : Bool} {w w' : World} (h : Vars w) (hr : Rdr b s k bad w) (hc : Chg [b] w w') : Vars w' := by
  refine h.chg hc fun x hx => ?_
  obtain rfl : x = b := by simpa using hx
  unfold Rdr Blk at hr
  obtain ⟨⟨t1, p1, h1⟩, ⟨t2, p2, h2⟩, h3⟩ := h
  obtain ⟨_, _, e1⟩ := var_block gES h1
  obtain ⟨_, _, e2⟩ := var_block gER h2
  obtain ⟨_, _, e3⟩ := var_block gPT h3
  refine ⟨fun e => ?_, fun e => ?_, fun e => ?_⟩
  · subst e; rw [hr] at e1; simp at e1
  · subst e; rw [hr] at e2; simp at e2
  · subst e; rw [hr] at e3
    have := congrArg (fun o => match o with | some (Obj.cells c _ _) => c.size | _ => 0) e3
    simp [Lib.pow10Tab] at this

theorem numEnd_cases (x : Lib.NumEnd Int) : (∃ v, x = .ok v) ∨ x = .range ∨ x = Lib.atoiAll [] := by
  cases x
  · exact .inl ⟨_, rfl⟩
  · exact .inr (.inr rfl)
  · exact .inr (.inl rfl)
/-- strconv.Atoi: the number and no error, or an error. -/
def AtoiPost (s : ByteArray) (w : World) (e : Ending) (w' : World) : Prop :=
  Below w.heap.size w w' ∧ ((∃ v, Lib.atoiAll s.data.toList = .ok v ∧ e = .returned (.tuple #[.int .i64 v, .nilIface])) ∨ (∃ v t p, (∀ x, Lib.atoiAll s.data.toList ≠ .ok x) ∧ e = .returned (.tuple #[.int .i64 v, .iface t (.pointer (some p))])))
theorem atoi_any (s : ByteArray) (w : World) (hs : s.size ≤ 281474976710656) (h : Vars w) : Calls Tryd.prog 104 #[.string s] w (AtoiPost s w) := by
  obtain ⟨⟨t1, p1, h1⟩, ⟨t2, p2, h2⟩, h3⟩ := h
  rcases numEnd_cases (Lib.atoiAll s.data.toList) with ⟨v, hv⟩ | hv | hv
  · refine (Tryd.strconv_Atoi_ok s (by omega) v hv w).mono ?_
    rintro e w' ⟨rfl, hw⟩
    refine ⟨?_, .inl ⟨v, hv, rfl⟩⟩
    rcases hw with rfl | ⟨t, rfl⟩
    · exact Below.refl _ _
    · exact Lib.bytesWorld_below w _ t
  · refine (Tryd.strconv_Atoi_range_var s hs hv t2 p2 w h2).mono ?_
    rintro e w' ⟨N, rfl, _, _, hb⟩
    exact ⟨hb, .inr ⟨_, _, _, (fun x hx => by rw [hv] at hx; cases hx), rfl⟩⟩
  · refine (Tryd.strconv_Atoi_syntax_var s hs hv t1 p1 w h1).mono ?_
    rintro e w' ⟨N, rfl, _, _, hb⟩
    exact ⟨hb, .inr ⟨_, _, _, (fun x hx => by rw [hv] at hx; cases hx), rfl⟩⟩
theorem itoa_any (v : Int) (w : World) (h0 : -9223372036854775808 ≤ v) (h1 : v ≤ 9223372036854775807) (h : Vars w) :
    Calls Tryd.prog 105 #[.int .i64 v] w fun e w' => e = .returned (.string ⟨(Lib.itoa v).toArray⟩) ∧ Below w.heap.size w w' := by
  refine (Tryd.strconv_Itoa v h0 h1 w h.2.2).mono ?_
  rintro e w' ⟨rfl, k, os, rfl⟩
  exact ⟨rfl, Lib.below_grow _ w (Nat.le_refl _) k os⟩

/-- How many digits stand ahead. -/
def dl : List UInt8 → Nat
  | [] => 0
  | c :: r => if isD c then dl r + 1 else 0
theorem dl_le : ∀ l : List UInt8, dl l ≤ l.length
  | [] => Nat.le_refl _
  | c :: r => by unfold dl; split <;> simp; exact dl_le r
theorem dl_stop : ∀ (l : List UInt8) (j : Nat), j ≤ l.length → (l.take j).all isD = true → (∀ h : j < l.length, isD l[j] = false) → dl l = j
  | [], j, h, _, _ => by simp at h; subst h; rfl
  | c :: r, 0, _, _, h2 => by have := h2 (by simp); simp at this; simp [dl, this]
  | c :: r, j + 1, h, h1, h2 => by
    simp at h1 h
    rw [dl, if_pos h1.1, dl_stop r j h (by simpa using h1.2) fun hh => by have := h2 (by simp; omega); simp only [List.getElem_cons_succ] at this; exact this]
def digits (s : ByteArray) (k : Nat) : List UInt8 := (s.data.toList.drop k).take (dl (s.data.toList.drop k))
def NumPost (b : Nat) (s : ByteArray) (k : Nat) (bad : Bool) (w : World) (e : Ending) (w' : World) : Prop :=
  Chg [b] w w' ∧ ((∃ v, numOf (digits s k) = some v ∧ e = .returned (.int .i64 v) ∧ Rdr b s (k + dl (s.data.toList.drop k)) bad w') ∨ (numOf (digits s k) = none ∧ e = .returned (.int .i64 0) ∧ Rdr b s (k + dl (s.data.toList.drop k)) true w'))
/-- All from k to j are digits. -/
def Dgs (s : ByteArray) (k j : Nat) : Prop := ((s.data.toList.drop k).take (j - k)).all isD = true
theorem Dgs.zero (s : ByteArray) (k : Nat) : Dgs s k k := by simp [Dgs]
theorem Dgs.succ {s : ByteArray} {k j : Nat} (h : Dgs s k j) (hkj : k ≤ j) (hj : j < s.size) (hd : isD s[j] = true) : Dgs s k (j + 1) := by
  unfold Dgs at *
  have hl : j - k < (s.data.toList.drop k).length := by simp; omega
  rw [show j + 1 - k = j - k + 1 by omega, List.take_succ_eq_append_getElem hl, List.all_append, h]
  have : (s.data.toList.drop k)[j - k] = s[j] := by
    rw [List.getElem_drop]; simp only [show k + (j - k) = j by omega]; rfl
  simp [this, hd]
theorem Dgs.stop {s : ByteArray} {k j : Nat} (h : Dgs s k j) (hkj : k ≤ j) (hj : j ≤ s.size) (hd : ∀ hh : j < s.size, isD s[j] = false) : dl (s.data.toList.drop k) = j - k := by
  refine dl_stop _ _ (by simp; omega) h fun hh => ?_
  have hj2 : j < s.size := by simp at hh; omega
  rw [List.getElem_drop]
  simp only [show k + (j - k) = j by omega]
  exact hd hj2
theorem digits_eq {s : ByteArray} {k j : Nat} (h : dl (s.data.toList.drop k) = j - k) : (s.extract k j).data.toList = digits s k := by
  unfold digits
  rw [h]
  simp [ByteArray.data_extract, List.extract_eq_take_drop]

set_option maxHeartbeats 400000 in
theorem isDigit_any (c : UInt8) (w : World) : Calls Tryd.prog 103 #[.int .u8 c.toNat] w fun e w' => e = .returned (.bool (isD c)) ∧ w' = w := by
  by_cases h1 : (48 : Int) ≤ c.toNat
  · have HE := Lib.hid (show isD c = decide ((c.toNat : Int) ≤ 57) by
      unfold isD
      rw [decide_eq_true (p := 48 ≤ c.toNat) (by omega), Bool.true_and, Bool.eq_iff_iff]; simp; omega)
    go_enter Tryd.func103, Tryd.ntmps103
    go_wp2_with fail
    go_ret
    exact ⟨by rw [HE.out]; rfl, rfl⟩
  · have HE := Lib.hid (show isD c = false by
      unfold isD
      rw [decide_eq_false (p := 48 ≤ c.toNat) (by omega), Bool.false_and])
    go_enter Tryd.func103, Tryd.ntmps103
    go_wp2_with fail
    go_ret
    exact ⟨by rw [HE.out]; rfl, rfl⟩

theorem atoi_yes (s : ByteArray) (v : Int) (w : World) (hs : s.size ≤ 281474976710656) (hv : Lib.atoiAll s.data.toList = .ok v) (h : Vars w) :
    Calls Tryd.prog 104 #[.string s] w fun e w' => e = .returned (.tuple #[.int .i64 v, .nilIface]) ∧ Below w.heap.size w w' := by
  refine (atoi_any s w hs h).mono ?_
  rintro e w' ⟨hb, ⟨x, hx, rfl⟩ | ⟨x, t, p, hx, rfl⟩⟩
  · rw [hv] at hx; cases hx; exact ⟨rfl, hb⟩
  · exact absurd hv (hx v)
theorem atoi_no (s : ByteArray) (w : World) (hs : s.size ≤ 281474976710656) (hv : ∀ v, Lib.atoiAll s.data.toList ≠ .ok v) (h : Vars w) :
    Calls Tryd.prog 104 #[.string s] w fun e w' => ∃ v t p, e = .returned (.tuple #[.int .i64 v, .iface t (.pointer (some p))]) ∧ Below w.heap.size w w' := by
  refine (atoi_any s w hs h).mono ?_
  rintro e w' ⟨hb, ⟨x, hx, rfl⟩ | ⟨x, t, p, hx, rfl⟩⟩
  · exact absurd hx (hv x)
  · exact ⟨x, t, p, rfl, hb⟩
theorem numPost_ok {b : Nat} {s : ByteArray} {k j : Nat} {bad : Bool} {w w' : World} {v : Int} (hkj : k ≤ j) (hj : dl (s.data.toList.drop k) = j - k) (hc : Chg [b] w w') (hn : numOf (digits s k) = some v) (hr : Rdr b s j bad w') : NumPost b s k bad w (.returned (.int .i64 v)) w' :=
  ⟨hc, .inl ⟨v, hn, rfl, by rw [show k + dl (s.data.toList.drop k) = j by omega]; exact hr⟩⟩
theorem numPost_no {b : Nat} {s : ByteArray} {k j : Nat} {bad : Bool} {w w' : World} (hkj : k ≤ j) (hj : dl (s.data.toList.drop k) = j - k) (hc : Chg [b] w w') (hn : numOf (digits s k) = none) (hr : Rdr b s j true w') : NumPost b s k bad w (.returned (.int .i64 0)) w' :=
  ⟨hc, .inr ⟨hn, rfl, by rw [show k + dl (s.data.toList.drop k) = j by omega]; exact hr⟩⟩

set_option maxRecDepth 100000 in
set_option maxHeartbeats 4000000 in
theorem takeNumber_any (b : Nat) (s : ByteArray) (k : Nat) (bad : Bool) (w : World) (h : Rdr b s k bad w) (hs : s.size ≤ 281474976710656) (hk : k ≤ s.size) (hv : Vars w) :
    Calls Tryd.prog 98 #[.pointer (some ⟨b, 0, none⟩)] w (NumPost b s k bad w) := by
  have HR := Lib.hid h
  have HV := Lib.hid hv
  clear hv
  obtain ⟨c0, c1, c2, f1, f2, hb⟩ := h.cells
  clear h
  go_enter Tryd.func98, Tryd.ntmps98
  go_wp2_with fail
  clear c0 c1 c2 f1 f2
  go_loopg [] (s.size - k) (fun n wr => ∃ j, n = s.size - j ∧ k ≤ j ∧ j ≤ s.size ∧ Dgs s k j ∧ Rdr b s j bad wr ∧ Chg [b] w wr)
  case atStart => exact ⟨k, rfl, Nat.le_refl _, hk, Dgs.zero s k, HR.out, Chg.refl _ _⟩
  case round =>
    obtain ⟨j, hn, hkj, hjs, hd, hr, hc⟩ := hrel
    subst hn
    have HRj := Lib.hid hr
    have HC := Lib.hid hc
    have HD := Lib.hid hd
    obtain ⟨c0, c1, c2, f1, f2, hbj⟩ := hr.cells
    clear hr hc hd
    by_cases hlt : j < s.size
    · have h1 : decide ((j : Int) < (s.size : Int)) = true := by simp; omega
      cases hD : isD s[j] with
      | true =>
        have HD2 := Lib.hid (HD.out.succ hkj hlt hD)
        go_wp2_with fail
        go_quiet ((go_at_call 103; exact Calls.quiet_of_same (isDigit_any _ _)))
        go_wp2_with fail
        go_roundg (s.size - (j + 1))
        case measure => omega
        case rel => exact ⟨j + 1, rfl, by omega, by omega, HD2.out, (HRj.out.drewN _).put1, (HC.out.trans (chgN b _ _)).setCell (by simp) _⟩
      | false =>
        have HDL := Lib.hid (HD.out.stop hkj hjs fun _ => hD)
        go_wp2_with fail
        go_quiet ((go_at_call 103; exact Calls.quiet_of_same (isDigit_any _ _)))
        have HL := Lib.hid (digits_eq HDL.out)
        have HRw := HRj.out.drewN nq
        have HCw := HC.out.trans (chgN b wr nq)
        clear HRj HC c0 c1 c2 f1 f2 hbj
        generalize wr.drewN nq = W1 at HRw HCw ⊢
        obtain ⟨c0, c1, c2, f1, f2, hbj⟩ := HRw.cells
        have HRj := Lib.hid HRw
        have HC := Lib.hid HCw
        clear HRw HCw
        have HV1 := Lib.hid (HV.out.rdr HR.out HC.out)
        have i0 : (0 : Int) ≤ (k : Int) := by omega
        have i1 : (k : Int) ≤ (j : Int) := by omega
        have i2 : (j : Int) ≤ (s.size : Int) := by omega
        have hsz : (s.extract k j).size ≤ 281474976710656 := by rw [ByteArray.size_extract]; omega
        by_cases hv : ∃ v, Lib.atoiAll (s.extract k j).data.toList = .ok v
        · obtain ⟨v, hv⟩ := hv
          have HAT := Lib.hid (fun (W : World) (hW : Below W1.heap.size W1 W) => atoi_yes (s.extract k j) v W hsz hv (HV1.out.below hW))
          have hvb := Lib.atoiAll_bounds hv
          rw [HL.out] at hv
          have HN := Lib.hid (numOf_ok hv)
          clear hv hsz
          go_wp2_with fail
          go_region_held3 (fun w' => w'.cell? ⟨b, 0, none⟩ = some (.string s) ∧ w'.cell? ⟨b, 1, none⟩ = some (.int .i64 (j : Int)))
            (exact ⟨keepc (show Below W1.heap.size W1 _ by ((repeat (first | with_reducible assumption | with_reducible exact Below.refl _ _ | refine Below.setCell ?_ (by (first | omega | (simp; omega) | (simp; done) | fail "sml")) _ | refine Below.drew ?_ | refine Below.alloc ?_ (by (first | omega | (simp; omega) | (simp; done) | fail "sml")) _)); first | done | fail "chs")) hbj c0, keepc (show Below W1.heap.size W1 _ by ((repeat (first | with_reducible assumption | with_reducible exact Below.refl _ _ | refine Below.setCell ?_ (by (first | omega | (simp; omega) | (simp; done) | fail "sml")) _ | refine Below.drew ?_ | refine Below.alloc ?_ (by (first | omega | (simp; omega) | (simp; done) | fail "sml")) _)); first | done | fail "chs")) hbj c1⟩)
            (first | (go_at_call 104; refine (HAT.out _ (by ((repeat (first | with_reducible assumption | with_reducible exact Below.refl _ _ | refine Below.setCell ?_ (by (first | omega | (simp; omega) | (simp; done) | fail "sml")) _ | refine Below.drew ?_ | refine Below.alloc ?_ (by (first | omega | (simp; omega) | (simp; done) | fail "sml")) _)); first | done | fail "chs"))).mono ?_; rintro e w1 ⟨rfl, hb1⟩; have hk1 := Below.trans (show Below W1.heap.size W1 _ by ((repeat (first | with_reducible assumption | with_reducible exact Below.refl _ _ | refine Below.setCell ?_ (by (first | omega | (simp; omega) | (simp; done) | fail "sml")) _ | refine Below.drew ?_ | refine Below.alloc ?_ (by (first | omega | (simp; omega) | (simp; done) | fail "sml")) _)); first | done | fail "chs")) (hb1.mono (by (first | omega | (simp; omega) | (simp; done) | fail "sml"))); clear hb1))
          all_goals
            have HR1 := Lib.hid (Rdr.below HRj.out hk1 hbj)
            have HC1 := Lib.hid (HC.out.then_below hk1)
            have HV2 := Lib.hid (HV1.out.below hk1)
            clear hk1 c0 c1 c2 f1 f2 hbj
            obtain ⟨c0, c1, c2, f1, f2, hbj⟩ := HR1.out.cells
            have hit := Lib.hid (fun (W : World) (hW : Below w1.heap.size w1 W) => itoa_any v W hvb.1 hvb.2 (HV2.out.below hW))
            clear hvb
            obtain ⟨T, eT⟩ : ∃ T : ByteArray, T = ⟨(Lib.itoa v).toArray⟩ := ⟨_, rfl⟩
            rw [← eT] at hit
            have hTU : T = s.extract k j ↔ Lib.itoa v = digits s k := by
              rw [← HL.out, eT]
              constructor
              · intro e; have := congrArg (fun x : ByteArray => x.data.toList) e; simpa using this
              · intro e; rw [e]
            clear eT
            by_cases he : Lib.itoa v = digits s k
            · have HN2 := Lib.hid (show numOf (digits s k) = some v by rw [HN.out, if_pos he])
              have hq : (T.toList == (s.extract k j).toList) = true := by rw [hTU.2 he]; exact beq_self_eq_true _
              clear hTU he
              go_wp2_with fail
              go_region_held3 (fun w' => w'.cell? ⟨b, 0, none⟩ = some (.string s) ∧ w'.cell? ⟨b, 1, none⟩ = some (.int .i64 (j : Int)))
                (exact ⟨keepc (show Below w1.heap.size w1 _ by ((repeat (first | with_reducible assumption | with_reducible exact Below.refl _ _ | refine Below.setCell ?_ (by (first | omega | (simp; omega) | (simp; done) | fail "sml")) _ | refine Below.drew ?_ | refine Below.alloc ?_ (by (first | omega | (simp; omega) | (simp; done) | fail "sml")) _)); first | done | fail "chs")) hbj c0, keepc (show Below w1.heap.size w1 _ by ((repeat (first | with_reducible assumption | with_reducible exact Below.refl _ _ | refine Below.setCell ?_ (by (first | omega | (simp; omega) | (simp; done) | fail "sml")) _ | refine Below.drew ?_ | refine Below.alloc ?_ (by (first | omega | (simp; omega) | (simp; done) | fail "sml")) _)); first | done | fail "chs")) hbj c1⟩)
                (first | (go_at_call 105; refine (hit.out _ (by ((repeat (first | with_reducible assumption | with_reducible exact Below.refl _ _ | refine Below.setCell ?_ (by (first | omega | (simp; omega) | (simp; done) | fail "sml")) _ | refine Below.drew ?_ | refine Below.alloc ?_ (by (first | omega | (simp; omega) | (simp; done) | fail "sml")) _)); first | done | fail "chs"))).mono ?_; rintro e w2 ⟨rfl, hb2⟩; have hk2 := Below.trans (show Below w1.heap.size w1 _ by ((repeat (first | with_reducible assumption | with_reducible exact Below.refl _ _ | refine Below.setCell ?_ (by (first | omega | (simp; omega) | (simp; done) | fail "sml")) _ | refine Below.drew ?_ | refine Below.alloc ?_ (by (first | omega | (simp; omega) | (simp; done) | fail "sml")) _)); first | done | fail "chs")) (hb2.mono (by (first | omega | (simp; omega) | (simp; done) | fail "sml"))); clear hb2))
              all_goals
                go_wp2_with fail
                go_ret
                exact numPost_ok hkj HDL.out (HC1.out.then_below hk2) HN2.out (Rdr.below HR1.out hk2 hbj)
            · have HN2 := Lib.hid (show numOf (digits s k) = none by rw [HN.out, if_neg he])
              have hq : (T.toList == (s.extract k j).toList) = false := beq_eq_false_iff_ne.2 fun e => he (hTU.1 (Go.WideShapes.bytes_inj (by rw [← ByteArray.toList_eq, ← ByteArray.toList_eq]; exact e)))
              clear hTU he
              go_wp2_with fail
              go_region_held3 (fun w' => w'.cell? ⟨b, 0, none⟩ = some (.string s) ∧ w'.cell? ⟨b, 1, none⟩ = some (.int .i64 (j : Int)))
                (exact ⟨keepc (show Below w1.heap.size w1 _ by ((repeat (first | with_reducible assumption | with_reducible exact Below.refl _ _ | refine Below.setCell ?_ (by (first | omega | (simp; omega) | (simp; done) | fail "sml")) _ | refine Below.drew ?_ | refine Below.alloc ?_ (by (first | omega | (simp; omega) | (simp; done) | fail "sml")) _)); first | done | fail "chs")) hbj c0, keepc (show Below w1.heap.size w1 _ by ((repeat (first | with_reducible assumption | with_reducible exact Below.refl _ _ | refine Below.setCell ?_ (by (first | omega | (simp; omega) | (simp; done) | fail "sml")) _ | refine Below.drew ?_ | refine Below.alloc ?_ (by (first | omega | (simp; omega) | (simp; done) | fail "sml")) _)); first | done | fail "chs")) hbj c1⟩)
                (first | (go_at_call 105; refine (hit.out _ (by ((repeat (first | with_reducible assumption | with_reducible exact Below.refl _ _ | refine Below.setCell ?_ (by (first | omega | (simp; omega) | (simp; done) | fail "sml")) _ | refine Below.drew ?_ | refine Below.alloc ?_ (by (first | omega | (simp; omega) | (simp; done) | fail "sml")) _)); first | done | fail "chs"))).mono ?_; rintro e w2 ⟨rfl, hb2⟩; have hk2 := Below.trans (show Below w1.heap.size w1 _ by ((repeat (first | with_reducible assumption | with_reducible exact Below.refl _ _ | refine Below.setCell ?_ (by (first | omega | (simp; omega) | (simp; done) | fail "sml")) _ | refine Below.drew ?_ | refine Below.alloc ?_ (by (first | omega | (simp; omega) | (simp; done) | fail "sml")) _)); first | done | fail "chs")) (hb2.mono (by (first | omega | (simp; omega) | (simp; done) | fail "sml"))); clear hb2))
              all_goals
                have c2' := keepc hk2 hbj c2
                have f2' : w2.frozen? ⟨b, 2, none⟩ = false := (hk2.frozen (p := ⟨b, 2, none⟩) hbj).trans f2
                go_wp2_with fail
                go_ret
                exact numPost_no hkj HDL.out ((HC1.out.then_below hk2).setCell (by simp) _) HN2.out (Rdr.below HR1.out hk2 hbj).put2
        · have hv : ∀ v, Lib.atoiAll (s.extract k j).data.toList ≠ .ok v := fun v e => hv ⟨v, e⟩
          have HAT := Lib.hid (fun (W : World) (hW : Below W1.heap.size W1 W) => atoi_no (s.extract k j) W hsz hv (HV1.out.below hW))
          have HN := Lib.hid (numOf_no (l := digits s k) (fun x hx => hv x (by rw [HL.out]; exact hx)))
          clear hv hsz
          go_wp2_with fail
          go_region_held3 (fun w' => w'.cell? ⟨b, 0, none⟩ = some (.string s) ∧ w'.cell? ⟨b, 1, none⟩ = some (.int .i64 (j : Int)))
            (exact ⟨keepc (show Below W1.heap.size W1 _ by ((repeat (first | with_reducible assumption | with_reducible exact Below.refl _ _ | refine Below.setCell ?_ (by (first | omega | (simp; omega) | (simp; done) | fail "sml")) _ | refine Below.drew ?_ | refine Below.alloc ?_ (by (first | omega | (simp; omega) | (simp; done) | fail "sml")) _)); first | done | fail "chs")) hbj c0, keepc (show Below W1.heap.size W1 _ by ((repeat (first | with_reducible assumption | with_reducible exact Below.refl _ _ | refine Below.setCell ?_ (by (first | omega | (simp; omega) | (simp; done) | fail "sml")) _ | refine Below.drew ?_ | refine Below.alloc ?_ (by (first | omega | (simp; omega) | (simp; done) | fail "sml")) _)); first | done | fail "chs")) hbj c1⟩)
            (first | (go_at_call 104; refine (HAT.out _ (by ((repeat (first | with_reducible assumption | with_reducible exact Below.refl _ _ | refine Below.setCell ?_ (by (first | omega | (simp; omega) | (simp; done) | fail "sml")) _ | refine Below.drew ?_ | refine Below.alloc ?_ (by (first | omega | (simp; omega) | (simp; done) | fail "sml")) _)); first | done | fail "chs"))).mono ?_; rintro e w1 ⟨v, tt, pp, rfl, hb1⟩; have hk1 := Below.trans (show Below W1.heap.size W1 _ by ((repeat (first | with_reducible assumption | with_reducible exact Below.refl _ _ | refine Below.setCell ?_ (by (first | omega | (simp; omega) | (simp; done) | fail "sml")) _ | refine Below.drew ?_ | refine Below.alloc ?_ (by (first | omega | (simp; omega) | (simp; done) | fail "sml")) _)); first | done | fail "chs")) (hb1.mono (by (first | omega | (simp; omega) | (simp; done) | fail "sml"))); clear hb1))
          all_goals
            have HR1 := Lib.hid (Rdr.below HRj.out hk1 hbj)
            have HC1 := Lib.hid (HC.out.then_below hk1)
            clear hk1 c0 c1 c2 f1 f2 hbj
            obtain ⟨c0, c1, c2, f1, f2, hbj⟩ := HR1.out.cells
            go_wp2_with fail
            go_quiet (fail)
            go_wp2_with fail
            go_ret
            exact numPost_no hkj HDL.out ((HC1.out.trans (chgN b _ _)).setCell (by simp) _) HN.out (HR1.out.drewN _).put2
    · have HDL := Lib.hid (HD.out.stop hkj hjs fun h => absurd h hlt)
      have h1 : decide ((j : Int) < (s.size : Int)) = false := by simp; omega
      go_wp2_with fail
      go_quiet (fail)
      · have HL := Lib.hid (digits_eq HDL.out)
        have HRw := HRj.out.drewN nq
        have HCw := HC.out.trans (chgN b wr nq)
        clear HRj HC c0 c1 c2 f1 f2 hbj
        generalize wr.drewN nq = W1 at HRw HCw ⊢
        obtain ⟨c0, c1, c2, f1, f2, hbj⟩ := HRw.cells
        have HRj := Lib.hid HRw
        have HC := Lib.hid HCw
        clear HRw HCw
        have HV1 := Lib.hid (HV.out.rdr HR.out HC.out)
        have i0 : (0 : Int) ≤ (k : Int) := by omega
        have i1 : (k : Int) ≤ (j : Int) := by omega
        have i2 : (j : Int) ≤ (s.size : Int) := by omega
        have hsz : (s.extract k j).size ≤ 281474976710656 := by rw [ByteArray.size_extract]; omega
        by_cases hv : ∃ v, Lib.atoiAll (s.extract k j).data.toList = .ok v
        · obtain ⟨v, hv⟩ := hv
          have HAT := Lib.hid (fun (W : World) (hW : Below W1.heap.size W1 W) => atoi_yes (s.extract k j) v W hsz hv (HV1.out.below hW))
          have hvb := Lib.atoiAll_bounds hv
          rw [HL.out] at hv
          have HN := Lib.hid (numOf_ok hv)
          clear hv hsz
          go_wp2_with fail
          go_region_held3 (fun w' => w'.cell? ⟨b, 0, none⟩ = some (.string s) ∧ w'.cell? ⟨b, 1, none⟩ = some (.int .i64 (j : Int)))
            (exact ⟨keepc (show Below W1.heap.size W1 _ by ((repeat (first | with_reducible assumption | with_reducible exact Below.refl _ _ | refine Below.setCell ?_ (by (first | omega | (simp; omega) | (simp; done) | fail "sml")) _ | refine Below.drew ?_ | refine Below.alloc ?_ (by (first | omega | (simp; omega) | (simp; done) | fail "sml")) _)); first | done | fail "chs")) hbj c0, keepc (show Below W1.heap.size W1 _ by ((repeat (first | with_reducible assumption | with_reducible exact Below.refl _ _ | refine Below.setCell ?_ (by (first | omega | (simp; omega) | (simp; done) | fail "sml")) _ | refine Below.drew ?_ | refine Below.alloc ?_ (by (first | omega | (simp; omega) | (simp; done) | fail "sml")) _)); first | done | fail "chs")) hbj c1⟩)
            (first | (go_at_call 104; refine (HAT.out _ (by ((repeat (first | with_reducible assumption | with_reducible exact Below.refl _ _ | refine Below.setCell ?_ (by (first | omega | (simp; omega) | (simp; done) | fail "sml")) _ | refine Below.drew ?_ | refine Below.alloc ?_ (by (first | omega | (simp; omega) | (simp; done) | fail "sml")) _)); first | done | fail "chs"))).mono ?_; rintro e w1 ⟨rfl, hb1⟩; have hk1 := Below.trans (show Below W1.heap.size W1 _ by ((repeat (first | with_reducible assumption | with_reducible exact Below.refl _ _ | refine Below.setCell ?_ (by (first | omega | (simp; omega) | (simp; done) | fail "sml")) _ | refine Below.drew ?_ | refine Below.alloc ?_ (by (first | omega | (simp; omega) | (simp; done) | fail "sml")) _)); first | done | fail "chs")) (hb1.mono (by (first | omega | (simp; omega) | (simp; done) | fail "sml"))); clear hb1))
          all_goals
            have HR1 := Lib.hid (Rdr.below HRj.out hk1 hbj)
            have HC1 := Lib.hid (HC.out.then_below hk1)
            have HV2 := Lib.hid (HV1.out.below hk1)
            clear hk1 c0 c1 c2 f1 f2 hbj
            obtain ⟨c0, c1, c2, f1, f2, hbj⟩ := HR1.out.cells
            have hit := Lib.hid (fun (W : World) (hW : Below w1.heap.size w1 W) => itoa_any v W hvb.1 hvb.2 (HV2.out.below hW))
            clear hvb
            obtain ⟨T, eT⟩ : ∃ T : ByteArray, T = ⟨(Lib.itoa v).toArray⟩ := ⟨_, rfl⟩
            rw [← eT] at hit
            have hTU : T = s.extract k j ↔ Lib.itoa v = digits s k := by
              rw [← HL.out, eT]
              constructor
              · intro e; have := congrArg (fun x : ByteArray => x.data.toList) e; simpa using this
              · intro e; rw [e]
            clear eT
            by_cases he : Lib.itoa v = digits s k
            · have HN2 := Lib.hid (show numOf (digits s k) = some v by rw [HN.out, if_pos he])
              have hq : (T.toList == (s.extract k j).toList) = true := by rw [hTU.2 he]; exact beq_self_eq_true _
              clear hTU he
              go_wp2_with fail
              go_region_held3 (fun w' => w'.cell? ⟨b, 0, none⟩ = some (.string s) ∧ w'.cell? ⟨b, 1, none⟩ = some (.int .i64 (j : Int)))
                (exact ⟨keepc (show Below w1.heap.size w1 _ by ((repeat (first | with_reducible assumption | with_reducible exact Below.refl _ _ | refine Below.setCell ?_ (by (first | omega | (simp; omega) | (simp; done) | fail "sml")) _ | refine Below.drew ?_ | refine Below.alloc ?_ (by (first | omega | (simp; omega) | (simp; done) | fail "sml")) _)); first | done | fail "chs")) hbj c0, keepc (show Below w1.heap.size w1 _ by ((repeat (first | with_reducible assumption | with_reducible exact Below.refl _ _ | refine Below.setCell ?_ (by (first | omega | (simp; omega) | (simp; done) | fail "sml")) _ | refine Below.drew ?_ | refine Below.alloc ?_ (by (first | omega | (simp; omega) | (simp; done) | fail "sml")) _)); first | done | fail "chs")) hbj c1⟩)
                (first | (go_at_call 105; refine (hit.out _ (by ((repeat (first | with_reducible assumption | with_reducible exact Below.refl _ _ | refine Below.setCell ?_ (by (first | omega | (simp; omega) | (simp; done) | fail "sml")) _ | refine Below.drew ?_ | refine Below.alloc ?_ (by (first | omega | (simp; omega) | (simp; done) | fail "sml")) _)); first | done | fail "chs"))).mono ?_; rintro e w2 ⟨rfl, hb2⟩; have hk2 := Below.trans (show Below w1.heap.size w1 _ by ((repeat (first | with_reducible assumption | with_reducible exact Below.refl _ _ | refine Below.setCell ?_ (by (first | omega | (simp; omega) | (simp; done) | fail "sml")) _ | refine Below.drew ?_ | refine Below.alloc ?_ (by (first | omega | (simp; omega) | (simp; done) | fail "sml")) _)); first | done | fail "chs")) (hb2.mono (by (first | omega | (simp; omega) | (simp; done) | fail "sml"))); clear hb2))
              all_goals
                go_wp2_with fail
                go_ret
                exact numPost_ok hkj HDL.out (HC1.out.then_below hk2) HN2.out (Rdr.below HR1.out hk2 hbj)
            · have HN2 := Lib.hid (show numOf (digits s k) = none by rw [HN.out, if_neg he])
              have hq : (T.toList == (s.extract k j).toList) = false := beq_eq_false_iff_ne.2 fun e => he (hTU.1 (Go.WideShapes.bytes_inj (by rw [← ByteArray.toList_eq, ← ByteArray.toList_eq]; exact e)))
              clear hTU he
              go_wp2_with fail
              go_region_held3 (fun w' => w'.cell? ⟨b, 0, none⟩ = some (.string s) ∧ w'.cell? ⟨b, 1, none⟩ = some (.int .i64 (j : Int)))
                (exact ⟨keepc (show Below w1.heap.size w1 _ by ((repeat (first | with_reducible assumption | with_reducible exact Below.refl _ _ | refine Below.setCell ?_ (by (first | omega | (simp; omega) | (simp; done) | fail "sml")) _ | refine Below.drew ?_ | refine Below.alloc ?_ (by (first | omega | (simp; omega) | (simp; done) | fail "sml")) _)); first | done | fail "chs")) hbj c0, keepc (show Below w1.heap.size w1 _ by ((repeat (first | with_reducible assumption | with_reducible exact Below.refl _ _ | refine Below.setCell ?_ (by (first | omega | (simp; omega) | (simp; done) | fail "sml")) _ | refine Below.drew ?_ | refine Below.alloc ?_ (by (first | omega | (simp; omega) | (simp; done) | fail "sml")) _)); first | done | fail "chs")) hbj c1⟩)
                (first | (go_at_call 105; refine (hit.out _ (by ((repeat (first | with_reducible assumption | with_reducible exact Below.refl _ _ | refine Below.setCell ?_ (by (first | omega | (simp; omega) | (simp; done) | fail "sml")) _ | refine Below.drew ?_ | refine Below.alloc ?_ (by (first | omega | (simp; omega) | (simp; done) | fail "sml")) _)); first | done | fail "chs"))).mono ?_; rintro e w2 ⟨rfl, hb2⟩; have hk2 := Below.trans (show Below w1.heap.size w1 _ by ((repeat (first | with_reducible assumption | with_reducible exact Below.refl _ _ | refine Below.setCell ?_ (by (first | omega | (simp; omega) | (simp; done) | fail "sml")) _ | refine Below.drew ?_ | refine Below.alloc ?_ (by (first | omega | (simp; omega) | (simp; done) | fail "sml")) _)); first | done | fail "chs")) (hb2.mono (by (first | omega | (simp; omega) | (simp; done) | fail "sml"))); clear hb2))
              all_goals
                have c2' := keepc hk2 hbj c2
                have f2' : w2.frozen? ⟨b, 2, none⟩ = false := (hk2.frozen (p := ⟨b, 2, none⟩) hbj).trans f2
                go_wp2_with fail
                go_ret
                exact numPost_no hkj HDL.out ((HC1.out.then_below hk2).setCell (by simp) _) HN2.out (Rdr.below HR1.out hk2 hbj).put2
        · have hv : ∀ v, Lib.atoiAll (s.extract k j).data.toList ≠ .ok v := fun v e => hv ⟨v, e⟩
          have HAT := Lib.hid (fun (W : World) (hW : Below W1.heap.size W1 W) => atoi_no (s.extract k j) W hsz hv (HV1.out.below hW))
          have HN := Lib.hid (numOf_no (l := digits s k) (fun x hx => hv x (by rw [HL.out]; exact hx)))
          clear hv hsz
          go_wp2_with fail
          go_region_held3 (fun w' => w'.cell? ⟨b, 0, none⟩ = some (.string s) ∧ w'.cell? ⟨b, 1, none⟩ = some (.int .i64 (j : Int)))
            (exact ⟨keepc (show Below W1.heap.size W1 _ by ((repeat (first | with_reducible assumption | with_reducible exact Below.refl _ _ | refine Below.setCell ?_ (by (first | omega | (simp; omega) | (simp; done) | fail "sml")) _ | refine Below.drew ?_ | refine Below.alloc ?_ (by (first | omega | (simp; omega) | (simp; done) | fail "sml")) _)); first | done | fail "chs")) hbj c0, keepc (show Below W1.heap.size W1 _ by ((repeat (first | with_reducible assumption | with_reducible exact Below.refl _ _ | refine Below.setCell ?_ (by (first | omega | (simp; omega) | (simp; done) | fail "sml")) _ | refine Below.drew ?_ | refine Below.alloc ?_ (by (first | omega | (simp; omega) | (simp; done) | fail "sml")) _)); first | done | fail "chs")) hbj c1⟩)
            (first | (go_at_call 104; refine (HAT.out _ (by ((repeat (first | with_reducible assumption | with_reducible exact Below.refl _ _ | refine Below.setCell ?_ (by (first | omega | (simp; omega) | (simp; done) | fail "sml")) _ | refine Below.drew ?_ | refine Below.alloc ?_ (by (first | omega | (simp; omega) | (simp; done) | fail "sml")) _)); first | done | fail "chs"))).mono ?_; rintro e w1 ⟨v, tt, pp, rfl, hb1⟩; have hk1 := Below.trans (show Below W1.heap.size W1 _ by ((repeat (first | with_reducible assumption | with_reducible exact Below.refl _ _ | refine Below.setCell ?_ (by (first | omega | (simp; omega) | (simp; done) | fail "sml")) _ | refine Below.drew ?_ | refine Below.alloc ?_ (by (first | omega | (simp; omega) | (simp; done) | fail "sml")) _)); first | done | fail "chs")) (hb1.mono (by (first | omega | (simp; omega) | (simp; done) | fail "sml"))); clear hb1))
          all_goals
            have HR1 := Lib.hid (Rdr.below HRj.out hk1 hbj)
            have HC1 := Lib.hid (HC.out.then_below hk1)
            clear hk1 c0 c1 c2 f1 f2 hbj
            obtain ⟨c0, c1, c2, f1, f2, hbj⟩ := HR1.out.cells
            go_wp2_with fail
            go_quiet (fail)
            go_wp2_with fail
            go_ret
            exact numPost_no hkj HDL.out ((HC1.out.trans (chgN b _ _)).setCell (by simp) _) HN.out (HR1.out.drewN _).put2
end Go.Proofs.YtbbemeaojmfndaaDoor
