/- Lemmas on the data and the memory of this program's values: several texts in one. -/
import Derived.Test.YtggpnnoldjpmcaaM0q0p1
import Derived.Test.YtggpnnoldjpmcaaExTo
import Derived.Test.YtggpnnoldjpmcaaM0q0p2
namespace Go.Proofs.Ytggpnnoldjpmcaa
open Go.RowKit

set_option maxHeartbeats 1000000 in
theorem szBind_any (b : Bn) (s : Value) (left : Int) (B : Nat) (w : World) (hs : Sl 1 intCells B w s b.ids) (hB : B ≤ w.heap.size) (h0 : 0 ≤ left) (h1 : left ≤ 1048576) (hb : b.v.size ≤ maxLen) :
    Calls Try.prog 50 #[.agg #[.string b.v, s, .bool b.g], .int .i64 left] w (SzPost left b.need w.heap.size w) := by
  have HS := Lib.hid hs
  have hl := hb
  unfold maxLen at hl
  obtain ⟨p, cap, rfl⟩ := hs.form
  clear hs hb
  by_cases hlt : left < b.v.size
  · go_enter Try.func50, Try.ntmps50
    go_wp2_with fail
    go_ret
    exact ⟨-1, rfl, .inl rfl, (Below.refl _ _).alloc (Nat.le_refl _) _⟩
  · obtain ⟨m, em⟩ : ∃ m, RowKit.Hid (m = left - (b.v.size : Int)) := ⟨_, Lib.hid rfl⟩
    have hm0 : 0 ≤ m := by have := em.out; omega
    have hm1 : m ≤ 1048576 := by have := em.out; omega
    have hm2 : left - (b.v.size : Int) = m := em.out.symm
    have q0 : decide (left - (b.v.size : Int) < 0) = false := by simp; omega
    have q1 : decide (m < 0) = false := by simp; omega
    go_enter Try.func50, Try.ntmps50
    go_wp2_with fail
    refine (szIntS_any b.ids _ m B _ (HS.out.below ((Below.refl B w).alloc hB _)) (by simp; omega) hm0 hm1).mono ?_
    rintro e w1 ⟨r, rfl, hr, hb1⟩
    have HB1 := Lib.hid (below_past hb1)
    clear hb1
    rcases hr with hr | ⟨hr0, hr⟩
    · have hneg : r < 0 := by omega
      clear hr
      go_wp2_with fail
      go_ret
      exact ⟨-1, rfl, .inl rfl, HB1.out⟩
    · have HR := Lib.hid hr
      clear hr
      go_wp2_with fail
      go_ret
      exact ⟨r, rfl, .inr ⟨hr0, by have a := HR.out; have b := em.out; unfold Bn.need; omega⟩, HB1.out⟩

set_option maxHeartbeats 1000000 in
theorem szBindS_any (xs : List Bn) (v : Value) (left : Int) (B : Nat) (w : World) (hv : kBn.Rd B w v xs) (hB : B ≤ w.heap.size) (h0 : 0 ≤ left) (h1 : left ≤ 1048576) (hok : ∀ x ∈ xs, x.Ok) :
    Calls Try.prog 14 #[v, .int .i64 left] w (SzPost left (xs.length + sumBn xs) w.heap.size w) := by
  obtain ⟨p, cap, rfl⟩ := hv.form
  obtain ⟨_, hm1, hm⟩ := hv.max
  unfold maxLen at hm
  have HV := Lib.hid hv
  clear hv
  by_cases hlt : left < xs.length
  · go_enter Try.func14, Try.ntmps14
    go_wp2_with fail
    go_ret
    exact ⟨-1, rfl, .inl rfl, Below.refl _ _⟩
  · have q1 : decide (left - (xs.length : Int) < 0) = false := by simp; omega
    have q1' : decide (left < (xs.length : Int)) = false := by simp; omega
    go_enter Try.func14, Try.ntmps14
    go_wp2_with fail
    go_loopw [1, 5] (fun l i wr => ∃ (k : Nat) (m : Int), k ≤ xs.length ∧ i = .int .i64 k ∧ l = .int .i64 m ∧ 0 ≤ m ∧ m ≤ 1048576 ∧ RowKit.Hid (m = left - (xs.length + sumBn (xs.take k))) ∧ Below w.heap.size w wr) (fun _ i _ => xs.length - (intOf i).toNat)
    case atStart => exact ⟨0, left - xs.length, Nat.zero_le _, rfl, rfl, by omega, by omega, Lib.hid (by simp [sumBn]), Below.refl _ _⟩
    case round =>
      obtain ⟨k, m, hk, rfl, rfl, hm0, hm1, hme, hbw⟩ := hrel
      have hsz := hbw.size
      have HB := Lib.hid hbw
      clear hbw
      by_cases hlt2 : k < xs.length
      · obtain ⟨b, off, q, c, rfl, hb, c0, c1, c2, hin⟩ := kBn_get (HV.out.to (HB.out.mono hB) (Nat.le_refl _)) hlt2
        have hx := (hok _ (List.getElem_mem hlt2)).1
        have hsum := sumBn_succ xs k hlt2
        obtain ⟨x, ex⟩ : ∃ x, x = xs[k] := ⟨_, rfl⟩
        rw [← ex] at c0 c1 c2 hx hsum hin
        have HS := Lib.hid hsum
        have HIN := Lib.hid hin
        clear ex hsum hin
        go_wp2_with fail
        refine (szBind_any x _ m B _ HIN.out (by omega) hm0 hm1 hx).mono ?_
        rintro e w' ⟨r, rfl, hr, hb1⟩
        have HB1 := Lib.hid hb1
        clear hb1
        rcases hr with hr | ⟨hr0, hr⟩
        · have hneg : r < 0 := by omega
          clear hr
          go_wp2_with fail
          go_ret
          exact ⟨-1, rfl, .inl rfl, HB.out.trans (HB1.out.mono hsz)⟩
        · have hr1 : r ≤ 1048576 := by omega
          have HR := Lib.hid (show r = left - (xs.length + sumBn (xs.take (k + 1))) by have a := hme.out; have b := HS.out; omega)
          clear hr
          go_wp2_with fail
          go_roundw
          case rel => exact ⟨k + 1, r, by omega, by go_num, rfl, hr0, hr1, HR, HB.out.trans (HB1.out.mono hsz)⟩
          case measure => simp [intOf]; omega
      · have HR := Lib.hid (show m = left - (xs.length + sumBn xs) by have a := hme.out; rw [List.take_of_length_le (by omega)] at a; exact a)
        go_wp2_with fail
        go_ret
        exact ⟨m, rfl, .inr ⟨hm0, HR.out⟩, HB.out⟩

set_option maxHeartbeats 1000000 in
theorem szMatch_any (m : Mt) (v : Value) (left : Int) (B : Nat) (w : World) (hm : m.At B w v) (hB : B ≤ w.heap.size) (h0 : 0 ≤ left) (h1 : left ≤ 1048576) (hok : m.Ok) :
    Calls Try.prog 21 #[v, .int .i64 left] w (SzPost left m.need w.heap.size w) := by
  obtain ⟨a, b, c, rfl, ha, hb, hc⟩ := hm
  have H1 := Lib.hid (show m.w.At B w (.agg #[a, b]) from ⟨a, b, rfl, ha, hb⟩)
  have H2 := Lib.hid hc
  clear ha hb hc
  go_enter Try.func21, Try.ntmps21
  go_wp2_with fail
  refine (szWalk_any m.w _ left B _ (H1.out.to ((Below.refl B w).alloc hB _) (Nat.le_refl _)) (by simp; omega) h0 h1).mono ?_
  rintro e w1 ⟨r, rfl, hr, hb1⟩
  have hs1 : w.heap.size < w1.heap.size := by have := hb1.size; simp at this; omega
  have c1 := new_cell hb1 (j := 2) rfl
  have HB1 := Lib.hid (below_past hb1)
  clear hb1
  rcases hr with hr | ⟨hr0, hr⟩
  · have hneg : r < 0 := by omega
    clear hr
    go_wp2_with fail
    go_ret
    exact ⟨-1, rfl, .inl rfl, HB1.out⟩
  · have hr1 : r ≤ 1048576 := by omega
    have HR := Lib.hid hr
    clear hr
    go_wp2_with fail
    refine (szBindS_any m.bs c r B _ (H2.out.to (HB1.out.mono hB) (Nat.le_refl _)) (by omega) hr0 hr1 hok.2).mono ?_
    rintro e w2 ⟨r2, rfl, hr2, hb2⟩
    have HB2 := Lib.hid (HB1.out.trans (hb2.mono (by omega)))
    clear hb2
    rcases hr2 with hr2 | ⟨hr20, hr2⟩
    · have hneg : r2 < 0 := by omega
      clear hr2
      go_wp2_with fail
      go_ret
      exact ⟨-1, rfl, .inl rfl, HB2.out⟩
    · have HR2 := Lib.hid hr2
      clear hr2
      go_wp2_with fail
      go_ret
      exact ⟨r2, rfl, .inr ⟨hr20, by have a := HR.out; have b := HR2.out; unfold Mt.need; omega⟩, HB2.out⟩

def ToBnPost (b : Bn) (w : World) (en : Ending) (w' : World) : Prop := ∃ s F, en = .returned (.agg #[.string b.v, s, .bool b.g]) ∧ OwnSl 1 intCells w' s b.ids F ∧ (∀ x ∈ F, w.heap.size ≤ x) ∧ Below w.heap.size w w'
set_option maxRecDepth 100000 in
set_option maxHeartbeats 1000000 in
theorem toBind_any (b : Bn) (s : Value) (B : Nat) (w : World) (hs : Sl 1 intCells B w s b.ids) (hB : B ≤ w.heap.size) (hn : b.ids.length ≤ 1048576) :
    Calls Try.prog 55 #[.agg #[.string b.v, s, .bool b.g]] w (ToBnPost b w) := by
  have HS := Lib.hid hs
  obtain ⟨p, cap, rfl⟩ := hs.form
  clear hs
  go_enter Try.func55, Try.ntmps55
  go_wp2_with fail
  refine (toIntS_any b.ids _ B _ (HS.out.below (by ((repeat (first | with_reducible assumption | with_reducible exact Below.refl _ _ | refine Below.setCell ?_ (by (first | omega | (simp; omega) | (simp; done) | fail "sml")) _ | refine Below.drew ?_ | refine Below.alloc ?_ (by (first | omega | (simp; omega) | (simp; done) | fail "sml")) _)); first | done | fail "chs"))) (by simp; omega) hn).mono ?_
  rintro e' w1 ⟨k1, F, rfl, ho, hF, hb1⟩
  have hs1 : w.heap.size + 3 ≤ w1.heap.size := by have := hb1.size; simp at this; omega
  have q0 : w1.cell? ⟨w.heap.size + 1, 0, none⟩ = some (.string ⟨#[]⟩) := (hb1.cell (by simp)).trans (by simp [go_sem])
  have q1 : w1.cell? ⟨w.heap.size + 1, 1, none⟩ = some (.slice none 0 0) := (hb1.cell (by simp)).trans (by simp [go_sem])
  have q2 : w1.cell? ⟨w.heap.size + 1, 2, none⟩ = some (.bool false) := (hb1.cell (by simp)).trans (by simp [go_sem])
  have f0 : w1.frozen? ⟨w.heap.size + 1, 0, none⟩ = false := (hb1.frozen (by simp)).trans (by simp [go_sem])
  have f1 : w1.frozen? ⟨w.heap.size + 1, 1, none⟩ = false := (hb1.frozen (by simp)).trans (by simp [go_sem])
  have f2 : w1.frozen? ⟨w.heap.size + 1, 2, none⟩ = false := (hb1.frozen (by simp)).trans (by simp [go_sem])
  have r0 : w1.cell? ⟨w.heap.size + 1 + 1, 0, none⟩ = some (.string b.v) := (hb1.cell (by simp)).trans (by simp [go_sem])
  have r1 : w1.cell? ⟨w.heap.size + 1 + 1, 1, none⟩ = some (.slice none 0 0) := (hb1.cell (by simp)).trans (by simp [go_sem])
  have r2 : w1.cell? ⟨w.heap.size + 1 + 1, 2, none⟩ = some (.bool false) := (hb1.cell (by simp)).trans (by simp [go_sem])
  have g1 : w1.frozen? ⟨w.heap.size + 1 + 1, 1, none⟩ = false := (hb1.frozen (by simp)).trans (by simp [go_sem])
  have g2 : w1.frozen? ⟨w.heap.size + 1 + 1, 2, none⟩ = false := (hb1.frozen (by simp)).trans (by simp [go_sem])
  have a2 : w1.cell? ⟨w.heap.size, 2, none⟩ = some (.bool b.g) := (hb1.cell (by simp; omega)).trans (by simp [go_sem])
  have HB1 := Lib.hid (below_past (below_past (below_past hb1)))
  have HO := Lib.hid ho
  have HF := Lib.hid (show ∀ x ∈ F, w.heap.size + 3 ≤ x from fun x hx => by have := hF x hx; simp at this; omega)
  clear hb1 ho hF
  obtain ⟨p1, c1, rfl⟩ := HO.out.sl.form
  go_wp2_with fail
  refine bodyPost_ret (v := .agg #[.string b.v, .slice p1 b.ids.length c1, .bool b.g]) (by simp [results, Try.results55, go_sem, q0, q1, q2]) rfl ⟨_, F, rfl, HO.out.chg (G := [w.heap.size + 1, w.heap.size + 1 + 1]) ?_ ?_, fun x hx => by have := HF.out x hx; omega, ?_⟩
  · repeat (first | exact Chg.refl _ _ | refine Chg.setCell ?_ (by simp) _)
  · intro x hx; have := HF.out x hx; simp; omega
  · refine HB1.out.trans ?_
    repeat (first | exact Below.refl _ _ | refine Below.setCell ?_ (by (first | omega | (simp; omega) | (simp; done) | fail "sml")) _)

theorem infoBind : (Try.prog.info? 91).map (fun i => (i.zero, i.size, i.bytes)) = some (some (.agg #[.string ⟨#[]⟩, .slice none 0 0, .bool false]), 3, 48) := by kernel_rfl
set_option maxRecDepth 100000 in
set_option maxHeartbeats 1000000 in
theorem toBindS_any (xs : List Bn) (v : Value) (B : Nat) (w : World) (hv : kBn.Rd B w v xs) (hB : B ≤ w.heap.size) (hn : xs.length + sumBn xs ≤ 1048576) :
    Calls Try.prog 16 #[v] w fun e w' => ∃ v' F, e = .returned v' ∧ kBn.Ow w' v' xs F ∧ (∀ x ∈ F, w.heap.size ≤ x) ∧ Below w.heap.size w w' := by
  obtain ⟨p, cap, rfl⟩ := hv.form
  obtain ⟨_, hm1, hm2⟩ := hv.max
  unfold maxLen at hm2
  have HV := Lib.hid hv
  clear hv
  have hmk : ∀ w : World, (Instr.makeSlice 36 (.int .i64 (xs.length : Int)) (.int .i64 (xs.length : Int))).run Try.prog w = .ok (.slice (some ⟨w.heap.size, 0, none⟩) xs.length xs.length) (w.alloc (.cells (madeCells #[.string ⟨#[]⟩, .slice none 0 0, .bool false] (xs.length * 3)) 91)) := by
    intro w
    obtain ⟨i, hi, hzz⟩ := Option.map_eq_some_iff.1 infoBind
    simp only [Prod.mk.injEq] at hzz
    obtain ⟨hz, hs, hb⟩ := hzz
    have hr := run_make (P := Try.prog) w 36 91 i _ Try.underlying36 hi hz .i64 .i64 xs.length xs.length (by omega) (Int.le_refl _) (by rw [hb]; omega) (by omega)
    rw [hs] at hr
    exact hr
  have hbk := Blk.new w (madeCells #[.string ⟨#[]⟩, .slice none 0 0, .bool false] (xs.length * 3)) 91
  have HI0 := Lib.hid (KInv.zero (K := kBn) (xs := xs) (by simp [madeCells]; rfl) hbk)
  clear hbk
  go_enter Try.func16, Try.ntmps16
  go_wp2_with fail
  go_loopw [4] (fun i wr => ∃ (k : Nat), k ≤ xs.length ∧ i = .int .i64 k ∧ KInv kBn xs 91 w.heap.size k wr ∧ Below w.heap.size w wr) (fun i _ => xs.length - (intOf i).toNat)
  case atStart => exact ⟨0, Nat.zero_le _, rfl, HI0.out, (Below.refl _ _).alloc (Nat.le_refl _) _⟩
  case round =>
    obtain ⟨k, hk, rfl, hinv, hbw⟩ := hrel
    have hsz := hbw.size
    have hlt := hinv.lt
    have HB := Lib.hid hbw
    have HI := Lib.hid hinv
    clear hbw hinv
    by_cases hlt2 : k < xs.length
    · obtain ⟨b, off, q, c, rfl, hb, c0, c1, c2, hin⟩ := kBn_get (HV.out.to (HB.out.mono hB) (Nat.le_refl _)) hlt2
      have hsize := sumBn_get xs k hlt2
      have hstep := fun (w1 : World) (hb : Below wr.heap.size wr w1) (s : Value) (F' : List Nat) (ho : OwnSl 1 intCells w1 s xs[k].ids F') (hF : ∀ x ∈ F', wr.heap.size ≤ x) => HI.out.step hlt2 hb (kBn_ow.2 ⟨s, rfl, ho⟩) hF (stores3 (o := k * 3))
      obtain ⟨x, ex⟩ : ∃ x, x = xs[k] := ⟨_, rfl⟩
      rw [← ex] at c0 c1 c2 hin hsize hstep
      have HIN := Lib.hid hin
      have HS := Lib.hid hstep
      clear ex hin hstep
      unfold Bn.need at hsize
      go_wp2_with fail
      refine (toBind_any x _ B _ HIN.out (by omega) (by omega)).mono ?_
      rintro e w1 ⟨k1, F1, rfl, ho, hF, hb1⟩
      have HN := Lib.hid (HS.out w1 hb1 k1 F1 ho hF)
      have HB1 := Lib.hid (HB.out.trans (hb1.mono hsz))
      have hw1 : w.heap.size < w1.heap.size := Nat.lt_of_lt_of_le hlt hb1.size
      have HC := Lib.hid (fun i (hi : i < xs.length * 3) => HI.out.cells i hi)
      obtain ⟨⟨d0, e0⟩, g0⟩ := HC.out (k * 3) (by omega)
      obtain ⟨⟨d1, e1⟩, g1⟩ := HC.out (k * 3 + 1) (by omega)
      obtain ⟨⟨d2, e2⟩, g2⟩ := HC.out (k * 3 + 2) (by omega)
      have e0' := keepc hb1 hlt e0
      have e1' := keepc hb1 hlt e1
      have e2' := keepc hb1 hlt e2
      have g0' : w1.frozen? ⟨w.heap.size, k * 3, none⟩ = false := (hb1.frozen (p := ⟨w.heap.size, k * 3, none⟩) hlt).trans g0
      have g1' : w1.frozen? ⟨w.heap.size, k * 3 + 1, none⟩ = false := (hb1.frozen (p := ⟨w.heap.size, k * 3 + 1, none⟩) hlt).trans g1
      have g2' : w1.frozen? ⟨w.heap.size, k * 3 + 2, none⟩ = false := (hb1.frozen (p := ⟨w.heap.size, k * 3 + 2, none⟩) hlt).trans g2
      obtain ⟨p1, c1', rfl⟩ := ho.sl.form
      clear hb1 ho hF e0 e1 e2 g0 g1 g2
      go_wp2_with fail
      go_roundw
      case rel => exact ⟨k + 1, by omega, by go_num, HN.out, ((HB1.out.setCell (Nat.le_refl _) _).setCell (Nat.le_refl _) _).setCell (Nat.le_refl _) _⟩
      case measure => simp [intOf]; omega
    · obtain rfl : k = xs.length := by omega
      obtain ⟨F, ho, hF⟩ := HI.out.done (by unfold maxLen; omega)
      have HO := Lib.hid ho
      have HF := Lib.hid hF
      clear ho hF
      go_wp2_with fail
      go_ret
      exact ⟨_, F, rfl, HO.out, HF.out, HB.out⟩

set_option maxRecDepth 100000 in
set_option maxHeartbeats 1000000 in
theorem toMatch_any (m : Mt) (v : Value) (B : Nat) (w : World) (hm : m.At B w v) (hB : B ≤ w.heap.size) (hn : m.need ≤ 1048576) :
    Calls Try.prog 23 #[v] w fun e w' => ∃ v' F, e = .returned v' ∧ m.Has v' F w' ∧ (∀ y ∈ F, w.heap.size ≤ y) ∧ Below w.heap.size w w' := by
  obtain ⟨a, b, c, rfl, ha, hb, hc⟩ := hm
  have H1 := Lib.hid (show m.w.At B w (.agg #[a, b]) from ⟨a, b, rfl, ha, hb⟩)
  have H2 := Lib.hid hc
  have hn1 : m.w.need ≤ 1048576 := by unfold Mt.need at hn; omega
  have hn2 : m.bs.length + sumBn m.bs ≤ 1048576 := by unfold Mt.need at hn; omega
  clear ha hb hc
  go_enter Try.func23, Try.ntmps23
  go_wp2_with fail
  refine (toWalk_any m.w _ B _ (H1.out.to (by ((repeat (first | with_reducible assumption | with_reducible exact Below.refl _ _ | refine Below.setCell ?_ (by (first | omega | (simp; omega) | (simp; done) | fail "sml")) _ | refine Below.drew ?_ | refine Below.alloc ?_ (by (first | omega | (simp; omega) | (simp; done) | fail "sml")) _)); first | done | fail "chs")) (Nat.le_refl _)) (by simp; omega) hn1).mono ?_
  rintro e w1 ⟨v1, F1, rfl, ho1, hf1, hb1⟩
  have hs1 : w.heap.size + 3 ≤ w1.heap.size := by have := hb1.size; simp at this; omega
  have p2 : w1.cell? ⟨w.heap.size, 2, none⟩ = some c := (hb1.cell (by simp; omega)).trans (by simp [go_sem])
  have HQ := Lib.hid (fun (i : Nat) (hi : i < 3) => (show w1.cell? ⟨w.heap.size + 1, i, none⟩ = some (.slice none 0 0) ∧ w1.frozen? ⟨w.heap.size + 1, i, none⟩ = false ∧ w1.cell? ⟨w.heap.size + 1 + 1, i, none⟩ = some (.slice none 0 0) ∧ w1.frozen? ⟨w.heap.size + 1 + 1, i, none⟩ = false from by
    have h3 : i = 0 ∨ i = 1 ∨ i = 2 := by omega
    rcases h3 with rfl | rfl | rfl <;> exact ⟨(hb1.cell (by simp)).trans (by simp [go_sem]), (hb1.frozen (by simp)).trans (by simp [go_sem]), (hb1.cell (by simp)).trans (by simp [go_sem]), (hb1.frozen (by simp)).trans (by simp [go_sem])⟩))
  obtain ⟨q0, f0, r0, g0⟩ := HQ.out 0 (by omega)
  obtain ⟨q1, f1, r1, g1⟩ := HQ.out 1 (by omega)
  obtain ⟨q2, f2, r2, g2⟩ := HQ.out 2 (by omega)
  have HB1 := Lib.hid (below_past (below_past (below_past hb1)))
  have HO1 := Lib.hid ho1
  have HF1 := Lib.hid (show ∀ x ∈ F1, w.heap.size + 3 ≤ x from fun x hx => by have := hf1 x hx; simp at this; omega)
  obtain ⟨pn, cn, pe, ce, rfl⟩ := ho1.at.form
  clear hb1 ho1 hf1
  go_wp2_with fail
  have hbc : Below B w ((w1.setCell ⟨w.heap.size + 1 + 1, 0, none⟩ (.slice pn m.w.ns.length cn)).setCell ⟨w.heap.size + 1 + 1, 1, none⟩ (.slice pe m.w.es.length ce)) := ((HB1.out.mono hB).setCell (by simp; omega) _).setCell (by simp; omega) _
  refine (toBindS_any m.bs c B _ (H2.out.to hbc (Nat.le_refl _)) (by have := hbc.size; omega) hn2).mono ?_
  rintro e w2 ⟨v2, F2, rfl, ho2, hf2, hb2⟩
  have hs2 : w1.heap.size ≤ w2.heap.size := by have := hb2.size; simp at this; omega
  have K2 : ∀ (b o : Nat) (x : Value), b < w1.heap.size → b ≠ w.heap.size + 1 + 1 → w1.cell? ⟨b, o, none⟩ = some x → w2.cell? ⟨b, o, none⟩ = some x := fun b o x h1 h2 h3 => (hb2.cell (p := ⟨b, o, none⟩) (by simpa using h1)).trans (((set_far _ _ _ _ _ _ (Ne.symm h2)).trans (set_far _ _ _ _ _ _ (Ne.symm h2))).trans h3)
  have G2 : ∀ (b o : Nat), b < w1.heap.size → w1.frozen? ⟨b, o, none⟩ = false → w2.frozen? ⟨b, o, none⟩ = false := fun b o h1 h3 => (hb2.frozen (p := ⟨b, o, none⟩) (by simpa using h1)).trans (by simpa [go_sem] using h3)
  have q0' := K2 _ _ _ (by omega) (by omega) q0
  have q1' := K2 _ _ _ (by omega) (by omega) q1
  have q2' := K2 _ _ _ (by omega) (by omega) q2
  have f0' := G2 _ _ (by omega) f0
  have f1' := G2 _ _ (by omega) f1
  have f2' := G2 _ _ (by omega) f2
  have g2' := G2 _ _ (by omega) g2
  have r0' : w2.cell? ⟨w.heap.size + 1 + 1, 0, none⟩ = some (.slice pn m.w.ns.length cn) := (hb2.cell (p := ⟨w.heap.size + 1 + 1, 0, none⟩) (by simp; omega)).trans ((set_near _ _ _ _ _ (by omega)).trans (set_same _ _ _ _ _ r0))
  have r1' : w2.cell? ⟨w.heap.size + 1 + 1, 1, none⟩ = some (.slice pe m.w.es.length ce) := (hb2.cell (p := ⟨w.heap.size + 1 + 1, 1, none⟩) (by simp; omega)).trans (set_same _ _ _ _ _ ((set_near _ _ _ _ _ (by omega)).trans r1))
  have r2' : w2.cell? ⟨w.heap.size + 1 + 1, 2, none⟩ = some (.slice none 0 0) := (hb2.cell (p := ⟨w.heap.size + 1 + 1, 2, none⟩) (by simp; omega)).trans (((set_near _ _ _ _ _ (by omega)).trans (set_near _ _ _ _ _ (by omega))).trans r2)
  have hc12 : Chg [w.heap.size + 1 + 1] w1 w2 := ((((Chg.refl [w.heap.size + 1 + 1] w1).setCell (p := ⟨w.heap.size + 1 + 1, 0, none⟩) (by simp) (.slice pn m.w.ns.length cn)).setCell (p := ⟨w.heap.size + 1 + 1, 1, none⟩) (by simp) (.slice pe m.w.es.length ce)).then_below hb2)
  have HO2 := Lib.hid ho2
  have HF2 := Lib.hid (show ∀ x ∈ F2, w1.heap.size ≤ x from fun x hx => by have := hf2 x hx; simp at this; omega)
  have HW2 := Lib.hid (HO1.out.chg hc12 (fun x hx => by have := HF1.out x hx; simp; omega))
  have HL1 := Lib.hid HO1.out.lt
  have HB2 := Lib.hid (show Below w.heap.size w w2 from (HB1.out.trans (show Below w.heap.size w1 w2 from (((Below.refl _ w1).setCell (p := ⟨w.heap.size + 1 + 1, 0, none⟩) (by simp; omega) _).setCell (p := ⟨w.heap.size + 1 + 1, 1, none⟩) (by simp; omega) _).trans (hb2.mono (by simp; omega)))))
  obtain ⟨pb, cb, rfl⟩ := ho2.form
  clear hb2 ho2 hf2 q0 q1 q2 f0 f1 f2 r0 r1 r2 g0 g1 g2 p2 hc12 K2 G2 hbc
  go_wp2_with fail
  refine bodyPost_ret (v := .agg #[.slice pn m.w.ns.length cn, .slice pe m.w.es.length ce, .slice pb m.bs.length cb]) (by simp [results, Try.results23, go_sem, q0', q1', q2']) rfl ?_
  have hs : ∀ E, Chg [w.heap.size + 1, w.heap.size + 1 + 1] w2 E → Below w.heap.size w2 E → ∃ v' F, Ending.returned (.agg #[.slice pn m.w.ns.length cn, .slice pe m.w.es.length ce, .slice pb m.bs.length cb]) = .returned v' ∧ m.Has v' F E ∧ (∀ y ∈ F, w.heap.size ≤ y) ∧ Below w.heap.size w E := by
    intro E hE hE2
    refine ⟨_, F1 ++ F2, rfl, ⟨_, _, _, F1, F2, rfl, rfl, HW2.out.chg hE (fun x hx => by have := HF1.out x hx; simp; omega), HO2.out.chg hE (fun x hx => by have := HF2.out x hx; simp; omega), fun x hx hx2 => by have := HL1.out x hx; have := HF2.out x hx2; omega⟩, fun y hy => ?_, HB2.out.trans hE2⟩
    rcases List.mem_append.1 hy with hy | hy
    · have := HF1.out y hy; omega
    · have := HF2.out y hy; omega
  refine hs _ ?_ ?_
  · repeat (first | exact Chg.refl _ _ | refine Chg.setCell ?_ (by simp) _)
  · repeat (first | exact Below.refl _ _ | refine Below.setCell ?_ (by (first | omega | (simp; omega) | (simp; done) | fail "sml")) _)
end Go.Proofs.Ytggpnnoldjpmcaa
namespace Go.Proofs.Ytggpnnoldjpmcaa
open Go.RowKit

def bnP (s : ByteArray) (b : Bn) : Bool := b.v.toList == s.toList
def NoneB (xs : List Bn) (s : ByteArray) (k : Nat) : Prop := ∀ i (h : i < xs.length), i < k → bnP s xs[i] = false
theorem NoneB.zero (xs : List Bn) (s : ByteArray) : NoneB xs s 0 := fun _ _ h => by omega
theorem NoneB.succ {xs : List Bn} {s : ByteArray} {k : Nat} (h : NoneB xs s k) (hk : k < xs.length) (hp : bnP s xs[k] = false) : NoneB xs s (k + 1) := fun i hi hik => by
  by_cases e : i = k
  · subst e; exact hp
  · exact h i hi (by omega)
/-- What a search answers. -/
def FindR (xs : List Bn) (s : ByteArray) (r : Int) : Prop := (r = -1 ∧ NoneB xs s xs.length) ∨ ∃ k : Nat, ∃ h : k < xs.length, r = k ∧ NoneB xs s k ∧ bnP s xs[k] = true
/-- What BindOf answers. -/
def bof (xs : List Bn) (s : ByteArray) : Bn × Bool := match xs.find? (bnP s) with | some b => (b, true) | none => (⟨⟨#[]⟩, [], false⟩, false)
theorem bof_none {xs : List Bn} {s : ByteArray} (h : NoneB xs s xs.length) : bof xs s = (⟨⟨#[]⟩, [], false⟩, false) := by
  have : xs.find? (bnP s) = none := List.find?_eq_none.2 fun x hx => by
    obtain ⟨i, hi, rfl⟩ := List.getElem_of_mem hx
    rw [h i hi hi]; simp
  unfold bof; rw [this]
theorem bof_at {xs : List Bn} {s : ByteArray} {k : Nat} (hk : k < xs.length) (h : NoneB xs s k) (hp : bnP s xs[k] = true) : bof xs s = (xs[k], true) := by
  have : xs.find? (bnP s) = some xs[k] := List.find?_eq_some_iff_getElem.2 ⟨hp, k, hk, rfl, fun j hj => by rw [h j (by omega) hj]; rfl⟩
  unfold bof; rw [this]
/-- The value of a struct Bind; in memory of the call's own. -/
def Bn.At (b : Bn) (B : Nat) (w : World) (v : Value) : Prop := ∃ s, v = .agg #[.string b.v, s, .bool b.g] ∧ Sl 1 intCells B w s b.ids
def Bn.Has (b : Bn) (v : Value) (F : List Nat) (w : World) : Prop := ∃ s, v = .agg #[.string b.v, s, .bool b.g] ∧ OwnSl 1 intCells w s b.ids F
theorem Bn.Has.at {b : Bn} {v : Value} {F : List Nat} {w : World} (h : b.Has v F w) : b.At w.heap.size w v := by
  obtain ⟨s, rfl, h⟩ := h; exact ⟨s, rfl, h.sl⟩
theorem Bn.Has.chg {b : Bn} {v : Value} {F G : List Nat} {w w' : World} (h : b.Has v F w) (hc : Chg G w w') (hd : ∀ y ∈ F, y ∉ G) : b.Has v F w' := by
  obtain ⟨s, rfl, h⟩ := h; exact ⟨s, rfl, h.chg hc hd⟩
theorem Bn.Has.lt {b : Bn} {v : Value} {F : List Nat} {w : World} (h : b.Has v F w) : ∀ y ∈ F, y < w.heap.size := by
  obtain ⟨s, rfl, h⟩ := h; exact h.lt
theorem Bn.At.to {b : Bn} {B B' : Nat} {w w' : World} {v : Value} (h : b.At B w v) (hb : Below B w w') (hB : B ≤ B') : b.At B' w' v := by
  obtain ⟨s, rfl, h⟩ := h; exact ⟨s, rfl, (h.below hb).mono hB⟩
theorem Bn.At.form {b : Bn} {B : Nat} {w : World} {v : Value} (h : b.At B w v) : ∃ p c, v = .agg #[.string b.v, .slice p b.ids.length c, .bool b.g] := by
  obtain ⟨s, rfl, h⟩ := h
  obtain ⟨p, c, rfl⟩ := h.form
  exact ⟨p, c, rfl⟩
theorem Bn.goes (b : Bn) : Goes b.Has := fun _ _ _ _ _ h hc hd => h.chg hc hd
def BoPost (xs : List Bn) (s : ByteArray) (w : World) (e : Ending) (w' : World) : Prop := ∃ u F, e = .returned (.tuple #[u, .bool (bof xs s).2]) ∧ (bof xs s).1.Has u F w' ∧ (∀ y ∈ F, w.heap.size ≤ y) ∧ Below w.heap.size w w'
theorem bn_need {xs : List Bn} {k : Nat} (h : sumBn xs ≤ 1048576) (hk : k < xs.length) : (xs[k]).ids.length ≤ 1048576 := by
  have := sumBn_get xs k hk; unfold Bn.need at this; omega

set_option maxHeartbeats 1000000 in
theorem l6Find_any (xs : List Bn) (v : Value) (s : ByteArray) (B : Nat) (w : World) (hv : kBn.Rd B w v xs) (hB : B ≤ w.heap.size) :
    Calls Try.prog 52 #[v, .string s] w fun e w' => ∃ r : Int, e = .returned (.int .i64 r) ∧ FindR xs s r ∧ Below w.heap.size w w' := by
  obtain ⟨p, cap, rfl⟩ := hv.form
  obtain ⟨_, _, hm⟩ := hv.max
  unfold maxLen at hm
  have HV := Lib.hid hv
  clear hv
  go_enter Try.func52, Try.ntmps52
  go_wp2_with fail
  go_loopw [5] (fun i wr => ∃ k : Nat, k ≤ xs.length ∧ i = .int .i64 k ∧ NoneB xs s k ∧ Below w.heap.size w wr) (fun i _ => xs.length - (intOf i).toNat)
  case atStart => exact ⟨0, Nat.zero_le _, rfl, NoneB.zero _ _, Below.refl _ _⟩
  case round =>
    obtain ⟨k, hk, rfl, ha, hbw⟩ := hrel
    have hsz := hbw.size
    have HB := Lib.hid hbw
    clear hbw
    by_cases hlt : k < xs.length
    · obtain ⟨b, off, q, c, rfl, hb, c0, c1, c2, hin⟩ := kBn_get (HV.out.to (HB.out.mono hB) (Nat.le_refl _)) hlt
      have hgood := Lib.hid (fun h => (Or.inr ⟨k, hlt, rfl, ha, h⟩ : FindR xs s k))
      have hbad := Lib.hid (fun h => ha.succ hlt h)
      obtain ⟨x, ex⟩ : ∃ x, x = xs[k] := ⟨_, rfl⟩
      rw [← ex] at c0 c1 c2 hin hgood hbad
      clear ex ha hin
      cases hp : bnP s x with
      | true =>
        have HG := Lib.hid (hgood.out hp)
        have q0 : (x.v.toList == s.toList) = true := hp
        clear hgood hbad hp
        go_wp2_with fail
        go_ret
        exact ⟨k, rfl, HG.out, HB.out⟩
      | false =>
        have HG := Lib.hid (hbad.out hp)
        have q0 : (x.v.toList == s.toList) = false := hp
        clear hgood hbad hp
        go_wp2_with fail
        go_roundw
        case rel => exact ⟨k + 1, by omega, by go_num, HG.out, HB.out⟩
        case measure => simp [intOf]; omega
    · obtain rfl : k = xs.length := by omega
      have HG := Lib.hid (show FindR xs s (-1) from Or.inl ⟨rfl, ha⟩)
      go_wp2_with fail
      go_ret
      exact ⟨-1, rfl, HG.out, HB.out⟩

set_option maxRecDepth 100000 in
set_option maxHeartbeats 2000000 in
theorem copyBind_any (b : Bn) (v : Value) (B : Nat) (w : World) (hv : b.At B w v) (hB : B ≤ w.heap.size) (hn : b.ids.length ≤ 1048576) :
    Calls Try.prog 102 #[v] w fun e w' => ∃ u F, e = .returned u ∧ b.Has u F w' ∧ (∀ y ∈ F, w.heap.size ≤ y) ∧ Below w.heap.size w w' := by
  have HS := Lib.hid (show ∃ s, v = .agg #[.string b.v, s, .bool b.g] ∧ Sl 1 intCells B w s b.ids from hv)
  obtain ⟨s, rfl, hs⟩ := hv
  have HSL := Lib.hid hs
  obtain ⟨p, cap, rfl⟩ := hs.form
  clear hs HS
  go_enter Try.func102, Try.ntmps102
  go_wp2_with fail
  obtain ⟨W, eW⟩ : ∃ E, E = (w.alloc (.cells #[.string b.v, .slice p b.ids.length cap, .bool b.g] 91)).alloc (.cells #[.string ⟨#[]⟩, .slice none 0 0, .bool false] 91) := ⟨_, rfl⟩
  have zW : w.heap.size + 1 < W.heap.size := by rw [eW]; simp
  have hbW : Below w.heap.size w W := by rw [eW]; exact ((Below.refl _ _).alloc (Nat.le_refl _) _).alloc (by simp) _
  have HC := Lib.hid (show (W.cell? ⟨w.heap.size, 0, none⟩ = some (.string b.v) ∧ W.cell? ⟨w.heap.size, 1, none⟩ = some (.slice p b.ids.length cap) ∧ W.cell? ⟨w.heap.size, 2, none⟩ = some (.bool b.g)) ∧ (W.cell? ⟨w.heap.size + 1, 0, none⟩ = some (.string ⟨#[]⟩) ∧ W.cell? ⟨w.heap.size + 1, 1, none⟩ = some (.slice none 0 0) ∧ W.cell? ⟨w.heap.size + 1, 2, none⟩ = some (.bool false)) ∧ W.frozen? ⟨w.heap.size + 1, 0, none⟩ = false ∧ W.frozen? ⟨w.heap.size + 1, 1, none⟩ = false ∧ W.frozen? ⟨w.heap.size + 1, 2, none⟩ = false by
    rw [eW]; exact ⟨⟨by simp [go_sem], by simp [go_sem], by simp [go_sem]⟩, ⟨by simp [go_sem], by simp [go_sem], by simp [go_sem]⟩, by simp [go_sem], by simp [go_sem], by simp [go_sem]⟩)
  rw [← eW]
  clear eW
  have KS := Lib.hid (fun (E : World) (hE : Below W.heap.size W E) => (show E.cell? ⟨w.heap.size, 0, none⟩ = some (.string b.v) ∧ E.cell? ⟨w.heap.size, 1, none⟩ = some (.slice p b.ids.length cap) ∧ E.cell? ⟨w.heap.size, 2, none⟩ = some (.bool b.g) from ⟨keepc hE (by omega) HC.out.1.1, keepc hE (by omega) HC.out.1.2.1, keepc hE (by omega) HC.out.1.2.2⟩))
  have HSW := Lib.hid (fun (E : World) (hE : Below W.heap.size W E) => (show Sl 1 intCells W.heap.size E (.slice p b.ids.length cap) b.ids from ((HSL.out.below (hbW.mono hB)).mono (show B ≤ W.heap.size by omega)).below hE))
  have HW := Lib.hid hbW
  have r0 := Below.refl W.heap.size W
  clear hbW
  go_upto_region 1 with fail
  refine wp_region_E (last := 9) (S := fun w' => w'.cell? ⟨w.heap.size, 0, none⟩ = some (.string b.v) ∧ w'.cell? ⟨w.heap.size, 1, none⟩ = some (.slice p b.ids.length cap) ∧ w'.cell? ⟨w.heap.size, 2, none⟩ = some (.bool b.g)) (by kernel_rfl) ?_ (fun hHeld => ?_)
  · exact KS.out _ ((Below.refl _ _).drew)
  have cW : Below W.heap.size W W.drew := (Below.refl _ _).drew
  generalize W.drew = W0 at cW hHeld ⊢
  have yW := cW.size
  (refine takeE (i := 0) (v := ?_) [] rfl (by kernel_rfl) (by kernel_rfl) (fun _ _ _ h => h) (Or.inl ⟨by kernel_rfl, ?_⟩) (by assumption) ?_; rotate_left; (focus (intro w hSw; (try dsimp only at hSw); go_simp; first | done | with_reducible rfl | fail "takeE")); (try simp only [Act.put, List.setIfInBounds_toArray, List.set_cons_zero, List.set_cons_succ]))
  (refine takeE (i := 1) (v := ?_) [] rfl (by kernel_rfl) (by kernel_rfl) (fun _ _ _ h => h) (Or.inl ⟨by kernel_rfl, ?_⟩) (by assumption) ?_; rotate_left; (focus (intro w hSw; (try dsimp only at hSw); go_simp; first | done | with_reducible rfl | fail "takeE")); (try simp only [Act.put, List.setIfInBounds_toArray, List.set_cons_zero, List.set_cons_succ]))
  (refine takeE (i := 2) (v := ?_) [] rfl (by kernel_rfl) (by kernel_rfl) (fun _ _ _ h => h) (Or.inl ⟨by kernel_rfl, ?_⟩) (by assumption) ?_; rotate_left; (focus (intro w hSw; (try dsimp only at hSw); go_simp; first | done | with_reducible rfl | fail "takeE")); (try simp only [Act.put, List.setIfInBounds_toArray, List.set_cons_zero, List.set_cons_succ]))
  (refine takeE (i := 3) (v := ?_) [] rfl (by kernel_rfl) (by kernel_rfl) (fun _ _ _ h => h) (Or.inl ⟨by kernel_rfl, ?_⟩) (by assumption) ?_; rotate_left; (focus (intro w hSw; (try dsimp only at hSw); go_simp; first | done | with_reducible rfl | fail "takeE")); (try simp only [Act.put, List.setIfInBounds_toArray, List.set_cons_zero, List.set_cons_succ]))
  (refine takeE (i := 6) (v := ?_) [] rfl (by kernel_rfl) (by kernel_rfl) (fun _ _ _ h => h) (Or.inl ⟨by kernel_rfl, ?_⟩) (by assumption) ?_; rotate_left; (focus (intro w hSw; (try dsimp only at hSw); go_simp; first | done | with_reducible rfl | fail "takeE")); (try simp only [Act.put, List.setIfInBounds_toArray, List.set_cons_zero, List.set_cons_succ]))
  (refine takeE (i := 7) (v := ?_) [] rfl (by kernel_rfl) (by kernel_rfl) (fun _ _ _ h => h) (Or.inl ⟨by kernel_rfl, ?_⟩) (by assumption) ?_; rotate_left; (focus (intro w hSw; (try dsimp only at hSw); go_simp; first | done | with_reducible rfl | fail "takeE")); (try simp only [Act.put, List.setIfInBounds_toArray, List.set_cons_zero, List.set_cons_succ]))
  refine oneE (i := 4) rfl (by kernel_rfl) (by kernel_rfl) (fun K hK => ?_)
  go_simp
  obtain ⟨W2, eW2⟩ : ∃ E, E = W0.alloc (.cells #[.slice p b.ids.length cap] 43) := ⟨_, rfl⟩
  have hl2 : Below W0.heap.size W0 W2 := by rw [eW2]; exact (Below.refl _ _).alloc (Nat.le_refl _) _
  have c2 : W2.cell? ⟨W0.heap.size, 0, none⟩ = some (.slice p b.ids.length cap) := by rw [eW2]; simp [go_sem]
  have z2 : W0.heap.size < W2.heap.size := by rw [eW2]; simp
  rw [← eW2]
  clear eW2
  have cW2 : Below W.heap.size W W2 := cW.trans (hl2.mono yW)
  refine hK.out _ _ (KS.out _ cW2) (fun hHeld => ?_)
  clear hK K
  (try simp only [Act.put, List.setIfInBounds_toArray, List.set_cons_zero, List.set_cons_succ])
  refine oneE (i := 5) rfl (by kernel_rfl) (by kernel_rfl) (fun K hK => ?_)
  go_simp
  go_at_call 123
  refine Calls.mono (concatInt_any [(.slice p b.ids.length cap, b.ids)] W0.heap.size 1 W.heap.size W2 (fun i hi => by
      obtain rfl : i = 0 := by simp at hi; omega
      exact c2) (fun i hi => by
      obtain rfl : i = 0 := by simp at hi; omega
      exact HSW.out _ cW2) (by omega) (by simp) (by simp [upTo]; omega) z2) ?_
  rintro en W3 ⟨u3, F3, rfl, h3, hF3, hb3⟩
  have h3' : OwnSl 1 intCells W3 u3 b.ids F3 := by simpa [joined] using h3
  obtain ⟨p3, c3, rfl⟩ := h3'.sl.form
  have HO := Lib.hid h3'
  have cW3 : Below W.heap.size W W3 := cW2.trans (hb3.mono cW2.size)
  have yW3 := hb3.size
  clear h3 h3'
  go_wp2_with fail
  refine hK.out _ _ (KS.out _ cW3) (fun hHeld => ?_)
  clear hK K
  (try simp only [Act.put, List.setIfInBounds_toArray, List.set_cons_zero, List.set_cons_succ])
  (refine takeE (i := 8) (v := ?_) [] rfl (by kernel_rfl) (by kernel_rfl) (fun _ _ _ h => h) (Or.inl ⟨by kernel_rfl, ?_⟩) (by assumption) ?_; rotate_left; (focus (intro w hSw; (try dsimp only at hSw); go_simp; first | done | with_reducible rfl | fail "takeE")); (try simp only [Act.put, List.setIfInBounds_toArray, List.set_cons_zero, List.set_cons_succ]))
  refine lastE rfl (by kernel_rfl) (by kernel_rfl) (fun K hK => ?_)
  have d0 := keepc cW3 zW HC.out.2.1.1
  have d1 := keepc cW3 zW HC.out.2.1.2.1
  have d2 := keepc cW3 zW HC.out.2.1.2.2
  have f0 : W3.frozen? ⟨w.heap.size + 1, 0, none⟩ = false := (cW3.frozen (p := ⟨w.heap.size + 1, 0, none⟩) zW).trans HC.out.2.2.1
  have f1 : W3.frozen? ⟨w.heap.size + 1, 1, none⟩ = false := (cW3.frozen (p := ⟨w.heap.size + 1, 1, none⟩) zW).trans HC.out.2.2.2.1
  have f2 : W3.frozen? ⟨w.heap.size + 1, 2, none⟩ = false := (cW3.frozen (p := ⟨w.heap.size + 1, 2, none⟩) zW).trans HC.out.2.2.2.2
  go_simp
  refine hK.out _ _ ?_
  clear hK K
  refine doneE (by kernel_rfl) ?_ _
  go_wp2_with fail
  refine bodyPost_ret (v := .agg #[.string b.v, .slice p3 b.ids.length c3, .bool b.g]) (by simp [results, Try.results102, go_sem, d0, d1, d2]) rfl ?_
  have hs : ∀ E, Chg [w.heap.size + 1] W3 E → Below w.heap.size W3 E → ∃ u F, Ending.returned (.agg #[.string b.v, .slice p3 b.ids.length c3, .bool b.g]) = .returned u ∧ b.Has u F E ∧ (∀ y ∈ F, w.heap.size ≤ y) ∧ Below w.heap.size w E := by
    intro E hE hE2
    exact ⟨_, F3, rfl, ⟨_, rfl, HO.out.chg hE (fun y hy => by have := hF3 y hy; simp; omega)⟩, fun y hy => by have := hF3 y hy; omega, (HW.out.trans (cW3.mono HW.out.size)).trans hE2⟩
  refine hs _ ?_ ?_
  · repeat (first | exact Chg.refl _ _ | refine Chg.setCell ?_ (by simp) _)
  · repeat (first | exact Below.refl _ _ | refine Below.setCell ?_ (by (first | omega | (simp; omega) | (simp; done) | fail "sml")) _)

end Go.Proofs.Ytggpnnoldjpmcaa
