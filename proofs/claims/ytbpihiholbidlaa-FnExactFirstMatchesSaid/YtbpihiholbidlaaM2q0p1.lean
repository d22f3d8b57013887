/- Lemmas on the data and the memory of this program's values: several texts in one. -/
import Derived.Test.YtbpihiholbidlaaM0q0p1
import Derived.Test.YtbpihiholbidlaaExTo
import Derived.Test.YtbpihiholbidlaaM0q0p2
import Derived.Test.YtbpihiholbidlaaM1q0p1
namespace Go.Proofs.Ytbpihiholbidlaa
open Go.RowKit

set_option maxHeartbeats 1000000 in
theorem szBind_any (b : Bn) (s : Value) (left : Int) (B : Nat) (w : World) (hs : Sl 1 intCells B w s b.ids) (hB : B ≤ w.heap.size) (h0 : 0 ≤ left) (h1 : left ≤ 1048576) (hb : b.v.size ≤ maxLen) :
    Calls Try.prog 68 #[.agg #[.string b.v, s, .bool b.g], .int .i64 left] w (SzPost left b.need w.heap.size w) := by
  have HS := Lib.hid hs
  have hl := hb
  unfold maxLen at hl
  obtain ⟨p, cap, rfl⟩ := hs.form
  clear hs hb
  by_cases hlt : left < b.v.size
  · go_enter Try.func68, Try.ntmps68
    go_wp2_with fail
    go_ret
    exact ⟨-1, rfl, .inl rfl, (Below.refl _ _).alloc (Nat.le_refl _) _⟩
  · obtain ⟨m, em⟩ : ∃ m, RowKit.Hid (m = left - (b.v.size : Int)) := ⟨_, Lib.hid rfl⟩
    have hm0 : 0 ≤ m := by have := em.out; omega
    have hm1 : m ≤ 1048576 := by have := em.out; omega
    have hm2 : left - (b.v.size : Int) = m := em.out.symm
    have q0 : decide (left - (b.v.size : Int) < 0) = false := by simp; omega
    have q1 : decide (m < 0) = false := by simp; omega
    go_enter Try.func68, Try.ntmps68
    go_wp2_with fail
    refine (szIntS_any b.ids _ m B _ (HS.out.below ((Below.refl B w).alloc hB _)) (by simp; omega) hm0 hm1).mono ?_
    rintro e w1 ⟨r, rfl, hr, hb1⟩
    have HB1 := Lib.hid (below_past hb1)
    clear hb1
    rcases hr with hr | ⟨hr0, hr⟩
    · have hneg : r < 0 := by omega
      clear hr
      go_wp2_with fail
      go_ret
      exact ⟨-1, rfl, .inl rfl, HB1.out⟩
    · have HR := Lib.hid hr
      clear hr
      go_wp2_with fail
      go_ret
      exact ⟨r, rfl, .inr ⟨hr0, by have a := HR.out; have b := em.out; unfold Bn.need; omega⟩, HB1.out⟩

set_option maxHeartbeats 1000000 in
theorem szBindS_any (xs : List Bn) (v : Value) (left : Int) (B : Nat) (w : World) (hv : kBn.Rd B w v xs) (hB : B ≤ w.heap.size) (h0 : 0 ≤ left) (h1 : left ≤ 1048576) (hok : ∀ x ∈ xs, x.Ok) :
    Calls Try.prog 48 #[v, .int .i64 left] w (SzPost left (xs.length + sumBn xs) w.heap.size w) := by
  obtain ⟨p, cap, rfl⟩ := hv.form
  obtain ⟨_, hm1, hm⟩ := hv.max
  unfold maxLen at hm
  have HV := Lib.hid hv
  clear hv
  by_cases hlt : left < xs.length
  · go_enter Try.func48, Try.ntmps48
    go_wp2_with fail
    go_ret
    exact ⟨-1, rfl, .inl rfl, Below.refl _ _⟩
  · have q1 : decide (left - (xs.length : Int) < 0) = false := by simp; omega
    have q1' : decide (left < (xs.length : Int)) = false := by simp; omega
    go_enter Try.func48, Try.ntmps48
    go_wp2_with fail
    go_loopw [1, 5] (fun l i wr => ∃ (k : Nat) (m : Int), k ≤ xs.length ∧ i = .int .i64 k ∧ l = .int .i64 m ∧ 0 ≤ m ∧ m ≤ 1048576 ∧ RowKit.Hid (m = left - (xs.length + sumBn (xs.take k))) ∧ Below w.heap.size w wr) (fun _ i _ => xs.length - (intOf i).toNat)
    case atStart => exact ⟨0, left - xs.length, Nat.zero_le _, rfl, rfl, by omega, by omega, Lib.hid (by simp [sumBn]), Below.refl _ _⟩
    case round =>
      obtain ⟨k, m, hk, rfl, rfl, hm0, hm1, hme, hbw⟩ := hrel
      have hsz := hbw.size
      have HB := Lib.hid hbw
      clear hbw
      by_cases hlt2 : k < xs.length
      · obtain ⟨b, off, q, c, rfl, hb, c0, c1, c2, hin⟩ := kBn_get (HV.out.to (HB.out.mono hB) (Nat.le_refl _)) hlt2
        have hx := (hok _ (List.getElem_mem hlt2)).1
        have hsum := sumBn_succ xs k hlt2
        obtain ⟨x, ex⟩ : ∃ x, x = xs[k] := ⟨_, rfl⟩
        rw [← ex] at c0 c1 c2 hx hsum hin
        have HS := Lib.hid hsum
        have HIN := Lib.hid hin
        clear ex hsum hin
        go_wp2_with fail
        refine (szBind_any x _ m B _ HIN.out (by omega) hm0 hm1 hx).mono ?_
        rintro e w' ⟨r, rfl, hr, hb1⟩
        have HB1 := Lib.hid hb1
        clear hb1
        rcases hr with hr | ⟨hr0, hr⟩
        · have hneg : r < 0 := by omega
          clear hr
          go_wp2_with fail
          go_ret
          exact ⟨-1, rfl, .inl rfl, HB.out.trans (HB1.out.mono hsz)⟩
        · have hr1 : r ≤ 1048576 := by omega
          have HR := Lib.hid (show r = left - (xs.length + sumBn (xs.take (k + 1))) by have a := hme.out; have b := HS.out; omega)
          clear hr
          go_wp2_with fail
          go_roundw
          case rel => exact ⟨k + 1, r, by omega, by go_num, rfl, hr0, hr1, HR, HB.out.trans (HB1.out.mono hsz)⟩
          case measure => simp [intOf]; omega
      · have HR := Lib.hid (show m = left - (xs.length + sumBn xs) by have a := hme.out; rw [List.take_of_length_le (by omega)] at a; exact a)
        go_wp2_with fail
        go_ret
        exact ⟨m, rfl, .inr ⟨hm0, HR.out⟩, HB.out⟩

set_option maxHeartbeats 1000000 in
theorem szMatch_any (m : Mt) (v : Value) (left : Int) (B : Nat) (w : World) (hm : m.At B w v) (hB : B ≤ w.heap.size) (h0 : 0 ≤ left) (h1 : left ≤ 1048576) (hok : m.Ok) :
    Calls Try.prog 26 #[v, .int .i64 left] w (SzPost left m.need w.heap.size w) := by
  obtain ⟨a, b, c, rfl, ha, hb, hc⟩ := hm
  have H1 := Lib.hid (show m.w.At B w (.agg #[a, b]) from ⟨a, b, rfl, ha, hb⟩)
  have H2 := Lib.hid hc
  clear ha hb hc
  go_enter Try.func26, Try.ntmps26
  go_wp2_with fail
  refine (szWalk_any m.w _ left B _ (H1.out.to ((Below.refl B w).alloc hB _) (Nat.le_refl _)) (by simp; omega) h0 h1).mono ?_
  rintro e w1 ⟨r, rfl, hr, hb1⟩
  have hs1 : w.heap.size < w1.heap.size := by have := hb1.size; simp at this; omega
  have c1 := new_cell hb1 (j := 2) rfl
  have HB1 := Lib.hid (below_past hb1)
  clear hb1
  rcases hr with hr | ⟨hr0, hr⟩
  · have hneg : r < 0 := by omega
    clear hr
    go_wp2_with fail
    go_ret
    exact ⟨-1, rfl, .inl rfl, HB1.out⟩
  · have hr1 : r ≤ 1048576 := by omega
    have HR := Lib.hid hr
    clear hr
    go_wp2_with fail
    refine (szBindS_any m.bs c r B _ (H2.out.to (HB1.out.mono hB) (Nat.le_refl _)) (by omega) hr0 hr1 hok.2).mono ?_
    rintro e w2 ⟨r2, rfl, hr2, hb2⟩
    have HB2 := Lib.hid (HB1.out.trans (hb2.mono (by omega)))
    clear hb2
    rcases hr2 with hr2 | ⟨hr20, hr2⟩
    · have hneg : r2 < 0 := by omega
      clear hr2
      go_wp2_with fail
      go_ret
      exact ⟨-1, rfl, .inl rfl, HB2.out⟩
    · have HR2 := Lib.hid hr2
      clear hr2
      go_wp2_with fail
      go_ret
      exact ⟨r2, rfl, .inr ⟨hr20, by have a := HR.out; have b := HR2.out; unfold Mt.need; omega⟩, HB2.out⟩

def ToBnPost (b : Bn) (w : World) (en : Ending) (w' : World) : Prop := ∃ s F, en = .returned (.agg #[.string b.v, s, .bool b.g]) ∧ OwnSl 1 intCells w' s b.ids F ∧ (∀ x ∈ F, w.heap.size ≤ x) ∧ Below w.heap.size w w'
set_option maxRecDepth 100000 in
set_option maxHeartbeats 1000000 in
theorem toBind_any (b : Bn) (s : Value) (B : Nat) (w : World) (hs : Sl 1 intCells B w s b.ids) (hB : B ≤ w.heap.size) (hn : b.ids.length ≤ 1048576) :
    Calls Try.prog 70 #[.agg #[.string b.v, s, .bool b.g]] w (ToBnPost b w) := by
  have HS := Lib.hid hs
  obtain ⟨p, cap, rfl⟩ := hs.form
  clear hs
  go_enter Try.func70, Try.ntmps70
  go_wp2_with fail
  refine (toIntS_any b.ids _ B _ (HS.out.below (by ((repeat (first | with_reducible assumption | with_reducible exact Below.refl _ _ | refine Below.setCell ?_ (by (first | omega | (simp; omega) | (simp; done) | fail "sml")) _ | refine Below.drew ?_ | refine Below.alloc ?_ (by (first | omega | (simp; omega) | (simp; done) | fail "sml")) _)); first | done | fail "chs"))) (by simp; omega) hn).mono ?_
  rintro e' w1 ⟨k1, F, rfl, ho, hF, hb1⟩
  have hs1 : w.heap.size + 3 ≤ w1.heap.size := by have := hb1.size; simp at this; omega
  have q0 : w1.cell? ⟨w.heap.size + 1, 0, none⟩ = some (.string ⟨#[]⟩) := (hb1.cell (by simp)).trans (by simp [go_sem])
  have q1 : w1.cell? ⟨w.heap.size + 1, 1, none⟩ = some (.slice none 0 0) := (hb1.cell (by simp)).trans (by simp [go_sem])
  have q2 : w1.cell? ⟨w.heap.size + 1, 2, none⟩ = some (.bool false) := (hb1.cell (by simp)).trans (by simp [go_sem])
  have f0 : w1.frozen? ⟨w.heap.size + 1, 0, none⟩ = false := (hb1.frozen (by simp)).trans (by simp [go_sem])
  have f1 : w1.frozen? ⟨w.heap.size + 1, 1, none⟩ = false := (hb1.frozen (by simp)).trans (by simp [go_sem])
  have f2 : w1.frozen? ⟨w.heap.size + 1, 2, none⟩ = false := (hb1.frozen (by simp)).trans (by simp [go_sem])
  have r0 : w1.cell? ⟨w.heap.size + 1 + 1, 0, none⟩ = some (.string b.v) := (hb1.cell (by simp)).trans (by simp [go_sem])
  have r1 : w1.cell? ⟨w.heap.size + 1 + 1, 1, none⟩ = some (.slice none 0 0) := (hb1.cell (by simp)).trans (by simp [go_sem])
  have r2 : w1.cell? ⟨w.heap.size + 1 + 1, 2, none⟩ = some (.bool false) := (hb1.cell (by simp)).trans (by simp [go_sem])
  have g1 : w1.frozen? ⟨w.heap.size + 1 + 1, 1, none⟩ = false := (hb1.frozen (by simp)).trans (by simp [go_sem])
  have g2 : w1.frozen? ⟨w.heap.size + 1 + 1, 2, none⟩ = false := (hb1.frozen (by simp)).trans (by simp [go_sem])
  have a2 : w1.cell? ⟨w.heap.size, 2, none⟩ = some (.bool b.g) := (hb1.cell (by simp; omega)).trans (by simp [go_sem])
  have HB1 := Lib.hid (below_past (below_past (below_past hb1)))
  have HO := Lib.hid ho
  have HF := Lib.hid (show ∀ x ∈ F, w.heap.size + 3 ≤ x from fun x hx => by have := hF x hx; simp at this; omega)
  clear hb1 ho hF
  obtain ⟨p1, c1, rfl⟩ := HO.out.sl.form
  go_wp2_with fail
  refine bodyPost_ret (v := .agg #[.string b.v, .slice p1 b.ids.length c1, .bool b.g]) (by simp [results, Try.results70, go_sem, q0, q1, q2]) rfl ⟨_, F, rfl, HO.out.chg (G := [w.heap.size + 1, w.heap.size + 1 + 1]) ?_ ?_, fun x hx => by have := HF.out x hx; omega, ?_⟩
  · repeat (first | exact Chg.refl _ _ | refine Chg.setCell ?_ (by simp) _)
  · intro x hx; have := HF.out x hx; simp; omega
  · refine HB1.out.trans ?_
    repeat (first | exact Below.refl _ _ | refine Below.setCell ?_ (by (first | omega | (simp; omega) | (simp; done) | fail "sml")) _)

theorem infoBind : (Try.prog.info? 76).map (fun i => (i.zero, i.size, i.bytes)) = some (some (.agg #[.string ⟨#[]⟩, .slice none 0 0, .bool false]), 3, 48) := by kernel_rfl
set_option maxRecDepth 100000 in
set_option maxHeartbeats 1000000 in
theorem toBindS_any (xs : List Bn) (v : Value) (B : Nat) (w : World) (hv : kBn.Rd B w v xs) (hB : B ≤ w.heap.size) (hn : xs.length + sumBn xs ≤ 1048576) :
    Calls Try.prog 54 #[v] w fun e w' => ∃ v' F, e = .returned v' ∧ kBn.Ow w' v' xs F ∧ (∀ x ∈ F, w.heap.size ≤ x) ∧ Below w.heap.size w w' := by
  obtain ⟨p, cap, rfl⟩ := hv.form
  obtain ⟨_, hm1, hm2⟩ := hv.max
  unfold maxLen at hm2
  have HV := Lib.hid hv
  clear hv
  have hmk : ∀ w : World, (Instr.makeSlice 47 (.int .i64 (xs.length : Int)) (.int .i64 (xs.length : Int))).run Try.prog w = .ok (.slice (some ⟨w.heap.size, 0, none⟩) xs.length xs.length) (w.alloc (.cells (madeCells #[.string ⟨#[]⟩, .slice none 0 0, .bool false] (xs.length * 3)) 76)) := by
    intro w
    obtain ⟨i, hi, hzz⟩ := Option.map_eq_some_iff.1 infoBind
    simp only [Prod.mk.injEq] at hzz
    obtain ⟨hz, hs, hb⟩ := hzz
    have hr := run_make (P := Try.prog) w 47 76 i _ Try.underlying47 hi hz .i64 .i64 xs.length xs.length (by omega) (Int.le_refl _) (by rw [hb]; omega) (by omega)
    rw [hs] at hr
    exact hr
  have hbk := Blk.new w (madeCells #[.string ⟨#[]⟩, .slice none 0 0, .bool false] (xs.length * 3)) 76
  have HI0 := Lib.hid (KInv.zero (K := kBn) (xs := xs) (by simp [madeCells]; rfl) hbk)
  clear hbk
  go_enter Try.func54, Try.ntmps54
  go_wp2_with fail
  go_loopw [4] (fun i wr => ∃ (k : Nat), k ≤ xs.length ∧ i = .int .i64 k ∧ KInv kBn xs 76 w.heap.size k wr ∧ Below w.heap.size w wr) (fun i _ => xs.length - (intOf i).toNat)
  case atStart => exact ⟨0, Nat.zero_le _, rfl, HI0.out, (Below.refl _ _).alloc (Nat.le_refl _) _⟩
  case round =>
    obtain ⟨k, hk, rfl, hinv, hbw⟩ := hrel
    have hsz := hbw.size
    have hlt := hinv.lt
    have HB := Lib.hid hbw
    have HI := Lib.hid hinv
    clear hbw hinv
    by_cases hlt2 : k < xs.length
    · obtain ⟨b, off, q, c, rfl, hb, c0, c1, c2, hin⟩ := kBn_get (HV.out.to (HB.out.mono hB) (Nat.le_refl _)) hlt2
      have hsize := sumBn_get xs k hlt2
      have hstep := fun (w1 : World) (hb : Below wr.heap.size wr w1) (s : Value) (F' : List Nat) (ho : OwnSl 1 intCells w1 s xs[k].ids F') (hF : ∀ x ∈ F', wr.heap.size ≤ x) => HI.out.step hlt2 hb (kBn_ow.2 ⟨s, rfl, ho⟩) hF (stores3 (o := k * 3))
      obtain ⟨x, ex⟩ : ∃ x, x = xs[k] := ⟨_, rfl⟩
      rw [← ex] at c0 c1 c2 hin hsize hstep
      have HIN := Lib.hid hin
      have HS := Lib.hid hstep
      clear ex hin hstep
      unfold Bn.need at hsize
      go_wp2_with fail
      refine (toBind_any x _ B _ HIN.out (by omega) (by omega)).mono ?_
      rintro e w1 ⟨k1, F1, rfl, ho, hF, hb1⟩
      have HN := Lib.hid (HS.out w1 hb1 k1 F1 ho hF)
      have HB1 := Lib.hid (HB.out.trans (hb1.mono hsz))
      have hw1 : w.heap.size < w1.heap.size := Nat.lt_of_lt_of_le hlt hb1.size
      have HC := Lib.hid (fun i (hi : i < xs.length * 3) => HI.out.cells i hi)
      obtain ⟨⟨d0, e0⟩, g0⟩ := HC.out (k * 3) (by omega)
      obtain ⟨⟨d1, e1⟩, g1⟩ := HC.out (k * 3 + 1) (by omega)
      obtain ⟨⟨d2, e2⟩, g2⟩ := HC.out (k * 3 + 2) (by omega)
      have e0' := keepc hb1 hlt e0
      have e1' := keepc hb1 hlt e1
      have e2' := keepc hb1 hlt e2
      have g0' : w1.frozen? ⟨w.heap.size, k * 3, none⟩ = false := (hb1.frozen (p := ⟨w.heap.size, k * 3, none⟩) hlt).trans g0
      have g1' : w1.frozen? ⟨w.heap.size, k * 3 + 1, none⟩ = false := (hb1.frozen (p := ⟨w.heap.size, k * 3 + 1, none⟩) hlt).trans g1
      have g2' : w1.frozen? ⟨w.heap.size, k * 3 + 2, none⟩ = false := (hb1.frozen (p := ⟨w.heap.size, k * 3 + 2, none⟩) hlt).trans g2
      obtain ⟨p1, c1', rfl⟩ := ho.sl.form
      clear hb1 ho hF e0 e1 e2 g0 g1 g2
      go_wp2_with fail
      go_roundw
      case rel => exact ⟨k + 1, by omega, by go_num, HN.out, ((HB1.out.setCell (Nat.le_refl _) _).setCell (Nat.le_refl _) _).setCell (Nat.le_refl _) _⟩
      case measure => simp [intOf]; omega
    · obtain rfl : k = xs.length := by omega
      obtain ⟨F, ho, hF⟩ := HI.out.done (by unfold maxLen; omega)
      have HO := Lib.hid ho
      have HF := Lib.hid hF
      clear ho hF
      go_wp2_with fail
      go_ret
      exact ⟨_, F, rfl, HO.out, HF.out, HB.out⟩

set_option maxRecDepth 100000 in
set_option maxHeartbeats 1000000 in
theorem toMatch_any (m : Mt) (v : Value) (B : Nat) (w : World) (hm : m.At B w v) (hB : B ≤ w.heap.size) (hn : m.need ≤ 1048576) :
    Calls Try.prog 30 #[v] w fun e w' => ∃ v' F, e = .returned v' ∧ m.Has v' F w' ∧ (∀ y ∈ F, w.heap.size ≤ y) ∧ Below w.heap.size w w' := by
  obtain ⟨a, b, c, rfl, ha, hb, hc⟩ := hm
  have H1 := Lib.hid (show m.w.At B w (.agg #[a, b]) from ⟨a, b, rfl, ha, hb⟩)
  have H2 := Lib.hid hc
  have hn1 : m.w.need ≤ 1048576 := by unfold Mt.need at hn; omega
  have hn2 : m.bs.length + sumBn m.bs ≤ 1048576 := by unfold Mt.need at hn; omega
  clear ha hb hc
  go_enter Try.func30, Try.ntmps30
  go_wp2_with fail
  refine (toWalk_any m.w _ B _ (H1.out.to (by ((repeat (first | with_reducible assumption | with_reducible exact Below.refl _ _ | refine Below.setCell ?_ (by (first | omega | (simp; omega) | (simp; done) | fail "sml")) _ | refine Below.drew ?_ | refine Below.alloc ?_ (by (first | omega | (simp; omega) | (simp; done) | fail "sml")) _)); first | done | fail "chs")) (Nat.le_refl _)) (by simp; omega) hn1).mono ?_
  rintro e w1 ⟨v1, F1, rfl, ho1, hf1, hb1⟩
  have hs1 : w.heap.size + 3 ≤ w1.heap.size := by have := hb1.size; simp at this; omega
  have p2 : w1.cell? ⟨w.heap.size, 2, none⟩ = some c := (hb1.cell (by simp; omega)).trans (by simp [go_sem])
  have HQ := Lib.hid (fun (i : Nat) (hi : i < 3) => (show w1.cell? ⟨w.heap.size + 1, i, none⟩ = some (.slice none 0 0) ∧ w1.frozen? ⟨w.heap.size + 1, i, none⟩ = false ∧ w1.cell? ⟨w.heap.size + 1 + 1, i, none⟩ = some (.slice none 0 0) ∧ w1.frozen? ⟨w.heap.size + 1 + 1, i, none⟩ = false from by
    have h3 : i = 0 ∨ i = 1 ∨ i = 2 := by omega
    rcases h3 with rfl | rfl | rfl <;> exact ⟨(hb1.cell (by simp)).trans (by simp [go_sem]), (hb1.frozen (by simp)).trans (by simp [go_sem]), (hb1.cell (by simp)).trans (by simp [go_sem]), (hb1.frozen (by simp)).trans (by simp [go_sem])⟩))
  obtain ⟨q0, f0, r0, g0⟩ := HQ.out 0 (by omega)
  obtain ⟨q1, f1, r1, g1⟩ := HQ.out 1 (by omega)
  obtain ⟨q2, f2, r2, g2⟩ := HQ.out 2 (by omega)
  have HB1 := Lib.hid (below_past (below_past (below_past hb1)))
  have HO1 := Lib.hid ho1
  have HF1 := Lib.hid (show ∀ x ∈ F1, w.heap.size + 3 ≤ x from fun x hx => by have := hf1 x hx; simp at this; omega)
  obtain ⟨pn, cn, pe, ce, rfl⟩ := ho1.at.form
  clear hb1 ho1 hf1
  go_wp2_with fail
  have hbc : Below B w ((w1.setCell ⟨w.heap.size + 1 + 1, 0, none⟩ (.slice pn m.w.ns.length cn)).setCell ⟨w.heap.size + 1 + 1, 1, none⟩ (.slice pe m.w.es.length ce)) := ((HB1.out.mono hB).setCell (by simp; omega) _).setCell (by simp; omega) _
  refine (toBindS_any m.bs c B _ (H2.out.to hbc (Nat.le_refl _)) (by have := hbc.size; omega) hn2).mono ?_
  rintro e w2 ⟨v2, F2, rfl, ho2, hf2, hb2⟩
  have hs2 : w1.heap.size ≤ w2.heap.size := by have := hb2.size; simp at this; omega
  have K2 : ∀ (b o : Nat) (x : Value), b < w1.heap.size → b ≠ w.heap.size + 1 + 1 → w1.cell? ⟨b, o, none⟩ = some x → w2.cell? ⟨b, o, none⟩ = some x := fun b o x h1 h2 h3 => (hb2.cell (p := ⟨b, o, none⟩) (by simpa using h1)).trans (((set_far _ _ _ _ _ _ (Ne.symm h2)).trans (set_far _ _ _ _ _ _ (Ne.symm h2))).trans h3)
  have G2 : ∀ (b o : Nat), b < w1.heap.size → w1.frozen? ⟨b, o, none⟩ = false → w2.frozen? ⟨b, o, none⟩ = false := fun b o h1 h3 => (hb2.frozen (p := ⟨b, o, none⟩) (by simpa using h1)).trans (by simpa [go_sem] using h3)
  have q0' := K2 _ _ _ (by omega) (by omega) q0
  have q1' := K2 _ _ _ (by omega) (by omega) q1
  have q2' := K2 _ _ _ (by omega) (by omega) q2
  have f0' := G2 _ _ (by omega) f0
  have f1' := G2 _ _ (by omega) f1
  have f2' := G2 _ _ (by omega) f2
  have g2' := G2 _ _ (by omega) g2
  have r0' : w2.cell? ⟨w.heap.size + 1 + 1, 0, none⟩ = some (.slice pn m.w.ns.length cn) := (hb2.cell (p := ⟨w.heap.size + 1 + 1, 0, none⟩) (by simp; omega)).trans ((set_near _ _ _ _ _ (by omega)).trans (set_same _ _ _ _ _ r0))
  have r1' : w2.cell? ⟨w.heap.size + 1 + 1, 1, none⟩ = some (.slice pe m.w.es.length ce) := (hb2.cell (p := ⟨w.heap.size + 1 + 1, 1, none⟩) (by simp; omega)).trans (set_same _ _ _ _ _ ((set_near _ _ _ _ _ (by omega)).trans r1))
  have r2' : w2.cell? ⟨w.heap.size + 1 + 1, 2, none⟩ = some (.slice none 0 0) := (hb2.cell (p := ⟨w.heap.size + 1 + 1, 2, none⟩) (by simp; omega)).trans (((set_near _ _ _ _ _ (by omega)).trans (set_near _ _ _ _ _ (by omega))).trans r2)
  have hc12 : Chg [w.heap.size + 1 + 1] w1 w2 := ((((Chg.refl [w.heap.size + 1 + 1] w1).setCell (p := ⟨w.heap.size + 1 + 1, 0, none⟩) (by simp) (.slice pn m.w.ns.length cn)).setCell (p := ⟨w.heap.size + 1 + 1, 1, none⟩) (by simp) (.slice pe m.w.es.length ce)).then_below hb2)
  have HO2 := Lib.hid ho2
  have HF2 := Lib.hid (show ∀ x ∈ F2, w1.heap.size ≤ x from fun x hx => by have := hf2 x hx; simp at this; omega)
  have HW2 := Lib.hid (HO1.out.chg hc12 (fun x hx => by have := HF1.out x hx; simp; omega))
  have HL1 := Lib.hid HO1.out.lt
  have HB2 := Lib.hid (show Below w.heap.size w w2 from (HB1.out.trans (show Below w.heap.size w1 w2 from (((Below.refl _ w1).setCell (p := ⟨w.heap.size + 1 + 1, 0, none⟩) (by simp; omega) _).setCell (p := ⟨w.heap.size + 1 + 1, 1, none⟩) (by simp; omega) _).trans (hb2.mono (by simp; omega)))))
  obtain ⟨pb, cb, rfl⟩ := ho2.form
  clear hb2 ho2 hf2 q0 q1 q2 f0 f1 f2 r0 r1 r2 g0 g1 g2 p2 hc12 K2 G2 hbc
  go_wp2_with fail
  refine bodyPost_ret (v := .agg #[.slice pn m.w.ns.length cn, .slice pe m.w.es.length ce, .slice pb m.bs.length cb]) (by simp [results, Try.results30, go_sem, q0', q1', q2']) rfl ?_
  have hs : ∀ E, Chg [w.heap.size + 1, w.heap.size + 1 + 1] w2 E → Below w.heap.size w2 E → ∃ v' F, Ending.returned (.agg #[.slice pn m.w.ns.length cn, .slice pe m.w.es.length ce, .slice pb m.bs.length cb]) = .returned v' ∧ m.Has v' F E ∧ (∀ y ∈ F, w.heap.size ≤ y) ∧ Below w.heap.size w E := by
    intro E hE hE2
    refine ⟨_, F1 ++ F2, rfl, ⟨_, _, _, F1, F2, rfl, rfl, HW2.out.chg hE (fun x hx => by have := HF1.out x hx; simp; omega), HO2.out.chg hE (fun x hx => by have := HF2.out x hx; simp; omega), fun x hx hx2 => by have := HL1.out x hx; have := HF2.out x hx2; omega⟩, fun y hy => ?_, HB2.out.trans hE2⟩
    rcases List.mem_append.1 hy with hy | hy
    · have := HF1.out y hy; omega
    · have := HF2.out y hy; omega
  refine hs _ ?_ ?_
  · repeat (first | exact Chg.refl _ _ | refine Chg.setCell ?_ (by simp) _)
  · repeat (first | exact Below.refl _ _ | refine Below.setCell ?_ (by (first | omega | (simp; omega) | (simp; done) | fail "sml")) _)
end Go.Proofs.Ytbpihiholbidlaa
namespace Go.Proofs.Ytbpihiholbidlaa
open Go.RowKit

set_option maxHeartbeats 1000000 in
theorem eqBind_any (b : Bn) (s s' : Value) (B : Nat) (w : World) (hs : Sl 1 intCells B w s b.ids) (hs' : Sl 1 intCells B w s' b.ids) (hB : B ≤ w.heap.size) :
    Calls Try.prog 71 #[.agg #[.string b.v, s, .bool b.g], .agg #[.string b.v, s', .bool b.g]] w fun e w' => e = .returned (.bool true) ∧ Below w.heap.size w w' := by
  have H1 := Lib.hid hs
  have H2 := Lib.hid hs'
  obtain ⟨p, cap, rfl⟩ := hs.form
  obtain ⟨p', cap', rfl⟩ := hs'.form
  clear hs hs'
  go_enter Try.func71, Try.ntmps71
  go_wp2_with fail
  have HV := Lib.hid (((Below.refl w.heap.size w).alloc (Nat.le_refl _) (.cells #[.string b.v, .slice p b.ids.length cap, .bool b.g] 76)).alloc (by simp) (.cells #[.string b.v, .slice p' b.ids.length cap', .bool b.g] 76))
  refine (eqIntS_any b.ids _ _ B _ (H1.out.below (HV.out.mono hB)) (H2.out.below (HV.out.mono hB)) (by simp; omega)).mono ?_
  rintro e w1 ⟨rfl, hb1⟩
  have hs1 : w.heap.size + 2 ≤ w1.heap.size := by have := hb1.size; simp at this; omega
  have p1 : w1.cell? ⟨w.heap.size, 2, none⟩ = some (.bool b.g) := (hb1.cell (by simp; omega)).trans (by simp [go_sem])
  have q1 : w1.cell? ⟨w.heap.size + 1, 2, none⟩ = some (.bool b.g) := (hb1.cell (by simp)).trans (by simp [go_sem])
  have HB1 := Lib.hid (HV.out.trans (hb1.mono (by simp; omega)))
  clear hb1
  go_wp2_with fail
  go_ret
  exact ⟨rfl, HB1.out⟩

set_option maxRecDepth 100000 in
set_option maxHeartbeats 1000000 in
theorem eqBindS_any (xs : List Bn) (v v' : Value) (B : Nat) (w : World) (hv : kBn.Rd B w v xs) (hv' : kBn.Rd B w v' xs) (hB : B ≤ w.heap.size) :
    Calls Try.prog 56 #[v, v'] w fun e w' => e = .returned (.bool true) ∧ Below w.heap.size w w' := by
  obtain ⟨p, cap, rfl⟩ := hv.form
  obtain ⟨p', cap', rfl⟩ := hv'.form
  obtain ⟨_, _, hm⟩ := hv.max
  obtain ⟨_, _, hm'⟩ := hv'.max
  have hl := hv.max.2.1
  unfold maxLen at hm hm'
  have HV := Lib.hid hv
  have HV' := Lib.hid hv'
  clear hv hv'
  go_enter Try.func56, Try.ntmps56
  go_wp2_with fail
  go_loopw [5] (fun i wr => ∃ k : Nat, k ≤ xs.length ∧ i = .int .i64 k ∧ Below w.heap.size w wr) (fun i _ => xs.length - (intOf i).toNat)
  case atStart => exact ⟨0, Nat.zero_le _, rfl, Below.refl _ _⟩
  case round =>
    obtain ⟨k, hk, rfl, hbw⟩ := hrel
    have hsz := hbw.size
    have HB := Lib.hid hbw
    clear hbw
    by_cases hlt2 : k < xs.length
    · obtain ⟨b, off, q, c, rfl, hb, c0, c1, c2, hin⟩ := kBn_get (HV.out.to (HB.out.mono hB) (Nat.le_refl _)) hlt2
      obtain ⟨b', off', q', c', rfl, hb', d0, d1, d2, hin'⟩ := kBn_get (HV'.out.to (HB.out.mono hB) (Nat.le_refl _)) hlt2
      obtain ⟨x, ex⟩ : ∃ x, x = xs[k] := ⟨_, rfl⟩
      rw [← ex] at c0 c1 c2 d0 d1 d2 hin hin'
      have H1 := Lib.hid (hin.below (Below.refl B wr).drew)
      have H2 := Lib.hid (hin'.below (Below.refl B wr).drew)
      clear ex hin hin'
      go_wp2_with fail
      go_still_tail 8, (by kernel_rfl)
      go_wp2_with fail
      refine (eqBind_any x _ _ B _ H1.out H2.out (by show B ≤ wr.heap.size; omega)).mono ?_
      rintro e w' ⟨rfl, hb1⟩
      have HB1 := Lib.hid (HB.out.drew.trans (hb1.mono hsz))
      clear hb1
      go_wp2_with fail
      go_roundw
      case rel => exact ⟨k + 1, by omega, by go_num, HB1.out⟩
      case measure => simp [intOf]; omega
    · obtain rfl : k = xs.length := by omega
      go_wp2_with fail
      go_ret
      exact ⟨rfl, HB.out⟩

set_option maxHeartbeats 1000000 in
theorem eqMatch_any (m : Mt) (v v' : Value) (B : Nat) (w : World) (hm : m.At B w v) (hm' : m.At B w v') (hB : B ≤ w.heap.size) :
    Calls Try.prog 31 #[v, v'] w fun e w' => e = .returned (.bool true) ∧ Below w.heap.size w w' := by
  obtain ⟨a, b, c, rfl, ha, hb, hc⟩ := hm
  obtain ⟨a', b', c', rfl, ha', hb', hc'⟩ := hm'
  have H1 := Lib.hid (show m.w.At B w (.agg #[a, b]) from ⟨a, b, rfl, ha, hb⟩)
  have H1' := Lib.hid (show m.w.At B w (.agg #[a', b']) from ⟨a', b', rfl, ha', hb'⟩)
  have H2 := Lib.hid hc
  have H2' := Lib.hid hc'
  clear ha hb hc ha' hb' hc'
  go_enter Try.func31, Try.ntmps31
  go_wp2_with fail
  have HV := Lib.hid (((Below.refl w.heap.size w).alloc (Nat.le_refl _) (.cells #[a, b, c] 49)).alloc (by simp) (.cells #[a', b', c'] 49))
  refine (eqWalk_any m.w _ _ B _ (H1.out.to (HV.out.mono hB) (Nat.le_refl _)) (H1'.out.to (HV.out.mono hB) (Nat.le_refl _)) (by simp; omega)).mono ?_
  rintro e w1 ⟨rfl, hb1⟩
  have hs1 : w.heap.size + 2 ≤ w1.heap.size := by have := hb1.size; simp at this; omega
  have p1 : w1.cell? ⟨w.heap.size, 2, none⟩ = some c := (hb1.cell (by simp; omega)).trans (by simp [go_sem])
  have q1 : w1.cell? ⟨w.heap.size + 1, 2, none⟩ = some c' := (hb1.cell (by simp)).trans (by simp [go_sem])
  have HB1 := Lib.hid (HV.out.trans (hb1.mono (by simp; omega)))
  clear hb1
  go_wp2_with fail
  refine (eqBindS_any m.bs c c' B _ (H2.out.to (HB1.out.mono hB) (Nat.le_refl _)) (H2'.out.to (HB1.out.mono hB) (Nat.le_refl _)) (by omega)).mono ?_
  rintro e w2 ⟨rfl, hb2⟩
  have HB2 := Lib.hid (HB1.out.trans (hb2.mono (by omega)))
  clear hb2
  go_wp2_with fail
  go_ret
  exact ⟨rfl, HB2.out⟩

/-- What MatchSame answers. -/
def bnE (x y : Bn) : Bool := ((x.v.toList == y.v.toList) && (x.g == y.g)) && eqL intE x.ids y.ids
def mtEq (a b : Mt) : Bool := wkEq a.w b.w && eqL bnE a.bs b.bs

end Go.Proofs.Ytbpihiholbidlaa
namespace Go.Proofs.Ytbpihiholbidlaa
open Go.RowKit

def kMt : Kd Mt where
  sz := 3
  rd B w m cs := ∃ a b c, cs = [a, b, c] ∧ m.At B w (.agg #[a, b, c])
  ow w m cs F := ∃ a b c, cs = [a, b, c] ∧ m.Has (.agg #[a, b, c]) F w
  rd_len := by rintro _ _ _ _ ⟨a, b, c, rfl, _⟩; rfl
  rd_to := by rintro _ _ _ _ _ _ ⟨a, b, c, rfl, h⟩ hb hB; exact ⟨a, b, c, rfl, h.to hb hB⟩
  ow_rd := by rintro _ _ _ _ ⟨a, b, c, rfl, h⟩; exact ⟨a, b, c, rfl, h.at⟩
  ow_chg := by rintro _ _ _ _ _ _ ⟨a, b, c, rfl, h⟩ hc hd; exact ⟨a, b, c, rfl, h.chg hc hd⟩
  ow_lt := by rintro _ _ _ _ ⟨a, b, c, rfl, h⟩; exact h.lt
def sumMt (xs : List Mt) : Nat := (xs.map Mt.need).sum
theorem sumMt_succ (xs : List Mt) (k : Nat) (h : k < xs.length) : sumMt (xs.take (k + 1)) = sumMt (xs.take k) + xs[k].need := by
  unfold sumMt; rw [List.take_succ_eq_append_getElem h, List.map_append, List.sum_append]; simp only [List.map_cons, List.map_nil, List.sum_cons, List.sum_nil, Nat.add_zero]
theorem sumMt_le (xs : List Mt) (k : Nat) : sumMt (xs.take k) ≤ sumMt xs := by
  unfold sumMt
  have := congrArg (fun l => (l.map Mt.need).sum) (List.take_append_drop k xs)
  simp only [List.map_append, List.sum_append] at this; omega
theorem sumMt_get (xs : List Mt) (k : Nat) (h : k < xs.length) : xs[k].need ≤ sumMt xs := by
  have := sumMt_succ xs k h; have := sumMt_le xs (k + 1); omega
/-- An element's cells, at an index. -/
theorem kMt_get {B : Nat} {w : World} {p : Option Addr} {n cap : Nat} {xs : List Mt} (h : kMt.Rd B w (.slice p n cap) xs) {k : Nat} (hk : k < xs.length) :
    ∃ b off q c q' c' r e, p = some ⟨b, off, none⟩ ∧ b < B ∧ w.cell? ⟨b, off + k * 3, none⟩ = some (.slice q xs[k].w.ns.length c) ∧ w.cell? ⟨b, off + k * 3 + 1, none⟩ = some (.slice q' xs[k].w.es.length c') ∧ w.cell? ⟨b, off + k * 3 + 2, none⟩ = some (.slice r xs[k].bs.length e) ∧ xs[k].At B w (.agg #[.slice q xs[k].w.ns.length c, .slice q' xs[k].w.es.length c', .slice r xs[k].bs.length e]) := by
  obtain ⟨b, off, cs, e, hl, hc, hr⟩ := h.get hk
  obtain ⟨a1, a2, a3, rfl, hm⟩ := hr
  obtain ⟨q, c, q', c', r, e', he⟩ := hm.form
  simp only [Value.agg.injEq] at he
  have h1 := congrArg Array.toList he
  simp only [List.cons.injEq, and_true] at h1
  obtain ⟨rfl, rfl, rfl⟩ := h1
  exact ⟨b, off, q, c, q', c', r, e', e, hl, hc 0 _ rfl, hc 1 _ rfl, hc 2 _ rfl, hm⟩

set_option maxRecDepth 100000 in
set_option maxHeartbeats 1000000 in
theorem szMatchS_any (xs : List Mt) (v : Value) (left : Int) (B : Nat) (w : World) (hv : kMt.Rd B w v xs) (hB : B ≤ w.heap.size) (h0 : 0 ≤ left) (h1 : left ≤ 1048576) (hok : ∀ x ∈ xs, x.Ok) :
    Calls Try.prog 8 #[v, .int .i64 left] w (SzPost left (xs.length + sumMt xs) w.heap.size w) := by
  obtain ⟨p, cap, rfl⟩ := hv.form
  obtain ⟨_, hm1, hm⟩ := hv.max
  unfold maxLen at hm
  have HV := Lib.hid hv
  clear hv
  by_cases hlt : left < xs.length
  · go_enter Try.func8, Try.ntmps8
    go_wp2_with fail
    go_ret
    exact ⟨-1, rfl, .inl rfl, Below.refl _ _⟩
  · have q1 : decide (left - (xs.length : Int) < 0) = false := by simp; omega
    have q1' : decide (left < (xs.length : Int)) = false := by simp; omega
    go_enter Try.func8, Try.ntmps8
    go_wp2_with fail
    go_loopw [1, 5] (fun l i wr => ∃ (k : Nat) (m : Int), k ≤ xs.length ∧ i = .int .i64 k ∧ l = .int .i64 m ∧ 0 ≤ m ∧ m ≤ 1048576 ∧ RowKit.Hid (m = left - (xs.length + sumMt (xs.take k))) ∧ Below w.heap.size w wr) (fun _ i _ => xs.length - (intOf i).toNat)
    case atStart => exact ⟨0, left - xs.length, Nat.zero_le _, rfl, rfl, by omega, by omega, Lib.hid (by simp [sumMt]), Below.refl _ _⟩
    case round =>
      obtain ⟨k, m, hk, rfl, rfl, hm0, hm1, hme, hbw⟩ := hrel
      have hsz := hbw.size
      have HB := Lib.hid hbw
      clear hbw
      by_cases hlt2 : k < xs.length
      · obtain ⟨b, off, q, c, q', c', r, e, rfl, hb, c0, c1, c2, hin⟩ := kMt_get (HV.out.to (HB.out.mono hB) (Nat.le_refl _)) hlt2
        have hx := hok _ (List.getElem_mem hlt2)
        have hsum := sumMt_succ xs k hlt2
        obtain ⟨x, ex⟩ : ∃ x, x = xs[k] := ⟨_, rfl⟩
        rw [← ex] at c0 c1 c2 hx hsum hin
        have HS := Lib.hid hsum
        have HIN := Lib.hid hin
        have HX := Lib.hid hx
        clear ex hsum hin hx
        go_wp2_with fail
        refine (szMatch_any x _ m B _ HIN.out (by omega) hm0 hm1 HX.out).mono ?_
        rintro en w' ⟨s, rfl, hr, hb1⟩
        have HB1 := Lib.hid hb1
        clear hb1
        rcases hr with hr | ⟨hr0, hr⟩
        · have hneg : s < 0 := by omega
          clear hr
          go_wp2_with fail
          go_ret
          exact ⟨-1, rfl, .inl rfl, HB.out.trans (HB1.out.mono hsz)⟩
        · have hr1 : s ≤ 1048576 := by omega
          have HR := Lib.hid (show s = left - (xs.length + sumMt (xs.take (k + 1))) by have a := hme.out; have b := HS.out; omega)
          clear hr
          go_wp2_with fail
          go_roundw
          case rel => exact ⟨k + 1, s, by omega, by go_num, rfl, hr0, hr1, HR, HB.out.trans (HB1.out.mono hsz)⟩
          case measure => simp [intOf]; omega
      · have HR := Lib.hid (show m = left - (xs.length + sumMt xs) by have a := hme.out; rw [List.take_of_length_le (by omega)] at a; exact a)
        go_wp2_with fail
        go_ret
        exact ⟨m, rfl, .inr ⟨hm0, HR.out⟩, HB.out⟩

theorem infoMatch : (Try.prog.info? 49).map (fun i => (i.zero, i.size, i.bytes)) = some (some (.agg #[.slice none 0 0, .slice none 0 0, .slice none 0 0]), 3, 72) := by kernel_rfl
set_option maxRecDepth 100000 in
set_option maxHeartbeats 1000000 in
theorem toMatchS_any (xs : List Mt) (v : Value) (B : Nat) (w : World) (hv : kMt.Rd B w v xs) (hB : B ≤ w.heap.size) (hn : xs.length + sumMt xs ≤ 1048576) :
    Calls Try.prog 10 #[v] w fun e w' => ∃ v' F, e = .returned v' ∧ kMt.Ow w' v' xs F ∧ (∀ x ∈ F, w.heap.size ≤ x) ∧ Below w.heap.size w w' := by
  obtain ⟨p, cap, rfl⟩ := hv.form
  obtain ⟨_, hm1, hm2⟩ := hv.max
  unfold maxLen at hm2
  have HV := Lib.hid hv
  clear hv
  have hmk : ∀ w : World, (Instr.makeSlice 24 (.int .i64 (xs.length : Int)) (.int .i64 (xs.length : Int))).run Try.prog w = .ok (.slice (some ⟨w.heap.size, 0, none⟩) xs.length xs.length) (w.alloc (.cells (madeCells #[.slice none 0 0, .slice none 0 0, .slice none 0 0] (xs.length * 3)) 49)) := by
    intro w
    obtain ⟨i, hi, hzz⟩ := Option.map_eq_some_iff.1 infoMatch
    simp only [Prod.mk.injEq] at hzz
    obtain ⟨hz, hs, hb⟩ := hzz
    have hr := run_make (P := Try.prog) w 24 49 i _ Try.underlying24 hi hz .i64 .i64 xs.length xs.length (by omega) (Int.le_refl _) (by rw [hb]; omega) (by omega)
    rw [hs] at hr
    exact hr
  have hbk := Blk.new w (madeCells #[.slice none 0 0, .slice none 0 0, .slice none 0 0] (xs.length * 3)) 49
  have HI0 := Lib.hid (KInv.zero (K := kMt) (xs := xs) (by simp [madeCells]; rfl) hbk)
  clear hbk
  go_enter Try.func10, Try.ntmps10
  go_wp2_with fail
  go_loopw [4] (fun i wr => ∃ (k : Nat), k ≤ xs.length ∧ i = .int .i64 k ∧ RowKit.Hid (KInv kMt xs 49 w.heap.size k wr) ∧ Below w.heap.size w wr) (fun i _ => xs.length - (intOf i).toNat)
  case atStart => exact ⟨0, Nat.zero_le _, rfl, HI0, (Below.refl _ _).alloc (Nat.le_refl _) _⟩
  case round =>
    obtain ⟨k, hk, rfl, HI, hbw⟩ := hrel
    have hsz := hbw.size
    have hlt := HI.out.lt
    have HB := Lib.hid hbw
    clear hbw
    by_cases hlt2 : k < xs.length
    · obtain ⟨b, off, q, c, q', c', r, e, rfl, hb, c0, c1, c2, hin⟩ := kMt_get (HV.out.to (HB.out.mono hB) (Nat.le_refl _)) hlt2
      have hsize := sumMt_get xs k hlt2
      have hstep := fun (w1 : World) (hb : Below wr.heap.size wr w1) (s t u : Value) (F' : List Nat) (ho : xs[k].Has (.agg #[s, t, u]) F' w1) (hF : ∀ x ∈ F', wr.heap.size ≤ x) => HI.out.step hlt2 hb (show kMt.ow w1 xs[k] [s, t, u] F' from ⟨s, t, u, rfl, ho⟩) hF (stores3 (o := k * 3))
      obtain ⟨x, ex⟩ : ∃ x, x = xs[k] := ⟨_, rfl⟩
      rw [← ex] at c0 c1 c2 hin hsize hstep
      have HIN := Lib.hid hin
      have HS := Lib.hid hstep
      clear ex hin hstep
      go_wp2_with fail
      refine (toMatch_any x _ B _ HIN.out (by omega) (by omega)).mono ?_
      rintro en w1 ⟨v1, F1, rfl, ho, hF, hb1⟩
      obtain ⟨p1, d1, p2, d2, p3, d3, rfl⟩ := ho.at.form
      have HN := Lib.hid (HS.out w1 hb1 _ _ _ F1 ho hF)
      have HB1 := Lib.hid (HB.out.trans (hb1.mono hsz))
      have hw1 : w.heap.size < w1.heap.size := Nat.lt_of_lt_of_le hlt hb1.size
      have HC := Lib.hid (fun i (hi : i < xs.length * 3) => HI.out.cells i hi)
      obtain ⟨⟨d0, e0⟩, g0⟩ := HC.out (k * 3) (by omega)
      obtain ⟨⟨d1, e1⟩, g1⟩ := HC.out (k * 3 + 1) (by omega)
      obtain ⟨⟨d2, e2⟩, g2⟩ := HC.out (k * 3 + 2) (by omega)
      have e0' := keepc hb1 hlt e0
      have e1' := keepc hb1 hlt e1
      have e2' := keepc hb1 hlt e2
      have g0' : w1.frozen? ⟨w.heap.size, k * 3, none⟩ = false := (hb1.frozen (p := ⟨w.heap.size, k * 3, none⟩) hlt).trans g0
      have g1' : w1.frozen? ⟨w.heap.size, k * 3 + 1, none⟩ = false := (hb1.frozen (p := ⟨w.heap.size, k * 3 + 1, none⟩) hlt).trans g1
      have g2' : w1.frozen? ⟨w.heap.size, k * 3 + 2, none⟩ = false := (hb1.frozen (p := ⟨w.heap.size, k * 3 + 2, none⟩) hlt).trans g2
      clear hb1 ho hF e0 e1 e2 g0 g1 g2
      go_wp2_with fail
      go_roundw
      case rel => exact ⟨k + 1, by omega, by go_num, HN, ((HB1.out.setCell (Nat.le_refl _) _).setCell (Nat.le_refl _) _).setCell (Nat.le_refl _) _⟩
      case measure => simp [intOf]; omega
    · obtain rfl : k = xs.length := by omega
      obtain ⟨F, ho, hF⟩ := HI.out.done (by unfold maxLen; omega)
      have HO := Lib.hid ho
      have HF := Lib.hid hF
      clear ho hF
      go_wp2_with fail
      go_ret
      exact ⟨_, F, rfl, HO.out, HF.out, HB.out⟩

set_option maxRecDepth 100000 in
set_option maxHeartbeats 1000000 in
theorem eqMatchS_any (xs : List Mt) (v v' : Value) (B : Nat) (w : World) (hv : kMt.Rd B w v xs) (hv' : kMt.Rd B w v' xs) (hB : B ≤ w.heap.size) :
    Calls Try.prog 12 #[v, v'] w fun e w' => e = .returned (.bool true) ∧ Below w.heap.size w w' := by
  obtain ⟨p, cap, rfl⟩ := hv.form
  obtain ⟨p', cap', rfl⟩ := hv'.form
  obtain ⟨_, _, hm⟩ := hv.max
  obtain ⟨_, _, hm'⟩ := hv'.max
  have hl := hv.max.2.1
  unfold maxLen at hm hm'
  have HV := Lib.hid hv
  have HV' := Lib.hid hv'
  clear hv hv'
  go_enter Try.func12, Try.ntmps12
  go_wp2_with fail
  go_loopw [5] (fun i wr => ∃ k : Nat, k ≤ xs.length ∧ i = .int .i64 k ∧ Below w.heap.size w wr) (fun i _ => xs.length - (intOf i).toNat)
  case atStart => exact ⟨0, Nat.zero_le _, rfl, Below.refl _ _⟩
  case round =>
    obtain ⟨k, hk, rfl, hbw⟩ := hrel
    have hsz := hbw.size
    have HB := Lib.hid hbw
    clear hbw
    by_cases hlt2 : k < xs.length
    · obtain ⟨b, off, q, c, q', c', r, e, rfl, hb, c0, c1, c2, hin⟩ := kMt_get (HV.out.to (HB.out.mono hB) (Nat.le_refl _)) hlt2
      obtain ⟨b', off', s, f, s', f', t, g, rfl, hb', d0, d1, d2, hin'⟩ := kMt_get (HV'.out.to (HB.out.mono hB) (Nat.le_refl _)) hlt2
      obtain ⟨x, ex⟩ : ∃ x, x = xs[k] := ⟨_, rfl⟩
      rw [← ex] at c0 c1 c2 d0 d1 d2 hin hin'
      have H1 := Lib.hid (hin.to (Below.refl B wr).drew (Nat.le_refl _))
      have H2 := Lib.hid (hin'.to (Below.refl B wr).drew (Nat.le_refl _))
      clear ex hin hin'
      go_wp2_with fail
      go_still_tail 8, (by kernel_rfl)
      go_wp2_with fail
      refine (eqMatch_any x _ _ B _ H1.out H2.out (by show B ≤ wr.heap.size; omega)).mono ?_
      rintro en w' ⟨rfl, hb1⟩
      have HB1 := Lib.hid (HB.out.drew.trans (hb1.mono hsz))
      clear hb1
      go_wp2_with fail
      go_roundw
      case rel => exact ⟨k + 1, by omega, by go_num, HB1.out⟩
      case measure => simp [intOf]; omega
    · obtain rfl : k = xs.length := by omega
      go_wp2_with fail
      go_ret
      exact ⟨rfl, HB.out⟩
end Go.Proofs.Ytbpihiholbidlaa
namespace Go.Proofs.Ytbpihiholbidlaa
open Go.RowKit

def bnP (s : ByteArray) (b : Bn) : Bool := b.v.toList == s.toList
def NoneB (xs : List Bn) (s : ByteArray) (k : Nat) : Prop := ∀ i (h : i < xs.length), i < k → bnP s xs[i] = false
theorem NoneB.zero (xs : List Bn) (s : ByteArray) : NoneB xs s 0 := fun _ _ h => by omega
theorem NoneB.succ {xs : List Bn} {s : ByteArray} {k : Nat} (h : NoneB xs s k) (hk : k < xs.length) (hp : bnP s xs[k] = false) : NoneB xs s (k + 1) := fun i hi hik => by
  by_cases e : i = k
  · subst e; exact hp
  · exact h i hi (by omega)
/-- What a search answers. -/
def FindR (xs : List Bn) (s : ByteArray) (r : Int) : Prop := (r = -1 ∧ NoneB xs s xs.length) ∨ ∃ k : Nat, ∃ h : k < xs.length, r = k ∧ NoneB xs s k ∧ bnP s xs[k] = true
/-- What BindOf answers. -/
def bof (xs : List Bn) (s : ByteArray) : Bn × Bool := match xs.find? (bnP s) with | some b => (b, true) | none => (⟨⟨#[]⟩, [], false⟩, false)
theorem bof_none {xs : List Bn} {s : ByteArray} (h : NoneB xs s xs.length) : bof xs s = (⟨⟨#[]⟩, [], false⟩, false) := by
  have : xs.find? (bnP s) = none := List.find?_eq_none.2 fun x hx => by
    obtain ⟨i, hi, rfl⟩ := List.getElem_of_mem hx
    rw [h i hi hi]; simp
  unfold bof; rw [this]
theorem bof_at {xs : List Bn} {s : ByteArray} {k : Nat} (hk : k < xs.length) (h : NoneB xs s k) (hp : bnP s xs[k] = true) : bof xs s = (xs[k], true) := by
  have : xs.find? (bnP s) = some xs[k] := List.find?_eq_some_iff_getElem.2 ⟨hp, k, hk, rfl, fun j hj => by rw [h j (by omega) hj]; rfl⟩
  unfold bof; rw [this]
/-- The value of a struct Bind; in memory of the call's own. -/
def Bn.At (b : Bn) (B : Nat) (w : World) (v : Value) : Prop := ∃ s, v = .agg #[.string b.v, s, .bool b.g] ∧ Sl 1 intCells B w s b.ids
def Bn.Has (b : Bn) (v : Value) (F : List Nat) (w : World) : Prop := ∃ s, v = .agg #[.string b.v, s, .bool b.g] ∧ OwnSl 1 intCells w s b.ids F
theorem Bn.Has.at {b : Bn} {v : Value} {F : List Nat} {w : World} (h : b.Has v F w) : b.At w.heap.size w v := by
  obtain ⟨s, rfl, h⟩ := h; exact ⟨s, rfl, h.sl⟩
theorem Bn.Has.chg {b : Bn} {v : Value} {F G : List Nat} {w w' : World} (h : b.Has v F w) (hc : Chg G w w') (hd : ∀ y ∈ F, y ∉ G) : b.Has v F w' := by
  obtain ⟨s, rfl, h⟩ := h; exact ⟨s, rfl, h.chg hc hd⟩
theorem Bn.Has.lt {b : Bn} {v : Value} {F : List Nat} {w : World} (h : b.Has v F w) : ∀ y ∈ F, y < w.heap.size := by
  obtain ⟨s, rfl, h⟩ := h; exact h.lt
theorem Bn.At.to {b : Bn} {B B' : Nat} {w w' : World} {v : Value} (h : b.At B w v) (hb : Below B w w') (hB : B ≤ B') : b.At B' w' v := by
  obtain ⟨s, rfl, h⟩ := h; exact ⟨s, rfl, (h.below hb).mono hB⟩
theorem Bn.At.form {b : Bn} {B : Nat} {w : World} {v : Value} (h : b.At B w v) : ∃ p c, v = .agg #[.string b.v, .slice p b.ids.length c, .bool b.g] := by
  obtain ⟨s, rfl, h⟩ := h
  obtain ⟨p, c, rfl⟩ := h.form
  exact ⟨p, c, rfl⟩
theorem Bn.goes (b : Bn) : Goes b.Has := fun _ _ _ _ _ h hc hd => h.chg hc hd
def BoPost (xs : List Bn) (s : ByteArray) (w : World) (e : Ending) (w' : World) : Prop := ∃ u F, e = .returned (.tuple #[u, .bool (bof xs s).2]) ∧ (bof xs s).1.Has u F w' ∧ (∀ y ∈ F, w.heap.size ≤ y) ∧ Below w.heap.size w w'
theorem bn_need {xs : List Bn} {k : Nat} (h : sumBn xs ≤ 1048576) (hk : k < xs.length) : (xs[k]).ids.length ≤ 1048576 := by
  have := sumBn_get xs k hk; unfold Bn.need at this; omega

set_option maxRecDepth 100000 in
set_option maxHeartbeats 2000000 in
theorem copyBind_any (b : Bn) (v : Value) (B : Nat) (w : World) (hv : b.At B w v) (hB : B ≤ w.heap.size) (hn : b.ids.length ≤ 1048576) :
    Calls Try.prog 74 #[v] w fun e w' => ∃ u F, e = .returned u ∧ b.Has u F w' ∧ (∀ y ∈ F, w.heap.size ≤ y) ∧ Below w.heap.size w w' := by
  have HS := Lib.hid (show ∃ s, v = .agg #[.string b.v, s, .bool b.g] ∧ Sl 1 intCells B w s b.ids from hv)
  obtain ⟨s, rfl, hs⟩ := hv
  have HSL := Lib.hid hs
  obtain ⟨p, cap, rfl⟩ := hs.form
  clear hs HS
  go_enter Try.func74, Try.ntmps74
  go_wp2_with fail
  obtain ⟨W, eW⟩ : ∃ E, E = (w.alloc (.cells #[.string b.v, .slice p b.ids.length cap, .bool b.g] 76)).alloc (.cells #[.string ⟨#[]⟩, .slice none 0 0, .bool false] 76) := ⟨_, rfl⟩
  have zW : w.heap.size + 1 < W.heap.size := by rw [eW]; simp
  have hbW : Below w.heap.size w W := by rw [eW]; exact ((Below.refl _ _).alloc (Nat.le_refl _) _).alloc (by simp) _
  have HC := Lib.hid (show (W.cell? ⟨w.heap.size, 0, none⟩ = some (.string b.v) ∧ W.cell? ⟨w.heap.size, 1, none⟩ = some (.slice p b.ids.length cap) ∧ W.cell? ⟨w.heap.size, 2, none⟩ = some (.bool b.g)) ∧ (W.cell? ⟨w.heap.size + 1, 0, none⟩ = some (.string ⟨#[]⟩) ∧ W.cell? ⟨w.heap.size + 1, 1, none⟩ = some (.slice none 0 0) ∧ W.cell? ⟨w.heap.size + 1, 2, none⟩ = some (.bool false)) ∧ W.frozen? ⟨w.heap.size + 1, 0, none⟩ = false ∧ W.frozen? ⟨w.heap.size + 1, 1, none⟩ = false ∧ W.frozen? ⟨w.heap.size + 1, 2, none⟩ = false by
    rw [eW]; exact ⟨⟨by simp [go_sem], by simp [go_sem], by simp [go_sem]⟩, ⟨by simp [go_sem], by simp [go_sem], by simp [go_sem]⟩, by simp [go_sem], by simp [go_sem], by simp [go_sem]⟩)
  rw [← eW]
  clear eW
  have KS := Lib.hid (fun (E : World) (hE : Below W.heap.size W E) => (show E.cell? ⟨w.heap.size, 0, none⟩ = some (.string b.v) ∧ E.cell? ⟨w.heap.size, 1, none⟩ = some (.slice p b.ids.length cap) ∧ E.cell? ⟨w.heap.size, 2, none⟩ = some (.bool b.g) from ⟨keepc hE (by omega) HC.out.1.1, keepc hE (by omega) HC.out.1.2.1, keepc hE (by omega) HC.out.1.2.2⟩))
  have HSW := Lib.hid (fun (E : World) (hE : Below W.heap.size W E) => (show Sl 1 intCells W.heap.size E (.slice p b.ids.length cap) b.ids from ((HSL.out.below (hbW.mono hB)).mono (show B ≤ W.heap.size by omega)).below hE))
  have HW := Lib.hid hbW
  have r0 := Below.refl W.heap.size W
  clear hbW
  go_upto_region 1 with fail
  refine wp_region_E (last := 9) (S := fun w' => w'.cell? ⟨w.heap.size, 0, none⟩ = some (.string b.v) ∧ w'.cell? ⟨w.heap.size, 1, none⟩ = some (.slice p b.ids.length cap) ∧ w'.cell? ⟨w.heap.size, 2, none⟩ = some (.bool b.g)) (by kernel_rfl) ?_ (fun hHeld => ?_)
  · exact KS.out _ ((Below.refl _ _).drew)
  have cW : Below W.heap.size W W.drew := (Below.refl _ _).drew
  generalize W.drew = W0 at cW hHeld ⊢
  have yW := cW.size
  (refine takeE (i := 0) (v := ?_) [] rfl (by kernel_rfl) (by kernel_rfl) (fun _ _ _ h => h) (Or.inl ⟨by kernel_rfl, ?_⟩) (by assumption) ?_; rotate_left; (focus (intro w hSw; (try dsimp only at hSw); go_simp; first | done | with_reducible rfl | fail "takeE")); (try simp only [Act.put, List.setIfInBounds_toArray, List.set_cons_zero, List.set_cons_succ]))
  (refine takeE (i := 1) (v := ?_) [] rfl (by kernel_rfl) (by kernel_rfl) (fun _ _ _ h => h) (Or.inl ⟨by kernel_rfl, ?_⟩) (by assumption) ?_; rotate_left; (focus (intro w hSw; (try dsimp only at hSw); go_simp; first | done | with_reducible rfl | fail "takeE")); (try simp only [Act.put, List.setIfInBounds_toArray, List.set_cons_zero, List.set_cons_succ]))
  (refine takeE (i := 2) (v := ?_) [] rfl (by kernel_rfl) (by kernel_rfl) (fun _ _ _ h => h) (Or.inl ⟨by kernel_rfl, ?_⟩) (by assumption) ?_; rotate_left; (focus (intro w hSw; (try dsimp only at hSw); go_simp; first | done | with_reducible rfl | fail "takeE")); (try simp only [Act.put, List.setIfInBounds_toArray, List.set_cons_zero, List.set_cons_succ]))
  (refine takeE (i := 3) (v := ?_) [] rfl (by kernel_rfl) (by kernel_rfl) (fun _ _ _ h => h) (Or.inl ⟨by kernel_rfl, ?_⟩) (by assumption) ?_; rotate_left; (focus (intro w hSw; (try dsimp only at hSw); go_simp; first | done | with_reducible rfl | fail "takeE")); (try simp only [Act.put, List.setIfInBounds_toArray, List.set_cons_zero, List.set_cons_succ]))
  (refine takeE (i := 6) (v := ?_) [] rfl (by kernel_rfl) (by kernel_rfl) (fun _ _ _ h => h) (Or.inl ⟨by kernel_rfl, ?_⟩) (by assumption) ?_; rotate_left; (focus (intro w hSw; (try dsimp only at hSw); go_simp; first | done | with_reducible rfl | fail "takeE")); (try simp only [Act.put, List.setIfInBounds_toArray, List.set_cons_zero, List.set_cons_succ]))
  (refine takeE (i := 7) (v := ?_) [] rfl (by kernel_rfl) (by kernel_rfl) (fun _ _ _ h => h) (Or.inl ⟨by kernel_rfl, ?_⟩) (by assumption) ?_; rotate_left; (focus (intro w hSw; (try dsimp only at hSw); go_simp; first | done | with_reducible rfl | fail "takeE")); (try simp only [Act.put, List.setIfInBounds_toArray, List.set_cons_zero, List.set_cons_succ]))
  refine oneE (i := 4) rfl (by kernel_rfl) (by kernel_rfl) (fun K hK => ?_)
  go_simp
  obtain ⟨W2, eW2⟩ : ∃ E, E = W0.alloc (.cells #[.slice p b.ids.length cap] 38) := ⟨_, rfl⟩
  have hl2 : Below W0.heap.size W0 W2 := by rw [eW2]; exact (Below.refl _ _).alloc (Nat.le_refl _) _
  have c2 : W2.cell? ⟨W0.heap.size, 0, none⟩ = some (.slice p b.ids.length cap) := by rw [eW2]; simp [go_sem]
  have z2 : W0.heap.size < W2.heap.size := by rw [eW2]; simp
  rw [← eW2]
  clear eW2
  have cW2 : Below W.heap.size W W2 := cW.trans (hl2.mono yW)
  refine hK.out _ _ (KS.out _ cW2) (fun hHeld => ?_)
  clear hK K
  (try simp only [Act.put, List.setIfInBounds_toArray, List.set_cons_zero, List.set_cons_succ])
  refine oneE (i := 5) rfl (by kernel_rfl) (by kernel_rfl) (fun K hK => ?_)
  go_simp
  go_at_call 73
  refine Calls.mono (concatInt_any [(.slice p b.ids.length cap, b.ids)] W0.heap.size 1 W.heap.size W2 (fun i hi => by
      obtain rfl : i = 0 := by simp at hi; omega
      exact c2) (fun i hi => by
      obtain rfl : i = 0 := by simp at hi; omega
      exact HSW.out _ cW2) (by omega) (by simp) (by simp [upTo]; omega) z2) ?_
  rintro en W3 ⟨u3, F3, rfl, h3, hF3, hb3⟩
  have h3' : OwnSl 1 intCells W3 u3 b.ids F3 := by simpa [joined] using h3
  obtain ⟨p3, c3, rfl⟩ := h3'.sl.form
  have HO := Lib.hid h3'
  have cW3 : Below W.heap.size W W3 := cW2.trans (hb3.mono cW2.size)
  have yW3 := hb3.size
  clear h3 h3'
  go_wp2_with fail
  refine hK.out _ _ (KS.out _ cW3) (fun hHeld => ?_)
  clear hK K
  (try simp only [Act.put, List.setIfInBounds_toArray, List.set_cons_zero, List.set_cons_succ])
  (refine takeE (i := 8) (v := ?_) [] rfl (by kernel_rfl) (by kernel_rfl) (fun _ _ _ h => h) (Or.inl ⟨by kernel_rfl, ?_⟩) (by assumption) ?_; rotate_left; (focus (intro w hSw; (try dsimp only at hSw); go_simp; first | done | with_reducible rfl | fail "takeE")); (try simp only [Act.put, List.setIfInBounds_toArray, List.set_cons_zero, List.set_cons_succ]))
  refine lastE rfl (by kernel_rfl) (by kernel_rfl) (fun K hK => ?_)
  have d0 := keepc cW3 zW HC.out.2.1.1
  have d1 := keepc cW3 zW HC.out.2.1.2.1
  have d2 := keepc cW3 zW HC.out.2.1.2.2
  have f0 : W3.frozen? ⟨w.heap.size + 1, 0, none⟩ = false := (cW3.frozen (p := ⟨w.heap.size + 1, 0, none⟩) zW).trans HC.out.2.2.1
  have f1 : W3.frozen? ⟨w.heap.size + 1, 1, none⟩ = false := (cW3.frozen (p := ⟨w.heap.size + 1, 1, none⟩) zW).trans HC.out.2.2.2.1
  have f2 : W3.frozen? ⟨w.heap.size + 1, 2, none⟩ = false := (cW3.frozen (p := ⟨w.heap.size + 1, 2, none⟩) zW).trans HC.out.2.2.2.2
  go_simp
  refine hK.out _ _ ?_
  clear hK K
  refine doneE (by kernel_rfl) ?_ _
  go_wp2_with fail
  refine bodyPost_ret (v := .agg #[.string b.v, .slice p3 b.ids.length c3, .bool b.g]) (by simp [results, Try.results74, go_sem, d0, d1, d2]) rfl ?_
  have hs : ∀ E, Chg [w.heap.size + 1] W3 E → Below w.heap.size W3 E → ∃ u F, Ending.returned (.agg #[.string b.v, .slice p3 b.ids.length c3, .bool b.g]) = .returned u ∧ b.Has u F E ∧ (∀ y ∈ F, w.heap.size ≤ y) ∧ Below w.heap.size w E := by
    intro E hE hE2
    exact ⟨_, F3, rfl, ⟨_, rfl, HO.out.chg hE (fun y hy => by have := hF3 y hy; simp; omega)⟩, fun y hy => by have := hF3 y hy; omega, (HW.out.trans (cW3.mono HW.out.size)).trans hE2⟩
  refine hs _ ?_ ?_
  · repeat (first | exact Chg.refl _ _ | refine Chg.setCell ?_ (by simp) _)
  · repeat (first | exact Below.refl _ _ | refine Below.setCell ?_ (by (first | omega | (simp; omega) | (simp; done) | fail "sml")) _)

end Go.Proofs.Ytbpihiholbidlaa
namespace Go.Proofs.Ytbpihiholbidlaa
open Go.RowKit

theorem one_string (s : ByteArray) : (Value.string s).oneCell' = true := rfl
/-- One more bind, behind the others. -/
theorem appBind {w : World} {v : Value} {xs : List Bn} {F : List Nat} (h : kBn.OwB 76 w v xs F) (ty : TypeId) (y : Bn) (p : Option Addr) (c0 : Nat) (G : List Nat) (g c : Nat) (ho : OwnSl 1 intCells w (.slice p y.ids.length c0) y.ids G) (hd : ∀ x ∈ F, x ∉ G)
    (h0 : w.cell? ⟨g, 0, none⟩ = some (.string y.v)) (h1 : w.cell? ⟨g, 1, none⟩ = some (.slice p y.ids.length c0)) (h2 : w.cell? ⟨g, 2, none⟩ = some (.bool y.g)) (h63 : xs.length ≤ 1048576) :
    ∃ v' w', (Builtin.append_ #[47, 47] ty #[v, .slice (some ⟨g, 0, none⟩) 1 c]).run Try.prog w = .ok v' w' ∧ ∃ F', kBn.OwB 76 w' v' (xs ++ [y]) F' ∧ (∀ x ∈ F', x ∈ F ∨ x ∈ G ∨ w.heap.size ≤ x) ∧ Chg F w w' := by
  obtain ⟨i, hi, hzz⟩ := Option.map_eq_some_iff.1 infoBind
  simp only [Prod.mk.injEq] at hzz
  obtain ⟨hz, hs, hb⟩ := hzz
  refine Kd.OwB.append (K := kBn) 47 ty 76 i _ 48 Try.underlying47 hi hz hs hb rfl h y [.string y.v, .slice p y.ids.length c0, .bool y.g] G g c (kBn_ow.2 ⟨_, rfl, ho⟩) ?_ hd ?_ (by omega) (by omega)
  · intro u hu
    simp only [List.mem_cons, List.not_mem_nil, or_false] at hu
    rcases hu with rfl | rfl | rfl <;> rfl
  · intro j u hu
    match j, hu with
    | 0, hu => simp at hu; subst hu; exact h0
    | 1, hu => simp at hu; subst hu; exact h1
    | 2, hu => simp at hu; subst hu; exact h2
    | j + 3, hu => simp at hu
/-- One more match, behind the others. -/
theorem appMatch {w : World} {v : Value} {xs : List Mt} {F : List Nat} (h : kMt.OwB 49 w v xs F) (ty : TypeId) (y : Mt) (p : Option Addr) (pc : Nat) (q : Option Addr) (qc : Nat) (r : Option Addr) (rc : Nat) (G : List Nat) (g c : Nat)
    (ho : y.Has (.agg #[.slice p y.w.ns.length pc, .slice q y.w.es.length qc, .slice r y.bs.length rc]) G w) (hd : ∀ x ∈ F, x ∉ G)
    (h0 : w.cell? ⟨g, 0, none⟩ = some (.slice p y.w.ns.length pc)) (h1 : w.cell? ⟨g, 1, none⟩ = some (.slice q y.w.es.length qc)) (h2 : w.cell? ⟨g, 2, none⟩ = some (.slice r y.bs.length rc)) (h63 : xs.length ≤ 1048576) :
    ∃ v' w', (Builtin.append_ #[24, 24] ty #[v, .slice (some ⟨g, 0, none⟩) 1 c]).run Try.prog w = .ok v' w' ∧ ∃ F', kMt.OwB 49 w' v' (xs ++ [y]) F' ∧ (∀ x ∈ F', x ∈ F ∨ x ∈ G ∨ w.heap.size ≤ x) ∧ Chg F w w' := by
  obtain ⟨i, hi, hzz⟩ := Option.map_eq_some_iff.1 infoMatch
  simp only [Prod.mk.injEq] at hzz
  obtain ⟨hz, hs, hb⟩ := hzz
  refine Kd.OwB.append (K := kMt) 24 ty 49 i _ 72 Try.underlying24 hi hz hs hb rfl h y [.slice p y.w.ns.length pc, .slice q y.w.es.length qc, .slice r y.bs.length rc] G g c ⟨_, _, _, rfl, ho⟩ ?_ hd ?_ (by omega) (by omega)
  · intro u hu
    simp only [List.mem_cons, List.not_mem_nil, or_false] at hu
    rcases hu with rfl | rfl | rfl <;> rfl
  · intro j u hu
    match j, hu with
    | 0, hu => simp at hu; subst hu; exact h0
    | 1, hu => simp at hu; subst hu; exact h1
    | 2, hu => simp at hu; subst hu; exact h2
    | j + 3, hu => simp at hu
theorem OwB_step {α : Type} {K : Kd α} {e : TypeId} {xs : List α} {k : Nat} (hk : k < xs.length) {w : World} {v : Value} {F : List Nat} (h : K.OwB e w v (xs.take k ++ [xs[k]]) F) : K.OwB e w v (xs.take (k + 1)) F := by
  rw [List.take_succ_eq_append_getElem hk]; exact h

set_option maxRecDepth 100000 in
set_option maxHeartbeats 2000000 in
theorem copyBinds_any (xs : List Bn) (v : Value) (B : Nat) (w : World) (hv : kBn.Rd B w v xs) (hB : B ≤ w.heap.size) (hn : xs.length + sumBn xs ≤ 1048576) :
    Calls Try.prog 62 #[v] w fun e w' => ∃ v' F, e = .returned v' ∧ kBn.Ow w' v' xs F ∧ (∀ y ∈ F, w.heap.size ≤ y) ∧ Below w.heap.size w w' := by
  obtain ⟨p, cap, rfl⟩ := hv.form
  obtain ⟨_, hm1, hm2⟩ := hv.max
  unfold maxLen at hm2
  have HV := Lib.hid hv
  clear hv
  go_enter Try.func62, Try.ntmps62
  go_wp2_with fail
  go_loopw [3, 8] (fun cp i wr => ∃ (k : Nat) (F : List Nat), k ≤ xs.length ∧ i = .int .i64 k ∧ RowKit.Hid (kBn.OwB 76 wr cp (xs.take k) F) ∧ RowKit.Hid (∀ y ∈ F, w.heap.size ≤ y) ∧ RowKit.Hid (Below w.heap.size w wr)) (fun _ i _ => xs.length - (intOf i).toNat)
  case atStart => exact ⟨0, [], Nat.zero_le _, rfl, Lib.hid (by simpa using Kd.OwB.nil kBn _ w none), Lib.hid (by simp), Lib.hid (Below.refl _ _)⟩
  case round =>
    obtain ⟨k, F, hk, rfl, HO, HF, HB⟩ := hrel
    have hsz := HB.out.size
    by_cases hlt : k < xs.length
    · obtain ⟨b, off, q, c, rfl, hb, c0, c1, c2, hin⟩ := kBn_get (HV.out.to (HB.out.mono hB) (Nat.le_refl _)) hlt
      have hsize := sumBn_get xs k hlt
      have hst := fun (w' : World) (v' : Value) (F' : List Nat) (h : kBn.OwB 76 w' v' (xs.take k ++ [xs[k]]) F') => OwB_step hlt h
      obtain ⟨x, ex⟩ : ∃ x, x = xs[k] := ⟨_, rfl⟩
      rw [← ex] at c0 c1 c2 hin hsize hst
      have HIN := Lib.hid hin
      have HST := Lib.hid hst
      have hidl : x.ids.length ≤ 1048576 := by unfold Bn.need at hsize; omega
      have HTK := Lib.hid (show (xs.take k).length ≤ 1048576 by rw [List.length_take]; omega)
      clear ex hin hst hsize
      go_wp2_with fail
      refine (copyBind_any x _ B _ ⟨_, rfl, HIN.out.below ((Below.refl B wr).alloc (by omega) _)⟩ (by simp; omega) hidl).mono ?_
      rintro en w1 ⟨u, G, rfl, ho, hG, hb1⟩
      obtain ⟨s, rfl, ho⟩ := ho
      obtain ⟨p1, d1, rfl⟩ := ho.sl.form
      have hb2 : Below wr.heap.size wr w1 := below_past hb1
      obtain ⟨W2, eW2⟩ : ∃ W2, W2 = w1.alloc (.cells #[.string x.v, .slice p1 x.ids.length d1, .bool x.g] 76) := ⟨_, rfl⟩
      have kW2 : Below w1.heap.size w1 W2 := by rw [eW2]; exact (Below.refl _ _).alloc (Nat.le_refl _) _
      have hz1 := hb2.size
      have HA := Lib.hid (appBind (HO.out.below (show Below wr.heap.size wr W2 from hb2.trans (kW2.mono hz1))) 47 x p1 d1 G w1.heap.size 1 (ho.below kW2) (fun y hy hy2 => by have := HO.out.lt y hy; have := hG y hy2; simp at this; omega) (by rw [eW2]; simp [go_sem]) (by rw [eW2]; simp [go_sem]) (by rw [eW2]; simp [go_sem]) HTK.out)
      have HG := Lib.hid (show ∀ y ∈ G, w.heap.size ≤ y from fun y hy => by have := hG y hy; simp at this; omega)
      have HB2 := Lib.hid (HB.out.trans ((hb2.trans (kW2.mono hz1)).mono hsz))
      have hzW : w.heap.size ≤ W2.heap.size := HB2.out.size
      have EW := Lib.hid eW2
      clear hb1 hb2 ho hG c0 c1 c2 eW2 kW2
      go_wp2_with (at_builtin; rw [← EW.out]; refine wpApp rfl (.tmp 12) (.tmp 15) 47 rfl _ _ rfl rfl _ HA.out ?_; rintro v2 w2 hr; have HR := Lib.hid hr; clear hr)
      obtain ⟨F', hF1, hF2, hF3⟩ := HR.out
      have hge : ∀ y ∈ F', w.heap.size ≤ y := fun y hy => by
        rcases hF2 y hy with h | h | h
        · exact HF.out y h
        · exact HG.out y h
        · omega
      have hbe : Below w.heap.size w w2 := HB2.out.trans (hF3.below hzW HF.out)
      go_roundw
      case rel => exact ⟨k + 1, F', by omega, by go_num, Lib.hid (HST.out _ _ _ hF1), Lib.hid hge, Lib.hid hbe⟩
      case measure => simp [intOf]; omega
    · obtain rfl : k = xs.length := by omega
      have HO2 := Lib.hid (show kBn.Ow wr u3 xs F by have h := HO.out; rw [List.take_length] at h; exact h.ow)
      go_wp2_with fail
      go_ret
      exact ⟨_, F, rfl, HO2.out, HF.out, HB.out⟩
end Go.Proofs.Ytbpihiholbidlaa
namespace Go.Proofs.Ytbpihiholbidlaa
open Go.RowKit

theorem below_app {w wr E E' : World} {F : List Nat} (hb : Below w.heap.size w wr) (hE : Below wr.heap.size wr E) (h3 : Chg F E E') (hF : ∀ y ∈ F, w.heap.size ≤ y) : Below w.heap.size w E' :=
  hb.trans ((hE.mono hb.size).trans (h3.below (Nat.le_trans hb.size hE.size) hF))
theorem below_app2 {w wr E E' : World} {F : List Nat} (hs : w.heap.size ≤ wr.heap.size) (hE : Below wr.heap.size wr E) (h3 : Chg F E E') (hF : ∀ y ∈ F, w.heap.size ≤ y) : Below w.heap.size wr E' :=
  (hE.mono hs).trans (h3.below (Nat.le_trans hs hE.size) hF)
theorem ge_app {w wr E : World} {F F' G : List Nat} (hs : w.heap.size ≤ wr.heap.size) (hE : Below wr.heap.size wr E) (h2 : ∀ x ∈ F', x ∈ F ∨ x ∈ G ∨ E.heap.size ≤ x) (hF : ∀ y ∈ F, w.heap.size ≤ y) (hG : ∀ y ∈ G, wr.heap.size ≤ y) : ∀ y ∈ F', w.heap.size ≤ y := fun y hy => by
  rcases h2 y hy with h | h | h
  · exact hF y h
  · exact Nat.le_trans hs (hG y h)
  · exact Nat.le_trans (Nat.le_trans hs hE.size) h

set_option maxRecDepth 100000 in
set_option maxHeartbeats 4000000 in
theorem l6Copy_any (xs : List Bn) (v : Value) (B : Nat) (w : World) (hv : kBn.Rd B w v xs) (hB : B ≤ w.heap.size) (hn : xs.length + sumBn xs ≤ 1048576) :
    Calls Try.prog 52 #[v] w fun e w' => ∃ v' F, e = .returned v' ∧ kBn.Ow w' v' xs F ∧ (∀ y ∈ F, w.heap.size ≤ y) ∧ Below w.heap.size w w' := by
  obtain ⟨p, cap, rfl⟩ := hv.form
  obtain ⟨_, hm1, hm2⟩ := hv.max
  unfold maxLen at hm2
  have HV := Lib.hid hv
  clear hv
  go_enter Try.func52, Try.ntmps52
  go_wp2_with fail
  go_loopw [3, 4] (fun cp i wr => ∃ (k : Nat) (F : List Nat), k ≤ xs.length ∧ i = .int .i64 k ∧ RowKit.Hid (kBn.OwB 76 wr cp (xs.take k) F) ∧ RowKit.Hid (∀ y ∈ F, w.heap.size ≤ y) ∧ RowKit.Hid (Below w.heap.size w wr)) (fun _ i _ => xs.length - (intOf i).toNat)
  case atStart => exact ⟨0, [], Nat.zero_le _, rfl, Lib.hid (by simpa using Kd.OwB.nil kBn _ _ _), Lib.hid (by simp), Lib.hid ((Below.refl _ _).alloc (Nat.le_refl _) _)⟩
  case round =>
    obtain ⟨k, F, hk, rfl, HO, HF, HB⟩ := hrel
    have hsz := HB.out.size
    by_cases hlt : k < xs.length
    · obtain ⟨b, off, q, c, rfl, hb, c0, c1, c2, hin⟩ := kBn_get (HV.out.to (HB.out.mono hB) (Nat.le_refl _)) hlt
      have hsize := sumBn_get xs k hlt
      have hst := fun (w' : World) (v' : Value) (F' : List Nat) (h : kBn.OwB 76 w' v' (xs.take k ++ [xs[k]]) F') => OwB_step hlt h
      obtain ⟨x, ex⟩ : ∃ x, x = xs[k] := ⟨_, rfl⟩
      rw [← ex] at c0 c1 c2 hin hsize hst
      have HIN := Lib.hid hin
      have HST := Lib.hid hst
      have hidl : x.ids.length ≤ 1048576 := by unfold Bn.need at hsize; omega
      have HTK := Lib.hid (show (xs.take k).length ≤ 1048576 by rw [List.length_take]; omega)
      clear ex hin hst hsize
      have hkl : (k : Int) < (xs.length : Int) := by omega
      have hbr : b < wr.heap.size := by omega
      have hbw : b < w.heap.size := by omega
      have HK := Lib.hid (fun (E : World) (hE : Below w.heap.size wr E) => (⟨keepc hE hbw c0, keepc hE hbw c1, keepc hE hbw c2⟩ : E.cell? ⟨b, off + k * 3, none⟩ = some (.string x.v) ∧ E.cell? ⟨b, off + k * 3 + 1, none⟩ = some (.slice q x.ids.length c) ∧ E.cell? ⟨b, off + k * 3 + 2, none⟩ = some (.bool x.g)))
      have CA := Lib.hid (fun (E : World) (hE : Below wr.heap.size wr E) (G : Option Addr) (ty : TypeId) => onto_none (OwnI.empty E G) (HIN.out.below (hE.mono (by omega))) (by omega) ty)
      have CB := Lib.hid (fun (E : World) (hE : Below wr.heap.size wr E) (ty : TypeId) => appBind (HO.out.below hE) ty x)
      have r0 := Below.refl wr.heap.size wr
      go_upto_region 5 with fail
      go_region_held3 (fun w' => w'.cell? ⟨b, off + k * 3, none⟩ = some (.string x.v) ∧ w'.cell? ⟨b, off + k * 3 + 1, none⟩ = some (.slice q x.ids.length c) ∧ w'.cell? ⟨b, off + k * 3 + 2, none⟩ = some (.bool x.g))
        (first | exact HK.out _ hk9 | exact HK.out _ ((show Below wr.heap.size wr _ by ((repeat (first | with_reducible assumption | with_reducible exact Below.refl _ _ | refine Below.setCell ?_ (by (first | omega | (simp; omega) | (simp; done) | fail "sml")) _ | refine Below.drew ?_ | refine Below.alloc ?_ (by (first | omega | (simp; omega) | (simp; done) | fail "sml")) _)); first | done | fail "chs")).mono hsz))
        (first
          | (refine step_app_src (by rfl) (.tmp 18) (.tmp 23) 38 (by rfl) _ _ (by rfl) (by rfl) _ (CA.out _ ?_ _ _) ?_; (· ((repeat (first | with_reducible assumption | with_reducible exact Below.refl _ _ | refine Below.setCell ?_ (by (first | omega | (simp; omega) | (simp; done) | fail "sml")) _ | refine Below.drew ?_ | refine Below.alloc ?_ (by (first | omega | (simp; omega) | (simp; done) | fail "sml")) _)); first | done | fail "chs")); intro vA wA hv; obtain ⟨FA, h1, h2, h3⟩ := hv; obtain ⟨pA, qA, rfl⟩ := h1.form; have hkA := Below.trans (show Below wr.heap.size wr _ by ((repeat (first | with_reducible assumption | with_reducible exact Below.refl _ _ | refine Below.setCell ?_ (by (first | omega | (simp; omega) | (simp; done) | fail "sml")) _ | refine Below.drew ?_ | refine Below.alloc ?_ (by (first | omega | (simp; omega) | (simp; done) | fail "sml")) _)); first | done | fail "chs")) (h3.mono (by (first | omega | (simp; omega) | (simp; done) | fail "sml"))); have zA := hkA.size; have rA := Below.refl wA.heap.size wA; have OA := Lib.hid h1.own; have GA := Lib.hid (show ∀ y ∈ FA, wr.heap.size ≤ y from fun y hy => by have h9 := h2 y hy; (try simp at h9); omega); clear h1 h2 h3)
          | (refine step_app_src (by rfl) (.tmp 12) (.tmp 31) 47 (by rfl) _ _ (by rfl) (by rfl) _ (CB.out _ (show Below wr.heap.size wr _ by ((repeat (first | with_reducible assumption | with_reducible exact Below.refl _ _ | refine Below.setCell ?_ (by (first | omega | (simp; omega) | (simp; done) | fail "sml")) _ | refine Below.drew ?_ | refine Below.alloc ?_ (by (first | omega | (simp; omega) | (simp; done) | fail "sml")) _)); first | done | fail "chs")) _ _ _ FA _ _ (OA.out.below (show Below wA.heap.size wA _ by ((repeat (first | with_reducible assumption | with_reducible exact Below.refl _ _ | refine Below.setCell ?_ (by (first | omega | (simp; omega) | (simp; done) | fail "sml")) _ | refine Below.drew ?_ | refine Below.alloc ?_ (by (first | omega | (simp; omega) | (simp; done) | fail "sml")) _)); first | done | fail "chs"))) (fun y hy hy2 => by have := HO.out.lt y hy; have := GA.out y hy2; omega) (by simp [go_sem]) (by simp [go_sem]) (by simp [go_sem]) HTK.out) ?_; intro vB wB hv; obtain ⟨F', h1, h2, h3⟩ := hv; have hB9 := Lib.hid (below_app HB.out (show Below wr.heap.size wr _ by ((repeat (first | with_reducible assumption | with_reducible exact Below.refl _ _ | refine Below.setCell ?_ (by (first | omega | (simp; omega) | (simp; done) | fail "sml")) _ | refine Below.drew ?_ | refine Below.alloc ?_ (by (first | omega | (simp; omega) | (simp; done) | fail "sml")) _)); first | done | fail "chs")) h3 HF.out); have hk9 := below_app2 hsz (show Below wr.heap.size wr _ by ((repeat (first | with_reducible assumption | with_reducible exact Below.refl _ _ | refine Below.setCell ?_ (by (first | omega | (simp; omega) | (simp; done) | fail "sml")) _ | refine Below.drew ?_ | refine Below.alloc ?_ (by (first | omega | (simp; omega) | (simp; done) | fail "sml")) _)); first | done | fail "chs")) h3 HF.out; have hF9 := Lib.hid (ge_app hsz (show Below wr.heap.size wr _ by ((repeat (first | with_reducible assumption | with_reducible exact Below.refl _ _ | refine Below.setCell ?_ (by (first | omega | (simp; omega) | (simp; done) | fail "sml")) _ | refine Below.drew ?_ | refine Below.alloc ?_ (by (first | omega | (simp; omega) | (simp; done) | fail "sml")) _)); first | done | fail "chs")) h2 HF.out GA.out); have hO9 := Lib.hid (HST.out _ _ _ h1); clear h1 h2 h3)
          | fail "no arm")
      go_wp2_with fail
      go_roundw
      case rel => exact ⟨k + 1, F', by omega, by go_num, hO9, hF9, hB9⟩
      case measure => simp [intOf]; omega
    · obtain rfl : k = xs.length := by omega
      have HO2 := Lib.hid (show kBn.Ow wr u3 xs F by have h := HO.out; rw [List.take_length] at h; exact h.ow)
      go_wp2_with fail
      go_ret
      exact ⟨_, F, rfl, HO2.out, HF.out, HB.out⟩
end Go.Proofs.Ytbpihiholbidlaa
namespace Go.Proofs.Ytbpihiholbidlaa
open Go.RowKit

set_option maxRecDepth 100000 in
set_option maxHeartbeats 4000000 in
theorem l9Copy_any (m : Mt) (v : Value) (B : Nat) (w : World) (hm : m.At B w v) (hB : B ≤ w.heap.size) (hn : m.need ≤ 1048576) :
    Calls Try.prog 29 #[v] w fun e w' => ∃ v' F, e = .returned v' ∧ m.Has v' F w' ∧ (∀ y ∈ F, w.heap.size ≤ y) ∧ Below w.heap.size w w' := by
  obtain ⟨a, b, c, rfl, ha, hb, hc⟩ := hm
  have H1 := Lib.hid (show m.w.At B w (.agg #[a, b]) from ⟨a, b, rfl, ha, hb⟩)
  have H2 := Lib.hid hc
  have hn1 : m.w.need ≤ 1048576 := by unfold Mt.need at hn; omega
  have hn2 : m.bs.length + sumBn m.bs ≤ 1048576 := by unfold Mt.need at hn; omega
  clear ha hb hc hn
  obtain ⟨W, eW⟩ : ∃ W, W = (w.alloc (.cells #[a, b, c] 49)).alloc (.cells #[.slice none 0 0, .slice none 0 0, .slice none 0 0] 49) := ⟨_, rfl⟩
  have HV := Lib.hid (show Below w.heap.size w W by rw [eW]; exact ((Below.refl _ _).alloc (Nat.le_refl _) _).alloc (by simp) _)
  have hs0 : w.heap.size + 2 ≤ W.heap.size := by rw [eW]; simp
  have HK := Lib.hid (show ∀ wk, Below (w.heap.size + 1) W wk → wk.cell? ⟨w.heap.size, 0, none⟩ = some a ∧ wk.cell? ⟨w.heap.size, 1, none⟩ = some b ∧ wk.cell? ⟨w.heap.size, 2, none⟩ = some c from
    fun wk hk => by rw [eW] at hk; exact ⟨keepc hk (by omega) (by simp [go_sem]), keepc hk (by omega) (by simp [go_sem]), keepc hk (by omega) (by simp [go_sem])⟩)
  have HKR := Lib.hid (show ∀ wk, Below (w.heap.size + 2) W wk → (wk.cell? ⟨w.heap.size + 1, 0, none⟩ = some (.slice none 0 0) ∧ wk.cell? ⟨w.heap.size + 1, 1, none⟩ = some (.slice none 0 0) ∧ wk.cell? ⟨w.heap.size + 1, 2, none⟩ = some (.slice none 0 0)) ∧ wk.frozen? ⟨w.heap.size + 1, 0, none⟩ = false ∧ wk.frozen? ⟨w.heap.size + 1, 1, none⟩ = false ∧ wk.frozen? ⟨w.heap.size + 1, 2, none⟩ = false from
    fun wk hk => by
      rw [eW] at hk
      exact ⟨⟨keepc hk (by omega) (by simp [go_sem]), keepc hk (by omega) (by simp [go_sem]), keepc hk (by omega) (by simp [go_sem])⟩, (hk.frozen (p := ⟨w.heap.size + 1, 0, none⟩) (by show w.heap.size + 1 < w.heap.size + 2; omega)).trans (World.frozen?_alloc_at _ _ _ _ (by simp)), (hk.frozen (p := ⟨w.heap.size + 1, 1, none⟩) (by show w.heap.size + 1 < w.heap.size + 2; omega)).trans (World.frozen?_alloc_at _ _ _ _ (by simp)), (hk.frozen (p := ⟨w.heap.size + 1, 2, none⟩) (by show w.heap.size + 1 < w.heap.size + 2; omega)).trans (World.frozen?_alloc_at _ _ _ _ (by simp))⟩)
  have rr0 := Below.refl (w.heap.size + 2) W
  have rr2 := Below.refl (w.heap.size + 1) W
  have EW := Lib.hid eW
  clear eW
  have CW := Lib.hid (fun (E : World) (hE : Below (w.heap.size + 2) W E) => ((l5Copy_any m.w _ B E (H1.out.to ((HV.out.mono hB).trans (hE.mono (by omega))) (Nat.le_refl _)) (by have := hE.size; omega) hn1).mono (fun en w' ⟨u, hu, ⟨a1, b1, F1, F2, hu2, o1, o2, g1, g2, hdj⟩, hb⟩ => by
    obtain ⟨pA, cA, rfl⟩ := o1.form
    obtain ⟨qA, dA, rfl⟩ := o2.form
    subst hu2 hu
    exact ⟨pA, cA, qA, dA, F1 ++ F2, rfl, ⟨_, _, F1, F2, rfl, rfl, o1.own, o2.own, hdj⟩, fun y hy => by have z := hE.size; rcases List.mem_append.1 hy with h | h; exact Nat.le_trans z (g1 y h); exact Nat.le_trans z (g2 y h), hb⟩) : Calls Try.prog 51 #[.agg #[a, b]] E (fun en w' => ∃ (pA : Option Addr) (cA : Nat) (qA : Option Addr) (dA : Nat) (F : List Nat), en = .returned (.agg #[.slice pA m.w.ns.length cA, .slice qA m.w.es.length dA]) ∧ m.w.Has (.agg #[.slice pA m.w.ns.length cA, .slice qA m.w.es.length dA]) F w' ∧ (∀ y ∈ F, W.heap.size ≤ y) ∧ Below E.heap.size E w')))
  have CB := Lib.hid (fun (E : World) (hE : Below (w.heap.size + 2) W E) => l6Copy_any m.bs c B E (H2.out.to ((HV.out.mono hB).trans (hE.mono (by omega))) (Nat.le_refl _)) (by have := hE.size; omega) hn2)
  go_enter Try.func29, Try.ntmps29
  go_wp2_with fail
  rw [← EW.out]
  go_region_held3 (fun w' => w'.cell? ⟨w.heap.size, 0, none⟩ = some a ∧ w'.cell? ⟨w.heap.size, 1, none⟩ = some b ∧ w'.cell? ⟨w.heap.size, 2, none⟩ = some c)
    (exact HK.out _ (show Below (w.heap.size + 1) W _ by ((repeat (first | with_reducible assumption | with_reducible exact Below.refl _ _ | refine Below.setCell ?_ (by (first | omega | (simp; omega) | (simp; done) | fail "sml")) _ | refine Below.drew ?_ | refine Below.alloc ?_ (by (first | omega | (simp; omega) | (simp; done) | fail "sml")) _)); first | done | fail "chs")))
    (first
      | (go_at_call 51; with_reducible refine (CW.out _ (show Below (w.heap.size + 2) W _ by ((repeat (first | with_reducible assumption | with_reducible exact Below.refl _ _ | refine Below.setCell ?_ (by (first | omega | (simp; omega) | (simp; done) | fail "sml")) _ | refine Below.drew ?_ | refine Below.alloc ?_ (by (first | omega | (simp; omega) | (simp; done) | fail "sml")) _)); first | done | fail "chs"))).mono ?_; rintro en wA ⟨pA, cA, qA, dA, FA, rfl, ho, hF, hb⟩; have kA := Below.trans (show Below (w.heap.size + 2) W _ by ((repeat (first | with_reducible assumption | with_reducible exact Below.refl _ _ | refine Below.setCell ?_ (by (first | omega | (simp; omega) | (simp; done) | fail "sml")) _ | refine Below.drew ?_ | refine Below.alloc ?_ (by (first | omega | (simp; omega) | (simp; done) | fail "sml")) _)); first | done | fail "chs")) (hb.mono (by (first | omega | (simp; omega) | (simp; done) | fail "sml"))); have zA := kA.size; have kA1 := kA.mono (Nat.le_succ (w.heap.size + 1)); have rA := Below.refl wA.heap.size wA; have HWA := Lib.hid ho; have GA := Lib.hid hF; clear ho hF hb)
      | (go_at_call 52; with_reducible refine (CB.out _ (show Below (w.heap.size + 2) W _ by ((repeat (first | with_reducible assumption | with_reducible exact Below.refl _ _ | refine Below.setCell ?_ (by (first | omega | (simp; omega) | (simp; done) | fail "sml")) _ | refine Below.drew ?_ | refine Below.alloc ?_ (by (first | omega | (simp; omega) | (simp; done) | fail "sml")) _)); first | done | fail "chs"))).mono ?_; rintro en wB ⟨u, FB, rfl, ho, hF, hb⟩; obtain ⟨pB, cB, rfl⟩ := ho.form; have kB := Below.trans (show Below (w.heap.size + 2) W _ by ((repeat (first | with_reducible assumption | with_reducible exact Below.refl _ _ | refine Below.setCell ?_ (by (first | omega | (simp; omega) | (simp; done) | fail "sml")) _ | refine Below.drew ?_ | refine Below.alloc ?_ (by (first | omega | (simp; omega) | (simp; done) | fail "sml")) _)); first | done | fail "chs")) (hb.mono (by (first | omega | (simp; omega) | (simp; done) | fail "sml"))); have zB := kB.size; have kB1 := kB.mono (Nat.le_succ (w.heap.size + 1)); have rB := Below.refl wB.heap.size wB; obtain ⟨⟨yB0, yB1, yB2⟩, yB3, yB4, yB5⟩ := HKR.out _ kB; have sB := Below.trans (show Below wA.heap.size wA _ by ((repeat (first | with_reducible assumption | with_reducible exact Below.refl _ _ | refine Below.setCell ?_ (by (first | omega | (simp; omega) | (simp; done) | fail "sml")) _ | refine Below.drew ?_ | refine Below.alloc ?_ (by (first | omega | (simp; omega) | (simp; done) | fail "sml")) _)); first | done | fail "chs")) (hb.mono (by (first | omega | (simp; omega) | (simp; done) | fail "sml"))); have HO := Lib.hid ho; have GB := Lib.hid (fun y hy => Nat.le_trans (show Below wA.heap.size wA _ by ((repeat (first | with_reducible assumption | with_reducible exact Below.refl _ _ | refine Below.setCell ?_ (by (first | omega | (simp; omega) | (simp; done) | fail "sml")) _ | refine Below.drew ?_ | refine Below.alloc ?_ (by (first | omega | (simp; omega) | (simp; done) | fail "sml")) _)); first | done | fail "chs")).size (hF y hy)); clear ho hF hb)
      | fail "no arm")
  all_goals go_wp2_with fail
  refine bodyPost_ret (v := .agg #[.slice pA m.w.ns.length cA, .slice qA m.w.es.length dA, .slice pB m.bs.length cB]) (by simp [results, Try.results29, go_sem, yB0, yB1, yB2]) rfl ?_
  have hs : ∀ E, Chg [w.heap.size + 1] wB E → Below w.heap.size wB E → ∃ v' F, Ending.returned (.agg #[.slice pA m.w.ns.length cA, .slice qA m.w.es.length dA, .slice pB m.bs.length cB]) = .returned v' ∧ m.Has v' F E ∧ (∀ y ∈ F, w.heap.size ≤ y) ∧ Below w.heap.size w E := fun E hE hE2 => by
    refine ⟨_, FA ++ FB, rfl, ⟨_, _, _, FA, FB, rfl, rfl, (HWA.out.chg (Chg.of_below sB []) (by simp)).chg hE (fun y hy => by have := GA.out y hy; simp; omega), HO.out.chg hE (fun y hy => by have := GB.out y hy; simp; omega), fun y hy hy2 => by have := HWA.out.lt y hy; have := GB.out y hy2; omega⟩, fun y hy => ?_, (HV.out.trans (kB.mono (by omega))).trans hE2⟩
    rcases List.mem_append.1 hy with h | h
    · have := GA.out y h; omega
    · have := GB.out y h; omega
  refine hs _ ?_ ?_
  · repeat (first | with_reducible exact Chg.refl _ _ | refine Chg.setCell ?_ (by simp) _)
  · repeat (first | with_reducible exact Below.refl _ _ | refine Below.setCell ?_ (by (first | omega | (simp; omega) | (simp; done) | fail "sml")) _)
end Go.Proofs.Ytbpihiholbidlaa
namespace Go.Proofs.Ytbpihiholbidlaa
open Go.RowKit

def shP (m : Mt) : Bool := wkShape m.w
def ShOk (xs : List Mt) (k : Nat) : Prop := ∀ (i : Nat) (h : i < xs.length), i < k → shP xs[i] = true
theorem ShOk.zero (xs : List Mt) : ShOk xs 0 := fun _ _ h => by omega
theorem ShOk.succ {xs : List Mt} {k : Nat} (h : ShOk xs k) (hk : k < xs.length) (hp : shP xs[k] = true) : ShOk xs (k + 1) := fun i hi hik => by
  by_cases hik' : i = k
  · subst hik'; exact hp
  · exact h i hi (by omega)
theorem ShOk.full {xs : List Mt} (h : ShOk xs xs.length) : xs.all shP = true := by
  rw [List.all_eq_true]; intro x hx
  obtain ⟨i, hi, rfl⟩ := List.getElem_of_mem hx
  exact h i hi hi
theorem sh_bad {xs : List Mt} {k : Nat} (hk : k < xs.length) (hp : shP xs[k] = false) : xs.all shP = false := by
  rw [List.all_eq_false]; exact ⟨_, List.getElem_mem hk, by rw [hp]; simp⟩

set_option maxRecDepth 100000 in
set_option maxHeartbeats 1000000 in
theorem haveShapeFn_any (m : Mt) (v : Value) (B : Nat) (w : World) (hm : m.At B w v) (hB : B ≤ w.heap.size) (hn : m.need ≤ 1048576) :
    Calls Try.prog 59 #[v] w fun en w' => en = .returned (.bool (!shP m)) ∧ Below w.heap.size w w' := by
  obtain ⟨a, b, c, rfl, ha, hb, hc⟩ := hm
  have H1 := Lib.hid (show m.w.At B w (.agg #[a, b]) from ⟨a, b, rfl, ha, hb⟩)
  have hn1 : m.w.need ≤ 1048576 := by unfold Mt.need at hn; omega
  clear ha hb hc hn
  go_enter Try.func59, Try.ntmps59
  go_wp2_with fail
  refine (hasShape_any m.w _ B _ (H1.out.to ((Below.refl B w).alloc hB _) (Nat.le_refl _)) hn1).mono ?_
  rintro en w1 ⟨rfl, hb1⟩
  have HB1 := Lib.hid (below_past (hb1.mono (by simp)))
  clear hb1
  cases hE : wkShape m.w with
  | true =>
    go_wp2_with fail
    go_ret
    exact ⟨ret_bool (by unfold shP; rw [hE]; rfl), HB1.out⟩
  | false =>
    go_wp2_with fail
    go_ret
    exact ⟨ret_bool (by unfold shP; rw [hE]; rfl), HB1.out⟩

set_option maxRecDepth 100000 in
set_option maxHeartbeats 1000000 in
theorem indexShape_any (xs : List Mt) (v : Value) (B : Nat) (w : World) (hv : kMt.Rd B w v xs) (hB : B ≤ w.heap.size) (hn : sumMt xs ≤ 1048576) :
    Calls Try.prog 72 #[v, .func (.func 59) #[] #[]] w fun e w' => ∃ r : Int, e = .returned (.int .i64 r) ∧ ((r = -1 ∧ xs.all shP = true) ∨ (0 ≤ r ∧ xs.all shP = false)) ∧ Below w.heap.size w w' := by
  obtain ⟨p, cap, rfl⟩ := hv.form
  obtain ⟨_, _, hm⟩ := hv.max
  unfold maxLen at hm
  have HV := Lib.hid hv
  clear hv
  go_enter Try.func72, Try.ntmps72
  go_wp2_with fail
  go_loopw [8] (fun i wr => ∃ k : Nat, k ≤ xs.length ∧ i = .int .i64 k ∧ RowKit.Hid (ShOk xs k) ∧ Below w.heap.size w wr) (fun i _ => xs.length - (intOf i).toNat)
  case atStart => exact ⟨0, Nat.zero_le _, rfl, Lib.hid (ShOk.zero _), Below.refl _ _⟩
  case round =>
    obtain ⟨k, hk, rfl, HAC, hbw⟩ := hrel
    have hsz := hbw.size
    have HB := Lib.hid hbw
    clear hbw
    by_cases hlt : k < xs.length
    · obtain ⟨b, off, q, c, q', c', r, e, rfl, hb, c0, c1, c2, hin⟩ := kMt_get (HV.out.to (HB.out.mono hB) (Nat.le_refl _)) hlt
      have hgood := Lib.hid (fun h => HAC.out.succ hlt h)
      have hbad := Lib.hid (fun h => sh_bad (xs := xs) hlt h)
      have hsize := sumMt_get xs k hlt
      obtain ⟨x, ex⟩ : ∃ x, x = xs[k] := ⟨_, rfl⟩
      rw [← ex] at c0 c1 c2 hin hgood hbad hsize
      have HIN := Lib.hid hin
      have HSZ := Lib.hid (Nat.le_trans hsize hn)
      clear ex hin HAC hsize
      go_wp2_with fail
      refine (haveShapeFn_any x _ B _ HIN.out (by omega) HSZ.out).mono ?_
      rintro en w1 ⟨rfl, hb1⟩
      have HB1 := Lib.hid (HB.out.trans (hb1.mono hsz))
      clear hb1
      cases hp : shP x with
      | false =>
        have HG := Lib.hid (hbad.out hp)
        clear hgood hbad hp
        go_wp2_with fail
        go_ret
        exact ⟨k, rfl, .inr ⟨by omega, HG.out⟩, HB1.out⟩
      | true =>
        have HG := Lib.hid (hgood.out hp)
        clear hgood hbad hp
        go_wp2_with fail
        go_roundw
        case rel => exact ⟨k + 1, by omega, by go_num, HG, HB1.out⟩
        case measure => simp [intOf]; omega
    · obtain rfl : k = xs.length := by omega
      have HG := Lib.hid HAC.out.full
      go_wp2_with fail
      go_ret
      exact ⟨-1, rfl, .inl ⟨rfl, HG.out⟩, HB.out⟩

set_option maxHeartbeats 400000 in
theorem containsShape_any (xs : List Mt) (v : Value) (B : Nat) (w : World) (hv : kMt.Rd B w v xs) (hB : B ≤ w.heap.size) (hn : sumMt xs ≤ 1048576) :
    Calls Try.prog 58 #[v, .func (.func 59) #[] #[]] w fun e w' => e = .returned (.bool (!xs.all shP)) ∧ Below w.heap.size w w' := by
  go_enter Try.func58, Try.ntmps58
  go_wp2_with fail
  with_reducible refine (indexShape_any xs v B w hv hB hn).mono ?_
  rintro e w1 ⟨r, rfl, hr, hb1⟩
  have HB := Lib.hid hb1
  clear hb1
  rcases hr with ⟨hr, hz⟩ | ⟨hr, hz⟩
  · have HZ := Lib.hid hz
    clear hz
    subst hr
    go_wp2_with fail
    go_ret
    exact ⟨ret_bool (by rw [HZ.out]; rfl), HB.out⟩
  · have HZ := Lib.hid hz
    have q0 : decide (0 ≤ r) = true := decide_eq_true hr
    clear hz
    go_wp2_with fail
    go_ret
    exact ⟨ret_bool (by rw [HZ.out]; rfl), HB.out⟩

set_option maxHeartbeats 400000 in
theorem haveShape_any (xs : List Mt) (v : Value) (B : Nat) (w : World) (hv : kMt.Rd B w v xs) (hB : B ≤ w.heap.size) (hn : sumMt xs ≤ 1048576) :
    Calls Try.prog 37 #[v] w fun e w' => e = .returned (.bool (xs.all shP)) ∧ Below w.heap.size w w' := by
  go_enter Try.func37, Try.ntmps37
  go_wp2_with fail
  with_reducible refine (containsShape_any xs v B w hv hB hn).mono ?_
  rintro e w1 ⟨rfl, hb1⟩
  have HB := Lib.hid hb1
  clear hb1
  cases hE : xs.all shP with
  | true =>
    go_wp2_with fail
    go_ret
    exact ⟨ret_bool hE.symm, HB.out⟩
  | false =>
    go_wp2_with fail
    go_ret
    exact ⟨ret_bool hE.symm, HB.out⟩

set_option maxRecDepth 100000 in
set_option maxHeartbeats 1000000 in
theorem l9Shape_any (xs : List Mt) (v : Value) (B : Nat) (w : World) (hv : kMt.Rd B w v xs) (hB : B ≤ w.heap.size) (hn : sumMt xs ≤ 1048576) :
    Calls Try.prog 27 #[v] w fun e w' => e = .returned (.bool (xs.all shP)) ∧ Below w.heap.size w w' := by
  obtain ⟨p, cap, rfl⟩ := hv.form
  obtain ⟨_, _, hm⟩ := hv.max
  unfold maxLen at hm
  have HV := Lib.hid hv
  clear hv
  go_enter Try.func27, Try.ntmps27
  go_wp2_with fail
  go_loopw [3] (fun i wr => ∃ k : Nat, k ≤ xs.length ∧ i = .int .i64 k ∧ RowKit.Hid (ShOk xs k) ∧ Below w.heap.size w wr) (fun i _ => xs.length - (intOf i).toNat)
  case atStart => exact ⟨0, Nat.zero_le _, rfl, Lib.hid (ShOk.zero _), Below.refl _ _⟩
  case round =>
    obtain ⟨k, hk, rfl, HAC, hbw⟩ := hrel
    have hsz := hbw.size
    have HB := Lib.hid hbw
    clear hbw
    by_cases hlt : k < xs.length
    · obtain ⟨b, off, q, c, q', c', r, e, rfl, hb, c0, c1, c2, hin⟩ := kMt_get (HV.out.to (HB.out.mono hB) (Nat.le_refl _)) hlt
      have hgood := Lib.hid (fun h => HAC.out.succ hlt h)
      have hbad := Lib.hid (fun h => sh_bad (xs := xs) hlt h)
      have hsize := sumMt_get xs k hlt
      obtain ⟨x, ex⟩ : ∃ x, x = xs[k] := ⟨_, rfl⟩
      rw [← ex] at c0 c1 c2 hin hgood hbad hsize
      have HIN := Lib.hid (show x.w.At B wr (.agg #[.slice q x.w.ns.length c, .slice q' x.w.es.length c']) from by obtain ⟨a1, a2, a3, e1, h1, h2, h3⟩ := hin; cases e1; exact ⟨_, _, rfl, h1, h2⟩)
      have HSZ := Lib.hid (show x.w.need ≤ 1048576 by unfold Mt.need at hsize; omega)
      clear ex hin HAC hsize
      go_wp2_with fail
      refine (l5Shape_any x.w _ B _ HIN.out HSZ.out).mono ?_
      rintro en w1 ⟨rfl, hb1⟩
      have HB1 := Lib.hid (HB.out.trans (hb1.mono hsz))
      clear hb1
      cases hp : wkShape x.w with
      | false =>
        have HG := Lib.hid (hbad.out hp)
        clear hgood hbad hp
        go_wp2_with fail
        go_ret
        exact ⟨ret_bool (by rw [HG.out]), HB1.out⟩
      | true =>
        have HG := Lib.hid (hgood.out hp)
        clear hgood hbad hp
        go_wp2_with fail
        go_roundw
        case rel => exact ⟨k + 1, by omega, by go_num, HG, HB1.out⟩
        case measure => simp [intOf]; omega
    · obtain rfl : k = xs.length := by omega
      have HG := Lib.hid HAC.out.full
      go_wp2_with fail
      go_ret
      exact ⟨ret_bool (by rw [HG.out]), HB.out⟩
end Go.Proofs.Ytbpihiholbidlaa
namespace Go.Proofs.Ytbpihiholbidlaa
open Go.RowKit

/-- A match begins at a node. -/
def fromP (n : Int) (m : Mt) : Bool := match m.w.ns with
  | [] => false
  | a :: _ => a == n
theorem fromP_at {n : Int} {m : Mt} (h : 0 < m.w.ns.length) : fromP n m = (m.w.ns[0] == n) := by
  obtain ⟨⟨ns, es⟩, bs⟩ := m
  cases ns with
  | nil => simp at h
  | cons a l => rfl
def fromR (n : Int) (xs : List Mt) : List Mt := if xs.all shP = true then xs.filter (fromP n) else []
theorem filter_yes {α : Type} {p : α → Bool} {xs : List α} {k : Nat} (hk : k < xs.length) (h : p xs[k] = true) : (xs.take (k + 1)).filter p = (xs.take k).filter p ++ [xs[k]] := by
  rw [List.take_succ_eq_append_getElem hk, List.filter_append]; simp [h]
theorem filter_no {α : Type} {p : α → Bool} {xs : List α} {k : Nat} (hk : k < xs.length) (h : p xs[k] = false) : (xs.take (k + 1)).filter p = (xs.take k).filter p := by
  rw [List.take_succ_eq_append_getElem hk, List.filter_append]; simp [h]
theorem filter_len {α : Type} (p : α → Bool) (xs : List α) (k : Nat) : ((xs.take k).filter p).length ≤ xs.length := Nat.le_trans (List.length_filter_le _ _) (by simp; omega)
theorem shP_pos {m : Mt} (h : shP m = true) : 0 < m.w.ns.length := by have := (wkShape_iff.1 h).1; omega

set_option maxRecDepth 100000 in
set_option maxHeartbeats 1000000 in
theorem fromFn_any (m : Mt) (v : Value) (n : Int) (c : Nat) (B : Nat) (w : World) (hm : m.w.At B w v) (hB : B ≤ w.heap.size) (hs : shP m = true) (hc : w.cell? ⟨c, 0, none⟩ = some (.int .i64 n)) :
    Calls Try.prog 46 #[v, .pointer (some ⟨c, 0, none⟩)] w fun en w' => en = .returned (.bool (fromP n m)) ∧ Below w.heap.size w w' := by
  have hlt := World.block_lt_of_cell? w _ hc
  have hp := shP_pos hs
  obtain ⟨a, b, rfl, ha, hb⟩ := hm
  obtain ⟨pn, cn, rfl⟩ := ha.form
  have HR := Lib.hid (fromP_at (n := n) hp)
  obtain ⟨b0, off, rfl, hb0, c0⟩ := ha.it hp
  obtain ⟨x, ex⟩ : ∃ x, x = m.w.ns[0] := ⟨_, rfl⟩
  rw [← ex] at HR c0
  have hp' : (0 : Int) < (m.w.ns.length : Int) := by omega
  obtain ⟨p, cap, rfl⟩ := hb.form
  clear ha hb ex hs
  simp only [Nat.add_zero] at c0
  obtain ⟨W, eW⟩ : ∃ W, W = w.alloc (.cells #[.slice (some ⟨b0, off, none⟩) m.w.ns.length cn, .slice p m.w.es.length cap] 46) := ⟨_, rfl⟩
  have kW : Below w.heap.size w W := by rw [eW]; exact (Below.refl _ _).alloc (Nat.le_refl _) _
  have sW : w.heap.size < W.heap.size := by rw [eW]; simp
  have hb1 : b0 < w.heap.size := by omega
  have HK := Lib.hid (fun (E : World) (hE : Below W.heap.size W E) => (⟨keepc hE sW (by rw [eW]; simp [go_sem]), keepc (kW.trans (hE.mono (by omega))) hb1 c0, keepc (kW.trans (hE.mono (by omega))) hlt hc⟩ : E.cell? ⟨w.heap.size, 0, none⟩ = some (.slice (some ⟨b0, off, none⟩) m.w.ns.length cn) ∧ E.cell? ⟨b0, off, none⟩ = some (.int .i64 x) ∧ E.cell? ⟨c, 0, none⟩ = some (.int .i64 n)))
  have EW := Lib.hid eW
  have r0 := Below.refl W.heap.size W
  clear eW c0 hc
  go_enter Try.func46, Try.ntmps46
  go_upto_region 1 with fail
  rw [← EW.out]
  go_region_held3 (fun w' => w'.cell? ⟨w.heap.size, 0, none⟩ = some (.slice (some ⟨b0, off, none⟩) m.w.ns.length cn) ∧ w'.cell? ⟨b0, off, none⟩ = some (.int .i64 x) ∧ w'.cell? ⟨c, 0, none⟩ = some (.int .i64 n))
    (exact HK.out _ (show Below W.heap.size W _ by ((repeat (first | with_reducible assumption | with_reducible exact Below.refl _ _ | refine Below.setCell ?_ (by (first | omega | (simp; omega) | (simp; done) | fail "sml")) _ | refine Below.drew ?_ | refine Below.alloc ?_ (by (first | omega | (simp; omega) | (simp; done) | fail "sml")) _)); first | done | fail "chs")))
    (fail)
  go_wp2_with fail
  go_ret
  exact ⟨ret_bool HR.out.symm, kW.drew⟩

theorem Mt.has_mk {m : Mt} {a b c : Value} {F1 F2 : List Nat} {w : World} (h1 : m.w.Has (.agg #[a, b]) F1 w) (h2 : kBn.Ow w c m.bs F2) (h3 : ∀ y ∈ F1, y ∉ F2) : m.Has (.agg #[a, b, c]) (F1 ++ F2) w := ⟨a, b, c, F1, F2, rfl, rfl, h1, h2, h3⟩
theorem wkExt_nil (x : Wk) : wkExt x [] [] = x := by
  obtain ⟨ns, es⟩ := x
  simp [wkExt]

set_option maxRecDepth 100000 in
set_option maxHeartbeats 4000000 in
theorem pickFrom_any (xs : List Mt) (v : Value) (n : Int) (c : Nat) (B : Nat) (w : World) (hv : kMt.Rd B w v xs) (hB : B ≤ w.heap.size) (hn : xs.length + sumMt xs ≤ 1048576) (hsh : xs.all shP = true) (hc : w.cell? ⟨c, 0, none⟩ = some (.int .i64 n)) :
    Calls Try.prog 38 #[v, .func (.func 46) #[] #[.pointer (some ⟨c, 0, none⟩)]] w fun e w' => ∃ v' F, e = .returned v' ∧ kMt.Ow w' v' (xs.filter (fromP n)) F ∧ (∀ y ∈ F, w.heap.size ≤ y) ∧ Below w.heap.size w w' := by
  obtain ⟨p, cap, rfl⟩ := hv.form
  obtain ⟨_, hm1, hm2⟩ := hv.max
  unfold maxLen at hm2
  have HV := Lib.hid hv
  have HSH := Lib.hid (List.all_eq_true.1 hsh)
  have hcl : c < w.heap.size := World.block_lt_of_cell? w _ hc
  have HC := Lib.hid (fun (E : World) (hE : Below w.heap.size w E) => keepc hE hcl hc)
  clear hv hsh
  go_enter Try.func38, Try.ntmps38
  go_wp2_with fail
  go_loopw [5, 10] (fun cp i wr => ∃ (k : Nat) (F : List Nat), k ≤ xs.length ∧ i = .int .i64 k ∧ RowKit.Hid (kMt.OwB 49 wr cp ((xs.take k).filter (fromP n)) F) ∧ RowKit.Hid (∀ y ∈ F, w.heap.size ≤ y) ∧ RowKit.Hid (Below w.heap.size w wr)) (fun _ i _ => xs.length - (intOf i).toNat)
  case atStart => exact ⟨0, [], Nat.zero_le _, rfl, Lib.hid (by simpa using Kd.OwB.nil kMt _ _ _), Lib.hid (by simp), Lib.hid (Below.refl _ _)⟩
  case round =>
    obtain ⟨k, F, hk, rfl, HO, HF, HB⟩ := hrel
    have hsz := HB.out.size
    by_cases hlt : k < xs.length
    · obtain ⟨b, off, q, d, q', d', r, e, rfl, hb, c0, c1, c2, hin⟩ := kMt_get (HV.out.to (HB.out.mono hB) (Nat.le_refl _)) hlt
      have hsize := sumMt_get xs k hlt
      have hsx := HSH.out _ (List.getElem_mem hlt)
      have hyes := fun (h : (fromP n) xs[k] = true) (w' : World) (v' : Value) (F' : List Nat) (ho : kMt.OwB 49 w' v' ((xs.take k).filter (fromP n) ++ [xs[k]]) F') => (filter_yes hlt h ▸ ho : kMt.OwB 49 w' v' ((xs.take (k + 1)).filter (fromP n)) F')
      have hno := fun (h : (fromP n) xs[k] = false) (w' : World) (v' : Value) (F' : List Nat) (ho : kMt.OwB 49 w' v' ((xs.take k).filter (fromP n)) F') => (filter_no hlt h ▸ ho : kMt.OwB 49 w' v' ((xs.take (k + 1)).filter (fromP n)) F')
      have HLE := Lib.hid (show ((xs.take k).filter (fromP n)).length ≤ 1048576 from Nat.le_trans (filter_len _ _ _) (by omega))
      have hkl : (k : Int) < (xs.length : Int) := by omega
      obtain ⟨x, ex⟩ : ∃ x, x = xs[k] := ⟨_, rfl⟩
      rw [← ex] at c0 c1 c2 hin hsize hsx hyes hno
      have HIN := Lib.hid hin
      have HIW := Lib.hid (show x.w.At B wr (.agg #[.slice q x.w.ns.length d, .slice q' x.w.es.length d']) ∧ kBn.Rd B wr (.slice r x.bs.length e) x.bs from by obtain ⟨a1, a2, a3, e1, h1, h2, h3⟩ := hin; cases e1; exact ⟨⟨_, _, rfl, h1, h2⟩, h3⟩)
      have HYES := Lib.hid hyes
      have HNO := Lib.hid hno
      have hn1 : x.w.need ≤ 1048576 := by unfold Mt.need at hsize; omega
      have hn2 : x.bs.length + sumBn x.bs ≤ 1048576 := by unfold Mt.need at hsize; omega
      have HSX := Lib.hid hsx
      clear ex hin hsize hyes hno hsx
      obtain ⟨W, eW⟩ : ∃ W, W = wr.alloc (.cells #[.slice q x.w.ns.length d, .slice q' x.w.es.length d', .slice r x.bs.length e] 49) := ⟨_, rfl⟩
      have kW : Below wr.heap.size wr W := by rw [eW]; exact (Below.refl _ _).alloc (Nat.le_refl _) _
      have sW : wr.heap.size < W.heap.size := by rw [eW]; simp
      have HK := Lib.hid (fun (E : World) (hE : Below W.heap.size W E) => (⟨keepc hE sW (by rw [eW]; simp [go_sem]), keepc hE sW (by rw [eW]; simp [go_sem]), keepc hE sW (by rw [eW]; simp [go_sem])⟩ : E.cell? ⟨wr.heap.size, 0, none⟩ = some (.slice q x.w.ns.length d) ∧ E.cell? ⟨wr.heap.size, 1, none⟩ = some (.slice q' x.w.es.length d') ∧ E.cell? ⟨wr.heap.size, 2, none⟩ = some (.slice r x.bs.length e)))
      have EW := Lib.hid eW
      have kWw : Below w.heap.size w W := HB.out.trans (kW.mono hsz)
      clear eW
      go_upto_region 5 with fail
      rw [← EW.out]
      obtain ⟨m0, m1, m2⟩ := HK.out _ (Below.refl _ _)
      go_wp2_with fail
      refine (fromFn_any x _ n c B W (HIW.out.1.to (kW.mono (by omega)) (Nat.le_refl _)) (by omega) HSX.out (HC.out W kWw)).mono ?_
      rintro en w1 ⟨rfl, hb1⟩
      have r1 : Below W.heap.size W w1 := hb1
      have s1 := r1.size
      clear hb1 m0 m1 m2
      obtain ⟨m0, m1, m2⟩ := HK.out _ r1
      have hq1 : wr.heap.size < w1.heap.size := by omega
      cases hp : (fromP n) x with
      | false =>
        have HN := Lib.hid (HNO.out hp _ _ _ (HO.out.below (kW.trans (r1.mono (by omega)))))
        clear hp
        go_wp2_with fail
        go_roundw
        case rel => exact ⟨k + 1, F, by omega, by go_num, HN, HF, Lib.hid (kWw.trans (r1.mono (by omega)))⟩
        case measure => simp [intOf]; omega
      | true =>
        have HY := Lib.hid (HYES.out hp)
        clear hp
        have HKK := Lib.hid (fun (E : World) (hE : Below w1.heap.size w1 E) => HK.out E (r1.trans (hE.mono s1)))
        have CW := Lib.hid (fun (E : World) (hE : Below w1.heap.size w1 E) => ((extendWalk_any x.w [] [] (.agg #[.slice q x.w.ns.length d, .slice q' x.w.es.length d']) (.slice none 0 0) (.slice none 0 0) B E (HIW.out.1.to ((kW.trans ((r1.trans (hE.mono s1)).mono (by omega))).mono (by omega)) (Nat.le_refl _)) ⟨none, 0, 0, rfl, rfl, Nat.le_refl _, Nat.zero_le _, fun i hi => by simp at hi⟩ ⟨none, 0, 0, rfl, rfl, Nat.le_refl _, Nat.zero_le _, fun i hi => by simp at hi⟩ (by have := hE.size; omega) hn1 (by simp) (by simp)).mono (fun en w' ⟨v', G, e1, ho, hG, hb⟩ => by
          rw [wkExt_nil] at ho
          obtain ⟨pA, cA, qA, dA, rfl⟩ := ho.at.form
          exact ⟨pA, cA, qA, dA, G, e1, ho, fun y hy => Nat.le_trans hE.size (hG y hy), hb⟩) : Calls Try.prog 61 #[.agg #[.slice q x.w.ns.length d, .slice q' x.w.es.length d'], .slice none 0 0, .slice none 0 0] E (fun en w' => ∃ (pA : Option Addr) (cA : Nat) (qA : Option Addr) (dA : Nat) (G : List Nat), en = .returned (.agg #[.slice pA x.w.ns.length cA, .slice qA x.w.es.length dA]) ∧ x.w.Has (.agg #[.slice pA x.w.ns.length cA, .slice qA x.w.es.length dA]) G w' ∧ (∀ y ∈ G, w1.heap.size ≤ y) ∧ Below E.heap.size E w')))
        have CB := Lib.hid (fun (E : World) (hE : Below w1.heap.size w1 E) => copyBinds_any x.bs (.slice r x.bs.length e) B E (HIW.out.2.to ((kW.trans ((r1.trans (hE.mono s1)).mono (by omega))).mono (by omega)) (Nat.le_refl _)) (by have := hE.size; omega) hn2)
        have HO1 := Lib.hid (HO.out.below (kW.trans (r1.mono (by omega))))
        have CM := Lib.hid (fun (E : World) (hE : Below w1.heap.size w1 E) (ty : TypeId) => appMatch (HO1.out.below hE) ty x)
        have rr := Below.refl w1.heap.size w1
        have HB1 := Lib.hid (show Below w.heap.size w w1 from kWw.trans (r1.mono (by omega)))
        have hs9 : w.heap.size ≤ w1.heap.size := HB1.out.size
        go_upto_region 6 with fail
        go_region_held3 (fun w' => w'.cell? ⟨wr.heap.size, 0, none⟩ = some (.slice q x.w.ns.length d) ∧ w'.cell? ⟨wr.heap.size, 1, none⟩ = some (.slice q' x.w.es.length d') ∧ w'.cell? ⟨wr.heap.size, 2, none⟩ = some (.slice r x.bs.length e))
          (first | exact hk9 | exact HKK.out _ (show Below w1.heap.size w1 _ by ((repeat (first | with_reducible assumption | with_reducible exact Below.refl _ _ | refine Below.setCell ?_ (by (first | omega | (simp; omega) | (simp; done) | fail "sml")) _ | refine Below.drew ?_ | refine Below.alloc ?_ (by (first | omega | (simp; omega) | (simp; done) | fail "sml")) _)); first | done | fail "chs")))
          (first
            | (go_at_call 61; with_reducible refine (CW.out _ (show Below w1.heap.size w1 _ by ((repeat (first | with_reducible assumption | with_reducible exact Below.refl _ _ | refine Below.setCell ?_ (by (first | omega | (simp; omega) | (simp; done) | fail "sml")) _ | refine Below.drew ?_ | refine Below.alloc ?_ (by (first | omega | (simp; omega) | (simp; done) | fail "sml")) _)); first | done | fail "chs"))).mono ?_; rintro en wA ⟨pA, cA, qA, dA, FA, rfl, ho, hF, hb⟩; have kA := Below.trans (show Below w1.heap.size w1 _ by ((repeat (first | with_reducible assumption | with_reducible exact Below.refl _ _ | refine Below.setCell ?_ (by (first | omega | (simp; omega) | (simp; done) | fail "sml")) _ | refine Below.drew ?_ | refine Below.alloc ?_ (by (first | omega | (simp; omega) | (simp; done) | fail "sml")) _)); first | done | fail "chs")) (hb.mono (by (first | omega | (simp; omega) | (simp; done) | fail "sml"))); have zA := kA.size; have rA := Below.refl wA.heap.size wA; have HWA := Lib.hid ho; have GA := Lib.hid hF; clear ho hF hb)
            | (go_at_call 62; with_reducible refine (CB.out _ (show Below w1.heap.size w1 _ by ((repeat (first | with_reducible assumption | with_reducible exact Below.refl _ _ | refine Below.setCell ?_ (by (first | omega | (simp; omega) | (simp; done) | fail "sml")) _ | refine Below.drew ?_ | refine Below.alloc ?_ (by (first | omega | (simp; omega) | (simp; done) | fail "sml")) _)); first | done | fail "chs"))).mono ?_; rintro en wB ⟨u, FB, rfl, ho, hF, hb⟩; obtain ⟨pB, cB, rfl⟩ := ho.form; have kB := Below.trans (show Below w1.heap.size w1 _ by ((repeat (first | with_reducible assumption | with_reducible exact Below.refl _ _ | refine Below.setCell ?_ (by (first | omega | (simp; omega) | (simp; done) | fail "sml")) _ | refine Below.drew ?_ | refine Below.alloc ?_ (by (first | omega | (simp; omega) | (simp; done) | fail "sml")) _)); first | done | fail "chs")) (hb.mono (by (first | omega | (simp; omega) | (simp; done) | fail "sml"))); have zB := kB.size; have rB := Below.refl wB.heap.size wB; have sB := Below.trans (show Below wA.heap.size wA _ by ((repeat (first | with_reducible assumption | with_reducible exact Below.refl _ _ | refine Below.setCell ?_ (by (first | omega | (simp; omega) | (simp; done) | fail "sml")) _ | refine Below.drew ?_ | refine Below.alloc ?_ (by (first | omega | (simp; omega) | (simp; done) | fail "sml")) _)); first | done | fail "chs")) (hb.mono (by (first | omega | (simp; omega) | (simp; done) | fail "sml"))); have GB0 := (fun y hy => Nat.le_trans (show Below wA.heap.size wA _ by ((repeat (first | with_reducible assumption | with_reducible exact Below.refl _ _ | refine Below.setCell ?_ (by (first | omega | (simp; omega) | (simp; done) | fail "sml")) _ | refine Below.drew ?_ | refine Below.alloc ?_ (by (first | omega | (simp; omega) | (simp; done) | fail "sml")) _)); first | done | fail "chs")).size (hF y hy)); have HMB := Lib.hid (Mt.has_mk (HWA.out.chg (Chg.of_below sB []) (by simp)) ho (fun y hy hy2 => by have := HWA.out.lt y hy; have := GB0 y hy2; omega)); have GB := Lib.hid (show ∀ y ∈ FA ++ FB, w1.heap.size ≤ y from fun y hy => by rcases List.mem_append.1 hy with h | h; exact GA.out y h; exact Nat.le_trans zA (GB0 y h)); clear ho hF hb GB0)
            | (refine step_app_src (by rfl) (.tmp 18) (.tmp 26) 24 (by rfl) _ _ (by rfl) (by rfl) _ (CM.out _ (show Below w1.heap.size w1 _ by ((repeat (first | with_reducible assumption | with_reducible exact Below.refl _ _ | refine Below.setCell ?_ (by (first | omega | (simp; omega) | (simp; done) | fail "sml")) _ | refine Below.drew ?_ | refine Below.alloc ?_ (by (first | omega | (simp; omega) | (simp; done) | fail "sml")) _)); first | done | fail "chs")) _ pA cA qA dA pB cB (FA ++ FB) _ _ (HMB.out.chg (Chg.of_below (show Below wB.heap.size wB _ by ((repeat (first | with_reducible assumption | with_reducible exact Below.refl _ _ | refine Below.setCell ?_ (by (first | omega | (simp; omega) | (simp; done) | fail "sml")) _ | refine Below.drew ?_ | refine Below.alloc ?_ (by (first | omega | (simp; omega) | (simp; done) | fail "sml")) _)); first | done | fail "chs")) []) (by simp)) (fun y hy hy2 => by have := HO1.out.lt y hy; have := GB.out y hy2; omega) (by simp [go_sem]) (by simp [go_sem]) (by simp [go_sem]) HLE.out) ?_; intro vC wC hv; obtain ⟨F', h1, h2, h3⟩ := hv; have hB9 := Lib.hid (below_app HB1.out (show Below w1.heap.size w1 _ by ((repeat (first | with_reducible assumption | with_reducible exact Below.refl _ _ | refine Below.setCell ?_ (by (first | omega | (simp; omega) | (simp; done) | fail "sml")) _ | refine Below.drew ?_ | refine Below.alloc ?_ (by (first | omega | (simp; omega) | (simp; done) | fail "sml")) _)); first | done | fail "chs")) h3 HF.out); have hF9 := Lib.hid (ge_app hs9 (show Below w1.heap.size w1 _ by ((repeat (first | with_reducible assumption | with_reducible exact Below.refl _ _ | refine Below.setCell ?_ (by (first | omega | (simp; omega) | (simp; done) | fail "sml")) _ | refine Below.drew ?_ | refine Below.alloc ?_ (by (first | omega | (simp; omega) | (simp; done) | fail "sml")) _)); first | done | fail "chs")) h2 HF.out GB.out); have hO9 := Lib.hid (HY.out _ _ _ h1); have hk9 := (show wC.cell? ⟨wr.heap.size, 0, none⟩ = some (.slice q x.w.ns.length d) ∧ wC.cell? ⟨wr.heap.size, 1, none⟩ = some (.slice q' x.w.es.length d') ∧ wC.cell? ⟨wr.heap.size, 2, none⟩ = some (.slice r x.bs.length e) from ⟨h3.cellOf (fun hy => absurd (HO.out.lt _ hy) (by omega)) (HKK.out _ (show Below w1.heap.size w1 _ by ((repeat (first | with_reducible assumption | with_reducible exact Below.refl _ _ | refine Below.setCell ?_ (by (first | omega | (simp; omega) | (simp; done) | fail "sml")) _ | refine Below.drew ?_ | refine Below.alloc ?_ (by (first | omega | (simp; omega) | (simp; done) | fail "sml")) _)); first | done | fail "chs"))).1, h3.cellOf (fun hy => absurd (HO.out.lt _ hy) (by omega)) (HKK.out _ (show Below w1.heap.size w1 _ by ((repeat (first | with_reducible assumption | with_reducible exact Below.refl _ _ | refine Below.setCell ?_ (by (first | omega | (simp; omega) | (simp; done) | fail "sml")) _ | refine Below.drew ?_ | refine Below.alloc ?_ (by (first | omega | (simp; omega) | (simp; done) | fail "sml")) _)); first | done | fail "chs"))).2.1, h3.cellOf (fun hy => absurd (HO.out.lt _ hy) (by omega)) (HKK.out _ (show Below w1.heap.size w1 _ by ((repeat (first | with_reducible assumption | with_reducible exact Below.refl _ _ | refine Below.setCell ?_ (by (first | omega | (simp; omega) | (simp; done) | fail "sml")) _ | refine Below.drew ?_ | refine Below.alloc ?_ (by (first | omega | (simp; omega) | (simp; done) | fail "sml")) _)); first | done | fail "chs"))).2.2⟩); clear h1 h2 h3)
            | fail "no arm")
        go_wp2_with fail
        go_roundw
        case rel => exact ⟨k + 1, F', by omega, by go_num, hO9, hF9, hB9⟩
        case measure => simp [intOf]; omega
    · obtain rfl : k = xs.length := by omega
      have HO2 := Lib.hid (show kMt.Ow wr u5 (xs.filter (fromP n)) F by have h := HO.out; rw [List.take_length] at h; exact h.ow)
      go_wp2_with fail
      go_ret
      exact ⟨_, F, rfl, HO2.out, HF.out, HB.out⟩
end Go.Proofs.Ytbpihiholbidlaa
namespace Go.Proofs.Ytbpihiholbidlaa
open Go.RowKit

/-- A row of matches in memory of the call's own. -/
def MsPost (R : List Mt) (w : World) (e : Ending) (w' : World) : Prop := ∃ v' F, e = .returned v' ∧ kMt.Ow w' v' R F ∧ (∀ y ∈ F, w.heap.size ≤ y) ∧ Below w.heap.size w w'

set_option maxRecDepth 100000 in
set_option maxHeartbeats 2000000 in
theorem matchesFrom_any (xs : List Mt) (v : Value) (n : Int) (B : Nat) (w : World) (hv : kMt.Rd B w v xs) (hB : B ≤ w.heap.size) (hn : xs.length + sumMt xs ≤ 1048576) :
    Calls Try.prog 25 #[v, .int .i64 n] w (MsPost (fromR n xs) w) := by
  obtain ⟨p, cap, rfl⟩ := hv.form
  have HV := Lib.hid hv
  clear hv
  obtain ⟨W, eW⟩ : ∃ W, W = w.alloc (.cells #[.int .i64 n] 3) := ⟨_, rfl⟩
  have kW : Below w.heap.size w W := by rw [eW]; exact (Below.refl _ _).alloc (Nat.le_refl _) _
  have sW : w.heap.size < W.heap.size := by rw [eW]; simp
  have HC := Lib.hid (fun (E : World) (hE : Below W.heap.size W E) => keepc hE sW (show W.cell? ⟨w.heap.size, 0, none⟩ = some (.int .i64 n) by rw [eW]; simp [go_sem]))
  have EW := Lib.hid eW
  clear eW
  go_enter Try.func25, Try.ntmps25
  go_wp2_with fail
  rw [← EW.out]
  refine (haveShape_any xs _ B W (HV.out.to (kW.mono hB) (Nat.le_refl _)) (by omega) (by omega)).mono ?_
  rintro en w1 ⟨rfl, hb1⟩
  have r1 : Below w.heap.size w w1 := kW.trans (hb1.mono (by omega))
  have c1 := HC.out _ hb1
  have s1 := hb1.size
  clear hb1
  cases hE : xs.all shP with
  | false =>
    have HR := Lib.hid (show fromR n xs = [] by unfold fromR; rw [hE]; rfl)
    clear hE
    go_wp2_with fail
    go_ret
    exact ⟨_, [], rfl, by rw [HR.out]; exact (Kd.OwB.nil kMt 49 _ _).ow, by simp, r1⟩
  | true =>
    have HR := Lib.hid (show fromR n xs = xs.filter (fromP n) by unfold fromR; rw [hE]; rfl)
    have HE := Lib.hid hE
    clear hE
    go_wp2_with fail
    refine (pickFrom_any xs _ n w.heap.size B w1 (HV.out.to (r1.mono hB) (Nat.le_refl _)) (by omega) hn HE.out c1).mono ?_
    rintro en w2 ⟨v', F, rfl, ho, hF, hb2⟩
    have HO := Lib.hid ho
    have HF := Lib.hid hF
    have HB := Lib.hid (r1.trans (hb2.mono (by omega)))
    clear ho hF hb2
    go_wp2_with fail
    go_ret
    exact ⟨_, F, rfl, by rw [HR.out]; exact HO.out, fun y hy => by have := HF.out y hy; omega, HB.out⟩

set_option maxRecDepth 100000 in
set_option maxHeartbeats 4000000 in
theorem specMatchesFrom_any (xs : List Mt) (v : Value) (n : Int) (B : Nat) (w : World) (hv : kMt.Rd B w v xs) (hB : B ≤ w.heap.size) (hn : xs.length + sumMt xs ≤ 1048576) :
    Calls Try.prog 24 #[v, .int .i64 n] w (MsPost (fromR n xs) w) := by
  obtain ⟨p, cap, rfl⟩ := hv.form
  obtain ⟨_, hm1, hm2⟩ := hv.max
  unfold maxLen at hm2
  have HV := Lib.hid hv
  clear hv
  go_enter Try.func24, Try.ntmps24
  go_wp2_with fail
  go_loopw [5, 6] (fun cp i wr => ∃ (k : Nat) (F : List Nat), k ≤ xs.length ∧ i = .int .i64 k ∧ RowKit.Hid (kMt.OwB 49 wr cp ((xs.take k).filter (fromP n)) F) ∧ RowKit.Hid (∀ y ∈ F, w.heap.size ≤ y) ∧ RowKit.Hid (k = 0 ∨ xs.all shP = true) ∧ RowKit.Hid (Below w.heap.size w wr)) (fun _ i _ => xs.length - (intOf i).toNat)
  case atStart => exact ⟨0, [], Nat.zero_le _, rfl, Lib.hid (by simpa using Kd.OwB.nil kMt _ _ _), Lib.hid (by simp), Lib.hid (.inl rfl), Lib.hid ((Below.refl _ _).alloc (Nat.le_refl _) _)⟩
  case round =>
    obtain ⟨k, F, hk, rfl, HO, HF, HS, HB⟩ := hrel
    have hsz := HB.out.size
    by_cases hlt : k < xs.length
    · have hkl : (k : Int) < (xs.length : Int) := by omega
      go_wp2_with fail
      refine (l9Shape_any xs _ B wr (HV.out.to (HB.out.mono hB) (Nat.le_refl _)) (by omega) (by omega)).mono ?_
      rintro en w1 ⟨rfl, hb1⟩
      have s1 := hb1.size
      have HB1 := Lib.hid (HB.out.trans (hb1.mono hsz))
      have HO1 := Lib.hid (HO.out.below hb1)
      clear hb1
      cases hE : xs.all shP with
      | false =>
        have hk0 : k = 0 := by rcases HS.out with h | h; exact h; rw [hE] at h; cases h
        subst hk0
        have HR := Lib.hid (show fromR n xs = (xs.take 0).filter (fromP n) by unfold fromR; rw [hE]; rfl)
        have HO2 := Lib.hid HO1.out.ow
        clear hE
        go_wp2_with fail
        go_ret
        exact ⟨_, F, rfl, by rw [HR.out]; exact HO2.out, HF.out, HB1.out⟩
      | true =>
        have HE := Lib.hid hE
        have hsx := List.all_eq_true.1 hE _ (List.getElem_mem hlt)
        clear hE
        obtain ⟨b, off, q, d, q', d', r, e, rfl, hb, c0, c1, c2, hin⟩ := kMt_get (HV.out.to (HB1.out.mono hB) (Nat.le_refl _)) hlt
        have hsize := sumMt_get xs k hlt
        have hyes := fun (h : fromP n xs[k] = true) (w' : World) (v' : Value) (F' : List Nat) (ho : kMt.OwB 49 w' v' ((xs.take k).filter (fromP n) ++ [xs[k]]) F') => (filter_yes hlt h ▸ ho : kMt.OwB 49 w' v' ((xs.take (k + 1)).filter (fromP n)) F')
        have hno := fun (h : fromP n xs[k] = false) (w' : World) (v' : Value) (F' : List Nat) (ho : kMt.OwB 49 w' v' ((xs.take k).filter (fromP n)) F') => (filter_no hlt h ▸ ho : kMt.OwB 49 w' v' ((xs.take (k + 1)).filter (fromP n)) F')
        have HLE := Lib.hid (show ((xs.take k).filter (fromP n)).length ≤ 1048576 from Nat.le_trans (filter_len _ _ _) (by omega))
        obtain ⟨x, ex⟩ : ∃ x, x = xs[k] := ⟨_, rfl⟩
        rw [← ex] at c0 c1 c2 hin hsize hsx hyes hno
        have HIN := Lib.hid hin
        have HYES := Lib.hid hyes
        have HNO := Lib.hid hno
        have hpos := shP_pos hsx
        have hpos' : (0 : Int) < (x.w.ns.length : Int) := by omega
        have HAT := Lib.hid (fromP_at (n := n) hpos)
        have hnx : x.need ≤ 1048576 := by omega
        obtain ⟨bn, on, eqn, hbn, cn⟩ := (show Sl 1 intCells B w1 (.slice q x.w.ns.length d) x.w.ns from by obtain ⟨a1, a2, a3, e1, h1, h2, h3⟩ := hin; cases e1; exact h1).it hpos
        subst eqn
        simp only [Nat.add_zero] at cn
        obtain ⟨y, ey⟩ : ∃ y, y = x.w.ns[0] := ⟨_, rfl⟩
        rw [← ey] at cn HAT
        clear ex hin hsize hyes hno hsx ey
        cases hp : (y == n) with
        | false =>
          have HN := Lib.hid (HNO.out (HAT.out.trans hp) _ _ _ HO1.out)
          go_wp2_with fail
          go_roundw
          case rel => exact ⟨k + 1, F, by omega, by go_num, HN, HF, Lib.hid (.inr HE.out), HB1⟩
          case measure => simp [intOf]; omega
        | true =>
          have HY := Lib.hid (HYES.out (HAT.out.trans hp))
          go_wp2_with fail
          refine (l9Copy_any x _ B w1 HIN.out (by omega) hnx).mono ?_
          rintro en w2 ⟨v2, G, rfl, ho, hG, hb2⟩
          obtain ⟨pA, cA, qA, dA, pB, cB, rfl⟩ := ho.at.form
          obtain ⟨W2, eW2⟩ : ∃ W2, W2 = w2.alloc (.cells #[.slice pA x.w.ns.length cA, .slice qA x.w.es.length dA, .slice pB x.bs.length cB] 49) := ⟨_, rfl⟩
          have kW2 : Below w2.heap.size w2 W2 := by rw [eW2]; exact (Below.refl _ _).alloc (Nat.le_refl _) _
          have s2 := hb2.size
          have HA := Lib.hid (appMatch (HO1.out.below (hb2.trans (kW2.mono s2))) 24 x pA cA qA dA pB cB G w2.heap.size 1 (ho.chg (Chg.of_below kW2 []) (by simp)) (fun z hz hz2 => by have := HO1.out.lt z hz; have := hG z hz2; omega) (by rw [eW2]; simp [go_sem]) (by rw [eW2]; simp [go_sem]) (by rw [eW2]; simp [go_sem]) HLE.out)
          have HG := Lib.hid hG
          have HB2 := Lib.hid (hb2.trans (kW2.mono s2))
          have hs1 : w.heap.size ≤ w1.heap.size := HB1.out.size
          have EW := Lib.hid eW2
          clear ho hG hb2 kW2 eW2
          go_wp2_with (at_builtin; rw [← EW.out]; refine wpApp rfl (.tmp 28) (.tmp 34) 24 rfl _ _ rfl rfl _ HA.out ?_; rintro v3 w3 hr; have HR := Lib.hid hr; clear hr)
          obtain ⟨F', hF1, hF2, hF3⟩ := HR.out
          have hge := ge_app hs1 HB2.out hF2 HF.out HG.out
          have hbe := below_app HB1.out HB2.out hF3 HF.out
          go_roundw
          case rel => exact ⟨k + 1, F', by omega, by go_num, Lib.hid (HY.out _ _ _ hF1), Lib.hid hge, Lib.hid (.inr HE.out), Lib.hid hbe⟩
          case measure => simp [intOf]; omega
    · obtain rfl : k = xs.length := by omega
      have hkl : ¬ (xs.length : Int) < (xs.length : Int) := by omega
      have HO2 := Lib.hid (show kMt.Ow wr u5 (fromR n xs) F by
        have h := HO.out.ow
        rw [List.take_length] at h
        rcases HS.out with h0 | h0
        · have hx : xs = [] := List.eq_nil_of_length_eq_zero h0
          subst hx
          exact h
        · unfold fromR; rw [if_pos h0]; exact h)
      go_wp2_with fail
      go_ret
      exact ⟨_, F, rfl, HO2.out, HF.out, HB.out⟩
end Go.Proofs.Ytbpihiholbidlaa
namespace Go.Proofs.Ytbpihiholbidlaa
open Go.RowKit

/-- The first and the last node of a match. -/
def endP (m : Mt) : Int × Int := (m.w.ns.headD 0, m.w.ns.getLastD 0)
theorem endP_at {m : Mt} (h : 0 < m.w.ns.length) : endP m = (m.w.ns[0], m.w.ns[m.w.ns.length - 1]) := by
  obtain ⟨⟨ns, es⟩, bs⟩ := m
  unfold endP
  cases ns with
  | nil => simp at h
  | cons a l =>
    simp only [List.headD_cons, List.getElem_cons_zero, Prod.mk.injEq, true_and]
    rw [List.getLastD_eq_getLast?, List.getLast?_eq_getElem?]
    simp
/-- How many of the first k have these ends. -/
def befN (xs : List Mt) (y : Int × Int) (k : Nat) : Nat := ((xs.take k).map endP).count y
theorem befN_zero (xs : List Mt) (y : Int × Int) : befN xs y 0 = 0 := by simp [befN]
theorem befN_succ {xs : List Mt} {k : Nat} (hk : k < xs.length) (y : Int × Int) : befN xs y (k + 1) = befN xs y k + (if endP xs[k] = y then 1 else 0) := by
  unfold befN; rw [List.take_succ_eq_append_getElem hk, List.map_append, List.count_append]
  simp only [List.map_cons, List.map_nil, List.count_cons, List.count_nil, Nat.zero_add]
  congr 1
  by_cases h : endP xs[k] = y <;> simp [h]
theorem befN_le (xs : List Mt) (y : Int × Int) (k : Nat) : befN xs y k ≤ k := by
  unfold befN; refine Nat.le_trans List.count_le_length ?_; simp; omega
/-- The part of a list at the places that are wanted. -/
def accR (p : Nat → Bool) (xs : List Mt) : Nat → List Mt
  | 0 => []
  | k + 1 => accR p xs k ++ (match xs[k]? with
    | some x => if p k = true then [x] else []
    | none => [])
theorem accR_yes {p : Nat → Bool} {xs : List Mt} {k : Nat} (hk : k < xs.length) (h : p k = true) : accR p xs (k + 1) = accR p xs k ++ [xs[k]] := by
  rw [accR, List.getElem?_eq_getElem hk]; simp [h]
theorem accR_no {p : Nat → Bool} {xs : List Mt} {k : Nat} (hk : k < xs.length) (h : p k = false) : accR p xs (k + 1) = accR p xs k := by
  rw [accR, List.getElem?_eq_getElem hk]; simp [h]
theorem accR_small (p : Nat → Bool) (xs : List Mt) : ∀ k, (accR p xs k).length ≤ (xs.take k).length ∧ sumMt (accR p xs k) ≤ sumMt (xs.take k)
  | 0 => by simp [accR, sumMt]
  | k + 1 => by
    obtain ⟨h1, h2⟩ := accR_small p xs k
    by_cases hk : k < xs.length
    · have e1 : (xs.take (k + 1)).length = (xs.take k).length + 1 := by simp; omega
      have e2 := sumMt_succ xs k hk
      cases hp : p k with
      | false => rw [accR_no hk hp]; omega
      | true =>
        rw [accR_yes hk hp]
        have e3 : sumMt (accR p xs k ++ [xs[k]]) = sumMt (accR p xs k) + xs[k].need := by simp [sumMt]
        have e4 : (accR p xs k ++ [xs[k]]).length = (accR p xs k).length + 1 := by simp
        omega
    · have e1 : xs[k]? = none := List.getElem?_eq_none (by omega)
      rw [accR, e1, List.take_of_length_le (show xs.length ≤ k + 1 by omega)]
      rw [List.take_of_length_le (show xs.length ≤ k by omega)] at h1 h2
      simpa using ⟨h1, h2⟩
theorem accR_len (p : Nat → Bool) (xs : List Mt) (k : Nat) : (accR p xs k).length ≤ xs.length := Nat.le_trans (accR_small p xs k).1 (by simp; omega)
def firstP (n : Int) (xs : List Mt) (k : Nat) : Bool := match xs[k]? with
  | none => false
  | some x => decide ((befN xs (endP x) k : Int) < n)
theorem firstP_at {n : Int} {xs : List Mt} {k : Nat} (hk : k < xs.length) : firstP n xs k = decide ((befN xs (endP xs[k]) k : Int) < n) := by
  unfold firstP; rw [List.getElem?_eq_getElem hk]
def okF (n : Int) (xs : List Mt) : Bool := xs.all shP && !decide (n < 0)
def firstR (n : Int) (xs : List Mt) : List Mt := if okF n xs = true then accR (firstP n xs) xs xs.length else []
theorem firstR_small (n : Int) (xs : List Mt) : (firstR n xs).length + sumMt (firstR n xs) ≤ xs.length + sumMt xs := by
  unfold firstR
  split
  · have h := accR_small (firstP n xs) xs xs.length
    rw [List.take_length] at h; omega
  · simp [sumMt]
/-- A row of matches in memory of the call's own, and a bool. -/
def MbPost (R : List Mt) (b : Bool) (w : World) (e : Ending) (w' : World) : Prop := ∃ v' F, e = .returned (.tuple #[v', .bool b]) ∧ kMt.Ow w' v' R F ∧ (∀ y ∈ F, w.heap.size ≤ y) ∧ Below w.heap.size w w'
end Go.Proofs.Ytbpihiholbidlaa
namespace Go.Proofs.Ytbpihiholbidlaa
open Go.RowKit

section
variable {P : Program} {o : Oper} {a : Act} {w w' : World} {K : Act → World → Prop} {Q : Exit → Act → World → Prop}
theorem opwp_lookup {t : TypeId} {m y : Operand} {k v : Value} {b : Nat} (hop : o.op = Op.lookup t m y false) (hm : a.eval m = .map (some b)) (hy : a.eval y = k) (hr : (Instr.lookup t (.map (some b)) k false).run P w = .ok v w') (h : K (a.put o.dst v) w') : Oper.wp P o a w K Q := by
  unfold Oper.wp
  simp [execOp, hop, hm, hy, hr, Result.andThen]
  exact h
theorem opwp_entry {t : TypeId} {m y : Operand} {k v : Value} {b : Nat} (hop : o.op = Op.mapEntry t m y) (hm : a.eval m = .map (some b)) (hy : a.eval y = k) (hr : (Instr.mapEntry t (.map (some b)) k).run P w = .ok v w') (h : K (a.put o.dst v) w') : Oper.wp P o a w K Q := by
  unfold Oper.wp
  simp [execOp, hop, hm, hy, hr, Result.andThen]
  exact h
theorem opwp_estore {t : TypeId} {m s x : Operand} {st v : Value} {b : Nat} (hop : o.op = Op.entryStore t m s x) (hm : a.eval m = .map (some b)) (hs : a.eval s = st) (hx : a.eval x = v) (hr : (Instr.entryStore t (.map (some b)) st v).run P w = .ok () w') (h : K (a.put o.dst undef) w') : Oper.wp P o a w K Q := by
  unfold Oper.wp
  simp [execOp, hop, hm, hs, hx, hr, Result.andThen]
  exact h
end
/-- As often as a pair is in a list. -/
def cntV (S : List (Int × Int)) : Int × Int → Value := fun y => .int .i64 (S.count y : Int)
theorem atM_cnt (S : List (Int × Int)) (y : Int × Int) : atM S (cntV S) (.int .i64 0) y = .int .i64 (S.count y : Int) := by
  unfold atM cntV
  split
  · rfl
  · rename_i h; rw [List.count_eq_zero.2 h]; rfl
theorem atM_upd (S : List (Int × Int)) (g : Int × Int → Value) (z v : Value) (y : Int × Int) : atM (y :: S) (updM g y v) z y = v := by
  simp [atM, updM]
theorem cnt_upd (S : List (Int × Int)) (y : Int × Int) (v : Value) : updM (updM (cntV S) y v) y (.int .i64 ((S.count y : Int) + 1)) = cntV (y :: S) := by
  funext z
  unfold updM cntV
  by_cases h : z = y
  · subst h; simp
  · simp [h, show ¬ y = z from fun e => h e.symm]

set_option maxRecDepth 100000 in
set_option maxHeartbeats 2000000 in
theorem endsOf_any (m : Mt) (v : Value) (B : Nat) (w : World) (hm : m.w.At B w v) (hB : B ≤ w.heap.size) (hs : shP m = true) :
    Calls Try.prog 40 #[v] w fun en w' => en = .returned (endV (endP m)) ∧ Below w.heap.size w w' := by
  have hp := shP_pos hs
  have hsh := (wkShape_iff.1 hs).1
  have hlw : m.w.es.length < m.w.ns.length := by omega
  have HM := Lib.hid hm
  obtain ⟨a, b, rfl, ha, hb⟩ := hm
  obtain ⟨pn, cn, rfl⟩ := ha.form
  obtain ⟨pe, ce, rfl⟩ := hb.form
  have HR := Lib.hid (show endV (endP m) = .agg #[.int .i64 m.w.ns[0], .int .i64 (m.w.ns[m.w.es.length]'(by omega))] by
    rw [endP_at hp]; unfold endV; simp only [hsh, Nat.add_sub_cancel])
  obtain ⟨b0, off, rfl, hb0, c0⟩ := ha.it hp
  simp only [Nat.add_zero] at c0
  obtain ⟨x, ex⟩ : ∃ x, x = m.w.ns[0] := ⟨_, rfl⟩
  obtain ⟨y, ey⟩ : ∃ y, y = m.w.ns[m.w.es.length]'(by omega) := ⟨_, rfl⟩
  rw [← ex] at HR c0
  rw [← ey] at HR
  have hp' : (0 : Int) < (m.w.ns.length : Int) := by omega
  obtain ⟨W, eW⟩ : ∃ W, W = (w.alloc (.cells #[.slice (some ⟨b0, off, none⟩) m.w.ns.length cn, .slice pe m.w.es.length ce] 46)).alloc (.cells #[.int .i64 0, .int .i64 0] 58) := ⟨_, rfl⟩
  have kW : Below w.heap.size w W := by rw [eW]; exact ((Below.refl _ _).alloc (Nat.le_refl _) _).alloc (by simp) _
  have sW : w.heap.size + 1 < W.heap.size := by rw [eW]; simp
  have HK := Lib.hid (fun (E : World) (hE : Below (w.heap.size + 1) W E) => (⟨keepc hE (by omega) (by rw [eW]; simp [go_sem]), keepc hE (by omega) (by rw [eW]; simp [go_sem]), keepc (kW.trans (hE.mono (by omega))) (by omega) c0⟩ : E.cell? ⟨w.heap.size, 0, none⟩ = some (.slice (some ⟨b0, off, none⟩) m.w.ns.length cn) ∧ E.cell? ⟨w.heap.size, 1, none⟩ = some (.slice pe m.w.es.length ce) ∧ E.cell? ⟨b0, off, none⟩ = some (.int .i64 x)))
  have HKR := Lib.hid (fun (E : World) (hE : Below W.heap.size W E) => (⟨keepc hE sW (by rw [eW]; simp [go_sem]), keepc hE sW (by rw [eW]; simp [go_sem]), (hE.frozen (p := ⟨w.heap.size + 1, 0, none⟩) sW).trans (by rw [eW]; exact World.frozen?_alloc_at _ _ _ _ (by simp)), (hE.frozen (p := ⟨w.heap.size + 1, 1, none⟩) sW).trans (by rw [eW]; exact World.frozen?_alloc_at _ _ _ _ (by simp))⟩ : E.cell? ⟨w.heap.size + 1, 0, none⟩ = some (.int .i64 0) ∧ E.cell? ⟨w.heap.size + 1, 1, none⟩ = some (.int .i64 0) ∧ E.frozen? ⟨w.heap.size + 1, 0, none⟩ = false ∧ E.frozen? ⟨w.heap.size + 1, 1, none⟩ = false))
  have CL := Lib.hid (fun (E : World) (hE : Below W.heap.size W E) => (by rw [ey]; exact lastNode_any m.w (.agg #[.slice (some ⟨b0, off, none⟩) m.w.ns.length cn, .slice pe m.w.es.length ce]) B E (HM.out.to ((kW.trans (hE.mono kW.size)).mono hB) (Nat.le_refl _)) (by omega) : Calls Try.prog 63 #[.agg #[.slice (some ⟨b0, off, none⟩) m.w.ns.length cn, .slice pe m.w.es.length ce]] E (fun en w' => en = .returned (.int .i64 y) ∧ Below E.heap.size E w')))
  have EW := Lib.hid eW
  have r0 := Below.refl W.heap.size W
  have r1 := Below.refl (w.heap.size + 1) W
  clear eW c0 ha hb ex ey hs hsh
  go_enter Try.func40, Try.ntmps40
  go_upto_region 1 with fail
  rw [← EW.out]
  go_region_held3 (fun w' => w'.cell? ⟨w.heap.size, 0, none⟩ = some (.slice (some ⟨b0, off, none⟩) m.w.ns.length cn) ∧ w'.cell? ⟨w.heap.size, 1, none⟩ = some (.slice pe m.w.es.length ce) ∧ w'.cell? ⟨b0, off, none⟩ = some (.int .i64 x))
    (exact HK.out _ (show Below (w.heap.size + 1) W _ by ((repeat (first | with_reducible assumption | with_reducible exact Below.refl _ _ | refine Below.setCell ?_ (by (first | omega | (simp; omega) | (simp; done) | fail "sml")) _ | refine Below.drew ?_ | refine Below.alloc ?_ (by (first | omega | (simp; omega) | (simp; done) | fail "sml")) _)); first | done | fail "chs")))
    (first | (go_at_call 63; with_reducible refine (CL.out _ (show Below W.heap.size W _ by ((repeat (first | with_reducible assumption | with_reducible exact Below.refl _ _ | refine Below.setCell ?_ (by (first | omega | (simp; omega) | (simp; done) | fail "sml")) _ | refine Below.drew ?_ | refine Below.alloc ?_ (by (first | omega | (simp; omega) | (simp; done) | fail "sml")) _)); first | done | fail "chs"))).mono ?_; rintro en wa ⟨rfl, hb⟩; have ra := Below.trans (show Below W.heap.size W _ by ((repeat (first | with_reducible assumption | with_reducible exact Below.refl _ _ | refine Below.setCell ?_ (by (first | omega | (simp; omega) | (simp; done) | fail "sml")) _ | refine Below.drew ?_ | refine Below.alloc ?_ (by (first | omega | (simp; omega) | (simp; done) | fail "sml")) _)); first | done | fail "chs")) (hb.mono (by (first | omega | (simp; omega) | (simp; done) | fail "sml"))); have za := ra.size; have ra1 := ra.mono (show w.heap.size + 1 ≤ W.heap.size by omega); obtain ⟨y0, y1, y2, y3⟩ := HKR.out _ ra; clear hb) | fail "no arm")
  all_goals go_wp2_with fail
  refine bodyPost_ret (v := .agg #[.int .i64 x, .int .i64 y]) (by simp [results, Try.results40, go_sem, y0, y1]) rfl ⟨by rw [HR.out], ?_⟩
  refine (kW.trans (ra.mono (by omega))).trans ?_
  repeat (first | with_reducible exact Below.refl _ _ | refine Below.setCell ?_ (by (first | omega | (simp; omega) | (simp; done) | fail "sml")) _)
end Go.Proofs.Ytbpihiholbidlaa
namespace Go.Proofs.Ytbpihiholbidlaa
open Go.RowKit

set_option maxRecDepth 100000 in
set_option maxHeartbeats 4000000 in
theorem firstFn_any (m : Mt) (v : Value) (n : Int) (c1 c2 b : Nat) (S : List (Int × Int)) (B : Nat) (w : World) (hm : m.w.At B w v) (hB : B ≤ w.heap.size) (hs : shP m = true) (hok : Pairs64 (endP m)) (hc1 : w.cell? ⟨c1, 0, none⟩ = some (.map (some b))) (hc2 : w.cell? ⟨c2, 0, none⟩ = some (.int .i64 n))
    (h1b : c1 ≠ b) (h2b : c2 ≠ b) (hBb : B ≤ b) (hM : IMap w b S (cntV S)) (hS : S.length ≤ 1048576) :
    Calls Try.prog 39 #[v, .pointer (some ⟨c1, 0, none⟩), .pointer (some ⟨c2, 0, none⟩)] w fun en w' => en = .returned (.bool (decide ((S.count (endP m) : Int) + 1 ≤ n))) ∧ IMap w' b (endP m :: S) (cntV (endP m :: S)) ∧ Chg [b] w w' := by
  have hl1 := World.block_lt_of_cell? w _ hc1
  have hl2 := World.block_lt_of_cell? w _ hc2
  have hbl := hM.lt
  have HMA := Lib.hid hm
  obtain ⟨a1, a2, rfl, ha, hb⟩ := hm
  obtain ⟨q, d, rfl⟩ := ha.form
  obtain ⟨q', d', rfl⟩ := hb.form
  have HT := Lib.hid (show Try.prog.underlying 55 = some (.map 58 3) from Try.underlying55)
  have HZ := Lib.hid (show ∀ w, (zeroValue 3).run Try.prog w = .ok (.int .i64 0) w from fun w => by kernel_rfl)
  obtain ⟨W, eW⟩ : ∃ W, W = w.alloc (.cells #[.slice q m.w.ns.length d, .slice q' m.w.es.length d'] 46) := ⟨_, rfl⟩
  have kW := Lib.hid (show Below w.heap.size w W by rw [eW]; exact (Below.refl _ _).alloc (Nat.le_refl _) _)
  have sW : w.heap.size < W.heap.size := by rw [eW]; simp
  have HKC := Lib.hid (fun (E : World) (hE : Chg [b] W E) => (⟨⟨hE.cellOf (by simp; omega) (by rw [eW]; simp [go_sem]), hE.cellOf (by simp; omega) (by rw [eW]; simp [go_sem])⟩, hE.cellOf (by simp; omega) (keepc kW.out hl1 hc1), hE.cellOf (by simp; omega) (keepc kW.out hl2 hc2)⟩ : (E.cell? ⟨w.heap.size, 0, none⟩ = some (.slice q m.w.ns.length d) ∧ E.cell? ⟨w.heap.size, 1, none⟩ = some (.slice q' m.w.es.length d')) ∧ E.cell? ⟨c1, 0, none⟩ = some (.map (some b)) ∧ E.cell? ⟨c2, 0, none⟩ = some (.int .i64 n)))
  have HIW := Lib.hid (hM.chg (G := []) (Chg.of_below kW.out []) (by simp))
  obtain ⟨Y, eY⟩ : ∃ Y, Y = endP m := ⟨_, rfl⟩
  have CE := Lib.hid (fun (E : World) (hE : Chg [b] W E) => (by rw [eY]; exact endsOf_any m (.agg #[.slice q m.w.ns.length d, .slice q' m.w.es.length d']) B E (HMA.out.to ((kW.out.mono hB).trans (hE.below (by omega) (by simp; exact hBb))) (Nat.le_refl _)) (by have := hE.size; omega) hs : Calls Try.prog 40 #[.agg #[.slice q m.w.ns.length d, .slice q' m.w.es.length d']] E (fun en w' => en = .returned (endV Y) ∧ Below E.heap.size E w')))
  rw [← eY] at hok ⊢
  have HP := Lib.hid hok
  have hcnt : S.count Y ≤ 1048576 := Nat.le_trans List.count_le_length hS
  have EW := Lib.hid eW
  have r0 : Chg [b] W W := Chg.refl _ _
  clear eW hc1 hc2 hM ha hb hs hok eY hS
  go_enter Try.func39, Try.ntmps39
  go_upto_region 1 with fail
  rw [← EW.out]
  refine wp_region_held_drew (S := fun w' => (w'.cell? ⟨w.heap.size, 0, none⟩ = some (.slice q m.w.ns.length d) ∧ w'.cell? ⟨w.heap.size, 1, none⟩ = some (.slice q' m.w.es.length d')) ∧ w'.cell? ⟨c1, 0, none⟩ = some (.map (some b)) ∧ w'.cell? ⟨c2, 0, none⟩ = some (.int .i64 n)) (by kernel_rfl) ?_ (fun hHeld => ?_)
  · exact HKC.out _ (show Chg [b] W _ by ((repeat (first | with_reducible assumption | with_reducible exact Chg.refl _ _ | refine Chg.alloc ?_ _ | refine Chg.drew ?_)); first | done | fail "chb"))
  (refine takeL (i := 0) (v := ?_) rfl (by kernel_rfl) (by kernel_rfl) (by kernel_rfl) (fun _ _ _ h => h) (Or.inl ⟨by kernel_rfl, ?_⟩) (by assumption) ?_; rotate_left; (focus (intro w hSw; (try dsimp only at hSw); go_simp; first | done | with_reducible rfl | fail "take")); (try simp only [Act.put, List.setIfInBounds_toArray, List.set_cons_zero, List.set_cons_succ]))
  (refine takeL (i := 1) (v := ?_) rfl (by kernel_rfl) (by kernel_rfl) (by kernel_rfl) (fun _ _ _ h => h) (Or.inl ⟨by kernel_rfl, ?_⟩) (by assumption) ?_; rotate_left; (focus (intro w hSw; (try dsimp only at hSw); go_simp; first | done | with_reducible rfl | fail "take")); (try simp only [Act.put, List.setIfInBounds_toArray, List.set_cons_zero, List.set_cons_succ]))
  (refine callL (i := 2) rfl (by kernel_rfl) (by kernel_rfl) (fun K hK => ?_); go_simp)
  go_at_call 40
  refine Calls.mono (CE.out _ (show Chg [b] W _ by ((repeat (first | with_reducible assumption | with_reducible exact Chg.refl _ _ | refine Chg.alloc ?_ _ | refine Chg.drew ?_)); first | done | fail "chb"))) ?_
  rintro en wa ⟨rfl, hb⟩
  have kwa : Chg [b] W wa := (show Chg [b] W _ by ((repeat (first | with_reducible assumption | with_reducible exact Chg.refl _ _ | refine Chg.alloc ?_ _ | refine Chg.drew ?_)); first | done | fail "chb")).trans (Chg.of_below hb [b])
  have HIa := Lib.hid (HIW.out.chg (G := []) ((Chg.drew (Chg.refl [] W)).trans (Chg.of_below hb [])) (by simp))
  clear hb
  go_wp2_with fail
  refine hK.out _ _ (HKC.out _ (show Chg [b] W _ by ((repeat (first | with_reducible assumption | with_reducible exact Chg.refl _ _ | refine Chg.alloc ?_ _ | refine Chg.drew ?_)); first | done | fail "chb"))) (fun hHeld => ?_)
  clear hK K
  (try simp only [Act.put, List.setIfInBounds_toArray, List.set_cons_zero, List.set_cons_succ])
  refine twoL (i := 3) (j := 5) rfl rfl (by kernel_rfl) (by kernel_rfl) (by kernel_rfl) (fun K hK => ?_) (fun K hK => ?_)
  · refine opwp_lookup rfl rfl rfl ((by have h := run_lookupI HT.out HZ.out HIa.out HP.out; rw [atM_cnt] at h; exact h)) ?_
    refine hK.out _ _ (HKC.out _ (show Chg [b] W _ by ((repeat (first | with_reducible assumption | with_reducible exact Chg.refl _ _ | refine Chg.alloc ?_ _ | refine Chg.drew ?_)); first | done | fail "chb"))) (fun hHeld => ?_)
    clear hK K
    (try simp only [Act.put, List.setIfInBounds_toArray, List.set_cons_zero, List.set_cons_succ])
    (refine takeL (i := 4) (v := ?_) rfl (by kernel_rfl) (by kernel_rfl) (by kernel_rfl) (fun _ _ _ h => h) (Or.inl ⟨by kernel_rfl, ?_⟩) (by assumption) ?_; rotate_left; (focus (intro w hSw; (try dsimp only at hSw); go_simp; first | done | with_reducible rfl | fail "take")); (try simp only [Act.put, List.setIfInBounds_toArray, List.set_cons_zero, List.set_cons_succ]))
    refine callL (i := 5) rfl (by kernel_rfl) (by kernel_rfl) (fun K hK => ?_)
    obtain ⟨st, w2, hrun, hI, hBn, hcg⟩ := run_entryI HT.out HZ.out (HIa.out) HP.out
    have kw2 : Chg [b] W w2 := (show Chg [b] W _ by ((repeat (first | with_reducible assumption | with_reducible exact Chg.refl _ _ | refine Chg.alloc ?_ _ | refine Chg.drew ?_)); first | done | fail "chb")).trans hcg
    have HI := Lib.hid hI
    have HBN := Lib.hid hBn
    refine opwp_entry rfl rfl rfl hrun ?_
    clear hrun hI hBn hcg
    refine hK.out _ _ (HKC.out _ (show Chg [b] W _ by ((repeat (first | with_reducible assumption | with_reducible exact Chg.refl _ _ | refine Chg.alloc ?_ _ | refine Chg.drew ?_)); first | done | fail "chb"))) (fun hHeld => ?_)
    clear hK K
    (try simp only [Act.put, List.setIfInBounds_toArray, List.set_cons_zero, List.set_cons_succ])
    (refine takeL (i := 6) (v := ?_) rfl (by kernel_rfl) (by kernel_rfl) (by kernel_rfl) (fun _ _ _ h => h) (Or.inl ⟨by kernel_rfl, ?_⟩) (by assumption) ?_; rotate_left; (focus (intro w hSw; (try dsimp only at hSw); go_simp; first | done | with_reducible rfl | fail "take")); (try simp only [Act.put, List.setIfInBounds_toArray, List.set_cons_zero, List.set_cons_succ]))
    refine callL (i := 7) rfl (by kernel_rfl) (by kernel_rfl) (fun K hK => ?_)
    obtain ⟨w3, hrun, hI, hcg⟩ := run_estoreI (t := 55) HI.out HBN.out (.int .i64 ((S.count Y : Int) + 1))
    have kw3 : Chg [b] W w3 := (show Chg [b] W _ by ((repeat (first | with_reducible assumption | with_reducible exact Chg.refl _ _ | refine Chg.alloc ?_ _ | refine Chg.drew ?_)); first | done | fail "chb")).trans hcg
    have HI2 := Lib.hid (show IMap w3 b (Y :: S) (cntV (Y :: S)) by have h := hI; rw [atM_cnt, cnt_upd] at h; exact h)
    refine opwp_estore rfl rfl rfl (by (first | exact congrArg (Value.int .i64) (IntWalk.i64_in _ (by omega)) | fail "val")) hrun ?_
    clear hrun hI hcg
    refine hK.out _ _ (HKC.out _ (show Chg [b] W _ by ((repeat (first | with_reducible assumption | with_reducible exact Chg.refl _ _ | refine Chg.alloc ?_ _ | refine Chg.drew ?_)); first | done | fail "chb"))) (fun hHeld => ?_)
    clear hK K
    simp only [Act.put]
    refine wpAnyH_done (by kernel_rfl) ?_ _
    go_wp2_with fail
    refine wp_region_held_drew (S := fun w' => (w'.cell? ⟨w.heap.size, 0, none⟩ = some (.slice q m.w.ns.length d) ∧ w'.cell? ⟨w.heap.size, 1, none⟩ = some (.slice q' m.w.es.length d')) ∧ w'.cell? ⟨c1, 0, none⟩ = some (.map (some b)) ∧ w'.cell? ⟨c2, 0, none⟩ = some (.int .i64 n)) (by kernel_rfl) ?_ (fun hHeld => ?_)
    · exact HKC.out _ (show Chg [b] W _ by ((repeat (first | with_reducible assumption | with_reducible exact Chg.refl _ _ | refine Chg.alloc ?_ _ | refine Chg.drew ?_)); first | done | fail "chb"))
    have k6 := HI2.out.chg (G := []) (Chg.drew (Chg.refl [] w3)) (by simp)
    (refine takeL (i := 0) (v := ?_) rfl (by kernel_rfl) (by kernel_rfl) (by kernel_rfl) (fun _ _ _ h => h) (Or.inl ⟨by kernel_rfl, ?_⟩) (by assumption) ?_; rotate_left; (focus (intro w hSw; (try dsimp only at hSw); go_simp; first | done | with_reducible rfl | fail "take")); (try simp only [Act.put, List.setIfInBounds_toArray, List.set_cons_zero, List.set_cons_succ]))
    (refine takeL (i := 1) (v := ?_) rfl (by kernel_rfl) (by kernel_rfl) (by kernel_rfl) (fun _ _ _ h => h) (Or.inl ⟨by kernel_rfl, ?_⟩) (by assumption) ?_; rotate_left; (focus (intro w hSw; (try dsimp only at hSw); go_simp; first | done | with_reducible rfl | fail "take")); (try simp only [Act.put, List.setIfInBounds_toArray, List.set_cons_zero, List.set_cons_succ]))
    (refine takeL (i := 4) (v := ?_) rfl (by kernel_rfl) (by kernel_rfl) (by kernel_rfl) (fun _ _ _ h => h) (Or.inl ⟨by kernel_rfl, ?_⟩) (by assumption) ?_; rotate_left; (focus (intro w hSw; (try dsimp only at hSw); go_simp; first | done | with_reducible rfl | fail "take")); (try simp only [Act.put, List.setIfInBounds_toArray, List.set_cons_zero, List.set_cons_succ]))
    (refine callL (i := 2) rfl (by kernel_rfl) (by kernel_rfl) (fun K hK => ?_); go_simp)
    go_at_call 40
    refine Calls.mono (CE.out _ (show Chg [b] W _ by ((repeat (first | with_reducible assumption | with_reducible exact Chg.refl _ _ | refine Chg.alloc ?_ _ | refine Chg.drew ?_)); first | done | fail "chb"))) ?_
    rintro en wb ⟨rfl, hb⟩
    have kwb : Chg [b] W wb := (show Chg [b] W _ by ((repeat (first | with_reducible assumption | with_reducible exact Chg.refl _ _ | refine Chg.alloc ?_ _ | refine Chg.drew ?_)); first | done | fail "chb")).trans (Chg.of_below hb [b])
    have HI3 := Lib.hid (HI2.out.chg (G := []) ((Chg.drew (Chg.refl [] w3)).trans (Chg.of_below hb [])) (by simp))
    clear hb
    go_wp2_with fail
    refine hK.out _ _ (HKC.out _ (show Chg [b] W _ by ((repeat (first | with_reducible assumption | with_reducible exact Chg.refl _ _ | refine Chg.alloc ?_ _ | refine Chg.drew ?_)); first | done | fail "chb"))) (fun hHeld => ?_)
    clear hK K
    (try simp only [Act.put, List.setIfInBounds_toArray, List.set_cons_zero, List.set_cons_succ])
    refine callL (i := 3) rfl (by kernel_rfl) (by kernel_rfl) (fun K hK => ?_)
    refine opwp_lookup rfl rfl rfl ((by have h := run_lookupI HT.out HZ.out HI3.out HP.out; rw [atM_cnt] at h; exact h)) ?_
    refine hK.out _ _ (HKC.out _ (show Chg [b] W _ by ((repeat (first | with_reducible assumption | with_reducible exact Chg.refl _ _ | refine Chg.alloc ?_ _ | refine Chg.drew ?_)); first | done | fail "chb"))) (fun hHeld => ?_)
    clear hK K
    (try simp only [Act.put, List.setIfInBounds_toArray, List.set_cons_zero, List.set_cons_succ])
    (refine takeL (i := 5) (v := ?_) rfl (by kernel_rfl) (by kernel_rfl) (by kernel_rfl) (fun _ _ _ h => h) (Or.inl ⟨by kernel_rfl, ?_⟩) (by assumption) ?_; rotate_left; (focus (intro w hSw; (try dsimp only at hSw); go_simp; first | done | with_reducible rfl | fail "take")); (try simp only [Act.put, List.setIfInBounds_toArray, List.set_cons_zero, List.set_cons_succ]))
    (refine takeL (i := 6) (v := ?_) rfl (by kernel_rfl) (by kernel_rfl) (by kernel_rfl) (fun _ _ _ h => h) (Or.inl ⟨by kernel_rfl, ?_⟩) (by assumption) ?_; rotate_left; (focus (intro w hSw; (try dsimp only at hSw); go_simp; first | done | with_reducible rfl | fail "take")); (try simp only [Act.put, List.setIfInBounds_toArray, List.set_cons_zero, List.set_cons_succ]))
    refine wpAnyH_done (by kernel_rfl) ?_ _
    have hcc : (List.count Y (Y :: S) : Int) = (S.count Y : Int) + 1 := by simp
    go_wp2_with fail
    go_ret
    exact ⟨ret_bool rfl, HI3.out, (Chg.of_below kW.out [b]).trans kwb⟩
  · obtain ⟨st, w2, hrun, hI, hBn, hcg⟩ := run_entryI HT.out HZ.out (HIa.out) HP.out
    have kw2 : Chg [b] W w2 := (show Chg [b] W _ by ((repeat (first | with_reducible assumption | with_reducible exact Chg.refl _ _ | refine Chg.alloc ?_ _ | refine Chg.drew ?_)); first | done | fail "chb")).trans hcg
    have HI := Lib.hid hI
    have HBN := Lib.hid hBn
    refine opwp_entry rfl rfl rfl hrun ?_
    clear hrun hI hBn hcg
    refine hK.out _ _ (HKC.out _ (show Chg [b] W _ by ((repeat (first | with_reducible assumption | with_reducible exact Chg.refl _ _ | refine Chg.alloc ?_ _ | refine Chg.drew ?_)); first | done | fail "chb"))) (fun hHeld => ?_)
    clear hK K
    (try simp only [Act.put, List.setIfInBounds_toArray, List.set_cons_zero, List.set_cons_succ])
    (refine takeL (i := 6) (v := ?_) rfl (by kernel_rfl) (by kernel_rfl) (by kernel_rfl) (fun _ _ _ h => h) (Or.inl ⟨by kernel_rfl, ?_⟩) (by assumption) ?_; rotate_left; (focus (intro w hSw; (try dsimp only at hSw); go_simp; first | done | with_reducible rfl | fail "take")); (try simp only [Act.put, List.setIfInBounds_toArray, List.set_cons_zero, List.set_cons_succ]))
    refine callL (i := 3) rfl (by kernel_rfl) (by kernel_rfl) (fun K hK => ?_)
    refine opwp_lookup rfl rfl rfl ((by have h := run_lookupI HT.out HZ.out HI.out HP.out; rw [atM_upd, atM_cnt] at h; exact h)) ?_
    refine hK.out _ _ (HKC.out _ (show Chg [b] W _ by ((repeat (first | with_reducible assumption | with_reducible exact Chg.refl _ _ | refine Chg.alloc ?_ _ | refine Chg.drew ?_)); first | done | fail "chb"))) (fun hHeld => ?_)
    clear hK K
    (try simp only [Act.put, List.setIfInBounds_toArray, List.set_cons_zero, List.set_cons_succ])
    (refine takeL (i := 4) (v := ?_) rfl (by kernel_rfl) (by kernel_rfl) (by kernel_rfl) (fun _ _ _ h => h) (Or.inl ⟨by kernel_rfl, ?_⟩) (by assumption) ?_; rotate_left; (focus (intro w hSw; (try dsimp only at hSw); go_simp; first | done | with_reducible rfl | fail "take")); (try simp only [Act.put, List.setIfInBounds_toArray, List.set_cons_zero, List.set_cons_succ]))
    refine callL (i := 7) rfl (by kernel_rfl) (by kernel_rfl) (fun K hK => ?_)
    obtain ⟨w3, hrun, hI, hcg⟩ := run_estoreI (t := 55) HI.out HBN.out (.int .i64 ((S.count Y : Int) + 1))
    have kw3 : Chg [b] W w3 := (show Chg [b] W _ by ((repeat (first | with_reducible assumption | with_reducible exact Chg.refl _ _ | refine Chg.alloc ?_ _ | refine Chg.drew ?_)); first | done | fail "chb")).trans hcg
    have HI2 := Lib.hid (show IMap w3 b (Y :: S) (cntV (Y :: S)) by have h := hI; rw [atM_cnt, cnt_upd] at h; exact h)
    refine opwp_estore rfl rfl rfl (by (first | exact congrArg (Value.int .i64) (IntWalk.i64_in _ (by omega)) | fail "val")) hrun ?_
    clear hrun hI hcg
    refine hK.out _ _ (HKC.out _ (show Chg [b] W _ by ((repeat (first | with_reducible assumption | with_reducible exact Chg.refl _ _ | refine Chg.alloc ?_ _ | refine Chg.drew ?_)); first | done | fail "chb"))) (fun hHeld => ?_)
    clear hK K
    simp only [Act.put]
    refine wpAnyH_done (by kernel_rfl) ?_ _
    go_wp2_with fail
    refine wp_region_held_drew (S := fun w' => (w'.cell? ⟨w.heap.size, 0, none⟩ = some (.slice q m.w.ns.length d) ∧ w'.cell? ⟨w.heap.size, 1, none⟩ = some (.slice q' m.w.es.length d')) ∧ w'.cell? ⟨c1, 0, none⟩ = some (.map (some b)) ∧ w'.cell? ⟨c2, 0, none⟩ = some (.int .i64 n)) (by kernel_rfl) ?_ (fun hHeld => ?_)
    · exact HKC.out _ (show Chg [b] W _ by ((repeat (first | with_reducible assumption | with_reducible exact Chg.refl _ _ | refine Chg.alloc ?_ _ | refine Chg.drew ?_)); first | done | fail "chb"))
    have k6 := HI2.out.chg (G := []) (Chg.drew (Chg.refl [] w3)) (by simp)
    (refine takeL (i := 0) (v := ?_) rfl (by kernel_rfl) (by kernel_rfl) (by kernel_rfl) (fun _ _ _ h => h) (Or.inl ⟨by kernel_rfl, ?_⟩) (by assumption) ?_; rotate_left; (focus (intro w hSw; (try dsimp only at hSw); go_simp; first | done | with_reducible rfl | fail "take")); (try simp only [Act.put, List.setIfInBounds_toArray, List.set_cons_zero, List.set_cons_succ]))
    (refine takeL (i := 1) (v := ?_) rfl (by kernel_rfl) (by kernel_rfl) (by kernel_rfl) (fun _ _ _ h => h) (Or.inl ⟨by kernel_rfl, ?_⟩) (by assumption) ?_; rotate_left; (focus (intro w hSw; (try dsimp only at hSw); go_simp; first | done | with_reducible rfl | fail "take")); (try simp only [Act.put, List.setIfInBounds_toArray, List.set_cons_zero, List.set_cons_succ]))
    (refine takeL (i := 4) (v := ?_) rfl (by kernel_rfl) (by kernel_rfl) (by kernel_rfl) (fun _ _ _ h => h) (Or.inl ⟨by kernel_rfl, ?_⟩) (by assumption) ?_; rotate_left; (focus (intro w hSw; (try dsimp only at hSw); go_simp; first | done | with_reducible rfl | fail "take")); (try simp only [Act.put, List.setIfInBounds_toArray, List.set_cons_zero, List.set_cons_succ]))
    (refine callL (i := 2) rfl (by kernel_rfl) (by kernel_rfl) (fun K hK => ?_); go_simp)
    go_at_call 40
    refine Calls.mono (CE.out _ (show Chg [b] W _ by ((repeat (first | with_reducible assumption | with_reducible exact Chg.refl _ _ | refine Chg.alloc ?_ _ | refine Chg.drew ?_)); first | done | fail "chb"))) ?_
    rintro en wb ⟨rfl, hb⟩
    have kwb : Chg [b] W wb := (show Chg [b] W _ by ((repeat (first | with_reducible assumption | with_reducible exact Chg.refl _ _ | refine Chg.alloc ?_ _ | refine Chg.drew ?_)); first | done | fail "chb")).trans (Chg.of_below hb [b])
    have HI3 := Lib.hid (HI2.out.chg (G := []) ((Chg.drew (Chg.refl [] w3)).trans (Chg.of_below hb [])) (by simp))
    clear hb
    go_wp2_with fail
    refine hK.out _ _ (HKC.out _ (show Chg [b] W _ by ((repeat (first | with_reducible assumption | with_reducible exact Chg.refl _ _ | refine Chg.alloc ?_ _ | refine Chg.drew ?_)); first | done | fail "chb"))) (fun hHeld => ?_)
    clear hK K
    (try simp only [Act.put, List.setIfInBounds_toArray, List.set_cons_zero, List.set_cons_succ])
    refine callL (i := 3) rfl (by kernel_rfl) (by kernel_rfl) (fun K hK => ?_)
    refine opwp_lookup rfl rfl rfl ((by have h := run_lookupI HT.out HZ.out HI3.out HP.out; rw [atM_cnt] at h; exact h)) ?_
    refine hK.out _ _ (HKC.out _ (show Chg [b] W _ by ((repeat (first | with_reducible assumption | with_reducible exact Chg.refl _ _ | refine Chg.alloc ?_ _ | refine Chg.drew ?_)); first | done | fail "chb"))) (fun hHeld => ?_)
    clear hK K
    (try simp only [Act.put, List.setIfInBounds_toArray, List.set_cons_zero, List.set_cons_succ])
    (refine takeL (i := 5) (v := ?_) rfl (by kernel_rfl) (by kernel_rfl) (by kernel_rfl) (fun _ _ _ h => h) (Or.inl ⟨by kernel_rfl, ?_⟩) (by assumption) ?_; rotate_left; (focus (intro w hSw; (try dsimp only at hSw); go_simp; first | done | with_reducible rfl | fail "take")); (try simp only [Act.put, List.setIfInBounds_toArray, List.set_cons_zero, List.set_cons_succ]))
    (refine takeL (i := 6) (v := ?_) rfl (by kernel_rfl) (by kernel_rfl) (by kernel_rfl) (fun _ _ _ h => h) (Or.inl ⟨by kernel_rfl, ?_⟩) (by assumption) ?_; rotate_left; (focus (intro w hSw; (try dsimp only at hSw); go_simp; first | done | with_reducible rfl | fail "take")); (try simp only [Act.put, List.setIfInBounds_toArray, List.set_cons_zero, List.set_cons_succ]))
    refine wpAnyH_done (by kernel_rfl) ?_ _
    have hcc : (List.count Y (Y :: S) : Int) = (S.count Y : Int) + 1 := by simp
    go_wp2_with fail
    go_ret
    exact ⟨ret_bool rfl, HI3.out, (Chg.of_below kW.out [b]).trans kwb⟩
end Go.Proofs.Ytbpihiholbidlaa
namespace Go.Proofs.Ytbpihiholbidlaa
open Go.RowKit

theorem endP_ok {m : Mt} (h : m.Ok) (hp : 0 < m.w.ns.length) : Pairs64 (endP m) := by
  rw [endP_at hp]
  exact ⟨h.1.1 _ (List.getElem_mem _), h.1.1 _ (List.getElem_mem _)⟩
theorem chg_app {w w1 E E' : World} {F : List Nat} {b : Nat} (hc : Chg [b] w w1) (hE : Below w1.heap.size w1 E) (h3 : Chg F E E') (hF : ∀ y ∈ F, w.heap.size ≤ y) : Chg [b] w E' :=
  (hc.trans (Chg.of_below hE [b])).past h3 (fun y hy => .inr (hF y hy))
theorem imap_app {w1 E E' : World} {F : List Nat} {b : Nat} {S : List (Int × Int)} {g : Int × Int → Value} (h : IMap w1 b S g) (hE : Below w1.heap.size w1 E) (h3 : Chg F E E') (hb : b ∉ F) : IMap E' b S g :=
  (h.chg (G := []) (Chg.of_below hE []) (by simp)).chg h3 hb

set_option maxRecDepth 100000 in
set_option maxHeartbeats 4000000 in
theorem pickFirst_any (xs : List Mt) (v : Value) (n : Int) (a1 a2 b0 : Nat) (B : Nat) (w : World) (hv : kMt.Rd B w v xs) (hB : B ≤ w.heap.size) (hn : xs.length + sumMt xs ≤ 1048576) (hsh : xs.all shP = true) (hok : ∀ x ∈ xs, x.Ok) (hc1 : w.cell? ⟨a1, 0, none⟩ = some (.map (some b0))) (hc2 : w.cell? ⟨a2, 0, none⟩ = some (.int .i64 n)) (h1b : a1 ≠ b0) (h2b : a2 ≠ b0) (hBb : B ≤ b0) (hM : IMap w b0 [] (cntV [])) :
    Calls Try.prog 38 #[v, .func (.func 39) #[] #[.pointer (some ⟨a1, 0, none⟩), .pointer (some ⟨a2, 0, none⟩)]] w fun e w' => ∃ v' F, e = .returned v' ∧ kMt.Ow w' v' (accR (firstP n xs) xs xs.length) F ∧ (∀ y ∈ F, w.heap.size ≤ y) ∧ Chg [b0] w w' := by
  obtain ⟨p, cap, rfl⟩ := hv.form
  obtain ⟨_, hm1, hm2⟩ := hv.max
  unfold maxLen at hm2
  have HV := Lib.hid hv
  have HSH := Lib.hid (List.all_eq_true.1 hsh)
  have hcl1 := World.block_lt_of_cell? w _ hc1
  have hcl2 := World.block_lt_of_cell? w _ hc2
  have hbl := hM.lt
  have HC1 := Lib.hid (fun (E : World) (hE : Chg [b0] w E) => (⟨hE.cellOf (by simp; omega) hc1, hE.cellOf (by simp; omega) hc2⟩ : E.cell? ⟨a1, 0, none⟩ = some (.map (some b0)) ∧ E.cell? ⟨a2, 0, none⟩ = some (.int .i64 n)))
  have HBE := Lib.hid (fun (E : World) (hE : Chg [b0] w E) => hE.below (B := B) hB (by simp; exact hBb))
  have HOK := Lib.hid hok
  clear hc1 hc2 hok
  clear hv hsh
  go_enter Try.func38, Try.ntmps38
  go_wp2_with fail
  go_loopw [5, 10] (fun cp i wr => ∃ (k : Nat) (F : List Nat), k ≤ xs.length ∧ i = .int .i64 k ∧ RowKit.Hid (kMt.OwB 49 wr cp (accR (firstP n xs) xs k) F) ∧ RowKit.Hid (∀ y ∈ F, w.heap.size ≤ y) ∧ RowKit.Hid (IMap wr b0 ((xs.take k).map endP).reverse (cntV ((xs.take k).map endP).reverse)) ∧ RowKit.Hid (Chg [b0] w wr)) (fun _ i _ => xs.length - (intOf i).toNat)
  case atStart => exact ⟨0, [], Nat.zero_le _, rfl, Lib.hid (Kd.OwB.nil kMt _ _ _), Lib.hid (by simp), Lib.hid (by simpa using hM), Lib.hid (Chg.refl _ _)⟩
  case round =>
    obtain ⟨k, F, hk, rfl, HO, HF, HMP, HB⟩ := hrel
    have hsz := HB.out.size
    by_cases hlt : k < xs.length
    · obtain ⟨b, off, q, d, q', d', r, e, rfl, hb, c0, c1, c2, hin⟩ := kMt_get (HV.out.to (HBE.out _ HB.out) (Nat.le_refl _)) hlt
      have hsize := sumMt_get xs k hlt
      have hsx := HSH.out _ (List.getElem_mem hlt)
      have hp := firstP_at (n := n) hlt
      have hokx := HOK.out _ (List.getElem_mem hlt)
      have hS1 : endP xs[k] :: ((xs.take k).map endP).reverse = ((xs.take (k + 1)).map endP).reverse := by
        rw [List.take_succ_eq_append_getElem hlt, List.map_append, List.reverse_append]; rfl
      have hct : List.count (endP xs[k]) ((xs.take k).map endP).reverse = befN xs (endP xs[k]) k := by rw [List.count_reverse]; rfl
      have hlen : ((xs.take k).map endP).reverse.length ≤ 1048576 := by simp; omega
      have hyes := fun (h : firstP n xs k = true) (w' : World) (v' : Value) (F' : List Nat) (ho : kMt.OwB 49 w' v' (accR (firstP n xs) xs k ++ [xs[k]]) F') => (accR_yes hlt h ▸ ho : kMt.OwB 49 w' v' (accR (firstP n xs) xs (k + 1)) F')
      have hno := fun (h : firstP n xs k = false) (w' : World) (v' : Value) (F' : List Nat) (ho : kMt.OwB 49 w' v' (accR (firstP n xs) xs k) F') => (accR_no hlt h ▸ ho : kMt.OwB 49 w' v' (accR (firstP n xs) xs (k + 1)) F')
      have HLE := Lib.hid (show (accR (firstP n xs) xs k).length ≤ 1048576 from Nat.le_trans (accR_len _ _ _) (by omega))
      have hkl : (k : Int) < (xs.length : Int) := by omega
      obtain ⟨x, ex⟩ : ∃ x, x = xs[k] := ⟨_, rfl⟩
      rw [← ex] at c0 c1 c2 hin hsize hsx hyes hp hokx hS1 hct
      have hp64 : Pairs64 (endP x) := endP_ok hokx (shP_pos hsx)
      obtain ⟨S, eS⟩ : ∃ S, S = ((xs.take k).map endP).reverse := ⟨_, rfl⟩
      rw [← eS] at hS1 hct hlen HMP
      have HP := Lib.hid (show firstP n xs k = decide ((S.count (endP x) : Int) + 1 ≤ n) by rw [hp, hct]; exact decide_eq_decide.2 (by omega))
      have HS1 := Lib.hid hS1
      have HIN := Lib.hid hin
      have HIW := Lib.hid (show x.w.At B wr (.agg #[.slice q x.w.ns.length d, .slice q' x.w.es.length d']) ∧ kBn.Rd B wr (.slice r x.bs.length e) x.bs from by obtain ⟨a1, a2, a3, e1, h1, h2, h3⟩ := hin; cases e1; exact ⟨⟨_, _, rfl, h1, h2⟩, h3⟩)
      have HYES := Lib.hid hyes
      have HNO := Lib.hid hno
      have hn1 : x.w.need ≤ 1048576 := by unfold Mt.need at hsize; omega
      have hn2 : x.bs.length + sumBn x.bs ≤ 1048576 := by unfold Mt.need at hsize; omega
      have HSX := Lib.hid hsx
      clear ex hin hsize hyes hno hsx hp hokx hS1 hct eS
      obtain ⟨W, eW⟩ : ∃ W, W = wr.alloc (.cells #[.slice q x.w.ns.length d, .slice q' x.w.es.length d', .slice r x.bs.length e] 49) := ⟨_, rfl⟩
      have kW : Below wr.heap.size wr W := by rw [eW]; exact (Below.refl _ _).alloc (Nat.le_refl _) _
      have sW : wr.heap.size < W.heap.size := by rw [eW]; simp
      have HK := Lib.hid (fun (E : World) (hE : Below W.heap.size W E) => (⟨keepc hE sW (by rw [eW]; simp [go_sem]), keepc hE sW (by rw [eW]; simp [go_sem]), keepc hE sW (by rw [eW]; simp [go_sem])⟩ : E.cell? ⟨wr.heap.size, 0, none⟩ = some (.slice q x.w.ns.length d) ∧ E.cell? ⟨wr.heap.size, 1, none⟩ = some (.slice q' x.w.es.length d') ∧ E.cell? ⟨wr.heap.size, 2, none⟩ = some (.slice r x.bs.length e)))
      have EW := Lib.hid eW
      have kWw : Chg [b0] w W := HB.out.trans (Chg.of_below kW [b0])
      have hb0W : b0 < W.heap.size := by omega
      clear eW
      go_upto_region 5 with fail
      rw [← EW.out]
      obtain ⟨m0, m1, m2⟩ := HK.out _ (Below.refl _ _)
      go_wp2_with fail
      refine (firstFn_any x _ n a1 a2 b0 S B W (HIW.out.1.to (kW.mono (by omega)) (Nat.le_refl _)) (by omega) HSX.out hp64 (HC1.out W kWw).1 (HC1.out W kWw).2 h1b h2b hBb (HMP.out.chg (G := []) (Chg.of_below kW []) (by simp)) hlen).mono ?_
      rintro en w1 ⟨rfl, hI, hc1⟩
      have HIM := Lib.hid (show IMap w1 b0 ((xs.take (k + 1)).map endP).reverse (cntV ((xs.take (k + 1)).map endP).reverse) by rw [← HS1.out]; exact hI)
      have s1 := hc1.size
      have r9 : Chg [b0] wr w1 := (Chg.of_below kW [b0]).trans hc1
      have HC9 := Lib.hid (show Chg [b0] w w1 from kWw.trans hc1)
      have HX1 := Lib.hid (HK.out _ (Below.refl _ _))
      have HK1 := Lib.hid (fun (E : World) (hE : Below w1.heap.size w1 E) => (⟨keepc hE (by omega) (hc1.cellOf (by simp; omega) HX1.out.1), keepc hE (by omega) (hc1.cellOf (by simp; omega) HX1.out.2.1), keepc hE (by omega) (hc1.cellOf (by simp; omega) HX1.out.2.2)⟩ : E.cell? ⟨wr.heap.size, 0, none⟩ = some (.slice q x.w.ns.length d) ∧ E.cell? ⟨wr.heap.size, 1, none⟩ = some (.slice q' x.w.es.length d') ∧ E.cell? ⟨wr.heap.size, 2, none⟩ = some (.slice r x.bs.length e)))
      have HBB := Lib.hid (show Below B wr w1 from r9.below (by omega) (by simp; exact hBb))
      have HO9 := Lib.hid (HO.out.chg r9 (fun y hy => by have := HF.out y hy; simp; omega))
      clear hI hc1 m0 m1 m2
      obtain ⟨m0, m1, m2⟩ := HK1.out _ (Below.refl _ _)
      have hq1 : wr.heap.size < w1.heap.size := by omega
      cases hp : decide ((S.count (endP x) : Int) + 1 ≤ n) with
      | false =>
        have HN := Lib.hid (HNO.out (HP.out.trans hp) _ _ _ HO9.out)
        clear hp
        go_wp2_with fail
        go_roundw
        case rel => exact ⟨k + 1, F, by omega, by go_num, HN, HF, HIM, HC9⟩
        case measure => simp [intOf]; omega
      | true =>
        have HY := Lib.hid (HYES.out (HP.out.trans hp))
        clear hp
        have HKK := HK1
        have CW := Lib.hid (fun (E : World) (hE : Below w1.heap.size w1 E) => ((extendWalk_any x.w [] [] (.agg #[.slice q x.w.ns.length d, .slice q' x.w.es.length d']) (.slice none 0 0) (.slice none 0 0) B E (HIW.out.1.to (HBB.out.trans (hE.mono (by omega))) (Nat.le_refl _)) ⟨none, 0, 0, rfl, rfl, Nat.le_refl _, Nat.zero_le _, fun i hi => by simp at hi⟩ ⟨none, 0, 0, rfl, rfl, Nat.le_refl _, Nat.zero_le _, fun i hi => by simp at hi⟩ (by have := hE.size; omega) hn1 (by simp) (by simp)).mono (fun en w' ⟨v', G, e1, ho, hG, hb⟩ => by
          rw [wkExt_nil] at ho
          obtain ⟨pA, cA, qA, dA, rfl⟩ := ho.at.form
          exact ⟨pA, cA, qA, dA, G, e1, ho, fun y hy => Nat.le_trans hE.size (hG y hy), hb⟩) : Calls Try.prog 61 #[.agg #[.slice q x.w.ns.length d, .slice q' x.w.es.length d'], .slice none 0 0, .slice none 0 0] E (fun en w' => ∃ (pA : Option Addr) (cA : Nat) (qA : Option Addr) (dA : Nat) (G : List Nat), en = .returned (.agg #[.slice pA x.w.ns.length cA, .slice qA x.w.es.length dA]) ∧ x.w.Has (.agg #[.slice pA x.w.ns.length cA, .slice qA x.w.es.length dA]) G w' ∧ (∀ y ∈ G, w1.heap.size ≤ y) ∧ Below E.heap.size E w')))
        have CB := Lib.hid (fun (E : World) (hE : Below w1.heap.size w1 E) => copyBinds_any x.bs (.slice r x.bs.length e) B E (HIW.out.2.to (HBB.out.trans (hE.mono (by omega))) (Nat.le_refl _)) (by have := hE.size; omega) hn2)
        have HO1 := HO9
        have CM := Lib.hid (fun (E : World) (hE : Below w1.heap.size w1 E) (ty : TypeId) => appMatch (HO1.out.below hE) ty x)
        have rr := Below.refl w1.heap.size w1
        have hs9 : w.heap.size ≤ w1.heap.size := HC9.out.size
        have hbn : b0 < w1.heap.size := by omega
        go_upto_region 6 with fail
        go_region_held3 (fun w' => w'.cell? ⟨wr.heap.size, 0, none⟩ = some (.slice q x.w.ns.length d) ∧ w'.cell? ⟨wr.heap.size, 1, none⟩ = some (.slice q' x.w.es.length d') ∧ w'.cell? ⟨wr.heap.size, 2, none⟩ = some (.slice r x.bs.length e))
          (first | exact hk9 | exact HKK.out _ (show Below w1.heap.size w1 _ by ((repeat (first | with_reducible assumption | with_reducible exact Below.refl _ _ | refine Below.setCell ?_ (by (first | omega | (simp; omega) | (simp; done) | fail "sml")) _ | refine Below.drew ?_ | refine Below.alloc ?_ (by (first | omega | (simp; omega) | (simp; done) | fail "sml")) _)); first | done | fail "chs")))
          (first
            | (go_at_call 61; with_reducible refine (CW.out _ (show Below w1.heap.size w1 _ by ((repeat (first | with_reducible assumption | with_reducible exact Below.refl _ _ | refine Below.setCell ?_ (by (first | omega | (simp; omega) | (simp; done) | fail "sml")) _ | refine Below.drew ?_ | refine Below.alloc ?_ (by (first | omega | (simp; omega) | (simp; done) | fail "sml")) _)); first | done | fail "chs"))).mono ?_; rintro en wA ⟨pA, cA, qA, dA, FA, rfl, ho, hF, hb⟩; have kA := Below.trans (show Below w1.heap.size w1 _ by ((repeat (first | with_reducible assumption | with_reducible exact Below.refl _ _ | refine Below.setCell ?_ (by (first | omega | (simp; omega) | (simp; done) | fail "sml")) _ | refine Below.drew ?_ | refine Below.alloc ?_ (by (first | omega | (simp; omega) | (simp; done) | fail "sml")) _)); first | done | fail "chs")) (hb.mono (by (first | omega | (simp; omega) | (simp; done) | fail "sml"))); have zA := kA.size; have rA := Below.refl wA.heap.size wA; have HWA := Lib.hid ho; have GA := Lib.hid hF; clear ho hF hb)
            | (go_at_call 62; with_reducible refine (CB.out _ (show Below w1.heap.size w1 _ by ((repeat (first | with_reducible assumption | with_reducible exact Below.refl _ _ | refine Below.setCell ?_ (by (first | omega | (simp; omega) | (simp; done) | fail "sml")) _ | refine Below.drew ?_ | refine Below.alloc ?_ (by (first | omega | (simp; omega) | (simp; done) | fail "sml")) _)); first | done | fail "chs"))).mono ?_; rintro en wB ⟨u, FB, rfl, ho, hF, hb⟩; obtain ⟨pB, cB, rfl⟩ := ho.form; have kB := Below.trans (show Below w1.heap.size w1 _ by ((repeat (first | with_reducible assumption | with_reducible exact Below.refl _ _ | refine Below.setCell ?_ (by (first | omega | (simp; omega) | (simp; done) | fail "sml")) _ | refine Below.drew ?_ | refine Below.alloc ?_ (by (first | omega | (simp; omega) | (simp; done) | fail "sml")) _)); first | done | fail "chs")) (hb.mono (by (first | omega | (simp; omega) | (simp; done) | fail "sml"))); have zB := kB.size; have rB := Below.refl wB.heap.size wB; have sB := Below.trans (show Below wA.heap.size wA _ by ((repeat (first | with_reducible assumption | with_reducible exact Below.refl _ _ | refine Below.setCell ?_ (by (first | omega | (simp; omega) | (simp; done) | fail "sml")) _ | refine Below.drew ?_ | refine Below.alloc ?_ (by (first | omega | (simp; omega) | (simp; done) | fail "sml")) _)); first | done | fail "chs")) (hb.mono (by (first | omega | (simp; omega) | (simp; done) | fail "sml"))); have GB0 := (fun y hy => Nat.le_trans (show Below wA.heap.size wA _ by ((repeat (first | with_reducible assumption | with_reducible exact Below.refl _ _ | refine Below.setCell ?_ (by (first | omega | (simp; omega) | (simp; done) | fail "sml")) _ | refine Below.drew ?_ | refine Below.alloc ?_ (by (first | omega | (simp; omega) | (simp; done) | fail "sml")) _)); first | done | fail "chs")).size (hF y hy)); have HMB := Lib.hid (Mt.has_mk (HWA.out.chg (Chg.of_below sB []) (by simp)) ho (fun y hy hy2 => by have := HWA.out.lt y hy; have := GB0 y hy2; omega)); have GB := Lib.hid (show ∀ y ∈ FA ++ FB, w1.heap.size ≤ y from fun y hy => by rcases List.mem_append.1 hy with h | h; exact GA.out y h; exact Nat.le_trans zA (GB0 y h)); clear ho hF hb GB0)
            | (refine step_app_src (by rfl) (.tmp 18) (.tmp 26) 24 (by rfl) _ _ (by rfl) (by rfl) _ (CM.out _ (show Below w1.heap.size w1 _ by ((repeat (first | with_reducible assumption | with_reducible exact Below.refl _ _ | refine Below.setCell ?_ (by (first | omega | (simp; omega) | (simp; done) | fail "sml")) _ | refine Below.drew ?_ | refine Below.alloc ?_ (by (first | omega | (simp; omega) | (simp; done) | fail "sml")) _)); first | done | fail "chs")) _ pA cA qA dA pB cB (FA ++ FB) _ _ (HMB.out.chg (Chg.of_below (show Below wB.heap.size wB _ by ((repeat (first | with_reducible assumption | with_reducible exact Below.refl _ _ | refine Below.setCell ?_ (by (first | omega | (simp; omega) | (simp; done) | fail "sml")) _ | refine Below.drew ?_ | refine Below.alloc ?_ (by (first | omega | (simp; omega) | (simp; done) | fail "sml")) _)); first | done | fail "chs")) []) (by simp)) (fun y hy hy2 => by have := HO1.out.lt y hy; have := GB.out y hy2; omega) (by simp [go_sem]) (by simp [go_sem]) (by simp [go_sem]) HLE.out) ?_; intro vC wC hv; obtain ⟨F', h1, h2, h3⟩ := hv; have hB9 := Lib.hid (chg_app HC9.out (show Below w1.heap.size w1 _ by ((repeat (first | with_reducible assumption | with_reducible exact Below.refl _ _ | refine Below.setCell ?_ (by (first | omega | (simp; omega) | (simp; done) | fail "sml")) _ | refine Below.drew ?_ | refine Below.alloc ?_ (by (first | omega | (simp; omega) | (simp; done) | fail "sml")) _)); first | done | fail "chs")) h3 HF.out); have hM9 := Lib.hid (imap_app HIM.out (show Below w1.heap.size w1 _ by ((repeat (first | with_reducible assumption | with_reducible exact Below.refl _ _ | refine Below.setCell ?_ (by (first | omega | (simp; omega) | (simp; done) | fail "sml")) _ | refine Below.drew ?_ | refine Below.alloc ?_ (by (first | omega | (simp; omega) | (simp; done) | fail "sml")) _)); first | done | fail "chs")) h3 (fun hy => by have := HF.out _ hy; omega)); have hF9 := Lib.hid (ge_app hs9 (show Below w1.heap.size w1 _ by ((repeat (first | with_reducible assumption | with_reducible exact Below.refl _ _ | refine Below.setCell ?_ (by (first | omega | (simp; omega) | (simp; done) | fail "sml")) _ | refine Below.drew ?_ | refine Below.alloc ?_ (by (first | omega | (simp; omega) | (simp; done) | fail "sml")) _)); first | done | fail "chs")) h2 HF.out GB.out); have hO9 := Lib.hid (HY.out _ _ _ h1); have hk9 := (show wC.cell? ⟨wr.heap.size, 0, none⟩ = some (.slice q x.w.ns.length d) ∧ wC.cell? ⟨wr.heap.size, 1, none⟩ = some (.slice q' x.w.es.length d') ∧ wC.cell? ⟨wr.heap.size, 2, none⟩ = some (.slice r x.bs.length e) from ⟨h3.cellOf (fun hy => absurd (HO.out.lt _ hy) (by omega)) (HKK.out _ (show Below w1.heap.size w1 _ by ((repeat (first | with_reducible assumption | with_reducible exact Below.refl _ _ | refine Below.setCell ?_ (by (first | omega | (simp; omega) | (simp; done) | fail "sml")) _ | refine Below.drew ?_ | refine Below.alloc ?_ (by (first | omega | (simp; omega) | (simp; done) | fail "sml")) _)); first | done | fail "chs"))).1, h3.cellOf (fun hy => absurd (HO.out.lt _ hy) (by omega)) (HKK.out _ (show Below w1.heap.size w1 _ by ((repeat (first | with_reducible assumption | with_reducible exact Below.refl _ _ | refine Below.setCell ?_ (by (first | omega | (simp; omega) | (simp; done) | fail "sml")) _ | refine Below.drew ?_ | refine Below.alloc ?_ (by (first | omega | (simp; omega) | (simp; done) | fail "sml")) _)); first | done | fail "chs"))).2.1, h3.cellOf (fun hy => absurd (HO.out.lt _ hy) (by omega)) (HKK.out _ (show Below w1.heap.size w1 _ by ((repeat (first | with_reducible assumption | with_reducible exact Below.refl _ _ | refine Below.setCell ?_ (by (first | omega | (simp; omega) | (simp; done) | fail "sml")) _ | refine Below.drew ?_ | refine Below.alloc ?_ (by (first | omega | (simp; omega) | (simp; done) | fail "sml")) _)); first | done | fail "chs"))).2.2⟩); clear h1 h2 h3)
            | fail "no arm")
        go_wp2_with fail
        go_roundw
        case rel => exact ⟨k + 1, F', by omega, by go_num, hO9, hF9, hM9, hB9⟩
        case measure => simp [intOf]; omega
    · obtain rfl : k = xs.length := by omega
      have HO2 := Lib.hid HO.out.ow
      go_wp2_with fail
      go_ret
      exact ⟨_, F, rfl, HO2.out, HF.out, HB.out⟩

set_option maxRecDepth 100000 in
set_option maxHeartbeats 4000000 in
theorem firstMatches_any (xs : List Mt) (v : Value) (n : Int) (B : Nat) (w : World) (hv : kMt.Rd B w v xs) (hB : B ≤ w.heap.size) (hn : xs.length + sumMt xs ≤ 1048576) (hok : ∀ x ∈ xs, x.Ok) :
    Calls Try.prog 16 #[v, .int .i64 n] w (MbPost (firstR n xs) (okF n xs) w) := by
  obtain ⟨p, cap, rfl⟩ := hv.form
  have HV := Lib.hid hv
  clear hv
  obtain ⟨W, eW⟩ : ∃ W, W = w.alloc (.cells #[.int .i64 n] 3) := ⟨_, rfl⟩
  have kW : Below w.heap.size w W := by rw [eW]; exact (Below.refl _ _).alloc (Nat.le_refl _) _
  have sW : w.heap.size < W.heap.size := by rw [eW]; simp
  have HC := Lib.hid (fun (E : World) (hE : Below W.heap.size W E) => keepc hE sW (show W.cell? ⟨w.heap.size, 0, none⟩ = some (.int .i64 n) by rw [eW]; simp [go_sem]))
  have c0 := HC.out _ (Below.refl _ _)
  have EW := Lib.hid eW
  clear eW
  by_cases hneg : n < 0
  · have HO := Lib.hid (show okF n xs = false by unfold okF; rw [decide_eq_true hneg]; simp)
    have HR := Lib.hid (show firstR n xs = [] by unfold firstR; rw [HO.out]; rfl)
    go_enter Try.func16, Try.ntmps16
    go_upto_region 1 with fail
    rw [← EW.out]
    go_wp2_with fail
    refine bodyPost_ret (v := .tuple #[.slice none 0 0, .bool false]) (by simp [results, Try.results16, go_sem]) rfl ?_
    exact ⟨_, [], by rw [HO.out], by rw [HR.out]; exact (Kd.OwB.nil kMt 49 _ _).ow, by simp, kW⟩
  have HNG := Lib.hid (show decide (n < 0) = false from decide_eq_false hneg)
  have hmm := @run_makeMap Try.prog
  go_enter Try.func16, Try.ntmps16
  go_upto_region 1 with fail
  rw [← EW.out]
  go_wp2_with fail
  refine (haveShape_any xs _ B W (HV.out.to (kW.mono hB) (Nat.le_refl _)) (by omega) (by omega)).mono ?_
  rintro en w1 ⟨rfl, hb1⟩
  have r1 : Below w.heap.size w w1 := kW.trans (hb1.mono (by omega))
  have c1 := HC.out _ hb1
  have s1 := hb1.size
  clear hb1 c0
  cases hE : xs.all shP with
  | false =>
    have HO := Lib.hid (show okF n xs = false by unfold okF; rw [hE]; rfl)
    have HR := Lib.hid (show firstR n xs = [] by unfold firstR; rw [HO.out]; rfl)
    clear hE
    go_wp2_with fail
    refine bodyPost_ret (v := .tuple #[.slice none 0 0, .bool false]) (by simp [results, Try.results16, go_sem]) rfl ?_
    exact ⟨_, [], by rw [HO.out], by rw [HR.out]; exact (Kd.OwB.nil kMt 49 _ _).ow, by simp, r1⟩
  | true =>
    have HO := Lib.hid (show okF n xs = true by unfold okF; rw [hE, HNG.out]; rfl)
    have HR := Lib.hid (show firstR n xs = accR (firstP n xs) xs xs.length by unfold firstR; rw [HO.out]; rfl)
    have HE := Lib.hid hE
    clear hE
    obtain ⟨W2, eW2⟩ : ∃ W2, W2 = (w1.alloc (.map #[] 0)).alloc (.cells #[.map (some w1.heap.size)] 55) := ⟨_, rfl⟩
    have k2 : Below w1.heap.size w1 W2 := by rw [eW2]; exact ((Below.refl _ _).alloc (Nat.le_refl _) _).alloc (by simp) _
    have s2 : w1.heap.size + 1 < W2.heap.size := by rw [eW2]; simp
    have hm2 : IMap W2 w1.heap.size [] (cntV []) := by rw [eW2]; exact (IMap.made w1 (cntV [])).chg (G := []) ((Chg.refl _ _).alloc _) (by simp)
    have cm2 : W2.cell? ⟨w1.heap.size + 1, 0, none⟩ = some (.map (some w1.heap.size)) := by rw [eW2]; simp [go_sem]
    have cn2 := keepc k2 (by omega) c1
    have EW2 := Lib.hid eW2
    clear eW2
    go_upto_region 4 with fail
    rw [← EW2.out]
    go_wp2_with fail
    refine (pickFirst_any xs _ n (w1.heap.size + 1) w.heap.size w1.heap.size B W2 (HV.out.to ((r1.trans (k2.mono (by omega))).mono hB) (Nat.le_refl _)) (by omega) hn HE.out hok cm2 cn2 (by omega) (by omega) (by omega) hm2).mono ?_
    rintro en w2 ⟨v', F, rfl, ho, hF, hc2⟩
    have HO2 := Lib.hid ho
    have HF := Lib.hid (show ∀ y ∈ F, w.heap.size ≤ y from fun y hy => by have := hF y hy; omega)
    have HB := Lib.hid (show Below w.heap.size w w2 from (r1.trans (k2.mono (by omega))).trans (hc2.below (by omega) (by simp; omega)))
    clear ho hF hc2
    go_wp2_with fail
    refine bodyPost_ret (v := .tuple #[v', .bool true]) (by simp [results, Try.results16, go_sem]) rfl ?_
    exact ⟨_, F, by rw [HO.out], by rw [HR.out]; exact HO2.out, HF.out, HB.out⟩
end Go.Proofs.Ytbpihiholbidlaa
