/- Lemmas on the data and the memory of this program's values: several texts in one. -/
import Derived.Test.YtggpnnoldjpmcaaMtSame
import Derived.Test.YtggpnnoldjpmcaaM1q0p1
import Derived.Test.YtggpnnoldjpmcaaM2q0p1
import Derived.Test.YtggpnnoldjpmcaaM0q0p2
import Derived.Test.YtggpnnoldjpmcaaM0q0p1
import Derived.Deep.RegionHeld3
import Derived.Deep.DeepCutAuto
namespace Go.Proofs.Ytggpnnoldjpmcaa
open Go.RowKit

def kMt : Kd Mt where
  sz := 3
  rd B w m cs := ∃ a b c, cs = [a, b, c] ∧ m.At B w (.agg #[a, b, c])
  ow w m cs F := ∃ a b c, cs = [a, b, c] ∧ m.Has (.agg #[a, b, c]) F w
  rd_len := by rintro _ _ _ _ ⟨a, b, c, rfl, _⟩; rfl
  rd_to := by rintro _ _ _ _ _ _ ⟨a, b, c, rfl, h⟩ hb hB; exact ⟨a, b, c, rfl, h.to hb hB⟩
  ow_rd := by rintro _ _ _ _ ⟨a, b, c, rfl, h⟩; exact ⟨a, b, c, rfl, h.at⟩
  ow_chg := by rintro _ _ _ _ _ _ ⟨a, b, c, rfl, h⟩ hc hd; exact ⟨a, b, c, rfl, h.chg hc hd⟩
  ow_lt := by rintro _ _ _ _ ⟨a, b, c, rfl, h⟩; exact h.lt
def sumMt (xs : List Mt) : Nat := (xs.map Mt.need).sum
theorem sumMt_succ (xs : List Mt) (k : Nat) (h : k < xs.length) : sumMt (xs.take (k + 1)) = sumMt (xs.take k) + xs[k].need := by
  unfold sumMt; rw [List.take_succ_eq_append_getElem h, List.map_append, List.sum_append]; simp only [List.map_cons, List.map_nil, List.sum_cons, List.sum_nil, Nat.add_zero]
theorem sumMt_le (xs : List Mt) (k : Nat) : sumMt (xs.take k) ≤ sumMt xs := by
  unfold sumMt
  have := congrArg (fun l => (l.map Mt.need).sum) (List.take_append_drop k xs)
  simp only [List.map_append, List.sum_append] at this; omega
theorem sumMt_get (xs : List Mt) (k : Nat) (h : k < xs.length) : xs[k].need ≤ sumMt xs := by
  have := sumMt_succ xs k h; have := sumMt_le xs (k + 1); omega
/-- An element's cells, at an index. -/
theorem kMt_get {B : Nat} {w : World} {p : Option Addr} {n cap : Nat} {xs : List Mt} (h : kMt.Rd B w (.slice p n cap) xs) {k : Nat} (hk : k < xs.length) :
    ∃ b off q c q' c' r e, p = some ⟨b, off, none⟩ ∧ b < B ∧ w.cell? ⟨b, off + k * 3, none⟩ = some (.slice q xs[k].w.ns.length c) ∧ w.cell? ⟨b, off + k * 3 + 1, none⟩ = some (.slice q' xs[k].w.es.length c') ∧ w.cell? ⟨b, off + k * 3 + 2, none⟩ = some (.slice r xs[k].bs.length e) ∧ xs[k].At B w (.agg #[.slice q xs[k].w.ns.length c, .slice q' xs[k].w.es.length c', .slice r xs[k].bs.length e]) := by
  obtain ⟨b, off, cs, e, hl, hc, hr⟩ := h.get hk
  obtain ⟨a1, a2, a3, rfl, hm⟩ := hr
  obtain ⟨q, c, q', c', r, e', he⟩ := hm.form
  simp only [Value.agg.injEq] at he
  have h1 := congrArg Array.toList he
  simp only [List.cons.injEq, and_true] at h1
  obtain ⟨rfl, rfl, rfl⟩ := h1
  exact ⟨b, off, q, c, q', c', r, e', e, hl, hc 0 _ rfl, hc 1 _ rfl, hc 2 _ rfl, hm⟩

set_option maxRecDepth 100000 in
set_option maxHeartbeats 1000000 in
theorem szMatchS_any (xs : List Mt) (v : Value) (left : Int) (B : Nat) (w : World) (hv : kMt.Rd B w v xs) (hB : B ≤ w.heap.size) (h0 : 0 ≤ left) (h1 : left ≤ 1048576) (hok : ∀ x ∈ xs, x.Ok) :
    Calls Try.prog 26 #[v, .int .i64 left] w (SzPost left (xs.length + sumMt xs) w.heap.size w) := by
  obtain ⟨p, cap, rfl⟩ := hv.form
  obtain ⟨_, hm1, hm⟩ := hv.max
  unfold maxLen at hm
  have HV := Lib.hid hv
  clear hv
  by_cases hlt : left < xs.length
  · go_enter Try.func26, Try.ntmps26
    go_wp2_with fail
    go_ret
    exact ⟨-1, rfl, .inl rfl, Below.refl _ _⟩
  · have q1 : decide (left - (xs.length : Int) < 0) = false := by simp; omega
    have q1' : decide (left < (xs.length : Int)) = false := by simp; omega
    go_enter Try.func26, Try.ntmps26
    go_wp2_with fail
    go_loopw [1, 5] (fun l i wr => ∃ (k : Nat) (m : Int), k ≤ xs.length ∧ i = .int .i64 k ∧ l = .int .i64 m ∧ 0 ≤ m ∧ m ≤ 1048576 ∧ RowKit.Hid (m = left - (xs.length + sumMt (xs.take k))) ∧ Below w.heap.size w wr) (fun _ i _ => xs.length - (intOf i).toNat)
    case atStart => exact ⟨0, left - xs.length, Nat.zero_le _, rfl, rfl, by omega, by omega, Lib.hid (by simp [sumMt]), Below.refl _ _⟩
    case round =>
      obtain ⟨k, m, hk, rfl, rfl, hm0, hm1, hme, hbw⟩ := hrel
      have hsz := hbw.size
      have HB := Lib.hid hbw
      clear hbw
      by_cases hlt2 : k < xs.length
      · obtain ⟨b, off, q, c, q', c', r, e, rfl, hb, c0, c1, c2, hin⟩ := kMt_get (HV.out.to (HB.out.mono hB) (Nat.le_refl _)) hlt2
        have hx := hok _ (List.getElem_mem hlt2)
        have hsum := sumMt_succ xs k hlt2
        obtain ⟨x, ex⟩ : ∃ x, x = xs[k] := ⟨_, rfl⟩
        rw [← ex] at c0 c1 c2 hx hsum hin
        have HS := Lib.hid hsum
        have HIN := Lib.hid hin
        have HX := Lib.hid hx
        clear ex hsum hin hx
        go_wp2_with fail
        refine (szMatch_any x _ m B _ HIN.out (by omega) hm0 hm1 HX.out).mono ?_
        rintro en w' ⟨s, rfl, hr, hb1⟩
        have HB1 := Lib.hid hb1
        clear hb1
        rcases hr with hr | ⟨hr0, hr⟩
        · have hneg : s < 0 := by omega
          clear hr
          go_wp2_with fail
          go_ret
          exact ⟨-1, rfl, .inl rfl, HB.out.trans (HB1.out.mono hsz)⟩
        · have hr1 : s ≤ 1048576 := by omega
          have HR := Lib.hid (show s = left - (xs.length + sumMt (xs.take (k + 1))) by have a := hme.out; have b := HS.out; omega)
          clear hr
          go_wp2_with fail
          go_roundw
          case rel => exact ⟨k + 1, s, by omega, by go_num, rfl, hr0, hr1, HR, HB.out.trans (HB1.out.mono hsz)⟩
          case measure => simp [intOf]; omega
      · have HR := Lib.hid (show m = left - (xs.length + sumMt xs) by have a := hme.out; rw [List.take_of_length_le (by omega)] at a; exact a)
        go_wp2_with fail
        go_ret
        exact ⟨m, rfl, .inr ⟨hm0, HR.out⟩, HB.out⟩

theorem infoMatch : (Try.prog.info? 52).map (fun i => (i.zero, i.size, i.bytes)) = some (some (.agg #[.slice none 0 0, .slice none 0 0, .slice none 0 0]), 3, 72) := by kernel_rfl
set_option maxRecDepth 100000 in
set_option maxHeartbeats 1000000 in
theorem toMatchS_any (xs : List Mt) (v : Value) (B : Nat) (w : World) (hv : kMt.Rd B w v xs) (hB : B ≤ w.heap.size) (hn : xs.length + sumMt xs ≤ 1048576) :
    Calls Try.prog 28 #[v] w fun e w' => ∃ v' F, e = .returned v' ∧ kMt.Ow w' v' xs F ∧ (∀ x ∈ F, w.heap.size ≤ x) ∧ Below w.heap.size w w' := by
  obtain ⟨p, cap, rfl⟩ := hv.form
  obtain ⟨_, hm1, hm2⟩ := hv.max
  unfold maxLen at hm2
  have HV := Lib.hid hv
  clear hv
  have hmk : ∀ w : World, (Instr.makeSlice 57 (.int .i64 (xs.length : Int)) (.int .i64 (xs.length : Int))).run Try.prog w = .ok (.slice (some ⟨w.heap.size, 0, none⟩) xs.length xs.length) (w.alloc (.cells (madeCells #[.slice none 0 0, .slice none 0 0, .slice none 0 0] (xs.length * 3)) 52)) := by
    intro w
    obtain ⟨i, hi, hzz⟩ := Option.map_eq_some_iff.1 infoMatch
    simp only [Prod.mk.injEq] at hzz
    obtain ⟨hz, hs, hb⟩ := hzz
    have hr := run_make (P := Try.prog) w 57 52 i _ Try.underlying57 hi hz .i64 .i64 xs.length xs.length (by omega) (Int.le_refl _) (by rw [hb]; omega) (by omega)
    rw [hs] at hr
    exact hr
  have hbk := Blk.new w (madeCells #[.slice none 0 0, .slice none 0 0, .slice none 0 0] (xs.length * 3)) 52
  have HI0 := Lib.hid (KInv.zero (K := kMt) (xs := xs) (by simp [madeCells]; rfl) hbk)
  clear hbk
  go_enter Try.func28, Try.ntmps28
  go_wp2_with fail
  go_loopw [4] (fun i wr => ∃ (k : Nat), k ≤ xs.length ∧ i = .int .i64 k ∧ RowKit.Hid (KInv kMt xs 52 w.heap.size k wr) ∧ Below w.heap.size w wr) (fun i _ => xs.length - (intOf i).toNat)
  case atStart => exact ⟨0, Nat.zero_le _, rfl, HI0, (Below.refl _ _).alloc (Nat.le_refl _) _⟩
  case round =>
    obtain ⟨k, hk, rfl, HI, hbw⟩ := hrel
    have hsz := hbw.size
    have hlt := HI.out.lt
    have HB := Lib.hid hbw
    clear hbw
    by_cases hlt2 : k < xs.length
    · obtain ⟨b, off, q, c, q', c', r, e, rfl, hb, c0, c1, c2, hin⟩ := kMt_get (HV.out.to (HB.out.mono hB) (Nat.le_refl _)) hlt2
      have hsize := sumMt_get xs k hlt2
      have hstep := fun (w1 : World) (hb : Below wr.heap.size wr w1) (s t u : Value) (F' : List Nat) (ho : xs[k].Has (.agg #[s, t, u]) F' w1) (hF : ∀ x ∈ F', wr.heap.size ≤ x) => HI.out.step hlt2 hb (show kMt.ow w1 xs[k] [s, t, u] F' from ⟨s, t, u, rfl, ho⟩) hF (stores3 (o := k * 3))
      obtain ⟨x, ex⟩ : ∃ x, x = xs[k] := ⟨_, rfl⟩
      rw [← ex] at c0 c1 c2 hin hsize hstep
      have HIN := Lib.hid hin
      have HS := Lib.hid hstep
      clear ex hin hstep
      go_wp2_with fail
      refine (toMatch_any x _ B _ HIN.out (by omega) (by omega)).mono ?_
      rintro en w1 ⟨v1, F1, rfl, ho, hF, hb1⟩
      obtain ⟨p1, d1, p2, d2, p3, d3, rfl⟩ := ho.at.form
      have HN := Lib.hid (HS.out w1 hb1 _ _ _ F1 ho hF)
      have HB1 := Lib.hid (HB.out.trans (hb1.mono hsz))
      have hw1 : w.heap.size < w1.heap.size := Nat.lt_of_lt_of_le hlt hb1.size
      have HC := Lib.hid (fun i (hi : i < xs.length * 3) => HI.out.cells i hi)
      obtain ⟨⟨d0, e0⟩, g0⟩ := HC.out (k * 3) (by omega)
      obtain ⟨⟨d1, e1⟩, g1⟩ := HC.out (k * 3 + 1) (by omega)
      obtain ⟨⟨d2, e2⟩, g2⟩ := HC.out (k * 3 + 2) (by omega)
      have e0' := keepc hb1 hlt e0
      have e1' := keepc hb1 hlt e1
      have e2' := keepc hb1 hlt e2
      have g0' : w1.frozen? ⟨w.heap.size, k * 3, none⟩ = false := (hb1.frozen (p := ⟨w.heap.size, k * 3, none⟩) hlt).trans g0
      have g1' : w1.frozen? ⟨w.heap.size, k * 3 + 1, none⟩ = false := (hb1.frozen (p := ⟨w.heap.size, k * 3 + 1, none⟩) hlt).trans g1
      have g2' : w1.frozen? ⟨w.heap.size, k * 3 + 2, none⟩ = false := (hb1.frozen (p := ⟨w.heap.size, k * 3 + 2, none⟩) hlt).trans g2
      clear hb1 ho hF e0 e1 e2 g0 g1 g2
      go_wp2_with fail
      go_roundw
      case rel => exact ⟨k + 1, by omega, by go_num, HN, ((HB1.out.setCell (Nat.le_refl _) _).setCell (Nat.le_refl _) _).setCell (Nat.le_refl _) _⟩
      case measure => simp [intOf]; omega
    · obtain rfl : k = xs.length := by omega
      obtain ⟨F, ho, hF⟩ := HI.out.done (by unfold maxLen; omega)
      have HO := Lib.hid ho
      have HF := Lib.hid hF
      clear ho hF
      go_wp2_with fail
      go_ret
      exact ⟨_, F, rfl, HO.out, HF.out, HB.out⟩

set_option maxRecDepth 100000 in
set_option maxHeartbeats 1000000 in
theorem eqMatchS_any (xs : List Mt) (v v' : Value) (B : Nat) (w : World) (hv : kMt.Rd B w v xs) (hv' : kMt.Rd B w v' xs) (hB : B ≤ w.heap.size) :
    Calls Try.prog 30 #[v, v'] w fun e w' => e = .returned (.bool true) ∧ Below w.heap.size w w' := by
  obtain ⟨p, cap, rfl⟩ := hv.form
  obtain ⟨p', cap', rfl⟩ := hv'.form
  obtain ⟨_, _, hm⟩ := hv.max
  obtain ⟨_, _, hm'⟩ := hv'.max
  have hl := hv.max.2.1
  unfold maxLen at hm hm'
  have HV := Lib.hid hv
  have HV' := Lib.hid hv'
  clear hv hv'
  go_enter Try.func30, Try.ntmps30
  go_wp2_with fail
  go_loopw [5] (fun i wr => ∃ k : Nat, k ≤ xs.length ∧ i = .int .i64 k ∧ Below w.heap.size w wr) (fun i _ => xs.length - (intOf i).toNat)
  case atStart => exact ⟨0, Nat.zero_le _, rfl, Below.refl _ _⟩
  case round =>
    obtain ⟨k, hk, rfl, hbw⟩ := hrel
    have hsz := hbw.size
    have HB := Lib.hid hbw
    clear hbw
    by_cases hlt2 : k < xs.length
    · obtain ⟨b, off, q, c, q', c', r, e, rfl, hb, c0, c1, c2, hin⟩ := kMt_get (HV.out.to (HB.out.mono hB) (Nat.le_refl _)) hlt2
      obtain ⟨b', off', s, f, s', f', t, g, rfl, hb', d0, d1, d2, hin'⟩ := kMt_get (HV'.out.to (HB.out.mono hB) (Nat.le_refl _)) hlt2
      obtain ⟨x, ex⟩ : ∃ x, x = xs[k] := ⟨_, rfl⟩
      rw [← ex] at c0 c1 c2 d0 d1 d2 hin hin'
      have H1 := Lib.hid (hin.to (Below.refl B wr).drew (Nat.le_refl _))
      have H2 := Lib.hid (hin'.to (Below.refl B wr).drew (Nat.le_refl _))
      clear ex hin hin'
      go_wp2_with fail
      go_still_tail 8, (by kernel_rfl)
      go_wp2_with fail
      refine (eqMatch_any x _ _ B _ H1.out H2.out (by show B ≤ wr.heap.size; omega)).mono ?_
      rintro en w' ⟨rfl, hb1⟩
      have HB1 := Lib.hid (HB.out.drew.trans (hb1.mono hsz))
      clear hb1
      go_wp2_with fail
      go_roundw
      case rel => exact ⟨k + 1, by omega, by go_num, HB1.out⟩
      case measure => simp [intOf]; omega
    · obtain rfl : k = xs.length := by omega
      go_wp2_with fail
      go_ret
      exact ⟨rfl, HB.out⟩
end Go.Proofs.Ytggpnnoldjpmcaa
namespace Go.Proofs.Ytggpnnoldjpmcaa
open Go.RowKit

theorem one_string (s : ByteArray) : (Value.string s).oneCell' = true := rfl
/-- One more bind, behind the others. -/
theorem appBind {w : World} {v : Value} {xs : List Bn} {F : List Nat} (h : kBn.OwB 91 w v xs F) (ty : TypeId) (y : Bn) (p : Option Addr) (c0 : Nat) (G : List Nat) (g c : Nat) (ho : OwnSl 1 intCells w (.slice p y.ids.length c0) y.ids G) (hd : ∀ x ∈ F, x ∉ G)
    (h0 : w.cell? ⟨g, 0, none⟩ = some (.string y.v)) (h1 : w.cell? ⟨g, 1, none⟩ = some (.slice p y.ids.length c0)) (h2 : w.cell? ⟨g, 2, none⟩ = some (.bool y.g)) (h63 : xs.length ≤ 1048576) :
    ∃ v' w', (Builtin.append_ #[36, 36] ty #[v, .slice (some ⟨g, 0, none⟩) 1 c]).run Try.prog w = .ok v' w' ∧ ∃ F', kBn.OwB 91 w' v' (xs ++ [y]) F' ∧ (∀ x ∈ F', x ∈ F ∨ x ∈ G ∨ w.heap.size ≤ x) ∧ Chg F w w' := by
  obtain ⟨i, hi, hzz⟩ := Option.map_eq_some_iff.1 infoBind
  simp only [Prod.mk.injEq] at hzz
  obtain ⟨hz, hs, hb⟩ := hzz
  refine Kd.OwB.append (K := kBn) 36 ty 91 i _ 48 Try.underlying36 hi hz hs hb rfl h y [.string y.v, .slice p y.ids.length c0, .bool y.g] G g c (kBn_ow.2 ⟨_, rfl, ho⟩) ?_ hd ?_ (by omega) (by omega)
  · intro u hu
    simp only [List.mem_cons, List.not_mem_nil, or_false] at hu
    rcases hu with rfl | rfl | rfl <;> rfl
  · intro j u hu
    match j, hu with
    | 0, hu => simp at hu; subst hu; exact h0
    | 1, hu => simp at hu; subst hu; exact h1
    | 2, hu => simp at hu; subst hu; exact h2
    | j + 3, hu => simp at hu
/-- One more match, behind the others. -/
theorem appMatch {w : World} {v : Value} {xs : List Mt} {F : List Nat} (h : kMt.OwB 52 w v xs F) (ty : TypeId) (y : Mt) (p : Option Addr) (pc : Nat) (q : Option Addr) (qc : Nat) (r : Option Addr) (rc : Nat) (G : List Nat) (g c : Nat)
    (ho : y.Has (.agg #[.slice p y.w.ns.length pc, .slice q y.w.es.length qc, .slice r y.bs.length rc]) G w) (hd : ∀ x ∈ F, x ∉ G)
    (h0 : w.cell? ⟨g, 0, none⟩ = some (.slice p y.w.ns.length pc)) (h1 : w.cell? ⟨g, 1, none⟩ = some (.slice q y.w.es.length qc)) (h2 : w.cell? ⟨g, 2, none⟩ = some (.slice r y.bs.length rc)) (h63 : xs.length ≤ 1048576) :
    ∃ v' w', (Builtin.append_ #[57, 57] ty #[v, .slice (some ⟨g, 0, none⟩) 1 c]).run Try.prog w = .ok v' w' ∧ ∃ F', kMt.OwB 52 w' v' (xs ++ [y]) F' ∧ (∀ x ∈ F', x ∈ F ∨ x ∈ G ∨ w.heap.size ≤ x) ∧ Chg F w w' := by
  obtain ⟨i, hi, hzz⟩ := Option.map_eq_some_iff.1 infoMatch
  simp only [Prod.mk.injEq] at hzz
  obtain ⟨hz, hs, hb⟩ := hzz
  refine Kd.OwB.append (K := kMt) 57 ty 52 i _ 72 Try.underlying57 hi hz hs hb rfl h y [.slice p y.w.ns.length pc, .slice q y.w.es.length qc, .slice r y.bs.length rc] G g c ⟨_, _, _, rfl, ho⟩ ?_ hd ?_ (by omega) (by omega)
  · intro u hu
    simp only [List.mem_cons, List.not_mem_nil, or_false] at hu
    rcases hu with rfl | rfl | rfl <;> rfl
  · intro j u hu
    match j, hu with
    | 0, hu => simp at hu; subst hu; exact h0
    | 1, hu => simp at hu; subst hu; exact h1
    | 2, hu => simp at hu; subst hu; exact h2
    | j + 3, hu => simp at hu
theorem OwB_step {α : Type} {K : Kd α} {e : TypeId} {xs : List α} {k : Nat} (hk : k < xs.length) {w : World} {v : Value} {F : List Nat} (h : K.OwB e w v (xs.take k ++ [xs[k]]) F) : K.OwB e w v (xs.take (k + 1)) F := by
  rw [List.take_succ_eq_append_getElem hk]; exact h

set_option maxRecDepth 100000 in
set_option maxHeartbeats 2000000 in
theorem copyBinds_any (xs : List Bn) (v : Value) (B : Nat) (w : World) (hv : kBn.Rd B w v xs) (hB : B ≤ w.heap.size) (hn : xs.length + sumBn xs ≤ 1048576) :
    Calls Try.prog 61 #[v] w fun e w' => ∃ v' F, e = .returned v' ∧ kBn.Ow w' v' xs F ∧ (∀ y ∈ F, w.heap.size ≤ y) ∧ Below w.heap.size w w' := by
  obtain ⟨p, cap, rfl⟩ := hv.form
  obtain ⟨_, hm1, hm2⟩ := hv.max
  unfold maxLen at hm2
  have HV := Lib.hid hv
  clear hv
  go_enter Try.func61, Try.ntmps61
  go_wp2_with fail
  go_loopw [3, 8] (fun cp i wr => ∃ (k : Nat) (F : List Nat), k ≤ xs.length ∧ i = .int .i64 k ∧ RowKit.Hid (kBn.OwB 91 wr cp (xs.take k) F) ∧ RowKit.Hid (∀ y ∈ F, w.heap.size ≤ y) ∧ RowKit.Hid (Below w.heap.size w wr)) (fun _ i _ => xs.length - (intOf i).toNat)
  case atStart => exact ⟨0, [], Nat.zero_le _, rfl, Lib.hid (by simpa using Kd.OwB.nil kBn _ w none), Lib.hid (by simp), Lib.hid (Below.refl _ _)⟩
  case round =>
    obtain ⟨k, F, hk, rfl, HO, HF, HB⟩ := hrel
    have hsz := HB.out.size
    by_cases hlt : k < xs.length
    · obtain ⟨b, off, q, c, rfl, hb, c0, c1, c2, hin⟩ := kBn_get (HV.out.to (HB.out.mono hB) (Nat.le_refl _)) hlt
      have hsize := sumBn_get xs k hlt
      have hst := fun (w' : World) (v' : Value) (F' : List Nat) (h : kBn.OwB 91 w' v' (xs.take k ++ [xs[k]]) F') => OwB_step hlt h
      obtain ⟨x, ex⟩ : ∃ x, x = xs[k] := ⟨_, rfl⟩
      rw [← ex] at c0 c1 c2 hin hsize hst
      have HIN := Lib.hid hin
      have HST := Lib.hid hst
      have hidl : x.ids.length ≤ 1048576 := by unfold Bn.need at hsize; omega
      have HTK := Lib.hid (show (xs.take k).length ≤ 1048576 by rw [List.length_take]; omega)
      clear ex hin hst hsize
      go_wp2_with fail
      refine (copyBind_any x _ B _ ⟨_, rfl, HIN.out.below ((Below.refl B wr).alloc (by omega) _)⟩ (by simp; omega) hidl).mono ?_
      rintro en w1 ⟨u, G, rfl, ho, hG, hb1⟩
      obtain ⟨s, rfl, ho⟩ := ho
      obtain ⟨p1, d1, rfl⟩ := ho.sl.form
      have hb2 : Below wr.heap.size wr w1 := below_past hb1
      obtain ⟨W2, eW2⟩ : ∃ W2, W2 = w1.alloc (.cells #[.string x.v, .slice p1 x.ids.length d1, .bool x.g] 91) := ⟨_, rfl⟩
      have kW2 : Below w1.heap.size w1 W2 := by rw [eW2]; exact (Below.refl _ _).alloc (Nat.le_refl _) _
      have hz1 := hb2.size
      have HA := Lib.hid (appBind (HO.out.below (show Below wr.heap.size wr W2 from hb2.trans (kW2.mono hz1))) 36 x p1 d1 G w1.heap.size 1 (ho.below kW2) (fun y hy hy2 => by have := HO.out.lt y hy; have := hG y hy2; simp at this; omega) (by rw [eW2]; simp [go_sem]) (by rw [eW2]; simp [go_sem]) (by rw [eW2]; simp [go_sem]) HTK.out)
      have HG := Lib.hid (show ∀ y ∈ G, w.heap.size ≤ y from fun y hy => by have := hG y hy; simp at this; omega)
      have HB2 := Lib.hid (HB.out.trans ((hb2.trans (kW2.mono hz1)).mono hsz))
      have hzW : w.heap.size ≤ W2.heap.size := HB2.out.size
      have EW := Lib.hid eW2
      clear hb1 hb2 ho hG c0 c1 c2 eW2 kW2
      go_wp2_with (at_builtin; rw [← EW.out]; refine wpApp rfl (.tmp 12) (.tmp 15) 36 rfl _ _ rfl rfl _ HA.out ?_; rintro v2 w2 hr; have HR := Lib.hid hr; clear hr)
      obtain ⟨F', hF1, hF2, hF3⟩ := HR.out
      have hge : ∀ y ∈ F', w.heap.size ≤ y := fun y hy => by
        rcases hF2 y hy with h | h | h
        · exact HF.out y h
        · exact HG.out y h
        · omega
      have hbe : Below w.heap.size w w2 := HB2.out.trans (hF3.below hzW HF.out)
      go_roundw
      case rel => exact ⟨k + 1, F', by omega, by go_num, Lib.hid (HST.out _ _ _ hF1), Lib.hid hge, Lib.hid hbe⟩
      case measure => simp [intOf]; omega
    · obtain rfl : k = xs.length := by omega
      have HO2 := Lib.hid (show kBn.Ow wr u3 xs F by have h := HO.out; rw [List.take_length] at h; exact h.ow)
      go_wp2_with fail
      go_ret
      exact ⟨_, F, rfl, HO2.out, HF.out, HB.out⟩
end Go.Proofs.Ytggpnnoldjpmcaa
namespace Go.Proofs.Ytggpnnoldjpmcaa
open Go.RowKit

theorem below_app {w wr E E' : World} {F : List Nat} (hb : Below w.heap.size w wr) (hE : Below wr.heap.size wr E) (h3 : Chg F E E') (hF : ∀ y ∈ F, w.heap.size ≤ y) : Below w.heap.size w E' :=
  hb.trans ((hE.mono hb.size).trans (h3.below (Nat.le_trans hb.size hE.size) hF))
theorem below_app2 {w wr E E' : World} {F : List Nat} (hs : w.heap.size ≤ wr.heap.size) (hE : Below wr.heap.size wr E) (h3 : Chg F E E') (hF : ∀ y ∈ F, w.heap.size ≤ y) : Below w.heap.size wr E' :=
  (hE.mono hs).trans (h3.below (Nat.le_trans hs hE.size) hF)
theorem ge_app {w wr E : World} {F F' G : List Nat} (hs : w.heap.size ≤ wr.heap.size) (hE : Below wr.heap.size wr E) (h2 : ∀ x ∈ F', x ∈ F ∨ x ∈ G ∨ E.heap.size ≤ x) (hF : ∀ y ∈ F, w.heap.size ≤ y) (hG : ∀ y ∈ G, wr.heap.size ≤ y) : ∀ y ∈ F', w.heap.size ≤ y := fun y hy => by
  rcases h2 y hy with h | h | h
  · exact hF y h
  · exact Nat.le_trans hs (hG y h)
  · exact Nat.le_trans (Nat.le_trans hs hE.size) h

set_option maxRecDepth 100000 in
set_option maxHeartbeats 4000000 in
theorem l6Copy_any (xs : List Bn) (v : Value) (B : Nat) (w : World) (hv : kBn.Rd B w v xs) (hB : B ≤ w.heap.size) (hn : xs.length + sumBn xs ≤ 1048576) :
    Calls Try.prog 51 #[v] w fun e w' => ∃ v' F, e = .returned v' ∧ kBn.Ow w' v' xs F ∧ (∀ y ∈ F, w.heap.size ≤ y) ∧ Below w.heap.size w w' := by
  obtain ⟨p, cap, rfl⟩ := hv.form
  obtain ⟨_, hm1, hm2⟩ := hv.max
  unfold maxLen at hm2
  have HV := Lib.hid hv
  clear hv
  go_enter Try.func51, Try.ntmps51
  go_wp2_with fail
  go_loopw [3, 4] (fun cp i wr => ∃ (k : Nat) (F : List Nat), k ≤ xs.length ∧ i = .int .i64 k ∧ RowKit.Hid (kBn.OwB 91 wr cp (xs.take k) F) ∧ RowKit.Hid (∀ y ∈ F, w.heap.size ≤ y) ∧ RowKit.Hid (Below w.heap.size w wr)) (fun _ i _ => xs.length - (intOf i).toNat)
  case atStart => exact ⟨0, [], Nat.zero_le _, rfl, Lib.hid (by simpa using Kd.OwB.nil kBn _ _ _), Lib.hid (by simp), Lib.hid ((Below.refl _ _).alloc (Nat.le_refl _) _)⟩
  case round =>
    obtain ⟨k, F, hk, rfl, HO, HF, HB⟩ := hrel
    have hsz := HB.out.size
    by_cases hlt : k < xs.length
    · obtain ⟨b, off, q, c, rfl, hb, c0, c1, c2, hin⟩ := kBn_get (HV.out.to (HB.out.mono hB) (Nat.le_refl _)) hlt
      have hsize := sumBn_get xs k hlt
      have hst := fun (w' : World) (v' : Value) (F' : List Nat) (h : kBn.OwB 91 w' v' (xs.take k ++ [xs[k]]) F') => OwB_step hlt h
      obtain ⟨x, ex⟩ : ∃ x, x = xs[k] := ⟨_, rfl⟩
      rw [← ex] at c0 c1 c2 hin hsize hst
      have HIN := Lib.hid hin
      have HST := Lib.hid hst
      have hidl : x.ids.length ≤ 1048576 := by unfold Bn.need at hsize; omega
      have HTK := Lib.hid (show (xs.take k).length ≤ 1048576 by rw [List.length_take]; omega)
      clear ex hin hst hsize
      have hkl : (k : Int) < (xs.length : Int) := by omega
      have hbr : b < wr.heap.size := by omega
      have hbw : b < w.heap.size := by omega
      have HK := Lib.hid (fun (E : World) (hE : Below w.heap.size wr E) => (⟨keepc hE hbw c0, keepc hE hbw c1, keepc hE hbw c2⟩ : E.cell? ⟨b, off + k * 3, none⟩ = some (.string x.v) ∧ E.cell? ⟨b, off + k * 3 + 1, none⟩ = some (.slice q x.ids.length c) ∧ E.cell? ⟨b, off + k * 3 + 2, none⟩ = some (.bool x.g)))
      have CA := Lib.hid (fun (E : World) (hE : Below wr.heap.size wr E) (G : Option Addr) (ty : TypeId) => onto_none (OwnI.empty E G) (HIN.out.below (hE.mono (by omega))) (by omega) ty)
      have CB := Lib.hid (fun (E : World) (hE : Below wr.heap.size wr E) (ty : TypeId) => appBind (HO.out.below hE) ty x)
      have r0 := Below.refl wr.heap.size wr
      go_upto_region 5 with fail
      go_region_held3 (fun w' => w'.cell? ⟨b, off + k * 3, none⟩ = some (.string x.v) ∧ w'.cell? ⟨b, off + k * 3 + 1, none⟩ = some (.slice q x.ids.length c) ∧ w'.cell? ⟨b, off + k * 3 + 2, none⟩ = some (.bool x.g))
        (first | exact HK.out _ hk9 | exact HK.out _ ((show Below wr.heap.size wr _ by ((repeat (first | with_reducible assumption | with_reducible exact Below.refl _ _ | refine Below.setCell ?_ (by (first | omega | (simp; omega) | (simp; done) | fail "sml")) _ | refine Below.drew ?_ | refine Below.alloc ?_ (by (first | omega | (simp; omega) | (simp; done) | fail "sml")) _)); first | done | fail "chs")).mono hsz))
        (first
          | (refine step_app_src (by rfl) (.tmp 18) (.tmp 23) 43 (by rfl) _ _ (by rfl) (by rfl) _ (CA.out _ ?_ _ _) ?_; (· ((repeat (first | with_reducible assumption | with_reducible exact Below.refl _ _ | refine Below.setCell ?_ (by (first | omega | (simp; omega) | (simp; done) | fail "sml")) _ | refine Below.drew ?_ | refine Below.alloc ?_ (by (first | omega | (simp; omega) | (simp; done) | fail "sml")) _)); first | done | fail "chs")); intro vA wA hv; obtain ⟨FA, h1, h2, h3⟩ := hv; obtain ⟨pA, qA, rfl⟩ := h1.form; have hkA := Below.trans (show Below wr.heap.size wr _ by ((repeat (first | with_reducible assumption | with_reducible exact Below.refl _ _ | refine Below.setCell ?_ (by (first | omega | (simp; omega) | (simp; done) | fail "sml")) _ | refine Below.drew ?_ | refine Below.alloc ?_ (by (first | omega | (simp; omega) | (simp; done) | fail "sml")) _)); first | done | fail "chs")) (h3.mono (by (first | omega | (simp; omega) | (simp; done) | fail "sml"))); have zA := hkA.size; have rA := Below.refl wA.heap.size wA; have OA := Lib.hid h1.own; have GA := Lib.hid (show ∀ y ∈ FA, wr.heap.size ≤ y from fun y hy => by have h9 := h2 y hy; (try simp at h9); omega); clear h1 h2 h3)
          | (refine step_app_src (by rfl) (.tmp 12) (.tmp 31) 36 (by rfl) _ _ (by rfl) (by rfl) _ (CB.out _ (show Below wr.heap.size wr _ by ((repeat (first | with_reducible assumption | with_reducible exact Below.refl _ _ | refine Below.setCell ?_ (by (first | omega | (simp; omega) | (simp; done) | fail "sml")) _ | refine Below.drew ?_ | refine Below.alloc ?_ (by (first | omega | (simp; omega) | (simp; done) | fail "sml")) _)); first | done | fail "chs")) _ _ _ FA _ _ (OA.out.below (show Below wA.heap.size wA _ by ((repeat (first | with_reducible assumption | with_reducible exact Below.refl _ _ | refine Below.setCell ?_ (by (first | omega | (simp; omega) | (simp; done) | fail "sml")) _ | refine Below.drew ?_ | refine Below.alloc ?_ (by (first | omega | (simp; omega) | (simp; done) | fail "sml")) _)); first | done | fail "chs"))) (fun y hy hy2 => by have := HO.out.lt y hy; have := GA.out y hy2; omega) (by simp [go_sem]) (by simp [go_sem]) (by simp [go_sem]) HTK.out) ?_; intro vB wB hv; obtain ⟨F', h1, h2, h3⟩ := hv; have hB9 := Lib.hid (below_app HB.out (show Below wr.heap.size wr _ by ((repeat (first | with_reducible assumption | with_reducible exact Below.refl _ _ | refine Below.setCell ?_ (by (first | omega | (simp; omega) | (simp; done) | fail "sml")) _ | refine Below.drew ?_ | refine Below.alloc ?_ (by (first | omega | (simp; omega) | (simp; done) | fail "sml")) _)); first | done | fail "chs")) h3 HF.out); have hk9 := below_app2 hsz (show Below wr.heap.size wr _ by ((repeat (first | with_reducible assumption | with_reducible exact Below.refl _ _ | refine Below.setCell ?_ (by (first | omega | (simp; omega) | (simp; done) | fail "sml")) _ | refine Below.drew ?_ | refine Below.alloc ?_ (by (first | omega | (simp; omega) | (simp; done) | fail "sml")) _)); first | done | fail "chs")) h3 HF.out; have hF9 := Lib.hid (ge_app hsz (show Below wr.heap.size wr _ by ((repeat (first | with_reducible assumption | with_reducible exact Below.refl _ _ | refine Below.setCell ?_ (by (first | omega | (simp; omega) | (simp; done) | fail "sml")) _ | refine Below.drew ?_ | refine Below.alloc ?_ (by (first | omega | (simp; omega) | (simp; done) | fail "sml")) _)); first | done | fail "chs")) h2 HF.out GA.out); have hO9 := Lib.hid (HST.out _ _ _ h1); clear h1 h2 h3)
          | fail "no arm")
      go_wp2_with fail
      go_roundw
      case rel => exact ⟨k + 1, F', by omega, by go_num, hO9, hF9, hB9⟩
      case measure => simp [intOf]; omega
    · obtain rfl : k = xs.length := by omega
      have HO2 := Lib.hid (show kBn.Ow wr u3 xs F by have h := HO.out; rw [List.take_length] at h; exact h.ow)
      go_wp2_with fail
      go_ret
      exact ⟨_, F, rfl, HO2.out, HF.out, HB.out⟩
end Go.Proofs.Ytggpnnoldjpmcaa
namespace Go.Proofs.Ytggpnnoldjpmcaa
open Go.RowKit

set_option maxRecDepth 100000 in
set_option maxHeartbeats 4000000 in
theorem l9Copy_any (m : Mt) (v : Value) (B : Nat) (w : World) (hm : m.At B w v) (hB : B ≤ w.heap.size) (hn : m.need ≤ 1048576) :
    Calls Try.prog 75 #[v] w fun e w' => ∃ v' F, e = .returned v' ∧ m.Has v' F w' ∧ (∀ y ∈ F, w.heap.size ≤ y) ∧ Below w.heap.size w w' := by
  obtain ⟨a, b, c, rfl, ha, hb, hc⟩ := hm
  have H1 := Lib.hid (show m.w.At B w (.agg #[a, b]) from ⟨a, b, rfl, ha, hb⟩)
  have H2 := Lib.hid hc
  have hn1 : m.w.need ≤ 1048576 := by unfold Mt.need at hn; omega
  have hn2 : m.bs.length + sumBn m.bs ≤ 1048576 := by unfold Mt.need at hn; omega
  clear ha hb hc hn
  obtain ⟨W, eW⟩ : ∃ W, W = (w.alloc (.cells #[a, b, c] 52)).alloc (.cells #[.slice none 0 0, .slice none 0 0, .slice none 0 0] 52) := ⟨_, rfl⟩
  have HV := Lib.hid (show Below w.heap.size w W by rw [eW]; exact ((Below.refl _ _).alloc (Nat.le_refl _) _).alloc (by simp) _)
  have hs0 : w.heap.size + 2 ≤ W.heap.size := by rw [eW]; simp
  have HK := Lib.hid (show ∀ wk, Below (w.heap.size + 1) W wk → wk.cell? ⟨w.heap.size, 0, none⟩ = some a ∧ wk.cell? ⟨w.heap.size, 1, none⟩ = some b ∧ wk.cell? ⟨w.heap.size, 2, none⟩ = some c from
    fun wk hk => by rw [eW] at hk; exact ⟨keepc hk (by omega) (by simp [go_sem]), keepc hk (by omega) (by simp [go_sem]), keepc hk (by omega) (by simp [go_sem])⟩)
  have HKR := Lib.hid (show ∀ wk, Below (w.heap.size + 2) W wk → (wk.cell? ⟨w.heap.size + 1, 0, none⟩ = some (.slice none 0 0) ∧ wk.cell? ⟨w.heap.size + 1, 1, none⟩ = some (.slice none 0 0) ∧ wk.cell? ⟨w.heap.size + 1, 2, none⟩ = some (.slice none 0 0)) ∧ wk.frozen? ⟨w.heap.size + 1, 0, none⟩ = false ∧ wk.frozen? ⟨w.heap.size + 1, 1, none⟩ = false ∧ wk.frozen? ⟨w.heap.size + 1, 2, none⟩ = false from
    fun wk hk => by
      rw [eW] at hk
      exact ⟨⟨keepc hk (by omega) (by simp [go_sem]), keepc hk (by omega) (by simp [go_sem]), keepc hk (by omega) (by simp [go_sem])⟩, (hk.frozen (p := ⟨w.heap.size + 1, 0, none⟩) (by show w.heap.size + 1 < w.heap.size + 2; omega)).trans (World.frozen?_alloc_at _ _ _ _ (by simp)), (hk.frozen (p := ⟨w.heap.size + 1, 1, none⟩) (by show w.heap.size + 1 < w.heap.size + 2; omega)).trans (World.frozen?_alloc_at _ _ _ _ (by simp)), (hk.frozen (p := ⟨w.heap.size + 1, 2, none⟩) (by show w.heap.size + 1 < w.heap.size + 2; omega)).trans (World.frozen?_alloc_at _ _ _ _ (by simp))⟩)
  have rr0 := Below.refl (w.heap.size + 2) W
  have rr2 := Below.refl (w.heap.size + 1) W
  have EW := Lib.hid eW
  clear eW
  have CW := Lib.hid (fun (E : World) (hE : Below (w.heap.size + 2) W E) => ((l5Copy_any m.w _ B E (H1.out.to ((HV.out.mono hB).trans (hE.mono (by omega))) (Nat.le_refl _)) (by have := hE.size; omega) hn1).mono (fun en w' ⟨u, hu, ⟨a1, b1, F1, F2, hu2, o1, o2, g1, g2, hdj⟩, hb⟩ => by
    obtain ⟨pA, cA, rfl⟩ := o1.form
    obtain ⟨qA, dA, rfl⟩ := o2.form
    subst hu2 hu
    exact ⟨pA, cA, qA, dA, F1 ++ F2, rfl, ⟨_, _, F1, F2, rfl, rfl, o1.own, o2.own, hdj⟩, fun y hy => by have z := hE.size; rcases List.mem_append.1 hy with h | h; exact Nat.le_trans z (g1 y h); exact Nat.le_trans z (g2 y h), hb⟩) : Calls Try.prog 105 #[.agg #[a, b]] E (fun en w' => ∃ (pA : Option Addr) (cA : Nat) (qA : Option Addr) (dA : Nat) (F : List Nat), en = .returned (.agg #[.slice pA m.w.ns.length cA, .slice qA m.w.es.length dA]) ∧ m.w.Has (.agg #[.slice pA m.w.ns.length cA, .slice qA m.w.es.length dA]) F w' ∧ (∀ y ∈ F, W.heap.size ≤ y) ∧ Below E.heap.size E w')))
  have CB := Lib.hid (fun (E : World) (hE : Below (w.heap.size + 2) W E) => l6Copy_any m.bs c B E (H2.out.to ((HV.out.mono hB).trans (hE.mono (by omega))) (Nat.le_refl _)) (by have := hE.size; omega) hn2)
  go_enter Try.func75, Try.ntmps75
  go_wp2_with fail
  rw [← EW.out]
  go_region_held3 (fun w' => w'.cell? ⟨w.heap.size, 0, none⟩ = some a ∧ w'.cell? ⟨w.heap.size, 1, none⟩ = some b ∧ w'.cell? ⟨w.heap.size, 2, none⟩ = some c)
    (exact HK.out _ (show Below (w.heap.size + 1) W _ by ((repeat (first | with_reducible assumption | with_reducible exact Below.refl _ _ | refine Below.setCell ?_ (by (first | omega | (simp; omega) | (simp; done) | fail "sml")) _ | refine Below.drew ?_ | refine Below.alloc ?_ (by (first | omega | (simp; omega) | (simp; done) | fail "sml")) _)); first | done | fail "chs")))
    (first
      | (go_at_call 105; with_reducible refine (CW.out _ (show Below (w.heap.size + 2) W _ by ((repeat (first | with_reducible assumption | with_reducible exact Below.refl _ _ | refine Below.setCell ?_ (by (first | omega | (simp; omega) | (simp; done) | fail "sml")) _ | refine Below.drew ?_ | refine Below.alloc ?_ (by (first | omega | (simp; omega) | (simp; done) | fail "sml")) _)); first | done | fail "chs"))).mono ?_; rintro en wA ⟨pA, cA, qA, dA, FA, rfl, ho, hF, hb⟩; have kA := Below.trans (show Below (w.heap.size + 2) W _ by ((repeat (first | with_reducible assumption | with_reducible exact Below.refl _ _ | refine Below.setCell ?_ (by (first | omega | (simp; omega) | (simp; done) | fail "sml")) _ | refine Below.drew ?_ | refine Below.alloc ?_ (by (first | omega | (simp; omega) | (simp; done) | fail "sml")) _)); first | done | fail "chs")) (hb.mono (by (first | omega | (simp; omega) | (simp; done) | fail "sml"))); have zA := kA.size; have kA1 := kA.mono (Nat.le_succ (w.heap.size + 1)); have rA := Below.refl wA.heap.size wA; have HWA := Lib.hid ho; have GA := Lib.hid hF; clear ho hF hb)
      | (go_at_call 51; with_reducible refine (CB.out _ (show Below (w.heap.size + 2) W _ by ((repeat (first | with_reducible assumption | with_reducible exact Below.refl _ _ | refine Below.setCell ?_ (by (first | omega | (simp; omega) | (simp; done) | fail "sml")) _ | refine Below.drew ?_ | refine Below.alloc ?_ (by (first | omega | (simp; omega) | (simp; done) | fail "sml")) _)); first | done | fail "chs"))).mono ?_; rintro en wB ⟨u, FB, rfl, ho, hF, hb⟩; obtain ⟨pB, cB, rfl⟩ := ho.form; have kB := Below.trans (show Below (w.heap.size + 2) W _ by ((repeat (first | with_reducible assumption | with_reducible exact Below.refl _ _ | refine Below.setCell ?_ (by (first | omega | (simp; omega) | (simp; done) | fail "sml")) _ | refine Below.drew ?_ | refine Below.alloc ?_ (by (first | omega | (simp; omega) | (simp; done) | fail "sml")) _)); first | done | fail "chs")) (hb.mono (by (first | omega | (simp; omega) | (simp; done) | fail "sml"))); have zB := kB.size; have kB1 := kB.mono (Nat.le_succ (w.heap.size + 1)); have rB := Below.refl wB.heap.size wB; obtain ⟨⟨yB0, yB1, yB2⟩, yB3, yB4, yB5⟩ := HKR.out _ kB; have sB := Below.trans (show Below wA.heap.size wA _ by ((repeat (first | with_reducible assumption | with_reducible exact Below.refl _ _ | refine Below.setCell ?_ (by (first | omega | (simp; omega) | (simp; done) | fail "sml")) _ | refine Below.drew ?_ | refine Below.alloc ?_ (by (first | omega | (simp; omega) | (simp; done) | fail "sml")) _)); first | done | fail "chs")) (hb.mono (by (first | omega | (simp; omega) | (simp; done) | fail "sml"))); have HO := Lib.hid ho; have GB := Lib.hid (fun y hy => Nat.le_trans (show Below wA.heap.size wA _ by ((repeat (first | with_reducible assumption | with_reducible exact Below.refl _ _ | refine Below.setCell ?_ (by (first | omega | (simp; omega) | (simp; done) | fail "sml")) _ | refine Below.drew ?_ | refine Below.alloc ?_ (by (first | omega | (simp; omega) | (simp; done) | fail "sml")) _)); first | done | fail "chs")).size (hF y hy)); clear ho hF hb)
      | fail "no arm")
  all_goals go_wp2_with fail
  refine bodyPost_ret (v := .agg #[.slice pA m.w.ns.length cA, .slice qA m.w.es.length dA, .slice pB m.bs.length cB]) (by simp [results, Try.results75, go_sem, yB0, yB1, yB2]) rfl ?_
  have hs : ∀ E, Chg [w.heap.size + 1] wB E → Below w.heap.size wB E → ∃ v' F, Ending.returned (.agg #[.slice pA m.w.ns.length cA, .slice qA m.w.es.length dA, .slice pB m.bs.length cB]) = .returned v' ∧ m.Has v' F E ∧ (∀ y ∈ F, w.heap.size ≤ y) ∧ Below w.heap.size w E := fun E hE hE2 => by
    refine ⟨_, FA ++ FB, rfl, ⟨_, _, _, FA, FB, rfl, rfl, (HWA.out.chg (Chg.of_below sB []) (by simp)).chg hE (fun y hy => by have := GA.out y hy; simp; omega), HO.out.chg hE (fun y hy => by have := GB.out y hy; simp; omega), fun y hy hy2 => by have := HWA.out.lt y hy; have := GB.out y hy2; omega⟩, fun y hy => ?_, (HV.out.trans (kB.mono (by omega))).trans hE2⟩
    rcases List.mem_append.1 hy with h | h
    · have := GA.out y h; omega
    · have := GB.out y h; omega
  refine hs _ ?_ ?_
  · repeat (first | with_reducible exact Chg.refl _ _ | refine Chg.setCell ?_ (by simp) _)
  · repeat (first | with_reducible exact Below.refl _ _ | refine Below.setCell ?_ (by (first | omega | (simp; omega) | (simp; done) | fail "sml")) _)
end Go.Proofs.Ytggpnnoldjpmcaa
namespace Go.Proofs.Ytggpnnoldjpmcaa
open Go.RowKit

def shP (m : Mt) : Bool := wkShape m.w
def ShOk (xs : List Mt) (k : Nat) : Prop := ∀ (i : Nat) (h : i < xs.length), i < k → shP xs[i] = true
theorem ShOk.zero (xs : List Mt) : ShOk xs 0 := fun _ _ h => by omega
theorem ShOk.succ {xs : List Mt} {k : Nat} (h : ShOk xs k) (hk : k < xs.length) (hp : shP xs[k] = true) : ShOk xs (k + 1) := fun i hi hik => by
  by_cases hik' : i = k
  · subst hik'; exact hp
  · exact h i hi (by omega)
theorem ShOk.full {xs : List Mt} (h : ShOk xs xs.length) : xs.all shP = true := by
  rw [List.all_eq_true]; intro x hx
  obtain ⟨i, hi, rfl⟩ := List.getElem_of_mem hx
  exact h i hi hi
theorem sh_bad {xs : List Mt} {k : Nat} (hk : k < xs.length) (hp : shP xs[k] = false) : xs.all shP = false := by
  rw [List.all_eq_false]; exact ⟨_, List.getElem_mem hk, by rw [hp]; simp⟩

set_option maxRecDepth 100000 in
set_option maxHeartbeats 1000000 in
theorem haveShapeFn_any (m : Mt) (v : Value) (B : Nat) (w : World) (hm : m.At B w v) (hB : B ≤ w.heap.size) (hn : m.need ≤ 1048576) :
    Calls Try.prog 109 #[v] w fun en w' => en = .returned (.bool (!shP m)) ∧ Below w.heap.size w w' := by
  obtain ⟨a, b, c, rfl, ha, hb, hc⟩ := hm
  have H1 := Lib.hid (show m.w.At B w (.agg #[a, b]) from ⟨a, b, rfl, ha, hb⟩)
  have hn1 : m.w.need ≤ 1048576 := by unfold Mt.need at hn; omega
  clear ha hb hc hn
  go_enter Try.func109, Try.ntmps109
  go_wp2_with fail
  refine (hasShape_any m.w _ B _ (H1.out.to ((Below.refl B w).alloc hB _) (Nat.le_refl _)) hn1).mono ?_
  rintro en w1 ⟨rfl, hb1⟩
  have HB1 := Lib.hid (below_past (hb1.mono (by simp)))
  clear hb1
  cases hE : wkShape m.w with
  | true =>
    go_wp2_with fail
    go_ret
    exact ⟨ret_bool (by unfold shP; rw [hE]; rfl), HB1.out⟩
  | false =>
    go_wp2_with fail
    go_ret
    exact ⟨ret_bool (by unfold shP; rw [hE]; rfl), HB1.out⟩

set_option maxRecDepth 100000 in
set_option maxHeartbeats 1000000 in
theorem indexShape_any (xs : List Mt) (v : Value) (B : Nat) (w : World) (hv : kMt.Rd B w v xs) (hB : B ≤ w.heap.size) (hn : sumMt xs ≤ 1048576) :
    Calls Try.prog 124 #[v, .func (.func 109) #[] #[]] w fun e w' => ∃ r : Int, e = .returned (.int .i64 r) ∧ ((r = -1 ∧ xs.all shP = true) ∨ (0 ≤ r ∧ xs.all shP = false)) ∧ Below w.heap.size w w' := by
  obtain ⟨p, cap, rfl⟩ := hv.form
  obtain ⟨_, _, hm⟩ := hv.max
  unfold maxLen at hm
  have HV := Lib.hid hv
  clear hv
  go_enter Try.func124, Try.ntmps124
  go_wp2_with fail
  go_loopw [8] (fun i wr => ∃ k : Nat, k ≤ xs.length ∧ i = .int .i64 k ∧ RowKit.Hid (ShOk xs k) ∧ Below w.heap.size w wr) (fun i _ => xs.length - (intOf i).toNat)
  case atStart => exact ⟨0, Nat.zero_le _, rfl, Lib.hid (ShOk.zero _), Below.refl _ _⟩
  case round =>
    obtain ⟨k, hk, rfl, HAC, hbw⟩ := hrel
    have hsz := hbw.size
    have HB := Lib.hid hbw
    clear hbw
    by_cases hlt : k < xs.length
    · obtain ⟨b, off, q, c, q', c', r, e, rfl, hb, c0, c1, c2, hin⟩ := kMt_get (HV.out.to (HB.out.mono hB) (Nat.le_refl _)) hlt
      have hgood := Lib.hid (fun h => HAC.out.succ hlt h)
      have hbad := Lib.hid (fun h => sh_bad (xs := xs) hlt h)
      have hsize := sumMt_get xs k hlt
      obtain ⟨x, ex⟩ : ∃ x, x = xs[k] := ⟨_, rfl⟩
      rw [← ex] at c0 c1 c2 hin hgood hbad hsize
      have HIN := Lib.hid hin
      have HSZ := Lib.hid (Nat.le_trans hsize hn)
      clear ex hin HAC hsize
      go_wp2_with fail
      refine (haveShapeFn_any x _ B _ HIN.out (by omega) HSZ.out).mono ?_
      rintro en w1 ⟨rfl, hb1⟩
      have HB1 := Lib.hid (HB.out.trans (hb1.mono hsz))
      clear hb1
      cases hp : shP x with
      | false =>
        have HG := Lib.hid (hbad.out hp)
        clear hgood hbad hp
        go_wp2_with fail
        go_ret
        exact ⟨k, rfl, .inr ⟨by omega, HG.out⟩, HB1.out⟩
      | true =>
        have HG := Lib.hid (hgood.out hp)
        clear hgood hbad hp
        go_wp2_with fail
        go_roundw
        case rel => exact ⟨k + 1, by omega, by go_num, HG, HB1.out⟩
        case measure => simp [intOf]; omega
    · obtain rfl : k = xs.length := by omega
      have HG := Lib.hid HAC.out.full
      go_wp2_with fail
      go_ret
      exact ⟨-1, rfl, .inl ⟨rfl, HG.out⟩, HB.out⟩

set_option maxHeartbeats 400000 in
theorem containsShape_any (xs : List Mt) (v : Value) (B : Nat) (w : World) (hv : kMt.Rd B w v xs) (hB : B ≤ w.heap.size) (hn : sumMt xs ≤ 1048576) :
    Calls Try.prog 108 #[v, .func (.func 109) #[] #[]] w fun e w' => e = .returned (.bool (!xs.all shP)) ∧ Below w.heap.size w w' := by
  go_enter Try.func108, Try.ntmps108
  go_wp2_with fail
  with_reducible refine (indexShape_any xs v B w hv hB hn).mono ?_
  rintro e w1 ⟨r, rfl, hr, hb1⟩
  have HB := Lib.hid hb1
  clear hb1
  rcases hr with ⟨hr, hz⟩ | ⟨hr, hz⟩
  · have HZ := Lib.hid hz
    clear hz
    subst hr
    go_wp2_with fail
    go_ret
    exact ⟨ret_bool (by rw [HZ.out]; rfl), HB.out⟩
  · have HZ := Lib.hid hz
    have q0 : decide (0 ≤ r) = true := decide_eq_true hr
    clear hz
    go_wp2_with fail
    go_ret
    exact ⟨ret_bool (by rw [HZ.out]; rfl), HB.out⟩

set_option maxHeartbeats 400000 in
theorem haveShape_any (xs : List Mt) (v : Value) (B : Nat) (w : World) (hv : kMt.Rd B w v xs) (hB : B ≤ w.heap.size) (hn : sumMt xs ≤ 1048576) :
    Calls Try.prog 78 #[v] w fun e w' => e = .returned (.bool (xs.all shP)) ∧ Below w.heap.size w w' := by
  go_enter Try.func78, Try.ntmps78
  go_wp2_with fail
  with_reducible refine (containsShape_any xs v B w hv hB hn).mono ?_
  rintro e w1 ⟨rfl, hb1⟩
  have HB := Lib.hid hb1
  clear hb1
  cases hE : xs.all shP with
  | true =>
    go_wp2_with fail
    go_ret
    exact ⟨ret_bool hE.symm, HB.out⟩
  | false =>
    go_wp2_with fail
    go_ret
    exact ⟨ret_bool hE.symm, HB.out⟩

set_option maxRecDepth 100000 in
set_option maxHeartbeats 1000000 in
theorem l9Shape_any (xs : List Mt) (v : Value) (B : Nat) (w : World) (hv : kMt.Rd B w v xs) (hB : B ≤ w.heap.size) (hn : sumMt xs ≤ 1048576) :
    Calls Try.prog 73 #[v] w fun e w' => e = .returned (.bool (xs.all shP)) ∧ Below w.heap.size w w' := by
  obtain ⟨p, cap, rfl⟩ := hv.form
  obtain ⟨_, _, hm⟩ := hv.max
  unfold maxLen at hm
  have HV := Lib.hid hv
  clear hv
  go_enter Try.func73, Try.ntmps73
  go_wp2_with fail
  go_loopw [3] (fun i wr => ∃ k : Nat, k ≤ xs.length ∧ i = .int .i64 k ∧ RowKit.Hid (ShOk xs k) ∧ Below w.heap.size w wr) (fun i _ => xs.length - (intOf i).toNat)
  case atStart => exact ⟨0, Nat.zero_le _, rfl, Lib.hid (ShOk.zero _), Below.refl _ _⟩
  case round =>
    obtain ⟨k, hk, rfl, HAC, hbw⟩ := hrel
    have hsz := hbw.size
    have HB := Lib.hid hbw
    clear hbw
    by_cases hlt : k < xs.length
    · obtain ⟨b, off, q, c, q', c', r, e, rfl, hb, c0, c1, c2, hin⟩ := kMt_get (HV.out.to (HB.out.mono hB) (Nat.le_refl _)) hlt
      have hgood := Lib.hid (fun h => HAC.out.succ hlt h)
      have hbad := Lib.hid (fun h => sh_bad (xs := xs) hlt h)
      have hsize := sumMt_get xs k hlt
      obtain ⟨x, ex⟩ : ∃ x, x = xs[k] := ⟨_, rfl⟩
      rw [← ex] at c0 c1 c2 hin hgood hbad hsize
      have HIN := Lib.hid (show x.w.At B wr (.agg #[.slice q x.w.ns.length c, .slice q' x.w.es.length c']) from by obtain ⟨a1, a2, a3, e1, h1, h2, h3⟩ := hin; cases e1; exact ⟨_, _, rfl, h1, h2⟩)
      have HSZ := Lib.hid (show x.w.need ≤ 1048576 by unfold Mt.need at hsize; omega)
      clear ex hin HAC hsize
      go_wp2_with fail
      refine (l5Shape_any x.w _ B _ HIN.out HSZ.out).mono ?_
      rintro en w1 ⟨rfl, hb1⟩
      have HB1 := Lib.hid (HB.out.trans (hb1.mono hsz))
      clear hb1
      cases hp : wkShape x.w with
      | false =>
        have HG := Lib.hid (hbad.out hp)
        clear hgood hbad hp
        go_wp2_with fail
        go_ret
        exact ⟨ret_bool (by rw [HG.out]), HB1.out⟩
      | true =>
        have HG := Lib.hid (hgood.out hp)
        clear hgood hbad hp
        go_wp2_with fail
        go_roundw
        case rel => exact ⟨k + 1, by omega, by go_num, HG, HB1.out⟩
        case measure => simp [intOf]; omega
    · obtain rfl : k = xs.length := by omega
      have HG := Lib.hid HAC.out.full
      go_wp2_with fail
      go_ret
      exact ⟨ret_bool (by rw [HG.out]), HB.out⟩
end Go.Proofs.Ytggpnnoldjpmcaa
namespace Go.Proofs.Ytggpnnoldjpmcaa
open Go.RowKit

/-- A match begins at a node. -/
def fromP (n : Int) (m : Mt) : Bool := match m.w.ns with
  | [] => false
  | a :: _ => a == n
theorem fromP_at {n : Int} {m : Mt} (h : 0 < m.w.ns.length) : fromP n m = (m.w.ns[0] == n) := by
  obtain ⟨⟨ns, es⟩, bs⟩ := m
  cases ns with
  | nil => simp at h
  | cons a l => rfl
def fromR (n : Int) (xs : List Mt) : List Mt := if xs.all shP = true then xs.filter (fromP n) else []
theorem filter_yes {α : Type} {p : α → Bool} {xs : List α} {k : Nat} (hk : k < xs.length) (h : p xs[k] = true) : (xs.take (k + 1)).filter p = (xs.take k).filter p ++ [xs[k]] := by
  rw [List.take_succ_eq_append_getElem hk, List.filter_append]; simp [h]
theorem filter_no {α : Type} {p : α → Bool} {xs : List α} {k : Nat} (hk : k < xs.length) (h : p xs[k] = false) : (xs.take (k + 1)).filter p = (xs.take k).filter p := by
  rw [List.take_succ_eq_append_getElem hk, List.filter_append]; simp [h]
theorem filter_len {α : Type} (p : α → Bool) (xs : List α) (k : Nat) : ((xs.take k).filter p).length ≤ xs.length := Nat.le_trans (List.length_filter_le _ _) (by simp; omega)
theorem shP_pos {m : Mt} (h : shP m = true) : 0 < m.w.ns.length := by have := (wkShape_iff.1 h).1; omega

theorem Mt.has_mk {m : Mt} {a b c : Value} {F1 F2 : List Nat} {w : World} (h1 : m.w.Has (.agg #[a, b]) F1 w) (h2 : kBn.Ow w c m.bs F2) (h3 : ∀ y ∈ F1, y ∉ F2) : m.Has (.agg #[a, b, c]) (F1 ++ F2) w := ⟨a, b, c, F1, F2, rfl, rfl, h1, h2, h3⟩
theorem wkExt_nil (x : Wk) : wkExt x [] [] = x := by
  obtain ⟨ns, es⟩ := x
  simp [wkExt]

end Go.Proofs.Ytggpnnoldjpmcaa
namespace Go.Proofs.Ytggpnnoldjpmcaa
open Go.RowKit

/-- A row of matches in memory of the call's own. -/
def MsPost (R : List Mt) (w : World) (e : Ending) (w' : World) : Prop := ∃ v' F, e = .returned v' ∧ kMt.Ow w' v' R F ∧ (∀ y ∈ F, w.heap.size ≤ y) ∧ Below w.heap.size w w'

end Go.Proofs.Ytggpnnoldjpmcaa
namespace Go.Proofs.Ytggpnnoldjpmcaa
open Go.RowKit

/-- The first and the last node of a match. -/
def endP (m : Mt) : Int × Int := (m.w.ns.headD 0, m.w.ns.getLastD 0)
theorem endP_at {m : Mt} (h : 0 < m.w.ns.length) : endP m = (m.w.ns[0], m.w.ns[m.w.ns.length - 1]) := by
  obtain ⟨⟨ns, es⟩, bs⟩ := m
  unfold endP
  cases ns with
  | nil => simp at h
  | cons a l =>
    simp only [List.headD_cons, List.getElem_cons_zero, Prod.mk.injEq, true_and]
    rw [List.getLastD_eq_getLast?, List.getLast?_eq_getElem?]
    simp
/-- How many of the first k have these ends. -/
def befN (xs : List Mt) (y : Int × Int) (k : Nat) : Nat := ((xs.take k).map endP).count y
theorem befN_zero (xs : List Mt) (y : Int × Int) : befN xs y 0 = 0 := by simp [befN]
theorem befN_succ {xs : List Mt} {k : Nat} (hk : k < xs.length) (y : Int × Int) : befN xs y (k + 1) = befN xs y k + (if endP xs[k] = y then 1 else 0) := by
  unfold befN; rw [List.take_succ_eq_append_getElem hk, List.map_append, List.count_append]
  simp only [List.map_cons, List.map_nil, List.count_cons, List.count_nil, Nat.zero_add]
  congr 1
  by_cases h : endP xs[k] = y <;> simp [h]
theorem befN_le (xs : List Mt) (y : Int × Int) (k : Nat) : befN xs y k ≤ k := by
  unfold befN; refine Nat.le_trans List.count_le_length ?_; simp; omega
/-- The part of a list at the places that are wanted. -/
def accR (p : Nat → Bool) (xs : List Mt) : Nat → List Mt
  | 0 => []
  | k + 1 => accR p xs k ++ (match xs[k]? with
    | some x => if p k = true then [x] else []
    | none => [])
theorem accR_yes {p : Nat → Bool} {xs : List Mt} {k : Nat} (hk : k < xs.length) (h : p k = true) : accR p xs (k + 1) = accR p xs k ++ [xs[k]] := by
  rw [accR, List.getElem?_eq_getElem hk]; simp [h]
theorem accR_no {p : Nat → Bool} {xs : List Mt} {k : Nat} (hk : k < xs.length) (h : p k = false) : accR p xs (k + 1) = accR p xs k := by
  rw [accR, List.getElem?_eq_getElem hk]; simp [h]
theorem accR_small (p : Nat → Bool) (xs : List Mt) : ∀ k, (accR p xs k).length ≤ (xs.take k).length ∧ sumMt (accR p xs k) ≤ sumMt (xs.take k)
  | 0 => by simp [accR, sumMt]
  | k + 1 => by
    obtain ⟨h1, h2⟩ := accR_small p xs k
    by_cases hk : k < xs.length
    · have e1 : (xs.take (k + 1)).length = (xs.take k).length + 1 := by simp; omega
      have e2 := sumMt_succ xs k hk
      cases hp : p k with
      | false => rw [accR_no hk hp]; omega
      | true =>
        rw [accR_yes hk hp]
        have e3 : sumMt (accR p xs k ++ [xs[k]]) = sumMt (accR p xs k) + xs[k].need := by simp [sumMt]
        have e4 : (accR p xs k ++ [xs[k]]).length = (accR p xs k).length + 1 := by simp
        omega
    · have e1 : xs[k]? = none := List.getElem?_eq_none (by omega)
      rw [accR, e1, List.take_of_length_le (show xs.length ≤ k + 1 by omega)]
      rw [List.take_of_length_le (show xs.length ≤ k by omega)] at h1 h2
      simpa using ⟨h1, h2⟩
theorem accR_len (p : Nat → Bool) (xs : List Mt) (k : Nat) : (accR p xs k).length ≤ xs.length := Nat.le_trans (accR_small p xs k).1 (by simp; omega)
def firstP (n : Int) (xs : List Mt) (k : Nat) : Bool := match xs[k]? with
  | none => false
  | some x => decide ((befN xs (endP x) k : Int) < n)
theorem firstP_at {n : Int} {xs : List Mt} {k : Nat} (hk : k < xs.length) : firstP n xs k = decide ((befN xs (endP xs[k]) k : Int) < n) := by
  unfold firstP; rw [List.getElem?_eq_getElem hk]
def okF (n : Int) (xs : List Mt) : Bool := xs.all shP && !decide (n < 0)
def firstR (n : Int) (xs : List Mt) : List Mt := if okF n xs = true then accR (firstP n xs) xs xs.length else []
theorem firstR_small (n : Int) (xs : List Mt) : (firstR n xs).length + sumMt (firstR n xs) ≤ xs.length + sumMt xs := by
  unfold firstR
  split
  · have h := accR_small (firstP n xs) xs xs.length
    rw [List.take_length] at h; omega
  · simp [sumMt]
/-- A row of matches in memory of the call's own, and a bool. -/
def MbPost (R : List Mt) (b : Bool) (w : World) (e : Ending) (w' : World) : Prop := ∃ v' F, e = .returned (.tuple #[v', .bool b]) ∧ kMt.Ow w' v' R F ∧ (∀ y ∈ F, w.heap.size ≤ y) ∧ Below w.heap.size w w'
end Go.Proofs.Ytggpnnoldjpmcaa
namespace Go.Proofs.Ytggpnnoldjpmcaa
open Go.RowKit

def kRI : Kd (List Int) := kInt.row
theorem kRI_rd {B : Nat} {w : World} {x : List Int} {cs : List Value} : kRI.rd B w x cs ↔ ∃ v, cs = [v] ∧ Sl 1 intCells B w v x := by
  constructor
  · rintro ⟨v, rfl, h⟩; exact ⟨v, rfl, kInt_rd.1 h⟩
  · rintro ⟨v, rfl, h⟩; exact ⟨v, rfl, kInt_rd.2 h⟩
theorem kRI_ow {w : World} {x : List Int} {cs : List Value} {F : List Nat} : kRI.ow w x cs F ↔ ∃ v, cs = [v] ∧ OwnSl 1 intCells w v x F := by
  constructor
  · rintro ⟨v, rfl, h⟩; exact ⟨v, rfl, kInt_ow.1 h⟩
  · rintro ⟨v, rfl, h⟩; exact ⟨v, rfl, kInt_ow.2 h⟩
theorem kRI_sz : kRI.sz = 1 := rfl
theorem kRI_get {B : Nat} {w : World} {p : Option Addr} {n cap : Nat} {xs : List (List Int)} (h : kRI.Rd B w (.slice p n cap) xs) {k : Nat} (hk : k < xs.length) :
    ∃ b off q c, p = some ⟨b, off, none⟩ ∧ b < B ∧ w.cell? ⟨b, off + k, none⟩ = some (.slice q xs[k].length c) ∧ Sl 1 intCells B w (.slice q xs[k].length c) xs[k] := by
  obtain ⟨b, off, cs, e, hl, hc, hr⟩ := h.get hk
  obtain ⟨v, rfl, hs⟩ := kRI_rd.1 hr
  obtain ⟨q, c, rfl⟩ := hs.form
  have := hc 0 _ rfl
  rw [kRI_sz, Nat.mul_one, Nat.add_zero] at this
  exact ⟨b, off, q, c, e, hl, this, hs⟩
def riSum (xs : List (List Int)) : Nat := (xs.map List.length).sum
theorem riSum_succ (xs : List (List Int)) (k : Nat) (h : k < xs.length) : riSum (xs.take (k + 1)) = riSum (xs.take k) + xs[k].length := by
  unfold riSum; rw [List.take_succ_eq_append_getElem h, List.map_append, List.sum_append]; simp only [List.map_cons, List.map_nil, List.sum_cons, List.sum_nil, Nat.add_zero]
theorem riSum_le (xs : List (List Int)) (k : Nat) : riSum (xs.take k) ≤ riSum xs := by
  unfold riSum
  have := congrArg (fun l => (l.map List.length).sum) (List.take_append_drop k xs)
  simp only [List.map_append, List.sum_append] at this; omega
def riO (xs : List (List Int)) (m : Int) (k : Nat) : Int := m + riSum (xs.take k)
def riM (xs : List (List Int)) (m : Int) (k : Nat) : List Int := match xs[k]? with
  | none => []
  | some x => (List.range x.length).map (mkInt (riO xs m k))
theorem riM_at {xs : List (List Int)} {m : Int} {k : Nat} (h : k < xs.length) : riM xs m k = (List.range xs[k].length).map (mkInt (riO xs m k)) := by
  unfold riM; rw [List.getElem?_eq_getElem h]
theorem riO_succ {xs : List (List Int)} {m : Int} {k : Nat} (h : k < xs.length) : riO xs m (k + 1) = riO xs m k + xs[k].length := by
  unfold riO; rw [riSum_succ xs k h]; push_cast; omega
theorem riO_ge {xs : List (List Int)} {m : Int} {k : Nat} : m ≤ riO xs m k := by unfold riO; omega
def riMarks (xs : List (List Int)) (m : Int) : List (List Int) := (List.range xs.length).map (riM xs m)
theorem riMarks_len (xs : List (List Int)) (m : Int) : (riMarks xs m).length = xs.length := by simp [riMarks]
theorem riO_end (xs : List (List Int)) (m : Int) : riO xs m xs.length = m + riSum xs := by unfold riO; rw [List.take_length]

set_option maxRecDepth 100000 in
set_option maxHeartbeats 1000000 in
theorem eqIntSS_any (xs : List (List Int)) (v v' : Value) (B : Nat) (w : World) (hv : kRI.Rd B w v xs) (hv' : kRI.Rd B w v' xs) (hB : B ≤ w.heap.size) :
    Calls Try.prog 37 #[v, v'] w fun e w' => e = .returned (.bool true) ∧ Below w.heap.size w w' := by
  obtain ⟨p, cap, rfl⟩ := hv.form
  obtain ⟨p', cap', rfl⟩ := hv'.form
  obtain ⟨_, _, hm⟩ := hv.max
  obtain ⟨_, _, hm'⟩ := hv'.max
  have hl := hv.max.2.1
  unfold maxLen at hm hm'
  have HV := Lib.hid hv
  have HV' := Lib.hid hv'
  clear hv hv'
  go_enter Try.func37, Try.ntmps37
  go_wp2_with fail
  go_loopw [5] (fun i wr => ∃ k : Nat, k ≤ xs.length ∧ i = .int .i64 k ∧ Below w.heap.size w wr) (fun i _ => xs.length - (intOf i).toNat)
  case atStart => exact ⟨0, Nat.zero_le _, rfl, Below.refl _ _⟩
  case round =>
    obtain ⟨k, hk, rfl, hbw⟩ := hrel
    have hsz := hbw.size
    have HB := Lib.hid hbw
    clear hbw
    by_cases hlt2 : k < xs.length
    · obtain ⟨b, off, q, c, rfl, hb, c0, hin⟩ := kRI_get (HV.out.to (HB.out.mono hB) (Nat.le_refl _)) hlt2
      obtain ⟨b', off', q', c', rfl, hb', d0, hin'⟩ := kRI_get (HV'.out.to (HB.out.mono hB) (Nat.le_refl _)) hlt2
      obtain ⟨x, ex⟩ : ∃ x, x = xs[k] := ⟨_, rfl⟩
      rw [← ex] at c0 d0 hin hin'
      have H1 := Lib.hid (hin.below (Below.refl B wr).drew)
      have H2 := Lib.hid (hin'.below (Below.refl B wr).drew)
      clear ex hin hin'
      go_wp2_with fail
      go_still_tail 8, (by kernel_rfl)
      go_wp2_with fail
      refine (eqIntS_any x _ _ B _ H1.out H2.out (by show B ≤ wr.heap.size; omega)).mono ?_
      rintro en w' ⟨rfl, hb1⟩
      have HB1 := Lib.hid (HB.out.drew.trans (hb1.mono hsz))
      clear hb1
      go_wp2_with fail
      go_roundw
      case rel => exact ⟨k + 1, by omega, by go_num, HB1.out⟩
      case measure => simp [intOf]; omega
    · obtain rfl : k = xs.length := by omega
      go_wp2_with fail
      go_ret
      exact ⟨rfl, HB.out⟩

set_option maxRecDepth 100000 in
set_option maxHeartbeats 2000000 in
theorem markIntSS_any (xs : List (List Int)) (v : Value) (F : List Nat) (m : Int) (w : World) (hv : kRI.Ow w v xs F) (hm : 1 ≤ m) (hb : m + riSum xs ≤ 90000000) :
    Calls Try.prog 38 #[v, .int .i64 m] w fun e w' => e = .returned (.int .i64 (m + riSum xs)) ∧ kRI.Ow w' v (riMarks xs m) F ∧ Chg F w w' := by
  obtain ⟨p, cap, rfl⟩ := hv.form
  obtain ⟨_, hm1, hm2⟩ := hv.rd.max
  unfold maxLen at hm2
  have HV := Lib.hid hv
  have HB := Lib.hid hb
  clear hv hb
  go_enter Try.func38, Try.ntmps38
  go_wp2_with fail
  go_loopw [1, 5] (fun kk i wr => ∃ (k : Nat), k ≤ xs.length ∧ i = .int .i64 k ∧ kk = .int .i64 (riO xs m k) ∧ RowKit.Hid (kRI.Ow wr (.slice p xs.length cap) (half (riM xs m) xs k) F) ∧ RowKit.Hid (Chg F w wr)) (fun _ i _ => xs.length - (intOf i).toNat)
  case atStart => exact ⟨0, Nat.zero_le _, rfl, congrArg (Value.int .i64) (by simp [riO, riSum]), Lib.hid (by rw [half_zero]; exact HV.out), Lib.hid (Chg.refl _ _)⟩
  case round =>
    obtain ⟨k, hk, rfl, rfl, HO, HC⟩ := hrel
    have ht : 1 ≤ riO xs m k := by have := riO_ge (xs := xs) (m := m) (k := k); omega
    obtain ⟨t, et⟩ : ∃ t, t = riO xs m k := ⟨_, rfl⟩
    obtain ⟨ys, ey⟩ : ∃ ys, ys = half (riM xs m) xs k := ⟨_, rfl⟩
    have hyl : ys.length = xs.length := by rw [ey]; exact half_length _ _ hk
    rw [← et] at ht ⊢
    rw [← ey] at HO
    by_cases hlt : k < xs.length
    · have hltY : k < ys.length := by rw [hyl]; exact hlt
      have hek : ys[k] = xs[k] := by simp only [ey]; exact half_at _ _ hlt _
      obtain ⟨b, off, cs, F1, rfl, hbF, hbk, hsub, hbl, hfz, hcs, how, hback⟩ := HO.out.upd hltY
      rw [hek] at how
      have hbound : t + xs[k].length ≤ 90000000 := by
        have h2 := HB.out
        have h4 : t = m + riSum (xs.take k) := et
        have h5 := riSum_succ xs k hlt
        have h6 := riSum_le xs (k + 1)
        omega
      have HSET := Lib.hid (show ys.set k ((List.range xs[k].length).map (mkInt t)) = half (riM xs m) xs (k + 1) by rw [ey, ← half_succ _ _ hlt, riM_at hlt, ← et])
      have HNX := Lib.hid (show riO xs m (k + 1) = t + xs[k].length by rw [riO_succ hlt, ← et])
      obtain ⟨x, ex⟩ : ∃ x, x = xs[k] := ⟨_, rfl⟩
      rw [← ex] at how hbound HSET HNX
      obtain ⟨s, rfl, on⟩ := kRI_ow.1 how
      obtain ⟨q, d, rfl⟩ := on.sl.form
      have c0 := hcs 0 _ rfl
      rw [kRI_sz, Nat.mul_one, Nat.add_zero] at c0
      have HBACK := Lib.hid hback
      have HON := Lib.hid on
      have HFZ := Lib.hid hfz
      have HSUB := Lib.hid hsub
      have HBK := Lib.hid hbk
      have hkl : (k : Int) < (xs.length : Int) := by omega
      clear hback on hfz hsub hbF ex hek hcs how HO ey hltY hyl et hbk
      go_wp2_with fail
      refine (markIntS_any _ _ F1 t wr HON.out ht (by omega)).mono ?_
      rintro e w1 ⟨rfl, hk1, hc1⟩
      have HEND := Lib.hid (show kRI.Ow w1 (.slice (some ⟨b, off, none⟩) xs.length cap) (ys.set k ((List.range x.length).map (mkInt t))) F ∧ Chg F w w1 from by
        refine ⟨HBACK.out w1 _ [.slice q x.length d] (hc1.mono (fun y hy => List.mem_cons_of_mem _ hy)) (fun o => ?_) (kRI_ow.2 ⟨_, rfl, hk1⟩) (fun j u hu => ?_) (fun o _ => World.cell?_of_block (w := wr) (a := ⟨b, o, none⟩) (hc1.block b hbl HBK.out)), HC.out.trans (hc1.mono HSUB.out)⟩
        · exact hc1.frozenOf HBK.out hbl (HFZ.out o)
        · match j, hu with
          | 0, hu => simp at hu; subst hu; rw [kRI_sz, Nat.mul_one, Nat.add_zero]; exact hc1.cellOf HBK.out c0
          | j + 1, hu => simp at hu)
      clear hk1 hc1
      go_wp2_with fail
      go_roundw
      case rel =>
        exact ⟨k + 1, by omega, by go_num, congrArg (Value.int .i64) (by rw [HNX.out]), Lib.hid (by rw [← HSET.out]; exact HEND.out.1), Lib.hid HEND.out.2⟩
      case measure => simp [intOf]; omega
    · obtain rfl : k = xs.length := by omega
      have HE := Lib.hid (show kRI.Ow wr (.slice p xs.length cap) (riMarks xs m) F by rw [show riMarks xs m = half (riM xs m) xs xs.length from (half_full _ _).symm, ← ey]; exact HO.out)
      have hte : t = m + riSum xs := et.trans (riO_end xs m)
      go_wp2_with fail
      go_ret
      exact ⟨by rw [hte]; rfl, HE.out, HC.out⟩

set_option maxRecDepth 100000 in
set_option maxHeartbeats 2000000 in
theorem heldIntSS_any (xs : List (List Int)) (v : Value) (m : Int) (B : Nat) (w : World) (hv : kRI.Rd B w v (riMarks xs m)) (hB : B ≤ w.heap.size) (hm : 1 ≤ m) (hb : m + riSum xs ≤ 90000000) :
    Calls Try.prog 39 #[v, .int .i64 m] w fun e w' => e = .returned (.int .i64 (m + riSum xs)) ∧ Below w.heap.size w w' := by
  obtain ⟨p, cap, hve⟩ := hv.form
  obtain ⟨_, hm1, hm2⟩ := (hve ▸ hv).max
  have hlen := riMarks_len xs m
  rw [hlen] at hve
  subst hve
  unfold maxLen at hm2
  have HV := Lib.hid hv
  have HB := Lib.hid hb
  clear hv hb
  go_enter Try.func39, Try.ntmps39
  go_wp2_with fail
  go_loopw [1, 5] (fun kk i wr => ∃ k : Nat, k ≤ xs.length ∧ i = .int .i64 k ∧ kk = .int .i64 (riO xs m k) ∧ Below w.heap.size w wr) (fun _ i _ => xs.length - (intOf i).toNat)
  case atStart => exact ⟨0, Nat.zero_le _, rfl, congrArg (Value.int .i64) (by simp [riO, riSum]), Below.refl _ _⟩
  case round =>
    obtain ⟨k, hk, rfl, rfl, hbw⟩ := hrel
    have hsz := hbw.size
    have HBW := Lib.hid hbw
    clear hbw
    have ht : 1 ≤ riO xs m k := by have := riO_ge (xs := xs) (m := m) (k := k); omega
    obtain ⟨t, et⟩ : ∃ t, t = riO xs m k := ⟨_, rfl⟩
    rw [← et] at ht ⊢
    by_cases hlt : k < xs.length
    · have hltM : k < (riMarks xs m).length := by rw [hlen]; exact hlt
      obtain ⟨b, off, q, c, rfl, hb', c0, hin⟩ := kRI_get (HV.out.to (HBW.out.mono hB) (Nat.le_refl _)) hltM
      have hgx : (riMarks xs m)[k] = (List.range xs[k].length).map (mkInt t) := by
        simp only [riMarks, List.getElem_map, List.getElem_range, riM_at hlt, ← et]
      rw [hgx] at c0 hin
      have hbound : t + xs[k].length ≤ 90000000 := by
        have h2 := HB.out
        have h4 : t = m + riSum (xs.take k) := et
        have h5 := riSum_succ xs k hlt
        have h6 := riSum_le xs (k + 1)
        omega
      have HNX := Lib.hid (show riO xs m (k + 1) = t + xs[k].length by rw [riO_succ hlt, ← et])
      obtain ⟨n, en⟩ : ∃ n, n = xs[k].length := ⟨_, rfl⟩
      rw [← en] at c0 hin hbound HNX
      rw [show ((List.range n).map (mkInt t)).length = n by simp] at c0 hin
      have HIN := Lib.hid hin
      clear hgx en hin hltM et
      have hkl : (k : Int) < (xs.length : Int) := by omega
      have g1 : ¬ (t + (n : Int) < 0) := by omega
      go_wp2_with fail
      refine (heldIntS_any _ _ t B wr HIN.out (by omega) ht (by omega)).mono ?_
      rintro en w1 ⟨rfl, hb1⟩
      have HR1 := Lib.hid (HBW.out.trans (hb1.mono hsz))
      clear hb1
      go_wp2_with fail
      go_roundw
      case rel => exact ⟨k + 1, by omega, by go_num, congrArg (Value.int .i64) (by rw [HNX.out]), HR1.out⟩
      case measure => simp [intOf]; omega
    · obtain rfl : k = xs.length := by omega
      have hte : t = m + riSum xs := et.trans (riO_end xs m)
      go_wp2_with fail
      go_ret
      exact ⟨by rw [hte]; rfl, HBW.out⟩
end Go.Proofs.Ytggpnnoldjpmcaa
namespace Go.Proofs.Ytggpnnoldjpmcaa
open Go.RowKit

/-- The ends of the first k, each once, as they come. -/
def feR (xs : List Mt) : Nat → List (Int × Int)
  | 0 => []
  | k + 1 => feR xs k ++ (match xs[k]? with
    | some x => if befN xs (endP x) k = 0 then [endP x] else []
    | none => [])
theorem feR_new {xs : List Mt} {k : Nat} (hk : k < xs.length) (h : befN xs (endP xs[k]) k = 0) : feR xs (k + 1) = feR xs k ++ [endP xs[k]] := by
  rw [feR, List.getElem?_eq_getElem hk]; simp [h]
theorem feR_old {xs : List Mt} {k : Nat} (hk : k < xs.length) (h : befN xs (endP xs[k]) k ≠ 0) : feR xs (k + 1) = feR xs k := by
  rw [feR, List.getElem?_eq_getElem hk]; simp [h]
theorem feR_len (xs : List Mt) : ∀ k, (feR xs k).length ≤ k
  | 0 => by simp [feR]
  | k + 1 => by
    have ih := feR_len xs k
    rw [feR, List.length_append]
    split
    · split <;> simp <;> omega
    · simp; omega
theorem feR_mem (xs : List Mt) (y : Int × Int) : ∀ k, k ≤ xs.length → (y ∈ feR xs k ↔ befN xs y k ≠ 0)
  | 0, _ => by simp [feR, befN_zero]
  | k + 1, hk => by
    have hlt : k < xs.length := by omega
    have ih := feR_mem xs y k (by omega)
    have hs := befN_succ hlt y
    by_cases h0 : befN xs (endP xs[k]) k = 0
    · rw [feR_new hlt h0, List.mem_append, List.mem_singleton, ih, hs]
      by_cases he : endP xs[k] = y
      · simp [he]
      · simp [he, show ¬ y = endP xs[k] from fun h => he h.symm]
    · rw [feR_old hlt h0, ih, hs]
      by_cases he : endP xs[k] = y
      · subst he; simp [h0]
      · simp [he]
theorem feR_nodup (xs : List Mt) : ∀ k, k ≤ xs.length → (feR xs k).Nodup
  | 0, _ => by simp [feR]
  | k + 1, hk => by
    have hlt : k < xs.length := by omega
    have ih := feR_nodup xs k (by omega)
    by_cases h0 : befN xs (endP xs[k]) k = 0
    · rw [feR_new hlt h0]
      refine List.nodup_append.2 ⟨ih, by simp, fun a ha b hb e => ?_⟩
      simp at hb
      subst hb
      subst e
      exact (feR_mem xs _ k (by omega)).1 ha h0
    · rw [feR_old hlt h0]; exact ih
def rowE (t : Int × Int → Nat) (y : Int × Int) : List Int := [y.1, y.2, (t y : Int)]
def ceR (xs : List Mt) : List (List Int) := if xs.all shP = true then (feR xs xs.length).map (rowE fun y => befN xs y xs.length) else []
theorem riSum_rows (t : Int × Int → Nat) (l : List (Int × Int)) : riSum (l.map (rowE t)) = 3 * l.length := by
  induction l with
  | nil => simp [riSum]
  | cons y l ih => simp only [riSum, List.map_cons, List.sum_cons, List.length_cons] at ih ⊢; rw [ih]; simp [rowE]; omega
theorem ceR_small (xs : List Mt) : riSum (ceR xs) ≤ 3 * xs.length := by
  unfold ceR
  split
  · rw [riSum_rows]; have := feR_len xs xs.length; omega
  · simp [riSum]
def RsPost (R : List (List Int)) (w : World) (e : Ending) (w' : World) : Prop := ∃ v' F, e = .returned v' ∧ kRI.Ow w' v' R F ∧ (∀ y ∈ F, w.heap.size ≤ y) ∧ Below w.heap.size w w'
/-- A row of three ints in a block that was made for it. -/
theorem own3 (w : World) (a b c : Int) (T : TypeId) : OwnSl 1 intCells (w.alloc (.cells #[.int .i64 a, .int .i64 b, .int .i64 c] T)) (.slice (some ⟨w.heap.size, 0, none⟩) 3 3) [a, b, c] [w.heap.size] := by
  refine ⟨_, 3, 3, rfl, rfl, Nat.le_refl _, by unfold maxLen; omega, .inr ⟨w.heap.size, 0, rfl, rfl, by simp, fun o => ?_, fun i hi j x hx => ?_⟩⟩
  · exact World.frozen?_alloc_at _ _ _ _ rfl
  · match j, hx with
    | 0, hx =>
      simp [intCells] at hx
      subst hx
      match i, hi with
      | 0, _ => simp [go_sem]
      | 1, _ => simp [go_sem]
      | 2, _ => simp [go_sem]
      | i + 3, hi => simp at hi; omega
    | j + 1, hx => simp [intCells] at hx
theorem infoRowI : (Try.prog.info? 43).map (fun i => (i.zero, i.size, i.bytes)) = some (some (.slice none 0 0), 1, 24) := by kernel_rfl
/-- One more row, behind the others. -/
theorem appRow {w : World} {v : Value} {xs : List (List Int)} {F : List Nat} (h : kRI.OwB 43 w v xs F) (ty : TypeId) (y : List Int) (p : Option Addr) (n c0 : Nat) (G : List Nat) (g c : Nat) (ho : OwnSl 1 intCells w (.slice p n c0) y G) (hd : ∀ x ∈ F, x ∉ G)
    (h0 : w.cell? ⟨g, 0, none⟩ = some (.slice p n c0)) (h63 : xs.length ≤ 1048576) :
    ∃ v' w', (Builtin.append_ #[64, 64] ty #[v, .slice (some ⟨g, 0, none⟩) 1 c]).run Try.prog w = .ok v' w' ∧ ∃ F', kRI.OwB 43 w' v' (xs ++ [y]) F' ∧ (∀ x ∈ F', x ∈ F ∨ x ∈ G ∨ w.heap.size ≤ x) ∧ Chg F w w' := by
  obtain ⟨i, hi, hzz⟩ := Option.map_eq_some_iff.1 infoRowI
  simp only [Prod.mk.injEq] at hzz
  obtain ⟨hz, hs, hb⟩ := hzz
  refine Kd.OwB.append (K := kRI) 64 ty 43 i _ 24 Try.underlying64 hi hz hs hb rfl h y [.slice p n c0] G g c (kRI_ow.2 ⟨_, rfl, ho⟩) ?_ hd ?_ (by omega) (by omega)
  · intro u hu
    simp only [List.mem_singleton] at hu
    subst hu; rfl
  · intro j u hu
    match j, hu with
    | 0, hu => simp at hu; subst hu; exact h0
    | j + 1, hu => simp at hu
end Go.Proofs.Ytggpnnoldjpmcaa
namespace Go.Proofs.Ytggpnnoldjpmcaa
open Go.RowKit

section
variable {P : Program} {o : Oper} {a : Act} {w w' : World} {K : Act → World → Prop} {Q : Exit → Act → World → Prop}
theorem opwp_lookup {t : TypeId} {m y : Operand} {k v : Value} {b : Nat} (hop : o.op = Op.lookup t m y false) (hm : a.eval m = .map (some b)) (hy : a.eval y = k) (hr : (Instr.lookup t (.map (some b)) k false).run P w = .ok v w') (h : K (a.put o.dst v) w') : Oper.wp P o a w K Q := by
  unfold Oper.wp
  simp [execOp, hop, hm, hy, hr, Result.andThen]
  exact h
theorem opwp_entry {t : TypeId} {m y : Operand} {k v : Value} {b : Nat} (hop : o.op = Op.mapEntry t m y) (hm : a.eval m = .map (some b)) (hy : a.eval y = k) (hr : (Instr.mapEntry t (.map (some b)) k).run P w = .ok v w') (h : K (a.put o.dst v) w') : Oper.wp P o a w K Q := by
  unfold Oper.wp
  simp [execOp, hop, hm, hy, hr, Result.andThen]
  exact h
theorem opwp_estore {t : TypeId} {m s x : Operand} {st v : Value} {b : Nat} (hop : o.op = Op.entryStore t m s x) (hm : a.eval m = .map (some b)) (hs : a.eval s = st) (hx : a.eval x = v) (hr : (Instr.entryStore t (.map (some b)) st v).run P w = .ok () w') (h : K (a.put o.dst undef) w') : Oper.wp P o a w K Q := by
  unfold Oper.wp
  simp [execOp, hop, hm, hs, hx, hr, Result.andThen]
  exact h
end
/-- As often as a pair is in a list. -/
def cntV (S : List (Int × Int)) : Int × Int → Value := fun y => .int .i64 (S.count y : Int)
theorem atM_cnt (S : List (Int × Int)) (y : Int × Int) : atM S (cntV S) (.int .i64 0) y = .int .i64 (S.count y : Int) := by
  unfold atM cntV
  split
  · rfl
  · rename_i h; rw [List.count_eq_zero.2 h]; rfl
theorem atM_upd (S : List (Int × Int)) (g : Int × Int → Value) (z v : Value) (y : Int × Int) : atM (y :: S) (updM g y v) z y = v := by
  simp [atM, updM]
theorem cnt_upd (S : List (Int × Int)) (y : Int × Int) (v : Value) : updM (updM (cntV S) y v) y (.int .i64 ((S.count y : Int) + 1)) = cntV (y :: S) := by
  funext z
  unfold updM cntV
  by_cases h : z = y
  · subst h; simp
  · simp [h, show ¬ y = z from fun e => h e.symm]

set_option maxRecDepth 100000 in
set_option maxHeartbeats 2000000 in
theorem endsOf_any (m : Mt) (v : Value) (B : Nat) (w : World) (hm : m.w.At B w v) (hB : B ≤ w.heap.size) (hs : shP m = true) :
    Calls Try.prog 79 #[v] w fun en w' => en = .returned (endV (endP m)) ∧ Below w.heap.size w w' := by
  have hp := shP_pos hs
  have hsh := (wkShape_iff.1 hs).1
  have hlw : m.w.es.length < m.w.ns.length := by omega
  have HM := Lib.hid hm
  obtain ⟨a, b, rfl, ha, hb⟩ := hm
  obtain ⟨pn, cn, rfl⟩ := ha.form
  obtain ⟨pe, ce, rfl⟩ := hb.form
  have HR := Lib.hid (show endV (endP m) = .agg #[.int .i64 m.w.ns[0], .int .i64 (m.w.ns[m.w.es.length]'(by omega))] by
    rw [endP_at hp]; unfold endV; simp only [hsh, Nat.add_sub_cancel])
  obtain ⟨b0, off, rfl, hb0, c0⟩ := ha.it hp
  simp only [Nat.add_zero] at c0
  obtain ⟨x, ex⟩ : ∃ x, x = m.w.ns[0] := ⟨_, rfl⟩
  obtain ⟨y, ey⟩ : ∃ y, y = m.w.ns[m.w.es.length]'(by omega) := ⟨_, rfl⟩
  rw [← ex] at HR c0
  rw [← ey] at HR
  have hp' : (0 : Int) < (m.w.ns.length : Int) := by omega
  obtain ⟨W, eW⟩ : ∃ W, W = (w.alloc (.cells #[.slice (some ⟨b0, off, none⟩) m.w.ns.length cn, .slice pe m.w.es.length ce] 50)).alloc (.cells #[.int .i64 0, .int .i64 0] 113) := ⟨_, rfl⟩
  have kW : Below w.heap.size w W := by rw [eW]; exact ((Below.refl _ _).alloc (Nat.le_refl _) _).alloc (by simp) _
  have sW : w.heap.size + 1 < W.heap.size := by rw [eW]; simp
  have HK := Lib.hid (fun (E : World) (hE : Below (w.heap.size + 1) W E) => (⟨keepc hE (by omega) (by rw [eW]; simp [go_sem]), keepc hE (by omega) (by rw [eW]; simp [go_sem]), keepc (kW.trans (hE.mono (by omega))) (by omega) c0⟩ : E.cell? ⟨w.heap.size, 0, none⟩ = some (.slice (some ⟨b0, off, none⟩) m.w.ns.length cn) ∧ E.cell? ⟨w.heap.size, 1, none⟩ = some (.slice pe m.w.es.length ce) ∧ E.cell? ⟨b0, off, none⟩ = some (.int .i64 x)))
  have HKR := Lib.hid (fun (E : World) (hE : Below W.heap.size W E) => (⟨keepc hE sW (by rw [eW]; simp [go_sem]), keepc hE sW (by rw [eW]; simp [go_sem]), (hE.frozen (p := ⟨w.heap.size + 1, 0, none⟩) sW).trans (by rw [eW]; exact World.frozen?_alloc_at _ _ _ _ (by simp)), (hE.frozen (p := ⟨w.heap.size + 1, 1, none⟩) sW).trans (by rw [eW]; exact World.frozen?_alloc_at _ _ _ _ (by simp))⟩ : E.cell? ⟨w.heap.size + 1, 0, none⟩ = some (.int .i64 0) ∧ E.cell? ⟨w.heap.size + 1, 1, none⟩ = some (.int .i64 0) ∧ E.frozen? ⟨w.heap.size + 1, 0, none⟩ = false ∧ E.frozen? ⟨w.heap.size + 1, 1, none⟩ = false))
  have CL := Lib.hid (fun (E : World) (hE : Below W.heap.size W E) => (by rw [ey]; exact lastNode_any m.w (.agg #[.slice (some ⟨b0, off, none⟩) m.w.ns.length cn, .slice pe m.w.es.length ce]) B E (HM.out.to ((kW.trans (hE.mono kW.size)).mono hB) (Nat.le_refl _)) (by omega) : Calls Try.prog 111 #[.agg #[.slice (some ⟨b0, off, none⟩) m.w.ns.length cn, .slice pe m.w.es.length ce]] E (fun en w' => en = .returned (.int .i64 y) ∧ Below E.heap.size E w')))
  have EW := Lib.hid eW
  have r0 := Below.refl W.heap.size W
  have r1 := Below.refl (w.heap.size + 1) W
  clear eW c0 ha hb ex ey hs hsh
  go_enter Try.func79, Try.ntmps79
  go_upto_region 1 with fail
  rw [← EW.out]
  go_region_held3 (fun w' => w'.cell? ⟨w.heap.size, 0, none⟩ = some (.slice (some ⟨b0, off, none⟩) m.w.ns.length cn) ∧ w'.cell? ⟨w.heap.size, 1, none⟩ = some (.slice pe m.w.es.length ce) ∧ w'.cell? ⟨b0, off, none⟩ = some (.int .i64 x))
    (exact HK.out _ (show Below (w.heap.size + 1) W _ by ((repeat (first | with_reducible assumption | with_reducible exact Below.refl _ _ | refine Below.setCell ?_ (by (first | omega | (simp; omega) | (simp; done) | fail "sml")) _ | refine Below.drew ?_ | refine Below.alloc ?_ (by (first | omega | (simp; omega) | (simp; done) | fail "sml")) _)); first | done | fail "chs")))
    (first | (go_at_call 111; with_reducible refine (CL.out _ (show Below W.heap.size W _ by ((repeat (first | with_reducible assumption | with_reducible exact Below.refl _ _ | refine Below.setCell ?_ (by (first | omega | (simp; omega) | (simp; done) | fail "sml")) _ | refine Below.drew ?_ | refine Below.alloc ?_ (by (first | omega | (simp; omega) | (simp; done) | fail "sml")) _)); first | done | fail "chs"))).mono ?_; rintro en wa ⟨rfl, hb⟩; have ra := Below.trans (show Below W.heap.size W _ by ((repeat (first | with_reducible assumption | with_reducible exact Below.refl _ _ | refine Below.setCell ?_ (by (first | omega | (simp; omega) | (simp; done) | fail "sml")) _ | refine Below.drew ?_ | refine Below.alloc ?_ (by (first | omega | (simp; omega) | (simp; done) | fail "sml")) _)); first | done | fail "chs")) (hb.mono (by (first | omega | (simp; omega) | (simp; done) | fail "sml"))); have za := ra.size; have ra1 := ra.mono (show w.heap.size + 1 ≤ W.heap.size by omega); obtain ⟨y0, y1, y2, y3⟩ := HKR.out _ ra; clear hb) | fail "no arm")
  all_goals go_wp2_with fail
  refine bodyPost_ret (v := .agg #[.int .i64 x, .int .i64 y]) (by simp [results, Try.results79, go_sem, y0, y1]) rfl ⟨by rw [HR.out], ?_⟩
  refine (kW.trans (ra.mono (by omega))).trans ?_
  repeat (first | with_reducible exact Below.refl _ _ | refine Below.setCell ?_ (by (first | omega | (simp; omega) | (simp; done) | fail "sml")) _)
end Go.Proofs.Ytggpnnoldjpmcaa
namespace Go.Proofs.Ytggpnnoldjpmcaa
open Go.RowKit

section
variable {P : Program} {o : Oper} {a : Act} {w w' : World} {K : Act → World → Prop} {Q : Exit → Act → World → Prop}
theorem opwp_lookup2 {t : TypeId} {m y : Operand} {k v : Value} {b : Nat} (hop : o.op = Op.lookup t m y true) (hm : a.eval m = .map (some b)) (hy : a.eval y = k) (hr : (Instr.lookup t (.map (some b)) k true).run P w = .ok v w') (h : K (a.put o.dst v) w') : Oper.wp P o a w K Q := by
  unfold Oper.wp
  simp [execOp, hop, hm, hy, hr, Result.andThen]
  exact h
theorem opwp_update {t : TypeId} {m s x : Operand} {k v : Value} {b : Nat} (hop : o.op = Op.mapUpdate t m s x) (hm : a.eval m = .map (some b)) (hs : a.eval s = k) (hx : a.eval x = v) (hr : (Instr.mapUpdate t (.map (some b)) k v).run P w = .ok () w') (h : K (a.put o.dst undef) w') : Oper.wp P o a w K Q := by
  unfold Oper.wp
  simp [execOp, hop, hm, hs, hx, hr, Result.andThen]
  exact h
end
/-- The places of pairs in a list. -/
def ixV (l : List (Int × Int)) : Int × Int → Value := fun y => .int .i64 (l.idxOf y : Int)
theorem IMap.congr {w : World} {b : Nat} {S : List (Int × Int)} {g g' : Int × Int → Value} (h : IMap w b S g) (hg : ∀ y ∈ S, g y = g' y) : IMap w b S g' := by
  obtain ⟨es, c, h1, h2⟩ := h
  exact ⟨es, c, h1, ⟨fun i x hx => by obtain ⟨y, hy, e1, e2⟩ := h2.keys i x hx; exact ⟨y, hy, e1, e2.trans (hg y hy)⟩, h2.dom, h2.inj, h2.born, h2.binj, h2.ok⟩⟩
theorem ix_app {l : List (Int × Int)} {z : Int × Int} (hz : z ∉ l) : ∀ y ∈ z :: l.reverse, updM (ixV l) z (.int .i64 (l.length : Int)) y = ixV (l ++ [z]) y := by
  intro y hy
  unfold updM ixV
  by_cases h : y = z
  · subst h; simp [List.idxOf_append, hz]
  · have hm : y ∈ l := by simpa [h] using hy
    simp [h, List.idxOf_append, hm]
theorem rows_set {l : List (Int × Int)} (hl : l.Nodup) {Y : Int × Int} {t t' : Int × Int → Nat} (ht : ∀ z, z ≠ Y → t' z = t z) : (l.map (rowE t)).set (l.idxOf Y) (rowE t' Y) = l.map (rowE t') := by
  refine List.ext_getElem (by simp) (fun n h1 h2 => ?_)
  have hn : n < l.length := by simpa using h2
  rw [List.getElem_set, List.getElem_map, List.getElem_map]
  by_cases h : l.idxOf Y = n
  · subst h
    rw [if_pos rfl, List.getElem_idxOf]
  · rw [if_neg h]
    have hne : l[n] ≠ Y := fun e => h (by rw [← e]; exact hl.idxOf_getElem n hn)
    unfold rowE
    rw [ht _ hne]
def rowsK (xs : List Mt) (k : Nat) : List (List Int) := (feR xs k).map (rowE fun y => befN xs y k)
/-- After the row is there, before its count is raised. -/
def rowsH (xs : List Mt) (k : Nat) : List (List Int) := (feR xs (k + 1)).map (rowE fun y => befN xs y k)
theorem rowsK_end (xs : List Mt) (h : xs.all shP = true) : rowsK xs xs.length = ceR xs := by unfold ceR rowsK; rw [if_pos h]
theorem rowsH_new {xs : List Mt} {k : Nat} (hk : k < xs.length) (h : befN xs (endP xs[k]) k = 0) : rowsH xs k = rowsK xs k ++ [[(endP xs[k]).1, (endP xs[k]).2, 0]] := by
  unfold rowsH rowsK; rw [feR_new hk h, List.map_append]; simp [rowE, h]
theorem rowsH_old {xs : List Mt} {k : Nat} (hk : k < xs.length) (h : befN xs (endP xs[k]) k ≠ 0) : rowsH xs k = rowsK xs k := by
  unfold rowsH rowsK; rw [feR_old hk h]
theorem rowsH_len (xs : List Mt) (k : Nat) : (rowsH xs k).length = (feR xs (k + 1)).length := by simp [rowsH]
theorem feR_has {xs : List Mt} {k : Nat} (hk : k < xs.length) : endP xs[k] ∈ feR xs (k + 1) := by
  rw [feR_mem xs _ (k + 1) hk, befN_succ hk, if_pos rfl]; omega
theorem rowsH_at {xs : List Mt} {k : Nat} (hk : k < xs.length) : (rowsH xs k)[(feR xs (k + 1)).idxOf (endP xs[k])]? = some [(endP xs[k]).1, (endP xs[k]).2, (befN xs (endP xs[k]) k : Int)] := by
  have hm := feR_has hk
  have hi := List.idxOf_lt_length_iff.2 hm
  unfold rowsH
  rw [List.getElem?_map, List.getElem?_eq_getElem hi, List.getElem_idxOf]
  rfl
theorem rowsH_set {xs : List Mt} {k : Nat} (hk : k < xs.length) : (rowsH xs k).set ((feR xs (k + 1)).idxOf (endP xs[k])) [(endP xs[k]).1, (endP xs[k]).2, (befN xs (endP xs[k]) k : Int) + 1] = rowsK xs (k + 1) := by
  have h := rows_set (feR_nodup xs (k + 1) hk) (Y := endP xs[k]) (t := fun y => befN xs y k) (t' := fun y => befN xs y (k + 1)) (fun z hz => by
    show befN xs z (k + 1) = befN xs z k
    rw [befN_succ hk, if_neg (fun e => hz e.symm)]; rfl)
  unfold rowsH rowsK
  rw [← h]
  congr 1
  show _ = [(endP xs[k]).1, (endP xs[k]).2, ((befN xs (endP xs[k]) (k + 1) : Nat) : Int)]
  rw [befN_succ hk, if_pos rfl]
  push_cast
  rfl
end Go.Proofs.Ytggpnnoldjpmcaa
namespace Go.Proofs.Ytggpnnoldjpmcaa
open Go.RowKit

set_option maxRecDepth 100000 in
set_option maxHeartbeats 4000000 in
theorem l9Same_any (x y : Mt) (v v' : Value) (B : Nat) (w : World) (hx : x.At B w v) (hy : y.At B w v') (hB : B ≤ w.heap.size) (sx : shP x = true) (sy : shP y = true) :
    Calls Try.prog 84 #[v, v'] w fun en w' => en = .returned (.bool (decide (endP x = endP y))) ∧ Below w.heap.size w w' := by
  have px := shP_pos sx
  have py := shP_pos sy
  obtain ⟨a1, a2, a3, rfl, ha, ha2, ha3⟩ := hx
  obtain ⟨b1, b2, b3, rfl, hb, hb2, hb3⟩ := hy
  obtain ⟨pa, ca, rfl⟩ := ha.form
  obtain ⟨pb, cb, rfl⟩ := hb.form
  have hma := ha.max
  have hmb := hb.max
  unfold maxLen at hma hmb
  have HE := Lib.hid (show decide (endP x = endP y) = (decide (x.w.ns[0] = y.w.ns[0]) && decide (x.w.ns[x.w.ns.length - 1] = y.w.ns[y.w.ns.length - 1])) by
    rw [endP_at px, endP_at py, Bool.eq_iff_iff]; simp)
  obtain ⟨g, off, rfl, hg, c0⟩ := ha.it px
  obtain ⟨g', off', e', hg', c1⟩ := ha.it (show x.w.ns.length - 1 < x.w.ns.length by omega)
  cases e'
  obtain ⟨h, of2, rfl, hh, d0⟩ := hb.it py
  obtain ⟨h', of2', e', hh', d1⟩ := hb.it (show y.w.ns.length - 1 < y.w.ns.length by omega)
  cases e'
  simp only [Nat.add_zero] at c0 d0
  obtain ⟨xf, exf⟩ : ∃ z, z = x.w.ns[0] := ⟨_, rfl⟩
  obtain ⟨xl, exl⟩ : ∃ z, z = x.w.ns[x.w.ns.length - 1] := ⟨_, rfl⟩
  obtain ⟨yf, eyf⟩ : ∃ z, z = y.w.ns[0] := ⟨_, rfl⟩
  obtain ⟨yl, eyl⟩ : ∃ z, z = y.w.ns[y.w.ns.length - 1] := ⟨_, rfl⟩
  rw [← exf] at c0 HE
  rw [← exl] at c1 HE
  rw [← eyf] at d0 HE
  rw [← eyl] at d1 HE
  obtain ⟨n, en⟩ : ∃ n, n = x.w.ns.length - 1 := ⟨_, rfl⟩
  obtain ⟨m, em⟩ : ∃ m, m = y.w.ns.length - 1 := ⟨_, rfl⟩
  have enx : x.w.ns.length = n + 1 := by omega
  have eny : y.w.ns.length = m + 1 := by omega
  rw [← en] at c1
  rw [← em] at d1
  rw [enx] at hma ⊢
  rw [eny] at hmb ⊢
  have q0 : (0 : Int) < ((n + 1 : Nat) : Int) := by omega
  have q1 : (0 : Int) < ((m + 1 : Nat) : Int) := by omega
  have q2 : IntKind.i64.wrap (n : Int) = (n : Int) := IntWalk.i64_in _ (by omega)
  have q3 : IntKind.i64.wrap (m : Int) = (m : Int) := IntWalk.i64_in _ (by omega)
  have q4 : (n : Int) < (n : Int) + 1 := by omega
  have q5 : (m : Int) < (m : Int) + 1 := by omega
  clear ha hb ha2 ha3 hb2 hb3 exf exl eyf eyl en em sx sy px py
  obtain ⟨W, eW⟩ : ∃ W, W = (w.alloc (.cells #[.slice (some ⟨g, off, none⟩) (n + 1) ca, a2, a3] 52)).alloc (.cells #[.slice (some ⟨h, of2, none⟩) (m + 1) cb, b2, b3] 52) := ⟨_, rfl⟩
  have kW : Below w.heap.size w W := by rw [eW]; exact ((Below.refl _ _).alloc (Nat.le_refl _) _).alloc (by simp) _
  have HK := Lib.hid (fun (E : World) (hE : Below W.heap.size W E) => (⟨keepc (kW.trans (hE.mono kW.size)) (by omega) c0, keepc (kW.trans (hE.mono kW.size)) (by omega) c1, keepc (kW.trans (hE.mono kW.size)) (by omega) d0, keepc (kW.trans (hE.mono kW.size)) (by omega) d1⟩ : E.cell? ⟨g, off, none⟩ = some (.int .i64 xf) ∧ E.cell? ⟨g, off + n, none⟩ = some (.int .i64 xl) ∧ E.cell? ⟨h, of2, none⟩ = some (.int .i64 yf) ∧ E.cell? ⟨h, of2 + m, none⟩ = some (.int .i64 yl)))
  have EW := Lib.hid eW
  have r0 := Below.refl W.heap.size W
  clear eW c0 c1 d0 d1
  go_enter Try.func84, Try.ntmps84
  go_upto_region 3 with fail
  rw [← EW.out]
  refine wp_region_held_drew (S := fun w' => w'.cell? ⟨g, off, none⟩ = some (.int .i64 xf) ∧ w'.cell? ⟨g, off + n, none⟩ = some (.int .i64 xl) ∧ w'.cell? ⟨h, of2, none⟩ = some (.int .i64 yf) ∧ w'.cell? ⟨h, of2 + m, none⟩ = some (.int .i64 yl)) (by kernel_rfl) ?_ (fun hHeld => ?_)
  · exact HK.out _ (show Below W.heap.size W _ by ((repeat (first | with_reducible assumption | with_reducible exact Below.refl _ _ | refine Below.setCell ?_ (by (first | omega | (simp; omega) | (simp; done) | fail "sml")) _ | refine Below.drew ?_ | refine Below.alloc ?_ (by (first | omega | (simp; omega) | (simp; done) | fail "sml")) _)); first | done | fail "chs"))
  cases h0 : (xf == yf) with
  | false =>
    have HR := Lib.hid (show decide (endP x = endP y) = false by rw [HE.out, decide_eq_false (by simpa using h0)]; rfl)
    (refine takeL (i := 0) (v := ?_) rfl (by kernel_rfl) (by kernel_rfl) (by kernel_rfl) (fun _ _ _ h => h) (Or.inl ⟨by kernel_rfl, ?_⟩) (by assumption) ?_; rotate_left; (focus (intro w hSw; (try dsimp only at hSw); go_simp; first | done | with_reducible rfl | fail "take")); (try simp only [Act.put, List.setIfInBounds_toArray, List.set_cons_zero, List.set_cons_succ]))
    (refine takeL (i := 1) (v := ?_) rfl (by kernel_rfl) (by kernel_rfl) (by kernel_rfl) (fun _ _ _ h => h) (Or.inl ⟨by kernel_rfl, ?_⟩) (by assumption) ?_; rotate_left; (focus (intro w hSw; (try dsimp only at hSw); go_simp; first | done | with_reducible rfl | fail "take")); (try simp only [Act.put, List.setIfInBounds_toArray, List.set_cons_zero, List.set_cons_succ]))
    (refine takeL (i := 2) (v := ?_) rfl (by kernel_rfl) (by kernel_rfl) (by kernel_rfl) (fun _ _ _ h => h) (Or.inl ⟨by kernel_rfl, ?_⟩) (by assumption) ?_; rotate_left; (focus (intro w hSw; (try dsimp only at hSw); go_simp; first | done | with_reducible rfl | fail "take")); (try simp only [Act.put, List.setIfInBounds_toArray, List.set_cons_zero, List.set_cons_succ]))
    (refine takeL (i := 3) (v := ?_) rfl (by kernel_rfl) (by kernel_rfl) (by kernel_rfl) (fun _ _ _ h => h) (Or.inl ⟨by kernel_rfl, ?_⟩) (by assumption) ?_; rotate_left; (focus (intro w hSw; (try dsimp only at hSw); go_simp; first | done | with_reducible rfl | fail "take")); (try simp only [Act.put, List.setIfInBounds_toArray, List.set_cons_zero, List.set_cons_succ]))
    (refine takeL (i := 4) (v := ?_) rfl (by kernel_rfl) (by kernel_rfl) (by kernel_rfl) (fun _ _ _ h => h) (Or.inl ⟨by kernel_rfl, ?_⟩) (by assumption) ?_; rotate_left; (focus (intro w hSw; (try dsimp only at hSw); go_simp; first | done | with_reducible rfl | fail "take")); (try simp only [Act.put, List.setIfInBounds_toArray, List.set_cons_zero, List.set_cons_succ]))
    (refine takeL (i := 5) (v := ?_) rfl (by kernel_rfl) (by kernel_rfl) (by kernel_rfl) (fun _ _ _ h => h) (Or.inl ⟨by kernel_rfl, ?_⟩) (by assumption) ?_; rotate_left; (focus (intro w hSw; (try dsimp only at hSw); go_simp; first | done | with_reducible rfl | fail "take")); (try simp only [Act.put, List.setIfInBounds_toArray, List.set_cons_zero, List.set_cons_succ]))
    (refine takeL (i := 6) (v := ?_) rfl (by kernel_rfl) (by kernel_rfl) (by kernel_rfl) (fun _ _ _ h => h) (Or.inl ⟨by kernel_rfl, ?_⟩) (by assumption) ?_; rotate_left; (focus (intro w hSw; (try dsimp only at hSw); go_simp; first | done | with_reducible rfl | fail "take")); (try simp only [Act.put, List.setIfInBounds_toArray, List.set_cons_zero, List.set_cons_succ]))
    (refine takeL (i := 7) (v := ?_) rfl (by kernel_rfl) (by kernel_rfl) (by kernel_rfl) (fun _ _ _ h => h) (Or.inl ⟨by kernel_rfl, ?_⟩) (by assumption) ?_; rotate_left; (focus (intro w hSw; (try dsimp only at hSw); go_simp; first | done | with_reducible rfl | fail "take")); (try simp only [Act.put, List.setIfInBounds_toArray, List.set_cons_zero, List.set_cons_succ]))
    (refine takeL (i := 8) (v := undef) rfl (by kernel_rfl) (by kernel_rfl) (by kernel_rfl) (fun _ _ _ h => h) (Or.inr ⟨by kernel_rfl, rfl⟩) (by assumption) ?_; (try simp only [Act.put, List.setIfInBounds_toArray, List.set_cons_zero, List.set_cons_succ]))
    (refine takeL (i := 9) (v := undef) rfl (by kernel_rfl) (by kernel_rfl) (by kernel_rfl) (fun _ _ _ h => h) (Or.inr ⟨by kernel_rfl, rfl⟩) (by assumption) ?_; (try simp only [Act.put, List.setIfInBounds_toArray, List.set_cons_zero, List.set_cons_succ]))
    (refine takeL (i := 10) (v := undef) rfl (by kernel_rfl) (by kernel_rfl) (by kernel_rfl) (fun _ _ _ h => h) (Or.inr ⟨by kernel_rfl, rfl⟩) (by assumption) ?_; (try simp only [Act.put, List.setIfInBounds_toArray, List.set_cons_zero, List.set_cons_succ]))
    (refine takeL (i := 11) (v := undef) rfl (by kernel_rfl) (by kernel_rfl) (by kernel_rfl) (fun _ _ _ h => h) (Or.inr ⟨by kernel_rfl, rfl⟩) (by assumption) ?_; (try simp only [Act.put, List.setIfInBounds_toArray, List.set_cons_zero, List.set_cons_succ]))
    (refine takeL (i := 12) (v := undef) rfl (by kernel_rfl) (by kernel_rfl) (by kernel_rfl) (fun _ _ _ h => h) (Or.inr ⟨by kernel_rfl, rfl⟩) (by assumption) ?_; (try simp only [Act.put, List.setIfInBounds_toArray, List.set_cons_zero, List.set_cons_succ]))
    (refine takeL (i := 13) (v := undef) rfl (by kernel_rfl) (by kernel_rfl) (by kernel_rfl) (fun _ _ _ h => h) (Or.inr ⟨by kernel_rfl, rfl⟩) (by assumption) ?_; (try simp only [Act.put, List.setIfInBounds_toArray, List.set_cons_zero, List.set_cons_succ]))
    (refine takeL (i := 14) (v := undef) rfl (by kernel_rfl) (by kernel_rfl) (by kernel_rfl) (fun _ _ _ h => h) (Or.inr ⟨by kernel_rfl, rfl⟩) (by assumption) ?_; (try simp only [Act.put, List.setIfInBounds_toArray, List.set_cons_zero, List.set_cons_succ]))
    (refine takeL (i := 15) (v := undef) rfl (by kernel_rfl) (by kernel_rfl) (by kernel_rfl) (fun _ _ _ h => h) (Or.inr ⟨by kernel_rfl, rfl⟩) (by assumption) ?_; (try simp only [Act.put, List.setIfInBounds_toArray, List.set_cons_zero, List.set_cons_succ]))
    (refine takeL (i := 16) (v := undef) rfl (by kernel_rfl) (by kernel_rfl) (by kernel_rfl) (fun _ _ _ h => h) (Or.inr ⟨by kernel_rfl, rfl⟩) (by assumption) ?_; (try simp only [Act.put, List.setIfInBounds_toArray, List.set_cons_zero, List.set_cons_succ]))
    (refine takeL (i := 17) (v := undef) rfl (by kernel_rfl) (by kernel_rfl) (by kernel_rfl) (fun _ _ _ h => h) (Or.inr ⟨by kernel_rfl, rfl⟩) (by assumption) ?_; (try simp only [Act.put, List.setIfInBounds_toArray, List.set_cons_zero, List.set_cons_succ]))
    (refine takeL (i := 18) (v := undef) rfl (by kernel_rfl) (by kernel_rfl) (by kernel_rfl) (fun _ _ _ h => h) (Or.inr ⟨by kernel_rfl, rfl⟩) (by assumption) ?_; (try simp only [Act.put, List.setIfInBounds_toArray, List.set_cons_zero, List.set_cons_succ]))
    (refine takeL (i := 19) (v := undef) rfl (by kernel_rfl) (by kernel_rfl) (by kernel_rfl) (fun _ _ _ h => h) (Or.inr ⟨by kernel_rfl, rfl⟩) (by assumption) ?_; (try simp only [Act.put, List.setIfInBounds_toArray, List.set_cons_zero, List.set_cons_succ]))
    (refine takeL (i := 20) (v := undef) rfl (by kernel_rfl) (by kernel_rfl) (by kernel_rfl) (fun _ _ _ h => h) (Or.inr ⟨by kernel_rfl, rfl⟩) (by assumption) ?_; (try simp only [Act.put, List.setIfInBounds_toArray, List.set_cons_zero, List.set_cons_succ]))
    (refine takeL (i := 21) (v := ?_) rfl (by kernel_rfl) (by kernel_rfl) (by kernel_rfl) (fun _ _ _ h => h) (Or.inl ⟨by kernel_rfl, ?_⟩) (by assumption) ?_; rotate_left; (focus (intro w hSw; (try dsimp only at hSw); go_simp; first | done | with_reducible rfl | fail "take")); (try simp only [Act.put, List.setIfInBounds_toArray, List.set_cons_zero, List.set_cons_succ]))
    (refine takeL (i := 22) (v := ?_) rfl (by kernel_rfl) (by kernel_rfl) (by kernel_rfl) (fun _ _ _ h => h) (Or.inl ⟨by kernel_rfl, ?_⟩) (by assumption) ?_; rotate_left; (focus (intro w hSw; (try dsimp only at hSw); go_simp; first | done | with_reducible rfl | fail "take")); (try simp only [Act.put, List.setIfInBounds_toArray, List.set_cons_zero, List.set_cons_succ]))
    refine wpAnyH_done (by kernel_rfl) ?_ _
    go_wp2_with fail
    go_ret
    exact ⟨ret_bool (by rw [HR.out]), kW.drew⟩
  | true =>
    have HR := Lib.hid (show decide (endP x = endP y) = (xl == yl) by rw [HE.out, decide_eq_true (by simpa using h0), Bool.eq_iff_iff]; simp)
    (refine takeL (i := 0) (v := ?_) rfl (by kernel_rfl) (by kernel_rfl) (by kernel_rfl) (fun _ _ _ h => h) (Or.inl ⟨by kernel_rfl, ?_⟩) (by assumption) ?_; rotate_left; (focus (intro w hSw; (try dsimp only at hSw); go_simp; first | done | with_reducible rfl | fail "take")); (try simp only [Act.put, List.setIfInBounds_toArray, List.set_cons_zero, List.set_cons_succ]))
    (refine takeL (i := 1) (v := ?_) rfl (by kernel_rfl) (by kernel_rfl) (by kernel_rfl) (fun _ _ _ h => h) (Or.inl ⟨by kernel_rfl, ?_⟩) (by assumption) ?_; rotate_left; (focus (intro w hSw; (try dsimp only at hSw); go_simp; first | done | with_reducible rfl | fail "take")); (try simp only [Act.put, List.setIfInBounds_toArray, List.set_cons_zero, List.set_cons_succ]))
    (refine takeL (i := 2) (v := ?_) rfl (by kernel_rfl) (by kernel_rfl) (by kernel_rfl) (fun _ _ _ h => h) (Or.inl ⟨by kernel_rfl, ?_⟩) (by assumption) ?_; rotate_left; (focus (intro w hSw; (try dsimp only at hSw); go_simp; first | done | with_reducible rfl | fail "take")); (try simp only [Act.put, List.setIfInBounds_toArray, List.set_cons_zero, List.set_cons_succ]))
    (refine takeL (i := 3) (v := ?_) rfl (by kernel_rfl) (by kernel_rfl) (by kernel_rfl) (fun _ _ _ h => h) (Or.inl ⟨by kernel_rfl, ?_⟩) (by assumption) ?_; rotate_left; (focus (intro w hSw; (try dsimp only at hSw); go_simp; first | done | with_reducible rfl | fail "take")); (try simp only [Act.put, List.setIfInBounds_toArray, List.set_cons_zero, List.set_cons_succ]))
    (refine takeL (i := 4) (v := ?_) rfl (by kernel_rfl) (by kernel_rfl) (by kernel_rfl) (fun _ _ _ h => h) (Or.inl ⟨by kernel_rfl, ?_⟩) (by assumption) ?_; rotate_left; (focus (intro w hSw; (try dsimp only at hSw); go_simp; first | done | with_reducible rfl | fail "take")); (try simp only [Act.put, List.setIfInBounds_toArray, List.set_cons_zero, List.set_cons_succ]))
    (refine takeL (i := 5) (v := ?_) rfl (by kernel_rfl) (by kernel_rfl) (by kernel_rfl) (fun _ _ _ h => h) (Or.inl ⟨by kernel_rfl, ?_⟩) (by assumption) ?_; rotate_left; (focus (intro w hSw; (try dsimp only at hSw); go_simp; first | done | with_reducible rfl | fail "take")); (try simp only [Act.put, List.setIfInBounds_toArray, List.set_cons_zero, List.set_cons_succ]))
    (refine takeL (i := 6) (v := ?_) rfl (by kernel_rfl) (by kernel_rfl) (by kernel_rfl) (fun _ _ _ h => h) (Or.inl ⟨by kernel_rfl, ?_⟩) (by assumption) ?_; rotate_left; (focus (intro w hSw; (try dsimp only at hSw); go_simp; first | done | with_reducible rfl | fail "take")); (try simp only [Act.put, List.setIfInBounds_toArray, List.set_cons_zero, List.set_cons_succ]))
    (refine takeL (i := 7) (v := ?_) rfl (by kernel_rfl) (by kernel_rfl) (by kernel_rfl) (fun _ _ _ h => h) (Or.inl ⟨by kernel_rfl, ?_⟩) (by assumption) ?_; rotate_left; (focus (intro w hSw; (try dsimp only at hSw); go_simp; first | done | with_reducible rfl | fail "take")); (try simp only [Act.put, List.setIfInBounds_toArray, List.set_cons_zero, List.set_cons_succ]))
    (refine takeL (i := 8) (v := ?_) rfl (by kernel_rfl) (by kernel_rfl) (by kernel_rfl) (fun _ _ _ h => h) (Or.inl ⟨by kernel_rfl, ?_⟩) (by assumption) ?_; rotate_left; (focus (intro w hSw; (try dsimp only at hSw); go_simp; first | done | with_reducible rfl | fail "take")); (try simp only [Act.put, List.setIfInBounds_toArray, List.set_cons_zero, List.set_cons_succ]))
    (refine takeL (i := 9) (v := ?_) rfl (by kernel_rfl) (by kernel_rfl) (by kernel_rfl) (fun _ _ _ h => h) (Or.inl ⟨by kernel_rfl, ?_⟩) (by assumption) ?_; rotate_left; (focus (intro w hSw; (try dsimp only at hSw); go_simp; first | done | with_reducible rfl | fail "take")); (try simp only [Act.put, List.setIfInBounds_toArray, List.set_cons_zero, List.set_cons_succ]))
    (refine takeL (i := 10) (v := ?_) rfl (by kernel_rfl) (by kernel_rfl) (by kernel_rfl) (fun _ _ _ h => h) (Or.inl ⟨by kernel_rfl, ?_⟩) (by assumption) ?_; rotate_left; (focus (intro w hSw; (try dsimp only at hSw); go_simp; first | done | with_reducible rfl | fail "take")); (try simp only [Act.put, List.setIfInBounds_toArray, List.set_cons_zero, List.set_cons_succ]))
    (refine takeL (i := 11) (v := ?_) rfl (by kernel_rfl) (by kernel_rfl) (by kernel_rfl) (fun _ _ _ h => h) (Or.inl ⟨by kernel_rfl, ?_⟩) (by assumption) ?_; rotate_left; (focus (intro w hSw; (try dsimp only at hSw); go_simp; first | done | with_reducible rfl | fail "take")); (try simp only [Act.put, List.setIfInBounds_toArray, List.set_cons_zero, List.set_cons_succ]))
    (refine takeL (i := 12) (v := ?_) rfl (by kernel_rfl) (by kernel_rfl) (by kernel_rfl) (fun _ _ _ h => h) (Or.inl ⟨by kernel_rfl, ?_⟩) (by assumption) ?_; rotate_left; (focus (intro w hSw; (try dsimp only at hSw); go_simp; first | done | with_reducible rfl | fail "take")); (try simp only [Act.put, List.setIfInBounds_toArray, List.set_cons_zero, List.set_cons_succ]))
    (refine takeL (i := 13) (v := ?_) rfl (by kernel_rfl) (by kernel_rfl) (by kernel_rfl) (fun _ _ _ h => h) (Or.inl ⟨by kernel_rfl, ?_⟩) (by assumption) ?_; rotate_left; (focus (intro w hSw; (try dsimp only at hSw); go_simp; first | done | with_reducible rfl | fail "take")); (try simp only [Act.put, List.setIfInBounds_toArray, List.set_cons_zero, List.set_cons_succ]))
    (refine takeL (i := 14) (v := ?_) rfl (by kernel_rfl) (by kernel_rfl) (by kernel_rfl) (fun _ _ _ h => h) (Or.inl ⟨by kernel_rfl, ?_⟩) (by assumption) ?_; rotate_left; (focus (intro w hSw; (try dsimp only at hSw); go_simp; first | done | with_reducible rfl | fail "take")); (try simp only [Act.put, List.setIfInBounds_toArray, List.set_cons_zero, List.set_cons_succ]))
    (refine takeL (i := 15) (v := ?_) rfl (by kernel_rfl) (by kernel_rfl) (by kernel_rfl) (fun _ _ _ h => h) (Or.inl ⟨by kernel_rfl, ?_⟩) (by assumption) ?_; rotate_left; (focus (intro w hSw; (try dsimp only at hSw); go_simp; first | done | with_reducible rfl | fail "take")); (try simp only [Act.put, List.setIfInBounds_toArray, List.set_cons_zero, List.set_cons_succ]))
    (refine takeL (i := 16) (v := ?_) rfl (by kernel_rfl) (by kernel_rfl) (by kernel_rfl) (fun _ _ _ h => h) (Or.inl ⟨by kernel_rfl, ?_⟩) (by assumption) ?_; rotate_left; (focus (intro w hSw; (try dsimp only at hSw); go_simp; first | done | with_reducible rfl | fail "take")); (try simp only [Act.put, List.setIfInBounds_toArray, List.set_cons_zero, List.set_cons_succ]))
    (refine takeL (i := 17) (v := ?_) rfl (by kernel_rfl) (by kernel_rfl) (by kernel_rfl) (fun _ _ _ h => h) (Or.inl ⟨by kernel_rfl, ?_⟩) (by assumption) ?_; rotate_left; (focus (intro w hSw; (try dsimp only at hSw); go_simp; first | done | with_reducible rfl | fail "take")); (try simp only [Act.put, List.setIfInBounds_toArray, List.set_cons_zero, List.set_cons_succ]))
    (refine takeL (i := 18) (v := ?_) rfl (by kernel_rfl) (by kernel_rfl) (by kernel_rfl) (fun _ _ _ h => h) (Or.inl ⟨by kernel_rfl, ?_⟩) (by assumption) ?_; rotate_left; (focus (intro w hSw; (try dsimp only at hSw); go_simp; first | done | with_reducible rfl | fail "take")); (try simp only [Act.put, List.setIfInBounds_toArray, List.set_cons_zero, List.set_cons_succ]))
    (refine takeL (i := 19) (v := ?_) rfl (by kernel_rfl) (by kernel_rfl) (by kernel_rfl) (fun _ _ _ h => h) (Or.inl ⟨by kernel_rfl, ?_⟩) (by assumption) ?_; rotate_left; (focus (intro w hSw; (try dsimp only at hSw); go_simp; first | done | with_reducible rfl | fail "take")); (try simp only [Act.put, List.setIfInBounds_toArray, List.set_cons_zero, List.set_cons_succ]))
    (refine takeL (i := 20) (v := ?_) rfl (by kernel_rfl) (by kernel_rfl) (by kernel_rfl) (fun _ _ _ h => h) (Or.inl ⟨by kernel_rfl, ?_⟩) (by assumption) ?_; rotate_left; (focus (intro w hSw; (try dsimp only at hSw); go_simp; first | done | with_reducible rfl | fail "take")); (try simp only [Act.put, List.setIfInBounds_toArray, List.set_cons_zero, List.set_cons_succ]))
    (refine takeL (i := 21) (v := ?_) rfl (by kernel_rfl) (by kernel_rfl) (by kernel_rfl) (fun _ _ _ h => h) (Or.inl ⟨by kernel_rfl, ?_⟩) (by assumption) ?_; rotate_left; (focus (intro w hSw; (try dsimp only at hSw); go_simp; first | done | with_reducible rfl | fail "take")); (try simp only [Act.put, List.setIfInBounds_toArray, List.set_cons_zero, List.set_cons_succ]))
    (refine takeL (i := 22) (v := ?_) rfl (by kernel_rfl) (by kernel_rfl) (by kernel_rfl) (fun _ _ _ h => h) (Or.inl ⟨by kernel_rfl, ?_⟩) (by assumption) ?_; rotate_left; (focus (intro w hSw; (try dsimp only at hSw); go_simp; first | done | with_reducible rfl | fail "take")); (try simp only [Act.put, List.setIfInBounds_toArray, List.set_cons_zero, List.set_cons_succ]))
    refine wpAnyH_done (by kernel_rfl) ?_ _
    go_wp2_with fail
    go_ret
    exact ⟨ret_bool (by rw [HR.out]), kW.drew⟩

set_option maxRecDepth 100000 in
set_option maxHeartbeats 4000000 in
theorem l9Before_any (xs : List Mt) (v : Value) (at_ : Nat) (B : Nat) (w : World) (hv : kMt.Rd B w v xs) (hB : B ≤ w.heap.size) (hat : at_ < xs.length) (hsh : xs.all shP = true) :
    Calls Try.prog 83 #[v, .int .i64 at_] w fun en w' => en = .returned (.int .i64 (befN xs (endP xs[at_]) at_)) ∧ Below w.heap.size w w' := by
  obtain ⟨p, cap, rfl⟩ := hv.form
  obtain ⟨_, hm1, hm2⟩ := hv.max
  unfold maxLen at hm2
  have HV := Lib.hid hv
  have HSH := Lib.hid (List.all_eq_true.1 hsh)
  obtain ⟨Y, eY⟩ : ∃ Y, Y = endP xs[at_] := ⟨_, rfl⟩
  rw [← eY]
  have HEY := Lib.hid eY
  clear hv hsh eY
  go_enter Try.func83, Try.ntmps83
  go_wp2_with fail
  go_loopw [5, 6] (fun nn i wr => ∃ k : Nat, k ≤ at_ ∧ i = .int .i64 k ∧ nn = .int .i64 (befN xs Y k) ∧ Below w.heap.size w wr) (fun _ i _ => at_ - (intOf i).toNat)
  case atStart => exact ⟨0, Nat.zero_le _, rfl, by rw [befN_zero]; rfl, Below.refl _ _⟩
  case round =>
    obtain ⟨k, hk, rfl, rfl, hbw⟩ := hrel
    have hsz := hbw.size
    have HB := Lib.hid hbw
    clear hbw
    by_cases hlt : k < at_
    · have hlk : k < xs.length := by omega
      have hki : (k : Int) < (at_ : Int) := by omega
      have hkx : (k : Int) < (xs.length : Int) := by omega
      have hax : (at_ : Int) < (xs.length : Int) := by omega
      obtain ⟨b, off, q, d, q2, d2, r, e, rfl, hb, c0, c1, c2, hin⟩ := kMt_get (HV.out.to (HB.out.mono hB) (Nat.le_refl _)) hlk
      obtain ⟨b', off', q', d', q2', d2', r', e', ee, hb', g0, g1, g2, hin'⟩ := kMt_get (HV.out.to (HB.out.mono hB) (Nat.le_refl _)) hat
      cases ee
      have hsx := HSH.out _ (List.getElem_mem hlk)
      have hsy := HSH.out _ (List.getElem_mem hat)
      have hN := befN_succ hlk Y
      have HLE := Lib.hid (show befN xs Y k ≤ 9223372036854775806 from Nat.le_trans (befN_le xs Y k) (by omega))
      have HKA := Lib.hid (show k + 1 ≤ at_ by omega)
      obtain ⟨x, ex⟩ : ∃ x, x = xs[k] := ⟨_, rfl⟩
      obtain ⟨y, ey⟩ : ∃ y, y = xs[at_] := ⟨_, rfl⟩
      rw [← ex] at c0 c1 c2 hin hsx hN
      rw [← ey] at g0 g1 g2 hin' hsy
      have HEY2 := Lib.hid (show Y = endP y by rw [HEY.out, ey])
      have HIN := Lib.hid hin
      have HIN2 := Lib.hid hin'
      have HN := Lib.hid hN
      have HSX := Lib.hid hsx
      have HSY := Lib.hid hsy
      have hbr : b < wr.heap.size := by omega
      have HK := Lib.hid (fun (E : World) (hE : Below wr.heap.size wr E) => (⟨⟨keepc hE hbr c0, keepc hE hbr c1, keepc hE hbr c2⟩, keepc hE hbr g0, keepc hE hbr g1, keepc hE hbr g2⟩ : (E.cell? ⟨b, off + k * 3, none⟩ = some (.slice q x.w.ns.length d) ∧ E.cell? ⟨b, off + k * 3 + 1, none⟩ = some (.slice q2 x.w.es.length d2) ∧ E.cell? ⟨b, off + k * 3 + 2, none⟩ = some (.slice r x.bs.length e)) ∧ E.cell? ⟨b, off + at_ * 3, none⟩ = some (.slice q' y.w.ns.length d') ∧ E.cell? ⟨b, off + at_ * 3 + 1, none⟩ = some (.slice q2' y.w.es.length d2') ∧ E.cell? ⟨b, off + at_ * 3 + 2, none⟩ = some (.slice r' y.bs.length e')))
      have CSM := Lib.hid (fun (E : World) (hE : Below wr.heap.size wr E) => ((by rw [HEY2.out]; exact l9Same_any x y (.agg #[.slice q x.w.ns.length d, .slice q2 x.w.es.length d2, .slice r x.bs.length e]) (.agg #[.slice q' y.w.ns.length d', .slice q2' y.w.es.length d2', .slice r' y.bs.length e']) B E (HIN.out.to (hE.mono (by omega)) (Nat.le_refl _)) (HIN2.out.to (hE.mono (by omega)) (Nat.le_refl _)) (by have := hE.size; omega) HSX.out HSY.out) : Calls Try.prog 84 #[.agg #[.slice q x.w.ns.length d, .slice q2 x.w.es.length d2, .slice r x.bs.length e], .agg #[.slice q' y.w.ns.length d', .slice q2' y.w.es.length d2', .slice r' y.bs.length e']] E (fun en w' => en = .returned (.bool (decide (endP x = Y))) ∧ Below E.heap.size E w')))
      have r0 := Below.refl wr.heap.size wr
      clear c0 c1 c2 g0 g1 g2 hin hin' hN hsx hsy ex ey
      go_upto_region 5 with fail
      go_cut [20] (fun s wx => s = .bool (decide (endP x = Y)) ∧ Below wr.heap.size wr wx)
      case first =>
        go_region_held3 (fun w' => (w'.cell? ⟨b, off + k * 3, none⟩ = some (.slice q x.w.ns.length d) ∧ w'.cell? ⟨b, off + k * 3 + 1, none⟩ = some (.slice q2 x.w.es.length d2) ∧ w'.cell? ⟨b, off + k * 3 + 2, none⟩ = some (.slice r x.bs.length e)) ∧ w'.cell? ⟨b, off + at_ * 3, none⟩ = some (.slice q' y.w.ns.length d') ∧ w'.cell? ⟨b, off + at_ * 3 + 1, none⟩ = some (.slice q2' y.w.es.length d2') ∧ w'.cell? ⟨b, off + at_ * 3 + 2, none⟩ = some (.slice r' y.bs.length e'))
          (exact HK.out _ (show Below wr.heap.size wr _ by ((repeat (first | with_reducible assumption | with_reducible exact Below.refl _ _ | refine Below.setCell ?_ (by (first | omega | (simp; omega) | (simp; done) | fail "sml")) _ | refine Below.drew ?_ | refine Below.alloc ?_ (by (first | omega | (simp; omega) | (simp; done) | fail "sml")) _)); first | done | fail "chs")))
          (first | (go_at_call 84; with_reducible refine (CSM.out _ (show Below wr.heap.size wr _ by ((repeat (first | with_reducible assumption | with_reducible exact Below.refl _ _ | refine Below.setCell ?_ (by (first | omega | (simp; omega) | (simp; done) | fail "sml")) _ | refine Below.drew ?_ | refine Below.alloc ?_ (by (first | omega | (simp; omega) | (simp; done) | fail "sml")) _)); first | done | fail "chs"))).mono ?_; rintro en wa ⟨rfl, hb⟩; have ra := Below.trans (show Below wr.heap.size wr _ by ((repeat (first | with_reducible assumption | with_reducible exact Below.refl _ _ | refine Below.setCell ?_ (by (first | omega | (simp; omega) | (simp; done) | fail "sml")) _ | refine Below.drew ?_ | refine Below.alloc ?_ (by (first | omega | (simp; omega) | (simp; done) | fail "sml")) _)); first | done | fail "chs")) (hb.mono (by (first | omega | (simp; omega) | (simp; done) | fail "sml"))); have za := ra.size; clear hb) | fail "no arm")
        all_goals (go_wp2_with fail; go_meet)
        all_goals exact ⟨rfl, by ((repeat (first | with_reducible assumption | with_reducible exact Below.refl _ _ | refine Below.setCell ?_ (by (first | omega | (simp; omega) | (simp; done) | fail "sml")) _ | refine Below.drew ?_ | refine Below.alloc ?_ (by (first | omega | (simp; omega) | (simp; done) | fail "sml")) _)); first | done | fail "chs")⟩
      case rest =>
        obtain ⟨rfl, hbx⟩ := hcut
        by_cases hend : endP x = Y
        · have HX := Lib.hid (show befN xs Y (k + 1) = befN xs Y k + 1 by rw [HN.out, if_pos hend])
          have HW := Lib.hid (show RowKit.wrap64 ((befN xs Y k : Int) + 1) = ((befN xs Y (k + 1) : Nat) : Int) by rw [HX.out, ← IntWalk.i64_left, IntWalk.i64_in _ (by have := HLE.out; omega)]; rfl)
          have hd : decide (endP x = Y) = true := decide_eq_true hend
          rw [hd]
          clear hend hd
          go_wp2_with fail
          go_roundw
          case rel => exact ⟨k + 1, HKA.out, by go_num, congrArg (Value.int .i64) HW.out, HB.out.trans (hbx.mono hsz)⟩
          case measure => have := HKA.out; simp [intOf]; omega
        · have HX := Lib.hid (show befN xs Y (k + 1) = befN xs Y k by rw [HN.out, if_neg hend]; rfl)
          have hd : decide (endP x = Y) = false := decide_eq_false hend
          rw [hd]
          clear hend hd
          go_wp2_with fail
          go_roundw
          case rel => exact ⟨k + 1, HKA.out, by go_num, by rw [HX.out], HB.out.trans (hbx.mono hsz)⟩
          case measure => have := HKA.out; simp [intOf]; omega
    · obtain rfl : k = at_ := by omega
      go_wp2_with fail
      go_ret
      exact ⟨rfl, HB.out⟩

end Go.Proofs.Ytggpnnoldjpmcaa
namespace Go.Proofs.Ytggpnnoldjpmcaa
open Go.RowKit


def gB (n : Int) : Bool := n % 3 == 0
def idSum (xs : List Bn) : Nat := (xs.map fun (b : Bn) => b.ids.length).sum
theorem idSum_succ (xs : List Bn) (k : Nat) (h : k < xs.length) : idSum (xs.take (k + 1)) = idSum (xs.take k) + xs[k].ids.length := by
  unfold idSum; rw [List.take_succ_eq_append_getElem h, List.map_append, List.sum_append]; simp only [List.map_cons, List.map_nil, List.sum_cons, List.sum_nil, Nat.add_zero]
theorem idSum_le (xs : List Bn) (k : Nat) : idSum (xs.take k) ≤ sumBn (xs.take k) := by
  induction k with
  | zero => simp [idSum, sumBn]
  | succ k ih =>
    by_cases h : k < xs.length
    · rw [idSum_succ xs k h, sumBn_succ xs k h]; unfold Bn.need; omega
    · rw [List.take_of_length_le (show xs.length ≤ k + 1 by omega)]; rw [List.take_of_length_le (show xs.length ≤ k by omega)] at ih; exact ih
/-- The mark ahead of a bind. -/
def bnO (xs : List Bn) (m : Int) (k : Nat) : Int := m + 2 * k + idSum (xs.take k)
def bnM (xs : List Bn) (m : Int) (k : Nat) : Bn := ⟨mt (bnO xs m k), (List.range ((xs[k]?.map (fun (b : Bn) => b.ids.length)).getD 0)).map (mkInt (bnO xs m k + 1)), gB (bnO xs m k + 1 + ((xs[k]?.map (fun (b : Bn) => b.ids.length)).getD 0))⟩
theorem bnM_at {xs : List Bn} {m : Int} {k : Nat} (h : k < xs.length) : bnM xs m k = ⟨mt (bnO xs m k), (List.range xs[k].ids.length).map (mkInt (bnO xs m k + 1)), gB (bnO xs m k + 1 + xs[k].ids.length)⟩ := by
  unfold bnM; rw [List.getElem?_eq_getElem h]; rfl
theorem bnO_succ {xs : List Bn} {m : Int} {k : Nat} (h : k < xs.length) : bnO xs m (k + 1) = bnO xs m k + 1 + xs[k].ids.length + 1 := by
  unfold bnO; rw [idSum_succ xs k h]; push_cast; omega
theorem bnO_ge {xs : List Bn} {m : Int} {k : Nat} : m ≤ bnO xs m k := by unfold bnO; omega
def bnMarks (xs : List Bn) (m : Int) : List Bn := (List.range xs.length).map (bnM xs m)
def bnLen (xs : List Bn) : Nat := 2 * xs.length + idSum xs
theorem bnO_end (xs : List Bn) (m : Int) : bnO xs m xs.length = m + bnLen xs := by unfold bnO bnLen; rw [List.take_length]; push_cast; omega
theorem bnLen_le (xs : List Bn) : bnLen xs ≤ 2 * xs.length + sumBn xs := by have := idSum_le xs xs.length; rw [List.take_length] at this; unfold bnLen; omega

set_option maxRecDepth 100000 in
set_option maxHeartbeats 4000000 in
theorem markBindS_full (xs : List Bn) (v : Value) (F : List Nat) (m : Int) (w : World) (hv : kBn.Ow w v xs F) (hm : 1 ≤ m) (hb : m + 2 * xs.length + sumBn xs ≤ 90000000) :
    Calls Try.prog 19 #[v, .int .i64 m] w fun e w' => e = .returned (.int .i64 (m + bnLen xs)) ∧ kBn.Ow w' v (bnMarks xs m) F ∧ Chg F w w' := by
  obtain ⟨p, cap, rfl⟩ := hv.form
  obtain ⟨_, hm1, hm2⟩ := hv.rd.max
  unfold maxLen at hm2
  have HV := Lib.hid hv
  have HB := Lib.hid hb
  clear hv hb
  go_enter Try.func19, Try.ntmps19
  go_wp2_with fail
  go_loopw [1, 5] (fun kk i wr => ∃ (k : Nat), k ≤ xs.length ∧ i = .int .i64 k ∧ kk = .int .i64 (bnO xs m k) ∧ RowKit.Hid (kBn.Ow wr (.slice p xs.length cap) (half (bnM xs m) xs k) F) ∧ RowKit.Hid (Chg F w wr)) (fun _ i _ => xs.length - (intOf i).toNat)
  case atStart => exact ⟨0, Nat.zero_le _, rfl, congrArg (Value.int .i64) (by simp [bnO, idSum]), Lib.hid (by rw [half_zero]; exact HV.out), Lib.hid (Chg.refl _ _)⟩
  case round =>
    obtain ⟨k, hk, rfl, rfl, HO, HC⟩ := hrel
    have ht : 1 ≤ bnO xs m k := by have := bnO_ge (xs := xs) (m := m) (k := k); omega
    obtain ⟨t, et⟩ : ∃ t, t = bnO xs m k := ⟨_, rfl⟩
    obtain ⟨ys, ey⟩ : ∃ ys, ys = half (bnM xs m) xs k := ⟨_, rfl⟩
    have hyl : ys.length = xs.length := by rw [ey]; exact half_length _ _ hk
    rw [← et] at ht ⊢
    rw [← ey] at HO
    by_cases hlt : k < xs.length
    · have hltY : k < ys.length := by rw [hyl]; exact hlt
      have hek : ys[k] = xs[k] := by simp only [ey]; exact half_at _ _ hlt _
      have hsum := sumBn_succ xs k hlt
      have hsum2 := sumBn_le xs (k + 1)
      obtain ⟨b, off, F1, q, c, rfl, hbF, hbk, hsub, hbl, hfz, c0, c1, c2, hks, hback⟩ := kBn_upd HO.out hltY
      rw [hek] at c0 c1 c2 hks hback
      obtain ⟨x, ex⟩ : ∃ x, x = xs[k] := ⟨_, rfl⟩
      rw [← ex] at c0 c1 c2 hks hback hsum
      have HS := Lib.hid hsum
      have hbound : t + 2 + x.ids.length ≤ 90000000 := by
        have h2 := HB.out
        have h3 := idSum_le xs k
        have h4 : t = m + 2 * k + idSum (xs.take k) := et
        unfold Bn.need at hsum
        omega
      have HSET := Lib.hid (show ∀ r : Bool, r = gB (t + 1 + x.ids.length) → ys.set k ⟨mt t, (List.range x.ids.length).map (mkInt (t + 1)), r⟩ = half (bnM xs m) xs (k + 1) from fun r hr => by
        rw [hr, ey, ← half_succ _ _ hlt, bnM_at hlt, ← et, ← ex])
      have HNX := Lib.hid (show bnO xs m (k + 1) = t + 1 + x.ids.length + 1 by rw [bnO_succ hlt, ← et, ← ex])
      have HBACK := Lib.hid hback
      have HKS := Lib.hid hks
      have HFZ := Lib.hid hfz
      have HSUB := Lib.hid hsub
      have HBK := Lib.hid hbk
      have HBF := Lib.hid hbF
      clear hback hks hfz hsub hbk hbF ex hek hsum hsum2 HO HS ey hltY hyl et
      go_wp2_with fail
      refine (markText_any _ _ (by omega) (by omega)).mono ?_
      rintro e w1 ⟨rfl, hb1⟩
      have hz1 : b < w1.heap.size := by have := hb1.size; omega
      have d0 := keepc hb1 hbl c0
      have d1 := keepc hb1 hbl c1
      have d2 := keepc hb1 hbl c2
      have HD := Lib.hid (show (∀ i, w1.cell? ⟨b, i, none⟩ = wr.cell? ⟨b, i, none⟩) ∧ (∀ o, w1.frozen? ⟨b, o, none⟩ = false) from
        ⟨fun i => hb1.cell (p := ⟨b, i, none⟩) hbl, fun o => (hb1.frozen (p := ⟨b, o, none⟩) hbl).trans (HFZ.out o)⟩)
      have f0 := HD.out.2 (off + k * 3)
      have HW1 := Lib.hid (show Chg [b] wr w1 from (Chg.refl [b] wr).then_below hb1)
      have HKS1 := Lib.hid (HKS.out.chg HW1.out (fun x hx => by simp; rintro rfl; exact HBK.out hx))
      clear hb1 c0 c1 c2
      go_wp2_with fail
      have HKS2 := Lib.hid (HKS1.out.chg (G := [b]) (w' := w1.setCell ⟨b, off + k * 3, none⟩ (.string (mt t))) ((Chg.refl [b] w1).setCell (by simp) _) (fun x hx => by simp; rintro rfl; exact HBK.out hx))
      refine (markIntS_any _ _ _ _ _ HKS2.out (by omega) (by omega)).mono ?_
      rintro e w2 ⟨rfl, hk2, hc2⟩
      have hbw : ∀ i, w2.cell? ⟨b, i, none⟩ = (w1.setCell ⟨b, off + k * 3, none⟩ (.string (mt t))).cell? ⟨b, i, none⟩ := fun i => World.cell?_of_block (a := ⟨b, i, none⟩) (hc2.block b (by simpa using hz1) HBK.out)
      have hbf : ∀ i, w2.frozen? ⟨b, i, none⟩ = (w1.setCell ⟨b, off + k * 3, none⟩ (.string (mt t))).frozen? ⟨b, i, none⟩ := fun i => World.frozen?_of_block (a := ⟨b, i, none⟩) (hc2.block b (by simpa using hz1) HBK.out)
      have g0 : w2.cell? ⟨b, off + k * 3, none⟩ = some (.string (mt t)) := (hbw _).trans (set_same _ _ _ _ _ d0)
      have g1 : w2.cell? ⟨b, off + k * 3 + 1, none⟩ = some (.slice q x.ids.length c) := (hbw _).trans ((set_near _ _ _ _ _ (by omega)).trans d1)
      have g2 : w2.cell? ⟨b, off + k * 3 + 2, none⟩ = some (.bool x.g) := (hbw _).trans ((set_near _ _ _ _ _ (by omega)).trans d2)
      have HFR := Lib.hid (show ∀ o, w2.frozen? ⟨b, o, none⟩ = false from fun o => (hbf o).trans (by simpa [go_sem] using HD.out.2 o))
      have HEL := Lib.hid (show ∀ i, i ≠ off + k * 3 → w2.cell? ⟨b, i, none⟩ = wr.cell? ⟨b, i, none⟩ from fun i hi => (hbw i).trans ((set_near _ _ _ _ _ (fun e => hi e.symm)).trans (HD.out.1 i)))
      have f2 := HFR.out (off + k * 3 + 2)
      have HW2 := Lib.hid (show Chg (b :: F1) wr w2 from (HW1.out.mono (fun x hx => by simp at hx; simp [hx])).trans (((Chg.refl (b :: F1) w1).setCell (by simp) _).trans (hc2.mono (fun x hx => by simp [hx]))))
      have HK2 := Lib.hid hk2
      have HEND := Lib.hid (show ∀ r : Bool, kBn.Ow (w2.setCell ⟨b, off + k * 3 + 2, none⟩ (.bool r)) (.slice (some ⟨b, off, none⟩) xs.length cap) (ys.set k ⟨mt t, (List.range x.ids.length).map (mkInt (t + 1)), r⟩) F ∧ Chg F w (w2.setCell ⟨b, off + k * 3 + 2, none⟩ (.bool r)) from fun r => by
        have hst : Chg (b :: F1) w2 (w2.setCell ⟨b, off + k * 3 + 2, none⟩ (.bool r)) := (Chg.refl _ _).setCell (by simp) _
        refine ⟨HBACK.out _ ⟨_, _, r⟩ (HW2.out.trans hst) (fun o => by simpa [go_sem] using HFR.out o) (HK2.out.chg (G := [b]) ((Chg.refl [b] w2).setCell (by simp) _) (fun x hx => by simp; rintro rfl; exact HBK.out hx)) ((set_near _ _ _ _ _ (by omega)).trans g0) ((set_near _ _ _ _ _ (by omega)).trans g1) (set_same _ _ _ _ _ g2) (fun o ho => ?_), ?_⟩
        · exact (set_near _ _ _ _ _ (by omega)).trans (HEL.out o (by omega))
        · exact HC.out.trans ((HW2.out.trans hst).mono (fun y hy => by rcases List.mem_cons.1 hy with rfl | hy; exact HBF.out; exact HSUB.out y hy)))
      clear hk2 hc2 d0 d1 d2 f0 hbw hbf
      go_wp2_with fail
      go_roundw
      case rel =>
        exact ⟨k + 1, by omega, by go_num, congrArg (Value.int .i64) (by rw [HNX.out]), Lib.hid (by rw [← HSET.out _ (by (first | rfl | (unfold gB; rfl) | (unfold gB; simp; done) | trace_state))]; exact (HEND.out _).1), Lib.hid (HEND.out _).2⟩
      case measure => simp [intOf]; omega
    · obtain rfl : k = xs.length := by omega
      go_wp2_with fail
      have HE := Lib.hid (show kBn.Ow wr (.slice p xs.length cap) (bnMarks xs m) F by rw [show bnMarks xs m = half (bnM xs m) xs xs.length from (half_full _ _).symm, ← ey]; exact HO.out)
      have hte : t = m + bnLen xs := et.trans (bnO_end xs m)
      go_ret
      exact ⟨by rw [hte]; rfl, HE.out, HC.out⟩

set_option maxRecDepth 100000 in
set_option maxHeartbeats 2000000 in
theorem heldBindS_any (xs : List Bn) (v : Value) (m : Int) (B : Nat) (w : World) (hv : kBn.Rd B w v (bnMarks xs m)) (hB : B ≤ w.heap.size) (hm : 1 ≤ m) (hb : m + 2 * xs.length + sumBn xs ≤ 90000000) :
    Calls Try.prog 20 #[v, .int .i64 m] w fun e w' => e = .returned (.int .i64 (m + bnLen xs)) ∧ Below w.heap.size w w' := by
  obtain ⟨p, cap, hve⟩ := hv.form
  obtain ⟨_, hm1, hm2⟩ := (hve ▸ hv).max
  have hlen : (bnMarks xs m).length = xs.length := by simp [bnMarks]
  rw [hlen] at hve
  subst hve
  unfold maxLen at hm2
  have HV := Lib.hid hv
  have HB := Lib.hid hb
  clear hv hb
  go_enter Try.func20, Try.ntmps20
  go_wp2_with fail
  go_loopw [1, 5] (fun kk i wr => ∃ k : Nat, k ≤ xs.length ∧ i = .int .i64 k ∧ kk = .int .i64 (bnO xs m k) ∧ Below w.heap.size w wr) (fun _ i _ => xs.length - (intOf i).toNat)
  case atStart => exact ⟨0, Nat.zero_le _, rfl, congrArg (Value.int .i64) (by simp [bnO, idSum]), Below.refl _ _⟩
  case round =>
    obtain ⟨k, hk, rfl, rfl, hbw⟩ := hrel
    have hsz := hbw.size
    have HBW := Lib.hid hbw
    clear hbw
    have ht : 1 ≤ bnO xs m k := by have := bnO_ge (xs := xs) (m := m) (k := k); omega
    obtain ⟨t, et⟩ : ∃ t, t = bnO xs m k := ⟨_, rfl⟩
    rw [← et] at ht ⊢
    by_cases hlt : k < xs.length
    · have hltM : k < (bnMarks xs m).length := by rw [hlen]; exact hlt
      obtain ⟨b, off, q, c, rfl, hb', c0, c1, c2, hin⟩ := kBn_get (HV.out.to (HBW.out.mono hB) (Nat.le_refl _)) hltM
      have hgx : (bnMarks xs m)[k] = ⟨mt t, (List.range xs[k].ids.length).map (mkInt (t + 1)), gB (t + 1 + xs[k].ids.length)⟩ := by
        simp only [bnMarks, List.getElem_map, List.getElem_range, bnM_at hlt, ← et]
      rw [hgx] at c0 c1 c2 hin
      have hsum := sumBn_succ xs k hlt
      have hsum2 := sumBn_le xs (k + 1)
      have HNX := Lib.hid (show bnO xs m (k + 1) = t + 1 + xs[k].ids.length + 1 by rw [bnO_succ hlt, ← et])
      have hbound : t + 2 + xs[k].ids.length ≤ 90000000 := by
        have h2 := HB.out
        have h3 := idSum_le xs k
        have h4 : t = m + 2 * k + idSum (xs.take k) := et
        unfold Bn.need at hsum
        omega
      obtain ⟨n, en⟩ : ∃ n, n = xs[k].ids.length := ⟨_, rfl⟩
      rw [← en] at c2 hin hbound HNX
      have c1' : wr.cell? ⟨b, off + k * 3 + 1, none⟩ = some (.slice q n c) := by rw [c1]; simp [en]
      have HIN := Lib.hid (show Sl 1 intCells B wr (.slice q n c) ((List.range n).map (mkInt (t + 1))) from by simpa [en] using hin)
      simp only at c0 c2
      clear hgx hsum hsum2 en c1 hin hltM et
      have hkl : (k : Int) < (xs.length : Int) := by omega
      have hbr : b < wr.heap.size := by omega
      have HK := Lib.hid (fun (E : World) (hE : Below wr.heap.size wr E) => (⟨keepc hE hbr c0, keepc hE hbr c1', keepc hE hbr c2⟩ : E.cell? ⟨b, off + k * 3, none⟩ = some (.string (mt t)) ∧ E.cell? ⟨b, off + k * 3 + 1, none⟩ = some (.slice q n c) ∧ E.cell? ⟨b, off + k * 3 + 2, none⟩ = some (.bool (gB (t + 1 + n)))))
      clear c0 c1' c2
      have r0 := Below.refl wr.heap.size wr
      go_upto_region 4 with fail
      go_cut [19] (fun s wx => s = .bool false ∧ Below wr.heap.size wr wx)
      case first =>
        go_region_held3 (fun w' => w'.cell? ⟨b, off + k * 3, none⟩ = some (.string (mt t)) ∧ w'.cell? ⟨b, off + k * 3 + 1, none⟩ = some (.slice q n c) ∧ w'.cell? ⟨b, off + k * 3 + 2, none⟩ = some (.bool (gB (t + 1 + n))))
          (exact HK.out _ (show Below wr.heap.size wr _ by ((repeat (first | with_reducible assumption | with_reducible exact Below.refl _ _ | refine Below.setCell ?_ (by (first | omega | (simp; omega) | (simp; done) | fail "sml")) _ | refine Below.drew ?_ | refine Below.alloc ?_ (by (first | omega | (simp; omega) | (simp; done) | fail "sml")) _)); first | done | fail "chs")))
          (first | (go_at_call 63; with_reducible refine (markText_any _ _ (by omega) (by omega)).mono ?_; rintro e wc ⟨rfl, hbc⟩; have rc := Below.trans (show Below wr.heap.size wr _ by ((repeat (first | with_reducible assumption | with_reducible exact Below.refl _ _ | refine Below.setCell ?_ (by (first | omega | (simp; omega) | (simp; done) | fail "sml")) _ | refine Below.drew ?_ | refine Below.alloc ?_ (by (first | omega | (simp; omega) | (simp; done) | fail "sml")) _)); first | done | fail "chs")) (hbc.mono (by (first | omega | (simp; omega) | (simp; done) | fail "sml"))); have zc := rc.size; clear hbc) | fail "no arm")
        all_goals (go_wp2_with fail; go_meet)
        all_goals exact ⟨rfl, by ((repeat (first | with_reducible assumption | with_reducible exact Below.refl _ _ | refine Below.setCell ?_ (by (first | omega | (simp; omega) | (simp; done) | fail "sml")) _ | refine Below.drew ?_ | refine Below.alloc ?_ (by (first | omega | (simp; omega) | (simp; done) | fail "sml")) _)); first | done | fail "chs")⟩
      case rest =>
        obtain ⟨rfl, hbx⟩ := hcut
        obtain ⟨w1, ew1⟩ : ∃ u, u = wc := ⟨_, rfl⟩
        subst ew1
        obtain ⟨d0, d1, d2⟩ := HK.out _ hbx
        have z1 := hbx.size
        go_wp2_with fail
        refine (heldIntS_any n _ (t + 1) B _ (HIN.out.below (hbx.mono (by omega))) (by omega) (by omega) (by omega)).mono ?_
        rintro e w2 ⟨rfl, hb2⟩
        have r2 := hbx.trans (hb2.mono z1)
        obtain ⟨y0, y1, y2⟩ := HK.out _ r2
        have hneg : ¬ (t + 1 + (n : Int) < 0) := by omega
        have hgq : gB (t + 1 + n) = ((t + 1 + (n : Int)) % 3 == 0) := rfl
        rw [hgq] at y2
        clear d0 d1 d2 hbx hb2
        have HR2 := Lib.hid (HBW.out.trans (r2.mono hsz))
        go_wp2_with fail
        go_roundw
        case rel => exact ⟨k + 1, by omega, by go_num, congrArg (Value.int .i64) (by rw [HNX.out]), HR2.out⟩
        case measure => simp [intOf]; omega
    · obtain rfl : k = xs.length := by omega
      have hte : t = m + bnLen xs := et.trans (bnO_end xs m)
      go_wp2_with fail
      go_ret
      exact ⟨by rw [hte]; rfl, HBW.out⟩
end Go.Proofs.Ytggpnnoldjpmcaa
namespace Go.Proofs.Ytggpnnoldjpmcaa
open Go.RowKit

def mtLen (m : Mt) : Nat := m.w.ns.length + m.w.es.length + bnLen m.bs
theorem mtLen_le (m : Mt) : mtLen m ≤ 2 * m.need := by have := bnLen_le m.bs; unfold mtLen Mt.need Wk.need; omega
def mtSum (xs : List Mt) : Nat := (xs.map mtLen).sum
theorem mtSum_succ (xs : List Mt) (k : Nat) (h : k < xs.length) : mtSum (xs.take (k + 1)) = mtSum (xs.take k) + mtLen xs[k] := by
  unfold mtSum; rw [List.take_succ_eq_append_getElem h, List.map_append, List.sum_append]; simp only [List.map_cons, List.map_nil, List.sum_cons, List.sum_nil, Nat.add_zero]
theorem mtSum_le (xs : List Mt) (k : Nat) : mtSum (xs.take k) ≤ 2 * sumMt (xs.take k) := by
  induction k with
  | zero => simp [mtSum, sumMt]
  | succ k ih =>
    by_cases h : k < xs.length
    · rw [mtSum_succ xs k h, sumMt_succ xs k h]; have := mtLen_le xs[k]; omega
    · rw [List.take_of_length_le (show xs.length ≤ k + 1 by omega)]; rw [List.take_of_length_le (show xs.length ≤ k by omega)] at ih; exact ih
def mtO (xs : List Mt) (m : Int) (k : Nat) : Int := m + mtSum (xs.take k)
def mtK (o : Int) (x : Mt) : Mt := ⟨⟨(List.range x.w.ns.length).map (mkInt o), (List.range x.w.es.length).map (mkInt (o + x.w.ns.length))⟩, bnMarks x.bs (o + x.w.ns.length + x.w.es.length)⟩
def mtM (xs : List Mt) (m : Int) (k : Nat) : Mt := match xs[k]? with
  | none => ⟨⟨[], []⟩, []⟩
  | some x => mtK (mtO xs m k) x
theorem mtM_at {xs : List Mt} {m : Int} {k : Nat} (h : k < xs.length) : mtM xs m k = mtK (mtO xs m k) xs[k] := by
  unfold mtM; rw [List.getElem?_eq_getElem h]
theorem mtO_succ {xs : List Mt} {m : Int} {k : Nat} (h : k < xs.length) : mtO xs m (k + 1) = mtO xs m k + xs[k].w.ns.length + xs[k].w.es.length + bnLen xs[k].bs := by
  unfold mtO; rw [mtSum_succ xs k h]; unfold mtLen; push_cast; omega
theorem mtO_ge {xs : List Mt} {m : Int} {k : Nat} : m ≤ mtO xs m k := by unfold mtO; omega
def mtMarks (xs : List Mt) (m : Int) : List Mt := (List.range xs.length).map (mtM xs m)
theorem mtMarks_len (xs : List Mt) (m : Int) : (mtMarks xs m).length = xs.length := by simp [mtMarks]
theorem mtO_end (xs : List Mt) (m : Int) : mtO xs m xs.length = m + mtSum xs := by unfold mtO; rw [List.take_length]

set_option maxRecDepth 100000 in
set_option maxHeartbeats 4000000 in
theorem markMatchS_any (xs : List Mt) (v : Value) (F : List Nat) (m : Int) (w : World) (hv : kMt.Ow w v xs F) (hm : 1 ≤ m) (hb : m + 4 * sumMt xs ≤ 80000000) :
    Calls Try.prog 31 #[v, .int .i64 m] w fun e w' => e = .returned (.int .i64 (m + mtSum xs)) ∧ kMt.Ow w' v (mtMarks xs m) F ∧ Chg F w w' := by
  obtain ⟨p, cap, rfl⟩ := hv.form
  obtain ⟨_, hm1, hm2⟩ := hv.rd.max
  unfold maxLen at hm2
  have HV := Lib.hid hv
  have HB := Lib.hid hb
  clear hv hb
  go_enter Try.func31, Try.ntmps31
  go_wp2_with fail
  go_loopw [1, 5] (fun kk i wr => ∃ (k : Nat), k ≤ xs.length ∧ i = .int .i64 k ∧ kk = .int .i64 (mtO xs m k) ∧ RowKit.Hid (kMt.Ow wr (.slice p xs.length cap) (half (mtM xs m) xs k) F) ∧ RowKit.Hid (Chg F w wr)) (fun _ i _ => xs.length - (intOf i).toNat)
  case atStart => exact ⟨0, Nat.zero_le _, rfl, congrArg (Value.int .i64) (by simp [mtO, mtSum]), Lib.hid (by rw [half_zero]; exact HV.out), Lib.hid (Chg.refl _ _)⟩
  case round =>
    obtain ⟨k, hk, rfl, rfl, HO, HC⟩ := hrel
    have ht : 1 ≤ mtO xs m k := by have := mtO_ge (xs := xs) (m := m) (k := k); omega
    obtain ⟨t, et⟩ : ∃ t, t = mtO xs m k := ⟨_, rfl⟩
    obtain ⟨ys, ey⟩ : ∃ ys, ys = half (mtM xs m) xs k := ⟨_, rfl⟩
    have hyl : ys.length = xs.length := by rw [ey]; exact half_length _ _ hk
    rw [← et] at ht ⊢
    rw [← ey] at HO
    by_cases hlt : k < xs.length
    · have hltY : k < ys.length := by rw [hyl]; exact hlt
      have hek : ys[k] = xs[k] := by simp only [ey]; exact half_at _ _ hlt _
      obtain ⟨b, off, cs, F1, rfl, hbF, hbk, hsub, hbl, hfz, hcs, how, hback⟩ := HO.out.upd hltY
      rw [hek] at how
      have hbound : t + 2 * xs[k].need ≤ 80000000 := by
        have h2 := HB.out
        have h3 := mtSum_le xs k
        have h4 : t = m + mtSum (xs.take k) := et
        have h5 := sumMt_succ xs k hlt
        have h6 := sumMt_le xs (k + 1)
        omega
      have HSET := Lib.hid (show ys.set k (mtK t xs[k]) = half (mtM xs m) xs (k + 1) by rw [ey, ← half_succ _ _ hlt, mtM_at hlt, ← et])
      have HNX := Lib.hid (show mtO xs m (k + 1) = t + xs[k].w.ns.length + xs[k].w.es.length + bnLen xs[k].bs by rw [mtO_succ hlt, ← et])
      obtain ⟨x, ex⟩ : ∃ x, x = xs[k] := ⟨_, rfl⟩
      rw [← ex] at how hbound HSET HNX
      obtain ⟨a1, a2, a3, rfl, hx⟩ := how
      obtain ⟨_, _, _, Fw, Fb, e1, rfl, hw, hbs, hdj⟩ := hx
      cases e1
      obtain ⟨_, _, FN, FE, e2, rfl, on, oe, hdj2⟩ := hw
      cases e2
      obtain ⟨q1, d1, rfl⟩ := on.sl.form
      obtain ⟨q2, d2, rfl⟩ := oe.sl.form
      obtain ⟨q3, d3, rfl⟩ := hbs.form
      have c0 := hcs 0 _ rfl
      have c1 := hcs 1 _ rfl
      have c2 := hcs 2 _ rfl
      have HBACK := Lib.hid hback
      have HON := Lib.hid on
      have HOE := Lib.hid oe
      have HOB := Lib.hid hbs
      have HD := Lib.hid hdj
      have HD2 := Lib.hid hdj2
      have HFZ := Lib.hid hfz
      have HSUB := Lib.hid hsub
      have HBK := Lib.hid hbk
      have HBF := Lib.hid hbF
      have hneed : x.need = x.w.ns.length + x.w.es.length + (x.bs.length + sumBn x.bs) := rfl
      have hkl : (k : Int) < (xs.length : Int) := by omega
      have HKC := Lib.hid (fun (E : World) (G : List Nat) (hE : Chg G wr E) (hG : b ∉ G) => (⟨hE.cellOf hG c0, hE.cellOf hG c1, hE.cellOf hG c2⟩ : E.cell? ⟨b, off + k * kMt.sz + 0, none⟩ = some (.slice q1 x.w.ns.length d1) ∧ E.cell? ⟨b, off + k * kMt.sz + 1, none⟩ = some (.slice q2 x.w.es.length d2) ∧ E.cell? ⟨b, off + k * kMt.sz + 2, none⟩ = some (.slice q3 x.bs.length d3)))
      have hbN : b ∉ FN := fun h => hbk (by simp [h])
      have hbE : b ∉ FE := fun h => hbk (by simp [h])
      have hbB : b ∉ Fb := fun h => hbk (by simp [h])
      clear hback on oe hbs hdj hdj2 hfz hsub hbk hbF ex hek hcs HO ey hltY hyl et c0 c1 c2
      obtain ⟨c0, c1, c2⟩ := HKC.out wr [] (Chg.refl _ _) (by simp)
      simp only [show kMt.sz = 3 from rfl, Nat.add_zero] at c0 c1 c2 HKC
      go_wp2_with fail
      refine (markIntS_any _ _ FN t wr HON.out ht (by omega)).mono ?_
      rintro e w1 ⟨rfl, hk1, hc1⟩
      have z1 : b < w1.heap.size := by have := hc1.size; omega
      obtain ⟨x0, x1, x2⟩ := HKC.out w1 FN hc1 hbN
      have HN1 := Lib.hid hk1
      have HE1 := Lib.hid (HOE.out.chg hc1 (fun y hy hy2 => HD2.out y hy2 hy))
      have HB1 := Lib.hid (HOB.out.chg hc1 (fun y hy hy2 => HD.out y (List.mem_append_left _ hy2) hy))
      have HC1 := Lib.hid hc1
      clear hk1 hc1 c0 c1 c2
      go_wp2_with fail
      refine (markIntS_any _ _ FE (t + x.w.ns.length) w1 HE1.out (by omega) (by omega)).mono ?_
      rintro e w2 ⟨rfl, hk2, hc2⟩
      have z2 : b < w2.heap.size := by have := hc2.size; omega
      have HC2 := Lib.hid (show Chg (FN ++ FE) wr w2 from (HC1.out.mono (fun y hy => List.mem_append_left _ hy)).trans (hc2.mono (fun y hy => List.mem_append_right _ hy)))
      obtain ⟨y0, y1, y2⟩ := HKC.out w2 (FN ++ FE) HC2.out (by simp [hbN, hbE])
      have HN2 := Lib.hid (HN1.out.chg hc2 (fun y hy hy2 => HD2.out y hy hy2))
      have HE2 := Lib.hid hk2
      have HB2 := Lib.hid (HB1.out.chg hc2 (fun y hy hy2 => HD.out y (List.mem_append_right _ hy2) hy))
      clear hk2 hc2 x0 x1 x2
      go_wp2_with fail
      refine (markBindS_full x.bs _ Fb (t + x.w.ns.length + x.w.es.length) w2 HB2.out (by omega) (by omega)).mono ?_
      rintro e w3 ⟨rfl, hk3, hc3⟩
      have z3 : b < w3.heap.size := by have := hc3.size; omega
      have HC3 := Lib.hid (show Chg ((FN ++ FE) ++ Fb) wr w3 from (HC2.out.mono (fun y hy => List.mem_append_left _ hy)).trans (hc3.mono (fun y hy => List.mem_append_right _ hy)))
      have hb3 : b ∉ (FN ++ FE) ++ Fb := by simp [hbN, hbE, hbB]
      obtain ⟨u0, u1, u2⟩ := HKC.out w3 _ HC3.out hb3
      have HX := Lib.hid (show kMt.ow w3 (mtK t x) [.slice q1 x.w.ns.length d1, .slice q2 x.w.es.length d2, .slice q3 x.bs.length d3] ((FN ++ FE) ++ Fb) from
        ⟨_, _, _, rfl, _, _, _, FN ++ FE, Fb, rfl, rfl, ⟨_, _, FN, FE, rfl, rfl, HN2.out.chg hc3 (fun y hy hy2 => HD.out y (List.mem_append_left _ hy) hy2), HE2.out.chg hc3 (fun y hy hy2 => HD.out y (List.mem_append_right _ hy) hy2), HD2.out⟩, hk3, HD.out⟩)
      have HEND := Lib.hid (show kMt.Ow w3 (.slice (some ⟨b, off, none⟩) xs.length cap) (ys.set k (mtK t x)) F ∧ Chg F w w3 from by
        refine ⟨HBACK.out w3 (mtK t x) _ (HC3.out.mono (fun y hy => List.mem_cons_of_mem _ hy)) (fun o => ?_) HX.out (fun j u hu => ?_) (fun o _ => World.cell?_of_block (w := wr) (a := ⟨b, o, none⟩) (HC3.out.block b hbl hb3)), HC.out.trans (HC3.out.mono HSUB.out)⟩
        · exact HC3.out.frozenOf hb3 hbl (HFZ.out o)
        · match j, hu with
          | 0, hu => simp at hu; subst hu; simpa [show kMt.sz = 3 from rfl] using u0
          | 1, hu => simp at hu; subst hu; simpa [show kMt.sz = 3 from rfl] using u1
          | 2, hu => simp at hu; subst hu; simpa [show kMt.sz = 3 from rfl] using u2
          | j + 3, hu => simp at hu)
      clear hk3 hc3 y0 y1 y2
      go_wp2_with fail
      go_roundw
      case rel =>
        exact ⟨k + 1, by omega, by go_num, congrArg (Value.int .i64) (by rw [HNX.out]), Lib.hid (by rw [← HSET.out]; exact HEND.out.1), Lib.hid HEND.out.2⟩
      case measure => simp [intOf]; omega
    · obtain rfl : k = xs.length := by omega
      have HE := Lib.hid (show kMt.Ow wr (.slice p xs.length cap) (mtMarks xs m) F by rw [show mtMarks xs m = half (mtM xs m) xs xs.length from (half_full _ _).symm, ← ey]; exact HO.out)
      have hte : t = m + mtSum xs := et.trans (mtO_end xs m)
      go_wp2_with fail
      go_ret
      exact ⟨by rw [hte]; rfl, HE.out, HC.out⟩

set_option maxRecDepth 100000 in
set_option maxHeartbeats 2000000 in
theorem heldMatchS_any (xs : List Mt) (v : Value) (m : Int) (B : Nat) (w : World) (hv : kMt.Rd B w v (mtMarks xs m)) (hB : B ≤ w.heap.size) (hm : 1 ≤ m) (hb : m + 4 * sumMt xs ≤ 80000000) :
    Calls Try.prog 32 #[v, .int .i64 m] w fun e w' => e = .returned (.int .i64 (m + mtSum xs)) ∧ Below w.heap.size w w' := by
  obtain ⟨p, cap, hve⟩ := hv.form
  obtain ⟨_, hm1, hm2⟩ := (hve ▸ hv).max
  have hlen := mtMarks_len xs m
  rw [hlen] at hve
  subst hve
  unfold maxLen at hm2
  have HV := Lib.hid hv
  have HB := Lib.hid hb
  clear hv hb
  go_enter Try.func32, Try.ntmps32
  go_wp2_with fail
  go_loopw [1, 5] (fun kk i wr => ∃ k : Nat, k ≤ xs.length ∧ i = .int .i64 k ∧ kk = .int .i64 (mtO xs m k) ∧ Below w.heap.size w wr) (fun _ i _ => xs.length - (intOf i).toNat)
  case atStart => exact ⟨0, Nat.zero_le _, rfl, congrArg (Value.int .i64) (by simp [mtO, mtSum]), Below.refl _ _⟩
  case round =>
    obtain ⟨k, hk, rfl, rfl, hbw⟩ := hrel
    have hsz := hbw.size
    have HBW := Lib.hid hbw
    clear hbw
    have ht : 1 ≤ mtO xs m k := by have := mtO_ge (xs := xs) (m := m) (k := k); omega
    obtain ⟨t, et⟩ : ∃ t, t = mtO xs m k := ⟨_, rfl⟩
    rw [← et] at ht ⊢
    by_cases hlt : k < xs.length
    · have hltM : k < (mtMarks xs m).length := by rw [hlen]; exact hlt
      obtain ⟨b, off, q, c, q', c', r, e, rfl, hb', c0, c1, c2, hin⟩ := kMt_get (HV.out.to (HBW.out.mono hB) (Nat.le_refl _)) hltM
      have hgx : (mtMarks xs m)[k] = mtK t xs[k] := by
        simp only [mtMarks, List.getElem_map, List.getElem_range, mtM_at hlt, ← et]
      rw [hgx] at c0 c1 c2 hin
      have hbound : t + 2 * xs[k].need ≤ 80000000 := by
        have h2 := HB.out
        have h3 := mtSum_le xs k
        have h4 : t = m + mtSum (xs.take k) := et
        have h5 := sumMt_succ xs k hlt
        have h6 := sumMt_le xs (k + 1)
        omega
      have HNX := Lib.hid (show mtO xs m (k + 1) = t + xs[k].w.ns.length + xs[k].w.es.length + bnLen xs[k].bs by rw [mtO_succ hlt, ← et])
      obtain ⟨x, ex⟩ : ∃ x, x = xs[k] := ⟨_, rfl⟩
      rw [← ex] at c0 c1 c2 hin hbound HNX
      have hneed : x.need = x.w.ns.length + x.w.es.length + (x.bs.length + sumBn x.bs) := rfl
      have e0 : (mtK t x).w.ns.length = x.w.ns.length := by simp [mtK]
      have e1 : (mtK t x).w.es.length = x.w.es.length := by simp [mtK]
      have e2 : (mtK t x).bs.length = x.bs.length := by simp [mtK, bnMarks]
      rw [e0] at c0 hin
      rw [e1] at c1 hin
      rw [e2] at c2 hin
      obtain ⟨H1, H2, H3⟩ : RowKit.Hid (Sl 1 intCells B wr (.slice q x.w.ns.length c) ((List.range x.w.ns.length).map (mkInt t))) ∧ RowKit.Hid (Sl 1 intCells B wr (.slice q' x.w.es.length c') ((List.range x.w.es.length).map (mkInt (t + x.w.ns.length)))) ∧ RowKit.Hid (kBn.Rd B wr (.slice r x.bs.length e) (bnMarks x.bs (t + x.w.ns.length + x.w.es.length))) := by
        obtain ⟨a1, a2, a3, f1, h1, h2, h3⟩ := hin
        cases f1
        exact ⟨Lib.hid h1, Lib.hid h2, Lib.hid h3⟩
      clear hgx ex hin hltM et e0 e1 e2
      have hkl : (k : Int) < (xs.length : Int) := by omega
      have hbr : b < wr.heap.size := by omega
      have HK := Lib.hid (fun (E : World) (hE : Below wr.heap.size wr E) => (⟨keepc hE hbr c0, keepc hE hbr c1, keepc hE hbr c2⟩ : E.cell? ⟨b, off + k * 3, none⟩ = some (.slice q x.w.ns.length c) ∧ E.cell? ⟨b, off + k * 3 + 1, none⟩ = some (.slice q' x.w.es.length c') ∧ E.cell? ⟨b, off + k * 3 + 2, none⟩ = some (.slice r x.bs.length e)))
      have g1 : ¬ (t + (x.w.ns.length : Int) < 0) := by omega
      have g2 : ¬ (t + (x.w.ns.length : Int) + (x.w.es.length : Int) < 0) := by omega
      have g3 : ¬ (t + (x.w.ns.length : Int) + (x.w.es.length : Int) + (bnLen x.bs : Int) < 0) := by omega
      go_wp2_with fail
      refine (heldIntS_any _ _ t B wr H1.out (by omega) ht (by omega)).mono ?_
      rintro en w1 ⟨rfl, hb1⟩
      clear c0 c1 c2
      obtain ⟨c0, c1, c2⟩ := HK.out _ hb1
      have s1 := hb1.size
      go_wp2_with fail
      refine (heldIntS_any _ _ (t + x.w.ns.length) B w1 (H2.out.below (hb1.mono (by omega))) (by omega) (by omega) (by omega)).mono ?_
      rintro en w2 ⟨rfl, hb2⟩
      have r2 := hb1.trans (hb2.mono s1)
      have s2 := r2.size
      clear c0 c1 c2
      obtain ⟨c0, c1, c2⟩ := HK.out _ r2
      go_wp2_with fail
      refine (heldBindS_any x.bs _ (t + x.w.ns.length + x.w.es.length) B w2 (H3.out.to (r2.mono (by omega)) (Nat.le_refl _)) (by omega) (by omega) (by omega)).mono ?_
      rintro en w3 ⟨rfl, hb3⟩
      have HR3 := Lib.hid (HBW.out.trans ((r2.trans (hb3.mono s2)).mono hsz))
      clear hb1 hb2 hb3 r2 c0 c1 c2
      go_wp2_with fail
      go_roundw
      case rel => exact ⟨k + 1, by omega, by go_num, congrArg (Value.int .i64) (by rw [HNX.out]), HR3.out⟩
      case measure => simp [intOf]; omega
    · obtain rfl : k = xs.length := by omega
      have hte : t = m + mtSum xs := et.trans (mtO_end xs m)
      go_wp2_with fail
      go_ret
      exact ⟨by rw [hte]; rfl, HBW.out⟩
end Go.Proofs.Ytggpnnoldjpmcaa
namespace Go.Proofs.Ytggpnnoldjpmcaa
open Go.ChangeShapes Go.WideShapes Go.Deep Go.RowKit Go.Joins

section
variable {H : Type} {enc : TypeId × Value → H} {w : World} {base : Nat} {spare : Nat → Bool} {held : Bool}
set_option maxRecDepth 100000 in
theorem open_matches {fuel : Nat} {v : Value} {y : DataW H × List MemPlace} (h : DataW.trod enc Try.prog w base spare held fuel 55 [v] = some y) :
    ∃ xs : List Mt, kMt.Rd w.heap.size w v xs ∧ ∀ x ∈ xs, x.Ok := by
  obtain ⟨p, len, cap, rfl, hl, hm, hi⟩ := open_cells Try.underlying55 kM3 (by decide) h
  refine Kd.rd_of kMt hl hm Mt.Ok fun i him => ?_
  obtain ⟨b, off, n, cs, z, e, hlt, hlen, hc, ht⟩ := hi i him
  match cs, hlen with
  | [c0, c1, c2], _ =>
    obtain ⟨m, ⟨h0, h1, h2⟩, hok⟩ := open_match3 ht
    exact ⟨m, ⟨b, off, _, e, hlt, hc, ⟨c0, c1, c2, rfl, _, _, _, rfl, h0, h1, h2⟩⟩, hok⟩
set_option maxRecDepth 100000 in
/-- A row of matches that came in. -/
theorem open_matchRow {r : Reach} {b0 : Nat} {v : Value} {d : DataW H} {p : List MemPlace} (hv : Value.okWide Try.prog w r b0 55 v) (h : DataW.Trod enc Try.prog w base spare held 55 v d p) :
    ∃ xs : List Mt, kMt.Rd w.heap.size w v xs ∧ ∀ x ∈ xs, x.Ok := by
  obtain ⟨p', len', cap', rfl⟩ := okWide_slice Try.underlying55 hv
  obtain ⟨fuel, hf⟩ := h
  exact open_matches (by simpa [Value.cells] using hf)
end
end Go.Proofs.Ytggpnnoldjpmcaa
