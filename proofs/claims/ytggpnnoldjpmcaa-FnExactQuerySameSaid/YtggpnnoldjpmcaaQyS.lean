/- QuerySame on both sides. -/
import Derived.Test.YtggpnnoldjpmcaaQy
import Derived.Test.YtggpnnoldjpmcaaGSame
import Derived.Test.YtggpnnoldjpmcaaPtSame
import Derived.Test.YtggpnnoldjpmcaaSPtSame
import Derived.Test.YtggpnnoldjpmcaaReg
namespace Go.Proofs.Ytggpnnoldjpmcaa
open Go.RowKit

def tsE (x y : Ts) : Bool := (x.a.toList == y.a.toList) && ((x.o == y.o) && (x.b.toList == y.b.toList))
noncomputable def qyEq (a b : Qy) : Bool := eqL ptEq a.ps.list b.ps.list && eqL tsE a.ts b.ts
theorem neqTest (x y : Ts) (w : World) : (binOp .neq 80 (.agg #[.string x.a, .int .i64 x.o, .string x.b]) (.agg #[.string y.a, .int .i64 y.o, .string y.b])).run Try.prog w = .ok (.bool (!tsE x y)) w := by
  have h := run_neq_struct (P := Try.prog) w 80 #[.string x.a, .int .i64 x.o, .string x.b] #[.string y.a, .int .i64 y.o, .string y.b]
  rw [h, run_equalIn_agg w 9999 80 _ _ (by kernel_rfl) (by kernel_rfl)]
  go_simp
  unfold tsE
  repeat' split
  all_goals simp_all

set_option maxRecDepth 100000 in
set_option maxHeartbeats 1000000 in
theorem slEqualTest_any (xs ys : List Ts) (v v' : Value) (B : Nat) (w : World) (hv : Sl 3 Ts.cells B w v xs) (hv' : Sl 3 Ts.cells B w v' ys) (hB : B ≤ w.heap.size) :
    Calls Try.prog 47 #[v, v'] w fun e w' => e = .returned (.bool (eqL tsE xs ys)) ∧ Below w.heap.size w w' := by
  obtain ⟨p, cap, rfl⟩ := hv.form
  obtain ⟨p', cap', rfl⟩ := hv'.form
  have hm := hv.max
  have hm' := hv'.max
  unfold maxLen at hm hm'
  by_cases hlen : xs.length = ys.length
  · have q1 : ((xs.length : Int) != (ys.length : Int)) = false := by rw [hlen]; simp
    have HL := Lib.hid hlen
    have hl1 : xs.length ≤ ys.length := by omega
    have hl2 : ys.length ≤ xs.length := by omega
    clear hlen
    go_enter Try.func47, Try.ntmps47
    go_wp2_with fail
    go_loopw [13] (fun i wr => ∃ k : Nat, k ≤ xs.length ∧ i = .int .i64 k ∧ AllE tsE xs ys k ∧ Below w.heap.size w wr) (fun i _ => xs.length - (intOf i).toNat)
    case atStart => exact ⟨0, Nat.zero_le _, rfl, AllE.zero _ _ _, Below.refl _ _⟩
    case round =>
      obtain ⟨k, hk, rfl, ha, hbw⟩ := hrel
      have hsz := hbw.size
      have HB := Lib.hid hbw
      clear hbw
      by_cases hlt2 : k < xs.length
      · have hlt3 : k < ys.length := by omega
        obtain ⟨b, off, rfl, hb, c0, c1, c2⟩ := (hv.below (HB.out.mono hB)).ts hlt2
        obtain ⟨b', off', rfl, hb', d0, d1, d2⟩ := (hv'.below (HB.out.mono hB)).ts hlt3
        have HA := Lib.hid ha
        have hgood := Lib.hid (fun h => ha.succ (f := tsE) hlt2 hlt3 h)
        have hbad := Lib.hid (fun h => eqL_bad (f := tsE) (xs := xs) (ys := ys) k hlt2 hlt3 h)
        clear ha
        obtain ⟨x, ex⟩ : ∃ x, x = xs[k] := ⟨_, rfl⟩
        obtain ⟨y, ey⟩ : ∃ y, y = ys[k] := ⟨_, rfl⟩
        rw [← ex, ← ey] at hgood hbad
        rw [← ex] at c0 c1 c2
        rw [← ey] at d0 d1 d2
        clear ex ey
        have hq := neqTest x y
        by_cases hE : tsE x y = true
        · have HG := Lib.hid (hgood.out hE)
          go_wp2_with fail
          go_still_tail 8, (by kernel_rfl)
          go_wp2_with fail
          go_roundw
          case rel => exact ⟨k + 1, by omega, by go_num, HG.out, HB.out.drew⟩
          case measure => simp [intOf]; omega
        · have hE' : tsE x y = false := Bool.eq_false_iff.2 hE
          have HG := Lib.hid (hbad.out hE')
          clear hE
          go_wp2_with fail
          go_still_tail 8, (by kernel_rfl)
          go_wp2_with fail
          go_ret
          exact ⟨ret_bool (by rw [HG.out]), HB.out.drew⟩
      · have HG := Lib.hid (ha.full (by omega) HL.out)
        go_wp2_with fail
        go_ret
        exact ⟨ret_bool (by rw [HG.out]), HB.out⟩
  · have q1 : ((xs.length : Int) != (ys.length : Int)) = true := by simp; omega
    have HL := Lib.hid (eqL_len (f := tsE) hlen)
    clear hlen
    go_enter Try.func47, Try.ntmps47
    go_wp2_with fail
    go_ret
    exact ⟨ret_bool (by rw [HL.out]), Below.refl _ _⟩

set_option maxRecDepth 100000 in
set_option maxHeartbeats 2000000 in
theorem equalPats_any (f g : Pf) (v v' : Value) (B : Nat) (w : World) (hv : f.Is true B w v) (hv' : g.Is true B w v') (hB : B ≤ w.heap.size) (hs : f.need ≤ 1048576) :
    Calls Try.prog 45 #[v, v', .func (.func 46) #[] #[]] w fun e w' => e = .returned (.bool (eqL ptEq f.list g.list)) ∧ Below w.heap.size w w' := by
  obtain ⟨p, cap, rfl⟩ := hv.form
  obtain ⟨p', cap', rfl⟩ := hv'.form
  obtain ⟨_, hl1, hm⟩ := hv.max
  obtain ⟨_, hl2, hm'⟩ := hv'.max
  unfold maxLen at hm hm'
  have HV := Lib.hid hv
  have HV' := Lib.hid hv'
  clear hv hv'
  by_cases hlen : f.list.length = g.list.length
  · have q1 : ((f.list.length : Int) != (g.list.length : Int)) = false := by rw [hlen]; simp
    have HL := Lib.hid hlen
    have hl1 : f.list.length ≤ g.list.length := by omega
    have hl2 : g.list.length ≤ f.list.length := by omega
    clear hlen
    go_enter Try.func45, Try.ntmps45
    go_wp2_with fail
    go_loopw [17] (fun i wr => ∃ k : Nat, k ≤ f.list.length ∧ i = .int .i64 k ∧ AllE ptEq f.list g.list k ∧ Below w.heap.size w wr) (fun i _ => f.list.length - (intOf i).toNat)
    case atStart => exact ⟨0, Nat.zero_le _, rfl, AllE.zero _ _ _, Below.refl _ _⟩
    case round =>
      obtain ⟨k, hk, rfl, ha, hbw⟩ := hrel
      have hsz := hbw.size
      have HB := Lib.hid hbw
      clear hbw
      by_cases hlt2 : k < f.list.length
      · have hlt3 : k < g.list.length := by omega
        obtain ⟨b, off, rfl, hb, _, ht⟩ := (HV.out.below (HB.out.mono hB) (Nat.le_refl _)).get k hlt2
        obtain ⟨b', off', rfl, hb', _, ht'⟩ := (HV'.out.below (HB.out.mono hB) (Nat.le_refl _)).get k hlt3
        have hgood := Lib.hid (fun h => ha.succ (f := ptEq) hlt2 hlt3 h)
        have hbad := Lib.hid (fun h => eqL_bad (f := ptEq) (xs := f.list) (ys := g.list) k hlt2 hlt3 h)
        have hnx : ptNeed f.list[k] ≤ 1048576 := Nat.le_trans (f.need_get k hlt2) hs
        clear ha
        obtain ⟨x, ex⟩ : ∃ x, x = f.list[k] := ⟨_, rfl⟩
        obtain ⟨y, ey⟩ : ∃ y, y = g.list[k] := ⟨_, rfl⟩
        rw [← ex, ← ey] at hgood hbad
        rw [← ex] at ht hnx
        rw [← ey] at ht'
        obtain ⟨p0, pc0, q0, qc0, r0, rc0, c0, c1, c2, c3, c4, c5, c6, c7, c8, c9, c10, c11, c12, hx⟩ := ht.at
        obtain ⟨p1, pc1, q1', qc1, r1, rc1, d0, d1, d2, d3, d4, d5, d6, d7, d8, d9, d10, d11, d12, hy⟩ := ht'.at
        simp only [Nat.add_zero] at c0 d0
        have hbt : Below wr.heap.size wr ((wr.alloc (.cells #[.int .i64 x.op, .bool x.e.n, .string x.e.v, .int .i64 x.e.l.op, .string x.e.l.a, .slice p0 x.e.l.ks.list.length pc0, .int .i64 x.e.c.op, .string x.e.c.a, .slice q0 x.e.c.ks.list.length qc0, .int .i64 x.e.d, .slice r0 x.ks.list.length rc0, .int .i64 x.lo, .int .i64 x.hi] 78)).alloc (.cells #[.int .i64 y.op, .bool y.e.n, .string y.e.v, .int .i64 y.e.l.op, .string y.e.l.a, .slice p1 y.e.l.ks.list.length pc1, .int .i64 y.e.c.op, .string y.e.c.a, .slice q1' y.e.c.ks.list.length qc1, .int .i64 y.e.d, .slice r1 y.ks.list.length rc1, .int .i64 y.lo, .int .i64 y.hi] 78)) := ((Below.refl _ _).alloc (Nat.le_refl _) _).alloc (by simp) _
        have HT := Lib.hid hbt
        have HX := Lib.hid (hx.below (hbt.mono (by omega)) (Nat.le_refl _))
        have HY := Lib.hid (hy.below (hbt.mono (by omega)) (Nat.le_refl _))
        have hb3 : b < wr.heap.size := by omega
        have hb4 : b' < wr.heap.size := by omega
        clear ex ey ht ht' hx hy hbt
        go_wp2_with fail
        refine (patSame_live x y _ _ B _ HX.out HY.out (by simp; omega) hnx).mono ?_
        rintro e w1 ⟨rfl, hb1⟩
        have HB1 := Lib.hid (HB.out.trans ((HT.out.trans (hb1.mono (by simp; omega))).mono hsz))
        clear hb1
        cases hE : ptEq x y with
        | true =>
          have HG := Lib.hid (hgood.out hE)
          go_wp2_with fail
          go_roundw
          case rel => exact ⟨k + 1, by omega, by go_num, HG.out, HB1.out⟩
          case measure => simp [intOf]; omega
        | false =>
          have HG := Lib.hid (hbad.out hE)
          go_wp2_with fail
          go_ret
          exact ⟨ret_bool (by rw [HG.out]), HB1.out⟩
      · have HG := Lib.hid (ha.full (by omega) HL.out)
        go_wp2_with fail
        go_ret
        exact ⟨ret_bool (by rw [HG.out]), HB.out⟩
  · have q1 : ((f.list.length : Int) != (g.list.length : Int)) = true := by simp; omega
    have HL := Lib.hid (eqL_len (f := ptEq) hlen)
    clear hlen
    go_enter Try.func45, Try.ntmps45
    go_wp2_with fail
    go_ret
    exact ⟨ret_bool (by rw [HL.out]), Below.refl _ _⟩

set_option maxHeartbeats 1000000 in
theorem querySame_any (g g' : Qy) (v v' : Value) (F F' : List Nat) (w : World) (hg : g.Has v F w) (hg' : g'.Has v' F' w) (hs : g.ps.need ≤ 1048576) :
    Calls Try.prog 12 #[v, v'] w fun e w' => e = .returned (.bool (qyEq g g')) ∧ Below w.heap.size w w' := by
  obtain ⟨F1, F2, rfl, a, b, rfl, ha, hb, _⟩ := hg
  obtain ⟨F3, F4, rfl, a', b', rfl, ha', hb', _⟩ := hg'
  have ha := Pf.Own.is (L := true) ha
  have ha' := Pf.Own.is (L := true) ha'
  have hb := hb.sl
  have hb' := hb'.sl
  go_enter Try.func12, Try.ntmps12
  go_wp2_with fail
  have HV := Lib.hid (((Below.refl w.heap.size w).alloc (by simp) (.cells #[a, b] 31)).alloc (by simp) (.cells #[a', b'] 31))
  refine (equalPats_any g.ps g'.ps a a' w.heap.size _ (ha.below HV.out (Nat.le_refl _)) (ha'.below HV.out (Nat.le_refl _)) (by simp; omega) hs).mono ?_
  rintro e w1 ⟨rfl, hb1⟩
  have hs1 : w.heap.size + 2 ≤ w1.heap.size := by have := hb1.size; simp at this; omega
  have p1 : w1.cell? ⟨w.heap.size, 1, none⟩ = some b := (hb1.cell (by simp; omega)).trans (by simp [go_sem])
  have q1 : w1.cell? ⟨w.heap.size + 1, 1, none⟩ = some b' := (hb1.cell (by simp)).trans (by simp [go_sem])
  have HB1 := Lib.hid (HV.out.trans (hb1.mono (by simp; omega)))
  clear hb1
  by_cases e1 : eqL ptEq g.ps.list g'.ps.list = true
  · have E1 := Lib.hid e1
    go_wp2_with fail
    refine (slEqualTest_any g.ts g'.ts b b' w.heap.size _ (hb.below HB1.out) (hb'.below HB1.out) (by omega)).mono ?_
    rintro e w2 ⟨rfl, hb2⟩
    have HB2 := Lib.hid (HB1.out.trans (hb2.mono (by omega)))
    clear hb2
    go_wp2_with fail
    go_ret
    exact ⟨ret_bool (by unfold qyEq; rw [E1.out]; rfl), HB2.out⟩
  · have E1 := Lib.hid (Bool.eq_false_iff.2 e1)
    go_wp2_with fail
    go_ret
    exact ⟨ret_bool (by unfold qyEq; rw [E1.out]; rfl), HB1.out⟩
end Go.Proofs.Ytggpnnoldjpmcaa
