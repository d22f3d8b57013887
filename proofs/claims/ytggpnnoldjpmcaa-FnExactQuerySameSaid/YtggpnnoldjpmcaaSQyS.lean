/- QuerySame of the model. -/
import Derived.Test.YtggpnnoldjpmcaaQyS
import Derived.Test.YtggpnnoldjpmcaaReg
namespace Go.Proofs.Ytggpnnoldjpmcaa
open Go.RowKit

set_option maxRecDepth 100000 in
set_option maxHeartbeats 8000000 in
theorem specQuerySame_any (g g9 : Qy) (v v' : Value) (B : Nat) (w : World) (hg : g.At B w v) (hg' : g9.At B w v') (hB : B ≤ w.heap.size) :
    Calls Try.prog 10 #[v, v'] w fun e w' => e = .returned (.bool (qyEq g g9)) ∧ Below w.heap.size w w' := by
  obtain ⟨a, a2, rfl, ha, ha2⟩ := hg
  obtain ⟨b, b2, rfl, hb, hb2⟩ := hg'
  obtain ⟨p, cap, rfl⟩ := ha.form
  obtain ⟨q, cq, rfl⟩ := ha2.form
  obtain ⟨p9, cap9, rfl⟩ := hb.form
  obtain ⟨q9, cq9, rfl⟩ := hb2.form
  have hm1 := ha.max
  have hm2 := ha2.max
  unfold maxLen at hm1 hm2
  have H1 := Lib.hid ha
  have H2 := Lib.hid ha2
  have H3 := Lib.hid hb
  have H4 := Lib.hid hb2
  clear ha ha2 hb hb2
  obtain ⟨W0, eW⟩ : ∃ W0, W0 = (w.alloc (.cells #[.slice p g.ps.list.length cap, .slice q g.ts.length cq] 31)).alloc (.cells #[.slice p9 g9.ps.list.length cap9, .slice q9 g9.ts.length cq9] 31) := ⟨_, rfl⟩
  have HV := Lib.hid (show Below w.heap.size w W0 by rw [eW]; exact ((Below.refl w.heap.size w).alloc (by simp) _).alloc (by simp) _)
  have HK := Lib.hid (show ∀ wk, Below (w.heap.size + 2) W0 wk → (wk.cell? ⟨w.heap.size, 0, none⟩ = some (.slice p g.ps.list.length cap) ∧ wk.cell? ⟨w.heap.size + 1, 0, none⟩ = some (.slice p9 g9.ps.list.length cap9)) ∧ wk.cell? ⟨w.heap.size, 1, none⟩ = some (.slice q g.ts.length cq) ∧ wk.cell? ⟨w.heap.size + 1, 1, none⟩ = some (.slice q9 g9.ts.length cq9) from fun wk hk => by rw [eW] at hk; exact ⟨⟨keepc hk (by omega) (by simp [go_sem]), keepc hk (by omega) (by simp [go_sem])⟩, keepc hk (by omega) (by simp [go_sem]), keepc hk (by omega) (by simp [go_sem])⟩)
  have hz0 : w.heap.size + 2 ≤ W0.heap.size := by rw [eW]; simp
  have EW := Lib.hid eW
  clear eW
  by_cases l1 : g.ps.list.length = g9.ps.list.length
  · have t1 : ((g.ps.list.length : Int) != (g9.ps.list.length : Int)) = false := by rw [l1]; simp
    have L1 := Lib.hid l1
    have l1a : g.ps.list.length ≤ g9.ps.list.length := by omega
    clear l1
    by_cases l2 : g.ts.length = g9.ts.length
    · have t2 : ((g.ts.length : Int) != (g9.ts.length : Int)) = false := by rw [l2]; simp
      have L2 := Lib.hid l2
      have l2a : g.ts.length ≤ g9.ts.length := by omega
      clear l2
      go_enter Try.func10, Try.ntmps10
      go_wp2_with fail
      rw [← EW.out]
      go_loopw [5] (fun i wr => ∃ k : Nat, k ≤ g.ps.list.length ∧ i = .int .i64 k ∧ RowKit.Hid (AllE ptEq g.ps.list g9.ps.list k) ∧ RowKit.Hid (Below (w.heap.size + 2) W0 wr)) (fun i _ => g.ps.list.length - (intOf i).toNat)
      case atStart => exact ⟨0, Nat.zero_le _, rfl, Lib.hid (AllE.zero _ _ _), Lib.hid (Below.refl _ _)⟩
      case round =>
        obtain ⟨k, hk, rfl, HAL, HA⟩ := hrel
        rename World => wr
        have hzr : w.heap.size + 2 ≤ wr.heap.size := by have := HA.out.size; omega
        have hbw := HV.out.trans (HA.out.mono (by omega))
        have HBW := Lib.hid hbw
        clear hbw
        obtain ⟨⟨x0, x1⟩, x2, x3⟩ := HK.out _ HA.out
        have hy0 : w.heap.size < wr.heap.size := by omega
        have hy1 : w.heap.size + 1 < wr.heap.size := by omega
        by_cases hlt : k < g.ps.list.length
        · have hlt3 : k < g9.ps.list.length := by omega
          have hk1 : (k : Int) < (g.ps.list.length : Int) := by omega
          have hk2 : (k : Int) < (g9.ps.list.length : Int) := by omega
          have HLT := Lib.hid (show k + 1 ≤ g.ps.list.length from hlt)
          obtain ⟨b, off, rfl, hb, _, ht⟩ := (H1.out.below (HBW.out.mono hB) (Nat.le_refl _)).get k hlt
          obtain ⟨b1, off1, rfl, hb1, _, ht'⟩ := (H3.out.below (HBW.out.mono hB) (Nat.le_refl _)).get k hlt3
          have hgood := Lib.hid (fun h => HAL.out.succ (f := ptEq) hlt hlt3 h)
          have hbad := Lib.hid (fun h => eqL_bad (f := ptEq) (xs := g.ps.list) (ys := g9.ps.list) k hlt hlt3 h)
          obtain ⟨x, ex⟩ : ∃ x, x = g.ps.list[k]'hlt := ⟨_, rfl⟩
          obtain ⟨y, ey⟩ : ∃ y, y = g9.ps.list[k]'hlt3 := ⟨_, rfl⟩
          rw [← ex, ← ey] at hgood hbad
          rw [← ex] at ht
          rw [← ey] at ht'
          obtain ⟨p0, pc0, q0, qc0, r0, rc0, c0, c1, c2, c3, c4, c5, c6, c7, c8, c9, c10, c11, c12, hx⟩ := ht.at
          obtain ⟨p1, pc1, q1, qc1, r1, rc1, d0, d1, d2, d3, d4, d5, d6, d7, d8, d9, d10, d11, d12, hy⟩ := ht'.at
          simp only [Nat.add_zero] at c0 d0
          have HX := Lib.hid (show x.At B wr _ from hx)
          have HY := Lib.hid (show y.At B wr _ from hy)
          have hb3 : b < wr.heap.size := by omega
          have hb4 : b1 < wr.heap.size := by omega
          have HKK := Lib.hid (fun (E : World) (hE : Below wr.heap.size wr E) => (⟨⟨keepc hE hy0 x0, keepc hE hy1 x1⟩, ⟨keepc hE hb3 c0, keepc hE hb3 c1, keepc hE hb3 c2, keepc hE hb3 c3, keepc hE hb3 c4, keepc hE hb3 c5, keepc hE hb3 c6, keepc hE hb3 c7, keepc hE hb3 c8, keepc hE hb3 c9, keepc hE hb3 c10, keepc hE hb3 c11, keepc hE hb3 c12⟩, keepc hE hb4 d0, keepc hE hb4 d1, keepc hE hb4 d2, keepc hE hb4 d3, keepc hE hb4 d4, keepc hE hb4 d5, keepc hE hb4 d6, keepc hE hb4 d7, keepc hE hb4 d8, keepc hE hb4 d9, keepc hE hb4 d10, keepc hE hb4 d11, keepc hE hb4 d12⟩ : (E.cell? ⟨w.heap.size, 0, none⟩ = some (.slice (some ⟨b, off, none⟩) g.ps.list.length cap) ∧ E.cell? ⟨w.heap.size + 1, 0, none⟩ = some (.slice (some ⟨b1, off1, none⟩) g9.ps.list.length cap9)) ∧ (E.cell? ⟨b, off + k * 13, none⟩ = some (.int .i64 x.op) ∧ E.cell? ⟨b, off + k * 13 + 1, none⟩ = some (.bool x.e.n) ∧ E.cell? ⟨b, off + k * 13 + 2, none⟩ = some (.string x.e.v) ∧ E.cell? ⟨b, off + k * 13 + 3, none⟩ = some (.int .i64 x.e.l.op) ∧ E.cell? ⟨b, off + k * 13 + 4, none⟩ = some (.string x.e.l.a) ∧ E.cell? ⟨b, off + k * 13 + 5, none⟩ = some (.slice p0 x.e.l.ks.list.length pc0) ∧ E.cell? ⟨b, off + k * 13 + 6, none⟩ = some (.int .i64 x.e.c.op) ∧ E.cell? ⟨b, off + k * 13 + 7, none⟩ = some (.string x.e.c.a) ∧ E.cell? ⟨b, off + k * 13 + 8, none⟩ = some (.slice q0 x.e.c.ks.list.length qc0) ∧ E.cell? ⟨b, off + k * 13 + 9, none⟩ = some (.int .i64 x.e.d) ∧ E.cell? ⟨b, off + k * 13 + 10, none⟩ = some (.slice r0 x.ks.list.length rc0) ∧ E.cell? ⟨b, off + k * 13 + 11, none⟩ = some (.int .i64 x.lo) ∧ E.cell? ⟨b, off + k * 13 + 12, none⟩ = some (.int .i64 x.hi)) ∧ E.cell? ⟨b1, off1 + k * 13, none⟩ = some (.int .i64 y.op) ∧ E.cell? ⟨b1, off1 + k * 13 + 1, none⟩ = some (.bool y.e.n) ∧ E.cell? ⟨b1, off1 + k * 13 + 2, none⟩ = some (.string y.e.v) ∧ E.cell? ⟨b1, off1 + k * 13 + 3, none⟩ = some (.int .i64 y.e.l.op) ∧ E.cell? ⟨b1, off1 + k * 13 + 4, none⟩ = some (.string y.e.l.a) ∧ E.cell? ⟨b1, off1 + k * 13 + 5, none⟩ = some (.slice p1 y.e.l.ks.list.length pc1) ∧ E.cell? ⟨b1, off1 + k * 13 + 6, none⟩ = some (.int .i64 y.e.c.op) ∧ E.cell? ⟨b1, off1 + k * 13 + 7, none⟩ = some (.string y.e.c.a) ∧ E.cell? ⟨b1, off1 + k * 13 + 8, none⟩ = some (.slice q1 y.e.c.ks.list.length qc1) ∧ E.cell? ⟨b1, off1 + k * 13 + 9, none⟩ = some (.int .i64 y.e.d) ∧ E.cell? ⟨b1, off1 + k * 13 + 10, none⟩ = some (.slice r1 y.ks.list.length rc1) ∧ E.cell? ⟨b1, off1 + k * 13 + 11, none⟩ = some (.int .i64 y.lo) ∧ E.cell? ⟨b1, off1 + k * 13 + 12, none⟩ = some (.int .i64 y.hi)))
          have rr := Below.refl wr.heap.size wr
          clear ex ey ht ht' hx hy c0 d0 c1 d1 c2 d2 c3 d3 c4 d4 c5 d5 c6 d6 c7 d7 c8 d8 c9 d9 c10 d10 c11 d11 c12 d12
          cases hE : ptEq x y with
          | true =>
            have CSP := Lib.hid (fun (E : World) (hE9 : Below wr.heap.size wr E) => ((specPatSame_any x y _ _ B E (HX.out.to (hE9.mono (by omega)) (Nat.le_refl _)) (HY.out.to (hE9.mono (by omega)) (Nat.le_refl _)) (by have := hE9.size; omega)).mono (fun en w' h => ⟨h.1.trans (by rw [hE]), hE9.trans (h.2.mono hE9.size)⟩) : Calls Try.prog 42 #[.agg #[.int .i64 x.op, .bool x.e.n, .string x.e.v, .int .i64 x.e.l.op, .string x.e.l.a, .slice p0 x.e.l.ks.list.length pc0, .int .i64 x.e.c.op, .string x.e.c.a, .slice q0 x.e.c.ks.list.length qc0, .int .i64 x.e.d, .slice r0 x.ks.list.length rc0, .int .i64 x.lo, .int .i64 x.hi], .agg #[.int .i64 y.op, .bool y.e.n, .string y.e.v, .int .i64 y.e.l.op, .string y.e.l.a, .slice p1 y.e.l.ks.list.length pc1, .int .i64 y.e.c.op, .string y.e.c.a, .slice q1 y.e.c.ks.list.length qc1, .int .i64 y.e.d, .slice r1 y.ks.list.length rc1, .int .i64 y.lo, .int .i64 y.hi]] E (fun en w' => en = .returned (.bool true) ∧ Below wr.heap.size wr w')))
            go_upto_region 6 with fail
            go_cut [41] (fun s wx => s = .bool false ∧ Below wr.heap.size wr wx)
            case first =>
              refine wp_region_held_drew (S := fun w' => (w'.cell? ⟨w.heap.size, 0, none⟩ = some (.slice (some ⟨b, off, none⟩) g.ps.list.length cap) ∧ w'.cell? ⟨w.heap.size + 1, 0, none⟩ = some (.slice (some ⟨b1, off1, none⟩) g9.ps.list.length cap9)) ∧ (w'.cell? ⟨b, off + k * 13, none⟩ = some (.int .i64 x.op) ∧ w'.cell? ⟨b, off + k * 13 + 1, none⟩ = some (.bool x.e.n) ∧ w'.cell? ⟨b, off + k * 13 + 2, none⟩ = some (.string x.e.v) ∧ w'.cell? ⟨b, off + k * 13 + 3, none⟩ = some (.int .i64 x.e.l.op) ∧ w'.cell? ⟨b, off + k * 13 + 4, none⟩ = some (.string x.e.l.a) ∧ w'.cell? ⟨b, off + k * 13 + 5, none⟩ = some (.slice p0 x.e.l.ks.list.length pc0) ∧ w'.cell? ⟨b, off + k * 13 + 6, none⟩ = some (.int .i64 x.e.c.op) ∧ w'.cell? ⟨b, off + k * 13 + 7, none⟩ = some (.string x.e.c.a) ∧ w'.cell? ⟨b, off + k * 13 + 8, none⟩ = some (.slice q0 x.e.c.ks.list.length qc0) ∧ w'.cell? ⟨b, off + k * 13 + 9, none⟩ = some (.int .i64 x.e.d) ∧ w'.cell? ⟨b, off + k * 13 + 10, none⟩ = some (.slice r0 x.ks.list.length rc0) ∧ w'.cell? ⟨b, off + k * 13 + 11, none⟩ = some (.int .i64 x.lo) ∧ w'.cell? ⟨b, off + k * 13 + 12, none⟩ = some (.int .i64 x.hi)) ∧ w'.cell? ⟨b1, off1 + k * 13, none⟩ = some (.int .i64 y.op) ∧ w'.cell? ⟨b1, off1 + k * 13 + 1, none⟩ = some (.bool y.e.n) ∧ w'.cell? ⟨b1, off1 + k * 13 + 2, none⟩ = some (.string y.e.v) ∧ w'.cell? ⟨b1, off1 + k * 13 + 3, none⟩ = some (.int .i64 y.e.l.op) ∧ w'.cell? ⟨b1, off1 + k * 13 + 4, none⟩ = some (.string y.e.l.a) ∧ w'.cell? ⟨b1, off1 + k * 13 + 5, none⟩ = some (.slice p1 y.e.l.ks.list.length pc1) ∧ w'.cell? ⟨b1, off1 + k * 13 + 6, none⟩ = some (.int .i64 y.e.c.op) ∧ w'.cell? ⟨b1, off1 + k * 13 + 7, none⟩ = some (.string y.e.c.a) ∧ w'.cell? ⟨b1, off1 + k * 13 + 8, none⟩ = some (.slice q1 y.e.c.ks.list.length qc1) ∧ w'.cell? ⟨b1, off1 + k * 13 + 9, none⟩ = some (.int .i64 y.e.d) ∧ w'.cell? ⟨b1, off1 + k * 13 + 10, none⟩ = some (.slice r1 y.ks.list.length rc1) ∧ w'.cell? ⟨b1, off1 + k * 13 + 11, none⟩ = some (.int .i64 y.lo) ∧ w'.cell? ⟨b1, off1 + k * 13 + 12, none⟩ = some (.int .i64 y.hi)) (by kernel_rfl) ?_ (fun hHeld => ?_)
              · exact HKK.out _ (show Below wr.heap.size wr _ by ((repeat (first | with_reducible assumption | with_reducible exact Below.refl _ _ | refine Below.setCell ?_ (by (first | omega | (simp; omega) | (simp; done) | fail "sml")) _ | refine Below.drew ?_ | refine Below.alloc ?_ (by (first | omega | (simp; omega) | (simp; done) | fail "sml")) _)); first | done | fail "chs"))
              (refine takeL (i := 0) (v := ?_) rfl (by kernel_rfl) (by kernel_rfl) (by kernel_rfl) (fun _ _ _ h => h) (Or.inl ⟨by kernel_rfl, ?_⟩) (by assumption) ?_; rotate_left; (focus (intro w hSw; (try dsimp only at hSw); go_simp; first | done | with_reducible rfl | fail "take")); (try simp only [Act.put, List.setIfInBounds_toArray, List.set_cons_zero, List.set_cons_succ]))
              (refine takeL (i := 1) (v := ?_) rfl (by kernel_rfl) (by kernel_rfl) (by kernel_rfl) (fun _ _ _ h => h) (Or.inl ⟨by kernel_rfl, ?_⟩) (by assumption) ?_; rotate_left; (focus (intro w hSw; (try dsimp only at hSw); go_simp; first | done | with_reducible rfl | fail "take")); (try simp only [Act.put, List.setIfInBounds_toArray, List.set_cons_zero, List.set_cons_succ]))
              (refine takeL (i := 2) (v := ?_) rfl (by kernel_rfl) (by kernel_rfl) (by kernel_rfl) (fun _ _ _ h => h) (Or.inl ⟨by kernel_rfl, ?_⟩) (by assumption) ?_; rotate_left; (focus (intro w hSw; (try dsimp only at hSw); go_simp; first | done | with_reducible rfl | fail "take")); (try simp only [Act.put, List.setIfInBounds_toArray, List.set_cons_zero, List.set_cons_succ]))
              (refine takeL (i := 3) (v := ?_) rfl (by kernel_rfl) (by kernel_rfl) (by kernel_rfl) (fun _ _ _ h => h) (Or.inl ⟨by kernel_rfl, ?_⟩) (by assumption) ?_; rotate_left; (focus (intro w hSw; (try dsimp only at hSw); go_simp; first | done | with_reducible rfl | fail "take")); (try simp only [Act.put, List.setIfInBounds_toArray, List.set_cons_zero, List.set_cons_succ]))
              (refine takeL (i := 4) (v := ?_) rfl (by kernel_rfl) (by kernel_rfl) (by kernel_rfl) (fun _ _ _ h => h) (Or.inl ⟨by kernel_rfl, ?_⟩) (by assumption) ?_; rotate_left; (focus (intro w hSw; (try dsimp only at hSw); go_simp; first | done | with_reducible rfl | fail "take")); (try simp only [Act.put, List.setIfInBounds_toArray, List.set_cons_zero, List.set_cons_succ]))
              (refine takeL (i := 5) (v := ?_) rfl (by kernel_rfl) (by kernel_rfl) (by kernel_rfl) (fun _ _ _ h => h) (Or.inl ⟨by kernel_rfl, ?_⟩) (by assumption) ?_; rotate_left; (focus (intro w hSw; (try dsimp only at hSw); go_simp; first | done | with_reducible rfl | fail "take")); (try simp only [Act.put, List.setIfInBounds_toArray, List.set_cons_zero, List.set_cons_succ]))
              (refine takeL (i := 6) (v := ?_) rfl (by kernel_rfl) (by kernel_rfl) (by kernel_rfl) (fun _ _ _ h => h) (Or.inl ⟨by kernel_rfl, ?_⟩) (by assumption) ?_; rotate_left; (focus (intro w hSw; (try dsimp only at hSw); go_simp; first | done | with_reducible rfl | fail "take")); (try simp only [Act.put, List.setIfInBounds_toArray, List.set_cons_zero, List.set_cons_succ]))
              (refine takeL (i := 7) (v := ?_) rfl (by kernel_rfl) (by kernel_rfl) (by kernel_rfl) (fun _ _ _ h => h) (Or.inl ⟨by kernel_rfl, ?_⟩) (by assumption) ?_; rotate_left; (focus (intro w hSw; (try dsimp only at hSw); go_simp; first | done | with_reducible rfl | fail "take")); (try simp only [Act.put, List.setIfInBounds_toArray, List.set_cons_zero, List.set_cons_succ]))
              (refine takeL (i := 8) (v := ?_) rfl (by kernel_rfl) (by kernel_rfl) (by kernel_rfl) (fun _ _ _ h => h) (Or.inl ⟨by kernel_rfl, ?_⟩) (by assumption) ?_; rotate_left; (focus (intro w hSw; (try dsimp only at hSw); go_simp; first | done | with_reducible rfl | fail "take")); (try simp only [Act.put, List.setIfInBounds_toArray, List.set_cons_zero, List.set_cons_succ]))
              (refine takeL (i := 9) (v := ?_) rfl (by kernel_rfl) (by kernel_rfl) (by kernel_rfl) (fun _ _ _ h => h) (Or.inl ⟨by kernel_rfl, ?_⟩) (by assumption) ?_; rotate_left; (focus (intro w hSw; (try dsimp only at hSw); go_simp; first | done | with_reducible rfl | fail "take")); (try simp only [Act.put, List.setIfInBounds_toArray, List.set_cons_zero, List.set_cons_succ]))
              (refine callL (i := 10) rfl (by kernel_rfl) (by kernel_rfl) (fun K hK => ?_); go_simp)
              go_at_call 42
              with_reducible refine (CSP.out _ (by ((repeat (first | with_reducible assumption | with_reducible exact Below.refl _ _ | refine Below.setCell ?_ (by (first | omega | (simp; omega) | (simp; done) | fail "sml")) _ | refine Below.drew ?_ | refine Below.alloc ?_ (by (first | omega | (simp; omega) | (simp; done) | fail "sml")) _)); first | done | fail "chs"))).mono ?_
              rintro en wa ⟨rfl, hka⟩
              go_wp2_with fail
              refine hK.out _ _ ?_ (fun hHeld => ?_)
              · exact HKK.out _ (show Below wr.heap.size wr _ by ((repeat (first | with_reducible assumption | with_reducible exact Below.refl _ _ | refine Below.setCell ?_ (by (first | omega | (simp; omega) | (simp; done) | fail "sml")) _ | refine Below.drew ?_ | refine Below.alloc ?_ (by (first | omega | (simp; omega) | (simp; done) | fail "sml")) _)); first | done | fail "chs"))
              clear hK K
              (try simp only [Act.put, List.setIfInBounds_toArray, List.set_cons_zero, List.set_cons_succ])
              (refine takeL (i := 11) (v := ?_) rfl (by kernel_rfl) (by kernel_rfl) (by kernel_rfl) (fun _ _ _ h => h) (Or.inl ⟨by kernel_rfl, ?_⟩) (by assumption) ?_; rotate_left; (focus (intro w hSw; (try dsimp only at hSw); go_simp; first | done | with_reducible rfl | fail "take")); (try simp only [Act.put, List.setIfInBounds_toArray, List.set_cons_zero, List.set_cons_succ]))
              refine wpAnyH_done (by kernel_rfl) ?_ _
              go_wp2_with fail
              go_meet
              exact ⟨rfl, by ((repeat (first | with_reducible assumption | with_reducible exact Below.refl _ _ | refine Below.setCell ?_ (by (first | omega | (simp; omega) | (simp; done) | fail "sml")) _ | refine Below.drew ?_ | refine Below.alloc ?_ (by (first | omega | (simp; omega) | (simp; done) | fail "sml")) _)); first | done | fail "chs")⟩
            case rest =>
              obtain ⟨rfl, hbx⟩ := hcut
              have HG := Lib.hid (hgood.out hE)
              have HA2 := Lib.hid (HA.out.trans (hbx.mono hzr))
              go_wp2_with fail
              go_roundw
              case rel => exact ⟨k + 1, HLT.out, by go_num, HG, HA2⟩
              case measure => have := HLT.out; simp [intOf]; omega
          | false =>
            have CSP := Lib.hid (fun (E : World) (hE9 : Below wr.heap.size wr E) => ((specPatSame_any x y _ _ B E (HX.out.to (hE9.mono (by omega)) (Nat.le_refl _)) (HY.out.to (hE9.mono (by omega)) (Nat.le_refl _)) (by have := hE9.size; omega)).mono (fun en w' h => ⟨h.1.trans (by rw [hE]), hE9.trans (h.2.mono hE9.size)⟩) : Calls Try.prog 42 #[.agg #[.int .i64 x.op, .bool x.e.n, .string x.e.v, .int .i64 x.e.l.op, .string x.e.l.a, .slice p0 x.e.l.ks.list.length pc0, .int .i64 x.e.c.op, .string x.e.c.a, .slice q0 x.e.c.ks.list.length qc0, .int .i64 x.e.d, .slice r0 x.ks.list.length rc0, .int .i64 x.lo, .int .i64 x.hi], .agg #[.int .i64 y.op, .bool y.e.n, .string y.e.v, .int .i64 y.e.l.op, .string y.e.l.a, .slice p1 y.e.l.ks.list.length pc1, .int .i64 y.e.c.op, .string y.e.c.a, .slice q1 y.e.c.ks.list.length qc1, .int .i64 y.e.d, .slice r1 y.ks.list.length rc1, .int .i64 y.lo, .int .i64 y.hi]] E (fun en w' => en = .returned (.bool false) ∧ Below wr.heap.size wr w')))
            go_upto_region 6 with fail
            go_cut [41] (fun s wx => s = .bool true ∧ Below wr.heap.size wr wx)
            case first =>
              refine wp_region_held_drew (S := fun w' => (w'.cell? ⟨w.heap.size, 0, none⟩ = some (.slice (some ⟨b, off, none⟩) g.ps.list.length cap) ∧ w'.cell? ⟨w.heap.size + 1, 0, none⟩ = some (.slice (some ⟨b1, off1, none⟩) g9.ps.list.length cap9)) ∧ (w'.cell? ⟨b, off + k * 13, none⟩ = some (.int .i64 x.op) ∧ w'.cell? ⟨b, off + k * 13 + 1, none⟩ = some (.bool x.e.n) ∧ w'.cell? ⟨b, off + k * 13 + 2, none⟩ = some (.string x.e.v) ∧ w'.cell? ⟨b, off + k * 13 + 3, none⟩ = some (.int .i64 x.e.l.op) ∧ w'.cell? ⟨b, off + k * 13 + 4, none⟩ = some (.string x.e.l.a) ∧ w'.cell? ⟨b, off + k * 13 + 5, none⟩ = some (.slice p0 x.e.l.ks.list.length pc0) ∧ w'.cell? ⟨b, off + k * 13 + 6, none⟩ = some (.int .i64 x.e.c.op) ∧ w'.cell? ⟨b, off + k * 13 + 7, none⟩ = some (.string x.e.c.a) ∧ w'.cell? ⟨b, off + k * 13 + 8, none⟩ = some (.slice q0 x.e.c.ks.list.length qc0) ∧ w'.cell? ⟨b, off + k * 13 + 9, none⟩ = some (.int .i64 x.e.d) ∧ w'.cell? ⟨b, off + k * 13 + 10, none⟩ = some (.slice r0 x.ks.list.length rc0) ∧ w'.cell? ⟨b, off + k * 13 + 11, none⟩ = some (.int .i64 x.lo) ∧ w'.cell? ⟨b, off + k * 13 + 12, none⟩ = some (.int .i64 x.hi)) ∧ w'.cell? ⟨b1, off1 + k * 13, none⟩ = some (.int .i64 y.op) ∧ w'.cell? ⟨b1, off1 + k * 13 + 1, none⟩ = some (.bool y.e.n) ∧ w'.cell? ⟨b1, off1 + k * 13 + 2, none⟩ = some (.string y.e.v) ∧ w'.cell? ⟨b1, off1 + k * 13 + 3, none⟩ = some (.int .i64 y.e.l.op) ∧ w'.cell? ⟨b1, off1 + k * 13 + 4, none⟩ = some (.string y.e.l.a) ∧ w'.cell? ⟨b1, off1 + k * 13 + 5, none⟩ = some (.slice p1 y.e.l.ks.list.length pc1) ∧ w'.cell? ⟨b1, off1 + k * 13 + 6, none⟩ = some (.int .i64 y.e.c.op) ∧ w'.cell? ⟨b1, off1 + k * 13 + 7, none⟩ = some (.string y.e.c.a) ∧ w'.cell? ⟨b1, off1 + k * 13 + 8, none⟩ = some (.slice q1 y.e.c.ks.list.length qc1) ∧ w'.cell? ⟨b1, off1 + k * 13 + 9, none⟩ = some (.int .i64 y.e.d) ∧ w'.cell? ⟨b1, off1 + k * 13 + 10, none⟩ = some (.slice r1 y.ks.list.length rc1) ∧ w'.cell? ⟨b1, off1 + k * 13 + 11, none⟩ = some (.int .i64 y.lo) ∧ w'.cell? ⟨b1, off1 + k * 13 + 12, none⟩ = some (.int .i64 y.hi)) (by kernel_rfl) ?_ (fun hHeld => ?_)
              · exact HKK.out _ (show Below wr.heap.size wr _ by ((repeat (first | with_reducible assumption | with_reducible exact Below.refl _ _ | refine Below.setCell ?_ (by (first | omega | (simp; omega) | (simp; done) | fail "sml")) _ | refine Below.drew ?_ | refine Below.alloc ?_ (by (first | omega | (simp; omega) | (simp; done) | fail "sml")) _)); first | done | fail "chs"))
              (refine takeL (i := 0) (v := ?_) rfl (by kernel_rfl) (by kernel_rfl) (by kernel_rfl) (fun _ _ _ h => h) (Or.inl ⟨by kernel_rfl, ?_⟩) (by assumption) ?_; rotate_left; (focus (intro w hSw; (try dsimp only at hSw); go_simp; first | done | with_reducible rfl | fail "take")); (try simp only [Act.put, List.setIfInBounds_toArray, List.set_cons_zero, List.set_cons_succ]))
              (refine takeL (i := 1) (v := ?_) rfl (by kernel_rfl) (by kernel_rfl) (by kernel_rfl) (fun _ _ _ h => h) (Or.inl ⟨by kernel_rfl, ?_⟩) (by assumption) ?_; rotate_left; (focus (intro w hSw; (try dsimp only at hSw); go_simp; first | done | with_reducible rfl | fail "take")); (try simp only [Act.put, List.setIfInBounds_toArray, List.set_cons_zero, List.set_cons_succ]))
              (refine takeL (i := 2) (v := ?_) rfl (by kernel_rfl) (by kernel_rfl) (by kernel_rfl) (fun _ _ _ h => h) (Or.inl ⟨by kernel_rfl, ?_⟩) (by assumption) ?_; rotate_left; (focus (intro w hSw; (try dsimp only at hSw); go_simp; first | done | with_reducible rfl | fail "take")); (try simp only [Act.put, List.setIfInBounds_toArray, List.set_cons_zero, List.set_cons_succ]))
              (refine takeL (i := 3) (v := ?_) rfl (by kernel_rfl) (by kernel_rfl) (by kernel_rfl) (fun _ _ _ h => h) (Or.inl ⟨by kernel_rfl, ?_⟩) (by assumption) ?_; rotate_left; (focus (intro w hSw; (try dsimp only at hSw); go_simp; first | done | with_reducible rfl | fail "take")); (try simp only [Act.put, List.setIfInBounds_toArray, List.set_cons_zero, List.set_cons_succ]))
              (refine takeL (i := 4) (v := ?_) rfl (by kernel_rfl) (by kernel_rfl) (by kernel_rfl) (fun _ _ _ h => h) (Or.inl ⟨by kernel_rfl, ?_⟩) (by assumption) ?_; rotate_left; (focus (intro w hSw; (try dsimp only at hSw); go_simp; first | done | with_reducible rfl | fail "take")); (try simp only [Act.put, List.setIfInBounds_toArray, List.set_cons_zero, List.set_cons_succ]))
              (refine takeL (i := 5) (v := ?_) rfl (by kernel_rfl) (by kernel_rfl) (by kernel_rfl) (fun _ _ _ h => h) (Or.inl ⟨by kernel_rfl, ?_⟩) (by assumption) ?_; rotate_left; (focus (intro w hSw; (try dsimp only at hSw); go_simp; first | done | with_reducible rfl | fail "take")); (try simp only [Act.put, List.setIfInBounds_toArray, List.set_cons_zero, List.set_cons_succ]))
              (refine takeL (i := 6) (v := ?_) rfl (by kernel_rfl) (by kernel_rfl) (by kernel_rfl) (fun _ _ _ h => h) (Or.inl ⟨by kernel_rfl, ?_⟩) (by assumption) ?_; rotate_left; (focus (intro w hSw; (try dsimp only at hSw); go_simp; first | done | with_reducible rfl | fail "take")); (try simp only [Act.put, List.setIfInBounds_toArray, List.set_cons_zero, List.set_cons_succ]))
              (refine takeL (i := 7) (v := ?_) rfl (by kernel_rfl) (by kernel_rfl) (by kernel_rfl) (fun _ _ _ h => h) (Or.inl ⟨by kernel_rfl, ?_⟩) (by assumption) ?_; rotate_left; (focus (intro w hSw; (try dsimp only at hSw); go_simp; first | done | with_reducible rfl | fail "take")); (try simp only [Act.put, List.setIfInBounds_toArray, List.set_cons_zero, List.set_cons_succ]))
              (refine takeL (i := 8) (v := ?_) rfl (by kernel_rfl) (by kernel_rfl) (by kernel_rfl) (fun _ _ _ h => h) (Or.inl ⟨by kernel_rfl, ?_⟩) (by assumption) ?_; rotate_left; (focus (intro w hSw; (try dsimp only at hSw); go_simp; first | done | with_reducible rfl | fail "take")); (try simp only [Act.put, List.setIfInBounds_toArray, List.set_cons_zero, List.set_cons_succ]))
              (refine takeL (i := 9) (v := ?_) rfl (by kernel_rfl) (by kernel_rfl) (by kernel_rfl) (fun _ _ _ h => h) (Or.inl ⟨by kernel_rfl, ?_⟩) (by assumption) ?_; rotate_left; (focus (intro w hSw; (try dsimp only at hSw); go_simp; first | done | with_reducible rfl | fail "take")); (try simp only [Act.put, List.setIfInBounds_toArray, List.set_cons_zero, List.set_cons_succ]))
              (refine callL (i := 10) rfl (by kernel_rfl) (by kernel_rfl) (fun K hK => ?_); go_simp)
              go_at_call 42
              with_reducible refine (CSP.out _ (by ((repeat (first | with_reducible assumption | with_reducible exact Below.refl _ _ | refine Below.setCell ?_ (by (first | omega | (simp; omega) | (simp; done) | fail "sml")) _ | refine Below.drew ?_ | refine Below.alloc ?_ (by (first | omega | (simp; omega) | (simp; done) | fail "sml")) _)); first | done | fail "chs"))).mono ?_
              rintro en wa ⟨rfl, hka⟩
              go_wp2_with fail
              refine hK.out _ _ ?_ (fun hHeld => ?_)
              · exact HKK.out _ (show Below wr.heap.size wr _ by ((repeat (first | with_reducible assumption | with_reducible exact Below.refl _ _ | refine Below.setCell ?_ (by (first | omega | (simp; omega) | (simp; done) | fail "sml")) _ | refine Below.drew ?_ | refine Below.alloc ?_ (by (first | omega | (simp; omega) | (simp; done) | fail "sml")) _)); first | done | fail "chs"))
              clear hK K
              (try simp only [Act.put, List.setIfInBounds_toArray, List.set_cons_zero, List.set_cons_succ])
              (refine takeL (i := 11) (v := ?_) rfl (by kernel_rfl) (by kernel_rfl) (by kernel_rfl) (fun _ _ _ h => h) (Or.inl ⟨by kernel_rfl, ?_⟩) (by assumption) ?_; rotate_left; (focus (intro w hSw; (try dsimp only at hSw); go_simp; first | done | with_reducible rfl | fail "take")); (try simp only [Act.put, List.setIfInBounds_toArray, List.set_cons_zero, List.set_cons_succ]))
              refine wpAnyH_done (by kernel_rfl) ?_ _
              go_wp2_with fail
              go_meet
              exact ⟨rfl, by ((repeat (first | with_reducible assumption | with_reducible exact Below.refl _ _ | refine Below.setCell ?_ (by (first | omega | (simp; omega) | (simp; done) | fail "sml")) _ | refine Below.drew ?_ | refine Below.alloc ?_ (by (first | omega | (simp; omega) | (simp; done) | fail "sml")) _)); first | done | fail "chs")⟩
            case rest =>
              obtain ⟨rfl, hbx⟩ := hcut
              have HG := Lib.hid (hbad.out hE)
              have HA2 := Lib.hid (HA.out.trans (hbx.mono hzr))
              go_wp2_with fail
              go_ret
              exact ⟨ret_bool (by unfold qyEq; rw [HG.out]; rfl), HV.out.trans (HA2.out.mono (by omega))⟩
        · obtain rfl : k = g.ps.list.length := by omega
          have hk1 : ¬ (g.ps.list.length : Int) < (g.ps.list.length : Int) := by omega
          have HP := Lib.hid (HAL.out.full (Nat.le_refl _) L1.out)
          clear HAL
          go_wp2_with fail
          have HA1 := HA
          clear HA
          go_loopw [6] (fun i wr => ∃ k : Nat, k ≤ g.ts.length ∧ i = .int .i64 k ∧ RowKit.Hid (AllE tsE g.ts g9.ts k) ∧ RowKit.Hid (Below (w.heap.size + 2) W0 wr)) (fun i _ => g.ts.length - (intOf i).toNat)
          case atStart => exact ⟨0, Nat.zero_le _, rfl, Lib.hid (AllE.zero _ _ _), HA1⟩
          case round =>
            clear x0 x1 x2 x3 hy0 hy1 hzr HBW HA1
            rename World => wo
            obtain ⟨k, hk, rfl, HAL, HA⟩ := hrel
            rename World => wr
            have hzr : w.heap.size + 2 ≤ wr.heap.size := by have := HA.out.size; omega
            have HBW := Lib.hid (HV.out.trans (HA.out.mono (by omega)))
            obtain ⟨⟨x0, x1⟩, x2, x3⟩ := HK.out _ HA.out
            have hy0 : w.heap.size < wr.heap.size := by omega
            have hy1 : w.heap.size + 1 < wr.heap.size := by omega
            by_cases hlt : k < g.ts.length
            · have hlt3 : k < g9.ts.length := by omega
              have hk3 : (k : Int) < (g.ts.length : Int) := by omega
              have hk4 : (k : Int) < (g9.ts.length : Int) := by omega
              have HLT := Lib.hid (show k + 1 ≤ g.ts.length from hlt)
              obtain ⟨b, off, rfl, hb, c0, c1, c2⟩ := (H2.out.below (HBW.out.mono hB)).ts hlt
              obtain ⟨b1, off1, rfl, hb1, d0, d1, d2⟩ := (H4.out.below (HBW.out.mono hB)).ts hlt3
              have hgood := Lib.hid (fun h => HAL.out.succ (f := tsE) hlt hlt3 h)
              have hbad := Lib.hid (fun h => eqL_bad (f := tsE) (xs := g.ts) (ys := g9.ts) k hlt hlt3 h)
              obtain ⟨x, ex⟩ : ∃ x, x = g.ts[k]'hlt := ⟨_, rfl⟩
              obtain ⟨y, ey⟩ : ∃ y, y = g9.ts[k]'hlt3 := ⟨_, rfl⟩
              rw [← ex, ← ey] at hgood hbad
              rw [← ex] at c0 c1 c2
              rw [← ey] at d0 d1 d2
              have hb3 : b < wr.heap.size := by omega
              have hb4 : b1 < wr.heap.size := by omega
              have HKK := Lib.hid (fun (E : World) (hE : Below wr.heap.size wr E) => (⟨⟨keepc hE hy0 x2, keepc hE hy1 x3⟩, ⟨keepc hE hb3 c0, keepc hE hb3 c1, keepc hE hb3 c2⟩, keepc hE hb4 d0, keepc hE hb4 d1, keepc hE hb4 d2⟩ : (E.cell? ⟨w.heap.size, 1, none⟩ = some (.slice (some ⟨b, off, none⟩) g.ts.length cq) ∧ E.cell? ⟨w.heap.size + 1, 1, none⟩ = some (.slice (some ⟨b1, off1, none⟩) g9.ts.length cq9)) ∧ (E.cell? ⟨b, off + k * 3, none⟩ = some (.string x.a) ∧ E.cell? ⟨b, off + k * 3 + 1, none⟩ = some (.int .i64 x.o) ∧ E.cell? ⟨b, off + k * 3 + 2, none⟩ = some (.string x.b)) ∧ E.cell? ⟨b1, off1 + k * 3, none⟩ = some (.string y.a) ∧ E.cell? ⟨b1, off1 + k * 3 + 1, none⟩ = some (.int .i64 y.o) ∧ E.cell? ⟨b1, off1 + k * 3 + 2, none⟩ = some (.string y.b)))
              have rr := Below.refl wr.heap.size wr
              clear ex ey c0 c1 c2 d0 d1 d2
              cases hE : tsE x y with
              | true =>
                have hq1 := neqTest x y
                rw [hE] at hq1
                go_upto_region 11 with fail
                go_cut [59] (fun s wx => s = .bool false ∧ Below wr.heap.size wr wx)
                case first =>
                  refine wp_region_held_drew (S := fun w' => (w'.cell? ⟨w.heap.size, 1, none⟩ = some (.slice (some ⟨b, off, none⟩) g.ts.length cq) ∧ w'.cell? ⟨w.heap.size + 1, 1, none⟩ = some (.slice (some ⟨b1, off1, none⟩) g9.ts.length cq9)) ∧ (w'.cell? ⟨b, off + k * 3, none⟩ = some (.string x.a) ∧ w'.cell? ⟨b, off + k * 3 + 1, none⟩ = some (.int .i64 x.o) ∧ w'.cell? ⟨b, off + k * 3 + 2, none⟩ = some (.string x.b)) ∧ w'.cell? ⟨b1, off1 + k * 3, none⟩ = some (.string y.a) ∧ w'.cell? ⟨b1, off1 + k * 3 + 1, none⟩ = some (.int .i64 y.o) ∧ w'.cell? ⟨b1, off1 + k * 3 + 2, none⟩ = some (.string y.b)) (by kernel_rfl) ?_ (fun hHeld => ?_)
                  · exact HKK.out _ (show Below wr.heap.size wr _ by ((repeat (first | with_reducible assumption | with_reducible exact Below.refl _ _ | refine Below.setCell ?_ (by (first | omega | (simp; omega) | (simp; done) | fail "sml")) _ | refine Below.drew ?_ | refine Below.alloc ?_ (by (first | omega | (simp; omega) | (simp; done) | fail "sml")) _)); first | done | fail "chs"))
                  (refine takeL (i := 0) (v := ?_) rfl (by kernel_rfl) (by kernel_rfl) (by kernel_rfl) (fun _ _ _ h => h) (Or.inl ⟨by kernel_rfl, ?_⟩) (by assumption) ?_; rotate_left; (focus (intro w hSw; (try dsimp only at hSw); go_simp; first | done | with_reducible rfl | fail "take")); (try simp only [Act.put, List.setIfInBounds_toArray, List.set_cons_zero, List.set_cons_succ]))
                  (refine takeL (i := 1) (v := ?_) rfl (by kernel_rfl) (by kernel_rfl) (by kernel_rfl) (fun _ _ _ h => h) (Or.inl ⟨by kernel_rfl, ?_⟩) (by assumption) ?_; rotate_left; (focus (intro w hSw; (try dsimp only at hSw); go_simp; first | done | with_reducible rfl | fail "take")); (try simp only [Act.put, List.setIfInBounds_toArray, List.set_cons_zero, List.set_cons_succ]))
                  (refine takeL (i := 2) (v := ?_) rfl (by kernel_rfl) (by kernel_rfl) (by kernel_rfl) (fun _ _ _ h => h) (Or.inl ⟨by kernel_rfl, ?_⟩) (by assumption) ?_; rotate_left; (focus (intro w hSw; (try dsimp only at hSw); go_simp; first | done | with_reducible rfl | fail "take")); (try simp only [Act.put, List.setIfInBounds_toArray, List.set_cons_zero, List.set_cons_succ]))
                  (refine takeL (i := 3) (v := ?_) rfl (by kernel_rfl) (by kernel_rfl) (by kernel_rfl) (fun _ _ _ h => h) (Or.inl ⟨by kernel_rfl, ?_⟩) (by assumption) ?_; rotate_left; (focus (intro w hSw; (try dsimp only at hSw); go_simp; first | done | with_reducible rfl | fail "take")); (try simp only [Act.put, List.setIfInBounds_toArray, List.set_cons_zero, List.set_cons_succ]))
                  (refine takeL (i := 4) (v := ?_) rfl (by kernel_rfl) (by kernel_rfl) (by kernel_rfl) (fun _ _ _ h => h) (Or.inl ⟨by kernel_rfl, ?_⟩) (by assumption) ?_; rotate_left; (focus (intro w hSw; (try dsimp only at hSw); go_simp; first | done | with_reducible rfl | fail "take")); (try simp only [Act.put, List.setIfInBounds_toArray, List.set_cons_zero, List.set_cons_succ]))
                  (refine takeL (i := 5) (v := ?_) rfl (by kernel_rfl) (by kernel_rfl) (by kernel_rfl) (fun _ _ _ h => h) (Or.inl ⟨by kernel_rfl, ?_⟩) (by assumption) ?_; rotate_left; (focus (intro w hSw; (try dsimp only at hSw); go_simp; first | done | with_reducible rfl | fail "take")); (try simp only [Act.put, List.setIfInBounds_toArray, List.set_cons_zero, List.set_cons_succ]))
                  (refine takeL (i := 6) (v := ?_) rfl (by kernel_rfl) (by kernel_rfl) (by kernel_rfl) (fun _ _ _ h => h) (Or.inl ⟨by kernel_rfl, ?_⟩) (by assumption) ?_; rotate_left; (focus (intro w hSw; (try dsimp only at hSw); go_simp; first | done | with_reducible rfl | fail "take")); (try simp only [Act.put, List.setIfInBounds_toArray, List.set_cons_zero, List.set_cons_succ]))
                  (refine takeL (i := 7) (v := ?_) rfl (by kernel_rfl) (by kernel_rfl) (by kernel_rfl) (fun _ _ _ h => h) (Or.inl ⟨by kernel_rfl, ?_⟩) (by assumption) ?_; rotate_left; (focus (intro w hSw; (try dsimp only at hSw); go_simp; first | done | with_reducible rfl | fail "take")); (try simp only [Act.put, List.setIfInBounds_toArray, List.set_cons_zero, List.set_cons_succ]))
                  (refine takeL (i := 8) (v := ?_) rfl (by kernel_rfl) (by kernel_rfl) (by kernel_rfl) (fun _ _ _ h => h) (Or.inl ⟨by kernel_rfl, ?_⟩) (by assumption) ?_; rotate_left; (focus (intro w hSw; (try dsimp only at hSw); go_simp; first | done | with_reducible rfl | fail "take")); (try simp only [Act.put, List.setIfInBounds_toArray, List.set_cons_zero, List.set_cons_succ]))
                  (refine takeL (i := 9) (v := ?_) rfl (by kernel_rfl) (by kernel_rfl) (by kernel_rfl) (fun _ _ _ h => h) (Or.inl ⟨by kernel_rfl, ?_⟩) (by assumption) ?_; rotate_left; (focus (intro w hSw; (try dsimp only at hSw); go_simp; first | done | with_reducible rfl | fail "take")); (try simp only [Act.put, List.setIfInBounds_toArray, List.set_cons_zero, List.set_cons_succ]))
                  (refine takeL (i := 10) (v := ?_) rfl (by kernel_rfl) (by kernel_rfl) (by kernel_rfl) (fun _ _ _ h => h) (Or.inl ⟨by kernel_rfl, ?_⟩) (by assumption) ?_; rotate_left; (focus (intro w hSw; (try dsimp only at hSw); go_simp; first | done | with_reducible rfl | fail "take")); (try simp only [Act.put, List.setIfInBounds_toArray, List.set_cons_zero, List.set_cons_succ]))
                  refine wpAnyH_done (by kernel_rfl) ?_ _
                  go_wp2_with fail
                  go_meet
                  exact ⟨rfl, by ((repeat (first | with_reducible assumption | with_reducible exact Below.refl _ _ | refine Below.setCell ?_ (by (first | omega | (simp; omega) | (simp; done) | fail "sml")) _ | refine Below.drew ?_ | refine Below.alloc ?_ (by (first | omega | (simp; omega) | (simp; done) | fail "sml")) _)); first | done | fail "chs")⟩
                case rest =>
                  obtain ⟨rfl, hbx⟩ := hcut
                  have HG := Lib.hid (hgood.out hE)
                  have HA2 := Lib.hid (HA.out.trans (hbx.mono hzr))
                  go_wp2_with fail
                  go_roundw
                  case rel => exact ⟨k + 1, HLT.out, by go_num, HG, HA2⟩
                  case measure => have := HLT.out; simp [intOf]; omega
              | false =>
                have hq1 := neqTest x y
                rw [hE] at hq1
                go_upto_region 11 with fail
                go_cut [59] (fun s wx => s = .bool true ∧ Below wr.heap.size wr wx)
                case first =>
                  refine wp_region_held_drew (S := fun w' => (w'.cell? ⟨w.heap.size, 1, none⟩ = some (.slice (some ⟨b, off, none⟩) g.ts.length cq) ∧ w'.cell? ⟨w.heap.size + 1, 1, none⟩ = some (.slice (some ⟨b1, off1, none⟩) g9.ts.length cq9)) ∧ (w'.cell? ⟨b, off + k * 3, none⟩ = some (.string x.a) ∧ w'.cell? ⟨b, off + k * 3 + 1, none⟩ = some (.int .i64 x.o) ∧ w'.cell? ⟨b, off + k * 3 + 2, none⟩ = some (.string x.b)) ∧ w'.cell? ⟨b1, off1 + k * 3, none⟩ = some (.string y.a) ∧ w'.cell? ⟨b1, off1 + k * 3 + 1, none⟩ = some (.int .i64 y.o) ∧ w'.cell? ⟨b1, off1 + k * 3 + 2, none⟩ = some (.string y.b)) (by kernel_rfl) ?_ (fun hHeld => ?_)
                  · exact HKK.out _ (show Below wr.heap.size wr _ by ((repeat (first | with_reducible assumption | with_reducible exact Below.refl _ _ | refine Below.setCell ?_ (by (first | omega | (simp; omega) | (simp; done) | fail "sml")) _ | refine Below.drew ?_ | refine Below.alloc ?_ (by (first | omega | (simp; omega) | (simp; done) | fail "sml")) _)); first | done | fail "chs"))
                  (refine takeL (i := 0) (v := ?_) rfl (by kernel_rfl) (by kernel_rfl) (by kernel_rfl) (fun _ _ _ h => h) (Or.inl ⟨by kernel_rfl, ?_⟩) (by assumption) ?_; rotate_left; (focus (intro w hSw; (try dsimp only at hSw); go_simp; first | done | with_reducible rfl | fail "take")); (try simp only [Act.put, List.setIfInBounds_toArray, List.set_cons_zero, List.set_cons_succ]))
                  (refine takeL (i := 1) (v := ?_) rfl (by kernel_rfl) (by kernel_rfl) (by kernel_rfl) (fun _ _ _ h => h) (Or.inl ⟨by kernel_rfl, ?_⟩) (by assumption) ?_; rotate_left; (focus (intro w hSw; (try dsimp only at hSw); go_simp; first | done | with_reducible rfl | fail "take")); (try simp only [Act.put, List.setIfInBounds_toArray, List.set_cons_zero, List.set_cons_succ]))
                  (refine takeL (i := 2) (v := ?_) rfl (by kernel_rfl) (by kernel_rfl) (by kernel_rfl) (fun _ _ _ h => h) (Or.inl ⟨by kernel_rfl, ?_⟩) (by assumption) ?_; rotate_left; (focus (intro w hSw; (try dsimp only at hSw); go_simp; first | done | with_reducible rfl | fail "take")); (try simp only [Act.put, List.setIfInBounds_toArray, List.set_cons_zero, List.set_cons_succ]))
                  (refine takeL (i := 3) (v := ?_) rfl (by kernel_rfl) (by kernel_rfl) (by kernel_rfl) (fun _ _ _ h => h) (Or.inl ⟨by kernel_rfl, ?_⟩) (by assumption) ?_; rotate_left; (focus (intro w hSw; (try dsimp only at hSw); go_simp; first | done | with_reducible rfl | fail "take")); (try simp only [Act.put, List.setIfInBounds_toArray, List.set_cons_zero, List.set_cons_succ]))
                  (refine takeL (i := 4) (v := ?_) rfl (by kernel_rfl) (by kernel_rfl) (by kernel_rfl) (fun _ _ _ h => h) (Or.inl ⟨by kernel_rfl, ?_⟩) (by assumption) ?_; rotate_left; (focus (intro w hSw; (try dsimp only at hSw); go_simp; first | done | with_reducible rfl | fail "take")); (try simp only [Act.put, List.setIfInBounds_toArray, List.set_cons_zero, List.set_cons_succ]))
                  (refine takeL (i := 5) (v := ?_) rfl (by kernel_rfl) (by kernel_rfl) (by kernel_rfl) (fun _ _ _ h => h) (Or.inl ⟨by kernel_rfl, ?_⟩) (by assumption) ?_; rotate_left; (focus (intro w hSw; (try dsimp only at hSw); go_simp; first | done | with_reducible rfl | fail "take")); (try simp only [Act.put, List.setIfInBounds_toArray, List.set_cons_zero, List.set_cons_succ]))
                  (refine takeL (i := 6) (v := ?_) rfl (by kernel_rfl) (by kernel_rfl) (by kernel_rfl) (fun _ _ _ h => h) (Or.inl ⟨by kernel_rfl, ?_⟩) (by assumption) ?_; rotate_left; (focus (intro w hSw; (try dsimp only at hSw); go_simp; first | done | with_reducible rfl | fail "take")); (try simp only [Act.put, List.setIfInBounds_toArray, List.set_cons_zero, List.set_cons_succ]))
                  (refine takeL (i := 7) (v := ?_) rfl (by kernel_rfl) (by kernel_rfl) (by kernel_rfl) (fun _ _ _ h => h) (Or.inl ⟨by kernel_rfl, ?_⟩) (by assumption) ?_; rotate_left; (focus (intro w hSw; (try dsimp only at hSw); go_simp; first | done | with_reducible rfl | fail "take")); (try simp only [Act.put, List.setIfInBounds_toArray, List.set_cons_zero, List.set_cons_succ]))
                  (refine takeL (i := 8) (v := ?_) rfl (by kernel_rfl) (by kernel_rfl) (by kernel_rfl) (fun _ _ _ h => h) (Or.inl ⟨by kernel_rfl, ?_⟩) (by assumption) ?_; rotate_left; (focus (intro w hSw; (try dsimp only at hSw); go_simp; first | done | with_reducible rfl | fail "take")); (try simp only [Act.put, List.setIfInBounds_toArray, List.set_cons_zero, List.set_cons_succ]))
                  (refine takeL (i := 9) (v := ?_) rfl (by kernel_rfl) (by kernel_rfl) (by kernel_rfl) (fun _ _ _ h => h) (Or.inl ⟨by kernel_rfl, ?_⟩) (by assumption) ?_; rotate_left; (focus (intro w hSw; (try dsimp only at hSw); go_simp; first | done | with_reducible rfl | fail "take")); (try simp only [Act.put, List.setIfInBounds_toArray, List.set_cons_zero, List.set_cons_succ]))
                  (refine takeL (i := 10) (v := ?_) rfl (by kernel_rfl) (by kernel_rfl) (by kernel_rfl) (fun _ _ _ h => h) (Or.inl ⟨by kernel_rfl, ?_⟩) (by assumption) ?_; rotate_left; (focus (intro w hSw; (try dsimp only at hSw); go_simp; first | done | with_reducible rfl | fail "take")); (try simp only [Act.put, List.setIfInBounds_toArray, List.set_cons_zero, List.set_cons_succ]))
                  refine wpAnyH_done (by kernel_rfl) ?_ _
                  go_wp2_with fail
                  go_meet
                  exact ⟨rfl, by ((repeat (first | with_reducible assumption | with_reducible exact Below.refl _ _ | refine Below.setCell ?_ (by (first | omega | (simp; omega) | (simp; done) | fail "sml")) _ | refine Below.drew ?_ | refine Below.alloc ?_ (by (first | omega | (simp; omega) | (simp; done) | fail "sml")) _)); first | done | fail "chs")⟩
                case rest =>
                  obtain ⟨rfl, hbx⟩ := hcut
                  have HG := Lib.hid (hbad.out hE)
                  have HA2 := Lib.hid (HA.out.trans (hbx.mono hzr))
                  go_wp2_with fail
                  go_ret
                  exact ⟨ret_bool (by unfold qyEq; rw [HG.out]; simp), HV.out.trans (HA2.out.mono (by omega))⟩
            · obtain rfl : k = g.ts.length := by omega
              have hk3 : ¬ (g.ts.length : Int) < (g.ts.length : Int) := by omega
              have HP2 := Lib.hid (HAL.out.full (Nat.le_refl _) L2.out)
              go_wp2_with fail
              go_ret
              exact ⟨ret_bool (by unfold qyEq; rw [HP.out, HP2.out]; rfl), HBW.out⟩
    · have t2 : ((g.ts.length : Int) != (g9.ts.length : Int)) = true := by simp; omega
      have HL := Lib.hid (eqL_len (f := tsE) l2)
      clear l2
      go_enter Try.func10, Try.ntmps10
      go_wp2_with fail
      go_ret
      exact ⟨ret_bool (by unfold qyEq; rw [HL.out]; simp), by rw [← EW.out]; exact HV.out⟩
  · have t1 : ((g.ps.list.length : Int) != (g9.ps.list.length : Int)) = true := by simp; omega
    have HL := Lib.hid (eqL_len (f := ptEq) l1)
    clear l1
    go_enter Try.func10, Try.ntmps10
    go_wp2_with fail
    go_ret
    exact ⟨ret_bool (by unfold qyEq; rw [HL.out]; rfl), by rw [← EW.out]; exact HV.out⟩
end Go.Proofs.Ytggpnnoldjpmcaa
