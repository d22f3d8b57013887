/- l2Copy, with the whole block of its row. -/
import Derived.Test.YtbbemeaojmfndaaDoorCopyX
namespace Go.Proofs.YtbbemeaojmfndaaDoor
open Go.RowKit

set_option maxRecDepth 100000 in
set_option maxHeartbeats 8000000 in
theorem l2CopyC (e : Ex) (hmax : e.ks.size ≤ 2000000) (k : Value) (B : Nat) (w : World) (hk : e.ks.In B w k) (hB : B ≤ w.heap.size) :
    Calls Tryd.prog 61 #[.agg #[.int .i64 e.op, .string e.a, k]] w fun en w' => ∃ p c, en = .returned (.agg #[.int .i64 e.op, .string e.a, .slice p e.ks.list.length c]) ∧ CpInv e.ks (w.heap.size + 3) w' e.ks.list.length (.slice p e.ks.list.length c) ∧ w.heap.size + 3 ≤ w'.heap.size ∧ Below w.heap.size w w' := by
  obtain ⟨p, cap, rfl⟩ := hk.form
  obtain ⟨hx0, hm1, hm2⟩ := hk.max
  clear hx0
  unfold maxLen at hm2
  have hln : e.ks.list.length ≤ 2000000 := by have := e.ks.len_le; omega
  have HK := Lib.hid hk
  clear hk
  have HW := Lib.hid (show Below w.heap.size w (((w.alloc (.cells #[.int .i64 e.op, .string e.a, .slice p e.ks.list.length cap] 25)).alloc (.cells #[.int .i64 0, .string ⟨#[]⟩, .slice none 0 0] 25)).alloc (.cells #[.int .i64 e.op, .string e.a, .slice none 0 0] 25)) from (((Below.refl w.heap.size w).alloc (by (first | omega | (simp; omega) | (simp; done) | fail "sml")) _).alloc (by (first | omega | (simp; omega) | (simp; done) | fail "sml")) _).alloc (by (first | omega | (simp; omega) | (simp; done) | fail "sml")) _)
  have HI0 := Lib.hid (fun W => CpInv.nil e.ks (w.heap.size + 3) W)
  go_enter Tryd.func61, Tryd.ntmps61
  go_wp2_with fail
  go_loopw [4] (fun i wr => ∃ (m : Nat) (q : Option Addr) (nq cq : Nat), m ≤ e.ks.list.length ∧ i = .int .i64 (m : Int) ∧ RowKit.Hid (CpInv e.ks (w.heap.size + 3) wr m (.slice q nq cq)) ∧ w.heap.size + 3 ≤ wr.heap.size ∧ RowKit.Hid (Below w.heap.size w wr) ∧
      wr.cell? ⟨w.heap.size, 2, none⟩ = some (.slice p e.ks.list.length cap) ∧ wr.cell? ⟨w.heap.size + 1 + 1, 0, none⟩ = some (.int .i64 e.op) ∧ wr.cell? ⟨w.heap.size + 1 + 1, 1, none⟩ = some (.string e.a) ∧ wr.cell? ⟨w.heap.size + 1 + 1, 2, none⟩ = some (.slice q nq cq) ∧ wr.frozen? ⟨w.heap.size + 1 + 1, 2, none⟩ = false ∧
      wr.cell? ⟨w.heap.size + 1, 0, none⟩ = some (.int .i64 0) ∧ wr.cell? ⟨w.heap.size + 1, 1, none⟩ = some (.string ⟨#[]⟩) ∧ wr.cell? ⟨w.heap.size + 1, 2, none⟩ = some (.slice none 0 0) ∧ wr.frozen? ⟨w.heap.size + 1, 0, none⟩ = false ∧ wr.frozen? ⟨w.heap.size + 1, 1, none⟩ = false ∧ wr.frozen? ⟨w.heap.size + 1, 2, none⟩ = false) (fun i _ => e.ks.list.length - (intOf i).toNat)
  case atStart => exact ⟨0, none, 0, 0, Nat.zero_le _, rfl, Lib.hid (HI0.out _), by simp, Lib.hid HW.out, by simp [go_sem], by simp [go_sem], by simp [go_sem], by simp [go_sem], by simp [go_sem], by simp [go_sem], by simp [go_sem], by simp [go_sem], by simp [go_sem], by simp [go_sem], by simp [go_sem]⟩
  case round =>
    obtain ⟨m, q, nq, cq, hm, rfl, HI, hsz, HB, b2, c0, c1, c2, fc, q0, q1, q2, f0, f1, f2⟩ := hrel
    by_cases hlt : m < e.ks.list.length
    · obtain ⟨b, off, r, l, cc, rfl, hb, d0, d1, d2, hin⟩ := (HK.out.below (HB.out.mono hB) (Nat.le_refl _)).get m hlt
      have hlt2 := e.ks.size_get m hlt
      have hih := l2CopyN _ e.ks.list[m] (Nat.le_refl _) (by omega)
      have hst := HI.out.step hlt hln hsz 23
      obtain ⟨x, ex⟩ : ∃ x, x = e.ks.list[m] := ⟨_, rfl⟩
      rw [← ex] at d0 d1 hin hih hst
      have HIN := Lib.hid hin
      have HC := Lib.hid hih
      have HST := Lib.hid hst
      clear ex hin hih hst hlt2
      have hbw : b < wr.heap.size := by omega
      have hlx : w.heap.size + 1 + 1 < wr.heap.size := by omega
      have HS := Lib.hid (show ∀ u, Below (w.heap.size + 1) wr u → u.cell? ⟨w.heap.size, 2, none⟩ = some (.slice (some ⟨b, off, none⟩) e.ks.list.length cap) ∧ u.cell? ⟨b, off + m * 3, none⟩ = some (.int .i64 x.op) ∧ u.cell? ⟨b, off + m * 3 + 1, none⟩ = some (.string x.a) ∧ u.cell? ⟨b, off + m * 3 + 2, none⟩ = some (.slice r l cc) from fun u hu => ⟨keepc hu (by omega) b2, keepc hu (by omega) d0, keepc hu (by omega) d1, keepc hu (by omega) d2⟩)
      go_wp2_with fail
      go_region_law (first
            | (go_simp; go_at_call 61; refine (HC.out _ B _ (HIN.out.below (Below.mono (show Below wr.heap.size wr _ by ((repeat (first | with_reducible assumption | with_reducible exact Below.refl _ _ | refine Below.setCell ?_ (by (first | omega | (simp; omega) | (simp; done) | fail "sml")) _ | refine Below.drew ?_ | refine Below.alloc ?_ (by (first | omega | (simp; omega) | (simp; done) | fail "sml")) _)); first | done | fail "chs")) (by omega)) (Nat.le_refl _)) (by (first | omega | (simp; omega) | (simp; done) | fail "sml"))).mono ?_; rintro en w1 ⟨p1, c1', F1, rfl, ho1, hf1, hb1⟩; have hk1 := Below.trans (show Below wr.heap.size wr _ by ((repeat (first | with_reducible assumption | with_reducible exact Below.refl _ _ | refine Below.setCell ?_ (by (first | omega | (simp; omega) | (simp; done) | fail "sml")) _ | refine Below.drew ?_ | refine Below.alloc ?_ (by (first | omega | (simp; omega) | (simp; done) | fail "sml")) _)); first | done | fail "chs")) (hb1.mono (by (first | omega | (simp; omega) | (simp; done) | fail "sml"))); have hw1 : wr.heap.size ≤ w1.heap.size := hk1.size; have HO1 := Lib.hid ho1; have HF1 := Lib.hid (show ∀ x ∈ F1, wr.heap.size ≤ x from fun x hx => by have := hf1 x hx; (try simp at this); omega); have e2 := keepc hk1 (by omega) c2; have hl1 : w.heap.size + 1 + 1 < w1.heap.size := (by omega); have hk3 := hk1.mono (show w.heap.size + 3 ≤ wr.heap.size by omega); clear ho1 hf1 hb1)
            | (refine step_app_src (by rfl) (.tmp 18) (.tmp 25) 23 (by rfl) _ _ (by rfl) (by rfl) _ (HST.out _ (by ((repeat (first | with_reducible assumption | with_reducible exact Below.refl _ _ | refine Below.setCell ?_ (by (first | omega | (simp; omega) | (simp; done) | fail "sml")) _ | refine Below.drew ?_ | refine Below.alloc ?_ (by (first | omega | (simp; omega) | (simp; done) | fail "sml")) _)); first | done | fail "chs")) _ _ _ _ (HO1.out.below (by ((repeat (first | with_reducible assumption | with_reducible exact Below.refl _ _ | refine Below.setCell ?_ (by (first | omega | (simp; omega) | (simp; done) | fail "sml")) _ | refine Below.drew ?_ | refine Below.alloc ?_ (by (first | omega | (simp; omega) | (simp; done) | fail "sml")) _)); first | done | fail "chs"))) HF1.out _ (by simp [go_sem]) (by simp [go_sem]) (by simp [go_sem])) ?_; intro v2 w2 hv2; obtain ⟨⟨p2, n2, c2', rfl, hi2⟩, hb2⟩ := hv2; have HI2 := Lib.hid hi2; have HBQ := Lib.hid (Below.trans (show Below (w.heap.size + 3) wr _ by ((repeat (first | with_reducible assumption | with_reducible exact Below.refl _ _ | refine Below.drew ?_ | refine Below.alloc ?_ (by (first | omega | (simp; omega) | (simp; done) | fail "sml")) _)); first | done | fail "cht")) hb2); clear hi2 hb2; have g0 := keepc HBQ.out (by omega) c0; have g1 := keepc HBQ.out (by omega) c1; have g2 := keepc HBQ.out (by omega) c2; have g3 := keepz HBQ.out (by omega) fc)
            | fail "no arm")
      all_goals go_wp2_with fail
      all_goals (go_roundw; ((case rel => exact ⟨m + 1, p2, n2, c2', by omega, by go_num, Lib.hid (HI2.out.chg (G := [w.heap.size + 1 + 1]) ((Chg.refl _ _).setCell (by simp) _) (by first | (simp; done) | (simp; omega))), by have := HBQ.out.size; simp; omega, Lib.hid ((HB.out.trans (HBQ.out.mono (by omega))).setCell (by simp; omega) _), (set_off _ _ _ _ (by omega)).trans (keepc HBQ.out (by omega) b2), (set_near _ _ _ _ _ (by decide)).trans g0, (set_near _ _ _ _ _ (by decide)).trans g1, set_same _ _ _ _ _ g2, by simpa [go_sem] using g3, (set_off _ _ _ _ (by omega)).trans (keepc HBQ.out (by omega) q0), (set_off _ _ _ _ (by omega)).trans (keepc HBQ.out (by omega) q1), (set_off _ _ _ _ (by omega)).trans (keepc HBQ.out (by omega) q2), by simpa [go_sem] using keepz HBQ.out (by omega) f0, by simpa [go_sem] using keepz HBQ.out (by omega) f1, by simpa [go_sem] using keepz HBQ.out (by omega) f2⟩)); (case measure => (simp [intOf]; omega)))
    · obtain rfl : m = e.ks.list.length := by omega
      obtain ⟨F, ho, hF⟩ := HI.out.done
      obtain ⟨pf, cf, hf⟩ := ho.in.form
      cases hf
      clear ho hF
      go_wp2_with fail
      refine bodyPost_ret (v := .agg #[.int .i64 e.op, .string e.a, .slice q e.ks.list.length cq]) (by simp [results, Tryd.results61, go_sem, q0, q1, q2]) rfl ⟨_, _, rfl, HI.out.chg (G := [w.heap.size + 1]) ((((Chg.refl _ _).setCell (by simp) _).setCell (by simp) _).setCell (by simp) _) (by simp), by simpa [go_sem] using hsz, ?_⟩
      exact (((HB.out).setCell (by simp) _).setCell (by simp) _).setCell (by simp) _
end Go.Proofs.YtbbemeaojmfndaaDoor
