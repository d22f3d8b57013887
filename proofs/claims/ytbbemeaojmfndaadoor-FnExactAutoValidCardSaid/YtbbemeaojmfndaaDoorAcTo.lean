/- Automata: what the laws' helpers do with them: sizes, copies, equality. -/
import Derived.Test.YtbbemeaojmfndaaDoorAc
namespace Go.Proofs.YtbbemeaojmfndaaDoor
open Go.RowKit

set_option maxRecDepth 100000 in
set_option maxHeartbeats 1000000 in
theorem szArc_any (a : Ac) (v : Value) (left : Int) (B : Nat) (w : World) (ha : a.At B w v) (hB : B ≤ w.heap.size) (h0 : 0 ≤ left) (h1 : left ≤ 1048576) (hok : a.x.Ok) :
    Calls Tryd.prog 79 #[v, .int .i64 left] w (SzPost left a.need w.heap.size w) := by
  obtain ⟨p, c, q, d, rfl, hl, hc⟩ := ha.form
  have HL := Lib.hid hl
  have HC := Lib.hid hc
  clear ha hl hc
  go_enter Tryd.func79, Tryd.ntmps79
  go_wp2_with fail
  have hbc : Below B w (w.alloc (.cells #[.int .i64 a.f, .int .i64 a.t, .bool a.fr, .bool a.x.n, .string a.x.v, .int .i64 a.x.l.op, .string a.x.l.a, .slice p a.x.l.ks.list.length c, .int .i64 a.x.c.op, .string a.x.c.a, .slice q a.x.c.ks.list.length d, .int .i64 a.x.d] 121)) := (Below.refl B w).alloc hB _
  refine (szElem_any a.x _ left B _ ⟨_, _, rfl, HL.out.below hbc (Nat.le_refl _), HC.out.below hbc (Nat.le_refl _)⟩ (by simp; omega) h0 h1 hok).mono ?_
  rintro e w1 ⟨r, rfl, hr, hb1⟩
  have HB1 := Lib.hid (below_past hb1)
  clear hb1 hbc
  rcases hr with hr | ⟨hr0, hr⟩
  · have hneg : r < 0 := by omega
    clear hr
    go_wp2_with fail
    go_ret
    exact ⟨-1, rfl, .inl rfl, HB1.out⟩
  · have HR := Lib.hid hr
    clear hr
    go_wp2_with fail
    go_ret
    exact ⟨r, rfl, .inr ⟨hr0, HR.out⟩, HB1.out⟩

set_option maxRecDepth 100000 in
set_option maxHeartbeats 1000000 in
theorem szArcS_any (xs : List Ac) (v : Value) (left : Int) (B : Nat) (w : World) (hv : kAc.Rd B w v xs) (hB : B ≤ w.heap.size) (h0 : 0 ≤ left) (h1 : left ≤ 1048576) (hok : ∀ x ∈ xs, x.Ok) :
    Calls Tryd.prog 45 #[v, .int .i64 left] w (SzPost left (xs.length + sumAc xs) w.heap.size w) := by
  obtain ⟨p, cap, rfl⟩ := hv.form
  obtain ⟨_, hm1, hm⟩ := hv.max
  unfold maxLen at hm
  have HV := Lib.hid hv
  clear hv
  by_cases hlt : left < xs.length
  · go_enter Tryd.func45, Tryd.ntmps45
    go_wp2_with fail
    go_ret
    exact ⟨-1, rfl, .inl rfl, Below.refl _ _⟩
  · have q1 : decide (left - (xs.length : Int) < 0) = false := by simp; omega
    have q1' : decide (left < (xs.length : Int)) = false := by simp; omega
    go_enter Tryd.func45, Tryd.ntmps45
    go_wp2_with fail
    go_loopw [1, 5] (fun l i wr => ∃ (k : Nat) (m : Int), k ≤ xs.length ∧ i = .int .i64 k ∧ l = .int .i64 m ∧ 0 ≤ m ∧ m ≤ 1048576 ∧ RowKit.Hid (m = left - (xs.length + sumAc (xs.take k))) ∧ Below w.heap.size w wr) (fun _ i _ => xs.length - (intOf i).toNat)
    case atStart => exact ⟨0, left - xs.length, Nat.zero_le _, rfl, rfl, by omega, by omega, Lib.hid (by simp [sumAc]), Below.refl _ _⟩
    case round =>
      obtain ⟨k, m, hk, rfl, rfl, hm0, hm1, hme, hbw⟩ := hrel
      have hsz := hbw.size
      have HB := Lib.hid hbw
      clear hbw
      by_cases hlt2 : k < xs.length
      · obtain ⟨b, off, q, c, q', c', rfl, hb, c0, c1, c2, c3, c4, c5, c6, c7, c8, c9, c10, c11, hin⟩ := kAc_get (HV.out.to (HB.out.mono hB) (Nat.le_refl _)) hlt2
        have hx := (hok _ (List.getElem_mem hlt2)).2.2
        have hsum := sumAc_succ xs k hlt2
        obtain ⟨x, ex⟩ : ∃ x, x = xs[k] := ⟨_, rfl⟩
        rw [← ex] at c0 c1 c2 c3 c4 c5 c6 c7 c8 c9 c10 c11 hx hsum hin
        have HS := Lib.hid hsum
        have HIN := Lib.hid hin
        have HX := Lib.hid hx
        clear ex hsum hin hx
        go_wp2_with fail
        refine (szArc_any x _ m B _ HIN.out (by omega) hm0 hm1 HX.out).mono ?_
        rintro e w' ⟨r, rfl, hr, hb1⟩
        have HB1 := Lib.hid hb1
        clear hb1
        rcases hr with hr | ⟨hr0, hr⟩
        · have hneg : r < 0 := by omega
          clear hr
          go_wp2_with fail
          go_ret
          exact ⟨-1, rfl, .inl rfl, HB.out.trans (HB1.out.mono hsz)⟩
        · have hr1 : r ≤ 1048576 := by omega
          have HR := Lib.hid (show r = left - (xs.length + sumAc (xs.take (k + 1))) by have a := hme.out; have b := HS.out; omega)
          clear hr
          go_wp2_with fail
          go_roundw
          case rel => exact ⟨k + 1, r, by omega, by go_num, rfl, hr0, hr1, HR, HB.out.trans (HB1.out.mono hsz)⟩
          case measure => simp [intOf]; omega
      · have HR := Lib.hid (show m = left - (xs.length + sumAc xs) by have a := hme.out; rw [List.take_of_length_le (by omega)] at a; exact a)
        go_wp2_with fail
        go_ret
        exact ⟨m, rfl, .inr ⟨hm0, HR.out⟩, HB.out⟩

set_option maxHeartbeats 1000000 in
theorem szAuto_any (a : Au) (v : Value) (left : Int) (B : Nat) (w : World) (ha : a.At B w v) (hB : B ≤ w.heap.size) (h0 : 0 ≤ left) (h1 : left ≤ 1048576) (hok : a.Ok) :
    Calls Tryd.prog 19 #[v, .int .i64 left] w (SzPost left a.need w.heap.size w) := by
  obtain ⟨b, rfl, hb⟩ := ha
  have H1 := Lib.hid hb
  clear hb
  go_enter Tryd.func19, Tryd.ntmps19
  go_wp2_with fail
  refine (szArcS_any a.ar b left B _ (H1.out.to ((Below.refl B w).alloc hB _) (Nat.le_refl _)) (by simp; omega) h0 h1 hok.2).mono ?_
  rintro e w1 ⟨r, rfl, hr, hb1⟩
  have HB1 := Lib.hid (below_past hb1)
  clear hb1
  rcases hr with hr | ⟨hr0, hr⟩
  · have hneg : r < 0 := by omega
    clear hr
    go_wp2_with fail
    go_ret
    exact ⟨-1, rfl, .inl rfl, HB1.out⟩
  · have HR := Lib.hid hr
    clear hr
    go_wp2_with fail
    go_ret
    exact ⟨r, rfl, .inr ⟨hr0, HR.out⟩, HB1.out⟩

def ToAcPost (a : Ac) (w : World) (en : Ending) (w' : World) : Prop := ∃ v F, en = .returned v ∧ a.Has v F w' ∧ (∀ x ∈ F, w.heap.size ≤ x) ∧ Below w.heap.size w w'
set_option maxRecDepth 100000 in
set_option maxHeartbeats 4000000 in
theorem toArc_any (a : Ac) (v : Value) (B : Nat) (w : World) (ha : a.At B w v) (hB : B ≤ w.heap.size) (hn : a.need ≤ 1048576) :
    Calls Tryd.prog 81 #[v] w (ToAcPost a w) := by
  have hs1 : a.x.l.ks.size ≤ 1048576 := (El.sm_need (e := a.x) hn).2.2.1
  have hs2 : a.x.c.ks.size ≤ 1048576 := (El.sm_need (e := a.x) hn).2.2.2.2.1
  obtain ⟨p, c, q, d, rfl, hl, hc⟩ := ha.form
  have HL := Lib.hid hl
  have HC := Lib.hid hc
  clear ha hl hc hn
  go_enter Tryd.func81, Tryd.ntmps81
  go_wp2_with fail
  refine (toElem_any a.x _ B _ ⟨_, _, rfl, HL.out.below (by ((repeat (first | with_reducible assumption | with_reducible exact Below.refl _ _ | refine Below.setCell ?_ (by (first | omega | (simp; omega) | (simp; done) | fail "sml")) _ | refine Below.drew ?_ | refine Below.alloc ?_ (by (first | omega | (simp; omega) | (simp; done) | fail "sml")) _)); first | done | fail "chs")) (Nat.le_refl _), HC.out.below (by ((repeat (first | with_reducible assumption | with_reducible exact Below.refl _ _ | refine Below.setCell ?_ (by (first | omega | (simp; omega) | (simp; done) | fail "sml")) _ | refine Below.drew ?_ | refine Below.alloc ?_ (by (first | omega | (simp; omega) | (simp; done) | fail "sml")) _)); first | done | fail "chs")) (Nat.le_refl _)⟩ (by simp; omega) hs1 hs2).mono ?_
  rintro en w1 ⟨v1, F1, rfl, ho1, hf1, hb1⟩
  have hz1 : w.heap.size + 3 ≤ w1.heap.size := by have := hb1.size; simp at this; omega
  have q0 : w1.cell? ⟨w.heap.size + 1, 0, none⟩ = some (.int .i64 0) := (hb1.cell (by first | (simp; done) | (simp; omega))).trans (by simp [go_sem])
  have f0 : w1.frozen? ⟨w.heap.size + 1, 0, none⟩ = false := (hb1.frozen (by first | (simp; done) | (simp; omega))).trans (by simp [go_sem])
  have q1 : w1.cell? ⟨w.heap.size + 1, 1, none⟩ = some (.int .i64 0) := (hb1.cell (by first | (simp; done) | (simp; omega))).trans (by simp [go_sem])
  have f1 : w1.frozen? ⟨w.heap.size + 1, 1, none⟩ = false := (hb1.frozen (by first | (simp; done) | (simp; omega))).trans (by simp [go_sem])
  have q2 : w1.cell? ⟨w.heap.size + 1, 2, none⟩ = some (.bool false) := (hb1.cell (by first | (simp; done) | (simp; omega))).trans (by simp [go_sem])
  have f2 : w1.frozen? ⟨w.heap.size + 1, 2, none⟩ = false := (hb1.frozen (by first | (simp; done) | (simp; omega))).trans (by simp [go_sem])
  have q3 : w1.cell? ⟨w.heap.size + 1, 3, none⟩ = some (.bool false) := (hb1.cell (by first | (simp; done) | (simp; omega))).trans (by simp [go_sem])
  have f3 : w1.frozen? ⟨w.heap.size + 1, 3, none⟩ = false := (hb1.frozen (by first | (simp; done) | (simp; omega))).trans (by simp [go_sem])
  have q4 : w1.cell? ⟨w.heap.size + 1, 4, none⟩ = some (.string ⟨#[]⟩) := (hb1.cell (by first | (simp; done) | (simp; omega))).trans (by simp [go_sem])
  have f4 : w1.frozen? ⟨w.heap.size + 1, 4, none⟩ = false := (hb1.frozen (by first | (simp; done) | (simp; omega))).trans (by simp [go_sem])
  have q5 : w1.cell? ⟨w.heap.size + 1, 5, none⟩ = some (.int .i64 0) := (hb1.cell (by first | (simp; done) | (simp; omega))).trans (by simp [go_sem])
  have f5 : w1.frozen? ⟨w.heap.size + 1, 5, none⟩ = false := (hb1.frozen (by first | (simp; done) | (simp; omega))).trans (by simp [go_sem])
  have q6 : w1.cell? ⟨w.heap.size + 1, 6, none⟩ = some (.string ⟨#[]⟩) := (hb1.cell (by first | (simp; done) | (simp; omega))).trans (by simp [go_sem])
  have f6 : w1.frozen? ⟨w.heap.size + 1, 6, none⟩ = false := (hb1.frozen (by first | (simp; done) | (simp; omega))).trans (by simp [go_sem])
  have q7 : w1.cell? ⟨w.heap.size + 1, 7, none⟩ = some (.slice none 0 0) := (hb1.cell (by first | (simp; done) | (simp; omega))).trans (by simp [go_sem])
  have f7 : w1.frozen? ⟨w.heap.size + 1, 7, none⟩ = false := (hb1.frozen (by first | (simp; done) | (simp; omega))).trans (by simp [go_sem])
  have q8 : w1.cell? ⟨w.heap.size + 1, 8, none⟩ = some (.int .i64 0) := (hb1.cell (by first | (simp; done) | (simp; omega))).trans (by simp [go_sem])
  have f8 : w1.frozen? ⟨w.heap.size + 1, 8, none⟩ = false := (hb1.frozen (by first | (simp; done) | (simp; omega))).trans (by simp [go_sem])
  have q9 : w1.cell? ⟨w.heap.size + 1, 9, none⟩ = some (.string ⟨#[]⟩) := (hb1.cell (by first | (simp; done) | (simp; omega))).trans (by simp [go_sem])
  have f9 : w1.frozen? ⟨w.heap.size + 1, 9, none⟩ = false := (hb1.frozen (by first | (simp; done) | (simp; omega))).trans (by simp [go_sem])
  have q10 : w1.cell? ⟨w.heap.size + 1, 10, none⟩ = some (.slice none 0 0) := (hb1.cell (by first | (simp; done) | (simp; omega))).trans (by simp [go_sem])
  have f10 : w1.frozen? ⟨w.heap.size + 1, 10, none⟩ = false := (hb1.frozen (by first | (simp; done) | (simp; omega))).trans (by simp [go_sem])
  have q11 : w1.cell? ⟨w.heap.size + 1, 11, none⟩ = some (.int .i64 0) := (hb1.cell (by first | (simp; done) | (simp; omega))).trans (by simp [go_sem])
  have f11 : w1.frozen? ⟨w.heap.size + 1, 11, none⟩ = false := (hb1.frozen (by first | (simp; done) | (simp; omega))).trans (by simp [go_sem])
  have r0 : w1.cell? ⟨w.heap.size + 1 + 1, 0, none⟩ = some (.int .i64 a.f) := (hb1.cell (by first | (simp; done) | (simp; omega))).trans (by simp [go_sem])
  have g0 : w1.frozen? ⟨w.heap.size + 1 + 1, 0, none⟩ = false := (hb1.frozen (by first | (simp; done) | (simp; omega))).trans (by simp [go_sem])
  have r1 : w1.cell? ⟨w.heap.size + 1 + 1, 1, none⟩ = some (.int .i64 a.t) := (hb1.cell (by first | (simp; done) | (simp; omega))).trans (by simp [go_sem])
  have g1 : w1.frozen? ⟨w.heap.size + 1 + 1, 1, none⟩ = false := (hb1.frozen (by first | (simp; done) | (simp; omega))).trans (by simp [go_sem])
  have r2 : w1.cell? ⟨w.heap.size + 1 + 1, 2, none⟩ = some (.bool a.fr) := (hb1.cell (by first | (simp; done) | (simp; omega))).trans (by simp [go_sem])
  have g2 : w1.frozen? ⟨w.heap.size + 1 + 1, 2, none⟩ = false := (hb1.frozen (by first | (simp; done) | (simp; omega))).trans (by simp [go_sem])
  have r3 : w1.cell? ⟨w.heap.size + 1 + 1, 3, none⟩ = some (.bool false) := (hb1.cell (by first | (simp; done) | (simp; omega))).trans (by simp [go_sem])
  have g3 : w1.frozen? ⟨w.heap.size + 1 + 1, 3, none⟩ = false := (hb1.frozen (by first | (simp; done) | (simp; omega))).trans (by simp [go_sem])
  have r4 : w1.cell? ⟨w.heap.size + 1 + 1, 4, none⟩ = some (.string ⟨#[]⟩) := (hb1.cell (by first | (simp; done) | (simp; omega))).trans (by simp [go_sem])
  have g4 : w1.frozen? ⟨w.heap.size + 1 + 1, 4, none⟩ = false := (hb1.frozen (by first | (simp; done) | (simp; omega))).trans (by simp [go_sem])
  have r5 : w1.cell? ⟨w.heap.size + 1 + 1, 5, none⟩ = some (.int .i64 0) := (hb1.cell (by first | (simp; done) | (simp; omega))).trans (by simp [go_sem])
  have g5 : w1.frozen? ⟨w.heap.size + 1 + 1, 5, none⟩ = false := (hb1.frozen (by first | (simp; done) | (simp; omega))).trans (by simp [go_sem])
  have r6 : w1.cell? ⟨w.heap.size + 1 + 1, 6, none⟩ = some (.string ⟨#[]⟩) := (hb1.cell (by first | (simp; done) | (simp; omega))).trans (by simp [go_sem])
  have g6 : w1.frozen? ⟨w.heap.size + 1 + 1, 6, none⟩ = false := (hb1.frozen (by first | (simp; done) | (simp; omega))).trans (by simp [go_sem])
  have r7 : w1.cell? ⟨w.heap.size + 1 + 1, 7, none⟩ = some (.slice none 0 0) := (hb1.cell (by first | (simp; done) | (simp; omega))).trans (by simp [go_sem])
  have g7 : w1.frozen? ⟨w.heap.size + 1 + 1, 7, none⟩ = false := (hb1.frozen (by first | (simp; done) | (simp; omega))).trans (by simp [go_sem])
  have r8 : w1.cell? ⟨w.heap.size + 1 + 1, 8, none⟩ = some (.int .i64 0) := (hb1.cell (by first | (simp; done) | (simp; omega))).trans (by simp [go_sem])
  have g8 : w1.frozen? ⟨w.heap.size + 1 + 1, 8, none⟩ = false := (hb1.frozen (by first | (simp; done) | (simp; omega))).trans (by simp [go_sem])
  have r9 : w1.cell? ⟨w.heap.size + 1 + 1, 9, none⟩ = some (.string ⟨#[]⟩) := (hb1.cell (by first | (simp; done) | (simp; omega))).trans (by simp [go_sem])
  have g9 : w1.frozen? ⟨w.heap.size + 1 + 1, 9, none⟩ = false := (hb1.frozen (by first | (simp; done) | (simp; omega))).trans (by simp [go_sem])
  have r10 : w1.cell? ⟨w.heap.size + 1 + 1, 10, none⟩ = some (.slice none 0 0) := (hb1.cell (by first | (simp; done) | (simp; omega))).trans (by simp [go_sem])
  have g10 : w1.frozen? ⟨w.heap.size + 1 + 1, 10, none⟩ = false := (hb1.frozen (by first | (simp; done) | (simp; omega))).trans (by simp [go_sem])
  have r11 : w1.cell? ⟨w.heap.size + 1 + 1, 11, none⟩ = some (.int .i64 0) := (hb1.cell (by first | (simp; done) | (simp; omega))).trans (by simp [go_sem])
  have g11 : w1.frozen? ⟨w.heap.size + 1 + 1, 11, none⟩ = false := (hb1.frozen (by first | (simp; done) | (simp; omega))).trans (by simp [go_sem])
  have HB1 := Lib.hid (below_past (below_past (below_past hb1)))
  have HF1 := Lib.hid (show ∀ y ∈ F1, w.heap.size + 3 ≤ y from fun y hy => by have := hf1 y hy; simp at this; omega)
  clear hb1 hf1
  obtain ⟨k, k', G1, G2, rfl, rfl, hdj, o1, o2⟩ := ho1
  obtain ⟨p1, c1, rfl⟩ := o1.in.form
  obtain ⟨p2, c2, rfl⟩ := o2.in.form
  have O1 := Lib.hid o1
  have O2 := Lib.hid o2
  have HD := Lib.hid hdj
  clear o1 o2 hdj
  go_wp2_with fail
  refine bodyPost_ret (v := .agg #[.int .i64 a.f, .int .i64 a.t, .bool a.fr, .bool a.x.n, .string a.x.v, .int .i64 a.x.l.op, .string a.x.l.a, .slice p1 a.x.l.ks.list.length c1, .int .i64 a.x.c.op, .string a.x.c.a, .slice p2 a.x.c.ks.list.length c2, .int .i64 a.x.d]) (by simp [results, Tryd.results81, go_sem, q0, q1, q2, q3, q4, q5, q6, q7, q8, q9, q10, q11]) rfl ?_
  have hs : ∀ E, Chg [w.heap.size + 1, w.heap.size + 1 + 1] w1 E → Below w.heap.size w1 E → ToAcPost a w (.returned (.agg #[.int .i64 a.f, .int .i64 a.t, .bool a.fr, .bool a.x.n, .string a.x.v, .int .i64 a.x.l.op, .string a.x.l.a, .slice p1 a.x.l.ks.list.length c1, .int .i64 a.x.c.op, .string a.x.c.a, .slice p2 a.x.c.ks.list.length c2, .int .i64 a.x.d])) E := by
    intro E hE hE2
    refine ⟨_, G1 ++ G2, rfl, ⟨_, _, G1, G2, rfl, rfl, HD.out, O1.out.chg hE (fun x hx => by have := HF1.out x (List.mem_append_left _ hx); simp; omega), O2.out.chg hE (fun x hx => by have := HF1.out x (List.mem_append_right _ hx); simp; omega)⟩, fun y hy => by have := HF1.out y hy; omega, HB1.out.trans hE2⟩
  refine hs _ ?_ ?_
  · repeat (first | with_reducible exact Chg.refl _ _ | refine Chg.setCell ?_ (by simp) _)
  · repeat (first | with_reducible exact Below.refl _ _ | refine Below.setCell ?_ (by (first | omega | (simp; omega) | (simp; done) | fail "sml")) _)

theorem infoArc : (Tryd.prog.info? 86).map (fun i => (i.zero, i.size, i.bytes)) = some (some (.agg #[.int .i64 0, .int .i64 0, .bool false, .bool false, .string ⟨#[]⟩, .int .i64 0, .string ⟨#[]⟩, .slice none 0 0, .int .i64 0, .string ⟨#[]⟩, .slice none 0 0, .int .i64 0]), 12, 152) := by kernel_rfl
theorem stores12 {T : TypeId} {b o : Nat} {x0 x1 x2 x3 x4 x5 x6 x7 x8 x9 x10 x11 : Value} {w : World} : Stores T b o 12 [x0, x1, x2, x3, x4, x5, x6, x7, x8, x9, x10, x11] w (((((((((((((w).setCell ⟨b, o, none⟩ x0).setCell ⟨b, o + 1, none⟩ x1).setCell ⟨b, o + 2, none⟩ x2).setCell ⟨b, o + 3, none⟩ x3).setCell ⟨b, o + 4, none⟩ x4).setCell ⟨b, o + 5, none⟩ x5).setCell ⟨b, o + 6, none⟩ x6).setCell ⟨b, o + 7, none⟩ x7).setCell ⟨b, o + 8, none⟩ x8).setCell ⟨b, o + 9, none⟩ x9).setCell ⟨b, o + 10, none⟩ x10).setCell ⟨b, o + 11, none⟩ x11) := by
  refine ⟨((((((((((((Chg.refl _ w).setCell (by simp) _).setCell (by simp) _).setCell (by simp) _).setCell (by simp) _).setCell (by simp) _).setCell (by simp) _).setCell (by simp) _).setCell (by simp) _).setCell (by simp) _).setCell (by simp) _).setCell (by simp) _).setCell (by simp) _, fun L hL hl => ⟨((((((((((((L).set (o) x0).set (o + 1) x1).set (o + 2) x2).set (o + 3) x3).set (o + 4) x4).set (o + 5) x5).set (o + 6) x6).set (o + 7) x7).set (o + 8) x8).set (o + 9) x9).set (o + 10) x10).set (o + 11) x11, ((((((((((((hL).set _ _).set _ _).set _ _).set _ _).set _ _).set _ _).set _ _).set _ _).set _ _).set _ _).set _ _).set _ _, by simp, fun i hi => ?_, fun j u hu => ?_⟩⟩
  · rw [List.getElem?_set_ne (by omega), List.getElem?_set_ne (by omega), List.getElem?_set_ne (by omega), List.getElem?_set_ne (by omega), List.getElem?_set_ne (by omega), List.getElem?_set_ne (by omega), List.getElem?_set_ne (by omega), List.getElem?_set_ne (by omega), List.getElem?_set_ne (by omega), List.getElem?_set_ne (by omega), List.getElem?_set_ne (by omega), List.getElem?_set_ne (by omega)]
  · match j, hu with
    | 0, hu =>
      simp at hu; subst hu
      rw [List.getElem?_set_ne (by omega), List.getElem?_set_ne (by omega), List.getElem?_set_ne (by omega), List.getElem?_set_ne (by omega), List.getElem?_set_ne (by omega), List.getElem?_set_ne (by omega), List.getElem?_set_ne (by omega), List.getElem?_set_ne (by omega), List.getElem?_set_ne (by omega), List.getElem?_set_ne (by omega), List.getElem?_set_ne (by omega), Nat.add_zero, List.getElem?_set_self (by first | omega | (simp; omega))]
    | 1, hu =>
      simp at hu; subst hu
      rw [List.getElem?_set_ne (by omega), List.getElem?_set_ne (by omega), List.getElem?_set_ne (by omega), List.getElem?_set_ne (by omega), List.getElem?_set_ne (by omega), List.getElem?_set_ne (by omega), List.getElem?_set_ne (by omega), List.getElem?_set_ne (by omega), List.getElem?_set_ne (by omega), List.getElem?_set_ne (by omega), List.getElem?_set_self (by first | omega | (simp; omega))]
    | 2, hu =>
      simp at hu; subst hu
      rw [List.getElem?_set_ne (by omega), List.getElem?_set_ne (by omega), List.getElem?_set_ne (by omega), List.getElem?_set_ne (by omega), List.getElem?_set_ne (by omega), List.getElem?_set_ne (by omega), List.getElem?_set_ne (by omega), List.getElem?_set_ne (by omega), List.getElem?_set_ne (by omega), List.getElem?_set_self (by first | omega | (simp; omega))]
    | 3, hu =>
      simp at hu; subst hu
      rw [List.getElem?_set_ne (by omega), List.getElem?_set_ne (by omega), List.getElem?_set_ne (by omega), List.getElem?_set_ne (by omega), List.getElem?_set_ne (by omega), List.getElem?_set_ne (by omega), List.getElem?_set_ne (by omega), List.getElem?_set_ne (by omega), List.getElem?_set_self (by first | omega | (simp; omega))]
    | 4, hu =>
      simp at hu; subst hu
      rw [List.getElem?_set_ne (by omega), List.getElem?_set_ne (by omega), List.getElem?_set_ne (by omega), List.getElem?_set_ne (by omega), List.getElem?_set_ne (by omega), List.getElem?_set_ne (by omega), List.getElem?_set_ne (by omega), List.getElem?_set_self (by first | omega | (simp; omega))]
    | 5, hu =>
      simp at hu; subst hu
      rw [List.getElem?_set_ne (by omega), List.getElem?_set_ne (by omega), List.getElem?_set_ne (by omega), List.getElem?_set_ne (by omega), List.getElem?_set_ne (by omega), List.getElem?_set_ne (by omega), List.getElem?_set_self (by first | omega | (simp; omega))]
    | 6, hu =>
      simp at hu; subst hu
      rw [List.getElem?_set_ne (by omega), List.getElem?_set_ne (by omega), List.getElem?_set_ne (by omega), List.getElem?_set_ne (by omega), List.getElem?_set_ne (by omega), List.getElem?_set_self (by first | omega | (simp; omega))]
    | 7, hu =>
      simp at hu; subst hu
      rw [List.getElem?_set_ne (by omega), List.getElem?_set_ne (by omega), List.getElem?_set_ne (by omega), List.getElem?_set_ne (by omega), List.getElem?_set_self (by first | omega | (simp; omega))]
    | 8, hu =>
      simp at hu; subst hu
      rw [List.getElem?_set_ne (by omega), List.getElem?_set_ne (by omega), List.getElem?_set_ne (by omega), List.getElem?_set_self (by first | omega | (simp; omega))]
    | 9, hu =>
      simp at hu; subst hu
      rw [List.getElem?_set_ne (by omega), List.getElem?_set_ne (by omega), List.getElem?_set_self (by first | omega | (simp; omega))]
    | 10, hu =>
      simp at hu; subst hu
      rw [List.getElem?_set_ne (by omega), List.getElem?_set_self (by first | omega | (simp; omega))]
    | 11, hu =>
      simp at hu; subst hu
      rw [List.getElem?_set_self (by first | omega | (simp; omega))]
    | j + 12, hu => simp at hu

set_option maxRecDepth 100000 in
set_option maxHeartbeats 4000000 in
theorem toArcS_any (xs : List Ac) (v : Value) (B : Nat) (w : World) (hv : kAc.Rd B w v xs) (hB : B ≤ w.heap.size) (hn : xs.length + sumAc xs ≤ 1048576) :
    Calls Tryd.prog 47 #[v] w fun e w' => ∃ v' F, e = .returned v' ∧ kAc.Ow w' v' xs F ∧ (∀ x ∈ F, w.heap.size ≤ x) ∧ Below w.heap.size w w' := by
  obtain ⟨p, cap, rfl⟩ := hv.form
  obtain ⟨_, hm1, hm2⟩ := hv.max
  unfold maxLen at hm2
  have HV := Lib.hid hv
  clear hv
  have hmk : ∀ w : World, (Instr.makeSlice 57 (.int .i64 (xs.length : Int)) (.int .i64 (xs.length : Int))).run Tryd.prog w = .ok (.slice (some ⟨w.heap.size, 0, none⟩) xs.length xs.length) (w.alloc (.cells (madeCells #[.int .i64 0, .int .i64 0, .bool false, .bool false, .string ⟨#[]⟩, .int .i64 0, .string ⟨#[]⟩, .slice none 0 0, .int .i64 0, .string ⟨#[]⟩, .slice none 0 0, .int .i64 0] (xs.length * 12)) 86)) := by
    intro w
    obtain ⟨i, hi, hzz⟩ := Option.map_eq_some_iff.1 infoArc
    simp only [Prod.mk.injEq] at hzz
    obtain ⟨hz, hs, hb⟩ := hzz
    have hr := run_make (P := Tryd.prog) w 57 86 i _ Tryd.underlying57 hi hz .i64 .i64 xs.length xs.length (by omega) (Int.le_refl _) (by rw [hb]; omega) (by omega)
    rw [hs] at hr
    exact hr
  have hbk := Blk.new w (madeCells #[.int .i64 0, .int .i64 0, .bool false, .bool false, .string ⟨#[]⟩, .int .i64 0, .string ⟨#[]⟩, .slice none 0 0, .int .i64 0, .string ⟨#[]⟩, .slice none 0 0, .int .i64 0] (xs.length * 12)) 86
  have HI0 := Lib.hid (KInv.zero (K := kAc) (xs := xs) (by simp [madeCells]; rfl) hbk)
  clear hbk
  go_enter Tryd.func47, Tryd.ntmps47
  go_wp2_with fail
  go_loopw [4] (fun i wr => ∃ (k : Nat), k ≤ xs.length ∧ i = .int .i64 k ∧ RowKit.Hid (KInv kAc xs 86 w.heap.size k wr) ∧ RowKit.Hid (Below w.heap.size w wr)) (fun i _ => xs.length - (intOf i).toNat)
  case atStart => exact ⟨0, Nat.zero_le _, rfl, HI0, Lib.hid ((Below.refl _ _).alloc (Nat.le_refl _) _)⟩
  case round =>
    obtain ⟨k, hk, rfl, HI, HB⟩ := hrel
    have hsz := HB.out.size
    have hlt := HI.out.lt
    by_cases hlt2 : k < xs.length
    · obtain ⟨b, off, q, c, q', c', rfl, hb, c0, c1, c2, c3, c4, c5, c6, c7, c8, c9, c10, c11, hin⟩ := kAc_get (HV.out.to (HB.out.mono hB) (Nat.le_refl _)) hlt2
      have hsize := sumAc_get xs k hlt2
      have hstep := fun (w1 : World) (hb : Below wr.heap.size wr w1) (s s' : Value) (F' : List Nat) (ho : kAc.ow w1 xs[k] (xs[k].cs s s') F') (hF : ∀ x ∈ F', wr.heap.size ≤ x) => HI.out.step hlt2 hb ho hF (stores12 (o := k * 12))
      obtain ⟨x, ex⟩ : ∃ x, x = xs[k] := ⟨_, rfl⟩
      rw [← ex] at c0 c1 c2 c3 c4 c5 c6 c7 c8 c9 c10 c11 hin hsize hstep
      have HIN := Lib.hid hin
      have HS := Lib.hid hstep
      clear ex hin hstep
      go_wp2_with fail
      refine (toArc_any x _ B _ HIN.out (by omega) (by omega)).mono ?_
      rintro e w1 ⟨v1, F1, rfl, ho, hF, hb1⟩
      obtain ⟨p1, d1, p2, d2, rfl⟩ := ho.form
      have HN := Lib.hid (HS.out w1 hb1 _ _ F1 ho.row hF)
      have HB1 := Lib.hid (HB.out.trans (hb1.mono hsz))
      have hw1 : w.heap.size < w1.heap.size := Nat.lt_of_lt_of_le hlt hb1.size
      have HCL := Lib.hid (fun i (hi : i < xs.length * 12) => HI.out.cells i hi)
      obtain ⟨⟨d0, e0⟩, g0⟩ := HCL.out (k * 12) (by omega)
      have e0' := keepc hb1 hlt e0
      have g0' : w1.frozen? ⟨w.heap.size, k * 12, none⟩ = false := (hb1.frozen (p := ⟨w.heap.size, k * 12, none⟩) hlt).trans g0
      clear e0 g0
      obtain ⟨⟨d1, e1⟩, g1⟩ := HCL.out (k * 12 + 1) (by omega)
      have e1' := keepc hb1 hlt e1
      have g1' : w1.frozen? ⟨w.heap.size, k * 12 + 1, none⟩ = false := (hb1.frozen (p := ⟨w.heap.size, k * 12 + 1, none⟩) hlt).trans g1
      clear e1 g1
      obtain ⟨⟨d2, e2⟩, g2⟩ := HCL.out (k * 12 + 2) (by omega)
      have e2' := keepc hb1 hlt e2
      have g2' : w1.frozen? ⟨w.heap.size, k * 12 + 2, none⟩ = false := (hb1.frozen (p := ⟨w.heap.size, k * 12 + 2, none⟩) hlt).trans g2
      clear e2 g2
      obtain ⟨⟨d3, e3⟩, g3⟩ := HCL.out (k * 12 + 3) (by omega)
      have e3' := keepc hb1 hlt e3
      have g3' : w1.frozen? ⟨w.heap.size, k * 12 + 3, none⟩ = false := (hb1.frozen (p := ⟨w.heap.size, k * 12 + 3, none⟩) hlt).trans g3
      clear e3 g3
      obtain ⟨⟨d4, e4⟩, g4⟩ := HCL.out (k * 12 + 4) (by omega)
      have e4' := keepc hb1 hlt e4
      have g4' : w1.frozen? ⟨w.heap.size, k * 12 + 4, none⟩ = false := (hb1.frozen (p := ⟨w.heap.size, k * 12 + 4, none⟩) hlt).trans g4
      clear e4 g4
      obtain ⟨⟨d5, e5⟩, g5⟩ := HCL.out (k * 12 + 5) (by omega)
      have e5' := keepc hb1 hlt e5
      have g5' : w1.frozen? ⟨w.heap.size, k * 12 + 5, none⟩ = false := (hb1.frozen (p := ⟨w.heap.size, k * 12 + 5, none⟩) hlt).trans g5
      clear e5 g5
      obtain ⟨⟨d6, e6⟩, g6⟩ := HCL.out (k * 12 + 6) (by omega)
      have e6' := keepc hb1 hlt e6
      have g6' : w1.frozen? ⟨w.heap.size, k * 12 + 6, none⟩ = false := (hb1.frozen (p := ⟨w.heap.size, k * 12 + 6, none⟩) hlt).trans g6
      clear e6 g6
      obtain ⟨⟨d7, e7⟩, g7⟩ := HCL.out (k * 12 + 7) (by omega)
      have e7' := keepc hb1 hlt e7
      have g7' : w1.frozen? ⟨w.heap.size, k * 12 + 7, none⟩ = false := (hb1.frozen (p := ⟨w.heap.size, k * 12 + 7, none⟩) hlt).trans g7
      clear e7 g7
      obtain ⟨⟨d8, e8⟩, g8⟩ := HCL.out (k * 12 + 8) (by omega)
      have e8' := keepc hb1 hlt e8
      have g8' : w1.frozen? ⟨w.heap.size, k * 12 + 8, none⟩ = false := (hb1.frozen (p := ⟨w.heap.size, k * 12 + 8, none⟩) hlt).trans g8
      clear e8 g8
      obtain ⟨⟨d9, e9⟩, g9⟩ := HCL.out (k * 12 + 9) (by omega)
      have e9' := keepc hb1 hlt e9
      have g9' : w1.frozen? ⟨w.heap.size, k * 12 + 9, none⟩ = false := (hb1.frozen (p := ⟨w.heap.size, k * 12 + 9, none⟩) hlt).trans g9
      clear e9 g9
      obtain ⟨⟨d10, e10⟩, g10⟩ := HCL.out (k * 12 + 10) (by omega)
      have e10' := keepc hb1 hlt e10
      have g10' : w1.frozen? ⟨w.heap.size, k * 12 + 10, none⟩ = false := (hb1.frozen (p := ⟨w.heap.size, k * 12 + 10, none⟩) hlt).trans g10
      clear e10 g10
      obtain ⟨⟨d11, e11⟩, g11⟩ := HCL.out (k * 12 + 11) (by omega)
      have e11' := keepc hb1 hlt e11
      have g11' : w1.frozen? ⟨w.heap.size, k * 12 + 11, none⟩ = false := (hb1.frozen (p := ⟨w.heap.size, k * 12 + 11, none⟩) hlt).trans g11
      clear e11 g11
      clear hb1 ho hF
      go_wp2_with fail
      go_roundw
      case rel => exact ⟨k + 1, by omega, by go_num, HN, Lib.hid (((((((((((((HB1.out).setCell (Nat.le_refl _) _).setCell (Nat.le_refl _) _).setCell (Nat.le_refl _) _).setCell (Nat.le_refl _) _).setCell (Nat.le_refl _) _).setCell (Nat.le_refl _) _).setCell (Nat.le_refl _) _).setCell (Nat.le_refl _) _).setCell (Nat.le_refl _) _).setCell (Nat.le_refl _) _).setCell (Nat.le_refl _) _).setCell (Nat.le_refl _) _)⟩
      case measure => simp [intOf]; omega
    · obtain rfl : k = xs.length := by omega
      obtain ⟨F, ho, hF⟩ := HI.out.done (by unfold maxLen; omega)
      have HO := Lib.hid ho
      have HF := Lib.hid hF
      clear ho hF
      go_wp2_with fail
      go_ret
      exact ⟨_, F, rfl, HO.out, HF.out, HB.out⟩

set_option maxRecDepth 100000 in
set_option maxHeartbeats 1000000 in
theorem toAuto_any (a : Au) (v : Value) (B : Nat) (w : World) (ha : a.At B w v) (hB : B ≤ w.heap.size) (hn : a.need ≤ 1048576) :
    Calls Tryd.prog 21 #[v] w fun e w' => ∃ v' F, e = .returned v' ∧ a.Has v' F w' ∧ (∀ y ∈ F, w.heap.size ≤ y) ∧ Below w.heap.size w w' := by
  obtain ⟨b, rfl, hb⟩ := ha
  have H1 := Lib.hid hb
  have hn2 : a.ar.length + sumAc a.ar ≤ 1048576 := hn
  clear hb hn
  go_enter Tryd.func21, Tryd.ntmps21
  go_wp2_with fail
  refine (toArcS_any a.ar b B _ (H1.out.to (by ((repeat (first | with_reducible assumption | with_reducible exact Below.refl _ _ | refine Below.setCell ?_ (by (first | omega | (simp; omega) | (simp; done) | fail "sml")) _ | refine Below.drew ?_ | refine Below.alloc ?_ (by (first | omega | (simp; omega) | (simp; done) | fail "sml")) _)); first | done | fail "chs")) (Nat.le_refl _)) (by simp; omega) hn2).mono ?_
  rintro e w1 ⟨v1, F1, rfl, ho1, hf1, hb1⟩
  have hs1 : w.heap.size + 3 ≤ w1.heap.size := by have := hb1.size; simp at this; omega
  have q0 : w1.cell? ⟨w.heap.size + 1, 0, none⟩ = some (.int .i64 0) := (hb1.cell (by first | (simp; done) | (simp; omega))).trans (by simp [go_sem])
  have f0 : w1.frozen? ⟨w.heap.size + 1, 0, none⟩ = false := (hb1.frozen (by first | (simp; done) | (simp; omega))).trans (by simp [go_sem])
  have q1 : w1.cell? ⟨w.heap.size + 1, 1, none⟩ = some (.slice none 0 0) := (hb1.cell (by first | (simp; done) | (simp; omega))).trans (by simp [go_sem])
  have f1 : w1.frozen? ⟨w.heap.size + 1, 1, none⟩ = false := (hb1.frozen (by first | (simp; done) | (simp; omega))).trans (by simp [go_sem])
  have r0 : w1.cell? ⟨w.heap.size + 1 + 1, 0, none⟩ = some (.int .i64 a.s) := (hb1.cell (by first | (simp; done) | (simp; omega))).trans (by simp [go_sem])
  have g0 : w1.frozen? ⟨w.heap.size + 1 + 1, 0, none⟩ = false := (hb1.frozen (by first | (simp; done) | (simp; omega))).trans (by simp [go_sem])
  have r1 : w1.cell? ⟨w.heap.size + 1 + 1, 1, none⟩ = some (.slice none 0 0) := (hb1.cell (by first | (simp; done) | (simp; omega))).trans (by simp [go_sem])
  have g1 : w1.frozen? ⟨w.heap.size + 1 + 1, 1, none⟩ = false := (hb1.frozen (by first | (simp; done) | (simp; omega))).trans (by simp [go_sem])
  have HB1 := Lib.hid (below_past (below_past (below_past hb1)))
  have HO1 := Lib.hid ho1
  have HF1 := Lib.hid (show ∀ x ∈ F1, w.heap.size + 3 ≤ x from fun x hx => by have := hf1 x hx; simp at this; omega)
  obtain ⟨pn, cn, rfl⟩ := ho1.form
  clear hb1 ho1 hf1
  go_wp2_with fail
  refine bodyPost_ret (v := .agg #[.int .i64 a.s, .slice pn a.ar.length cn]) (by simp [results, Tryd.results21, go_sem, q0, q1]) rfl ?_
  have hs : ∀ E, Chg [w.heap.size + 1, w.heap.size + 1 + 1] w1 E → Below w.heap.size w1 E → ∃ v' F, Ending.returned (.agg #[.int .i64 a.s, .slice pn a.ar.length cn]) = .returned v' ∧ a.Has v' F E ∧ (∀ y ∈ F, w.heap.size ≤ y) ∧ Below w.heap.size w E := by
    intro E hE hE2
    exact ⟨_, F1, rfl, ⟨_, rfl, HO1.out.chg hE (fun x hx => by have := HF1.out x hx; simp; omega)⟩, fun y hy => by have := HF1.out y hy; omega, HB1.out.trans hE2⟩
  refine hs _ ?_ ?_
  · repeat (first | with_reducible exact Chg.refl _ _ | refine Chg.setCell ?_ (by simp) _)
  · repeat (first | with_reducible exact Below.refl _ _ | refine Below.setCell ?_ (by (first | omega | (simp; omega) | (simp; done) | fail "sml")) _)

set_option maxRecDepth 100000 in
set_option maxHeartbeats 1000000 in
theorem eqArc_any (a : Ac) (v v' : Value) (B : Nat) (w : World) (ha : a.At B w v) (ha' : a.At B w v') (hB : B ≤ w.heap.size) :
    Calls Tryd.prog 83 #[v, v'] w fun e w' => e = .returned (.bool true) ∧ Below w.heap.size w w' := by
  obtain ⟨p, c, q, d, rfl, hl, hc⟩ := ha.form
  obtain ⟨p', c', q', d', rfl, hl', hc'⟩ := ha'.form
  have HL := Lib.hid hl
  have HC := Lib.hid hc
  have HL' := Lib.hid hl'
  have HC' := Lib.hid hc'
  clear ha hl hc ha' hl' hc'
  go_enter Tryd.func83, Tryd.ntmps83
  go_wp2_with fail
  have HV := Lib.hid (((Below.refl w.heap.size w).alloc (Nat.le_refl _) (.cells #[.int .i64 a.f, .int .i64 a.t, .bool a.fr, .bool a.x.n, .string a.x.v, .int .i64 a.x.l.op, .string a.x.l.a, .slice p a.x.l.ks.list.length c, .int .i64 a.x.c.op, .string a.x.c.a, .slice q a.x.c.ks.list.length d, .int .i64 a.x.d] 86)).alloc (by simp) (.cells #[.int .i64 a.f, .int .i64 a.t, .bool a.fr, .bool a.x.n, .string a.x.v, .int .i64 a.x.l.op, .string a.x.l.a, .slice p' a.x.l.ks.list.length c', .int .i64 a.x.c.op, .string a.x.c.a, .slice q' a.x.c.ks.list.length d', .int .i64 a.x.d] 86))
  refine (eqElem_any a.x _ _ B _ ⟨_, _, rfl, HL.out.below (HV.out.mono hB) (Nat.le_refl _), HC.out.below (HV.out.mono hB) (Nat.le_refl _)⟩ ⟨_, _, rfl, HL'.out.below (HV.out.mono hB) (Nat.le_refl _), HC'.out.below (HV.out.mono hB) (Nat.le_refl _)⟩ (by simp; omega)).mono ?_
  rintro e w1 ⟨rfl, hb1⟩
  have HB1 := Lib.hid (HV.out.trans (hb1.mono (by simp; omega)))
  clear hb1
  go_wp2_with fail
  go_ret
  exact ⟨rfl, HB1.out⟩

set_option maxRecDepth 100000 in
set_option maxHeartbeats 1000000 in
theorem eqArcS_any (xs : List Ac) (v v' : Value) (B : Nat) (w : World) (hv : kAc.Rd B w v xs) (hv' : kAc.Rd B w v' xs) (hB : B ≤ w.heap.size) :
    Calls Tryd.prog 51 #[v, v'] w fun e w' => e = .returned (.bool true) ∧ Below w.heap.size w w' := by
  obtain ⟨p, cap, rfl⟩ := hv.form
  obtain ⟨p', cap', rfl⟩ := hv'.form
  obtain ⟨_, _, hm⟩ := hv.max
  obtain ⟨_, _, hm'⟩ := hv'.max
  have hl := hv.max.2.1
  unfold maxLen at hm hm'
  have HV := Lib.hid hv
  have HV' := Lib.hid hv'
  clear hv hv'
  go_enter Tryd.func51, Tryd.ntmps51
  go_wp2_with fail
  go_loopw [5] (fun i wr => ∃ k : Nat, k ≤ xs.length ∧ i = .int .i64 k ∧ Below w.heap.size w wr) (fun i _ => xs.length - (intOf i).toNat)
  case atStart => exact ⟨0, Nat.zero_le _, rfl, Below.refl _ _⟩
  case round =>
    obtain ⟨k, hk, rfl, hbw⟩ := hrel
    have hsz := hbw.size
    have HB := Lib.hid hbw
    clear hbw
    by_cases hlt2 : k < xs.length
    · obtain ⟨b, off, q, c, q', c', rfl, hb, c0, c1, c2, c3, c4, c5, c6, c7, c8, c9, c10, c11, hin⟩ := kAc_get (HV.out.to (HB.out.mono hB) (Nat.le_refl _)) hlt2
      obtain ⟨b', off', q2, cp, q2', cp', rfl, hb', y0, y1, y2, y3, y4, y5, y6, y7, y8, y9, y10, y11, hin'⟩ := kAc_get (HV'.out.to (HB.out.mono hB) (Nat.le_refl _)) hlt2
      obtain ⟨x, ex⟩ : ∃ x, x = xs[k] := ⟨_, rfl⟩
      rw [← ex] at c0 c1 c2 c3 c4 c5 c6 c7 c8 c9 c10 c11 y0 y1 y2 y3 y4 y5 y6 y7 y8 y9 y10 y11 hin hin'
      have H1 := Lib.hid (hin.to (Below.refl B wr).drew (Nat.le_refl _))
      have H2 := Lib.hid (hin'.to (Below.refl B wr).drew (Nat.le_refl _))
      clear ex hin hin'
      go_wp2_with fail
      go_still_tail 8, (by kernel_rfl)
      go_wp2_with fail
      refine (eqArc_any x _ _ B _ H1.out H2.out (by show B ≤ wr.heap.size; omega)).mono ?_
      rintro e w' ⟨rfl, hb1⟩
      have HB1 := Lib.hid (HB.out.drew.trans (hb1.mono hsz))
      clear hb1
      go_wp2_with fail
      go_roundw
      case rel => exact ⟨k + 1, by omega, by go_num, HB1.out⟩
      case measure => simp [intOf]; omega
    · obtain rfl : k = xs.length := by omega
      go_wp2_with fail
      go_ret
      exact ⟨rfl, HB.out⟩

set_option maxHeartbeats 1000000 in
theorem eqAuto_any (a : Au) (v v' : Value) (B : Nat) (w : World) (ha : a.At B w v) (ha' : a.At B w v') (hB : B ≤ w.heap.size) :
    Calls Tryd.prog 23 #[v, v'] w fun e w' => e = .returned (.bool true) ∧ Below w.heap.size w w' := by
  obtain ⟨b, rfl, hb⟩ := ha
  obtain ⟨b', rfl, hb'⟩ := ha'
  have H1 := Lib.hid hb
  have H2 := Lib.hid hb'
  clear hb hb'
  go_enter Tryd.func23, Tryd.ntmps23
  go_wp2_with fail
  have HV := Lib.hid (((Below.refl w.heap.size w).alloc (Nat.le_refl _) (.cells #[.int .i64 a.s, b] 59)).alloc (by simp) (.cells #[.int .i64 a.s, b'] 59))
  refine (eqArcS_any a.ar b b' B _ (H1.out.to (HV.out.mono hB) (Nat.le_refl _)) (H2.out.to (HV.out.mono hB) (Nat.le_refl _)) (by simp; omega)).mono ?_
  rintro e w1 ⟨rfl, hb1⟩
  have HB1 := Lib.hid (HV.out.trans (hb1.mono (by simp; omega)))
  clear hb1
  go_wp2_with fail
  go_ret
  exact ⟨rfl, HB1.out⟩
end Go.Proofs.YtbbemeaojmfndaaDoor
