/- impl.FormatExpr. -/
import Derived.Test.YtckkebjpkcfmnaaDoorFmt
import Derived.Deep.RegionHeld3
namespace Go.Proofs.YtckkebjpkcfmnaaDoor
open Go.RowKit

set_option maxRecDepth 100000 in
set_option maxHeartbeats 1000000 in
theorem fmtPartI_of (x : Ex) (hN : ∀ (k : Value) (B : Nat) (w : World), x.ks.In B w k → B ≤ w.heap.size → Calls Tryd.prog 33 #[.agg #[.int .i64 x.op, .string x.a, k]] w fun en w' => en = .returned (.string x.txt) ∧ Below w.heap.size w w')
    (hsz : x.txt.size ≤ 50000) (L : Int) (k : Value) (B : Nat) (w : World) (hk : x.ks.In B w k) (hB : B ≤ w.heap.size) :
    Calls Tryd.prog 55 #[.agg #[.int .i64 x.op, .string x.a, k], .int .i64 L] w fun en w' => en = .returned (.string (x.part L)) ∧ Below w.heap.size w w' := by
  have HN := Lib.hid hN
  clear hN
  obtain ⟨p, cap, rfl⟩ := hk.form
  have HK := Lib.hid hk
  clear hk
  have HB0 := Lib.hid (show Below w.heap.size w (w.alloc (.cells #[.int .i64 x.op, .string x.a, .slice p x.ks.list.length cap] 25)) from (Below.refl _ _).alloc (Nat.le_refl _) _)
  obtain ⟨T, eT⟩ : ∃ T, T = x.txt := ⟨_, rfl⟩
  rw [← eT] at hsz HN
  have g1 : (9223372036854775807 < 1 + T.size) = False := eq_false (by omega)
  have g2 : (9223372036854775807 < 1 + T.size + 1) = False := eq_false (by omega)
  by_cases hlt : L < x.op
  · have hb : decide (L < x.op) = true := decide_eq_true hlt
    have HT := Lib.hid (show x.part L = s1 40 ++ T ++ s1 41 by unfold Ex.part partT; rw [if_pos hlt, eT])
    clear hlt eT
    go_enter Tryd.func55, Tryd.ntmps55
    go_wp2_with fail
    refine (HN.out _ B _ (HK.out.below (HB0.out.mono hB) (Nat.le_refl _)) (by simp; omega)).mono ?_
    rintro en w1 ⟨rfl, hb1⟩
    have HB1 := Lib.hid (below_past hb1)
    clear hb1
    go_wp2_with fail
    go_ret
    exact ⟨by rw [HT.out]; rfl, HB1.out⟩
  · have hb : decide (L < x.op) = false := decide_eq_false hlt
    have HT := Lib.hid (show x.part L = T by unfold Ex.part partT; rw [if_neg hlt, eT])
    clear hlt eT
    go_enter Tryd.func55, Tryd.ntmps55
    go_wp2_with fail
    refine (HN.out _ B _ (HK.out.below (HB0.out.mono hB) (Nat.le_refl _)) (by simp; omega)).mono ?_
    rintro en w1 ⟨rfl, hb1⟩
    have HB1 := Lib.hid (below_past hb1)
    clear hb1
    go_wp2_with fail
    go_ret
    exact ⟨by rw [HT.out]; rfl, HB1.out⟩

set_option maxRecDepth 100000 in
set_option maxHeartbeats 4000000 in
theorem fmtNodeI_any (kind : Int) (d : Nat) : ∀ (e : Ex) (k : Value) (B : Nat) (w : World), e.ks.In B w k → B ≤ w.heap.size → e.okB kind d = true → d ≤ 12 →
    Calls Tryd.prog 33 #[.agg #[.int .i64 e.op, .string e.a, k]] w fun en w' => en = .returned (.string e.txt) ∧ Below w.heap.size w w' := by
  induction d with
  | zero =>
    intro e k B w _ _ hok
    rw [Ex.okB_zero] at hok; cases hok
  | succ d ih =>
    intro e k B w hk hB hokd hd
    have IH := Lib.hid ih
    obtain ⟨_, htop, hoks⟩ := Ex.okB_parts hokd
    simp only [Nat.add_sub_cancel] at hoks
    clear ih
    obtain ⟨p, cap, rfl⟩ := hk.form
    obtain ⟨_, hm1, hm2⟩ := hk.max
    unfold maxLen at hm2
    have HK := Lib.hid hk
    clear hk
    rcases topB_cases htop with ⟨oo, hl, hat⟩ | ⟨oo, hl⟩ | ⟨oo, hl⟩ | ⟨oo, hl⟩ | ⟨oo, hl⟩
    · have HT := Lib.hid (Ex.txt_atom oo)
      rw [oo, hl]
      clear hoks htop hl hat hokd
      go_enter Tryd.func33, Tryd.ntmps33
      go_wp2_with fail
      go_ret
      exact ⟨by rw [HT.out]; rfl, (Below.refl _ _).alloc (Nat.le_refl _) _⟩
    · have HT := Lib.hid (Ex.txt_any oo)
      rw [oo, hl]
      clear hoks htop hl hokd
      go_enter Tryd.func33, Tryd.ntmps33
      go_wp2_with fail
      go_ret
      exact ⟨by rw [HT.out]; rfl, (Below.refl _ _).alloc (Nat.le_refl _) _⟩
    · have hx := Ex.txt_not oo hl
      have hsmall := Ex.txt_small hokd hd
      have HBW := Lib.hid (show Below w.heap.size w (w.alloc (.cells #[.int .i64 3, .string e.a, .slice p 1 cap] 25)) from (Below.refl _ _).alloc (Nat.le_refl _) _)
      rw [hl] at HK
      obtain ⟨b0, off0, q0, l0, cc0, eb0, hb0, d00, d01, d02, hin0⟩ := (HK.out.below (HBW.out.mono hB) (Nat.le_refl _)).get 0 (by omega)
      have hok0 := hoks 0 (by omega)
      simp only [Nat.zero_mul, Nat.add_zero] at d00 d01 d02
      obtain ⟨x0, ex0⟩ : ∃ x, x = e.ks.list[0] := ⟨_, rfl⟩
      rw [← ex0] at d00 d01 hin0 hok0 hx
      have HIN0 := Lib.hid hin0
      have HO0 := Lib.hid hok0
      clear ex0 hin0 hok0
      subst eb0
      have HN0 := Lib.hid (fun (k : Value) (B : Nat) (w : World) (hk : x0.ks.In B w k) (hB : B ≤ w.heap.size) => IH.out x0 k B w hk hB HO0.out (by omega))
      obtain ⟨R0, e0⟩ : ∃ R, R = x0.part 3 := ⟨_, rfl⟩
      have HT := Lib.hid (show s1 33 ++ R0 = e.txt by rw [e0, hx])
      have hR : 1 + R0.size ≤ 50000 := by have := HT.out; rw [← this, ByteArray.size_append, s1_size] at hsmall; exact hsmall
      have HC0 := Lib.hid (fun (k : Value) (B : Nat) (w : World) (hk : x0.ks.In B w k) (hB : B ≤ w.heap.size) => show Calls Tryd.prog 55 #[.agg #[.int .i64 x0.op, .string x0.a, k], .int .i64 3] w (fun en w' => en = .returned (.string R0) ∧ Below w.heap.size w w') from e0 ▸ fmtPartI_of x0 HN0.out (Ex.txt_small HO0.out (by omega)) 3 k B w hk hB)
      have g1 : (9223372036854775807 < 1 + R0.size) = False := eq_false (by omega)
      rw [oo, hl]
      rw [hl] at hm1
      clear hoks htop hx hl e0 hsmall hokd
      go_enter Tryd.func33, Tryd.ntmps33
      go_wp2_with fail
      refine (HC0.out _ B _ HIN0.out (by simp; omega)).mono ?_
      rintro en w1 ⟨rfl, hb1⟩
      have HB1 := Lib.hid (HBW.out.trans (hb1.mono (by simp)))
      clear hb1
      go_wp2_with fail
      go_ret
      exact ⟨by rw [← HT.out]; rfl, HB1.out⟩
    · have hx := Ex.txt_and oo hl
      have hsmall := Ex.txt_small hokd hd
      have HBW := Lib.hid (show Below w.heap.size w (w.alloc (.cells #[.int .i64 4, .string e.a, .slice p 2 cap] 25)) from (Below.refl _ _).alloc (Nat.le_refl _) _)
      rw [hl] at HK
      obtain ⟨b0, off0, q0, l0, cc0, eb0, hb0, d00, d01, d02, hin0⟩ := (HK.out.below (HBW.out.mono hB) (Nat.le_refl _)).get 0 (by omega)
      have hok0 := hoks 0 (by omega)
      simp only [Nat.zero_mul, Nat.add_zero] at d00 d01 d02
      obtain ⟨x0, ex0⟩ : ∃ x, x = e.ks.list[0] := ⟨_, rfl⟩
      rw [← ex0] at d00 d01 hin0 hok0 hx
      have HIN0 := Lib.hid hin0
      have HO0 := Lib.hid hok0
      clear ex0 hin0 hok0
      obtain ⟨b1, off1, q1, l1, cc1, eb1, hb1, d10, d11, d12, hin1⟩ := (HK.out.below (HBW.out.mono hB) (Nat.le_refl _)).get 1 (by omega)
      have hok1 := hoks 1 (by omega)
      simp only [Nat.one_mul] at d10 d11 d12
      obtain ⟨x1, ex1⟩ : ∃ x, x = e.ks.list[1] := ⟨_, rfl⟩
      rw [← ex1] at d10 d11 hin1 hok1 hx
      have HIN1 := Lib.hid hin1
      have HO1 := Lib.hid hok1
      clear ex1 hin1 hok1
      subst eb0
      cases eb1
      have HN0 := Lib.hid (fun (k : Value) (B : Nat) (w : World) (hk : x0.ks.In B w k) (hB : B ≤ w.heap.size) => IH.out x0 k B w hk hB HO0.out (by omega))
      have HN1 := Lib.hid (fun (k : Value) (B : Nat) (w : World) (hk : x1.ks.In B w k) (hB : B ≤ w.heap.size) => IH.out x1 k B w hk hB HO1.out (by omega))
      have HO50 := Lib.hid (show x0.op ≤ 5 by obtain ⟨_, h, _⟩ := Ex.okB_parts HO0.out; rcases topB_cases h with ⟨o, _⟩ | ⟨o, _⟩ | ⟨o, _⟩ | ⟨o, _⟩ | ⟨o, _⟩ <;> omega)
      have HT := Lib.hid (show x0.part 4 ++ s1 38 ++ x1.part 3 = e.txt by rw [hx])
      have hR : (x0.part 4).size + 1 + (x1.part 3).size ≤ 50000 := by have := HT.out; rw [← this, ByteArray.size_append, ByteArray.size_append, s1_size] at hsmall; exact hsmall
      have g1 : (9223372036854775807 < (x0.part 4).size + 1) = False := eq_false (by omega)
      have g2 : (9223372036854775807 < (x0.part 4).size + 1 + (x1.part 3).size) = False := eq_false (by omega)
      obtain ⟨W, eW⟩ : ∃ W, W = w.alloc (.cells #[.int .i64 4, .string e.a, .slice (some ⟨b0, off0, none⟩) 2 cap] 25) := ⟨_, rfl⟩
      rw [← eW] at d00 d01 d02 d10 d11 d12 HBW HIN0 HIN1
      have g3 : W.cell? ⟨w.heap.size, 2, none⟩ = some (.slice (some ⟨b0, off0, none⟩) 2 cap) := by rw [eW]; simp [go_sem]
      have hW : w.heap.size < W.heap.size := by rw [eW]; simp
      have EW := Lib.hid eW
      have CP := Lib.hid (fun (x : Ex) (k : Value) (L : Int) (E : World) (hx : RowKit.Hid ((x = x0 ∧ k = .slice q0 l0 cc0) ∨ (x = x1 ∧ k = .slice q1 l1 cc1))) (hE : Below W.heap.size W E) => show Calls Tryd.prog 55 #[.agg #[.int .i64 x.op, .string x.a, k], .int .i64 L] E (fun en w' => en = .returned (.string (x.part L)) ∧ Below W.heap.size W w') by
        rcases hx.out with ⟨rfl, rfl⟩ | ⟨rfl, rfl⟩
        · exact (fmtPartI_of _ HN0.out (Ex.txt_small HO0.out (by omega)) L _ B E (HIN0.out.below (hE.mono (by omega)) (Nat.le_refl _)) (by have := hE.size; omega)).mono fun en w' ⟨he, hb⟩ => ⟨he, hE.trans (hb.mono hE.size)⟩
        · exact (fmtPartI_of _ HN1.out (Ex.txt_small HO1.out (by omega)) L _ B E (HIN1.out.below (hE.mono (by omega)) (Nat.le_refl _)) (by have := hE.size; omega)).mono fun en w' ⟨he, hb⟩ => ⟨he, hE.trans (hb.mono hE.size)⟩)
      rw [oo, hl]
      rw [hl] at hm1
      clear hoks htop hx hl eW hsmall hokd
      go_enter Tryd.func33, Tryd.ntmps33
      go_wp2_with fail
      rw [← EW.out]
      go_region_held3 (fun w' => w'.cell? ⟨w.heap.size, 2, none⟩ = some (.slice (some ⟨b0, off0, none⟩) 2 cap) ∧ w'.cell? ⟨b0, off0, none⟩ = some (.int .i64 x0.op) ∧ w'.cell? ⟨b0, off0 + 1, none⟩ = some (.string x0.a) ∧ w'.cell? ⟨b0, off0 + 2, none⟩ = some (.slice q0 l0 cc0) ∧ w'.cell? ⟨b0, off0 + 3, none⟩ = some (.int .i64 x1.op) ∧ w'.cell? ⟨b0, off0 + 3 + 1, none⟩ = some (.string x1.a) ∧ w'.cell? ⟨b0, off0 + 3 + 2, none⟩ = some (.slice q1 l1 cc1))
        (exact ⟨keepc (show Below W.heap.size W _ by ((repeat (first | with_reducible assumption | with_reducible exact Below.refl _ _ | refine Below.setCell ?_ (by (first | omega | (simp; omega) | (simp; done) | fail "sml")) _ | refine Below.drew ?_ | refine Below.alloc ?_ (by (first | omega | (simp; omega) | (simp; done) | fail "sml")) _)); first | done | fail "chs")) hW g3, keepc (show Below W.heap.size W _ by ((repeat (first | with_reducible assumption | with_reducible exact Below.refl _ _ | refine Below.setCell ?_ (by (first | omega | (simp; omega) | (simp; done) | fail "sml")) _ | refine Below.drew ?_ | refine Below.alloc ?_ (by (first | omega | (simp; omega) | (simp; done) | fail "sml")) _)); first | done | fail "chs")) (by omega) d00, keepc (show Below W.heap.size W _ by ((repeat (first | with_reducible assumption | with_reducible exact Below.refl _ _ | refine Below.setCell ?_ (by (first | omega | (simp; omega) | (simp; done) | fail "sml")) _ | refine Below.drew ?_ | refine Below.alloc ?_ (by (first | omega | (simp; omega) | (simp; done) | fail "sml")) _)); first | done | fail "chs")) (by omega) d01, keepc (show Below W.heap.size W _ by ((repeat (first | with_reducible assumption | with_reducible exact Below.refl _ _ | refine Below.setCell ?_ (by (first | omega | (simp; omega) | (simp; done) | fail "sml")) _ | refine Below.drew ?_ | refine Below.alloc ?_ (by (first | omega | (simp; omega) | (simp; done) | fail "sml")) _)); first | done | fail "chs")) (by omega) d02, keepc (show Below W.heap.size W _ by ((repeat (first | with_reducible assumption | with_reducible exact Below.refl _ _ | refine Below.setCell ?_ (by (first | omega | (simp; omega) | (simp; done) | fail "sml")) _ | refine Below.drew ?_ | refine Below.alloc ?_ (by (first | omega | (simp; omega) | (simp; done) | fail "sml")) _)); first | done | fail "chs")) (by omega) d10, keepc (show Below W.heap.size W _ by ((repeat (first | with_reducible assumption | with_reducible exact Below.refl _ _ | refine Below.setCell ?_ (by (first | omega | (simp; omega) | (simp; done) | fail "sml")) _ | refine Below.drew ?_ | refine Below.alloc ?_ (by (first | omega | (simp; omega) | (simp; done) | fail "sml")) _)); first | done | fail "chs")) (by omega) d11, keepc (show Below W.heap.size W _ by ((repeat (first | with_reducible assumption | with_reducible exact Below.refl _ _ | refine Below.setCell ?_ (by (first | omega | (simp; omega) | (simp; done) | fail "sml")) _ | refine Below.drew ?_ | refine Below.alloc ?_ (by (first | omega | (simp; omega) | (simp; done) | fail "sml")) _)); first | done | fail "chs")) (by omega) d12⟩)
        (first
          | (go_at_call 55; refine (CP.out _ _ _ _ (Lib.hid (by first | exact .inl ⟨rfl, rfl⟩ | exact .inr ⟨rfl, rfl⟩)) (by ((repeat (first | with_reducible assumption | with_reducible exact Below.refl _ _ | refine Below.setCell ?_ (by (first | omega | (simp; omega) | (simp; done) | fail "sml")) _ | refine Below.drew ?_ | refine Below.alloc ?_ (by (first | omega | (simp; omega) | (simp; done) | fail "sml")) _)); first | done | fail "chs"))).mono ?_; rintro en w1 ⟨rfl, hk1⟩; have z1 := hk1.size)
)
      all_goals
        go_wp2_with fail
        go_ret
        exact ⟨by rw [← HT.out]; rfl, HBW.out.trans (Below.mono (show Below W.heap.size W _ by ((repeat (first | with_reducible assumption | with_reducible exact Below.refl _ _ | refine Below.setCell ?_ (by (first | omega | (simp; omega) | (simp; done) | fail "sml")) _ | refine Below.drew ?_ | refine Below.alloc ?_ (by (first | omega | (simp; omega) | (simp; done) | fail "sml")) _)); first | done | fail "chs")) (by omega))⟩
    · have hx := Ex.txt_or oo hl
      have hsmall := Ex.txt_small hokd hd
      have HBW := Lib.hid (show Below w.heap.size w (w.alloc (.cells #[.int .i64 5, .string e.a, .slice p 2 cap] 25)) from (Below.refl _ _).alloc (Nat.le_refl _) _)
      rw [hl] at HK
      obtain ⟨b0, off0, q0, l0, cc0, eb0, hb0, d00, d01, d02, hin0⟩ := (HK.out.below (HBW.out.mono hB) (Nat.le_refl _)).get 0 (by omega)
      have hok0 := hoks 0 (by omega)
      simp only [Nat.zero_mul, Nat.add_zero] at d00 d01 d02
      obtain ⟨x0, ex0⟩ : ∃ x, x = e.ks.list[0] := ⟨_, rfl⟩
      rw [← ex0] at d00 d01 hin0 hok0 hx
      have HIN0 := Lib.hid hin0
      have HO0 := Lib.hid hok0
      clear ex0 hin0 hok0
      obtain ⟨b1, off1, q1, l1, cc1, eb1, hb1, d10, d11, d12, hin1⟩ := (HK.out.below (HBW.out.mono hB) (Nat.le_refl _)).get 1 (by omega)
      have hok1 := hoks 1 (by omega)
      simp only [Nat.one_mul] at d10 d11 d12
      obtain ⟨x1, ex1⟩ : ∃ x, x = e.ks.list[1] := ⟨_, rfl⟩
      rw [← ex1] at d10 d11 hin1 hok1 hx
      have HIN1 := Lib.hid hin1
      have HO1 := Lib.hid hok1
      clear ex1 hin1 hok1
      subst eb0
      cases eb1
      have HN0 := Lib.hid (fun (k : Value) (B : Nat) (w : World) (hk : x0.ks.In B w k) (hB : B ≤ w.heap.size) => IH.out x0 k B w hk hB HO0.out (by omega))
      have HN1 := Lib.hid (fun (k : Value) (B : Nat) (w : World) (hk : x1.ks.In B w k) (hB : B ≤ w.heap.size) => IH.out x1 k B w hk hB HO1.out (by omega))
      have HO50 := Lib.hid (show x0.op ≤ 5 by obtain ⟨_, h, _⟩ := Ex.okB_parts HO0.out; rcases topB_cases h with ⟨o, _⟩ | ⟨o, _⟩ | ⟨o, _⟩ | ⟨o, _⟩ | ⟨o, _⟩ <;> omega)
      have HT := Lib.hid (show x0.part 5 ++ s1 124 ++ x1.part 4 = e.txt by rw [hx])
      have hR : (x0.part 5).size + 1 + (x1.part 4).size ≤ 50000 := by have := HT.out; rw [← this, ByteArray.size_append, ByteArray.size_append, s1_size] at hsmall; exact hsmall
      have g1 : (9223372036854775807 < (x0.part 5).size + 1) = False := eq_false (by omega)
      have g2 : (9223372036854775807 < (x0.part 5).size + 1 + (x1.part 4).size) = False := eq_false (by omega)
      obtain ⟨W, eW⟩ : ∃ W, W = w.alloc (.cells #[.int .i64 5, .string e.a, .slice (some ⟨b0, off0, none⟩) 2 cap] 25) := ⟨_, rfl⟩
      rw [← eW] at d00 d01 d02 d10 d11 d12 HBW HIN0 HIN1
      have g3 : W.cell? ⟨w.heap.size, 2, none⟩ = some (.slice (some ⟨b0, off0, none⟩) 2 cap) := by rw [eW]; simp [go_sem]
      have hW : w.heap.size < W.heap.size := by rw [eW]; simp
      have EW := Lib.hid eW
      have CP := Lib.hid (fun (x : Ex) (k : Value) (L : Int) (E : World) (hx : RowKit.Hid ((x = x0 ∧ k = .slice q0 l0 cc0) ∨ (x = x1 ∧ k = .slice q1 l1 cc1))) (hE : Below W.heap.size W E) => show Calls Tryd.prog 55 #[.agg #[.int .i64 x.op, .string x.a, k], .int .i64 L] E (fun en w' => en = .returned (.string (x.part L)) ∧ Below W.heap.size W w') by
        rcases hx.out with ⟨rfl, rfl⟩ | ⟨rfl, rfl⟩
        · exact (fmtPartI_of _ HN0.out (Ex.txt_small HO0.out (by omega)) L _ B E (HIN0.out.below (hE.mono (by omega)) (Nat.le_refl _)) (by have := hE.size; omega)).mono fun en w' ⟨he, hb⟩ => ⟨he, hE.trans (hb.mono hE.size)⟩
        · exact (fmtPartI_of _ HN1.out (Ex.txt_small HO1.out (by omega)) L _ B E (HIN1.out.below (hE.mono (by omega)) (Nat.le_refl _)) (by have := hE.size; omega)).mono fun en w' ⟨he, hb⟩ => ⟨he, hE.trans (hb.mono hE.size)⟩)
      rw [oo, hl]
      rw [hl] at hm1
      clear hoks htop hx hl eW hsmall hokd
      go_enter Tryd.func33, Tryd.ntmps33
      go_wp2_with fail
      rw [← EW.out]
      go_region_held3 (fun w' => w'.cell? ⟨w.heap.size, 2, none⟩ = some (.slice (some ⟨b0, off0, none⟩) 2 cap) ∧ w'.cell? ⟨b0, off0, none⟩ = some (.int .i64 x0.op) ∧ w'.cell? ⟨b0, off0 + 1, none⟩ = some (.string x0.a) ∧ w'.cell? ⟨b0, off0 + 2, none⟩ = some (.slice q0 l0 cc0) ∧ w'.cell? ⟨b0, off0 + 3, none⟩ = some (.int .i64 x1.op) ∧ w'.cell? ⟨b0, off0 + 3 + 1, none⟩ = some (.string x1.a) ∧ w'.cell? ⟨b0, off0 + 3 + 2, none⟩ = some (.slice q1 l1 cc1))
        (exact ⟨keepc (show Below W.heap.size W _ by ((repeat (first | with_reducible assumption | with_reducible exact Below.refl _ _ | refine Below.setCell ?_ (by (first | omega | (simp; omega) | (simp; done) | fail "sml")) _ | refine Below.drew ?_ | refine Below.alloc ?_ (by (first | omega | (simp; omega) | (simp; done) | fail "sml")) _)); first | done | fail "chs")) hW g3, keepc (show Below W.heap.size W _ by ((repeat (first | with_reducible assumption | with_reducible exact Below.refl _ _ | refine Below.setCell ?_ (by (first | omega | (simp; omega) | (simp; done) | fail "sml")) _ | refine Below.drew ?_ | refine Below.alloc ?_ (by (first | omega | (simp; omega) | (simp; done) | fail "sml")) _)); first | done | fail "chs")) (by omega) d00, keepc (show Below W.heap.size W _ by ((repeat (first | with_reducible assumption | with_reducible exact Below.refl _ _ | refine Below.setCell ?_ (by (first | omega | (simp; omega) | (simp; done) | fail "sml")) _ | refine Below.drew ?_ | refine Below.alloc ?_ (by (first | omega | (simp; omega) | (simp; done) | fail "sml")) _)); first | done | fail "chs")) (by omega) d01, keepc (show Below W.heap.size W _ by ((repeat (first | with_reducible assumption | with_reducible exact Below.refl _ _ | refine Below.setCell ?_ (by (first | omega | (simp; omega) | (simp; done) | fail "sml")) _ | refine Below.drew ?_ | refine Below.alloc ?_ (by (first | omega | (simp; omega) | (simp; done) | fail "sml")) _)); first | done | fail "chs")) (by omega) d02, keepc (show Below W.heap.size W _ by ((repeat (first | with_reducible assumption | with_reducible exact Below.refl _ _ | refine Below.setCell ?_ (by (first | omega | (simp; omega) | (simp; done) | fail "sml")) _ | refine Below.drew ?_ | refine Below.alloc ?_ (by (first | omega | (simp; omega) | (simp; done) | fail "sml")) _)); first | done | fail "chs")) (by omega) d10, keepc (show Below W.heap.size W _ by ((repeat (first | with_reducible assumption | with_reducible exact Below.refl _ _ | refine Below.setCell ?_ (by (first | omega | (simp; omega) | (simp; done) | fail "sml")) _ | refine Below.drew ?_ | refine Below.alloc ?_ (by (first | omega | (simp; omega) | (simp; done) | fail "sml")) _)); first | done | fail "chs")) (by omega) d11, keepc (show Below W.heap.size W _ by ((repeat (first | with_reducible assumption | with_reducible exact Below.refl _ _ | refine Below.setCell ?_ (by (first | omega | (simp; omega) | (simp; done) | fail "sml")) _ | refine Below.drew ?_ | refine Below.alloc ?_ (by (first | omega | (simp; omega) | (simp; done) | fail "sml")) _)); first | done | fail "chs")) (by omega) d12⟩)
        (first
          | (go_at_call 55; refine (CP.out _ _ _ _ (Lib.hid (by first | exact .inl ⟨rfl, rfl⟩ | exact .inr ⟨rfl, rfl⟩)) (by ((repeat (first | with_reducible assumption | with_reducible exact Below.refl _ _ | refine Below.setCell ?_ (by (first | omega | (simp; omega) | (simp; done) | fail "sml")) _ | refine Below.drew ?_ | refine Below.alloc ?_ (by (first | omega | (simp; omega) | (simp; done) | fail "sml")) _)); first | done | fail "chs"))).mono ?_; rintro en w1 ⟨rfl, hk1⟩; have z1 := hk1.size)
)
      all_goals
        go_wp2_with fail
        go_ret
        exact ⟨by rw [← HT.out]; rfl, HBW.out.trans (Below.mono (show Below W.heap.size W _ by ((repeat (first | with_reducible assumption | with_reducible exact Below.refl _ _ | refine Below.setCell ?_ (by (first | omega | (simp; omega) | (simp; done) | fail "sml")) _ | refine Below.drew ?_ | refine Below.alloc ?_ (by (first | omega | (simp; omega) | (simp; done) | fail "sml")) _)); first | done | fail "chs")) (by omega))⟩

set_option maxRecDepth 100000 in
set_option maxHeartbeats 1000000 in
theorem formatExpr_any (e : Ex) (v : Value) (kind : Int) (B : Nat) (w : World) (hv : e.At B w v) (hB : B ≤ w.heap.size) (ha : e.a.size ≤ 1048576) (hsm : e.ks.Sm) (hvars : Vars w) :
    Calls Tryd.prog 14 #[v, .int .i64 kind] w fun en w' => en = .returned (.string (fmtE kind e)) ∧ Below w.heap.size w w' := by
  have HSM := Lib.hid hsm
  have HE := Lib.hid hv
  clear hsm
  have HVV := Lib.hid hvars
  clear hvars
  obtain ⟨k, rfl, hk⟩ := hv
  obtain ⟨p, cap, rfl⟩ := hk.form
  have HK := Lib.hid hk
  clear hk
  have HB0 := Lib.hid (show Below w.heap.size w (w.alloc (.cells #[.int .i64 e.op, .string e.a, .slice p e.ks.list.length cap] 25)) from (Below.refl _ _).alloc (Nat.le_refl _) _)
  go_enter Tryd.func14, Tryd.ntmps14
  go_wp2_with fail
  refine (exprValid_any e _ kind B _ (HE.out.below (HB0.out.mono hB) (Nat.le_refl _)) (by simp; omega) ha HSM.out (HVV.out.below HB0.out)).mono ?_
  rintro en w1 ⟨rfl, hb1⟩
  have c0 := new_cell hb1 (j := 0) rfl
  have c1 := new_cell hb1 (j := 1) rfl
  have c2 := new_cell hb1 (j := 2) rfl
  have hs1 : w.heap.size < w1.heap.size := by have := hb1.size; simp at this; omega
  have HB1 := Lib.hid (below_past hb1)
  clear hb1
  cases hV : exV kind e with
  | false =>
    have HT := Lib.hid (show fmtE kind e = ⟨#[]⟩ by unfold fmtE; rw [hV]; rfl)
    go_wp2_with fail
    go_ret
    exact ⟨by rw [HT.out]; rfl, HB1.out⟩
  | true =>
    have HOK := Lib.hid (exV_ok hV)
    have HT := Lib.hid (show fmtE kind e = e.txt by unfold fmtE; rw [hV]; rfl)
    go_wp2_with fail
    refine (fmtNodeI_any kind 12 e _ B _ (HK.out.below (HB1.out.mono hB) (Nat.le_refl _)) (by omega) HOK.out (Nat.le_refl _)).mono ?_
    rintro en w2 ⟨rfl, hb2⟩
    have HB2 := Lib.hid (HB1.out.trans (hb2.mono (by omega)))
    clear hb2
    go_wp2_with fail
    go_ret
    exact ⟨by rw [HT.out]; rfl, HB2.out⟩
end Go.Proofs.YtckkebjpkcfmnaaDoor
