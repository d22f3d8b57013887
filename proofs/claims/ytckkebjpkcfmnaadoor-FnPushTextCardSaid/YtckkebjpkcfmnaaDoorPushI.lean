/- impl.pushNots. -/
import Derived.Test.YtckkebjpkcfmnaaDoorPush
import Derived.Deep.RegionHeld3
namespace Go.Proofs.YtckkebjpkcfmnaaDoor
open Go.RowKit

theorem Ex.Has.toI {e e' : Ex} {v : Value} {F : List Nat} {w : World} (h : e = e') (hh : e'.Has v F w) : e.Has v F w := h ▸ hh
def PushPI (e : Ex) (neg : Bool) (w : World) (en : Ending) (w' : World) : Prop := ∃ v' F, en = .returned v' ∧ (e.push neg).Has v' F w' ∧ (∀ x ∈ F, w.heap.size ≤ x) ∧ Below w.heap.size w w'
/-- What a call of a part leaves. -/
def ResI (x : Ex) (neg : Bool) (y : Ex) (v : Value) (F : List Nat) (W E w : World) : Prop := y = x.push neg ∧ y.ks.Own w v F ∧ (∀ z ∈ F, E.heap.size ≤ z) ∧ Below E.heap.size E w ∧ Below W.heap.size W E
theorem resI_of {x : Ex} {neg : Bool} {en : Ending} {W E w : World} (hE : Below W.heap.size W E) (h : PushPI x neg E en w) : ∃ y p n c F, en = .returned (.agg #[.int .i64 y.op, .string y.a, .slice p n c]) ∧ ResI x neg y (.slice p n c) F W E w := by
  obtain ⟨v, F, rfl, ⟨k, rfl, ho⟩, hF, hb⟩ := h
  obtain ⟨p, c, rfl⟩ := ho.in.form
  exact ⟨_, p, _, c, F, rfl, rfl, ho, hF, hb, hE⟩
theorem ResI.past {x : Ex} {neg : Bool} {y : Ex} {v : Value} {F : List Nat} {W E w : World} (h : ResI x neg y v F W E w) : Below W.heap.size W w := h.2.2.2.2.trans (h.2.2.2.1.mono h.2.2.2.2.size)
theorem twoI_fin {x0 x1 : Ex} {neg : Bool} {y0 y1 : Ex} {v0 v1 : Value} {F0 F1 : List Nat} {W w2 w3 : World} {k : Nat} {T : TypeId} (hC : Chg [k] w2 w3) (hs : w3.heap.size = w2.heap.size) (hk : k < W.heap.size)
    (h : (∃ E w1, ResI x0 neg y0 v0 F0 W E w1 ∧ ResI x1 neg y1 v1 F1 W w1 w2) ∨ (∃ E w1, ResI x1 neg y1 v1 F1 W E w1 ∧ ResI x0 neg y0 v0 F0 W w1 w2)) :
    (Fo.of [x0.push neg, x1.push neg]).Own (w3.alloc (.cells #[.int .i64 y0.op, .string y0.a, v0, .int .i64 y1.op, .string y1.a, v1] T)) (.slice (some ⟨w2.heap.size, 0, none⟩) 2 2) (w2.heap.size :: (F0 ++ F1)) ∧ ∀ z ∈ w2.heap.size :: (F0 ++ F1), W.heap.size ≤ z := by
  rcases h with ⟨E, w1, ⟨rfl, a2, a3, a4, a5⟩, rfl, b2, b3, b4, b5⟩ | ⟨E, w1, ⟨rfl, a2, a3, a4, a5⟩, rfl, b2, b3, b4, b5⟩
  · have ha := a2.lt
    have s1 := a4.size; have s2 := a5.size; have s3 := b4.size
    rw [← hs]
    refine ⟨own_two ((a2.below b4).chg hC fun z hz hz' => by have := a3 z hz; have := List.mem_singleton.1 hz'; omega) (b2.chg hC fun z hz hz' => by have := b3 z hz; have := List.mem_singleton.1 hz'; omega) fun z hz hz' => by have := ha z hz; have := b3 z hz'; omega, fun z hz => ?_⟩
    rcases List.mem_cons.1 hz with rfl | hz
    · omega
    · rcases List.mem_append.1 hz with hz | hz
      · have := a3 z hz; omega
      · have := b3 z hz; omega
  · have ha := a2.lt
    have s1 := a4.size; have s2 := a5.size; have s3 := b4.size
    rw [← hs]
    refine ⟨own_two (b2.chg hC fun z hz hz' => by have := b3 z hz; have := List.mem_singleton.1 hz'; omega) ((a2.below b4).chg hC fun z hz hz' => by have := a3 z hz; have := List.mem_singleton.1 hz'; omega) fun z hz hz' => by have := ha z hz'; have := b3 z hz; omega, fun z hz => ?_⟩
    rcases List.mem_cons.1 hz with rfl | hz
    · omega
    · rcases List.mem_append.1 hz with hz | hz
      · have := b3 z hz; omega
      · have := a3 z hz; omega
set_option maxRecDepth 100000 in
set_option maxHeartbeats 4000000 in
theorem pushI_any (kind : Int) (d : Nat) : ∀ (e : Ex) (k : Value) (neg : Bool) (B : Nat) (w : World), e.ks.In B w k → B ≤ w.heap.size → e.okB kind d = true →
    Calls Tryd.prog 51 #[.agg #[.int .i64 e.op, .string e.a, k], .bool neg] w (PushPI e neg w) := by
  induction d with
  | zero =>
    intro e k neg B w _ _ hok
    rw [Ex.okB_zero] at hok; cases hok
  | succ d ih =>
    intro e k neg B w hk hB hokd
    have IH := Lib.hid ih
    obtain ⟨_, htop, hoks⟩ := Ex.okB_parts hokd
    simp only [Nat.add_sub_cancel] at hoks
    clear ih hokd
    obtain ⟨p, cap, rfl⟩ := hk.form
    obtain ⟨_, hm1, hm2⟩ := hk.max
    unfold maxLen at hm2
    have HK := Lib.hid hk
    clear hk
    rcases topB_cases htop with ⟨oo, hl, hat⟩ | ⟨oo, hl⟩ | ⟨oo, hl⟩ | ⟨oo, hl⟩ | ⟨oo, hl⟩
    · clear hat
      cases neg with
      | false =>
        have HT := Lib.hid (show e.push false = ⟨1, e.a, .nil⟩ by rw [Ex.push_leaf false (by omega), oo]; rfl)
        rw [oo, hl]
        clear hoks htop hl
        go_enter Tryd.func51, Tryd.ntmps51
        go_wp2_with fail
        refine bodyPost_ret (v := .agg #[.int .i64 1, .string e.a, .slice none 0 0]) (by simp [results, Tryd.results51, go_sem]) rfl ⟨_, [], rfl, Ex.Has.toI HT.out ⟨_, rfl, Fo.Own.empty _⟩, by simp, ?_⟩
        repeat (first | exact Below.refl _ _ | refine Below.setCell ?_ (by first | omega | (simp; done) | (simp; omega)) _ | refine Below.alloc ?_ (by first | omega | (simp; done) | (simp; omega)) _)
      | true =>
        have HT := Lib.hid (show e.push true = ⟨3, ⟨#[]⟩, Fo.of [⟨1, e.a, .nil⟩]⟩ by rw [Ex.push_leaf true (by omega), oo]; rfl)
        rw [oo, hl]
        clear hoks htop hl
        go_enter Tryd.func51, Tryd.ntmps51
        go_wp2_with fail
        refine bodyPost_ret (v := .agg #[.int .i64 3, .string ⟨#[]⟩, .slice (some ⟨w.heap.size + 1 + 1 + 1, 0, none⟩) 1 1]) (by simp [results, Tryd.results51, go_sem]) rfl ⟨_, [w.heap.size + 1 + 1 + 1], rfl, Ex.Has.toI HT.out ⟨_, rfl, by have h := own_one (e := ⟨1, e.a, .nil⟩) (T := 25) (Fo.Own.empty (((w.alloc (.cells #[.int .i64 1, .string e.a, .slice p 0 cap] 25)).alloc (.cells #[.int .i64 3, .string ⟨#[]⟩, .slice (some ⟨w.heap.size + 1 + 1 + 1, 0, none⟩) 1 1] 25)).alloc (.cells #[.int .i64 1, .string e.a, .slice none 0 0] 25))); simpa using h⟩, by intro x hx; simp at hx; omega, ?_⟩
        repeat (first | exact Below.refl _ _ | refine Below.setCell ?_ (by first | omega | (simp; done) | (simp; omega)) _ | refine Below.alloc ?_ (by first | omega | (simp; done) | (simp; omega)) _)
    · cases neg with
      | false =>
        have HT := Lib.hid (show e.push false = ⟨2, e.a, .nil⟩ by rw [Ex.push_leaf false (by omega), oo]; rfl)
        rw [oo, hl]
        clear hoks htop hl
        go_enter Tryd.func51, Tryd.ntmps51
        go_wp2_with fail
        refine bodyPost_ret (v := .agg #[.int .i64 2, .string e.a, .slice none 0 0]) (by simp [results, Tryd.results51, go_sem]) rfl ⟨_, [], rfl, Ex.Has.toI HT.out ⟨_, rfl, Fo.Own.empty _⟩, by simp, ?_⟩
        repeat (first | exact Below.refl _ _ | refine Below.setCell ?_ (by first | omega | (simp; done) | (simp; omega)) _ | refine Below.alloc ?_ (by first | omega | (simp; done) | (simp; omega)) _)
      | true =>
        have HT := Lib.hid (show e.push true = ⟨3, ⟨#[]⟩, Fo.of [⟨2, e.a, .nil⟩]⟩ by rw [Ex.push_leaf true (by omega), oo]; rfl)
        rw [oo, hl]
        clear hoks htop hl
        go_enter Tryd.func51, Tryd.ntmps51
        go_wp2_with fail
        refine bodyPost_ret (v := .agg #[.int .i64 3, .string ⟨#[]⟩, .slice (some ⟨w.heap.size + 1 + 1 + 1, 0, none⟩) 1 1]) (by simp [results, Tryd.results51, go_sem]) rfl ⟨_, [w.heap.size + 1 + 1 + 1], rfl, Ex.Has.toI HT.out ⟨_, rfl, by have h := own_one (e := ⟨2, e.a, .nil⟩) (T := 25) (Fo.Own.empty (((w.alloc (.cells #[.int .i64 2, .string e.a, .slice p 0 cap] 25)).alloc (.cells #[.int .i64 3, .string ⟨#[]⟩, .slice (some ⟨w.heap.size + 1 + 1 + 1, 0, none⟩) 1 1] 25)).alloc (.cells #[.int .i64 2, .string e.a, .slice none 0 0] 25))); simpa using h⟩, by intro x hx; simp at hx; omega, ?_⟩
        repeat (first | exact Below.refl _ _ | refine Below.setCell ?_ (by first | omega | (simp; done) | (simp; omega)) _ | refine Below.alloc ?_ (by first | omega | (simp; done) | (simp; omega)) _)
    · have hx := Ex.push_not neg oo hl
      have HBW := Lib.hid (show Below w.heap.size w ((w.alloc (.cells #[.int .i64 3, .string e.a, .slice p 1 cap] 25)).alloc (.cells #[.int .i64 0, .string ⟨#[]⟩, .slice none 0 0] 25)) from ((Below.refl _ _).alloc (Nat.le_refl _) _).alloc (by simp) _)
      rw [hl] at HK
      obtain ⟨b0, off0, q0, l0, cc0, eb0, hb0, d00, d01, d02, hin0⟩ := (HK.out.below (HBW.out.mono hB) (Nat.le_refl _)).get 0 (by omega)
      have hok0 := hoks 0 (by omega)
      simp only [Nat.zero_mul, Nat.add_zero] at d00 d01 d02
      obtain ⟨x0, ex0⟩ : ∃ x, x = e.ks.list[0] := ⟨_, rfl⟩
      rw [← ex0] at d00 d01 hin0 hok0 hx
      have HIN0 := Lib.hid hin0
      have HO0 := Lib.hid hok0
      clear ex0 hin0 hok0
      subst eb0
      have HT := Lib.hid hx
      rw [oo, hl]
      rw [hl] at hm1
      clear hoks htop hx hl
      go_enter Tryd.func51, Tryd.ntmps51
      go_wp2_with fail
      refine (IH.out x0 _ (!neg) B _ HIN0.out (by simp; omega) HO0.out).mono ?_
      rintro en w1 ⟨v1, F, rfl, hh, hF, hb1⟩
      have hs1 : w.heap.size + 2 ≤ w1.heap.size := by have := hb1.size; simp at this; omega
      have q0 : w1.cell? ⟨w.heap.size + 1, 0, none⟩ = some (.int .i64 0) := keepc hb1 (by simp) (by simp [go_sem])
      have q1 : w1.cell? ⟨w.heap.size + 1, 1, none⟩ = some (.string ⟨#[]⟩) := keepc hb1 (by simp) (by simp [go_sem])
      have q2 : w1.cell? ⟨w.heap.size + 1, 2, none⟩ = some (.slice none 0 0) := keepc hb1 (by simp) (by simp [go_sem])
      have f0 : w1.frozen? ⟨w.heap.size + 1, 0, none⟩ = false := (hb1.frozen (p := ⟨w.heap.size + 1, 0, none⟩) (by simp)).trans (by simp [go_sem])
      have f1 : w1.frozen? ⟨w.heap.size + 1, 1, none⟩ = false := (hb1.frozen (p := ⟨w.heap.size + 1, 1, none⟩) (by simp)).trans (by simp [go_sem])
      have f2 : w1.frozen? ⟨w.heap.size + 1, 2, none⟩ = false := (hb1.frozen (p := ⟨w.heap.size + 1, 2, none⟩) (by simp)).trans (by simp [go_sem])
      have HB1 := Lib.hid (HBW.out.trans (hb1.mono (by simp; omega)))
      have HF := Lib.hid (show ∀ x ∈ F, w.heap.size + 2 ≤ x from fun x hx => by have := hF x hx; simp at this; omega)
      obtain ⟨k1, rfl, hown⟩ := hh
      obtain ⟨p1, c1, rfl⟩ := hown.in.form
      obtain ⟨y, ey⟩ : ∃ y, y = x0.push (!neg) := ⟨_, rfl⟩
      rw [← ey] at hown HT ⊢
      have HOW := Lib.hid hown
      clear hown hF hb1 ey
      go_wp2_with fail
      refine bodyPost_ret (v := .agg #[.int .i64 y.op, .string y.a, .slice p1 y.ks.list.length c1]) (by simp [results, Tryd.results51, go_sem, q0, q1, q2]) rfl ⟨_, F, rfl, by rw [HT.out]; exact ⟨_, rfl, HOW.out.chg (G := [w.heap.size + 1]) ((((Chg.refl _ _).setCell (by simp) _).setCell (by simp) _).setCell (by simp) _) (fun x hx => by have := HF.out x hx; simp; omega)⟩, fun x hx => by have := HF.out x hx; omega, ?_⟩
      exact ((HB1.out.setCell (by simp) _).setCell (by simp) _).setCell (by simp) _
    · cases neg with
      | false =>
      have hx := Ex.push_two false (by omega) hl
      have HBW := Lib.hid (show Below w.heap.size w ((w.alloc (.cells #[.int .i64 4, .string e.a, .slice p 2 cap] 25)).alloc (.cells #[.int .i64 0, .string ⟨#[]⟩, .slice none 0 0] 25)) from ((Below.refl _ _).alloc (Nat.le_refl _) _).alloc (by simp) _)
      rw [hl] at HK
      obtain ⟨b0, off0, q0, l0, cc0, eb0, hb0, d00, d01, d02, hin0⟩ := (HK.out.below (HBW.out.mono hB) (Nat.le_refl _)).get 0 (by omega)
      have hok0 := hoks 0 (by omega)
      simp only [Nat.zero_mul, Nat.add_zero] at d00 d01 d02
      obtain ⟨x0, ex0⟩ : ∃ x, x = e.ks.list[0] := ⟨_, rfl⟩
      rw [← ex0] at d00 d01 hin0 hok0 hx
      have HIN0 := Lib.hid hin0
      have HO0 := Lib.hid hok0
      clear ex0 hin0 hok0
      obtain ⟨b1, off1, q1, l1, cc1, eb1, hb1, d10, d11, d12, hin1⟩ := (HK.out.below (HBW.out.mono hB) (Nat.le_refl _)).get 1 (by omega)
      have hok1 := hoks 1 (by omega)
      simp only [Nat.one_mul] at d10 d11 d12
      obtain ⟨x1, ex1⟩ : ∃ x, x = e.ks.list[1] := ⟨_, rfl⟩
      rw [← ex1] at d10 d11 hin1 hok1 hx
      have HIN1 := Lib.hid hin1
      have HO1 := Lib.hid hok1
      clear ex1 hin1 hok1
      subst eb0
      cases eb1
      have HT := Lib.hid (show e.push false = ⟨4, ⟨#[]⟩, Fo.of [x0.push false, x1.push false]⟩ by rw [hx, oo]; rfl)
      obtain ⟨W, eW⟩ : ∃ W, W = ((w.alloc (.cells #[.int .i64 4, .string e.a, .slice (some ⟨b0, off0, none⟩) 2 cap] 25)).alloc (.cells #[.int .i64 0, .string ⟨#[]⟩, .slice none 0 0] 25)) := ⟨_, rfl⟩
      rw [← eW] at d00 d01 d02 d10 d11 d12 HBW HIN0 HIN1
      have g3 : W.cell? ⟨w.heap.size, 2, none⟩ = some (.slice (some ⟨b0, off0, none⟩) 2 cap) := by rw [eW]; simp [go_sem]
      have U0 : W.cell? ⟨w.heap.size + 1, 0, none⟩ = some (.int .i64 0) := by rw [eW]; simp [go_sem]
      have U1 : W.cell? ⟨w.heap.size + 1, 1, none⟩ = some (.string ⟨#[]⟩) := by rw [eW]; simp [go_sem]
      have U2 : W.cell? ⟨w.heap.size + 1, 2, none⟩ = some (.slice none 0 0) := by rw [eW]; simp [go_sem]
      have G0 : W.frozen? ⟨w.heap.size + 1, 0, none⟩ = false := by rw [eW]; simp [go_sem]
      have G1 : W.frozen? ⟨w.heap.size + 1, 1, none⟩ = false := by rw [eW]; simp [go_sem]
      have G2 : W.frozen? ⟨w.heap.size + 1, 2, none⟩ = false := by rw [eW]; simp [go_sem]
      have hW : w.heap.size + 1 < W.heap.size := by rw [eW]; simp
      have EW := Lib.hid eW
      have SC := Lib.hid (fun (w1 : World) (hk1 : Below W.heap.size W w1) => show Below (w.heap.size + 1) W w1 ∧ w.heap.size + 1 < w1.heap.size ∧ w.heap.size < w1.heap.size ∧ w1.cell? ⟨w.heap.size + 1, 0, none⟩ = some (.int .i64 0) ∧ w1.cell? ⟨w.heap.size + 1, 1, none⟩ = some (.string ⟨#[]⟩) ∧ w1.cell? ⟨w.heap.size + 1, 2, none⟩ = some (.slice none 0 0) ∧ w1.frozen? ⟨w.heap.size + 1, 0, none⟩ = false ∧ w1.frozen? ⟨w.heap.size + 1, 1, none⟩ = false ∧ w1.frozen? ⟨w.heap.size + 1, 2, none⟩ = false from
        ⟨hk1.mono (by omega), by have := hk1.size; omega, by have := hk1.size; omega, keepc hk1 hW U0, keepc hk1 hW U1, keepc hk1 hW U2, (hk1.frozen (p := ⟨w.heap.size + 1, 0, none⟩) hW).trans G0, (hk1.frozen (p := ⟨w.heap.size + 1, 1, none⟩) hW).trans G1, (hk1.frozen (p := ⟨w.heap.size + 1, 2, none⟩) hW).trans G2⟩)
      have CP := Lib.hid (fun (x : Ex) (k : Value) (E : World) (hx : RowKit.Hid ((x = x0 ∧ k = .slice q0 l0 cc0) ∨ (x = x1 ∧ k = .slice q1 l1 cc1))) (hE : Below W.heap.size W E) => show Calls Tryd.prog 51 #[.agg #[.int .i64 x.op, .string x.a, k], .bool false] E (fun en w' => ∃ y p n c F, en = .returned (.agg #[.int .i64 y.op, .string y.a, .slice p n c]) ∧ ResI x false y (.slice p n c) F W E w') by
        rcases hx.out with ⟨rfl, rfl⟩ | ⟨rfl, rfl⟩
        · exact (IH.out _ _ false B E (HIN0.out.below (hE.mono (by omega)) (Nat.le_refl _)) (by have := hE.size; omega) HO0.out).mono fun en w' h => resI_of hE h
        · exact (IH.out _ _ false B E (HIN1.out.below (hE.mono (by omega)) (Nat.le_refl _)) (by have := hE.size; omega) HO1.out).mono fun en w' h => resI_of hE h)
      rw [oo, hl]
      rw [hl] at hm1
      clear hoks htop hx hl eW
      go_enter Tryd.func51, Tryd.ntmps51
      go_wp2_with fail
      rw [← EW.out]
      go_region_held3 (fun w' => w'.cell? ⟨w.heap.size, 2, none⟩ = some (.slice (some ⟨b0, off0, none⟩) 2 cap) ∧ w'.cell? ⟨b0, off0, none⟩ = some (.int .i64 x0.op) ∧ w'.cell? ⟨b0, off0 + 1, none⟩ = some (.string x0.a) ∧ w'.cell? ⟨b0, off0 + 2, none⟩ = some (.slice q0 l0 cc0) ∧ w'.cell? ⟨b0, off0 + 3, none⟩ = some (.int .i64 x1.op) ∧ w'.cell? ⟨b0, off0 + 3 + 1, none⟩ = some (.string x1.a) ∧ w'.cell? ⟨b0, off0 + 3 + 2, none⟩ = some (.slice q1 l1 cc1))
        (exact ⟨keepc (show Below (w.heap.size + 1) W _ by ((repeat (first | with_reducible assumption | with_reducible exact Below.refl _ _ | refine Below.setCell ?_ (by (first | omega | (simp; omega) | (simp; done) | fail "sml")) _ | refine Below.drew ?_ | refine Below.alloc ?_ (by (first | omega | (simp; omega) | (simp; done) | fail "sml")) _)); first | done | fail "chs")) (by omega) g3, keepc (show Below (w.heap.size + 1) W _ by ((repeat (first | with_reducible assumption | with_reducible exact Below.refl _ _ | refine Below.setCell ?_ (by (first | omega | (simp; omega) | (simp; done) | fail "sml")) _ | refine Below.drew ?_ | refine Below.alloc ?_ (by (first | omega | (simp; omega) | (simp; done) | fail "sml")) _)); first | done | fail "chs")) (by omega) d00, keepc (show Below (w.heap.size + 1) W _ by ((repeat (first | with_reducible assumption | with_reducible exact Below.refl _ _ | refine Below.setCell ?_ (by (first | omega | (simp; omega) | (simp; done) | fail "sml")) _ | refine Below.drew ?_ | refine Below.alloc ?_ (by (first | omega | (simp; omega) | (simp; done) | fail "sml")) _)); first | done | fail "chs")) (by omega) d01, keepc (show Below (w.heap.size + 1) W _ by ((repeat (first | with_reducible assumption | with_reducible exact Below.refl _ _ | refine Below.setCell ?_ (by (first | omega | (simp; omega) | (simp; done) | fail "sml")) _ | refine Below.drew ?_ | refine Below.alloc ?_ (by (first | omega | (simp; omega) | (simp; done) | fail "sml")) _)); first | done | fail "chs")) (by omega) d02, keepc (show Below (w.heap.size + 1) W _ by ((repeat (first | with_reducible assumption | with_reducible exact Below.refl _ _ | refine Below.setCell ?_ (by (first | omega | (simp; omega) | (simp; done) | fail "sml")) _ | refine Below.drew ?_ | refine Below.alloc ?_ (by (first | omega | (simp; omega) | (simp; done) | fail "sml")) _)); first | done | fail "chs")) (by omega) d10, keepc (show Below (w.heap.size + 1) W _ by ((repeat (first | with_reducible assumption | with_reducible exact Below.refl _ _ | refine Below.setCell ?_ (by (first | omega | (simp; omega) | (simp; done) | fail "sml")) _ | refine Below.drew ?_ | refine Below.alloc ?_ (by (first | omega | (simp; omega) | (simp; done) | fail "sml")) _)); first | done | fail "chs")) (by omega) d11, keepc (show Below (w.heap.size + 1) W _ by ((repeat (first | with_reducible assumption | with_reducible exact Below.refl _ _ | refine Below.setCell ?_ (by (first | omega | (simp; omega) | (simp; done) | fail "sml")) _ | refine Below.drew ?_ | refine Below.alloc ?_ (by (first | omega | (simp; omega) | (simp; done) | fail "sml")) _)); first | done | fail "chs")) (by omega) d12⟩)
        (first
          | (go_at_call 51; refine (CP.out _ _ _ (Lib.hid (by first | exact .inl ⟨rfl, rfl⟩ | exact .inr ⟨rfl, rfl⟩)) (by ((repeat (first | with_reducible assumption | with_reducible exact Below.refl _ _ | refine Below.setCell ?_ (by (first | omega | (simp; omega) | (simp; done) | fail "sml")) _ | refine Below.drew ?_ | refine Below.alloc ?_ (by (first | omega | (simp; omega) | (simp; done) | fail "sml")) _)); first | done | fail "chs"))).mono ?_; rintro en w1 ⟨y1, p1, n1, c1, F1, rfl, hr1⟩; have hk1 := hr1.past; have z1 := hk1.size; obtain ⟨m1, z2, z3, u0, u1, u2, f0, f1, f2⟩ := SC.out w1 hk1))
      all_goals
        go_wp2_with fail
        have hf := twoI_fin (x0 := x0) (x1 := x1) (neg := false) (W := W) (w2 := w1) (w3 := ((w1.setCell ⟨w.heap.size + 1, 0, none⟩ (.int .i64 4)).setCell ⟨w.heap.size + 1, 1, none⟩ (.string ⟨#[]⟩)).setCell ⟨w.heap.size + 1, 2, none⟩ (.slice (some ⟨w1.heap.size, 0, none⟩) 2 2)) (k := w.heap.size + 1) (T := 25) ((((Chg.refl _ _).setCell (by simp) _).setCell (by simp) _).setCell (by simp) _) (by simp) hW (by first | exact .inl ⟨_, _, by assumption, by assumption⟩ | exact .inr ⟨_, _, by assumption, by assumption⟩)
        refine bodyPost_ret (v := .agg #[.int .i64 4, .string ⟨#[]⟩, .slice (some ⟨w1.heap.size, 0, none⟩) 2 2]) (by simp [results, Tryd.results51, go_sem, u0, u1, u2, z2]) rfl ⟨_, _, rfl, Ex.Has.toI HT.out ⟨_, rfl, hf.1⟩, by intro x hx; have := hf.2 x hx; omega, ?_⟩
        exact HBW.out.trans (Below.mono (show Below (w.heap.size + 1) W _ by ((repeat (first | with_reducible assumption | with_reducible exact Below.refl _ _ | refine Below.setCell ?_ (by (first | omega | (simp; omega) | (simp; done) | fail "sml")) _ | refine Below.drew ?_ | refine Below.alloc ?_ (by (first | omega | (simp; omega) | (simp; done) | fail "sml")) _)); first | done | fail "chs")) (by omega))
      | true =>
      have hx := Ex.push_two true (by omega) hl
      have HBW := Lib.hid (show Below w.heap.size w ((w.alloc (.cells #[.int .i64 4, .string e.a, .slice p 2 cap] 25)).alloc (.cells #[.int .i64 0, .string ⟨#[]⟩, .slice none 0 0] 25)) from ((Below.refl _ _).alloc (Nat.le_refl _) _).alloc (by simp) _)
      rw [hl] at HK
      obtain ⟨b0, off0, q0, l0, cc0, eb0, hb0, d00, d01, d02, hin0⟩ := (HK.out.below (HBW.out.mono hB) (Nat.le_refl _)).get 0 (by omega)
      have hok0 := hoks 0 (by omega)
      simp only [Nat.zero_mul, Nat.add_zero] at d00 d01 d02
      obtain ⟨x0, ex0⟩ : ∃ x, x = e.ks.list[0] := ⟨_, rfl⟩
      rw [← ex0] at d00 d01 hin0 hok0 hx
      have HIN0 := Lib.hid hin0
      have HO0 := Lib.hid hok0
      clear ex0 hin0 hok0
      obtain ⟨b1, off1, q1, l1, cc1, eb1, hb1, d10, d11, d12, hin1⟩ := (HK.out.below (HBW.out.mono hB) (Nat.le_refl _)).get 1 (by omega)
      have hok1 := hoks 1 (by omega)
      simp only [Nat.one_mul] at d10 d11 d12
      obtain ⟨x1, ex1⟩ : ∃ x, x = e.ks.list[1] := ⟨_, rfl⟩
      rw [← ex1] at d10 d11 hin1 hok1 hx
      have HIN1 := Lib.hid hin1
      have HO1 := Lib.hid hok1
      clear ex1 hin1 hok1
      subst eb0
      cases eb1
      have HT := Lib.hid (show e.push true = ⟨5, ⟨#[]⟩, Fo.of [x0.push true, x1.push true]⟩ by rw [hx, oo]; rfl)
      obtain ⟨W, eW⟩ : ∃ W, W = ((w.alloc (.cells #[.int .i64 4, .string e.a, .slice (some ⟨b0, off0, none⟩) 2 cap] 25)).alloc (.cells #[.int .i64 0, .string ⟨#[]⟩, .slice none 0 0] 25)) := ⟨_, rfl⟩
      rw [← eW] at d00 d01 d02 d10 d11 d12 HBW HIN0 HIN1
      have g3 : W.cell? ⟨w.heap.size, 2, none⟩ = some (.slice (some ⟨b0, off0, none⟩) 2 cap) := by rw [eW]; simp [go_sem]
      have U0 : W.cell? ⟨w.heap.size + 1, 0, none⟩ = some (.int .i64 0) := by rw [eW]; simp [go_sem]
      have U1 : W.cell? ⟨w.heap.size + 1, 1, none⟩ = some (.string ⟨#[]⟩) := by rw [eW]; simp [go_sem]
      have U2 : W.cell? ⟨w.heap.size + 1, 2, none⟩ = some (.slice none 0 0) := by rw [eW]; simp [go_sem]
      have G0 : W.frozen? ⟨w.heap.size + 1, 0, none⟩ = false := by rw [eW]; simp [go_sem]
      have G1 : W.frozen? ⟨w.heap.size + 1, 1, none⟩ = false := by rw [eW]; simp [go_sem]
      have G2 : W.frozen? ⟨w.heap.size + 1, 2, none⟩ = false := by rw [eW]; simp [go_sem]
      have hW : w.heap.size + 1 < W.heap.size := by rw [eW]; simp
      have EW := Lib.hid eW
      have SC := Lib.hid (fun (w1 : World) (hk1 : Below W.heap.size W w1) => show Below (w.heap.size + 1) W w1 ∧ w.heap.size + 1 < w1.heap.size ∧ w.heap.size < w1.heap.size ∧ w1.cell? ⟨w.heap.size + 1, 0, none⟩ = some (.int .i64 0) ∧ w1.cell? ⟨w.heap.size + 1, 1, none⟩ = some (.string ⟨#[]⟩) ∧ w1.cell? ⟨w.heap.size + 1, 2, none⟩ = some (.slice none 0 0) ∧ w1.frozen? ⟨w.heap.size + 1, 0, none⟩ = false ∧ w1.frozen? ⟨w.heap.size + 1, 1, none⟩ = false ∧ w1.frozen? ⟨w.heap.size + 1, 2, none⟩ = false from
        ⟨hk1.mono (by omega), by have := hk1.size; omega, by have := hk1.size; omega, keepc hk1 hW U0, keepc hk1 hW U1, keepc hk1 hW U2, (hk1.frozen (p := ⟨w.heap.size + 1, 0, none⟩) hW).trans G0, (hk1.frozen (p := ⟨w.heap.size + 1, 1, none⟩) hW).trans G1, (hk1.frozen (p := ⟨w.heap.size + 1, 2, none⟩) hW).trans G2⟩)
      have CP := Lib.hid (fun (x : Ex) (k : Value) (E : World) (hx : RowKit.Hid ((x = x0 ∧ k = .slice q0 l0 cc0) ∨ (x = x1 ∧ k = .slice q1 l1 cc1))) (hE : Below W.heap.size W E) => show Calls Tryd.prog 51 #[.agg #[.int .i64 x.op, .string x.a, k], .bool true] E (fun en w' => ∃ y p n c F, en = .returned (.agg #[.int .i64 y.op, .string y.a, .slice p n c]) ∧ ResI x true y (.slice p n c) F W E w') by
        rcases hx.out with ⟨rfl, rfl⟩ | ⟨rfl, rfl⟩
        · exact (IH.out _ _ true B E (HIN0.out.below (hE.mono (by omega)) (Nat.le_refl _)) (by have := hE.size; omega) HO0.out).mono fun en w' h => resI_of hE h
        · exact (IH.out _ _ true B E (HIN1.out.below (hE.mono (by omega)) (Nat.le_refl _)) (by have := hE.size; omega) HO1.out).mono fun en w' h => resI_of hE h)
      rw [oo, hl]
      rw [hl] at hm1
      clear hoks htop hx hl eW
      go_enter Tryd.func51, Tryd.ntmps51
      go_wp2_with fail
      rw [← EW.out]
      go_region_held3 (fun w' => w'.cell? ⟨w.heap.size, 2, none⟩ = some (.slice (some ⟨b0, off0, none⟩) 2 cap) ∧ w'.cell? ⟨b0, off0, none⟩ = some (.int .i64 x0.op) ∧ w'.cell? ⟨b0, off0 + 1, none⟩ = some (.string x0.a) ∧ w'.cell? ⟨b0, off0 + 2, none⟩ = some (.slice q0 l0 cc0) ∧ w'.cell? ⟨b0, off0 + 3, none⟩ = some (.int .i64 x1.op) ∧ w'.cell? ⟨b0, off0 + 3 + 1, none⟩ = some (.string x1.a) ∧ w'.cell? ⟨b0, off0 + 3 + 2, none⟩ = some (.slice q1 l1 cc1))
        (exact ⟨keepc (show Below (w.heap.size + 1) W _ by ((repeat (first | with_reducible assumption | with_reducible exact Below.refl _ _ | refine Below.setCell ?_ (by (first | omega | (simp; omega) | (simp; done) | fail "sml")) _ | refine Below.drew ?_ | refine Below.alloc ?_ (by (first | omega | (simp; omega) | (simp; done) | fail "sml")) _)); first | done | fail "chs")) (by omega) g3, keepc (show Below (w.heap.size + 1) W _ by ((repeat (first | with_reducible assumption | with_reducible exact Below.refl _ _ | refine Below.setCell ?_ (by (first | omega | (simp; omega) | (simp; done) | fail "sml")) _ | refine Below.drew ?_ | refine Below.alloc ?_ (by (first | omega | (simp; omega) | (simp; done) | fail "sml")) _)); first | done | fail "chs")) (by omega) d00, keepc (show Below (w.heap.size + 1) W _ by ((repeat (first | with_reducible assumption | with_reducible exact Below.refl _ _ | refine Below.setCell ?_ (by (first | omega | (simp; omega) | (simp; done) | fail "sml")) _ | refine Below.drew ?_ | refine Below.alloc ?_ (by (first | omega | (simp; omega) | (simp; done) | fail "sml")) _)); first | done | fail "chs")) (by omega) d01, keepc (show Below (w.heap.size + 1) W _ by ((repeat (first | with_reducible assumption | with_reducible exact Below.refl _ _ | refine Below.setCell ?_ (by (first | omega | (simp; omega) | (simp; done) | fail "sml")) _ | refine Below.drew ?_ | refine Below.alloc ?_ (by (first | omega | (simp; omega) | (simp; done) | fail "sml")) _)); first | done | fail "chs")) (by omega) d02, keepc (show Below (w.heap.size + 1) W _ by ((repeat (first | with_reducible assumption | with_reducible exact Below.refl _ _ | refine Below.setCell ?_ (by (first | omega | (simp; omega) | (simp; done) | fail "sml")) _ | refine Below.drew ?_ | refine Below.alloc ?_ (by (first | omega | (simp; omega) | (simp; done) | fail "sml")) _)); first | done | fail "chs")) (by omega) d10, keepc (show Below (w.heap.size + 1) W _ by ((repeat (first | with_reducible assumption | with_reducible exact Below.refl _ _ | refine Below.setCell ?_ (by (first | omega | (simp; omega) | (simp; done) | fail "sml")) _ | refine Below.drew ?_ | refine Below.alloc ?_ (by (first | omega | (simp; omega) | (simp; done) | fail "sml")) _)); first | done | fail "chs")) (by omega) d11, keepc (show Below (w.heap.size + 1) W _ by ((repeat (first | with_reducible assumption | with_reducible exact Below.refl _ _ | refine Below.setCell ?_ (by (first | omega | (simp; omega) | (simp; done) | fail "sml")) _ | refine Below.drew ?_ | refine Below.alloc ?_ (by (first | omega | (simp; omega) | (simp; done) | fail "sml")) _)); first | done | fail "chs")) (by omega) d12⟩)
        (first
          | (go_at_call 51; refine (CP.out _ _ _ (Lib.hid (by first | exact .inl ⟨rfl, rfl⟩ | exact .inr ⟨rfl, rfl⟩)) (by ((repeat (first | with_reducible assumption | with_reducible exact Below.refl _ _ | refine Below.setCell ?_ (by (first | omega | (simp; omega) | (simp; done) | fail "sml")) _ | refine Below.drew ?_ | refine Below.alloc ?_ (by (first | omega | (simp; omega) | (simp; done) | fail "sml")) _)); first | done | fail "chs"))).mono ?_; rintro en w1 ⟨y1, p1, n1, c1, F1, rfl, hr1⟩; have hk1 := hr1.past; have z1 := hk1.size; obtain ⟨m1, z2, z3, u0, u1, u2, f0, f1, f2⟩ := SC.out w1 hk1))
      all_goals
        go_wp2_with fail
        have hf := twoI_fin (x0 := x0) (x1 := x1) (neg := true) (W := W) (w2 := w1) (w3 := ((w1.setCell ⟨w.heap.size + 1, 0, none⟩ (.int .i64 5)).setCell ⟨w.heap.size + 1, 1, none⟩ (.string ⟨#[]⟩)).setCell ⟨w.heap.size + 1, 2, none⟩ (.slice (some ⟨w1.heap.size, 0, none⟩) 2 2)) (k := w.heap.size + 1) (T := 25) ((((Chg.refl _ _).setCell (by simp) _).setCell (by simp) _).setCell (by simp) _) (by simp) hW (by first | exact .inl ⟨_, _, by assumption, by assumption⟩ | exact .inr ⟨_, _, by assumption, by assumption⟩)
        refine bodyPost_ret (v := .agg #[.int .i64 5, .string ⟨#[]⟩, .slice (some ⟨w1.heap.size, 0, none⟩) 2 2]) (by simp [results, Tryd.results51, go_sem, u0, u1, u2, z2]) rfl ⟨_, _, rfl, Ex.Has.toI HT.out ⟨_, rfl, hf.1⟩, by intro x hx; have := hf.2 x hx; omega, ?_⟩
        exact HBW.out.trans (Below.mono (show Below (w.heap.size + 1) W _ by ((repeat (first | with_reducible assumption | with_reducible exact Below.refl _ _ | refine Below.setCell ?_ (by (first | omega | (simp; omega) | (simp; done) | fail "sml")) _ | refine Below.drew ?_ | refine Below.alloc ?_ (by (first | omega | (simp; omega) | (simp; done) | fail "sml")) _)); first | done | fail "chs")) (by omega))
    · cases neg with
      | false =>
      have hx := Ex.push_two false (by omega) hl
      have HBW := Lib.hid (show Below w.heap.size w ((w.alloc (.cells #[.int .i64 5, .string e.a, .slice p 2 cap] 25)).alloc (.cells #[.int .i64 0, .string ⟨#[]⟩, .slice none 0 0] 25)) from ((Below.refl _ _).alloc (Nat.le_refl _) _).alloc (by simp) _)
      rw [hl] at HK
      obtain ⟨b0, off0, q0, l0, cc0, eb0, hb0, d00, d01, d02, hin0⟩ := (HK.out.below (HBW.out.mono hB) (Nat.le_refl _)).get 0 (by omega)
      have hok0 := hoks 0 (by omega)
      simp only [Nat.zero_mul, Nat.add_zero] at d00 d01 d02
      obtain ⟨x0, ex0⟩ : ∃ x, x = e.ks.list[0] := ⟨_, rfl⟩
      rw [← ex0] at d00 d01 hin0 hok0 hx
      have HIN0 := Lib.hid hin0
      have HO0 := Lib.hid hok0
      clear ex0 hin0 hok0
      obtain ⟨b1, off1, q1, l1, cc1, eb1, hb1, d10, d11, d12, hin1⟩ := (HK.out.below (HBW.out.mono hB) (Nat.le_refl _)).get 1 (by omega)
      have hok1 := hoks 1 (by omega)
      simp only [Nat.one_mul] at d10 d11 d12
      obtain ⟨x1, ex1⟩ : ∃ x, x = e.ks.list[1] := ⟨_, rfl⟩
      rw [← ex1] at d10 d11 hin1 hok1 hx
      have HIN1 := Lib.hid hin1
      have HO1 := Lib.hid hok1
      clear ex1 hin1 hok1
      subst eb0
      cases eb1
      have HT := Lib.hid (show e.push false = ⟨5, ⟨#[]⟩, Fo.of [x0.push false, x1.push false]⟩ by rw [hx, oo]; rfl)
      obtain ⟨W, eW⟩ : ∃ W, W = ((w.alloc (.cells #[.int .i64 5, .string e.a, .slice (some ⟨b0, off0, none⟩) 2 cap] 25)).alloc (.cells #[.int .i64 0, .string ⟨#[]⟩, .slice none 0 0] 25)) := ⟨_, rfl⟩
      rw [← eW] at d00 d01 d02 d10 d11 d12 HBW HIN0 HIN1
      have g3 : W.cell? ⟨w.heap.size, 2, none⟩ = some (.slice (some ⟨b0, off0, none⟩) 2 cap) := by rw [eW]; simp [go_sem]
      have U0 : W.cell? ⟨w.heap.size + 1, 0, none⟩ = some (.int .i64 0) := by rw [eW]; simp [go_sem]
      have U1 : W.cell? ⟨w.heap.size + 1, 1, none⟩ = some (.string ⟨#[]⟩) := by rw [eW]; simp [go_sem]
      have U2 : W.cell? ⟨w.heap.size + 1, 2, none⟩ = some (.slice none 0 0) := by rw [eW]; simp [go_sem]
      have G0 : W.frozen? ⟨w.heap.size + 1, 0, none⟩ = false := by rw [eW]; simp [go_sem]
      have G1 : W.frozen? ⟨w.heap.size + 1, 1, none⟩ = false := by rw [eW]; simp [go_sem]
      have G2 : W.frozen? ⟨w.heap.size + 1, 2, none⟩ = false := by rw [eW]; simp [go_sem]
      have hW : w.heap.size + 1 < W.heap.size := by rw [eW]; simp
      have EW := Lib.hid eW
      have SC := Lib.hid (fun (w1 : World) (hk1 : Below W.heap.size W w1) => show Below (w.heap.size + 1) W w1 ∧ w.heap.size + 1 < w1.heap.size ∧ w.heap.size < w1.heap.size ∧ w1.cell? ⟨w.heap.size + 1, 0, none⟩ = some (.int .i64 0) ∧ w1.cell? ⟨w.heap.size + 1, 1, none⟩ = some (.string ⟨#[]⟩) ∧ w1.cell? ⟨w.heap.size + 1, 2, none⟩ = some (.slice none 0 0) ∧ w1.frozen? ⟨w.heap.size + 1, 0, none⟩ = false ∧ w1.frozen? ⟨w.heap.size + 1, 1, none⟩ = false ∧ w1.frozen? ⟨w.heap.size + 1, 2, none⟩ = false from
        ⟨hk1.mono (by omega), by have := hk1.size; omega, by have := hk1.size; omega, keepc hk1 hW U0, keepc hk1 hW U1, keepc hk1 hW U2, (hk1.frozen (p := ⟨w.heap.size + 1, 0, none⟩) hW).trans G0, (hk1.frozen (p := ⟨w.heap.size + 1, 1, none⟩) hW).trans G1, (hk1.frozen (p := ⟨w.heap.size + 1, 2, none⟩) hW).trans G2⟩)
      have CP := Lib.hid (fun (x : Ex) (k : Value) (E : World) (hx : RowKit.Hid ((x = x0 ∧ k = .slice q0 l0 cc0) ∨ (x = x1 ∧ k = .slice q1 l1 cc1))) (hE : Below W.heap.size W E) => show Calls Tryd.prog 51 #[.agg #[.int .i64 x.op, .string x.a, k], .bool false] E (fun en w' => ∃ y p n c F, en = .returned (.agg #[.int .i64 y.op, .string y.a, .slice p n c]) ∧ ResI x false y (.slice p n c) F W E w') by
        rcases hx.out with ⟨rfl, rfl⟩ | ⟨rfl, rfl⟩
        · exact (IH.out _ _ false B E (HIN0.out.below (hE.mono (by omega)) (Nat.le_refl _)) (by have := hE.size; omega) HO0.out).mono fun en w' h => resI_of hE h
        · exact (IH.out _ _ false B E (HIN1.out.below (hE.mono (by omega)) (Nat.le_refl _)) (by have := hE.size; omega) HO1.out).mono fun en w' h => resI_of hE h)
      rw [oo, hl]
      rw [hl] at hm1
      clear hoks htop hx hl eW
      go_enter Tryd.func51, Tryd.ntmps51
      go_wp2_with fail
      rw [← EW.out]
      go_region_held3 (fun w' => w'.cell? ⟨w.heap.size, 2, none⟩ = some (.slice (some ⟨b0, off0, none⟩) 2 cap) ∧ w'.cell? ⟨b0, off0, none⟩ = some (.int .i64 x0.op) ∧ w'.cell? ⟨b0, off0 + 1, none⟩ = some (.string x0.a) ∧ w'.cell? ⟨b0, off0 + 2, none⟩ = some (.slice q0 l0 cc0) ∧ w'.cell? ⟨b0, off0 + 3, none⟩ = some (.int .i64 x1.op) ∧ w'.cell? ⟨b0, off0 + 3 + 1, none⟩ = some (.string x1.a) ∧ w'.cell? ⟨b0, off0 + 3 + 2, none⟩ = some (.slice q1 l1 cc1))
        (exact ⟨keepc (show Below (w.heap.size + 1) W _ by ((repeat (first | with_reducible assumption | with_reducible exact Below.refl _ _ | refine Below.setCell ?_ (by (first | omega | (simp; omega) | (simp; done) | fail "sml")) _ | refine Below.drew ?_ | refine Below.alloc ?_ (by (first | omega | (simp; omega) | (simp; done) | fail "sml")) _)); first | done | fail "chs")) (by omega) g3, keepc (show Below (w.heap.size + 1) W _ by ((repeat (first | with_reducible assumption | with_reducible exact Below.refl _ _ | refine Below.setCell ?_ (by (first | omega | (simp; omega) | (simp; done) | fail "sml")) _ | refine Below.drew ?_ | refine Below.alloc ?_ (by (first | omega | (simp; omega) | (simp; done) | fail "sml")) _)); first | done | fail "chs")) (by omega) d00, keepc (show Below (w.heap.size + 1) W _ by ((repeat (first | with_reducible assumption | with_reducible exact Below.refl _ _ | refine Below.setCell ?_ (by (first | omega | (simp; omega) | (simp; done) | fail "sml")) _ | refine Below.drew ?_ | refine Below.alloc ?_ (by (first | omega | (simp; omega) | (simp; done) | fail "sml")) _)); first | done | fail "chs")) (by omega) d01, keepc (show Below (w.heap.size + 1) W _ by ((repeat (first | with_reducible assumption | with_reducible exact Below.refl _ _ | refine Below.setCell ?_ (by (first | omega | (simp; omega) | (simp; done) | fail "sml")) _ | refine Below.drew ?_ | refine Below.alloc ?_ (by (first | omega | (simp; omega) | (simp; done) | fail "sml")) _)); first | done | fail "chs")) (by omega) d02, keepc (show Below (w.heap.size + 1) W _ by ((repeat (first | with_reducible assumption | with_reducible exact Below.refl _ _ | refine Below.setCell ?_ (by (first | omega | (simp; omega) | (simp; done) | fail "sml")) _ | refine Below.drew ?_ | refine Below.alloc ?_ (by (first | omega | (simp; omega) | (simp; done) | fail "sml")) _)); first | done | fail "chs")) (by omega) d10, keepc (show Below (w.heap.size + 1) W _ by ((repeat (first | with_reducible assumption | with_reducible exact Below.refl _ _ | refine Below.setCell ?_ (by (first | omega | (simp; omega) | (simp; done) | fail "sml")) _ | refine Below.drew ?_ | refine Below.alloc ?_ (by (first | omega | (simp; omega) | (simp; done) | fail "sml")) _)); first | done | fail "chs")) (by omega) d11, keepc (show Below (w.heap.size + 1) W _ by ((repeat (first | with_reducible assumption | with_reducible exact Below.refl _ _ | refine Below.setCell ?_ (by (first | omega | (simp; omega) | (simp; done) | fail "sml")) _ | refine Below.drew ?_ | refine Below.alloc ?_ (by (first | omega | (simp; omega) | (simp; done) | fail "sml")) _)); first | done | fail "chs")) (by omega) d12⟩)
        (first
          | (go_at_call 51; refine (CP.out _ _ _ (Lib.hid (by first | exact .inl ⟨rfl, rfl⟩ | exact .inr ⟨rfl, rfl⟩)) (by ((repeat (first | with_reducible assumption | with_reducible exact Below.refl _ _ | refine Below.setCell ?_ (by (first | omega | (simp; omega) | (simp; done) | fail "sml")) _ | refine Below.drew ?_ | refine Below.alloc ?_ (by (first | omega | (simp; omega) | (simp; done) | fail "sml")) _)); first | done | fail "chs"))).mono ?_; rintro en w1 ⟨y1, p1, n1, c1, F1, rfl, hr1⟩; have hk1 := hr1.past; have z1 := hk1.size; obtain ⟨m1, z2, z3, u0, u1, u2, f0, f1, f2⟩ := SC.out w1 hk1))
      all_goals
        go_wp2_with fail
        have hf := twoI_fin (x0 := x0) (x1 := x1) (neg := false) (W := W) (w2 := w1) (w3 := ((w1.setCell ⟨w.heap.size + 1, 0, none⟩ (.int .i64 5)).setCell ⟨w.heap.size + 1, 1, none⟩ (.string ⟨#[]⟩)).setCell ⟨w.heap.size + 1, 2, none⟩ (.slice (some ⟨w1.heap.size, 0, none⟩) 2 2)) (k := w.heap.size + 1) (T := 25) ((((Chg.refl _ _).setCell (by simp) _).setCell (by simp) _).setCell (by simp) _) (by simp) hW (by first | exact .inl ⟨_, _, by assumption, by assumption⟩ | exact .inr ⟨_, _, by assumption, by assumption⟩)
        refine bodyPost_ret (v := .agg #[.int .i64 5, .string ⟨#[]⟩, .slice (some ⟨w1.heap.size, 0, none⟩) 2 2]) (by simp [results, Tryd.results51, go_sem, u0, u1, u2, z2]) rfl ⟨_, _, rfl, Ex.Has.toI HT.out ⟨_, rfl, hf.1⟩, by intro x hx; have := hf.2 x hx; omega, ?_⟩
        exact HBW.out.trans (Below.mono (show Below (w.heap.size + 1) W _ by ((repeat (first | with_reducible assumption | with_reducible exact Below.refl _ _ | refine Below.setCell ?_ (by (first | omega | (simp; omega) | (simp; done) | fail "sml")) _ | refine Below.drew ?_ | refine Below.alloc ?_ (by (first | omega | (simp; omega) | (simp; done) | fail "sml")) _)); first | done | fail "chs")) (by omega))
      | true =>
      have hx := Ex.push_two true (by omega) hl
      have HBW := Lib.hid (show Below w.heap.size w ((w.alloc (.cells #[.int .i64 5, .string e.a, .slice p 2 cap] 25)).alloc (.cells #[.int .i64 0, .string ⟨#[]⟩, .slice none 0 0] 25)) from ((Below.refl _ _).alloc (Nat.le_refl _) _).alloc (by simp) _)
      rw [hl] at HK
      obtain ⟨b0, off0, q0, l0, cc0, eb0, hb0, d00, d01, d02, hin0⟩ := (HK.out.below (HBW.out.mono hB) (Nat.le_refl _)).get 0 (by omega)
      have hok0 := hoks 0 (by omega)
      simp only [Nat.zero_mul, Nat.add_zero] at d00 d01 d02
      obtain ⟨x0, ex0⟩ : ∃ x, x = e.ks.list[0] := ⟨_, rfl⟩
      rw [← ex0] at d00 d01 hin0 hok0 hx
      have HIN0 := Lib.hid hin0
      have HO0 := Lib.hid hok0
      clear ex0 hin0 hok0
      obtain ⟨b1, off1, q1, l1, cc1, eb1, hb1, d10, d11, d12, hin1⟩ := (HK.out.below (HBW.out.mono hB) (Nat.le_refl _)).get 1 (by omega)
      have hok1 := hoks 1 (by omega)
      simp only [Nat.one_mul] at d10 d11 d12
      obtain ⟨x1, ex1⟩ : ∃ x, x = e.ks.list[1] := ⟨_, rfl⟩
      rw [← ex1] at d10 d11 hin1 hok1 hx
      have HIN1 := Lib.hid hin1
      have HO1 := Lib.hid hok1
      clear ex1 hin1 hok1
      subst eb0
      cases eb1
      have HT := Lib.hid (show e.push true = ⟨4, ⟨#[]⟩, Fo.of [x0.push true, x1.push true]⟩ by rw [hx, oo]; rfl)
      obtain ⟨W, eW⟩ : ∃ W, W = ((w.alloc (.cells #[.int .i64 5, .string e.a, .slice (some ⟨b0, off0, none⟩) 2 cap] 25)).alloc (.cells #[.int .i64 0, .string ⟨#[]⟩, .slice none 0 0] 25)) := ⟨_, rfl⟩
      rw [← eW] at d00 d01 d02 d10 d11 d12 HBW HIN0 HIN1
      have g3 : W.cell? ⟨w.heap.size, 2, none⟩ = some (.slice (some ⟨b0, off0, none⟩) 2 cap) := by rw [eW]; simp [go_sem]
      have U0 : W.cell? ⟨w.heap.size + 1, 0, none⟩ = some (.int .i64 0) := by rw [eW]; simp [go_sem]
      have U1 : W.cell? ⟨w.heap.size + 1, 1, none⟩ = some (.string ⟨#[]⟩) := by rw [eW]; simp [go_sem]
      have U2 : W.cell? ⟨w.heap.size + 1, 2, none⟩ = some (.slice none 0 0) := by rw [eW]; simp [go_sem]
      have G0 : W.frozen? ⟨w.heap.size + 1, 0, none⟩ = false := by rw [eW]; simp [go_sem]
      have G1 : W.frozen? ⟨w.heap.size + 1, 1, none⟩ = false := by rw [eW]; simp [go_sem]
      have G2 : W.frozen? ⟨w.heap.size + 1, 2, none⟩ = false := by rw [eW]; simp [go_sem]
      have hW : w.heap.size + 1 < W.heap.size := by rw [eW]; simp
      have EW := Lib.hid eW
      have SC := Lib.hid (fun (w1 : World) (hk1 : Below W.heap.size W w1) => show Below (w.heap.size + 1) W w1 ∧ w.heap.size + 1 < w1.heap.size ∧ w.heap.size < w1.heap.size ∧ w1.cell? ⟨w.heap.size + 1, 0, none⟩ = some (.int .i64 0) ∧ w1.cell? ⟨w.heap.size + 1, 1, none⟩ = some (.string ⟨#[]⟩) ∧ w1.cell? ⟨w.heap.size + 1, 2, none⟩ = some (.slice none 0 0) ∧ w1.frozen? ⟨w.heap.size + 1, 0, none⟩ = false ∧ w1.frozen? ⟨w.heap.size + 1, 1, none⟩ = false ∧ w1.frozen? ⟨w.heap.size + 1, 2, none⟩ = false from
        ⟨hk1.mono (by omega), by have := hk1.size; omega, by have := hk1.size; omega, keepc hk1 hW U0, keepc hk1 hW U1, keepc hk1 hW U2, (hk1.frozen (p := ⟨w.heap.size + 1, 0, none⟩) hW).trans G0, (hk1.frozen (p := ⟨w.heap.size + 1, 1, none⟩) hW).trans G1, (hk1.frozen (p := ⟨w.heap.size + 1, 2, none⟩) hW).trans G2⟩)
      have CP := Lib.hid (fun (x : Ex) (k : Value) (E : World) (hx : RowKit.Hid ((x = x0 ∧ k = .slice q0 l0 cc0) ∨ (x = x1 ∧ k = .slice q1 l1 cc1))) (hE : Below W.heap.size W E) => show Calls Tryd.prog 51 #[.agg #[.int .i64 x.op, .string x.a, k], .bool true] E (fun en w' => ∃ y p n c F, en = .returned (.agg #[.int .i64 y.op, .string y.a, .slice p n c]) ∧ ResI x true y (.slice p n c) F W E w') by
        rcases hx.out with ⟨rfl, rfl⟩ | ⟨rfl, rfl⟩
        · exact (IH.out _ _ true B E (HIN0.out.below (hE.mono (by omega)) (Nat.le_refl _)) (by have := hE.size; omega) HO0.out).mono fun en w' h => resI_of hE h
        · exact (IH.out _ _ true B E (HIN1.out.below (hE.mono (by omega)) (Nat.le_refl _)) (by have := hE.size; omega) HO1.out).mono fun en w' h => resI_of hE h)
      rw [oo, hl]
      rw [hl] at hm1
      clear hoks htop hx hl eW
      go_enter Tryd.func51, Tryd.ntmps51
      go_wp2_with fail
      rw [← EW.out]
      go_region_held3 (fun w' => w'.cell? ⟨w.heap.size, 2, none⟩ = some (.slice (some ⟨b0, off0, none⟩) 2 cap) ∧ w'.cell? ⟨b0, off0, none⟩ = some (.int .i64 x0.op) ∧ w'.cell? ⟨b0, off0 + 1, none⟩ = some (.string x0.a) ∧ w'.cell? ⟨b0, off0 + 2, none⟩ = some (.slice q0 l0 cc0) ∧ w'.cell? ⟨b0, off0 + 3, none⟩ = some (.int .i64 x1.op) ∧ w'.cell? ⟨b0, off0 + 3 + 1, none⟩ = some (.string x1.a) ∧ w'.cell? ⟨b0, off0 + 3 + 2, none⟩ = some (.slice q1 l1 cc1))
        (exact ⟨keepc (show Below (w.heap.size + 1) W _ by ((repeat (first | with_reducible assumption | with_reducible exact Below.refl _ _ | refine Below.setCell ?_ (by (first | omega | (simp; omega) | (simp; done) | fail "sml")) _ | refine Below.drew ?_ | refine Below.alloc ?_ (by (first | omega | (simp; omega) | (simp; done) | fail "sml")) _)); first | done | fail "chs")) (by omega) g3, keepc (show Below (w.heap.size + 1) W _ by ((repeat (first | with_reducible assumption | with_reducible exact Below.refl _ _ | refine Below.setCell ?_ (by (first | omega | (simp; omega) | (simp; done) | fail "sml")) _ | refine Below.drew ?_ | refine Below.alloc ?_ (by (first | omega | (simp; omega) | (simp; done) | fail "sml")) _)); first | done | fail "chs")) (by omega) d00, keepc (show Below (w.heap.size + 1) W _ by ((repeat (first | with_reducible assumption | with_reducible exact Below.refl _ _ | refine Below.setCell ?_ (by (first | omega | (simp; omega) | (simp; done) | fail "sml")) _ | refine Below.drew ?_ | refine Below.alloc ?_ (by (first | omega | (simp; omega) | (simp; done) | fail "sml")) _)); first | done | fail "chs")) (by omega) d01, keepc (show Below (w.heap.size + 1) W _ by ((repeat (first | with_reducible assumption | with_reducible exact Below.refl _ _ | refine Below.setCell ?_ (by (first | omega | (simp; omega) | (simp; done) | fail "sml")) _ | refine Below.drew ?_ | refine Below.alloc ?_ (by (first | omega | (simp; omega) | (simp; done) | fail "sml")) _)); first | done | fail "chs")) (by omega) d02, keepc (show Below (w.heap.size + 1) W _ by ((repeat (first | with_reducible assumption | with_reducible exact Below.refl _ _ | refine Below.setCell ?_ (by (first | omega | (simp; omega) | (simp; done) | fail "sml")) _ | refine Below.drew ?_ | refine Below.alloc ?_ (by (first | omega | (simp; omega) | (simp; done) | fail "sml")) _)); first | done | fail "chs")) (by omega) d10, keepc (show Below (w.heap.size + 1) W _ by ((repeat (first | with_reducible assumption | with_reducible exact Below.refl _ _ | refine Below.setCell ?_ (by (first | omega | (simp; omega) | (simp; done) | fail "sml")) _ | refine Below.drew ?_ | refine Below.alloc ?_ (by (first | omega | (simp; omega) | (simp; done) | fail "sml")) _)); first | done | fail "chs")) (by omega) d11, keepc (show Below (w.heap.size + 1) W _ by ((repeat (first | with_reducible assumption | with_reducible exact Below.refl _ _ | refine Below.setCell ?_ (by (first | omega | (simp; omega) | (simp; done) | fail "sml")) _ | refine Below.drew ?_ | refine Below.alloc ?_ (by (first | omega | (simp; omega) | (simp; done) | fail "sml")) _)); first | done | fail "chs")) (by omega) d12⟩)
        (first
          | (go_at_call 51; refine (CP.out _ _ _ (Lib.hid (by first | exact .inl ⟨rfl, rfl⟩ | exact .inr ⟨rfl, rfl⟩)) (by ((repeat (first | with_reducible assumption | with_reducible exact Below.refl _ _ | refine Below.setCell ?_ (by (first | omega | (simp; omega) | (simp; done) | fail "sml")) _ | refine Below.drew ?_ | refine Below.alloc ?_ (by (first | omega | (simp; omega) | (simp; done) | fail "sml")) _)); first | done | fail "chs"))).mono ?_; rintro en w1 ⟨y1, p1, n1, c1, F1, rfl, hr1⟩; have hk1 := hr1.past; have z1 := hk1.size; obtain ⟨m1, z2, z3, u0, u1, u2, f0, f1, f2⟩ := SC.out w1 hk1))
      all_goals
        go_wp2_with fail
        have hf := twoI_fin (x0 := x0) (x1 := x1) (neg := true) (W := W) (w2 := w1) (w3 := ((w1.setCell ⟨w.heap.size + 1, 0, none⟩ (.int .i64 4)).setCell ⟨w.heap.size + 1, 1, none⟩ (.string ⟨#[]⟩)).setCell ⟨w.heap.size + 1, 2, none⟩ (.slice (some ⟨w1.heap.size, 0, none⟩) 2 2)) (k := w.heap.size + 1) (T := 25) ((((Chg.refl _ _).setCell (by simp) _).setCell (by simp) _).setCell (by simp) _) (by simp) hW (by first | exact .inl ⟨_, _, by assumption, by assumption⟩ | exact .inr ⟨_, _, by assumption, by assumption⟩)
        refine bodyPost_ret (v := .agg #[.int .i64 4, .string ⟨#[]⟩, .slice (some ⟨w1.heap.size, 0, none⟩) 2 2]) (by simp [results, Tryd.results51, go_sem, u0, u1, u2, z2]) rfl ⟨_, _, rfl, Ex.Has.toI HT.out ⟨_, rfl, hf.1⟩, by intro x hx; have := hf.2 x hx; omega, ?_⟩
        exact HBW.out.trans (Below.mono (show Below (w.heap.size + 1) W _ by ((repeat (first | with_reducible assumption | with_reducible exact Below.refl _ _ | refine Below.setCell ?_ (by (first | omega | (simp; omega) | (simp; done) | fail "sml")) _ | refine Below.drew ?_ | refine Below.alloc ?_ (by (first | omega | (simp; omega) | (simp; done) | fail "sml")) _)); first | done | fail "chs")) (by omega))
end Go.Proofs.YtckkebjpkcfmnaaDoor
