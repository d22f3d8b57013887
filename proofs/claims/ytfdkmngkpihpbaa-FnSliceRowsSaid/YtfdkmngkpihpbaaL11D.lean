/- l11Draw: some table, in memory of the call's own. -/
import Derived.Test.YtfdkmngkpihpbaaTbD
namespace Go.Proofs.Ytfdkmngkpihpbaa
open Go.RowKit

/-- What drawing a table leaves. -/
def DrewT (a N lo : Nat) (w : World) (en : Ending) (w' : World) : Prop := ∃ (x : Tb) (v : Value) (F : List Nat), en = .returned v ∧ x.Has v F w' ∧ (∀ y ∈ F, lo ≤ y) ∧ x.Ok ∧ x.need ≤ 100000 ∧ Dr w' a N ∧ Chg [a] w w'
/-- Names and rows that are drawn. -/
def Few (cs : List ByteArray) (ys : List (List Int)) : Prop := (∀ s ∈ cs, s.size ≤ 100) ∧ ∀ y ∈ ys, y.length ≤ 1000 ∧ ∀ n ∈ y, -2000 ≤ n ∧ n ≤ 2000
theorem Few.name {cs : List ByteArray} {ys : List (List Int)} (h : Few cs ys) {s : ByteArray} (hs : s.size ≤ 100) : Few (cs ++ [s]) ys := ⟨fun x hx => by
  rcases List.mem_append.1 hx with hx | hx
  · exact h.1 x hx
  · simp at hx; subst hx; exact hs, h.2⟩
theorem Few.row {cs : List ByteArray} {ys : List (List Int)} (h : Few cs ys) {y : List Int} (hy : y.length ≤ 1000) (hn : ∀ n ∈ y, -2000 ≤ n ∧ n ≤ 2000) : Few cs (ys ++ [y]) := ⟨h.1, fun x hx => by
  rcases List.mem_append.1 hx with hx | hx
  · exact h.2 x hx
  · simp at hx; subst hx; exact ⟨hy, hn⟩⟩
theorem few_more {y : List Int} {z : Int} (h : ∀ n ∈ y, -2000 ≤ n ∧ n ≤ 2000) (h0 : -2000 ≤ z) (h1 : z ≤ 2000) : ∀ n ∈ y ++ [z], -2000 ≤ n ∧ n ≤ 2000 := fun n hn => by
  rcases List.mem_append.1 hn with hn | hn
  · exact h n hn
  · simp at hn; subst hn; exact ⟨h0, h1⟩
theorem Few.ok {cs : List ByteArray} {ys : List (List Int)} (h : Few cs ys) : (Tb.mk cs ys).Ok := ⟨fun s hs => by have := h.1 s hs; unfold maxLen; omega, fun y hy n hn => by have := (h.2 y hy).2 n hn; unfold I64; omega⟩
theorem Few.first {cs : List ByteArray} {ys : List (List Int)} (h : Few cs ys) (h0 : 0 < ys.length) {z : Int} (z0 : -2000 ≤ z) (z1 : z ≤ 2000) : Few cs (ys.set 0 (ys[0].set 0 z)) := ⟨h.1, fun y hy => by
  rcases List.mem_or_eq_of_mem_set hy with hy | rfl
  · exact h.2 y hy
  · refine ⟨by rw [List.length_set]; exact (h.2 _ (List.getElem_mem h0)).1, fun n hn => ?_⟩
    rcases List.mem_or_eq_of_mem_set hn with hn | rfl
    · exact (h.2 _ (List.getElem_mem h0)).2 n hn
    · exact ⟨z0, z1⟩⟩
/-- Rows of c numbers. -/
def Wide (c : Nat) (ys : List (List Int)) : Prop := ∀ y ∈ ys, y.length = c
theorem Wide.row {c : Nat} {ys : List (List Int)} (h : Wide c ys) {y : List Int} (hy : y.length = c) : Wide c (ys ++ [y]) := fun x hx => by
  rcases List.mem_append.1 hx with hx | hx
  · exact h x hx
  · simp at hx; subst hx; exact hy
theorem Wide.sum {c : Nat} {ys : List (List Int)} (h : Wide c ys) : sumR ys ≤ c * ys.length := sumR_max fun y hy => Nat.le_of_eq (h y hy)
theorem Wide.first {c : Nat} {ys : List (List Int)} (h : Wide c ys) (h0 : 0 < ys.length) {z : Int} : Wide c (ys.set 0 (ys[0].set 0 z)) := fun y hy => by
  rcases List.mem_or_eq_of_mem_set hy with hy | rfl
  · exact h y hy
  · rw [List.length_set]; exact h _ (List.getElem_mem h0)
theorem need_few {cs : List ByteArray} {ys : List (List Int)} {c : Nat} (h : Few cs ys) (hw : Wide c ys) (h1 : cs.length ≤ 10) (h2 : ys.length ≤ 1000) (h3 : c ≤ 10) : (Tb.mk cs ys).need ≤ 100000 := by
  have a1 := sumS_max h.1
  have a2 := hw.sum
  have a3 : c * ys.length ≤ 10 * ys.length := Nat.mul_le_mul_right _ h3
  unfold Tb.need
  simp only
  omega

/-- As intP, a little wider. -/
def intQ (v : Value) : Prop := ∃ z : Int, v = .int .i64 z ∧ -2000 ≤ z ∧ z ≤ 2000
def intQB (v : Value) : Bool := match v with | .int .i64 z => decide (-2000 ≤ z) && decide (z ≤ 2000) | _ => false
theorem intQ_spec (v : Value) (h : intQB v = true) : intQ v := by
  unfold intQB at h
  split at h
  · simp at h; exact ⟨_, rfl, h.1, h.2⟩
  · cases h
set_option maxHeartbeats 1000000 in
theorem num_drQ (a N b n cap : Nat) (w : World) (h : Dr w a N) (hN : N ≤ 999000) (hc : Cs intQ w b n) (hn : 0 < n) (hab : b ≠ a) :
    Calls Try.prog 51 #[.pointer (some ⟨a, 0, none⟩), .slice (some ⟨b, 0, none⟩) n cap] w fun e w' => ∃ z : Int, e = .returned (.int .i64 z) ∧ -2000 ≤ z ∧ z ≤ 2000 ∧ Dr w' a (N + 1) ∧ Chg [a] w w' := by
  go_enter Try.func51, Try.ntmps51
  have HC := Lib.hid hc
  clear hc
  go_wp2_with fail
  refine (pick_nat n a N _ h hN hn).mono ?_
  rintro e w1 ⟨q, rfl, hq1, hr, hch⟩
  obtain ⟨v, ⟨z, rfl, hz⟩, hcell⟩ := (HC.out.chg hch (by simpa using hab)).2 q hq1
  have HR := Lib.hid hr
  have HCH := Lib.hid hch
  have HZ := Lib.hid hz
  clear hr hch hz
  go_wp2_with fail
  go_ret
  exact ⟨z, rfl, HZ.out.1, HZ.out.2, HR.out, HCH.out⟩
/-- The result's cells and the names to choose from stay. -/
def Kp (w u : World) : Prop := Cs strP u (w.heap.size + 1) 3 ∧ w.heap.size < u.heap.size ∧ (u.cell? ⟨w.heap.size, 0, none⟩ = some (.slice none 0 0) ∧ u.cell? ⟨w.heap.size, 1, none⟩ = some (.slice none 0 0)) ∧ u.frozen? ⟨w.heap.size, 0, none⟩ = false ∧ u.frozen? ⟨w.heap.size, 1, none⟩ = false
theorem Kp.chg {w u E : World} {G : List Nat} (h : Kp w u) (hc : Chg G u E) (hG : ∀ x ∈ G, x < w.heap.size ∨ w.heap.size + 1 < x) : Kp w E := by
  obtain ⟨h1, h2, ⟨h3, h4⟩, h5, h6⟩ := h
  have n0 : w.heap.size ∉ G := fun hm => by have := hG _ hm; omega
  have n1 : w.heap.size + 1 ∉ G := fun hm => by have := hG _ hm; omega
  exact ⟨h1.chg hc n1, Nat.lt_of_lt_of_le h2 hc.size, ⟨hc.cellOf n0 h3, hc.cellOf n0 h4⟩, hc.frozenOf n0 h2 h5, hc.frozenOf n0 h2 h6⟩
theorem Kp.below {w u E : World} (h : Kp w u) (hb : Below u.heap.size u E) : Kp w E := h.chg (Chg.of_below hb []) (by simp)

set_option maxRecDepth 100000 in
set_option maxHeartbeats 16000000 in
theorem l11Draw_any (a N : Nat) (w : World) (h : Dr w a N) (hN : N ≤ 900000) :
    Calls Try.prog 56 #[.pointer (some ⟨a, 0, none⟩)] w (DrewT a (N + 60000) w.heap.size w) := by
  have hal := h.lt
  go_enter Try.func56, Try.ntmps56
  go_wp2_with fail
  obtain ⟨W1, eW1⟩ : ∃ x, x = ((w.alloc (.cells #[.slice none 0 0, .slice none 0 0] 33)).alloc (.cells #[.string ⟨#[120]⟩, .string ⟨#[121]⟩, .string ⟨#[101]⟩] 9)).alloc (.cells #[.slice none 0 0, .slice none 0 0] 33) := ⟨_, rfl⟩
  rw [← eW1]
  have sW1 : w.heap.size + 3 ≤ W1.heap.size := by rw [eW1]; simp
  have HW1 := Lib.hid (show Chg [] w W1 by rw [eW1]; exact (((Chg.refl _ _).alloc _).alloc _).alloc _)
  have HKP := Lib.hid (show Kp w W1 by
    rw [eW1]
    exact ⟨(Cs.fresh strB strB_spec _ #[.string ⟨#[120]⟩, .string ⟨#[121]⟩, .string ⟨#[101]⟩] 9 (by simp) rfl (by kernel_rfl)).alloc _, by simp; omega, ⟨by simp [go_sem], by simp [go_sem]⟩, by simp [go_sem], by simp [go_sem]⟩)
  have HT1 := Lib.hid (show TDr [] [] (w.heap.size + 1 + 1) (w.heap.size + 2) (.slice none 0 0) (.slice none 0 0) W1 by
    rw [eW1]
    exact ⟨⟨by omega, by simp⟩, ⟨by simp [go_sem], by simp [go_sem]⟩, ⟨by simp [go_sem], by simp [go_sem]⟩, [], [], OwnS.empty none, Kd.OwB.nil kRow _ _ _, by simp, by simp, by simp⟩)
  have HD1 := Lib.hid (h.chg HW1.out (by simp))
  clear eW1 h
  refine Calls.mono (pick_nat 3 a N W1 HD1.out (by omega) (by decide)) ?_
  rintro en w1 ⟨q, rfl, hq, d1, k1⟩
  have HC1 := Lib.hid ((HW1.out.mono (by simp) : Chg [a] w W1).trans k1)
  have HK1 := Lib.hid (HKP.out.chg k1 (by simp; omega))
  have HT2 := Lib.hid (HT1.out.chg k1 (by simp; omega))
  clear k1 HT1
  have hqi : IntKind.i64.wrap (1 + (q : Int)) = ((1 + q : Nat) : Int) := by rw [IntKind.wrap_i64] <;> omega
  go_wp2_with fail
  go_loopw [5] (fun i wr => ∃ (k : Nat) (cs : List ByteArray) (va : Value), i = .int .i64 (k : Int) ∧ cs.length + k = 1 + q ∧ TDr cs [] (w.heap.size + 1 + 1) (w.heap.size + 2) va (.slice none 0 0) wr ∧ Few cs [] ∧ Dr wr a (N + 1) ∧ Chg [a] w wr ∧ Kp w wr) (fun i _ => (intOf i).toNat)
  case atStart => exact ⟨1 + q, [], _, by simp, by simp, HT2.out, ⟨by simp, by simp⟩, d1, HC1.out, HK1.out⟩
  case round =>
    obtain ⟨k, cs, va, rfl, hck, hT, hF, hd, hc, hkp⟩ := hrel
    have HKP1 := Lib.hid hkp
    have HT := Lib.hid hT
    have HC := Lib.hid hc
    have HF := Lib.hid hF
    have HD := Lib.hid hd
    have har : a < wr.heap.size := hd.lt
    obtain ⟨p1, c1, _, _, rfl, _⟩ := hT.form
    obtain ⟨⟨_, hkb⟩, ⟨x0, x1⟩, ⟨x2, x3⟩, _⟩ := hT
    clear hc hF hd hkp
    by_cases hpos : 0 < k
    · have q0 : decide ((0 : Int) < (k : Int)) = true := decide_eq_true (by omega)
      have q1 : ((0 : Int) < (k : Int)) = True := eq_true (by omega)
      have hcl : cs.length < 3 := by omega
      obtain ⟨v, ⟨s, rfl, hs⟩, hcell⟩ := HKP1.out.1.2 cs.length hcl
      have hlt3 : (cs.length : Int) < 3 := by omega
      have HS := Lib.hid hs
      clear hs
      go_upto_region 6 with fail
      refine wp_region_E (last := 11) (S := fun w' => w'.cell? ⟨w.heap.size + 1 + 1, 0, none⟩ = some (.slice p1 cs.length c1) ∧ w'.cell? ⟨w.heap.size + 1, cs.length, none⟩ = some (.string s)) (by kernel_rfl) ⟨x0, hcell⟩ (fun hHeld => ?_)
      have cW : Below wr.heap.size wr wr.drew := (Below.refl _ _).drew
      have HK := Lib.hid (fun (E : World) (hE : Below wr.heap.size wr E) => (⟨keepc hE hkb x0, keepc hE (World.block_lt_of_cell? _ _ hcell) hcell⟩ : E.cell? ⟨w.heap.size + 1 + 1, 0, none⟩ = some (.slice p1 cs.length c1) ∧ E.cell? ⟨w.heap.size + 1, cs.length, none⟩ = some (.string s)))
      have szW : wr.heap.size ≤ wr.drew.heap.size := Nat.le_refl _
      generalize wr.drew = W0 at cW hHeld szW ⊢
      (refine takeE (i := 0) (v := ?_) [] rfl (by kernel_rfl) (by kernel_rfl) (fun _ _ _ h => h) (Or.inl ⟨by kernel_rfl, ?_⟩) (by assumption) ?_; rotate_left; (focus (intro w hSw; (try dsimp only at hSw); go_simp; first | done | with_reducible rfl | fail "takeE")); (try simp only [Act.put, List.setIfInBounds_toArray, List.set_cons_zero, List.set_cons_succ]))
      (refine takeE (i := 1) (v := ?_) [] rfl (by kernel_rfl) (by kernel_rfl) (fun _ _ _ h => h) (Or.inl ⟨by kernel_rfl, ?_⟩) (by assumption) ?_; rotate_left; (focus (intro w hSw; (try dsimp only at hSw); go_simp; first | done | with_reducible rfl | fail "takeE")); (try simp only [Act.put, List.setIfInBounds_toArray, List.set_cons_zero, List.set_cons_succ]))
      (refine takeE (i := 2) (v := ?_) [] rfl (by kernel_rfl) (by kernel_rfl) (fun _ _ _ h => h) (Or.inl ⟨by kernel_rfl, ?_⟩) (by assumption) ?_; rotate_left; (focus (intro w hSw; (try dsimp only at hSw); go_simp; first | done | with_reducible rfl | fail "takeE")); (try simp only [Act.put, List.setIfInBounds_toArray, List.set_cons_zero, List.set_cons_succ]))
      (refine takeE (i := 3) (v := ?_) [] rfl (by kernel_rfl) (by kernel_rfl) (fun _ _ _ h => h) (Or.inl ⟨by kernel_rfl, ?_⟩) (by assumption) ?_; rotate_left; (focus (intro w hSw; (try dsimp only at hSw); go_simp; first | done | with_reducible rfl | fail "takeE")); (try simp only [Act.put, List.setIfInBounds_toArray, List.set_cons_zero, List.set_cons_succ]))
      (refine takeE (i := 4) (v := ?_) [] rfl (by kernel_rfl) (by kernel_rfl) (fun _ _ _ h => h) (Or.inl ⟨by kernel_rfl, ?_⟩) (by assumption) ?_; rotate_left; (focus (intro w hSw; (try dsimp only at hSw); go_simp; first | done | with_reducible rfl | fail "takeE")); (try simp only [Act.put, List.setIfInBounds_toArray, List.set_cons_zero, List.set_cons_succ]))
      (refine takeE (i := 5) (v := ?_) [] rfl (by kernel_rfl) (by kernel_rfl) (fun _ _ _ h => h) (Or.inl ⟨by kernel_rfl, ?_⟩) (by assumption) ?_; rotate_left; (focus (intro w hSw; (try dsimp only at hSw); go_simp; first | done | with_reducible rfl | fail "takeE")); (try simp only [Act.put, List.setIfInBounds_toArray, List.set_cons_zero, List.set_cons_succ]))
      (refine takeE (i := 6) (v := ?_) [] rfl (by kernel_rfl) (by kernel_rfl) (fun _ _ _ h => h) (Or.inl ⟨by kernel_rfl, ?_⟩) (by assumption) ?_; rotate_left; (focus (intro w hSw; (try dsimp only at hSw); go_simp; first | done | with_reducible rfl | fail "takeE")); (try simp only [Act.put, List.setIfInBounds_toArray, List.set_cons_zero, List.set_cons_succ]))
      (refine takeE (i := 7) (v := ?_) [] rfl (by kernel_rfl) (by kernel_rfl) (fun _ _ _ h => h) (Or.inl ⟨by kernel_rfl, ?_⟩) (by assumption) ?_; rotate_left; (focus (intro w hSw; (try dsimp only at hSw); go_simp; first | done | with_reducible rfl | fail "takeE")); (try simp only [Act.put, List.setIfInBounds_toArray, List.set_cons_zero, List.set_cons_succ]))
      refine oneE (i := 8) rfl (by kernel_rfl) (by kernel_rfl) (fun K hK => ?_)
      go_simp
      refine hK.out _ _ (HK.out _ (show Below wr.heap.size wr _ by ((repeat (first | with_reducible assumption | with_reducible exact Below.refl _ _ | refine Below.setCell ?_ (by (first | omega | (simp; omega) | (simp; done) | fail "sml")) _ | refine Below.drew ?_ | refine Below.alloc ?_ (by (first | omega | (simp; omega) | (simp; done) | fail "sml")) _)); first | done | fail "chs"))) (fun hHeld => ?_)
      clear hK K
      (try simp only [Act.put, List.setIfInBounds_toArray, List.set_cons_zero, List.set_cons_succ])
      refine oneE (i := 9) rfl (by kernel_rfl) (by kernel_rfl) (fun K hK => ?_)
      refine wp_app (.tmp 19) (.tmp 26) 30 (by rfl) _ _ (by rfl) (by rfl) _ (HT.out.appC (G := []) (Chg.of_below (show Below wr.heap.size wr _ by ((repeat (first | with_reducible assumption | with_reducible exact Below.refl _ _ | refine Below.setCell ?_ (by (first | omega | (simp; omega) | (simp; done) | fail "sml")) _ | refine Below.drew ?_ | refine Below.alloc ?_ (by (first | omega | (simp; omega) | (simp; done) | fail "sml")) _)); first | done | fail "chs")) []) (by simp) _ s _ _ (by simp [go_sem]) (by omega)) ?_
      rintro v' w' ⟨⟨e0, e1, e2, e3, e4⟩, hT6, H6, hH6, hH6l⟩
      obtain ⟨p6, c6, _, _, hv6, _⟩ := hT6.form
      rw [List.length_append, List.length_singleton] at hv6
      subst hv6
      have HT6 := Lib.hid hT6
      have HC6 := Lib.hid ((HC.out.trans (Chg.of_below (show Below wr.heap.size wr _ by ((repeat (first | with_reducible assumption | with_reducible exact Below.refl _ _ | refine Below.setCell ?_ (by (first | omega | (simp; omega) | (simp; done) | fail "sml")) _ | refine Below.drew ?_ | refine Below.alloc ?_ (by (first | omega | (simp; omega) | (simp; done) | fail "sml")) _)); first | done | fail "chs")) [a])).past hH6 (fun x hx => .inr (by have := hH6l x hx; omega)))
      have HD6 := Lib.hid ((HD.out.below (show Below wr.heap.size wr _ by ((repeat (first | with_reducible assumption | with_reducible exact Below.refl _ _ | refine Below.setCell ?_ (by (first | omega | (simp; omega) | (simp; done) | fail "sml")) _ | refine Below.drew ?_ | refine Below.alloc ?_ (by (first | omega | (simp; omega) | (simp; done) | fail "sml")) _)); first | done | fail "chs"))).chg hH6 (fun x hx => by have := hH6l x hx; omega))
      have HK6 := Lib.hid ((HKP1.out.below (show Below wr.heap.size wr _ by ((repeat (first | with_reducible assumption | with_reducible exact Below.refl _ _ | refine Below.setCell ?_ (by (first | omega | (simp; omega) | (simp; done) | fail "sml")) _ | refine Below.drew ?_ | refine Below.alloc ?_ (by (first | omega | (simp; omega) | (simp; done) | fail "sml")) _)); first | done | fail "chs"))).chg hH6 (fun x hx => by have := hH6l x hx; omega))
      have HN6 := Lib.hid (show w'.cell? ⟨w.heap.size + 1, cs.length, none⟩ = some (.string s) by
        have h9 := hH6.cellOf (b := w.heap.size + 1) (fun hm => by have := hH6l _ hm; omega) (HK.out _ (show Below wr.heap.size wr _ by ((repeat (first | with_reducible assumption | with_reducible exact Below.refl _ _ | refine Below.setCell ?_ (by (first | omega | (simp; omega) | (simp; done) | fail "sml")) _ | refine Below.drew ?_ | refine Below.alloc ?_ (by (first | omega | (simp; omega) | (simp; done) | fail "sml")) _)); first | done | fail "chs"))).2
        rwa [set_far _ _ _ _ _ _ (by omega)] at h9)
      clear hT6 hH6 hH6l
      refine hK.out _ _ ⟨e0, HN6.out⟩ (fun hHeld => ?_)
      clear hK K
      (try simp only [Act.put, List.setIfInBounds_toArray, List.set_cons_zero, List.set_cons_succ])
      (refine takeE (i := 10) (v := ?_) [] rfl (by kernel_rfl) (by kernel_rfl) (fun _ _ _ h => h) (Or.inl ⟨by kernel_rfl, ?_⟩) (by assumption) ?_; rotate_left; (focus (intro w hSw; (try dsimp only at hSw); go_simp; first | done | with_reducible rfl | fail "takeE")); (try simp only [Act.put, List.setIfInBounds_toArray, List.set_cons_zero, List.set_cons_succ]))
      refine lastE rfl (by kernel_rfl) (by kernel_rfl) (fun K hK => ?_)
      go_simp
      refine hK.out _ _ ?_
      clear hK K
      refine doneE (by kernel_rfl) ?_ _
      go_wp2_with fail
      go_roundw
      case rel => exact ⟨k - 1, cs ++ [s], _, by go_num, by simp; omega, HT6.out, HF.out.name HS.out, HD6.out, HC6.out, HK6.out⟩
      case measure => simp [intOf]; omega
    · obtain rfl : k = 0 := by omega
      have hcl : cs.length = 1 + q := by omega
      have hcl1 : 1 ≤ cs.length := by omega
      have hcl3 : cs.length ≤ 3 := by omega
      have hcc : 0 < cs.length := by omega
      clear hck hcl
      go_wp2_with fail
      refine Calls.mono (num_dr a (N + 1) _ 5 _ _ (HD.out.alloc _) (by omega) (Cs.fresh intB intB_spec _ _ _ rfl rfl (by kernel_rfl)) (by decide) (by omega)) ?_
      rintro en w2 ⟨z, rfl, hz0, hz1, d2, k2⟩
      have k2' : Chg [a] wr w2 := ((Chg.refl [a] wr).alloc _).trans k2
      have HT2 := Lib.hid (HT.out.chg k2' (by simp; omega))
      have HC2 := Lib.hid (HC.out.trans k2')
      have HK2 := Lib.hid (HKP1.out.chg k2' (by simp; omega))
      have HD2 := Lib.hid d2
      clear k2 k2' HT HC HD HKP1 x0 x1 x2 x3 d2
      go_wp2_with fail
      go_loopw [6] (fun i wr => ∃ (z : Int) (m : Nat) (ys : List (List Int)) (vb : Value), i = .int .i64 z ∧ z ≤ m ∧ m ≤ 1000 ∧ TDr cs ys (w.heap.size + 1 + 1) (w.heap.size + 2) (.slice p1 cs.length c1) vb wr ∧ Few cs ys ∧ Wide cs.length ys ∧ ys.length ≤ 1000 - m ∧ Dr wr a (N + 2 + 50 * (1000 - m)) ∧ Chg [a] w wr ∧ Kp w wr) (fun i _ => (intOf i).toNat)
      case atStart => exact ⟨z, 1000, [], _, rfl, by omega, Nat.le_refl _, HT2.out, ⟨HF.out.1, by simp⟩, by intro y hy; simp at hy, by simp, HD2.out.mono (by omega), HC2.out, HK2.out⟩
      case round =>
        rename World => wo
        clear HT2 HC2 HK2 HD2 HF hz0 hz1
        obtain ⟨z, m, ys, vb, rfl, hzm, hm, hT, hF, hW, hyl, hd, hc, hkp⟩ := hrel
        have HT := Lib.hid hT
        have HC := Lib.hid hc
        have HF := Lib.hid hF
        have HW := Lib.hid hW
        have HD := Lib.hid hd
        have HKP := Lib.hid hkp
        have har : a < wo.heap.size := hd.lt
        obtain ⟨_, _, qb, db, _, rfl⟩ := hT.form
        obtain ⟨⟨_, hkb⟩, ⟨x0, x1⟩, ⟨x2, x3⟩, _⟩ := hT
        clear hc hF hW hd hkp
        by_cases hpos : 0 < z
        · have q0 : decide (0 < z) = true := decide_eq_true hpos
          have hzr : IntKind.i64.wrap (z - 1) = z - 1 := by rw [IntKind.wrap_i64] <;> omega
          go_wp2_with fail
          clear x0 x1 x2 x3
          go_loopw [7, 8] (fun v i wi => ∃ (j : Nat) (y : List Int) (Y : List Nat), i = .int .i64 j ∧ j ≤ cs.length ∧ y.length = j ∧ OwnI wi v y Y ∧ (∀ x ∈ Y, wo.heap.size ≤ x) ∧ (∀ n ∈ y, -2000 ≤ n ∧ n ≤ 2000) ∧ Dr wi a (N + 2 + 50 * (1000 - m) + j) ∧ Chg [a] wo wi) (fun _ i _ => cs.length - (intOf i).toNat)
          case atStart => exact ⟨0, [], [], rfl, Nat.zero_le _, rfl, OwnI.empty _ _, by simp, by simp, (HD.out.alloc _).mono (by omega), (Chg.refl _ _).alloc _⟩
          case round =>
            obtain ⟨j, y, Y, rfl, hj, hyj, hO, hY, hn, hd, hc⟩ := hrel
            have HTI := Lib.hid (HT.out.chg hc (by simp; omega))
            have HCI := Lib.hid hc
            have HOI := Lib.hid hO
            have HYI := Lib.hid hY
            have HNI := Lib.hid hn
            have HDI := Lib.hid hd
            have HYJ := Lib.hid hyj
            have har2 : a < wr.heap.size := hd.lt
            obtain ⟨py, cy, rfl⟩ := hO.form
            have hsz := hc.size
            obtain ⟨⟨_, hkb2⟩, ⟨x0, x1⟩, ⟨x2, x3⟩, _⟩ := HTI.out
            clear hO hY hn hd hc hyj
            by_cases hjc : j < cs.length
            · have hjl : (j : Int) < (cs.length : Int) := by omega
              go_wp2_with fail
              refine Calls.mono (num_dr a (N + 2 + 50 * (1000 - m) + j) _ 6 _ _ (HDI.out.alloc _) (by omega) (Cs.fresh intB intB_spec _ _ _ rfl rfl (by kernel_rfl)) (by decide) (by omega)) ?_
              rintro en w5 ⟨zz, rfl, h0, h1, d5, k5⟩
              have k5' : Chg [a] wr w5 := ((Chg.refl [a] wr).alloc _).trans k5
              have HO5 := Lib.hid (HOI.out.chg k5' (fun x hx => by have := HYI.out x hx; simp; omega))
              have HC5 := Lib.hid (HCI.out.trans k5')
              have HD5 := Lib.hid d5
              have HZ := Lib.hid (few_more (z := zz) HNI.out (by omega) (by omega))
              have hY5 := Lib.hid (fun x hx => HYI.out x hx)
              have HAI := Lib.hid (fun (ty : TypeId) => app_int HO5.out zz (by have := HYJ.out; omega) ty)
              clear k5 k5' d5 h0 h1 x0 x1 x2 x3
              go_wp2_with (at_builtin; refine wpApp rfl (.tmp 44) (.tmp 48) 23 rfl _ _ rfl rfl _ (HAI.out _) ?_; rintro v6 w6 ⟨F6, ho6, hf6, hc6⟩; have HO6 := Lib.hid ho6; have HF6 := Lib.hid hf6; have HC6 := Lib.hid hc6; clear ho6 hf6 hc6)
              go_roundw
              case rel =>
                have hs5 := HC5.out.size
                exact ⟨j + 1, y ++ [zz], F6, by go_num, by omega, by rw [List.length_append, HYJ.out]; rfl, HO6.out, fun x hx => by
                  rcases HF6.out x hx with h | h
                  · exact hY5.out x h
                  · omega, HZ.out, (HD5.out.chg HC6.out (fun x hx => by have := hY5.out x hx; omega)).mono (by omega), HC5.out.past HC6.out (fun x hx => .inr (hY5.out x hx))⟩
              case measure => simp [intOf]; omega
            · obtain rfl : j = cs.length := by omega
              have HAR := Lib.hid (fun (ty : TypeId) => HT.out.appR (G := [a]) (E := wr.alloc (.cells #[.slice py y.length cy] 23)) (HCI.out.alloc _) (by simp; omega) ty y py cy Y wr.heap.size 1 ((HOI.out.below ((Below.refl _ _).alloc (Nat.le_refl _) _)).own) HYI.out (by simp [go_sem]) (by omega))
              have HDA := Lib.hid (HDI.out.alloc (.cells #[.slice py y.length cy] 23))
              have HCA := Lib.hid ((HC.out.trans HCI.out).alloc (.cells #[.slice py y.length cy] 23))
              have HKA := Lib.hid ((HKP.out.chg HCI.out (by simp; omega)).below ((Below.refl _ _).alloc (Nat.le_refl _) (.cells #[.slice py y.length cy] 23)))
              go_wp2_with (at_builtin; refine wpApp rfl (.tmp 51) (.tmp 53) 31 rfl _ _ rfl rfl _ (HAR.out _) ?_; rintro v7 w7 ⟨⟨e0, e1, e2, e3, e4⟩, hT7, H7, hH7, hl7⟩; obtain ⟨_, _, q7, c7, _, hv7⟩ := hT7.form; rw [List.length_append, List.length_singleton] at hv7; subst hv7; have HT7 := Lib.hid hT7; have HH7 := Lib.hid hH7; have HL7 := Lib.hid hl7; clear hT7 hH7 hl7)
              go_roundw
              case rel =>
                exact ⟨z - 1, m - 1, ys ++ [y], _, by go_num, by omega, by omega, HT7.out, HF.out.row (by have := HYJ.out; omega) HNI.out, HW.out.row HYJ.out, by simp; omega, (HDA.out.chg HH7.out (fun x hx => by have := HL7.out x hx; omega)).mono (by omega), HCA.out.past HH7.out (fun x hx => .inr (by have := HL7.out x hx; omega)), HKA.out.chg HH7.out (fun x hx => by have := HL7.out x hx; omega)⟩
              case measure => simp [intOf]; omega
        · go_wp2_with fail
          refine Calls.mono (pick_nat 24 a (N + 2 + 50 * (1000 - m)) wo HD.out (by omega) (by decide)) ?_
          rintro en w3 ⟨q2, rfl, hq2, d3, k3⟩
          have HT3 := Lib.hid (HT.out.chg k3 (by simp; omega))
          have HC3 := Lib.hid (HC.out.trans k3)
          have HK3 := Lib.hid (HKP.out.chg k3 (by simp; omega))
          have HD3 := Lib.hid d3
          have har3 : a < w3.heap.size := d3.lt
          clear d3 k3 HT HC HKP HD x0 x1 x2 x3
          obtain ⟨⟨_, hkb3⟩, ⟨x0, x1⟩, ⟨x2, x3⟩, _⟩ := HT3.out
          by_cases hq0 : q2 = 0
          · subst hq0
            go_upto_region 18 with fail
            refine wp_region_E (last := 8) (S := fun w' => w'.cell? ⟨w.heap.size + 1 + 1, 0, none⟩ = some (.slice p1 cs.length c1)) (by kernel_rfl) x0 (fun hHeld => ?_)
            have cW : Below w3.heap.size w3 w3.drew := (Below.refl _ _).drew
            have HK := Lib.hid (fun (E : World) (hE : Chg [a] w3 E) => (HT3.out.chg hE (by simp; omega)).2.1.1)
            have szW : w3.heap.size ≤ w3.drew.heap.size := Nat.le_refl _
            generalize w3.drew = Z0 at cW hHeld szW ⊢
            (refine takeE (i := 0) (v := ?_) [] rfl (by kernel_rfl) (by kernel_rfl) (fun _ _ _ h => h) (Or.inl ⟨by kernel_rfl, ?_⟩) (by assumption) ?_; rotate_left; (focus (intro w hSw; (try dsimp only at hSw); go_simp; first | done | with_reducible rfl | fail "takeE")); (try simp only [Act.put, List.setIfInBounds_toArray, List.set_cons_zero, List.set_cons_succ]))
            (refine takeE (i := 1) (v := ?_) [] rfl (by kernel_rfl) (by kernel_rfl) (fun _ _ _ h => h) (Or.inl ⟨by kernel_rfl, ?_⟩) (by assumption) ?_; rotate_left; (focus (intro w hSw; (try dsimp only at hSw); go_simp; first | done | with_reducible rfl | fail "takeE")); (try simp only [Act.put, List.setIfInBounds_toArray, List.set_cons_zero, List.set_cons_succ]))
            (refine takeE (i := 2) (v := ?_) [] rfl (by kernel_rfl) (by kernel_rfl) (fun _ _ _ h => h) (Or.inl ⟨by kernel_rfl, ?_⟩) (by assumption) ?_; rotate_left; (focus (intro w hSw; (try dsimp only at hSw); go_simp; first | done | with_reducible rfl | fail "takeE")); (try simp only [Act.put, List.setIfInBounds_toArray, List.set_cons_zero, List.set_cons_succ]))
            refine oneE (i := 3) rfl (by kernel_rfl) (by kernel_rfl) (fun K hK => ?_)
            go_simp
            refine made (K := K) strB_spec 3 (by rfl) (by kernel_rfl) ?_
            intro u1 ku1 zu1 sA
            have k1 : Chg [a] w3 u1 := (Chg.of_below cW [a]).trans (ku1.mono (by simp))
            have D1 := Lib.hid (((HD3.out.below cW).chg ku1 (by simp)))
            refine hK.out _ _ (HK.out _ k1) (fun hHeld => ?_)
            clear hK K
            (try simp only [Act.put, List.setIfInBounds_toArray, List.set_cons_zero, List.set_cons_succ])
            refine oneE (i := 4) rfl (by kernel_rfl) (by kernel_rfl) (fun K hK => ?_)
            go_simp
            go_at_call 90
            refine Calls.mono (of_dr a _ Z0.heap.size 3 _ u1 D1.out (by omega) sA (by decide) (by omega)) ?_
            rintro en u2 ⟨s, rfl, hs, du2, ku2⟩
            have k2 : Chg [a] w3 u2 := k1.trans ku2
            have D2 := Lib.hid du2
            have HS := Lib.hid hs
            clear du2 hs sA ku2 ku1
            go_wp2_with fail
            refine hK.out _ _ (HK.out _ k2) (fun hHeld => ?_)
            clear hK K
            (try simp only [Act.put, List.setIfInBounds_toArray, List.set_cons_zero, List.set_cons_succ])
            refine oneE (i := 5) rfl (by kernel_rfl) (by kernel_rfl) (fun K hK => ?_)
            go_simp
            refine hK.out _ _ (HK.out _ (k2.alloc _)) (fun hHeld => ?_)
            clear hK K
            (try simp only [Act.put, List.setIfInBounds_toArray, List.set_cons_zero, List.set_cons_succ])
            refine oneE (i := 6) rfl (by kernel_rfl) (by kernel_rfl) (fun K hK => ?_)
            refine wp_app (.tmp 61) (.tmp 65) 30 (by rfl) _ _ (by rfl) (by rfl) _ (HT3.out.appC (G := [a]) (k2.alloc _) (by simp; omega) _ s _ _ (by simp [go_sem]) (by omega)) ?_
            rintro v' w' ⟨⟨e0, e1, e2, e3, e4⟩, hT6, H6, hH6, hH6l⟩
            obtain ⟨p6, c6, _, _, hv6, _⟩ := hT6.form
            rw [List.length_append, List.length_singleton] at hv6
            subst hv6
            have HT6 := Lib.hid hT6
            have HC6 := Lib.hid ((HC3.out.trans (k2.alloc _)).past hH6 (fun x hx => .inr (by have := hH6l x hx; omega)))
            have HD6 := Lib.hid ((D2.out.alloc _).chg hH6 (fun x hx => by have := hH6l x hx; omega))
            have HK6 := Lib.hid ((HK3.out.chg (k2.alloc _) (by simp; omega)).chg hH6 (fun x hx => by have := hH6l x hx; omega))
            have HF6 := Lib.hid (HF.out.name HS.out)
            clear hT6 hH6 hH6l
            refine hK.out _ _ e0 (fun hHeld => ?_)
            clear hK K
            (try simp only [Act.put, List.setIfInBounds_toArray, List.set_cons_zero, List.set_cons_succ])
            (refine takeE (i := 7) (v := ?_) [] rfl (by kernel_rfl) (by kernel_rfl) (fun _ _ _ h => h) (Or.inl ⟨by kernel_rfl, ?_⟩) (by assumption) ?_; rotate_left; (focus (intro w hSw; (try dsimp only at hSw); go_simp; first | done | with_reducible rfl | fail "takeE")); (try simp only [Act.put, List.setIfInBounds_toArray, List.set_cons_zero, List.set_cons_succ]))
            refine lastE rfl (by kernel_rfl) (by kernel_rfl) (fun K hK => ?_)
            go_simp
            refine hK.out _ _ ?_
            clear hK K
            refine doneE (by kernel_rfl) ?_ _
            clear e0 e1 x0 x1
            obtain ⟨FT, hTH, hTF⟩ := HT6.out.has
            have HTH := Lib.hid hTH
            have HTF := Lib.hid hTF
            obtain ⟨_, hkz, ⟨r0, r1⟩, r2, r3⟩ := HK6.out
            obtain ⟨_, ⟨x0, x1⟩, _, _⟩ := HT6.out
            clear hTH hTF
            go_wp2_with fail
            exact bodyPost_ret (v := .agg #[.slice p6 (cs.length + 1) c6, .slice qb ys.length db]) (by simp [results, Try.results56, go_sem, r0, r1]) rfl ⟨⟨cs ++ [s], ys⟩, _, FT, rfl, HTH.out.chg (G := [w.heap.size]) (((Chg.refl _ _).setCell (by simp) _).setCell (by simp) _) (fun y hy => by have := (HTF.out y hy).1; simp; omega), fun y hy => by have := (HTF.out y hy).1; omega, HF6.out.ok, need_few HF6.out HW.out (by first | omega | (simp; omega) | (simp; done)) (by first | omega | (simp; omega) | (simp; done)) (show cs.length ≤ 10 by omega), ((HD6.out.set (by omega)).set (by omega)).mono (by omega), (HC6.out).past (((Chg.refl [w.heap.size] _).setCell (by simp) _).setCell (by simp) _) (fun x hx => .inr (by simp at hx; omega))⟩
          · have hn0 : ((q2 : Int) == 0) = false := by simp; omega
            by_cases hq1 : q2 = 1
            · subst hq1
              by_cases hr : 0 < ys.length
              · have hr0 : (0 : Int) < (ys.length : Int) := by omega
                have hr1 : decide ((0 : Int) < (ys.length : Int)) = true := decide_eq_true hr0
                have hrl : 0 < ys[0].length := by have := HW.out _ (List.getElem_mem hr); omega
                obtain ⟨bq, cap, r, o, c, hbf, hcap, hlq, hbqs, hlr, hrow, hback⟩ := HT3.out.first (G := [a]) hr hrl
                have HBACK := Lib.hid hback
                simp only [Value.slice.injEq] at hbf
                obtain ⟨rfl, _, rfl⟩ := hbf
                unfold maxLen at hcap
                have hrl0 : (0 : Int) < (ys[0].length : Int) := by omega
                obtain ⟨ln, eln⟩ : ∃ n, n = ys[0].length := ⟨_, rfl⟩
                rw [← eln] at hrow hrl0 hrl
                have hcl9 := HT3.out
                clear hback eln hcl9
                go_upto_region 21 with fail
                refine wp_region_E (last := 8) (S := fun w' => w'.cell? ⟨w.heap.size + 1 + 1, 1, none⟩ = some (.slice (some ⟨bq, 0, none⟩) ys.length db) ∧ w'.cell? ⟨bq, 0, none⟩ = some (.slice (some ⟨r, o, none⟩) ln c)) (by kernel_rfl) ⟨x1, hrow⟩ (fun hHeld => ?_)
                have cW : Below w3.heap.size w3 w3.drew := (Below.refl _ _).drew
                have HK := Lib.hid (fun (E : World) (hE : Chg [a] w3 E) => (⟨(HT3.out.chg hE (by simp; omega)).2.1.2, hE.cellOf (by simp; omega) hrow⟩ : E.cell? ⟨w.heap.size + 1 + 1, 1, none⟩ = some (.slice (some ⟨bq, 0, none⟩) ys.length db) ∧ E.cell? ⟨bq, 0, none⟩ = some (.slice (some ⟨r, o, none⟩) ln c)))
                have szW : w3.heap.size ≤ w3.drew.heap.size := Nat.le_refl _
                generalize w3.drew = Z0 at cW hHeld szW ⊢
                (refine takeE (i := 0) (v := ?_) [] rfl (by kernel_rfl) (by kernel_rfl) (fun _ _ _ h => h) (Or.inl ⟨by kernel_rfl, ?_⟩) (by assumption) ?_; rotate_left; (focus (intro w hSw; (try dsimp only at hSw); go_simp; first | done | with_reducible rfl | fail "takeE")); (try simp only [Act.put, List.setIfInBounds_toArray, List.set_cons_zero, List.set_cons_succ]))
                (refine takeE (i := 1) (v := ?_) [] rfl (by kernel_rfl) (by kernel_rfl) (fun _ _ _ h => h) (Or.inl ⟨by kernel_rfl, ?_⟩) (by assumption) ?_; rotate_left; (focus (intro w hSw; (try dsimp only at hSw); go_simp; first | done | with_reducible rfl | fail "takeE")); (try simp only [Act.put, List.setIfInBounds_toArray, List.set_cons_zero, List.set_cons_succ]))
                (refine takeE (i := 2) (v := ?_) [] rfl (by kernel_rfl) (by kernel_rfl) (fun _ _ _ h => h) (Or.inl ⟨by kernel_rfl, ?_⟩) (by assumption) ?_; rotate_left; (focus (intro w hSw; (try dsimp only at hSw); go_simp; first | done | with_reducible rfl | fail "takeE")); (try simp only [Act.put, List.setIfInBounds_toArray, List.set_cons_zero, List.set_cons_succ]))
                (refine takeE (i := 3) (v := ?_) [] rfl (by kernel_rfl) (by kernel_rfl) (fun _ _ _ h => h) (Or.inl ⟨by kernel_rfl, ?_⟩) (by assumption) ?_; rotate_left; (focus (intro w hSw; (try dsimp only at hSw); go_simp; first | done | with_reducible rfl | fail "takeE")); (try simp only [Act.put, List.setIfInBounds_toArray, List.set_cons_zero, List.set_cons_succ]))
                (refine takeE (i := 4) (v := ?_) [] rfl (by kernel_rfl) (by kernel_rfl) (fun _ _ _ h => h) (Or.inl ⟨by kernel_rfl, ?_⟩) (by assumption) ?_; rotate_left; (focus (intro w hSw; (try dsimp only at hSw); go_simp; first | done | with_reducible rfl | fail "takeE")); (try simp only [Act.put, List.setIfInBounds_toArray, List.set_cons_zero, List.set_cons_succ]))
                refine oneE (i := 5) rfl (by kernel_rfl) (by kernel_rfl) (fun K hK => ?_)
                go_simp
                refine made (K := K)  intQ_spec 3 (by rfl) (by kernel_rfl) ?_
                intro u1 ku1 zu1 sA
                have k1 : Chg [a] w3 u1 := (Chg.of_below cW [a]).trans (ku1.mono (by simp))
                have D1 := Lib.hid (((HD3.out.below cW).chg ku1 (by simp)))
                refine hK.out _ _ (HK.out _ k1) (fun hHeld => ?_)
                clear hK K
                (try simp only [Act.put, List.setIfInBounds_toArray, List.set_cons_zero, List.set_cons_succ])
                refine oneE (i := 6) rfl (by kernel_rfl) (by kernel_rfl) (fun K hK => ?_)
                go_simp
                go_at_call 51
                refine Calls.mono (num_drQ a _ Z0.heap.size 3 _ u1 D1.out (by omega) sA (by decide) (by omega)) ?_
                rintro en u2 ⟨zz, rfl, hz0, hz1, du2, ku2⟩
                have k2 : Chg [a] w3 u2 := k1.trans ku2
                have D2 := Lib.hid du2
                obtain ⟨⟨zo, b0⟩, b1, b2⟩ := HBACK.out u2 k2 (by simp; omega)
                have HT6 := Lib.hid (b2 zz)
                have HF6 := Lib.hid (HF.out.first hr hz0 hz1)
                have HW6 := Lib.hid (HW.out.first hr (z := zz))
                have hst : Chg [r] u2 (u2.setCell ⟨r, o, none⟩ (.int .i64 zz)) := (Chg.refl _ _).setCell (p := ⟨r, o, none⟩) (by simp) _
                have HC6 := Lib.hid ((HC3.out.trans k2).past hst (fun x hx => .inr (by simp at hx; omega)))
                have HD6 := Lib.hid (D2.out.chg hst (fun x hx => by simp at hx; omega))
                have HK6 := Lib.hid ((HK3.out.chg k2 (by simp; omega)).chg hst (fun x hx => by simp at hx; omega))
                clear du2 sA ku2 ku1 b2 hst
                go_wp2_with fail
                refine hK.out _ _ (HK.out _ k2) (fun hHeld => ?_)
                clear hK K
                (try simp only [Act.put, List.setIfInBounds_toArray, List.set_cons_zero, List.set_cons_succ])
                (refine takeE (i := 7) (v := ?_) [] rfl (by kernel_rfl) (by kernel_rfl) (fun _ _ _ h => h) (Or.inl ⟨by kernel_rfl, ?_⟩) (by assumption) ?_; rotate_left; (focus (intro w hSw; (try dsimp only at hSw); go_simp; first | done | with_reducible rfl | fail "takeE")); (try simp only [Act.put, List.setIfInBounds_toArray, List.set_cons_zero, List.set_cons_succ]))
                refine lastE rfl (by kernel_rfl) (by kernel_rfl) (fun K hK => ?_)
                go_simp
                refine hK.out _ _ ?_
                clear hK K
                refine doneE (by kernel_rfl) ?_ _
                clear b0 b1 x0 x1
                obtain ⟨FT, hTH, hTF⟩ := HT6.out.has
                have HTH := Lib.hid hTH
                have HTF := Lib.hid hTF
                obtain ⟨_, hkz, ⟨r0, r1⟩, r2, r3⟩ := HK6.out
                obtain ⟨_, ⟨x0, x1⟩, _, _⟩ := HT6.out
                clear hTH hTF
                go_wp2_with fail
                exact bodyPost_ret (v := .agg #[.slice p1 cs.length c1, .slice (some ⟨bq, 0, none⟩) ys.length db]) (by simp [results, Try.results56, go_sem, r0, r1]) rfl ⟨⟨cs, _⟩, _, FT, rfl, HTH.out.chg (G := [w.heap.size]) (((Chg.refl _ _).setCell (by simp) _).setCell (by simp) _) (fun y hy => by have := (HTF.out y hy).1; simp; omega), fun y hy => by have := (HTF.out y hy).1; omega, HF6.out.ok, need_few HF6.out HW6.out (by first | omega | (simp; omega) | (simp; done)) (by first | omega | (simp; omega) | (simp; done)) (show cs.length ≤ 10 by omega), ((HD6.out.set (by omega)).set (by omega)).mono (by omega), (HC6.out).past (((Chg.refl [w.heap.size] _).setCell (by simp) _).setCell (by simp) _) (fun x hx => .inr (by simp at hx; omega))⟩
              · have hr0 : ys.length = 0 := by omega
                have hr1 : decide ((0 : Int) < (ys.length : Int)) = false := decide_eq_false (by omega)
                clear hr0
                go_upto_region 24 with fail
                clear x0 x1
                obtain ⟨FT, hTH, hTF⟩ := HT3.out.has
                have HTH := Lib.hid hTH
                have HTF := Lib.hid hTF
                obtain ⟨_, hkz, ⟨r0, r1⟩, r2, r3⟩ := HK3.out
                obtain ⟨_, ⟨x0, x1⟩, _, _⟩ := HT3.out
                clear hTH hTF
                go_wp2_with fail
                exact bodyPost_ret (v := .agg #[.slice p1 cs.length c1, .slice qb ys.length db]) (by simp [results, Try.results56, go_sem, r0, r1]) rfl ⟨⟨cs, ys⟩, _, FT, rfl, HTH.out.chg (G := [w.heap.size]) (((Chg.refl _ _).setCell (by simp) _).setCell (by simp) _) (fun y hy => by have := (HTF.out y hy).1; simp; omega), fun y hy => by have := (HTF.out y hy).1; omega, HF.out.ok, need_few HF.out HW.out (by first | omega | (simp; omega) | (simp; done)) (by first | omega | (simp; omega) | (simp; done)) (show cs.length ≤ 10 by omega), ((HD3.out.set (by omega)).set (by omega)).mono (by omega), (HC3.out).past (((Chg.refl [w.heap.size] _).setCell (by simp) _).setCell (by simp) _) (fun x hx => .inr (by simp at hx; omega))⟩
            · have hn1 : ((q2 : Int) == 1) = false := by simp; omega
              by_cases hq2' : q2 = 2
              · subst hq2'
                go_upto_region 24 with fail
                obtain ⟨W4, eW4⟩ : ∃ E, E = (w3.setCell ⟨w.heap.size + 1 + 1, 0, none⟩ (.slice (some ⟨w3.heap.size, 0, none⟩) 0 0)).alloc (.cells #[] 9) := ⟨_, rfl⟩
                rw [← eW4]
                have hst : Chg [w.heap.size + 1 + 1] w3 W4 := by rw [eW4]; exact ((Chg.refl _ _).setCell (by simp) _).alloc _
                have HT6 := Lib.hid (show TDr [] ys (w.heap.size + 1 + 1) (w.heap.size + 2) (.slice (some ⟨w3.heap.size, 0, none⟩) 0 0) (.slice qb ys.length db) W4 by rw [eW4]; exact (HT3.out.clear (G := []) (Chg.refl _ _) (by simp) _).chg (G := []) ((Chg.refl _ _).alloc _) (by simp))
                have HC6 := Lib.hid (HC3.out.past hst (fun x hx => .inr (by simp at hx; omega)))
                have HD6 := Lib.hid (HD3.out.chg hst (fun x hx => by simp at hx; omega))
                have HK6 := Lib.hid (HK3.out.chg hst (fun x hx => by simp at hx; omega))
                have HF6 := Lib.hid (show Few [] ys from ⟨by simp, HF.out.2⟩)
                clear eW4 hst x0 x1
                obtain ⟨FT, hTH, hTF⟩ := HT6.out.has
                have HTH := Lib.hid hTH
                have HTF := Lib.hid hTF
                obtain ⟨_, hkz, ⟨r0, r1⟩, r2, r3⟩ := HK6.out
                obtain ⟨_, ⟨x0, x1⟩, _, _⟩ := HT6.out
                clear hTH hTF
                go_wp2_with fail
                exact bodyPost_ret (v := .agg #[.slice (some ⟨w3.heap.size, 0, none⟩) 0 0, .slice qb ys.length db]) (by simp [results, Try.results56, go_sem, r0, r1]) rfl ⟨⟨[], ys⟩, _, FT, rfl, HTH.out.chg (G := [w.heap.size]) (((Chg.refl _ _).setCell (by simp) _).setCell (by simp) _) (fun y hy => by have := (HTF.out y hy).1; simp; omega), fun y hy => by have := (HTF.out y hy).1; omega, HF6.out.ok, need_few HF6.out HW.out (by first | omega | (simp; omega) | (simp; done)) (by first | omega | (simp; omega) | (simp; done)) (show cs.length ≤ 10 by omega), ((HD6.out.set (by omega)).set (by omega)).mono (by omega), (HC6.out).past (((Chg.refl [w.heap.size] _).setCell (by simp) _).setCell (by simp) _) (fun x hx => .inr (by simp at hx; omega))⟩
              · have hn2 : ((q2 : Int) == 2) = false := by simp; omega
                go_upto_region 24 with fail
                clear x0 x1
                obtain ⟨FT, hTH, hTF⟩ := HT3.out.has
                have HTH := Lib.hid hTH
                have HTF := Lib.hid hTF
                obtain ⟨_, hkz, ⟨r0, r1⟩, r2, r3⟩ := HK3.out
                obtain ⟨_, ⟨x0, x1⟩, _, _⟩ := HT3.out
                clear hTH hTF
                go_wp2_with fail
                exact bodyPost_ret (v := .agg #[.slice p1 cs.length c1, .slice qb ys.length db]) (by simp [results, Try.results56, go_sem, r0, r1]) rfl ⟨⟨cs, ys⟩, _, FT, rfl, HTH.out.chg (G := [w.heap.size]) (((Chg.refl _ _).setCell (by simp) _).setCell (by simp) _) (fun y hy => by have := (HTF.out y hy).1; simp; omega), fun y hy => by have := (HTF.out y hy).1; omega, HF.out.ok, need_few HF.out HW.out (by first | omega | (simp; omega) | (simp; done)) (by first | omega | (simp; omega) | (simp; done)) (show cs.length ≤ 10 by omega), ((HD3.out.set (by omega)).set (by omega)).mono (by omega), (HC3.out).past (((Chg.refl [w.heap.size] _).setCell (by simp) _).setCell (by simp) _) (fun x hx => .inr (by simp at hx; omega))⟩
end Go.Proofs.Ytfdkmngkpihpbaa
