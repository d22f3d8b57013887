/- Lemmas on the data and the memory of this program's values: several texts in one. -/
import Derived.Test.YtbpihiholbidlaaM2q0p1
import Derived.Test.YtbpihiholbidlaaM0q0p1
import Derived.Test.YtbpihiholbidlaaM0q0p2
import Derived.Deep.RegionHeld3
import Derived.Deep.DeepCutAuto
namespace Go.Proofs.Ytbpihiholbidlaa
open Go.RowKit

set_option maxRecDepth 100000 in
set_option maxHeartbeats 4000000 in
theorem l9Same_any (x y : Mt) (v v' : Value) (B : Nat) (w : World) (hx : x.At B w v) (hy : y.At B w v') (hB : B ≤ w.heap.size) (sx : shP x = true) (sy : shP y = true) :
    Calls Try.prog 44 #[v, v'] w fun en w' => en = .returned (.bool (decide (endP x = endP y))) ∧ Below w.heap.size w w' := by
  have px := shP_pos sx
  have py := shP_pos sy
  obtain ⟨a1, a2, a3, rfl, ha, ha2, ha3⟩ := hx
  obtain ⟨b1, b2, b3, rfl, hb, hb2, hb3⟩ := hy
  obtain ⟨pa, ca, rfl⟩ := ha.form
  obtain ⟨pb, cb, rfl⟩ := hb.form
  have hma := ha.max
  have hmb := hb.max
  unfold maxLen at hma hmb
  have HE := Lib.hid (show decide (endP x = endP y) = (decide (x.w.ns[0] = y.w.ns[0]) && decide (x.w.ns[x.w.ns.length - 1] = y.w.ns[y.w.ns.length - 1])) by
    rw [endP_at px, endP_at py, Bool.eq_iff_iff]; simp)
  obtain ⟨g, off, rfl, hg, c0⟩ := ha.it px
  obtain ⟨g', off', e', hg', c1⟩ := ha.it (show x.w.ns.length - 1 < x.w.ns.length by omega)
  cases e'
  obtain ⟨h, of2, rfl, hh, d0⟩ := hb.it py
  obtain ⟨h', of2', e', hh', d1⟩ := hb.it (show y.w.ns.length - 1 < y.w.ns.length by omega)
  cases e'
  simp only [Nat.add_zero] at c0 d0
  obtain ⟨xf, exf⟩ : ∃ z, z = x.w.ns[0] := ⟨_, rfl⟩
  obtain ⟨xl, exl⟩ : ∃ z, z = x.w.ns[x.w.ns.length - 1] := ⟨_, rfl⟩
  obtain ⟨yf, eyf⟩ : ∃ z, z = y.w.ns[0] := ⟨_, rfl⟩
  obtain ⟨yl, eyl⟩ : ∃ z, z = y.w.ns[y.w.ns.length - 1] := ⟨_, rfl⟩
  rw [← exf] at c0 HE
  rw [← exl] at c1 HE
  rw [← eyf] at d0 HE
  rw [← eyl] at d1 HE
  obtain ⟨n, en⟩ : ∃ n, n = x.w.ns.length - 1 := ⟨_, rfl⟩
  obtain ⟨m, em⟩ : ∃ m, m = y.w.ns.length - 1 := ⟨_, rfl⟩
  have enx : x.w.ns.length = n + 1 := by omega
  have eny : y.w.ns.length = m + 1 := by omega
  rw [← en] at c1
  rw [← em] at d1
  rw [enx] at hma ⊢
  rw [eny] at hmb ⊢
  have q0 : (0 : Int) < ((n + 1 : Nat) : Int) := by omega
  have q1 : (0 : Int) < ((m + 1 : Nat) : Int) := by omega
  have q2 : IntKind.i64.wrap (n : Int) = (n : Int) := IntWalk.i64_in _ (by omega)
  have q3 : IntKind.i64.wrap (m : Int) = (m : Int) := IntWalk.i64_in _ (by omega)
  have q4 : (n : Int) < (n : Int) + 1 := by omega
  have q5 : (m : Int) < (m : Int) + 1 := by omega
  clear ha hb ha2 ha3 hb2 hb3 exf exl eyf eyl en em sx sy px py
  obtain ⟨W, eW⟩ : ∃ W, W = (w.alloc (.cells #[.slice (some ⟨g, off, none⟩) (n + 1) ca, a2, a3] 49)).alloc (.cells #[.slice (some ⟨h, of2, none⟩) (m + 1) cb, b2, b3] 49) := ⟨_, rfl⟩
  have kW : Below w.heap.size w W := by rw [eW]; exact ((Below.refl _ _).alloc (Nat.le_refl _) _).alloc (by simp) _
  have HK := Lib.hid (fun (E : World) (hE : Below W.heap.size W E) => (⟨keepc (kW.trans (hE.mono kW.size)) (by omega) c0, keepc (kW.trans (hE.mono kW.size)) (by omega) c1, keepc (kW.trans (hE.mono kW.size)) (by omega) d0, keepc (kW.trans (hE.mono kW.size)) (by omega) d1⟩ : E.cell? ⟨g, off, none⟩ = some (.int .i64 xf) ∧ E.cell? ⟨g, off + n, none⟩ = some (.int .i64 xl) ∧ E.cell? ⟨h, of2, none⟩ = some (.int .i64 yf) ∧ E.cell? ⟨h, of2 + m, none⟩ = some (.int .i64 yl)))
  have EW := Lib.hid eW
  have r0 := Below.refl W.heap.size W
  clear eW c0 c1 d0 d1
  go_enter Try.func44, Try.ntmps44
  go_upto_region 3 with fail
  rw [← EW.out]
  refine wp_region_held_drew (S := fun w' => w'.cell? ⟨g, off, none⟩ = some (.int .i64 xf) ∧ w'.cell? ⟨g, off + n, none⟩ = some (.int .i64 xl) ∧ w'.cell? ⟨h, of2, none⟩ = some (.int .i64 yf) ∧ w'.cell? ⟨h, of2 + m, none⟩ = some (.int .i64 yl)) (by kernel_rfl) ?_ (fun hHeld => ?_)
  · exact HK.out _ (show Below W.heap.size W _ by ((repeat (first | with_reducible assumption | with_reducible exact Below.refl _ _ | refine Below.setCell ?_ (by (first | omega | (simp; omega) | (simp; done) | fail "sml")) _ | refine Below.drew ?_ | refine Below.alloc ?_ (by (first | omega | (simp; omega) | (simp; done) | fail "sml")) _)); first | done | fail "chs"))
  cases h0 : (xf == yf) with
  | false =>
    have HR := Lib.hid (show decide (endP x = endP y) = false by rw [HE.out, decide_eq_false (by simpa using h0)]; rfl)
    (refine takeL (i := 0) (v := ?_) rfl (by kernel_rfl) (by kernel_rfl) (by kernel_rfl) (fun _ _ _ h => h) (Or.inl ⟨by kernel_rfl, ?_⟩) (by assumption) ?_; rotate_left; (focus (intro w hSw; (try dsimp only at hSw); go_simp; first | done | with_reducible rfl | fail "take")); (try simp only [Act.put, List.setIfInBounds_toArray, List.set_cons_zero, List.set_cons_succ]))
    (refine takeL (i := 1) (v := ?_) rfl (by kernel_rfl) (by kernel_rfl) (by kernel_rfl) (fun _ _ _ h => h) (Or.inl ⟨by kernel_rfl, ?_⟩) (by assumption) ?_; rotate_left; (focus (intro w hSw; (try dsimp only at hSw); go_simp; first | done | with_reducible rfl | fail "take")); (try simp only [Act.put, List.setIfInBounds_toArray, List.set_cons_zero, List.set_cons_succ]))
    (refine takeL (i := 2) (v := ?_) rfl (by kernel_rfl) (by kernel_rfl) (by kernel_rfl) (fun _ _ _ h => h) (Or.inl ⟨by kernel_rfl, ?_⟩) (by assumption) ?_; rotate_left; (focus (intro w hSw; (try dsimp only at hSw); go_simp; first | done | with_reducible rfl | fail "take")); (try simp only [Act.put, List.setIfInBounds_toArray, List.set_cons_zero, List.set_cons_succ]))
    (refine takeL (i := 3) (v := ?_) rfl (by kernel_rfl) (by kernel_rfl) (by kernel_rfl) (fun _ _ _ h => h) (Or.inl ⟨by kernel_rfl, ?_⟩) (by assumption) ?_; rotate_left; (focus (intro w hSw; (try dsimp only at hSw); go_simp; first | done | with_reducible rfl | fail "take")); (try simp only [Act.put, List.setIfInBounds_toArray, List.set_cons_zero, List.set_cons_succ]))
    (refine takeL (i := 4) (v := ?_) rfl (by kernel_rfl) (by kernel_rfl) (by kernel_rfl) (fun _ _ _ h => h) (Or.inl ⟨by kernel_rfl, ?_⟩) (by assumption) ?_; rotate_left; (focus (intro w hSw; (try dsimp only at hSw); go_simp; first | done | with_reducible rfl | fail "take")); (try simp only [Act.put, List.setIfInBounds_toArray, List.set_cons_zero, List.set_cons_succ]))
    (refine takeL (i := 5) (v := ?_) rfl (by kernel_rfl) (by kernel_rfl) (by kernel_rfl) (fun _ _ _ h => h) (Or.inl ⟨by kernel_rfl, ?_⟩) (by assumption) ?_; rotate_left; (focus (intro w hSw; (try dsimp only at hSw); go_simp; first | done | with_reducible rfl | fail "take")); (try simp only [Act.put, List.setIfInBounds_toArray, List.set_cons_zero, List.set_cons_succ]))
    (refine takeL (i := 6) (v := ?_) rfl (by kernel_rfl) (by kernel_rfl) (by kernel_rfl) (fun _ _ _ h => h) (Or.inl ⟨by kernel_rfl, ?_⟩) (by assumption) ?_; rotate_left; (focus (intro w hSw; (try dsimp only at hSw); go_simp; first | done | with_reducible rfl | fail "take")); (try simp only [Act.put, List.setIfInBounds_toArray, List.set_cons_zero, List.set_cons_succ]))
    (refine takeL (i := 7) (v := ?_) rfl (by kernel_rfl) (by kernel_rfl) (by kernel_rfl) (fun _ _ _ h => h) (Or.inl ⟨by kernel_rfl, ?_⟩) (by assumption) ?_; rotate_left; (focus (intro w hSw; (try dsimp only at hSw); go_simp; first | done | with_reducible rfl | fail "take")); (try simp only [Act.put, List.setIfInBounds_toArray, List.set_cons_zero, List.set_cons_succ]))
    (refine takeL (i := 8) (v := undef) rfl (by kernel_rfl) (by kernel_rfl) (by kernel_rfl) (fun _ _ _ h => h) (Or.inr ⟨by kernel_rfl, rfl⟩) (by assumption) ?_; (try simp only [Act.put, List.setIfInBounds_toArray, List.set_cons_zero, List.set_cons_succ]))
    (refine takeL (i := 9) (v := undef) rfl (by kernel_rfl) (by kernel_rfl) (by kernel_rfl) (fun _ _ _ h => h) (Or.inr ⟨by kernel_rfl, rfl⟩) (by assumption) ?_; (try simp only [Act.put, List.setIfInBounds_toArray, List.set_cons_zero, List.set_cons_succ]))
    (refine takeL (i := 10) (v := undef) rfl (by kernel_rfl) (by kernel_rfl) (by kernel_rfl) (fun _ _ _ h => h) (Or.inr ⟨by kernel_rfl, rfl⟩) (by assumption) ?_; (try simp only [Act.put, List.setIfInBounds_toArray, List.set_cons_zero, List.set_cons_succ]))
    (refine takeL (i := 11) (v := undef) rfl (by kernel_rfl) (by kernel_rfl) (by kernel_rfl) (fun _ _ _ h => h) (Or.inr ⟨by kernel_rfl, rfl⟩) (by assumption) ?_; (try simp only [Act.put, List.setIfInBounds_toArray, List.set_cons_zero, List.set_cons_succ]))
    (refine takeL (i := 12) (v := undef) rfl (by kernel_rfl) (by kernel_rfl) (by kernel_rfl) (fun _ _ _ h => h) (Or.inr ⟨by kernel_rfl, rfl⟩) (by assumption) ?_; (try simp only [Act.put, List.setIfInBounds_toArray, List.set_cons_zero, List.set_cons_succ]))
    (refine takeL (i := 13) (v := undef) rfl (by kernel_rfl) (by kernel_rfl) (by kernel_rfl) (fun _ _ _ h => h) (Or.inr ⟨by kernel_rfl, rfl⟩) (by assumption) ?_; (try simp only [Act.put, List.setIfInBounds_toArray, List.set_cons_zero, List.set_cons_succ]))
    (refine takeL (i := 14) (v := undef) rfl (by kernel_rfl) (by kernel_rfl) (by kernel_rfl) (fun _ _ _ h => h) (Or.inr ⟨by kernel_rfl, rfl⟩) (by assumption) ?_; (try simp only [Act.put, List.setIfInBounds_toArray, List.set_cons_zero, List.set_cons_succ]))
    (refine takeL (i := 15) (v := undef) rfl (by kernel_rfl) (by kernel_rfl) (by kernel_rfl) (fun _ _ _ h => h) (Or.inr ⟨by kernel_rfl, rfl⟩) (by assumption) ?_; (try simp only [Act.put, List.setIfInBounds_toArray, List.set_cons_zero, List.set_cons_succ]))
    (refine takeL (i := 16) (v := undef) rfl (by kernel_rfl) (by kernel_rfl) (by kernel_rfl) (fun _ _ _ h => h) (Or.inr ⟨by kernel_rfl, rfl⟩) (by assumption) ?_; (try simp only [Act.put, List.setIfInBounds_toArray, List.set_cons_zero, List.set_cons_succ]))
    (refine takeL (i := 17) (v := undef) rfl (by kernel_rfl) (by kernel_rfl) (by kernel_rfl) (fun _ _ _ h => h) (Or.inr ⟨by kernel_rfl, rfl⟩) (by assumption) ?_; (try simp only [Act.put, List.setIfInBounds_toArray, List.set_cons_zero, List.set_cons_succ]))
    (refine takeL (i := 18) (v := undef) rfl (by kernel_rfl) (by kernel_rfl) (by kernel_rfl) (fun _ _ _ h => h) (Or.inr ⟨by kernel_rfl, rfl⟩) (by assumption) ?_; (try simp only [Act.put, List.setIfInBounds_toArray, List.set_cons_zero, List.set_cons_succ]))
    (refine takeL (i := 19) (v := undef) rfl (by kernel_rfl) (by kernel_rfl) (by kernel_rfl) (fun _ _ _ h => h) (Or.inr ⟨by kernel_rfl, rfl⟩) (by assumption) ?_; (try simp only [Act.put, List.setIfInBounds_toArray, List.set_cons_zero, List.set_cons_succ]))
    (refine takeL (i := 20) (v := undef) rfl (by kernel_rfl) (by kernel_rfl) (by kernel_rfl) (fun _ _ _ h => h) (Or.inr ⟨by kernel_rfl, rfl⟩) (by assumption) ?_; (try simp only [Act.put, List.setIfInBounds_toArray, List.set_cons_zero, List.set_cons_succ]))
    (refine takeL (i := 21) (v := ?_) rfl (by kernel_rfl) (by kernel_rfl) (by kernel_rfl) (fun _ _ _ h => h) (Or.inl ⟨by kernel_rfl, ?_⟩) (by assumption) ?_; rotate_left; (focus (intro w hSw; (try dsimp only at hSw); go_simp; first | done | with_reducible rfl | fail "take")); (try simp only [Act.put, List.setIfInBounds_toArray, List.set_cons_zero, List.set_cons_succ]))
    (refine takeL (i := 22) (v := ?_) rfl (by kernel_rfl) (by kernel_rfl) (by kernel_rfl) (fun _ _ _ h => h) (Or.inl ⟨by kernel_rfl, ?_⟩) (by assumption) ?_; rotate_left; (focus (intro w hSw; (try dsimp only at hSw); go_simp; first | done | with_reducible rfl | fail "take")); (try simp only [Act.put, List.setIfInBounds_toArray, List.set_cons_zero, List.set_cons_succ]))
    refine wpAnyH_done (by kernel_rfl) ?_ _
    go_wp2_with fail
    go_ret
    exact ⟨ret_bool (by rw [HR.out]), kW.drew⟩
  | true =>
    have HR := Lib.hid (show decide (endP x = endP y) = (xl == yl) by rw [HE.out, decide_eq_true (by simpa using h0), Bool.eq_iff_iff]; simp)
    (refine takeL (i := 0) (v := ?_) rfl (by kernel_rfl) (by kernel_rfl) (by kernel_rfl) (fun _ _ _ h => h) (Or.inl ⟨by kernel_rfl, ?_⟩) (by assumption) ?_; rotate_left; (focus (intro w hSw; (try dsimp only at hSw); go_simp; first | done | with_reducible rfl | fail "take")); (try simp only [Act.put, List.setIfInBounds_toArray, List.set_cons_zero, List.set_cons_succ]))
    (refine takeL (i := 1) (v := ?_) rfl (by kernel_rfl) (by kernel_rfl) (by kernel_rfl) (fun _ _ _ h => h) (Or.inl ⟨by kernel_rfl, ?_⟩) (by assumption) ?_; rotate_left; (focus (intro w hSw; (try dsimp only at hSw); go_simp; first | done | with_reducible rfl | fail "take")); (try simp only [Act.put, List.setIfInBounds_toArray, List.set_cons_zero, List.set_cons_succ]))
    (refine takeL (i := 2) (v := ?_) rfl (by kernel_rfl) (by kernel_rfl) (by kernel_rfl) (fun _ _ _ h => h) (Or.inl ⟨by kernel_rfl, ?_⟩) (by assumption) ?_; rotate_left; (focus (intro w hSw; (try dsimp only at hSw); go_simp; first | done | with_reducible rfl | fail "take")); (try simp only [Act.put, List.setIfInBounds_toArray, List.set_cons_zero, List.set_cons_succ]))
    (refine takeL (i := 3) (v := ?_) rfl (by kernel_rfl) (by kernel_rfl) (by kernel_rfl) (fun _ _ _ h => h) (Or.inl ⟨by kernel_rfl, ?_⟩) (by assumption) ?_; rotate_left; (focus (intro w hSw; (try dsimp only at hSw); go_simp; first | done | with_reducible rfl | fail "take")); (try simp only [Act.put, List.setIfInBounds_toArray, List.set_cons_zero, List.set_cons_succ]))
    (refine takeL (i := 4) (v := ?_) rfl (by kernel_rfl) (by kernel_rfl) (by kernel_rfl) (fun _ _ _ h => h) (Or.inl ⟨by kernel_rfl, ?_⟩) (by assumption) ?_; rotate_left; (focus (intro w hSw; (try dsimp only at hSw); go_simp; first | done | with_reducible rfl | fail "take")); (try simp only [Act.put, List.setIfInBounds_toArray, List.set_cons_zero, List.set_cons_succ]))
    (refine takeL (i := 5) (v := ?_) rfl (by kernel_rfl) (by kernel_rfl) (by kernel_rfl) (fun _ _ _ h => h) (Or.inl ⟨by kernel_rfl, ?_⟩) (by assumption) ?_; rotate_left; (focus (intro w hSw; (try dsimp only at hSw); go_simp; first | done | with_reducible rfl | fail "take")); (try simp only [Act.put, List.setIfInBounds_toArray, List.set_cons_zero, List.set_cons_succ]))
    (refine takeL (i := 6) (v := ?_) rfl (by kernel_rfl) (by kernel_rfl) (by kernel_rfl) (fun _ _ _ h => h) (Or.inl ⟨by kernel_rfl, ?_⟩) (by assumption) ?_; rotate_left; (focus (intro w hSw; (try dsimp only at hSw); go_simp; first | done | with_reducible rfl | fail "take")); (try simp only [Act.put, List.setIfInBounds_toArray, List.set_cons_zero, List.set_cons_succ]))
    (refine takeL (i := 7) (v := ?_) rfl (by kernel_rfl) (by kernel_rfl) (by kernel_rfl) (fun _ _ _ h => h) (Or.inl ⟨by kernel_rfl, ?_⟩) (by assumption) ?_; rotate_left; (focus (intro w hSw; (try dsimp only at hSw); go_simp; first | done | with_reducible rfl | fail "take")); (try simp only [Act.put, List.setIfInBounds_toArray, List.set_cons_zero, List.set_cons_succ]))
    (refine takeL (i := 8) (v := ?_) rfl (by kernel_rfl) (by kernel_rfl) (by kernel_rfl) (fun _ _ _ h => h) (Or.inl ⟨by kernel_rfl, ?_⟩) (by assumption) ?_; rotate_left; (focus (intro w hSw; (try dsimp only at hSw); go_simp; first | done | with_reducible rfl | fail "take")); (try simp only [Act.put, List.setIfInBounds_toArray, List.set_cons_zero, List.set_cons_succ]))
    (refine takeL (i := 9) (v := ?_) rfl (by kernel_rfl) (by kernel_rfl) (by kernel_rfl) (fun _ _ _ h => h) (Or.inl ⟨by kernel_rfl, ?_⟩) (by assumption) ?_; rotate_left; (focus (intro w hSw; (try dsimp only at hSw); go_simp; first | done | with_reducible rfl | fail "take")); (try simp only [Act.put, List.setIfInBounds_toArray, List.set_cons_zero, List.set_cons_succ]))
    (refine takeL (i := 10) (v := ?_) rfl (by kernel_rfl) (by kernel_rfl) (by kernel_rfl) (fun _ _ _ h => h) (Or.inl ⟨by kernel_rfl, ?_⟩) (by assumption) ?_; rotate_left; (focus (intro w hSw; (try dsimp only at hSw); go_simp; first | done | with_reducible rfl | fail "take")); (try simp only [Act.put, List.setIfInBounds_toArray, List.set_cons_zero, List.set_cons_succ]))
    (refine takeL (i := 11) (v := ?_) rfl (by kernel_rfl) (by kernel_rfl) (by kernel_rfl) (fun _ _ _ h => h) (Or.inl ⟨by kernel_rfl, ?_⟩) (by assumption) ?_; rotate_left; (focus (intro w hSw; (try dsimp only at hSw); go_simp; first | done | with_reducible rfl | fail "take")); (try simp only [Act.put, List.setIfInBounds_toArray, List.set_cons_zero, List.set_cons_succ]))
    (refine takeL (i := 12) (v := ?_) rfl (by kernel_rfl) (by kernel_rfl) (by kernel_rfl) (fun _ _ _ h => h) (Or.inl ⟨by kernel_rfl, ?_⟩) (by assumption) ?_; rotate_left; (focus (intro w hSw; (try dsimp only at hSw); go_simp; first | done | with_reducible rfl | fail "take")); (try simp only [Act.put, List.setIfInBounds_toArray, List.set_cons_zero, List.set_cons_succ]))
    (refine takeL (i := 13) (v := ?_) rfl (by kernel_rfl) (by kernel_rfl) (by kernel_rfl) (fun _ _ _ h => h) (Or.inl ⟨by kernel_rfl, ?_⟩) (by assumption) ?_; rotate_left; (focus (intro w hSw; (try dsimp only at hSw); go_simp; first | done | with_reducible rfl | fail "take")); (try simp only [Act.put, List.setIfInBounds_toArray, List.set_cons_zero, List.set_cons_succ]))
    (refine takeL (i := 14) (v := ?_) rfl (by kernel_rfl) (by kernel_rfl) (by kernel_rfl) (fun _ _ _ h => h) (Or.inl ⟨by kernel_rfl, ?_⟩) (by assumption) ?_; rotate_left; (focus (intro w hSw; (try dsimp only at hSw); go_simp; first | done | with_reducible rfl | fail "take")); (try simp only [Act.put, List.setIfInBounds_toArray, List.set_cons_zero, List.set_cons_succ]))
    (refine takeL (i := 15) (v := ?_) rfl (by kernel_rfl) (by kernel_rfl) (by kernel_rfl) (fun _ _ _ h => h) (Or.inl ⟨by kernel_rfl, ?_⟩) (by assumption) ?_; rotate_left; (focus (intro w hSw; (try dsimp only at hSw); go_simp; first | done | with_reducible rfl | fail "take")); (try simp only [Act.put, List.setIfInBounds_toArray, List.set_cons_zero, List.set_cons_succ]))
    (refine takeL (i := 16) (v := ?_) rfl (by kernel_rfl) (by kernel_rfl) (by kernel_rfl) (fun _ _ _ h => h) (Or.inl ⟨by kernel_rfl, ?_⟩) (by assumption) ?_; rotate_left; (focus (intro w hSw; (try dsimp only at hSw); go_simp; first | done | with_reducible rfl | fail "take")); (try simp only [Act.put, List.setIfInBounds_toArray, List.set_cons_zero, List.set_cons_succ]))
    (refine takeL (i := 17) (v := ?_) rfl (by kernel_rfl) (by kernel_rfl) (by kernel_rfl) (fun _ _ _ h => h) (Or.inl ⟨by kernel_rfl, ?_⟩) (by assumption) ?_; rotate_left; (focus (intro w hSw; (try dsimp only at hSw); go_simp; first | done | with_reducible rfl | fail "take")); (try simp only [Act.put, List.setIfInBounds_toArray, List.set_cons_zero, List.set_cons_succ]))
    (refine takeL (i := 18) (v := ?_) rfl (by kernel_rfl) (by kernel_rfl) (by kernel_rfl) (fun _ _ _ h => h) (Or.inl ⟨by kernel_rfl, ?_⟩) (by assumption) ?_; rotate_left; (focus (intro w hSw; (try dsimp only at hSw); go_simp; first | done | with_reducible rfl | fail "take")); (try simp only [Act.put, List.setIfInBounds_toArray, List.set_cons_zero, List.set_cons_succ]))
    (refine takeL (i := 19) (v := ?_) rfl (by kernel_rfl) (by kernel_rfl) (by kernel_rfl) (fun _ _ _ h => h) (Or.inl ⟨by kernel_rfl, ?_⟩) (by assumption) ?_; rotate_left; (focus (intro w hSw; (try dsimp only at hSw); go_simp; first | done | with_reducible rfl | fail "take")); (try simp only [Act.put, List.setIfInBounds_toArray, List.set_cons_zero, List.set_cons_succ]))
    (refine takeL (i := 20) (v := ?_) rfl (by kernel_rfl) (by kernel_rfl) (by kernel_rfl) (fun _ _ _ h => h) (Or.inl ⟨by kernel_rfl, ?_⟩) (by assumption) ?_; rotate_left; (focus (intro w hSw; (try dsimp only at hSw); go_simp; first | done | with_reducible rfl | fail "take")); (try simp only [Act.put, List.setIfInBounds_toArray, List.set_cons_zero, List.set_cons_succ]))
    (refine takeL (i := 21) (v := ?_) rfl (by kernel_rfl) (by kernel_rfl) (by kernel_rfl) (fun _ _ _ h => h) (Or.inl ⟨by kernel_rfl, ?_⟩) (by assumption) ?_; rotate_left; (focus (intro w hSw; (try dsimp only at hSw); go_simp; first | done | with_reducible rfl | fail "take")); (try simp only [Act.put, List.setIfInBounds_toArray, List.set_cons_zero, List.set_cons_succ]))
    (refine takeL (i := 22) (v := ?_) rfl (by kernel_rfl) (by kernel_rfl) (by kernel_rfl) (fun _ _ _ h => h) (Or.inl ⟨by kernel_rfl, ?_⟩) (by assumption) ?_; rotate_left; (focus (intro w hSw; (try dsimp only at hSw); go_simp; first | done | with_reducible rfl | fail "take")); (try simp only [Act.put, List.setIfInBounds_toArray, List.set_cons_zero, List.set_cons_succ]))
    refine wpAnyH_done (by kernel_rfl) ?_ _
    go_wp2_with fail
    go_ret
    exact ⟨ret_bool (by rw [HR.out]), kW.drew⟩

set_option maxRecDepth 100000 in
set_option maxHeartbeats 4000000 in
theorem l9Before_any (xs : List Mt) (v : Value) (at_ : Nat) (B : Nat) (w : World) (hv : kMt.Rd B w v xs) (hB : B ≤ w.heap.size) (hat : at_ < xs.length) (hsh : xs.all shP = true) :
    Calls Try.prog 36 #[v, .int .i64 at_] w fun en w' => en = .returned (.int .i64 (befN xs (endP xs[at_]) at_)) ∧ Below w.heap.size w w' := by
  obtain ⟨p, cap, rfl⟩ := hv.form
  obtain ⟨_, hm1, hm2⟩ := hv.max
  unfold maxLen at hm2
  have HV := Lib.hid hv
  have HSH := Lib.hid (List.all_eq_true.1 hsh)
  obtain ⟨Y, eY⟩ : ∃ Y, Y = endP xs[at_] := ⟨_, rfl⟩
  rw [← eY]
  have HEY := Lib.hid eY
  clear hv hsh eY
  go_enter Try.func36, Try.ntmps36
  go_wp2_with fail
  go_loopw [5, 6] (fun nn i wr => ∃ k : Nat, k ≤ at_ ∧ i = .int .i64 k ∧ nn = .int .i64 (befN xs Y k) ∧ Below w.heap.size w wr) (fun _ i _ => at_ - (intOf i).toNat)
  case atStart => exact ⟨0, Nat.zero_le _, rfl, by rw [befN_zero]; rfl, Below.refl _ _⟩
  case round =>
    obtain ⟨k, hk, rfl, rfl, hbw⟩ := hrel
    have hsz := hbw.size
    have HB := Lib.hid hbw
    clear hbw
    by_cases hlt : k < at_
    · have hlk : k < xs.length := by omega
      have hki : (k : Int) < (at_ : Int) := by omega
      have hkx : (k : Int) < (xs.length : Int) := by omega
      have hax : (at_ : Int) < (xs.length : Int) := by omega
      obtain ⟨b, off, q, d, q2, d2, r, e, rfl, hb, c0, c1, c2, hin⟩ := kMt_get (HV.out.to (HB.out.mono hB) (Nat.le_refl _)) hlk
      obtain ⟨b', off', q', d', q2', d2', r', e', ee, hb', g0, g1, g2, hin'⟩ := kMt_get (HV.out.to (HB.out.mono hB) (Nat.le_refl _)) hat
      cases ee
      have hsx := HSH.out _ (List.getElem_mem hlk)
      have hsy := HSH.out _ (List.getElem_mem hat)
      have hN := befN_succ hlk Y
      have HLE := Lib.hid (show befN xs Y k ≤ 9223372036854775806 from Nat.le_trans (befN_le xs Y k) (by omega))
      have HKA := Lib.hid (show k + 1 ≤ at_ by omega)
      obtain ⟨x, ex⟩ : ∃ x, x = xs[k] := ⟨_, rfl⟩
      obtain ⟨y, ey⟩ : ∃ y, y = xs[at_] := ⟨_, rfl⟩
      rw [← ex] at c0 c1 c2 hin hsx hN
      rw [← ey] at g0 g1 g2 hin' hsy
      have HEY2 := Lib.hid (show Y = endP y by rw [HEY.out, ey])
      have HIN := Lib.hid hin
      have HIN2 := Lib.hid hin'
      have HN := Lib.hid hN
      have HSX := Lib.hid hsx
      have HSY := Lib.hid hsy
      have hbr : b < wr.heap.size := by omega
      have HK := Lib.hid (fun (E : World) (hE : Below wr.heap.size wr E) => (⟨⟨keepc hE hbr c0, keepc hE hbr c1, keepc hE hbr c2⟩, keepc hE hbr g0, keepc hE hbr g1, keepc hE hbr g2⟩ : (E.cell? ⟨b, off + k * 3, none⟩ = some (.slice q x.w.ns.length d) ∧ E.cell? ⟨b, off + k * 3 + 1, none⟩ = some (.slice q2 x.w.es.length d2) ∧ E.cell? ⟨b, off + k * 3 + 2, none⟩ = some (.slice r x.bs.length e)) ∧ E.cell? ⟨b, off + at_ * 3, none⟩ = some (.slice q' y.w.ns.length d') ∧ E.cell? ⟨b, off + at_ * 3 + 1, none⟩ = some (.slice q2' y.w.es.length d2') ∧ E.cell? ⟨b, off + at_ * 3 + 2, none⟩ = some (.slice r' y.bs.length e')))
      have CSM := Lib.hid (fun (E : World) (hE : Below wr.heap.size wr E) => ((by rw [HEY2.out]; exact l9Same_any x y (.agg #[.slice q x.w.ns.length d, .slice q2 x.w.es.length d2, .slice r x.bs.length e]) (.agg #[.slice q' y.w.ns.length d', .slice q2' y.w.es.length d2', .slice r' y.bs.length e']) B E (HIN.out.to (hE.mono (by omega)) (Nat.le_refl _)) (HIN2.out.to (hE.mono (by omega)) (Nat.le_refl _)) (by have := hE.size; omega) HSX.out HSY.out) : Calls Try.prog 44 #[.agg #[.slice q x.w.ns.length d, .slice q2 x.w.es.length d2, .slice r x.bs.length e], .agg #[.slice q' y.w.ns.length d', .slice q2' y.w.es.length d2', .slice r' y.bs.length e']] E (fun en w' => en = .returned (.bool (decide (endP x = Y))) ∧ Below E.heap.size E w')))
      have r0 := Below.refl wr.heap.size wr
      clear c0 c1 c2 g0 g1 g2 hin hin' hN hsx hsy ex ey
      go_upto_region 5 with fail
      go_cut [20] (fun s wx => s = .bool (decide (endP x = Y)) ∧ Below wr.heap.size wr wx)
      case first =>
        go_region_held3 (fun w' => (w'.cell? ⟨b, off + k * 3, none⟩ = some (.slice q x.w.ns.length d) ∧ w'.cell? ⟨b, off + k * 3 + 1, none⟩ = some (.slice q2 x.w.es.length d2) ∧ w'.cell? ⟨b, off + k * 3 + 2, none⟩ = some (.slice r x.bs.length e)) ∧ w'.cell? ⟨b, off + at_ * 3, none⟩ = some (.slice q' y.w.ns.length d') ∧ w'.cell? ⟨b, off + at_ * 3 + 1, none⟩ = some (.slice q2' y.w.es.length d2') ∧ w'.cell? ⟨b, off + at_ * 3 + 2, none⟩ = some (.slice r' y.bs.length e'))
          (exact HK.out _ (show Below wr.heap.size wr _ by ((repeat (first | with_reducible assumption | with_reducible exact Below.refl _ _ | refine Below.setCell ?_ (by (first | omega | (simp; omega) | (simp; done) | fail "sml")) _ | refine Below.drew ?_ | refine Below.alloc ?_ (by (first | omega | (simp; omega) | (simp; done) | fail "sml")) _)); first | done | fail "chs")))
          (first | (go_at_call 44; with_reducible refine (CSM.out _ (show Below wr.heap.size wr _ by ((repeat (first | with_reducible assumption | with_reducible exact Below.refl _ _ | refine Below.setCell ?_ (by (first | omega | (simp; omega) | (simp; done) | fail "sml")) _ | refine Below.drew ?_ | refine Below.alloc ?_ (by (first | omega | (simp; omega) | (simp; done) | fail "sml")) _)); first | done | fail "chs"))).mono ?_; rintro en wa ⟨rfl, hb⟩; have ra := Below.trans (show Below wr.heap.size wr _ by ((repeat (first | with_reducible assumption | with_reducible exact Below.refl _ _ | refine Below.setCell ?_ (by (first | omega | (simp; omega) | (simp; done) | fail "sml")) _ | refine Below.drew ?_ | refine Below.alloc ?_ (by (first | omega | (simp; omega) | (simp; done) | fail "sml")) _)); first | done | fail "chs")) (hb.mono (by (first | omega | (simp; omega) | (simp; done) | fail "sml"))); have za := ra.size; clear hb) | fail "no arm")
        all_goals (go_wp2_with fail; go_meet)
        all_goals exact ⟨rfl, by ((repeat (first | with_reducible assumption | with_reducible exact Below.refl _ _ | refine Below.setCell ?_ (by (first | omega | (simp; omega) | (simp; done) | fail "sml")) _ | refine Below.drew ?_ | refine Below.alloc ?_ (by (first | omega | (simp; omega) | (simp; done) | fail "sml")) _)); first | done | fail "chs")⟩
      case rest =>
        obtain ⟨rfl, hbx⟩ := hcut
        by_cases hend : endP x = Y
        · have HX := Lib.hid (show befN xs Y (k + 1) = befN xs Y k + 1 by rw [HN.out, if_pos hend])
          have HW := Lib.hid (show RowKit.wrap64 ((befN xs Y k : Int) + 1) = ((befN xs Y (k + 1) : Nat) : Int) by rw [HX.out, ← IntWalk.i64_left, IntWalk.i64_in _ (by have := HLE.out; omega)]; rfl)
          have hd : decide (endP x = Y) = true := decide_eq_true hend
          rw [hd]
          clear hend hd
          go_wp2_with fail
          go_roundw
          case rel => exact ⟨k + 1, HKA.out, by go_num, congrArg (Value.int .i64) HW.out, HB.out.trans (hbx.mono hsz)⟩
          case measure => have := HKA.out; simp [intOf]; omega
        · have HX := Lib.hid (show befN xs Y (k + 1) = befN xs Y k by rw [HN.out, if_neg hend]; rfl)
          have hd : decide (endP x = Y) = false := decide_eq_false hend
          rw [hd]
          clear hend hd
          go_wp2_with fail
          go_roundw
          case rel => exact ⟨k + 1, HKA.out, by go_num, by rw [HX.out], HB.out.trans (hbx.mono hsz)⟩
          case measure => have := HKA.out; simp [intOf]; omega
    · obtain rfl : k = at_ := by omega
      go_wp2_with fail
      go_ret
      exact ⟨rfl, HB.out⟩

set_option maxRecDepth 100000 in
set_option maxHeartbeats 4000000 in
theorem specFirstMatches_any (xs : List Mt) (v : Value) (n : Int) (B : Nat) (w : World) (hv : kMt.Rd B w v xs) (hB : B ≤ w.heap.size) (hn : xs.length + sumMt xs ≤ 1048576) :
    Calls Try.prog 15 #[v, .int .i64 n] w (MbPost (firstR n xs) (okF n xs) w) := by
  obtain ⟨p, cap, rfl⟩ := hv.form
  obtain ⟨_, hm1, hm2⟩ := hv.max
  unfold maxLen at hm2
  have HV := Lib.hid hv
  clear hv
  obtain ⟨W, eW⟩ : ∃ W, W = w.alloc (.cells #[] 49) := ⟨_, rfl⟩
  have kW : Below w.heap.size w W := by rw [eW]; exact (Below.refl _ _).alloc (Nat.le_refl _) _
  have EW := Lib.hid eW
  clear eW
  go_enter Try.func15, Try.ntmps15
  go_wp2_with fail
  rw [← EW.out]
  refine (l9Shape_any xs _ B W (HV.out.to (kW.mono hB) (Nat.le_refl _)) (Nat.le_trans hB kW.size) (by omega)).mono ?_
  rintro en w1 ⟨rfl, hb1⟩
  have r1 : Below w.heap.size w w1 := kW.trans (hb1.mono kW.size)
  clear hb1
  cases hE : xs.all shP with
  | false =>
    have HO := Lib.hid (show okF n xs = false by unfold okF; rw [hE]; rfl)
    have HR := Lib.hid (show firstR n xs = [] by unfold firstR; rw [HO.out]; rfl)
    clear hE
    go_wp2_with fail
    refine bodyPost_ret (v := .tuple #[.slice (some ⟨w.heap.size, 0, none⟩) 0 0, .bool false]) (by simp [results, Try.results15, go_sem]) rfl ?_
    exact ⟨_, [], by rw [HO.out], by rw [HR.out]; exact (Kd.OwB.nil kMt 49 _ _).ow, by simp, r1⟩
  | true =>
    by_cases hneg : n < 0
    · have HO := Lib.hid (show okF n xs = false by unfold okF; rw [hE, decide_eq_true hneg]; rfl)
      have HR := Lib.hid (show firstR n xs = [] by unfold firstR; rw [HO.out]; rfl)
      clear hE
      go_wp2_with fail
      refine bodyPost_ret (v := .tuple #[.slice (some ⟨w.heap.size, 0, none⟩) 0 0, .bool false]) (by simp [results, Try.results15, go_sem]) rfl ?_
      exact ⟨_, [], by rw [HO.out], by rw [HR.out]; exact (Kd.OwB.nil kMt 49 _ _).ow, by simp, r1⟩
    have HO := Lib.hid (show okF n xs = true by unfold okF; rw [hE, decide_eq_false hneg]; rfl)
    have HR := Lib.hid (show firstR n xs = accR (firstP n xs) xs xs.length by unfold firstR; rw [HO.out]; rfl)
    have HE := Lib.hid hE
    clear hE
    go_wp2_with fail
    go_loopw [6, 7] (fun cp i wr => ∃ (k : Nat) (F : List Nat), k ≤ xs.length ∧ i = .int .i64 k ∧ RowKit.Hid (kMt.OwB 49 wr cp (accR (firstP n xs) xs k) F) ∧ RowKit.Hid (∀ y ∈ F, w.heap.size ≤ y) ∧ RowKit.Hid (Below w.heap.size w wr)) (fun _ i _ => xs.length - (intOf i).toNat)
    case atStart => exact ⟨0, [], Nat.zero_le _, rfl, Lib.hid (Kd.OwB.nil kMt _ _ _), Lib.hid (by simp), Lib.hid r1⟩
    case round =>
      obtain ⟨k, F, hk, rfl, HA, HF, HB⟩ := hrel
      have hsz := HB.out.size
      by_cases hlt : k < xs.length
      · have hkl : (k : Int) < (xs.length : Int) := by omega
        go_wp2_with fail
        refine (l9Before_any xs _ k B wr (HV.out.to (HB.out.mono hB) (Nat.le_refl _)) (by omega) hlt HE.out).mono ?_
        rintro en w2 ⟨rfl, hb2⟩
        have HB2 := Lib.hid (HB.out.trans (hb2.mono hsz))
        have HA2 := Lib.hid (HA.out.below hb2)
        clear hb2
        obtain ⟨b, off, q, d, q', d', r, e, rfl, hb, c0, c1, c2, hin⟩ := kMt_get (HV.out.to (HB2.out.mono hB) (Nat.le_refl _)) hlt
        have hsize := sumMt_get xs k hlt
        have hp := firstP_at (n := n) hlt
        have hyes := fun (h : firstP n xs k = true) (w' : World) (v' : Value) (F' : List Nat) (ho : kMt.OwB 49 w' v' (accR (firstP n xs) xs k ++ [xs[k]]) F') => (accR_yes hlt h ▸ ho : kMt.OwB 49 w' v' (accR (firstP n xs) xs (k + 1)) F')
        have hno := fun (h : firstP n xs k = false) (w' : World) (v' : Value) (F' : List Nat) (ho : kMt.OwB 49 w' v' (accR (firstP n xs) xs k) F') => (accR_no hlt h ▸ ho : kMt.OwB 49 w' v' (accR (firstP n xs) xs (k + 1)) F')
        have HLE := Lib.hid (show (accR (firstP n xs) xs k).length ≤ 1048576 from Nat.le_trans (accR_len _ _ _) (by omega))
        obtain ⟨x, ex⟩ : ∃ x, x = xs[k] := ⟨_, rfl⟩
        rw [← ex] at c0 c1 c2 hin hsize hyes hp ⊢
        obtain ⟨t, et⟩ : ∃ t : Int, t = (befN xs (endP x) k : Int) := ⟨_, rfl⟩
        rw [← et] at hp ⊢
        have HIN := Lib.hid hin
        have HYES := Lib.hid hyes
        have HNO := Lib.hid hno
        have HP := Lib.hid hp
        have hnx : x.need ≤ 1048576 := by omega
        clear ex et hin hsize hyes hno hp
        by_cases hc : t < n
        · have HY := Lib.hid (HYES.out (HP.out.trans (decide_eq_true hc)))
          go_wp2_with fail
          refine (l9Copy_any x _ B w2 HIN.out (by have := HB2.out.size; omega) hnx).mono ?_
          rintro en w3 ⟨v2, G, rfl, ho, hG, hb2⟩
          obtain ⟨pA, cA, qA, dA, pB, cB, rfl⟩ := ho.at.form
          obtain ⟨W2, eW2⟩ : ∃ W2, W2 = w3.alloc (.cells #[.slice pA x.w.ns.length cA, .slice qA x.w.es.length dA, .slice pB x.bs.length cB] 49) := ⟨_, rfl⟩
          have kW2 : Below w3.heap.size w3 W2 := by rw [eW2]; exact (Below.refl _ _).alloc (Nat.le_refl _) _
          have s2 := hb2.size
          have HAP := Lib.hid (appMatch (HA2.out.below (hb2.trans (kW2.mono s2))) 24 x pA cA qA dA pB cB G w3.heap.size 1 (ho.chg (Chg.of_below kW2 []) (by simp)) (fun z hz hz2 => by have := HA2.out.lt z hz; have := hG z hz2; omega) (by rw [eW2]; simp [go_sem]) (by rw [eW2]; simp [go_sem]) (by rw [eW2]; simp [go_sem]) HLE.out)
          have HG := Lib.hid hG
          have HB3 := Lib.hid (hb2.trans (kW2.mono s2))
          have hs1 : w.heap.size ≤ w2.heap.size := HB2.out.size
          have EW2 := Lib.hid eW2
          clear ho hG hb2 kW2 eW2
          go_wp2_with (at_builtin; rw [← EW2.out]; refine wpApp rfl (.tmp 28) (.tmp 34) 24 rfl _ _ rfl rfl _ HAP.out ?_; rintro v3 w4 hr; have HR9 := Lib.hid hr; clear hr)
          obtain ⟨F', hF1, hF2, hF3⟩ := HR9.out
          have hge := ge_app hs1 HB3.out hF2 HF.out HG.out
          have hbe := below_app HB2.out HB3.out hF3 HF.out
          go_roundw
          case rel => exact ⟨k + 1, F', by omega, by go_num, Lib.hid (HY.out _ _ _ hF1), Lib.hid hge, Lib.hid hbe⟩
          case measure => simp [intOf]; omega
        · have HN := Lib.hid (HNO.out (HP.out.trans (decide_eq_false hc)) _ _ _ HA2.out)
          go_wp2_with fail
          go_roundw
          case rel => exact ⟨k + 1, F, by omega, by go_num, HN, HF, HB2⟩
          case measure => simp [intOf]; omega
      · obtain rfl : k = xs.length := by omega
        have hkl : ¬ (xs.length : Int) < (xs.length : Int) := by omega
        have HO2 := Lib.hid HA.out.ow
        go_wp2_with fail
        refine bodyPost_ret (v := .tuple #[u6, .bool true]) (by simp [results, Try.results15, go_sem]) rfl ?_
        exact ⟨_, F, by rw [HO.out], by rw [HR.out]; exact HO2.out, HF.out, HB.out⟩
end Go.Proofs.Ytbpihiholbidlaa
namespace Go.Proofs.Ytbpihiholbidlaa
open Go.RowKit


def gB (n : Int) : Bool := n % 3 == 0
def idSum (xs : List Bn) : Nat := (xs.map fun (b : Bn) => b.ids.length).sum
theorem idSum_succ (xs : List Bn) (k : Nat) (h : k < xs.length) : idSum (xs.take (k + 1)) = idSum (xs.take k) + xs[k].ids.length := by
  unfold idSum; rw [List.take_succ_eq_append_getElem h, List.map_append, List.sum_append]; simp only [List.map_cons, List.map_nil, List.sum_cons, List.sum_nil, Nat.add_zero]
theorem idSum_le (xs : List Bn) (k : Nat) : idSum (xs.take k) ≤ sumBn (xs.take k) := by
  induction k with
  | zero => simp [idSum, sumBn]
  | succ k ih =>
    by_cases h : k < xs.length
    · rw [idSum_succ xs k h, sumBn_succ xs k h]; unfold Bn.need; omega
    · rw [List.take_of_length_le (show xs.length ≤ k + 1 by omega)]; rw [List.take_of_length_le (show xs.length ≤ k by omega)] at ih; exact ih
/-- The mark ahead of a bind. -/
def bnO (xs : List Bn) (m : Int) (k : Nat) : Int := m + 2 * k + idSum (xs.take k)
def bnM (xs : List Bn) (m : Int) (k : Nat) : Bn := ⟨mt (bnO xs m k), (List.range ((xs[k]?.map (fun (b : Bn) => b.ids.length)).getD 0)).map (mkInt (bnO xs m k + 1)), gB (bnO xs m k + 1 + ((xs[k]?.map (fun (b : Bn) => b.ids.length)).getD 0))⟩
theorem bnM_at {xs : List Bn} {m : Int} {k : Nat} (h : k < xs.length) : bnM xs m k = ⟨mt (bnO xs m k), (List.range xs[k].ids.length).map (mkInt (bnO xs m k + 1)), gB (bnO xs m k + 1 + xs[k].ids.length)⟩ := by
  unfold bnM; rw [List.getElem?_eq_getElem h]; rfl
theorem bnO_succ {xs : List Bn} {m : Int} {k : Nat} (h : k < xs.length) : bnO xs m (k + 1) = bnO xs m k + 1 + xs[k].ids.length + 1 := by
  unfold bnO; rw [idSum_succ xs k h]; push_cast; omega
theorem bnO_ge {xs : List Bn} {m : Int} {k : Nat} : m ≤ bnO xs m k := by unfold bnO; omega
def bnMarks (xs : List Bn) (m : Int) : List Bn := (List.range xs.length).map (bnM xs m)
def bnLen (xs : List Bn) : Nat := 2 * xs.length + idSum xs
theorem bnO_end (xs : List Bn) (m : Int) : bnO xs m xs.length = m + bnLen xs := by unfold bnO bnLen; rw [List.take_length]; push_cast; omega
theorem bnLen_le (xs : List Bn) : bnLen xs ≤ 2 * xs.length + sumBn xs := by have := idSum_le xs xs.length; rw [List.take_length] at this; unfold bnLen; omega

set_option maxRecDepth 100000 in
set_option maxHeartbeats 4000000 in
theorem markBindS_full (xs : List Bn) (v : Value) (F : List Nat) (m : Int) (w : World) (hv : kBn.Ow w v xs F) (hm : 1 ≤ m) (hb : m + 2 * xs.length + sumBn xs ≤ 90000000) :
    Calls Try.prog 33 #[v, .int .i64 m] w fun e w' => e = .returned (.int .i64 (m + bnLen xs)) ∧ kBn.Ow w' v (bnMarks xs m) F ∧ Chg F w w' := by
  obtain ⟨p, cap, rfl⟩ := hv.form
  obtain ⟨_, hm1, hm2⟩ := hv.rd.max
  unfold maxLen at hm2
  have HV := Lib.hid hv
  have HB := Lib.hid hb
  clear hv hb
  go_enter Try.func33, Try.ntmps33
  go_wp2_with fail
  go_loopw [1, 5] (fun kk i wr => ∃ (k : Nat), k ≤ xs.length ∧ i = .int .i64 k ∧ kk = .int .i64 (bnO xs m k) ∧ RowKit.Hid (kBn.Ow wr (.slice p xs.length cap) (half (bnM xs m) xs k) F) ∧ RowKit.Hid (Chg F w wr)) (fun _ i _ => xs.length - (intOf i).toNat)
  case atStart => exact ⟨0, Nat.zero_le _, rfl, congrArg (Value.int .i64) (by simp [bnO, idSum]), Lib.hid (by rw [half_zero]; exact HV.out), Lib.hid (Chg.refl _ _)⟩
  case round =>
    obtain ⟨k, hk, rfl, rfl, HO, HC⟩ := hrel
    have ht : 1 ≤ bnO xs m k := by have := bnO_ge (xs := xs) (m := m) (k := k); omega
    obtain ⟨t, et⟩ : ∃ t, t = bnO xs m k := ⟨_, rfl⟩
    obtain ⟨ys, ey⟩ : ∃ ys, ys = half (bnM xs m) xs k := ⟨_, rfl⟩
    have hyl : ys.length = xs.length := by rw [ey]; exact half_length _ _ hk
    rw [← et] at ht ⊢
    rw [← ey] at HO
    by_cases hlt : k < xs.length
    · have hltY : k < ys.length := by rw [hyl]; exact hlt
      have hek : ys[k] = xs[k] := by simp only [ey]; exact half_at _ _ hlt _
      have hsum := sumBn_succ xs k hlt
      have hsum2 := sumBn_le xs (k + 1)
      obtain ⟨b, off, F1, q, c, rfl, hbF, hbk, hsub, hbl, hfz, c0, c1, c2, hks, hback⟩ := kBn_upd HO.out hltY
      rw [hek] at c0 c1 c2 hks hback
      obtain ⟨x, ex⟩ : ∃ x, x = xs[k] := ⟨_, rfl⟩
      rw [← ex] at c0 c1 c2 hks hback hsum
      have HS := Lib.hid hsum
      have hbound : t + 2 + x.ids.length ≤ 90000000 := by
        have h2 := HB.out
        have h3 := idSum_le xs k
        have h4 : t = m + 2 * k + idSum (xs.take k) := et
        unfold Bn.need at hsum
        omega
      have HSET := Lib.hid (show ∀ r : Bool, r = gB (t + 1 + x.ids.length) → ys.set k ⟨mt t, (List.range x.ids.length).map (mkInt (t + 1)), r⟩ = half (bnM xs m) xs (k + 1) from fun r hr => by
        rw [hr, ey, ← half_succ _ _ hlt, bnM_at hlt, ← et, ← ex])
      have HNX := Lib.hid (show bnO xs m (k + 1) = t + 1 + x.ids.length + 1 by rw [bnO_succ hlt, ← et, ← ex])
      have HBACK := Lib.hid hback
      have HKS := Lib.hid hks
      have HFZ := Lib.hid hfz
      have HSUB := Lib.hid hsub
      have HBK := Lib.hid hbk
      have HBF := Lib.hid hbF
      clear hback hks hfz hsub hbk hbF ex hek hsum hsum2 HO HS ey hltY hyl et
      go_wp2_with fail
      refine (markText_any _ _ (by omega) (by omega)).mono ?_
      rintro e w1 ⟨rfl, hb1⟩
      have hz1 : b < w1.heap.size := by have := hb1.size; omega
      have d0 := keepc hb1 hbl c0
      have d1 := keepc hb1 hbl c1
      have d2 := keepc hb1 hbl c2
      have HD := Lib.hid (show (∀ i, w1.cell? ⟨b, i, none⟩ = wr.cell? ⟨b, i, none⟩) ∧ (∀ o, w1.frozen? ⟨b, o, none⟩ = false) from
        ⟨fun i => hb1.cell (p := ⟨b, i, none⟩) hbl, fun o => (hb1.frozen (p := ⟨b, o, none⟩) hbl).trans (HFZ.out o)⟩)
      have f0 := HD.out.2 (off + k * 3)
      have HW1 := Lib.hid (show Chg [b] wr w1 from (Chg.refl [b] wr).then_below hb1)
      have HKS1 := Lib.hid (HKS.out.chg HW1.out (fun x hx => by simp; rintro rfl; exact HBK.out hx))
      clear hb1 c0 c1 c2
      go_wp2_with fail
      have HKS2 := Lib.hid (HKS1.out.chg (G := [b]) (w' := w1.setCell ⟨b, off + k * 3, none⟩ (.string (mt t))) ((Chg.refl [b] w1).setCell (by simp) _) (fun x hx => by simp; rintro rfl; exact HBK.out hx))
      refine (markIntS_any _ _ _ _ _ HKS2.out (by omega) (by omega)).mono ?_
      rintro e w2 ⟨rfl, hk2, hc2⟩
      have hbw : ∀ i, w2.cell? ⟨b, i, none⟩ = (w1.setCell ⟨b, off + k * 3, none⟩ (.string (mt t))).cell? ⟨b, i, none⟩ := fun i => World.cell?_of_block (a := ⟨b, i, none⟩) (hc2.block b (by simpa using hz1) HBK.out)
      have hbf : ∀ i, w2.frozen? ⟨b, i, none⟩ = (w1.setCell ⟨b, off + k * 3, none⟩ (.string (mt t))).frozen? ⟨b, i, none⟩ := fun i => World.frozen?_of_block (a := ⟨b, i, none⟩) (hc2.block b (by simpa using hz1) HBK.out)
      have g0 : w2.cell? ⟨b, off + k * 3, none⟩ = some (.string (mt t)) := (hbw _).trans (set_same _ _ _ _ _ d0)
      have g1 : w2.cell? ⟨b, off + k * 3 + 1, none⟩ = some (.slice q x.ids.length c) := (hbw _).trans ((set_near _ _ _ _ _ (by omega)).trans d1)
      have g2 : w2.cell? ⟨b, off + k * 3 + 2, none⟩ = some (.bool x.g) := (hbw _).trans ((set_near _ _ _ _ _ (by omega)).trans d2)
      have HFR := Lib.hid (show ∀ o, w2.frozen? ⟨b, o, none⟩ = false from fun o => (hbf o).trans (by simpa [go_sem] using HD.out.2 o))
      have HEL := Lib.hid (show ∀ i, i ≠ off + k * 3 → w2.cell? ⟨b, i, none⟩ = wr.cell? ⟨b, i, none⟩ from fun i hi => (hbw i).trans ((set_near _ _ _ _ _ (fun e => hi e.symm)).trans (HD.out.1 i)))
      have f2 := HFR.out (off + k * 3 + 2)
      have HW2 := Lib.hid (show Chg (b :: F1) wr w2 from (HW1.out.mono (fun x hx => by simp at hx; simp [hx])).trans (((Chg.refl (b :: F1) w1).setCell (by simp) _).trans (hc2.mono (fun x hx => by simp [hx]))))
      have HK2 := Lib.hid hk2
      have HEND := Lib.hid (show ∀ r : Bool, kBn.Ow (w2.setCell ⟨b, off + k * 3 + 2, none⟩ (.bool r)) (.slice (some ⟨b, off, none⟩) xs.length cap) (ys.set k ⟨mt t, (List.range x.ids.length).map (mkInt (t + 1)), r⟩) F ∧ Chg F w (w2.setCell ⟨b, off + k * 3 + 2, none⟩ (.bool r)) from fun r => by
        have hst : Chg (b :: F1) w2 (w2.setCell ⟨b, off + k * 3 + 2, none⟩ (.bool r)) := (Chg.refl _ _).setCell (by simp) _
        refine ⟨HBACK.out _ ⟨_, _, r⟩ (HW2.out.trans hst) (fun o => by simpa [go_sem] using HFR.out o) (HK2.out.chg (G := [b]) ((Chg.refl [b] w2).setCell (by simp) _) (fun x hx => by simp; rintro rfl; exact HBK.out hx)) ((set_near _ _ _ _ _ (by omega)).trans g0) ((set_near _ _ _ _ _ (by omega)).trans g1) (set_same _ _ _ _ _ g2) (fun o ho => ?_), ?_⟩
        · exact (set_near _ _ _ _ _ (by omega)).trans (HEL.out o (by omega))
        · exact HC.out.trans ((HW2.out.trans hst).mono (fun y hy => by rcases List.mem_cons.1 hy with rfl | hy; exact HBF.out; exact HSUB.out y hy)))
      clear hk2 hc2 d0 d1 d2 f0 hbw hbf
      go_wp2_with fail
      go_roundw
      case rel =>
        exact ⟨k + 1, by omega, by go_num, congrArg (Value.int .i64) (by rw [HNX.out]), Lib.hid (by rw [← HSET.out _ (by (first | rfl | (unfold gB; rfl) | (unfold gB; simp; done) | trace_state))]; exact (HEND.out _).1), Lib.hid (HEND.out _).2⟩
      case measure => simp [intOf]; omega
    · obtain rfl : k = xs.length := by omega
      go_wp2_with fail
      have HE := Lib.hid (show kBn.Ow wr (.slice p xs.length cap) (bnMarks xs m) F by rw [show bnMarks xs m = half (bnM xs m) xs xs.length from (half_full _ _).symm, ← ey]; exact HO.out)
      have hte : t = m + bnLen xs := et.trans (bnO_end xs m)
      go_ret
      exact ⟨by rw [hte]; rfl, HE.out, HC.out⟩

set_option maxRecDepth 100000 in
set_option maxHeartbeats 2000000 in
theorem heldBindS_any (xs : List Bn) (v : Value) (m : Int) (B : Nat) (w : World) (hv : kBn.Rd B w v (bnMarks xs m)) (hB : B ≤ w.heap.size) (hm : 1 ≤ m) (hb : m + 2 * xs.length + sumBn xs ≤ 90000000) :
    Calls Try.prog 35 #[v, .int .i64 m] w fun e w' => e = .returned (.int .i64 (m + bnLen xs)) ∧ Below w.heap.size w w' := by
  obtain ⟨p, cap, hve⟩ := hv.form
  obtain ⟨_, hm1, hm2⟩ := (hve ▸ hv).max
  have hlen : (bnMarks xs m).length = xs.length := by simp [bnMarks]
  rw [hlen] at hve
  subst hve
  unfold maxLen at hm2
  have HV := Lib.hid hv
  have HB := Lib.hid hb
  clear hv hb
  go_enter Try.func35, Try.ntmps35
  go_wp2_with fail
  go_loopw [1, 5] (fun kk i wr => ∃ k : Nat, k ≤ xs.length ∧ i = .int .i64 k ∧ kk = .int .i64 (bnO xs m k) ∧ Below w.heap.size w wr) (fun _ i _ => xs.length - (intOf i).toNat)
  case atStart => exact ⟨0, Nat.zero_le _, rfl, congrArg (Value.int .i64) (by simp [bnO, idSum]), Below.refl _ _⟩
  case round =>
    obtain ⟨k, hk, rfl, rfl, hbw⟩ := hrel
    have hsz := hbw.size
    have HBW := Lib.hid hbw
    clear hbw
    have ht : 1 ≤ bnO xs m k := by have := bnO_ge (xs := xs) (m := m) (k := k); omega
    obtain ⟨t, et⟩ : ∃ t, t = bnO xs m k := ⟨_, rfl⟩
    rw [← et] at ht ⊢
    by_cases hlt : k < xs.length
    · have hltM : k < (bnMarks xs m).length := by rw [hlen]; exact hlt
      obtain ⟨b, off, q, c, rfl, hb', c0, c1, c2, hin⟩ := kBn_get (HV.out.to (HBW.out.mono hB) (Nat.le_refl _)) hltM
      have hgx : (bnMarks xs m)[k] = ⟨mt t, (List.range xs[k].ids.length).map (mkInt (t + 1)), gB (t + 1 + xs[k].ids.length)⟩ := by
        simp only [bnMarks, List.getElem_map, List.getElem_range, bnM_at hlt, ← et]
      rw [hgx] at c0 c1 c2 hin
      have hsum := sumBn_succ xs k hlt
      have hsum2 := sumBn_le xs (k + 1)
      have HNX := Lib.hid (show bnO xs m (k + 1) = t + 1 + xs[k].ids.length + 1 by rw [bnO_succ hlt, ← et])
      have hbound : t + 2 + xs[k].ids.length ≤ 90000000 := by
        have h2 := HB.out
        have h3 := idSum_le xs k
        have h4 : t = m + 2 * k + idSum (xs.take k) := et
        unfold Bn.need at hsum
        omega
      obtain ⟨n, en⟩ : ∃ n, n = xs[k].ids.length := ⟨_, rfl⟩
      rw [← en] at c2 hin hbound HNX
      have c1' : wr.cell? ⟨b, off + k * 3 + 1, none⟩ = some (.slice q n c) := by rw [c1]; simp [en]
      have HIN := Lib.hid (show Sl 1 intCells B wr (.slice q n c) ((List.range n).map (mkInt (t + 1))) from by simpa [en] using hin)
      simp only at c0 c2
      clear hgx hsum hsum2 en c1 hin hltM et
      have hkl : (k : Int) < (xs.length : Int) := by omega
      have hbr : b < wr.heap.size := by omega
      have HK := Lib.hid (fun (E : World) (hE : Below wr.heap.size wr E) => (⟨keepc hE hbr c0, keepc hE hbr c1', keepc hE hbr c2⟩ : E.cell? ⟨b, off + k * 3, none⟩ = some (.string (mt t)) ∧ E.cell? ⟨b, off + k * 3 + 1, none⟩ = some (.slice q n c) ∧ E.cell? ⟨b, off + k * 3 + 2, none⟩ = some (.bool (gB (t + 1 + n)))))
      clear c0 c1' c2
      have r0 := Below.refl wr.heap.size wr
      go_upto_region 4 with fail
      go_cut [19] (fun s wx => s = .bool false ∧ Below wr.heap.size wr wx)
      case first =>
        go_region_held3 (fun w' => w'.cell? ⟨b, off + k * 3, none⟩ = some (.string (mt t)) ∧ w'.cell? ⟨b, off + k * 3 + 1, none⟩ = some (.slice q n c) ∧ w'.cell? ⟨b, off + k * 3 + 2, none⟩ = some (.bool (gB (t + 1 + n))))
          (exact HK.out _ (show Below wr.heap.size wr _ by ((repeat (first | with_reducible assumption | with_reducible exact Below.refl _ _ | refine Below.setCell ?_ (by (first | omega | (simp; omega) | (simp; done) | fail "sml")) _ | refine Below.drew ?_ | refine Below.alloc ?_ (by (first | omega | (simp; omega) | (simp; done) | fail "sml")) _)); first | done | fail "chs")))
          (first | (go_at_call 57; with_reducible refine (markText_any _ _ (by omega) (by omega)).mono ?_; rintro e wc ⟨rfl, hbc⟩; have rc := Below.trans (show Below wr.heap.size wr _ by ((repeat (first | with_reducible assumption | with_reducible exact Below.refl _ _ | refine Below.setCell ?_ (by (first | omega | (simp; omega) | (simp; done) | fail "sml")) _ | refine Below.drew ?_ | refine Below.alloc ?_ (by (first | omega | (simp; omega) | (simp; done) | fail "sml")) _)); first | done | fail "chs")) (hbc.mono (by (first | omega | (simp; omega) | (simp; done) | fail "sml"))); have zc := rc.size; clear hbc) | fail "no arm")
        all_goals (go_wp2_with fail; go_meet)
        all_goals exact ⟨rfl, by ((repeat (first | with_reducible assumption | with_reducible exact Below.refl _ _ | refine Below.setCell ?_ (by (first | omega | (simp; omega) | (simp; done) | fail "sml")) _ | refine Below.drew ?_ | refine Below.alloc ?_ (by (first | omega | (simp; omega) | (simp; done) | fail "sml")) _)); first | done | fail "chs")⟩
      case rest =>
        obtain ⟨rfl, hbx⟩ := hcut
        obtain ⟨w1, ew1⟩ : ∃ u, u = wc := ⟨_, rfl⟩
        subst ew1
        obtain ⟨d0, d1, d2⟩ := HK.out _ hbx
        have z1 := hbx.size
        go_wp2_with fail
        refine (heldIntS_any n _ (t + 1) B _ (HIN.out.below (hbx.mono (by omega))) (by omega) (by omega) (by omega)).mono ?_
        rintro e w2 ⟨rfl, hb2⟩
        have r2 := hbx.trans (hb2.mono z1)
        obtain ⟨y0, y1, y2⟩ := HK.out _ r2
        have hneg : ¬ (t + 1 + (n : Int) < 0) := by omega
        have hgq : gB (t + 1 + n) = ((t + 1 + (n : Int)) % 3 == 0) := rfl
        rw [hgq] at y2
        clear d0 d1 d2 hbx hb2
        have HR2 := Lib.hid (HBW.out.trans (r2.mono hsz))
        go_wp2_with fail
        go_roundw
        case rel => exact ⟨k + 1, by omega, by go_num, congrArg (Value.int .i64) (by rw [HNX.out]), HR2.out⟩
        case measure => simp [intOf]; omega
    · obtain rfl : k = xs.length := by omega
      have hte : t = m + bnLen xs := et.trans (bnO_end xs m)
      go_wp2_with fail
      go_ret
      exact ⟨by rw [hte]; rfl, HBW.out⟩
end Go.Proofs.Ytbpihiholbidlaa
namespace Go.Proofs.Ytbpihiholbidlaa
open Go.RowKit

def mtLen (m : Mt) : Nat := m.w.ns.length + m.w.es.length + bnLen m.bs
theorem mtLen_le (m : Mt) : mtLen m ≤ 2 * m.need := by have := bnLen_le m.bs; unfold mtLen Mt.need Wk.need; omega
def mtSum (xs : List Mt) : Nat := (xs.map mtLen).sum
theorem mtSum_succ (xs : List Mt) (k : Nat) (h : k < xs.length) : mtSum (xs.take (k + 1)) = mtSum (xs.take k) + mtLen xs[k] := by
  unfold mtSum; rw [List.take_succ_eq_append_getElem h, List.map_append, List.sum_append]; simp only [List.map_cons, List.map_nil, List.sum_cons, List.sum_nil, Nat.add_zero]
theorem mtSum_le (xs : List Mt) (k : Nat) : mtSum (xs.take k) ≤ 2 * sumMt (xs.take k) := by
  induction k with
  | zero => simp [mtSum, sumMt]
  | succ k ih =>
    by_cases h : k < xs.length
    · rw [mtSum_succ xs k h, sumMt_succ xs k h]; have := mtLen_le xs[k]; omega
    · rw [List.take_of_length_le (show xs.length ≤ k + 1 by omega)]; rw [List.take_of_length_le (show xs.length ≤ k by omega)] at ih; exact ih
def mtO (xs : List Mt) (m : Int) (k : Nat) : Int := m + mtSum (xs.take k)
def mtK (o : Int) (x : Mt) : Mt := ⟨⟨(List.range x.w.ns.length).map (mkInt o), (List.range x.w.es.length).map (mkInt (o + x.w.ns.length))⟩, bnMarks x.bs (o + x.w.ns.length + x.w.es.length)⟩
def mtM (xs : List Mt) (m : Int) (k : Nat) : Mt := match xs[k]? with
  | none => ⟨⟨[], []⟩, []⟩
  | some x => mtK (mtO xs m k) x
theorem mtM_at {xs : List Mt} {m : Int} {k : Nat} (h : k < xs.length) : mtM xs m k = mtK (mtO xs m k) xs[k] := by
  unfold mtM; rw [List.getElem?_eq_getElem h]
theorem mtO_succ {xs : List Mt} {m : Int} {k : Nat} (h : k < xs.length) : mtO xs m (k + 1) = mtO xs m k + xs[k].w.ns.length + xs[k].w.es.length + bnLen xs[k].bs := by
  unfold mtO; rw [mtSum_succ xs k h]; unfold mtLen; push_cast; omega
theorem mtO_ge {xs : List Mt} {m : Int} {k : Nat} : m ≤ mtO xs m k := by unfold mtO; omega
def mtMarks (xs : List Mt) (m : Int) : List Mt := (List.range xs.length).map (mtM xs m)
theorem mtMarks_len (xs : List Mt) (m : Int) : (mtMarks xs m).length = xs.length := by simp [mtMarks]
theorem mtO_end (xs : List Mt) (m : Int) : mtO xs m xs.length = m + mtSum xs := by unfold mtO; rw [List.take_length]

set_option maxRecDepth 100000 in
set_option maxHeartbeats 4000000 in
theorem markMatchS_any (xs : List Mt) (v : Value) (F : List Nat) (m : Int) (w : World) (hv : kMt.Ow w v xs F) (hm : 1 ≤ m) (hb : m + 4 * sumMt xs ≤ 80000000) :
    Calls Try.prog 13 #[v, .int .i64 m] w fun e w' => e = .returned (.int .i64 (m + mtSum xs)) ∧ kMt.Ow w' v (mtMarks xs m) F ∧ Chg F w w' := by
  obtain ⟨p, cap, rfl⟩ := hv.form
  obtain ⟨_, hm1, hm2⟩ := hv.rd.max
  unfold maxLen at hm2
  have HV := Lib.hid hv
  have HB := Lib.hid hb
  clear hv hb
  go_enter Try.func13, Try.ntmps13
  go_wp2_with fail
  go_loopw [1, 5] (fun kk i wr => ∃ (k : Nat), k ≤ xs.length ∧ i = .int .i64 k ∧ kk = .int .i64 (mtO xs m k) ∧ RowKit.Hid (kMt.Ow wr (.slice p xs.length cap) (half (mtM xs m) xs k) F) ∧ RowKit.Hid (Chg F w wr)) (fun _ i _ => xs.length - (intOf i).toNat)
  case atStart => exact ⟨0, Nat.zero_le _, rfl, congrArg (Value.int .i64) (by simp [mtO, mtSum]), Lib.hid (by rw [half_zero]; exact HV.out), Lib.hid (Chg.refl _ _)⟩
  case round =>
    obtain ⟨k, hk, rfl, rfl, HO, HC⟩ := hrel
    have ht : 1 ≤ mtO xs m k := by have := mtO_ge (xs := xs) (m := m) (k := k); omega
    obtain ⟨t, et⟩ : ∃ t, t = mtO xs m k := ⟨_, rfl⟩
    obtain ⟨ys, ey⟩ : ∃ ys, ys = half (mtM xs m) xs k := ⟨_, rfl⟩
    have hyl : ys.length = xs.length := by rw [ey]; exact half_length _ _ hk
    rw [← et] at ht ⊢
    rw [← ey] at HO
    by_cases hlt : k < xs.length
    · have hltY : k < ys.length := by rw [hyl]; exact hlt
      have hek : ys[k] = xs[k] := by simp only [ey]; exact half_at _ _ hlt _
      obtain ⟨b, off, cs, F1, rfl, hbF, hbk, hsub, hbl, hfz, hcs, how, hback⟩ := HO.out.upd hltY
      rw [hek] at how
      have hbound : t + 2 * xs[k].need ≤ 80000000 := by
        have h2 := HB.out
        have h3 := mtSum_le xs k
        have h4 : t = m + mtSum (xs.take k) := et
        have h5 := sumMt_succ xs k hlt
        have h6 := sumMt_le xs (k + 1)
        omega
      have HSET := Lib.hid (show ys.set k (mtK t xs[k]) = half (mtM xs m) xs (k + 1) by rw [ey, ← half_succ _ _ hlt, mtM_at hlt, ← et])
      have HNX := Lib.hid (show mtO xs m (k + 1) = t + xs[k].w.ns.length + xs[k].w.es.length + bnLen xs[k].bs by rw [mtO_succ hlt, ← et])
      obtain ⟨x, ex⟩ : ∃ x, x = xs[k] := ⟨_, rfl⟩
      rw [← ex] at how hbound HSET HNX
      obtain ⟨a1, a2, a3, rfl, hx⟩ := how
      obtain ⟨_, _, _, Fw, Fb, e1, rfl, hw, hbs, hdj⟩ := hx
      cases e1
      obtain ⟨_, _, FN, FE, e2, rfl, on, oe, hdj2⟩ := hw
      cases e2
      obtain ⟨q1, d1, rfl⟩ := on.sl.form
      obtain ⟨q2, d2, rfl⟩ := oe.sl.form
      obtain ⟨q3, d3, rfl⟩ := hbs.form
      have c0 := hcs 0 _ rfl
      have c1 := hcs 1 _ rfl
      have c2 := hcs 2 _ rfl
      have HBACK := Lib.hid hback
      have HON := Lib.hid on
      have HOE := Lib.hid oe
      have HOB := Lib.hid hbs
      have HD := Lib.hid hdj
      have HD2 := Lib.hid hdj2
      have HFZ := Lib.hid hfz
      have HSUB := Lib.hid hsub
      have HBK := Lib.hid hbk
      have HBF := Lib.hid hbF
      have hneed : x.need = x.w.ns.length + x.w.es.length + (x.bs.length + sumBn x.bs) := rfl
      have hkl : (k : Int) < (xs.length : Int) := by omega
      have HKC := Lib.hid (fun (E : World) (G : List Nat) (hE : Chg G wr E) (hG : b ∉ G) => (⟨hE.cellOf hG c0, hE.cellOf hG c1, hE.cellOf hG c2⟩ : E.cell? ⟨b, off + k * kMt.sz + 0, none⟩ = some (.slice q1 x.w.ns.length d1) ∧ E.cell? ⟨b, off + k * kMt.sz + 1, none⟩ = some (.slice q2 x.w.es.length d2) ∧ E.cell? ⟨b, off + k * kMt.sz + 2, none⟩ = some (.slice q3 x.bs.length d3)))
      have hbN : b ∉ FN := fun h => hbk (by simp [h])
      have hbE : b ∉ FE := fun h => hbk (by simp [h])
      have hbB : b ∉ Fb := fun h => hbk (by simp [h])
      clear hback on oe hbs hdj hdj2 hfz hsub hbk hbF ex hek hcs HO ey hltY hyl et c0 c1 c2
      obtain ⟨c0, c1, c2⟩ := HKC.out wr [] (Chg.refl _ _) (by simp)
      simp only [show kMt.sz = 3 from rfl, Nat.add_zero] at c0 c1 c2 HKC
      go_wp2_with fail
      refine (markIntS_any _ _ FN t wr HON.out ht (by omega)).mono ?_
      rintro e w1 ⟨rfl, hk1, hc1⟩
      have z1 : b < w1.heap.size := by have := hc1.size; omega
      obtain ⟨x0, x1, x2⟩ := HKC.out w1 FN hc1 hbN
      have HN1 := Lib.hid hk1
      have HE1 := Lib.hid (HOE.out.chg hc1 (fun y hy hy2 => HD2.out y hy2 hy))
      have HB1 := Lib.hid (HOB.out.chg hc1 (fun y hy hy2 => HD.out y (List.mem_append_left _ hy2) hy))
      have HC1 := Lib.hid hc1
      clear hk1 hc1 c0 c1 c2
      go_wp2_with fail
      refine (markIntS_any _ _ FE (t + x.w.ns.length) w1 HE1.out (by omega) (by omega)).mono ?_
      rintro e w2 ⟨rfl, hk2, hc2⟩
      have z2 : b < w2.heap.size := by have := hc2.size; omega
      have HC2 := Lib.hid (show Chg (FN ++ FE) wr w2 from (HC1.out.mono (fun y hy => List.mem_append_left _ hy)).trans (hc2.mono (fun y hy => List.mem_append_right _ hy)))
      obtain ⟨y0, y1, y2⟩ := HKC.out w2 (FN ++ FE) HC2.out (by simp [hbN, hbE])
      have HN2 := Lib.hid (HN1.out.chg hc2 (fun y hy hy2 => HD2.out y hy hy2))
      have HE2 := Lib.hid hk2
      have HB2 := Lib.hid (HB1.out.chg hc2 (fun y hy hy2 => HD.out y (List.mem_append_right _ hy2) hy))
      clear hk2 hc2 x0 x1 x2
      go_wp2_with fail
      refine (markBindS_full x.bs _ Fb (t + x.w.ns.length + x.w.es.length) w2 HB2.out (by omega) (by omega)).mono ?_
      rintro e w3 ⟨rfl, hk3, hc3⟩
      have z3 : b < w3.heap.size := by have := hc3.size; omega
      have HC3 := Lib.hid (show Chg ((FN ++ FE) ++ Fb) wr w3 from (HC2.out.mono (fun y hy => List.mem_append_left _ hy)).trans (hc3.mono (fun y hy => List.mem_append_right _ hy)))
      have hb3 : b ∉ (FN ++ FE) ++ Fb := by simp [hbN, hbE, hbB]
      obtain ⟨u0, u1, u2⟩ := HKC.out w3 _ HC3.out hb3
      have HX := Lib.hid (show kMt.ow w3 (mtK t x) [.slice q1 x.w.ns.length d1, .slice q2 x.w.es.length d2, .slice q3 x.bs.length d3] ((FN ++ FE) ++ Fb) from
        ⟨_, _, _, rfl, _, _, _, FN ++ FE, Fb, rfl, rfl, ⟨_, _, FN, FE, rfl, rfl, HN2.out.chg hc3 (fun y hy hy2 => HD.out y (List.mem_append_left _ hy) hy2), HE2.out.chg hc3 (fun y hy hy2 => HD.out y (List.mem_append_right _ hy) hy2), HD2.out⟩, hk3, HD.out⟩)
      have HEND := Lib.hid (show kMt.Ow w3 (.slice (some ⟨b, off, none⟩) xs.length cap) (ys.set k (mtK t x)) F ∧ Chg F w w3 from by
        refine ⟨HBACK.out w3 (mtK t x) _ (HC3.out.mono (fun y hy => List.mem_cons_of_mem _ hy)) (fun o => ?_) HX.out (fun j u hu => ?_) (fun o _ => World.cell?_of_block (w := wr) (a := ⟨b, o, none⟩) (HC3.out.block b hbl hb3)), HC.out.trans (HC3.out.mono HSUB.out)⟩
        · exact HC3.out.frozenOf hb3 hbl (HFZ.out o)
        · match j, hu with
          | 0, hu => simp at hu; subst hu; simpa [show kMt.sz = 3 from rfl] using u0
          | 1, hu => simp at hu; subst hu; simpa [show kMt.sz = 3 from rfl] using u1
          | 2, hu => simp at hu; subst hu; simpa [show kMt.sz = 3 from rfl] using u2
          | j + 3, hu => simp at hu)
      clear hk3 hc3 y0 y1 y2
      go_wp2_with fail
      go_roundw
      case rel =>
        exact ⟨k + 1, by omega, by go_num, congrArg (Value.int .i64) (by rw [HNX.out]), Lib.hid (by rw [← HSET.out]; exact HEND.out.1), Lib.hid HEND.out.2⟩
      case measure => simp [intOf]; omega
    · obtain rfl : k = xs.length := by omega
      have HE := Lib.hid (show kMt.Ow wr (.slice p xs.length cap) (mtMarks xs m) F by rw [show mtMarks xs m = half (mtM xs m) xs xs.length from (half_full _ _).symm, ← ey]; exact HO.out)
      have hte : t = m + mtSum xs := et.trans (mtO_end xs m)
      go_wp2_with fail
      go_ret
      exact ⟨by rw [hte]; rfl, HE.out, HC.out⟩

set_option maxRecDepth 100000 in
set_option maxHeartbeats 2000000 in
theorem heldMatchS_any (xs : List Mt) (v : Value) (m : Int) (B : Nat) (w : World) (hv : kMt.Rd B w v (mtMarks xs m)) (hB : B ≤ w.heap.size) (hm : 1 ≤ m) (hb : m + 4 * sumMt xs ≤ 80000000) :
    Calls Try.prog 14 #[v, .int .i64 m] w fun e w' => e = .returned (.int .i64 (m + mtSum xs)) ∧ Below w.heap.size w w' := by
  obtain ⟨p, cap, hve⟩ := hv.form
  obtain ⟨_, hm1, hm2⟩ := (hve ▸ hv).max
  have hlen := mtMarks_len xs m
  rw [hlen] at hve
  subst hve
  unfold maxLen at hm2
  have HV := Lib.hid hv
  have HB := Lib.hid hb
  clear hv hb
  go_enter Try.func14, Try.ntmps14
  go_wp2_with fail
  go_loopw [1, 5] (fun kk i wr => ∃ k : Nat, k ≤ xs.length ∧ i = .int .i64 k ∧ kk = .int .i64 (mtO xs m k) ∧ Below w.heap.size w wr) (fun _ i _ => xs.length - (intOf i).toNat)
  case atStart => exact ⟨0, Nat.zero_le _, rfl, congrArg (Value.int .i64) (by simp [mtO, mtSum]), Below.refl _ _⟩
  case round =>
    obtain ⟨k, hk, rfl, rfl, hbw⟩ := hrel
    have hsz := hbw.size
    have HBW := Lib.hid hbw
    clear hbw
    have ht : 1 ≤ mtO xs m k := by have := mtO_ge (xs := xs) (m := m) (k := k); omega
    obtain ⟨t, et⟩ : ∃ t, t = mtO xs m k := ⟨_, rfl⟩
    rw [← et] at ht ⊢
    by_cases hlt : k < xs.length
    · have hltM : k < (mtMarks xs m).length := by rw [hlen]; exact hlt
      obtain ⟨b, off, q, c, q', c', r, e, rfl, hb', c0, c1, c2, hin⟩ := kMt_get (HV.out.to (HBW.out.mono hB) (Nat.le_refl _)) hltM
      have hgx : (mtMarks xs m)[k] = mtK t xs[k] := by
        simp only [mtMarks, List.getElem_map, List.getElem_range, mtM_at hlt, ← et]
      rw [hgx] at c0 c1 c2 hin
      have hbound : t + 2 * xs[k].need ≤ 80000000 := by
        have h2 := HB.out
        have h3 := mtSum_le xs k
        have h4 : t = m + mtSum (xs.take k) := et
        have h5 := sumMt_succ xs k hlt
        have h6 := sumMt_le xs (k + 1)
        omega
      have HNX := Lib.hid (show mtO xs m (k + 1) = t + xs[k].w.ns.length + xs[k].w.es.length + bnLen xs[k].bs by rw [mtO_succ hlt, ← et])
      obtain ⟨x, ex⟩ : ∃ x, x = xs[k] := ⟨_, rfl⟩
      rw [← ex] at c0 c1 c2 hin hbound HNX
      have hneed : x.need = x.w.ns.length + x.w.es.length + (x.bs.length + sumBn x.bs) := rfl
      have e0 : (mtK t x).w.ns.length = x.w.ns.length := by simp [mtK]
      have e1 : (mtK t x).w.es.length = x.w.es.length := by simp [mtK]
      have e2 : (mtK t x).bs.length = x.bs.length := by simp [mtK, bnMarks]
      rw [e0] at c0 hin
      rw [e1] at c1 hin
      rw [e2] at c2 hin
      obtain ⟨H1, H2, H3⟩ : RowKit.Hid (Sl 1 intCells B wr (.slice q x.w.ns.length c) ((List.range x.w.ns.length).map (mkInt t))) ∧ RowKit.Hid (Sl 1 intCells B wr (.slice q' x.w.es.length c') ((List.range x.w.es.length).map (mkInt (t + x.w.ns.length)))) ∧ RowKit.Hid (kBn.Rd B wr (.slice r x.bs.length e) (bnMarks x.bs (t + x.w.ns.length + x.w.es.length))) := by
        obtain ⟨a1, a2, a3, f1, h1, h2, h3⟩ := hin
        cases f1
        exact ⟨Lib.hid h1, Lib.hid h2, Lib.hid h3⟩
      clear hgx ex hin hltM et e0 e1 e2
      have hkl : (k : Int) < (xs.length : Int) := by omega
      have hbr : b < wr.heap.size := by omega
      have HK := Lib.hid (fun (E : World) (hE : Below wr.heap.size wr E) => (⟨keepc hE hbr c0, keepc hE hbr c1, keepc hE hbr c2⟩ : E.cell? ⟨b, off + k * 3, none⟩ = some (.slice q x.w.ns.length c) ∧ E.cell? ⟨b, off + k * 3 + 1, none⟩ = some (.slice q' x.w.es.length c') ∧ E.cell? ⟨b, off + k * 3 + 2, none⟩ = some (.slice r x.bs.length e)))
      have g1 : ¬ (t + (x.w.ns.length : Int) < 0) := by omega
      have g2 : ¬ (t + (x.w.ns.length : Int) + (x.w.es.length : Int) < 0) := by omega
      have g3 : ¬ (t + (x.w.ns.length : Int) + (x.w.es.length : Int) + (bnLen x.bs : Int) < 0) := by omega
      go_wp2_with fail
      refine (heldIntS_any _ _ t B wr H1.out (by omega) ht (by omega)).mono ?_
      rintro en w1 ⟨rfl, hb1⟩
      clear c0 c1 c2
      obtain ⟨c0, c1, c2⟩ := HK.out _ hb1
      have s1 := hb1.size
      go_wp2_with fail
      refine (heldIntS_any _ _ (t + x.w.ns.length) B w1 (H2.out.below (hb1.mono (by omega))) (by omega) (by omega) (by omega)).mono ?_
      rintro en w2 ⟨rfl, hb2⟩
      have r2 := hb1.trans (hb2.mono s1)
      have s2 := r2.size
      clear c0 c1 c2
      obtain ⟨c0, c1, c2⟩ := HK.out _ r2
      go_wp2_with fail
      refine (heldBindS_any x.bs _ (t + x.w.ns.length + x.w.es.length) B w2 (H3.out.to (r2.mono (by omega)) (Nat.le_refl _)) (by omega) (by omega) (by omega)).mono ?_
      rintro en w3 ⟨rfl, hb3⟩
      have HR3 := Lib.hid (HBW.out.trans ((r2.trans (hb3.mono s2)).mono hsz))
      clear hb1 hb2 hb3 r2 c0 c1 c2
      go_wp2_with fail
      go_roundw
      case rel => exact ⟨k + 1, by omega, by go_num, congrArg (Value.int .i64) (by rw [HNX.out]), HR3.out⟩
      case measure => simp [intOf]; omega
    · obtain rfl : k = xs.length := by omega
      have hte : t = m + mtSum xs := et.trans (mtO_end xs m)
      go_wp2_with fail
      go_ret
      exact ⟨by rw [hte]; rfl, HBW.out⟩
end Go.Proofs.Ytbpihiholbidlaa
namespace Go.Proofs.Ytbpihiholbidlaa
open Go.ChangeShapes Go.WideShapes Go.Deep Go.RowKit Go.Joins

section
variable {H : Type} {enc : TypeId × Value → H} {w : World} {base : Nat} {spare : Nat → Bool} {held : Bool}
set_option maxRecDepth 100000 in
theorem open_matches {fuel : Nat} {v : Value} {y : DataW H × List MemPlace} (h : DataW.trod enc Try.prog w base spare held fuel 22 [v] = some y) :
    ∃ xs : List Mt, kMt.Rd w.heap.size w v xs ∧ ∀ x ∈ xs, x.Ok := by
  obtain ⟨p, len, cap, rfl, hl, hm, hi⟩ := open_cells Try.underlying22 kM3 (by decide) h
  refine Kd.rd_of kMt hl hm Mt.Ok fun i him => ?_
  obtain ⟨b, off, n, cs, z, e, hlt, hlen, hc, ht⟩ := hi i him
  match cs, hlen with
  | [c0, c1, c2], _ =>
    obtain ⟨m, ⟨h0, h1, h2⟩, hok⟩ := open_match3 ht
    exact ⟨m, ⟨b, off, _, e, hlt, hc, ⟨c0, c1, c2, rfl, _, _, _, rfl, h0, h1, h2⟩⟩, hok⟩
set_option maxRecDepth 100000 in
/-- A row of matches that came in. -/
theorem open_matchRow {r : Reach} {b0 : Nat} {v : Value} {d : DataW H} {p : List MemPlace} (hv : Value.okWide Try.prog w r b0 22 v) (h : DataW.Trod enc Try.prog w base spare held 22 v d p) :
    ∃ xs : List Mt, kMt.Rd w.heap.size w v xs ∧ ∀ x ∈ xs, x.Ok := by
  obtain ⟨p', len', cap', rfl⟩ := okWide_slice Try.underlying22 hv
  obtain ⟨fuel, hf⟩ := h
  exact open_matches (by simpa [Value.cells] using hf)
end
end Go.Proofs.Ytbpihiholbidlaa
