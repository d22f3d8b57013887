/- l1Draw: some graph, in memory of the call's own. -/
import Derived.Test.YtfdkmngkpihpbaaDr
import Derived.Test.YtfdkmngkpihpbaaOwnM
namespace Go.Proofs.Ytfdkmngkpihpbaa
open Go.RowKit

theorem small_len {n : Nat} (h : n ≤ 100) : n ≤ maxLen := by unfold maxLen; omega
theorem rel1_more {ns : List Nd} (h : ∀ x ∈ ns, x.Ok) {s : ByteArray} {z : Int} (hs : s.size ≤ 100) (h0 : -1000 ≤ z) (h1 : z ≤ 1000) : ∀ x ∈ ns ++ [⟨s, z⟩], x.Ok := by
  intro x hx
  rcases List.mem_append.1 hx with hx | hx
  · exact h x hx
  · simp at hx; subst hx; exact ⟨small_len hs, by unfold I64; simp only; omega⟩

theorem rel2_more {es : List Ed} (h : ∀ x ∈ es, x.Ok) {p r z : Int} {s : ByteArray} (p0 : 0 ≤ p) (p1 : p ≤ 1000) (r0 : 0 ≤ r) (r1 : r ≤ 1000) (hs : s.size ≤ 100) (h0 : -1000 ≤ z) (h1 : z ≤ 1000) : ∀ x ∈ es ++ [⟨p, r, s, z⟩], x.Ok := by
  intro x hx
  rcases List.mem_append.1 hx with hx | hx
  · exact h x hx
  · simp at hx; subst hx; exact ⟨by unfold I64; simp only; omega, by unfold I64; simp only; omega, small_len hs, by unfold I64; simp only; omega⟩
theorem pick_sm (m : Int) (a N : Nat) (w : World) (h : Dr w a N) (hN : N ≤ 999000) (hm : m ≤ 1000) :
    Calls Try.prog 87 #[.pointer (some ⟨a, 0, none⟩), .int .i64 m] w fun e w' => ∃ q : Int, e = .returned (.int .i64 q) ∧ 0 ≤ q ∧ q ≤ 1000 ∧ Dr w' a (N + 1) ∧ Chg [a] w w' := by
  refine (pick_dr m a N w h hN).mono ?_
  rintro e w' ⟨q, h1, h2, h3, h4, h5⟩
  have ht : top m ≤ 1000 := by unfold top; split <;> omega
  exact ⟨q, h1, h2, by omega, h4, h5⟩

set_option maxRecDepth 100000 in
set_option maxHeartbeats 16000000 in
theorem l1Draw_any (a N : Nat) (w : World) (h : Dr w a N) (hN : N ≤ 900000) :
    Calls Try.prog 108 #[.pointer (some ⟨a, 0, none⟩)] w fun e w' => ∃ (g : Gr) (v : Value) (F : List Nat), e = .returned v ∧ g.Has v F w' ∧ (∀ x ∈ F, w.heap.size ≤ x) ∧ g.Ok ∧ (g.ns.length ≤ 1000 ∧ g.es.length ≤ 1000) ∧ Dr w' a (N + 7000) ∧ Chg [a] w w' := by
  have hal := h.lt
  go_enter Try.func108, Try.ntmps108
  go_wp2_with fail
  obtain ⟨W1, eW1⟩ : ∃ x, x = w.alloc (.cells #[.slice none 0 0, .slice none 0 0] 71) := ⟨_, rfl⟩
  have sW1 : W1.heap.size = w.heap.size + 1 := by rw [eW1]; simp
  have HW1 := Lib.hid (show Chg [] w W1 by rw [eW1]; exact (Chg.refl _ _).alloc _)
  have HRES := Lib.hid (show (W1.cell? ⟨w.heap.size, 0, none⟩ = some (.slice none 0 0) ∧ W1.cell? ⟨w.heap.size, 1, none⟩ = some (.slice none 0 0)) ∧ W1.frozen? ⟨w.heap.size, 0, none⟩ = false ∧ W1.frozen? ⟨w.heap.size, 1, none⟩ = false by rw [eW1]; exact ⟨⟨by simp [go_sem], by simp [go_sem]⟩, by simp [go_sem], by simp [go_sem]⟩)
  rw [← eW1]
  have hb0 : Chg [] W1 ((W1.alloc (.cells #[.slice none 0 0, .slice none 0 0] 71)).alloc (.cells #[.int .i64 4, .int .i64 3, .int .i64 5, .int .i64 2, .int .i64 6, .int .i64 1] 3)) := ((Chg.refl _ _).alloc _).alloc _
  refine Calls.mono (num_dr a N _ 6 _ _ ((h.chg HW1.out (by simp)).chg hb0 (by simp)) (by omega) (Cs.fresh intB intB_spec _ _ _ (by simp [sW1]) rfl (by kernel_rfl)) (by decide) (by omega)) ?_
  rintro en w1 ⟨q, rfl, hq0, hq1, d1, k1⟩
  have hsz1 : w.heap.size + 3 ≤ w1.heap.size := by have := k1.size; simp at this; omega
  have hT1 : GTwo [] [] (w.heap.size + 1) (w.heap.size + 1) (.slice none 0 0) (.slice none 0 0) w1 :=
    ⟨⟨by omega, by omega⟩, ⟨k1.cellOf (by simp; omega) (by rw [← sW1]; simp [go_sem]), k1.cellOf (by simp; omega) (by rw [← sW1]; simp [go_sem])⟩, ⟨k1.frozenOf (by simp; omega) (by simp; omega) (by rw [← sW1]; simp [go_sem]), k1.frozenOf (by simp; omega) (by simp; omega) (by rw [← sW1]; simp [go_sem])⟩, [], [], OwnS.empty none, OwnS.empty none, by simp, by simp, by simp⟩
  have HC1 := Lib.hid ((hb0.mono (by simp)).trans k1 : Chg [a] W1 w1)
  have HT1 := Lib.hid hT1
  clear hb0 k1 hT1
  go_wp2_with fail
  go_loopw [4] (fun i wr => ∃ (q : Int) (k : Nat) (ns : List Nd) (v1 v2 : Value), i = .int .i64 q ∧ q ≤ k ∧ k ≤ 1000 ∧ GTwo ns [] (w.heap.size + 1) (w.heap.size + 1) v1 v2 wr ∧ (∀ x ∈ ns, x.Ok) ∧ ns.length ≤ 1000 - k ∧ Dr wr a (N + 1 + 2 * (1000 - k)) ∧ Chg [a] W1 wr) (fun i _ => (intOf i).toNat)
  case atStart => exact ⟨q, 1000, [], _, _, rfl, by omega, Nat.le_refl _, HT1.out, by simp, by simp, d1.mono (by omega), HC1.out⟩
  case round =>
    obtain ⟨q, k, ns, v1, v2, rfl, hqk, hk, hT, hok, hln, hd, hc⟩ := hrel
    have HT := Lib.hid hT
    have HC := Lib.hid hc
    clear hT hc
    obtain ⟨⟨hb3, _⟩, ⟨x0, x1⟩, ⟨x2, x3⟩, F1, F2, o1, o2, _⟩ := HT.out
    obtain ⟨p1, c1, rfl⟩ := o1.form
    obtain ⟨p2, c2, rfl⟩ := o2.form
    clear o1 o2
    have har : a < wr.heap.size := by omega
    by_cases hpos : 0 < q
    · have GT := Lib.hid (fun (E : World) (hE : Chg [a] wr E) => HT.out.chg hE (by simp; omega))
      have HK := Lib.hid (fun (E : World) (hE : Chg [a] wr E) => (GT.out E hE).2.1)
      have kwr := Chg.refl [a] wr
      have q0 : decide (0 < q) = true := decide_eq_true hpos
      go_upto_region 5 with fail
      refine wp_region_E (last := 12) (S := fun w' => w'.cell? ⟨w.heap.size + 1, 0, none⟩ = some (.slice p1 ns.length c1) ∧ w'.cell? ⟨w.heap.size + 1, 1, none⟩ = some (.slice p2 0 c2)) (by kernel_rfl) ?_ (fun hHeld => ?_)
      · exact HK.out _ (show Chg [a] wr _ by ((repeat (first | with_reducible assumption | with_reducible exact Chg.refl _ _ | refine Chg.alloc ?_ _ | refine Chg.drew ?_)); first | done | fail "chg"))
      have cW : Chg [a] wr wr.drew := Chg.drew (Chg.refl _ _)
      have dW : Dr wr.drew a (N + 1 + 2 * (1000 - k)) := hd.drew
      have yW : a < wr.drew.heap.size := har
      generalize wr.drew = W0 at cW dW yW hHeld ⊢
      (refine takeE (i := 0) (v := ?_) [] rfl (by kernel_rfl) (by kernel_rfl) (fun _ _ _ h => h) (Or.inl ⟨by kernel_rfl, ?_⟩) (by assumption) ?_; rotate_left; (focus (intro w hSw; (try dsimp only at hSw); go_simp; first | done | with_reducible rfl | fail "takeE")); (try simp only [Act.put, List.setIfInBounds_toArray, List.set_cons_zero, List.set_cons_succ]))
      (refine takeE (i := 1) (v := ?_) [] rfl (by kernel_rfl) (by kernel_rfl) (fun _ _ _ h => h) (Or.inl ⟨by kernel_rfl, ?_⟩) (by assumption) ?_; rotate_left; (focus (intro w hSw; (try dsimp only at hSw); go_simp; first | done | with_reducible rfl | fail "takeE")); (try simp only [Act.put, List.setIfInBounds_toArray, List.set_cons_zero, List.set_cons_succ]))
      (refine takeE (i := 2) (v := ?_) [] rfl (by kernel_rfl) (by kernel_rfl) (fun _ _ _ h => h) (Or.inl ⟨by kernel_rfl, ?_⟩) (by assumption) ?_; rotate_left; (focus (intro w hSw; (try dsimp only at hSw); go_simp; first | done | with_reducible rfl | fail "takeE")); (try simp only [Act.put, List.setIfInBounds_toArray, List.set_cons_zero, List.set_cons_succ]))
      (refine takeE (i := 5) (v := ?_) [] rfl (by kernel_rfl) (by kernel_rfl) (fun _ _ _ h => h) (Or.inl ⟨by kernel_rfl, ?_⟩) (by assumption) ?_; rotate_left; (focus (intro w hSw; (try dsimp only at hSw); go_simp; first | done | with_reducible rfl | fail "takeE")); (try simp only [Act.put, List.setIfInBounds_toArray, List.set_cons_zero, List.set_cons_succ]))
      refine upE (rs := [3, 6]) (by kernel_rfl) (by simp) (AllE'.cons (i := 3) rfl (by kernel_rfl) (fun K hK => ?_) (AllE'.cons (i := 6) rfl (by kernel_rfl) (fun K hK => ?_) AllE'.nil))
      · go_simp
        refine made (K := K) strB_spec 5 (by rfl) (by kernel_rfl) ?_
        intro u1 ku1 zu1 sA
        have cu1 : Chg [a] wr u1 := (show Chg [a] wr _ by ((repeat (first | with_reducible assumption | with_reducible exact Chg.refl _ _ | refine Chg.alloc ?_ _ | refine Chg.drew ?_)); first | done | fail "chg")).trans (ku1.mono (by simp))
        have du1 : Dr u1 a (N + 1 + 2 * (1000 - k)) := (show Dr _ a (N + 1 + 2 * (1000 - k)) by ((repeat (first | with_reducible assumption | refine Dr.alloc ?_ _ | refine Dr.drew ?_)); first | done | fail "drk")).chg ku1 (by simp)
        have nA : W0.heap.size ≠ a := by omega
        have yu1 : a < u1.heap.size := by have := cu1.size; omega
        refine hK.out _ _ (HK.out _ (show Chg [a] wr _ by ((repeat (first | with_reducible assumption | with_reducible exact Chg.refl _ _ | refine Chg.alloc ?_ _ | refine Chg.drew ?_)); first | done | fail "chg"))) (fun hHeld => ?_)
        clear hK K
        (try simp only [Act.put, List.setIfInBounds_toArray, List.set_cons_zero, List.set_cons_succ])
        refine upE (rs := [4, 6]) (by kernel_rfl) (by simp) (AllE'.cons (i := 4) rfl (by kernel_rfl) (fun K hK => ?_) (AllE'.cons (i := 6) rfl (by kernel_rfl) (fun K hK => ?_) AllE'.nil))
        · go_simp
          go_at_call 90
          refine Calls.mono (of_dr a (N + 1 + 2 * (1000 - k)) _ 5 _ _ (by ((repeat (first | with_reducible assumption | refine Dr.alloc ?_ _ | refine Dr.drew ?_)); first | done | fail "drk")) (by omega) sA (by decide) nA) ?_
          rintro en u2 ⟨x, rfl, hx, du2, ku2⟩
          have cu2 : Chg [a] wr u2 := (show Chg [a] wr _ by ((repeat (first | with_reducible assumption | with_reducible exact Chg.refl _ _ | refine Chg.alloc ?_ _ | refine Chg.drew ?_)); first | done | fail "chg")).trans ku2
          have yu2 : a < u2.heap.size := by have := cu2.size; omega
          go_wp2_with fail
          refine hK.out _ _ (HK.out _ (show Chg [a] wr _ by ((repeat (first | with_reducible assumption | with_reducible exact Chg.refl _ _ | refine Chg.alloc ?_ _ | refine Chg.drew ?_)); first | done | fail "chg"))) (fun hHeld => ?_)
          clear hK K
          (try simp only [Act.put, List.setIfInBounds_toArray, List.set_cons_zero, List.set_cons_succ])
          refine oneE (i := 6) rfl (by kernel_rfl) (by kernel_rfl) (fun K hK => ?_)
          go_simp
          refine made (K := K) intB_spec 5 (by rfl) (by kernel_rfl) ?_
          intro u3 ku3 zu3 sB
          have cu3 : Chg [a] wr u3 := (show Chg [a] wr _ by ((repeat (first | with_reducible assumption | with_reducible exact Chg.refl _ _ | refine Chg.alloc ?_ _ | refine Chg.drew ?_)); first | done | fail "chg")).trans (ku3.mono (by simp))
          have du3 : Dr u3 a (N + 1 + 2 * (1000 - k) + 1) := (show Dr _ a (N + 1 + 2 * (1000 - k) + 1) by ((repeat (first | with_reducible assumption | refine Dr.alloc ?_ _ | refine Dr.drew ?_)); first | done | fail "drk")).chg ku3 (by simp)
          have nB : u2.heap.size ≠ a := by omega
          have yu3 : a < u3.heap.size := by have := cu3.size; omega
          refine hK.out _ _ (HK.out _ (show Chg [a] wr _ by ((repeat (first | with_reducible assumption | with_reducible exact Chg.refl _ _ | refine Chg.alloc ?_ _ | refine Chg.drew ?_)); first | done | fail "chg"))) (fun hHeld => ?_)
          clear hK K
          (try simp only [Act.put, List.setIfInBounds_toArray, List.set_cons_zero, List.set_cons_succ])
          refine oneE (i := 7) rfl (by kernel_rfl) (by kernel_rfl) (fun K hK => ?_)
          go_simp
          go_at_call 51
          refine Calls.mono (num_dr a (N + 1 + 2 * (1000 - k) + 1) _ 5 _ _ (by ((repeat (first | with_reducible assumption | refine Dr.alloc ?_ _ | refine Dr.drew ?_)); first | done | fail "drk")) (by omega) sB (by decide) nB) ?_
          rintro en u4 ⟨z, rfl, hz0, hz1, du4, ku4⟩
          have cu4 : Chg [a] wr u4 := (show Chg [a] wr _ by ((repeat (first | with_reducible assumption | with_reducible exact Chg.refl _ _ | refine Chg.alloc ?_ _ | refine Chg.drew ?_)); first | done | fail "chg")).trans ku4
          have yu4 : a < u4.heap.size := by have := cu4.size; omega
          go_wp2_with fail
          refine hK.out _ _ (HK.out _ (show Chg [a] wr _ by ((repeat (first | with_reducible assumption | with_reducible exact Chg.refl _ _ | refine Chg.alloc ?_ _ | refine Chg.drew ?_)); first | done | fail "chg"))) (fun hHeld => ?_)
          clear hK K
          (try simp only [Act.put, List.setIfInBounds_toArray, List.set_cons_zero, List.set_cons_succ])
          (refine takeE (i := 8) (v := ?_) [] rfl (by kernel_rfl) (by kernel_rfl) (fun _ _ _ h => h) (Or.inl ⟨by kernel_rfl, ?_⟩) (by assumption) ?_; rotate_left; (focus (intro w hSw; (try dsimp only at hSw); go_simp; first | done | with_reducible rfl | fail "takeE")); (try simp only [Act.put, List.setIfInBounds_toArray, List.set_cons_zero, List.set_cons_succ]))
          refine oneE (i := 9) rfl (by kernel_rfl) (by kernel_rfl) (fun K hK => ?_)
          go_simp
          refine hK.out _ _ (HK.out _ (show Chg [a] wr _ by ((repeat (first | with_reducible assumption | with_reducible exact Chg.refl _ _ | refine Chg.alloc ?_ _ | refine Chg.drew ?_)); first | done | fail "chg"))) (fun hHeld => ?_)
          clear hK K
          (try simp only [Act.put, List.setIfInBounds_toArray, List.set_cons_zero, List.set_cons_succ])
          refine oneE (i := 10) rfl (by kernel_rfl) (by kernel_rfl) (fun K hK => ?_)
          have HT := GT.out _ (show Chg [a] wr _ from cu4)
          refine wp_app (.tmp 15) (.tmp 23) 68 (by rfl) _ _ (by rfl) (by rfl) _ (appN HT ⟨x, z⟩ (by omega)) ?_
          rintro v' w' ⟨hT, ⟨e0, e1, e2, e3⟩, ⟨pv, cv, rfl⟩, G, hG, hGl⟩
          have HT2 := Lib.hid hT
          have HG := Lib.hid hG
          have HGl := Lib.hid hGl
          clear hT hG hGl HT
          refine hK.out _ _ ⟨e0, e1⟩ (fun hHeld => ?_)
          clear hK K
          (try simp only [Act.put, List.setIfInBounds_toArray, List.set_cons_zero, List.set_cons_succ])
          (refine takeE (i := 11) (v := ?_) [] rfl (by kernel_rfl) (by kernel_rfl) (fun _ _ _ h => h) (Or.inl ⟨by kernel_rfl, ?_⟩) (by assumption) ?_; rotate_left; (focus (intro w hSw; (try dsimp only at hSw); go_simp; first | done | with_reducible rfl | fail "takeE")); (try simp only [Act.put, List.setIfInBounds_toArray, List.set_cons_zero, List.set_cons_succ]))
          refine lastE rfl (by kernel_rfl) (by kernel_rfl) (fun K hK => ?_)
          go_simp
          refine hK.out _ _ ?_
          clear hK K
          refine doneE (by kernel_rfl) ?_ _
          go_wp2_with fail
          go_roundw
          case rel =>
            have HD := (show Dr _ a (N + 1 + 2 * (1000 - k) + 2) by ((repeat (first | with_reducible assumption | refine Dr.alloc ?_ _ | refine Dr.drew ?_)); first | done | fail "drk"))
            exact ⟨q - 1, k - 1, _, _, _, by go_num, by omega, by omega, HT2.out, rel1_more hok hx hz0 hz1, by simp; omega, (HD.chg HG.out (fun x hx => by have := HGl.out x hx; omega)).mono (by omega), (HC.out.trans (show Chg [a] wr _ by ((repeat (first | with_reducible assumption | with_reducible exact Chg.refl _ _ | refine Chg.alloc ?_ _ | refine Chg.drew ?_)); first | done | fail "chg"))).past HG.out (fun x hx => .inr (by have := HGl.out x hx; omega))⟩
          case measure => simp [intOf]; omega
        · go_simp
          refine made (K := K) intB_spec 5 (by rfl) (by kernel_rfl) ?_
          intro u5 ku5 zu5 sB
          have cu5 : Chg [a] wr u5 := (show Chg [a] wr _ by ((repeat (first | with_reducible assumption | with_reducible exact Chg.refl _ _ | refine Chg.alloc ?_ _ | refine Chg.drew ?_)); first | done | fail "chg")).trans (ku5.mono (by simp))
          have du5 : Dr u5 a (N + 1 + 2 * (1000 - k)) := (show Dr _ a (N + 1 + 2 * (1000 - k)) by ((repeat (first | with_reducible assumption | refine Dr.alloc ?_ _ | refine Dr.drew ?_)); first | done | fail "drk")).chg ku5 (by simp)
          have nB : u1.heap.size ≠ a := by omega
          replace sA := sA.chg ku5 (by simp)
          have yu5 : a < u5.heap.size := by have := cu5.size; omega
          refine hK.out _ _ (HK.out _ (show Chg [a] wr _ by ((repeat (first | with_reducible assumption | with_reducible exact Chg.refl _ _ | refine Chg.alloc ?_ _ | refine Chg.drew ?_)); first | done | fail "chg"))) (fun hHeld => ?_)
          clear hK K
          (try simp only [Act.put, List.setIfInBounds_toArray, List.set_cons_zero, List.set_cons_succ])
          refine oneE (i := 4) rfl (by kernel_rfl) (by kernel_rfl) (fun K hK => ?_)
          go_simp
          go_at_call 90
          refine Calls.mono (of_dr a (N + 1 + 2 * (1000 - k)) _ 5 _ _ (by ((repeat (first | with_reducible assumption | refine Dr.alloc ?_ _ | refine Dr.drew ?_)); first | done | fail "drk")) (by omega) sA (by decide) nA) ?_
          rintro en u6 ⟨x, rfl, hx, du6, ku6⟩
          have cu6 : Chg [a] wr u6 := (show Chg [a] wr _ by ((repeat (first | with_reducible assumption | with_reducible exact Chg.refl _ _ | refine Chg.alloc ?_ _ | refine Chg.drew ?_)); first | done | fail "chg")).trans ku6
          replace sB := sB.chg ku6 (by simpa using nB)
          have yu6 : a < u6.heap.size := by have := cu6.size; omega
          go_wp2_with fail
          refine hK.out _ _ (HK.out _ (show Chg [a] wr _ by ((repeat (first | with_reducible assumption | with_reducible exact Chg.refl _ _ | refine Chg.alloc ?_ _ | refine Chg.drew ?_)); first | done | fail "chg"))) (fun hHeld => ?_)
          clear hK K
          (try simp only [Act.put, List.setIfInBounds_toArray, List.set_cons_zero, List.set_cons_succ])
          refine oneE (i := 7) rfl (by kernel_rfl) (by kernel_rfl) (fun K hK => ?_)
          go_simp
          go_at_call 51
          refine Calls.mono (num_dr a (N + 1 + 2 * (1000 - k) + 1) _ 5 _ _ (by ((repeat (first | with_reducible assumption | refine Dr.alloc ?_ _ | refine Dr.drew ?_)); first | done | fail "drk")) (by omega) sB (by decide) nB) ?_
          rintro en u7 ⟨z, rfl, hz0, hz1, du7, ku7⟩
          have cu7 : Chg [a] wr u7 := (show Chg [a] wr _ by ((repeat (first | with_reducible assumption | with_reducible exact Chg.refl _ _ | refine Chg.alloc ?_ _ | refine Chg.drew ?_)); first | done | fail "chg")).trans ku7
          have yu7 : a < u7.heap.size := by have := cu7.size; omega
          go_wp2_with fail
          refine hK.out _ _ (HK.out _ (show Chg [a] wr _ by ((repeat (first | with_reducible assumption | with_reducible exact Chg.refl _ _ | refine Chg.alloc ?_ _ | refine Chg.drew ?_)); first | done | fail "chg"))) (fun hHeld => ?_)
          clear hK K
          (try simp only [Act.put, List.setIfInBounds_toArray, List.set_cons_zero, List.set_cons_succ])
          (refine takeE (i := 8) (v := ?_) [] rfl (by kernel_rfl) (by kernel_rfl) (fun _ _ _ h => h) (Or.inl ⟨by kernel_rfl, ?_⟩) (by assumption) ?_; rotate_left; (focus (intro w hSw; (try dsimp only at hSw); go_simp; first | done | with_reducible rfl | fail "takeE")); (try simp only [Act.put, List.setIfInBounds_toArray, List.set_cons_zero, List.set_cons_succ]))
          refine oneE (i := 9) rfl (by kernel_rfl) (by kernel_rfl) (fun K hK => ?_)
          go_simp
          refine hK.out _ _ (HK.out _ (show Chg [a] wr _ by ((repeat (first | with_reducible assumption | with_reducible exact Chg.refl _ _ | refine Chg.alloc ?_ _ | refine Chg.drew ?_)); first | done | fail "chg"))) (fun hHeld => ?_)
          clear hK K
          (try simp only [Act.put, List.setIfInBounds_toArray, List.set_cons_zero, List.set_cons_succ])
          refine oneE (i := 10) rfl (by kernel_rfl) (by kernel_rfl) (fun K hK => ?_)
          have HT := GT.out _ (show Chg [a] wr _ from cu7)
          refine wp_app (.tmp 15) (.tmp 23) 68 (by rfl) _ _ (by rfl) (by rfl) _ (appN HT ⟨x, z⟩ (by omega)) ?_
          rintro v' w' ⟨hT, ⟨e0, e1, e2, e3⟩, ⟨pv, cv, rfl⟩, G, hG, hGl⟩
          have HT2 := Lib.hid hT
          have HG := Lib.hid hG
          have HGl := Lib.hid hGl
          clear hT hG hGl HT
          refine hK.out _ _ ⟨e0, e1⟩ (fun hHeld => ?_)
          clear hK K
          (try simp only [Act.put, List.setIfInBounds_toArray, List.set_cons_zero, List.set_cons_succ])
          (refine takeE (i := 11) (v := ?_) [] rfl (by kernel_rfl) (by kernel_rfl) (fun _ _ _ h => h) (Or.inl ⟨by kernel_rfl, ?_⟩) (by assumption) ?_; rotate_left; (focus (intro w hSw; (try dsimp only at hSw); go_simp; first | done | with_reducible rfl | fail "takeE")); (try simp only [Act.put, List.setIfInBounds_toArray, List.set_cons_zero, List.set_cons_succ]))
          refine lastE rfl (by kernel_rfl) (by kernel_rfl) (fun K hK => ?_)
          go_simp
          refine hK.out _ _ ?_
          clear hK K
          refine doneE (by kernel_rfl) ?_ _
          go_wp2_with fail
          go_roundw
          case rel =>
            have HD := (show Dr _ a (N + 1 + 2 * (1000 - k) + 2) by ((repeat (first | with_reducible assumption | refine Dr.alloc ?_ _ | refine Dr.drew ?_)); first | done | fail "drk"))
            exact ⟨q - 1, k - 1, _, _, _, by go_num, by omega, by omega, HT2.out, rel1_more hok hx hz0 hz1, by simp; omega, (HD.chg HG.out (fun x hx => by have := HGl.out x hx; omega)).mono (by omega), (HC.out.trans (show Chg [a] wr _ by ((repeat (first | with_reducible assumption | with_reducible exact Chg.refl _ _ | refine Chg.alloc ?_ _ | refine Chg.drew ?_)); first | done | fail "chg"))).past HG.out (fun x hx => .inr (by have := HGl.out x hx; omega))⟩
          case measure => simp [intOf]; omega
      · go_simp
        refine made (K := K) intB_spec 5 (by rfl) (by kernel_rfl) ?_
        intro u8 ku8 zu8 sB
        have cu8 : Chg [a] wr u8 := (show Chg [a] wr _ by ((repeat (first | with_reducible assumption | with_reducible exact Chg.refl _ _ | refine Chg.alloc ?_ _ | refine Chg.drew ?_)); first | done | fail "chg")).trans (ku8.mono (by simp))
        have du8 : Dr u8 a (N + 1 + 2 * (1000 - k)) := (show Dr _ a (N + 1 + 2 * (1000 - k)) by ((repeat (first | with_reducible assumption | refine Dr.alloc ?_ _ | refine Dr.drew ?_)); first | done | fail "drk")).chg ku8 (by simp)
        have nB : W0.heap.size ≠ a := by omega
        have yu8 : a < u8.heap.size := by have := cu8.size; omega
        refine hK.out _ _ (HK.out _ (show Chg [a] wr _ by ((repeat (first | with_reducible assumption | with_reducible exact Chg.refl _ _ | refine Chg.alloc ?_ _ | refine Chg.drew ?_)); first | done | fail "chg"))) (fun hHeld => ?_)
        clear hK K
        (try simp only [Act.put, List.setIfInBounds_toArray, List.set_cons_zero, List.set_cons_succ])
        refine oneE (i := 3) rfl (by kernel_rfl) (by kernel_rfl) (fun K hK => ?_)
        go_simp
        refine made (K := K) strB_spec 5 (by rfl) (by kernel_rfl) ?_
        intro u9 ku9 zu9 sA
        have cu9 : Chg [a] wr u9 := (show Chg [a] wr _ by ((repeat (first | with_reducible assumption | with_reducible exact Chg.refl _ _ | refine Chg.alloc ?_ _ | refine Chg.drew ?_)); first | done | fail "chg")).trans (ku9.mono (by simp))
        have du9 : Dr u9 a (N + 1 + 2 * (1000 - k)) := (show Dr _ a (N + 1 + 2 * (1000 - k)) by ((repeat (first | with_reducible assumption | refine Dr.alloc ?_ _ | refine Dr.drew ?_)); first | done | fail "drk")).chg ku9 (by simp)
        have nA : u8.heap.size ≠ a := by omega
        replace sB := sB.chg ku9 (by simp)
        have yu9 : a < u9.heap.size := by have := cu9.size; omega
        refine hK.out _ _ (HK.out _ (show Chg [a] wr _ by ((repeat (first | with_reducible assumption | with_reducible exact Chg.refl _ _ | refine Chg.alloc ?_ _ | refine Chg.drew ?_)); first | done | fail "chg"))) (fun hHeld => ?_)
        clear hK K
        (try simp only [Act.put, List.setIfInBounds_toArray, List.set_cons_zero, List.set_cons_succ])
        refine oneE (i := 4) rfl (by kernel_rfl) (by kernel_rfl) (fun K hK => ?_)
        go_simp
        go_at_call 90
        refine Calls.mono (of_dr a (N + 1 + 2 * (1000 - k)) _ 5 _ _ (by ((repeat (first | with_reducible assumption | refine Dr.alloc ?_ _ | refine Dr.drew ?_)); first | done | fail "drk")) (by omega) sA (by decide) nA) ?_
        rintro en u10 ⟨x, rfl, hx, du10, ku10⟩
        have cu10 : Chg [a] wr u10 := (show Chg [a] wr _ by ((repeat (first | with_reducible assumption | with_reducible exact Chg.refl _ _ | refine Chg.alloc ?_ _ | refine Chg.drew ?_)); first | done | fail "chg")).trans ku10
        replace sB := sB.chg ku10 (by simpa using nB)
        have yu10 : a < u10.heap.size := by have := cu10.size; omega
        go_wp2_with fail
        refine hK.out _ _ (HK.out _ (show Chg [a] wr _ by ((repeat (first | with_reducible assumption | with_reducible exact Chg.refl _ _ | refine Chg.alloc ?_ _ | refine Chg.drew ?_)); first | done | fail "chg"))) (fun hHeld => ?_)
        clear hK K
        (try simp only [Act.put, List.setIfInBounds_toArray, List.set_cons_zero, List.set_cons_succ])
        refine oneE (i := 7) rfl (by kernel_rfl) (by kernel_rfl) (fun K hK => ?_)
        go_simp
        go_at_call 51
        refine Calls.mono (num_dr a (N + 1 + 2 * (1000 - k) + 1) _ 5 _ _ (by ((repeat (first | with_reducible assumption | refine Dr.alloc ?_ _ | refine Dr.drew ?_)); first | done | fail "drk")) (by omega) sB (by decide) nB) ?_
        rintro en u11 ⟨z, rfl, hz0, hz1, du11, ku11⟩
        have cu11 : Chg [a] wr u11 := (show Chg [a] wr _ by ((repeat (first | with_reducible assumption | with_reducible exact Chg.refl _ _ | refine Chg.alloc ?_ _ | refine Chg.drew ?_)); first | done | fail "chg")).trans ku11
        have yu11 : a < u11.heap.size := by have := cu11.size; omega
        go_wp2_with fail
        refine hK.out _ _ (HK.out _ (show Chg [a] wr _ by ((repeat (first | with_reducible assumption | with_reducible exact Chg.refl _ _ | refine Chg.alloc ?_ _ | refine Chg.drew ?_)); first | done | fail "chg"))) (fun hHeld => ?_)
        clear hK K
        (try simp only [Act.put, List.setIfInBounds_toArray, List.set_cons_zero, List.set_cons_succ])
        (refine takeE (i := 8) (v := ?_) [] rfl (by kernel_rfl) (by kernel_rfl) (fun _ _ _ h => h) (Or.inl ⟨by kernel_rfl, ?_⟩) (by assumption) ?_; rotate_left; (focus (intro w hSw; (try dsimp only at hSw); go_simp; first | done | with_reducible rfl | fail "takeE")); (try simp only [Act.put, List.setIfInBounds_toArray, List.set_cons_zero, List.set_cons_succ]))
        refine oneE (i := 9) rfl (by kernel_rfl) (by kernel_rfl) (fun K hK => ?_)
        go_simp
        refine hK.out _ _ (HK.out _ (show Chg [a] wr _ by ((repeat (first | with_reducible assumption | with_reducible exact Chg.refl _ _ | refine Chg.alloc ?_ _ | refine Chg.drew ?_)); first | done | fail "chg"))) (fun hHeld => ?_)
        clear hK K
        (try simp only [Act.put, List.setIfInBounds_toArray, List.set_cons_zero, List.set_cons_succ])
        refine oneE (i := 10) rfl (by kernel_rfl) (by kernel_rfl) (fun K hK => ?_)
        have HT := GT.out _ (show Chg [a] wr _ from cu11)
        refine wp_app (.tmp 15) (.tmp 23) 68 (by rfl) _ _ (by rfl) (by rfl) _ (appN HT ⟨x, z⟩ (by omega)) ?_
        rintro v' w' ⟨hT, ⟨e0, e1, e2, e3⟩, ⟨pv, cv, rfl⟩, G, hG, hGl⟩
        have HT2 := Lib.hid hT
        have HG := Lib.hid hG
        have HGl := Lib.hid hGl
        clear hT hG hGl HT
        refine hK.out _ _ ⟨e0, e1⟩ (fun hHeld => ?_)
        clear hK K
        (try simp only [Act.put, List.setIfInBounds_toArray, List.set_cons_zero, List.set_cons_succ])
        (refine takeE (i := 11) (v := ?_) [] rfl (by kernel_rfl) (by kernel_rfl) (fun _ _ _ h => h) (Or.inl ⟨by kernel_rfl, ?_⟩) (by assumption) ?_; rotate_left; (focus (intro w hSw; (try dsimp only at hSw); go_simp; first | done | with_reducible rfl | fail "takeE")); (try simp only [Act.put, List.setIfInBounds_toArray, List.set_cons_zero, List.set_cons_succ]))
        refine lastE rfl (by kernel_rfl) (by kernel_rfl) (fun K hK => ?_)
        go_simp
        refine hK.out _ _ ?_
        clear hK K
        refine doneE (by kernel_rfl) ?_ _
        go_wp2_with fail
        go_roundw
        case rel =>
          have HD := (show Dr _ a (N + 1 + 2 * (1000 - k) + 2) by ((repeat (first | with_reducible assumption | refine Dr.alloc ?_ _ | refine Dr.drew ?_)); first | done | fail "drk"))
          exact ⟨q - 1, k - 1, _, _, _, by go_num, by omega, by omega, HT2.out, rel1_more hok hx hz0 hz1, by simp; omega, (HD.chg HG.out (fun x hx => by have := HGl.out x hx; omega)).mono (by omega), (HC.out.trans (show Chg [a] wr _ by ((repeat (first | with_reducible assumption | with_reducible exact Chg.refl _ _ | refine Chg.alloc ?_ _ | refine Chg.drew ?_)); first | done | fail "chg"))).past HG.out (fun x hx => .inr (by have := HGl.out x hx; omega))⟩
        case measure => simp [intOf]; omega
    · have q0 : decide (0 < q) = false := decide_eq_false hpos
      go_wp2_with fail
      have hb0 : Chg [] wr (wr.alloc (.cells #[.int .i64 4, .int .i64 3, .int .i64 6, .int .i64 2, .int .i64 8, .int .i64 0] 3)) := (Chg.refl _ _).alloc _
      refine Calls.mono (num_dr a (N + 2001) _ 6 _ _ ((hd.mono (by omega)).chg hb0 (by simp)) (by omega) (Cs.fresh intB intB_spec _ _ _ rfl rfl (by kernel_rfl)) (by decide) (by omega)) ?_
      rintro en w2 ⟨q2, rfl, hq20, hq21, d2, k2⟩
      have HC2 := Lib.hid ((HC.out.trans (hb0.mono (by simp))).trans k2 : Chg [a] W1 w2)
      have HT2 := Lib.hid ((HT.out.chg hb0 (by simp)).chg k2 (by simp; omega))
      clear hb0 k2
      have hln : ns.length ≤ 1000 := by omega
      clear hqk hk hd hpos q0
      go_wp2_with fail
      go_loopw [5] (fun i wr => ∃ (q : Int) (k : Nat) (es : List Ed) (v1 v2 : Value), i = .int .i64 q ∧ q ≤ k ∧ k ≤ 1000 ∧ GTwo ns es (w.heap.size + 1) (w.heap.size + 1) v1 v2 wr ∧ (∀ x ∈ es, x.Ok) ∧ es.length ≤ 1000 - k ∧ Dr wr a (N + 2002 + 4 * (1000 - k)) ∧ Chg [a] W1 wr) (fun i _ => (intOf i).toNat)
      case atStart => exact ⟨q2, 1000, [], _, _, rfl, by omega, Nat.le_refl _, HT2.out, by simp, by simp, d2.mono (by omega), HC2.out⟩
      case round =>
        clear HT HC HT2 HC2 d2
        obtain ⟨q, k, es, v1, v2, rfl, hqk, hk, hT, hoe, hle, hd, hc⟩ := hrel
        have HT := Lib.hid hT
        have HC := Lib.hid hc
        clear hT hc
        obtain ⟨⟨hb3, _⟩, ⟨x0, x1⟩, ⟨x2, x3⟩, F1, F2, o1, o2, _⟩ := HT.out
        obtain ⟨p1, c1, rfl⟩ := o1.form
        obtain ⟨p2, c2, rfl⟩ := o2.form
        clear o1 o2
        have har : a < wr.heap.size := by omega
        by_cases hpos : 0 < q
        · have GT := Lib.hid (fun (E : World) (hE : Chg [a] wr E) => HT.out.chg hE (by simp; omega))
          have HK := Lib.hid (fun (E : World) (hE : Chg [a] wr E) => (GT.out E hE).2.1)
          have kwr := Chg.refl [a] wr
          have q0 : decide (0 < q) = true := decide_eq_true hpos
          go_upto_region 9 with fail
          refine wp_region_E (last := 22) (S := fun w' => w'.cell? ⟨w.heap.size + 1, 0, none⟩ = some (.slice p1 ns.length c1) ∧ w'.cell? ⟨w.heap.size + 1, 1, none⟩ = some (.slice p2 es.length c2)) (by kernel_rfl) ?_ (fun hHeld => ?_)
          · exact HK.out _ (show Chg [a] wr _ by ((repeat (first | with_reducible assumption | with_reducible exact Chg.refl _ _ | refine Chg.alloc ?_ _ | refine Chg.drew ?_)); first | done | fail "chg"))
          have cW : Chg [a] wr wr.drew := Chg.drew (Chg.refl _ _)
          have dW : Dr wr.drew a (N + 2002 + 4 * (1000 - k)) := hd.drew
          have yW : a < wr.drew.heap.size := har
          generalize wr.drew = W0 at cW dW yW hHeld ⊢
          (refine takeE (i := 0) (v := ?_) [] rfl (by kernel_rfl) (by kernel_rfl) (fun _ _ _ h => h) (Or.inl ⟨by kernel_rfl, ?_⟩) (by assumption) ?_; rotate_left; (focus (intro w hSw; (try dsimp only at hSw); go_simp; first | done | with_reducible rfl | fail "takeE")); (try simp only [Act.put, List.setIfInBounds_toArray, List.set_cons_zero, List.set_cons_succ]))
          (refine takeE (i := 1) (v := ?_) [] rfl (by kernel_rfl) (by kernel_rfl) (fun _ _ _ h => h) (Or.inl ⟨by kernel_rfl, ?_⟩) (by assumption) ?_; rotate_left; (focus (intro w hSw; (try dsimp only at hSw); go_simp; first | done | with_reducible rfl | fail "takeE")); (try simp only [Act.put, List.setIfInBounds_toArray, List.set_cons_zero, List.set_cons_succ]))
          (refine takeE (i := 2) (v := ?_) [] rfl (by kernel_rfl) (by kernel_rfl) (fun _ _ _ h => h) (Or.inl ⟨by kernel_rfl, ?_⟩) (by assumption) ?_; rotate_left; (focus (intro w hSw; (try dsimp only at hSw); go_simp; first | done | with_reducible rfl | fail "takeE")); (try simp only [Act.put, List.setIfInBounds_toArray, List.set_cons_zero, List.set_cons_succ]))
          (refine takeE (i := 3) (v := ?_) [] rfl (by kernel_rfl) (by kernel_rfl) (fun _ _ _ h => h) (Or.inl ⟨by kernel_rfl, ?_⟩) (by assumption) ?_; rotate_left; (focus (intro w hSw; (try dsimp only at hSw); go_simp; first | done | with_reducible rfl | fail "takeE")); (try simp only [Act.put, List.setIfInBounds_toArray, List.set_cons_zero, List.set_cons_succ]))
          (refine takeE (i := 4) (v := ?_) [] rfl (by kernel_rfl) (by kernel_rfl) (fun _ _ _ h => h) (Or.inl ⟨by kernel_rfl, ?_⟩) (by assumption) ?_; rotate_left; (focus (intro w hSw; (try dsimp only at hSw); go_simp; first | done | with_reducible rfl | fail "takeE")); (try simp only [Act.put, List.setIfInBounds_toArray, List.set_cons_zero, List.set_cons_succ]))
          (refine takeE (i := 5) (v := ?_) [] rfl (by kernel_rfl) (by kernel_rfl) (fun _ _ _ h => h) (Or.inl ⟨by kernel_rfl, ?_⟩) (by assumption) ?_; rotate_left; (focus (intro w hSw; (try dsimp only at hSw); go_simp; first | done | with_reducible rfl | fail "takeE")); (try simp only [Act.put, List.setIfInBounds_toArray, List.set_cons_zero, List.set_cons_succ]))
          (refine takeE (i := 7) (v := ?_) [] rfl (by kernel_rfl) (by kernel_rfl) (fun _ _ _ h => h) (Or.inl ⟨by kernel_rfl, ?_⟩) (by assumption) ?_; rotate_left; (focus (intro w hSw; (try dsimp only at hSw); go_simp; first | done | with_reducible rfl | fail "takeE")); (try simp only [Act.put, List.setIfInBounds_toArray, List.set_cons_zero, List.set_cons_succ]))
          (refine takeE (i := 8) (v := ?_) [] rfl (by kernel_rfl) (by kernel_rfl) (fun _ _ _ h => h) (Or.inl ⟨by kernel_rfl, ?_⟩) (by assumption) ?_; rotate_left; (focus (intro w hSw; (try dsimp only at hSw); go_simp; first | done | with_reducible rfl | fail "takeE")); (try simp only [Act.put, List.setIfInBounds_toArray, List.set_cons_zero, List.set_cons_succ]))
          (refine takeE (i := 9) (v := ?_) [] rfl (by kernel_rfl) (by kernel_rfl) (fun _ _ _ h => h) (Or.inl ⟨by kernel_rfl, ?_⟩) (by assumption) ?_; rotate_left; (focus (intro w hSw; (try dsimp only at hSw); go_simp; first | done | with_reducible rfl | fail "takeE")); (try simp only [Act.put, List.setIfInBounds_toArray, List.set_cons_zero, List.set_cons_succ]))
          (refine takeE (i := 10) (v := ?_) [] rfl (by kernel_rfl) (by kernel_rfl) (fun _ _ _ h => h) (Or.inl ⟨by kernel_rfl, ?_⟩) (by assumption) ?_; rotate_left; (focus (intro w hSw; (try dsimp only at hSw); go_simp; first | done | with_reducible rfl | fail "takeE")); (try simp only [Act.put, List.setIfInBounds_toArray, List.set_cons_zero, List.set_cons_succ]))
          (refine takeE (i := 12) (v := ?_) [] rfl (by kernel_rfl) (by kernel_rfl) (fun _ _ _ h => h) (Or.inl ⟨by kernel_rfl, ?_⟩) (by assumption) ?_; rotate_left; (focus (intro w hSw; (try dsimp only at hSw); go_simp; first | done | with_reducible rfl | fail "takeE")); (try simp only [Act.put, List.setIfInBounds_toArray, List.set_cons_zero, List.set_cons_succ]))
          (refine takeE (i := 15) (v := ?_) [] rfl (by kernel_rfl) (by kernel_rfl) (fun _ _ _ h => h) (Or.inl ⟨by kernel_rfl, ?_⟩) (by assumption) ?_; rotate_left; (focus (intro w hSw; (try dsimp only at hSw); go_simp; first | done | with_reducible rfl | fail "takeE")); (try simp only [Act.put, List.setIfInBounds_toArray, List.set_cons_zero, List.set_cons_succ]))
          refine upE (rs := [6, 13, 16]) (by kernel_rfl) (by simp) (AllE'.cons (i := 6) rfl (by kernel_rfl) (fun K hK => ?_) (AllE'.cons (i := 13) rfl (by kernel_rfl) (fun K hK => ?_) (AllE'.cons (i := 16) rfl (by kernel_rfl) (fun K hK => ?_) AllE'.nil)))
          · go_simp
            go_at_call 87
            refine Calls.mono (pick_sm _ a (N + 2002 + 4 * (1000 - k)) _ (by ((repeat (first | with_reducible assumption | refine Dr.alloc ?_ _ | refine Dr.drew ?_)); first | done | fail "drk")) (by omega) (by omega)) ?_
            rintro en u1 ⟨p, rfl, hp0, hp1, du1, ku1⟩
            have cu1 : Chg [a] wr u1 := (show Chg [a] wr _ by ((repeat (first | with_reducible assumption | with_reducible exact Chg.refl _ _ | refine Chg.alloc ?_ _ | refine Chg.drew ?_)); first | done | fail "chg")).trans ku1
            have yu1 : a < u1.heap.size := by have := cu1.size; omega
            go_wp2_with fail
            refine hK.out _ _ (HK.out _ (show Chg [a] wr _ by ((repeat (first | with_reducible assumption | with_reducible exact Chg.refl _ _ | refine Chg.alloc ?_ _ | refine Chg.drew ?_)); first | done | fail "chg"))) (fun hHeld => ?_)
            clear hK K
            (try simp only [Act.put, List.setIfInBounds_toArray, List.set_cons_zero, List.set_cons_succ])
            refine upE (rs := [11, 13, 16]) (by kernel_rfl) (by simp) (AllE'.cons (i := 11) rfl (by kernel_rfl) (fun K hK => ?_) (AllE'.cons (i := 13) rfl (by kernel_rfl) (fun K hK => ?_) (AllE'.cons (i := 16) rfl (by kernel_rfl) (fun K hK => ?_) AllE'.nil)))
            · go_simp
              go_at_call 87
              refine Calls.mono (pick_sm _ a (N + 2002 + 4 * (1000 - k) + 1) _ (by ((repeat (first | with_reducible assumption | refine Dr.alloc ?_ _ | refine Dr.drew ?_)); first | done | fail "drk")) (by omega) (by omega)) ?_
              rintro en u2 ⟨r, rfl, hr0, hr1, du2, ku2⟩
              have cu2 : Chg [a] wr u2 := (show Chg [a] wr _ by ((repeat (first | with_reducible assumption | with_reducible exact Chg.refl _ _ | refine Chg.alloc ?_ _ | refine Chg.drew ?_)); first | done | fail "chg")).trans ku2
              have yu2 : a < u2.heap.size := by have := cu2.size; omega
              go_wp2_with fail
              refine hK.out _ _ (HK.out _ (show Chg [a] wr _ by ((repeat (first | with_reducible assumption | with_reducible exact Chg.refl _ _ | refine Chg.alloc ?_ _ | refine Chg.drew ?_)); first | done | fail "chg"))) (fun hHeld => ?_)
              clear hK K
              (try simp only [Act.put, List.setIfInBounds_toArray, List.set_cons_zero, List.set_cons_succ])
              refine upE (rs := [13, 16]) (by kernel_rfl) (by simp) (AllE'.cons (i := 13) rfl (by kernel_rfl) (fun K hK => ?_) (AllE'.cons (i := 16) rfl (by kernel_rfl) (fun K hK => ?_) AllE'.nil))
              · go_simp
                refine made (K := K) strB_spec 4 (by rfl) (by kernel_rfl) ?_
                intro u3 ku3 zu3 sA
                have cu3 : Chg [a] wr u3 := (show Chg [a] wr _ by ((repeat (first | with_reducible assumption | with_reducible exact Chg.refl _ _ | refine Chg.alloc ?_ _ | refine Chg.drew ?_)); first | done | fail "chg")).trans (ku3.mono (by simp))
                have du3 : Dr u3 a (N + 2002 + 4 * (1000 - k) + 2) := (show Dr _ a (N + 2002 + 4 * (1000 - k) + 2) by ((repeat (first | with_reducible assumption | refine Dr.alloc ?_ _ | refine Dr.drew ?_)); first | done | fail "drk")).chg ku3 (by simp)
                have nA : u2.heap.size ≠ a := by omega
                have yu3 : a < u3.heap.size := by have := cu3.size; omega
                refine hK.out _ _ (HK.out _ (show Chg [a] wr _ by ((repeat (first | with_reducible assumption | with_reducible exact Chg.refl _ _ | refine Chg.alloc ?_ _ | refine Chg.drew ?_)); first | done | fail "chg"))) (fun hHeld => ?_)
                clear hK K
                (try simp only [Act.put, List.setIfInBounds_toArray, List.set_cons_zero, List.set_cons_succ])
                refine upE (rs := [14, 16]) (by kernel_rfl) (by simp) (AllE'.cons (i := 14) rfl (by kernel_rfl) (fun K hK => ?_) (AllE'.cons (i := 16) rfl (by kernel_rfl) (fun K hK => ?_) AllE'.nil))
                · go_simp
                  go_at_call 90
                  refine Calls.mono (of_dr a (N + 2002 + 4 * (1000 - k) + 2) _ 4 _ _ (by ((repeat (first | with_reducible assumption | refine Dr.alloc ?_ _ | refine Dr.drew ?_)); first | done | fail "drk")) (by omega) sA (by decide) nA) ?_
                  rintro en u4 ⟨x, rfl, hx, du4, ku4⟩
                  have cu4 : Chg [a] wr u4 := (show Chg [a] wr _ by ((repeat (first | with_reducible assumption | with_reducible exact Chg.refl _ _ | refine Chg.alloc ?_ _ | refine Chg.drew ?_)); first | done | fail "chg")).trans ku4
                  have yu4 : a < u4.heap.size := by have := cu4.size; omega
                  go_wp2_with fail
                  refine hK.out _ _ (HK.out _ (show Chg [a] wr _ by ((repeat (first | with_reducible assumption | with_reducible exact Chg.refl _ _ | refine Chg.alloc ?_ _ | refine Chg.drew ?_)); first | done | fail "chg"))) (fun hHeld => ?_)
                  clear hK K
                  (try simp only [Act.put, List.setIfInBounds_toArray, List.set_cons_zero, List.set_cons_succ])
                  refine oneE (i := 16) rfl (by kernel_rfl) (by kernel_rfl) (fun K hK => ?_)
                  go_simp
                  refine made (K := K) intB_spec 4 (by rfl) (by kernel_rfl) ?_
                  intro u5 ku5 zu5 sB
                  have cu5 : Chg [a] wr u5 := (show Chg [a] wr _ by ((repeat (first | with_reducible assumption | with_reducible exact Chg.refl _ _ | refine Chg.alloc ?_ _ | refine Chg.drew ?_)); first | done | fail "chg")).trans (ku5.mono (by simp))
                  have du5 : Dr u5 a (N + 2002 + 4 * (1000 - k) + 3) := (show Dr _ a (N + 2002 + 4 * (1000 - k) + 3) by ((repeat (first | with_reducible assumption | refine Dr.alloc ?_ _ | refine Dr.drew ?_)); first | done | fail "drk")).chg ku5 (by simp)
                  have nB : u4.heap.size ≠ a := by omega
                  have yu5 : a < u5.heap.size := by have := cu5.size; omega
                  refine hK.out _ _ (HK.out _ (show Chg [a] wr _ by ((repeat (first | with_reducible assumption | with_reducible exact Chg.refl _ _ | refine Chg.alloc ?_ _ | refine Chg.drew ?_)); first | done | fail "chg"))) (fun hHeld => ?_)
                  clear hK K
                  (try simp only [Act.put, List.setIfInBounds_toArray, List.set_cons_zero, List.set_cons_succ])
                  refine oneE (i := 17) rfl (by kernel_rfl) (by kernel_rfl) (fun K hK => ?_)
                  go_simp
                  go_at_call 51
                  refine Calls.mono (num_dr a (N + 2002 + 4 * (1000 - k) + 3) _ 4 _ _ (by ((repeat (first | with_reducible assumption | refine Dr.alloc ?_ _ | refine Dr.drew ?_)); first | done | fail "drk")) (by omega) sB (by decide) nB) ?_
                  rintro en u6 ⟨z, rfl, hz0, hz1, du6, ku6⟩
                  have cu6 : Chg [a] wr u6 := (show Chg [a] wr _ by ((repeat (first | with_reducible assumption | with_reducible exact Chg.refl _ _ | refine Chg.alloc ?_ _ | refine Chg.drew ?_)); first | done | fail "chg")).trans ku6
                  have yu6 : a < u6.heap.size := by have := cu6.size; omega
                  go_wp2_with fail
                  refine hK.out _ _ (HK.out _ (show Chg [a] wr _ by ((repeat (first | with_reducible assumption | with_reducible exact Chg.refl _ _ | refine Chg.alloc ?_ _ | refine Chg.drew ?_)); first | done | fail "chg"))) (fun hHeld => ?_)
                  clear hK K
                  (try simp only [Act.put, List.setIfInBounds_toArray, List.set_cons_zero, List.set_cons_succ])
                  (refine takeE (i := 18) (v := ?_) [] rfl (by kernel_rfl) (by kernel_rfl) (fun _ _ _ h => h) (Or.inl ⟨by kernel_rfl, ?_⟩) (by assumption) ?_; rotate_left; (focus (intro w hSw; (try dsimp only at hSw); go_simp; first | done | with_reducible rfl | fail "takeE")); (try simp only [Act.put, List.setIfInBounds_toArray, List.set_cons_zero, List.set_cons_succ]))
                  refine oneE (i := 19) rfl (by kernel_rfl) (by kernel_rfl) (fun K hK => ?_)
                  go_simp
                  refine hK.out _ _ (HK.out _ (show Chg [a] wr _ by ((repeat (first | with_reducible assumption | with_reducible exact Chg.refl _ _ | refine Chg.alloc ?_ _ | refine Chg.drew ?_)); first | done | fail "chg"))) (fun hHeld => ?_)
                  clear hK K
                  (try simp only [Act.put, List.setIfInBounds_toArray, List.set_cons_zero, List.set_cons_succ])
                  refine oneE (i := 20) rfl (by kernel_rfl) (by kernel_rfl) (fun K hK => ?_)
                  have HT := GT.out _ (show Chg [a] wr _ from cu6)
                  refine wp_app (.tmp 34) (.tmp 52) 69 (by rfl) _ _ (by rfl) (by rfl) _ (appE HT ⟨p, r, x, z⟩ (by omega)) ?_
                  rintro v' w' ⟨hT, ⟨e0, e1, e2, e3⟩, ⟨pv, cv, rfl⟩, G, hG, hGl⟩
                  have HT2 := Lib.hid hT
                  have HG := Lib.hid hG
                  have HGl := Lib.hid hGl
                  clear hT hG hGl HT
                  refine hK.out _ _ ⟨e0, e1⟩ (fun hHeld => ?_)
                  clear hK K
                  (try simp only [Act.put, List.setIfInBounds_toArray, List.set_cons_zero, List.set_cons_succ])
                  (refine takeE (i := 21) (v := ?_) [] rfl (by kernel_rfl) (by kernel_rfl) (fun _ _ _ h => h) (Or.inl ⟨by kernel_rfl, ?_⟩) (by assumption) ?_; rotate_left; (focus (intro w hSw; (try dsimp only at hSw); go_simp; first | done | with_reducible rfl | fail "takeE")); (try simp only [Act.put, List.setIfInBounds_toArray, List.set_cons_zero, List.set_cons_succ]))
                  refine lastE rfl (by kernel_rfl) (by kernel_rfl) (fun K hK => ?_)
                  go_simp
                  refine hK.out _ _ ?_
                  clear hK K
                  refine doneE (by kernel_rfl) ?_ _
                  go_wp2_with fail
                  go_roundw
                  case rel =>
                    have HD := (show Dr _ a (N + 2002 + 4 * (1000 - k) + 4) by ((repeat (first | with_reducible assumption | refine Dr.alloc ?_ _ | refine Dr.drew ?_)); first | done | fail "drk"))
                    exact ⟨q - 1, k - 1, _, _, _, by go_num, by omega, by omega, HT2.out, rel2_more hoe hp0 hp1 hr0 hr1 hx hz0 hz1, by simp; omega, (HD.chg HG.out (fun x hx => by have := HGl.out x hx; omega)).mono (by omega), (HC.out.trans (show Chg [a] wr _ by ((repeat (first | with_reducible assumption | with_reducible exact Chg.refl _ _ | refine Chg.alloc ?_ _ | refine Chg.drew ?_)); first | done | fail "chg"))).past HG.out (fun x hx => .inr (by have := HGl.out x hx; omega))⟩
                  case measure => simp [intOf]; omega
                · go_simp
                  refine made (K := K) intB_spec 4 (by rfl) (by kernel_rfl) ?_
                  intro u7 ku7 zu7 sB
                  have cu7 : Chg [a] wr u7 := (show Chg [a] wr _ by ((repeat (first | with_reducible assumption | with_reducible exact Chg.refl _ _ | refine Chg.alloc ?_ _ | refine Chg.drew ?_)); first | done | fail "chg")).trans (ku7.mono (by simp))
                  have du7 : Dr u7 a (N + 2002 + 4 * (1000 - k) + 2) := (show Dr _ a (N + 2002 + 4 * (1000 - k) + 2) by ((repeat (first | with_reducible assumption | refine Dr.alloc ?_ _ | refine Dr.drew ?_)); first | done | fail "drk")).chg ku7 (by simp)
                  have nB : u3.heap.size ≠ a := by omega
                  replace sA := sA.chg ku7 (by simp)
                  have yu7 : a < u7.heap.size := by have := cu7.size; omega
                  refine hK.out _ _ (HK.out _ (show Chg [a] wr _ by ((repeat (first | with_reducible assumption | with_reducible exact Chg.refl _ _ | refine Chg.alloc ?_ _ | refine Chg.drew ?_)); first | done | fail "chg"))) (fun hHeld => ?_)
                  clear hK K
                  (try simp only [Act.put, List.setIfInBounds_toArray, List.set_cons_zero, List.set_cons_succ])
                  refine oneE (i := 14) rfl (by kernel_rfl) (by kernel_rfl) (fun K hK => ?_)
                  go_simp
                  go_at_call 90
                  refine Calls.mono (of_dr a (N + 2002 + 4 * (1000 - k) + 2) _ 4 _ _ (by ((repeat (first | with_reducible assumption | refine Dr.alloc ?_ _ | refine Dr.drew ?_)); first | done | fail "drk")) (by omega) sA (by decide) nA) ?_
                  rintro en u8 ⟨x, rfl, hx, du8, ku8⟩
                  have cu8 : Chg [a] wr u8 := (show Chg [a] wr _ by ((repeat (first | with_reducible assumption | with_reducible exact Chg.refl _ _ | refine Chg.alloc ?_ _ | refine Chg.drew ?_)); first | done | fail "chg")).trans ku8
                  replace sB := sB.chg ku8 (by simpa using nB)
                  have yu8 : a < u8.heap.size := by have := cu8.size; omega
                  go_wp2_with fail
                  refine hK.out _ _ (HK.out _ (show Chg [a] wr _ by ((repeat (first | with_reducible assumption | with_reducible exact Chg.refl _ _ | refine Chg.alloc ?_ _ | refine Chg.drew ?_)); first | done | fail "chg"))) (fun hHeld => ?_)
                  clear hK K
                  (try simp only [Act.put, List.setIfInBounds_toArray, List.set_cons_zero, List.set_cons_succ])
                  refine oneE (i := 17) rfl (by kernel_rfl) (by kernel_rfl) (fun K hK => ?_)
                  go_simp
                  go_at_call 51
                  refine Calls.mono (num_dr a (N + 2002 + 4 * (1000 - k) + 3) _ 4 _ _ (by ((repeat (first | with_reducible assumption | refine Dr.alloc ?_ _ | refine Dr.drew ?_)); first | done | fail "drk")) (by omega) sB (by decide) nB) ?_
                  rintro en u9 ⟨z, rfl, hz0, hz1, du9, ku9⟩
                  have cu9 : Chg [a] wr u9 := (show Chg [a] wr _ by ((repeat (first | with_reducible assumption | with_reducible exact Chg.refl _ _ | refine Chg.alloc ?_ _ | refine Chg.drew ?_)); first | done | fail "chg")).trans ku9
                  have yu9 : a < u9.heap.size := by have := cu9.size; omega
                  go_wp2_with fail
                  refine hK.out _ _ (HK.out _ (show Chg [a] wr _ by ((repeat (first | with_reducible assumption | with_reducible exact Chg.refl _ _ | refine Chg.alloc ?_ _ | refine Chg.drew ?_)); first | done | fail "chg"))) (fun hHeld => ?_)
                  clear hK K
                  (try simp only [Act.put, List.setIfInBounds_toArray, List.set_cons_zero, List.set_cons_succ])
                  (refine takeE (i := 18) (v := ?_) [] rfl (by kernel_rfl) (by kernel_rfl) (fun _ _ _ h => h) (Or.inl ⟨by kernel_rfl, ?_⟩) (by assumption) ?_; rotate_left; (focus (intro w hSw; (try dsimp only at hSw); go_simp; first | done | with_reducible rfl | fail "takeE")); (try simp only [Act.put, List.setIfInBounds_toArray, List.set_cons_zero, List.set_cons_succ]))
                  refine oneE (i := 19) rfl (by kernel_rfl) (by kernel_rfl) (fun K hK => ?_)
                  go_simp
                  refine hK.out _ _ (HK.out _ (show Chg [a] wr _ by ((repeat (first | with_reducible assumption | with_reducible exact Chg.refl _ _ | refine Chg.alloc ?_ _ | refine Chg.drew ?_)); first | done | fail "chg"))) (fun hHeld => ?_)
                  clear hK K
                  (try simp only [Act.put, List.setIfInBounds_toArray, List.set_cons_zero, List.set_cons_succ])
                  refine oneE (i := 20) rfl (by kernel_rfl) (by kernel_rfl) (fun K hK => ?_)
                  have HT := GT.out _ (show Chg [a] wr _ from cu9)
                  refine wp_app (.tmp 34) (.tmp 52) 69 (by rfl) _ _ (by rfl) (by rfl) _ (appE HT ⟨p, r, x, z⟩ (by omega)) ?_
                  rintro v' w' ⟨hT, ⟨e0, e1, e2, e3⟩, ⟨pv, cv, rfl⟩, G, hG, hGl⟩
                  have HT2 := Lib.hid hT
                  have HG := Lib.hid hG
                  have HGl := Lib.hid hGl
                  clear hT hG hGl HT
                  refine hK.out _ _ ⟨e0, e1⟩ (fun hHeld => ?_)
                  clear hK K
                  (try simp only [Act.put, List.setIfInBounds_toArray, List.set_cons_zero, List.set_cons_succ])
                  (refine takeE (i := 21) (v := ?_) [] rfl (by kernel_rfl) (by kernel_rfl) (fun _ _ _ h => h) (Or.inl ⟨by kernel_rfl, ?_⟩) (by assumption) ?_; rotate_left; (focus (intro w hSw; (try dsimp only at hSw); go_simp; first | done | with_reducible rfl | fail "takeE")); (try simp only [Act.put, List.setIfInBounds_toArray, List.set_cons_zero, List.set_cons_succ]))
                  refine lastE rfl (by kernel_rfl) (by kernel_rfl) (fun K hK => ?_)
                  go_simp
                  refine hK.out _ _ ?_
                  clear hK K
                  refine doneE (by kernel_rfl) ?_ _
                  go_wp2_with fail
                  go_roundw
                  case rel =>
                    have HD := (show Dr _ a (N + 2002 + 4 * (1000 - k) + 4) by ((repeat (first | with_reducible assumption | refine Dr.alloc ?_ _ | refine Dr.drew ?_)); first | done | fail "drk"))
                    exact ⟨q - 1, k - 1, _, _, _, by go_num, by omega, by omega, HT2.out, rel2_more hoe hp0 hp1 hr0 hr1 hx hz0 hz1, by simp; omega, (HD.chg HG.out (fun x hx => by have := HGl.out x hx; omega)).mono (by omega), (HC.out.trans (show Chg [a] wr _ by ((repeat (first | with_reducible assumption | with_reducible exact Chg.refl _ _ | refine Chg.alloc ?_ _ | refine Chg.drew ?_)); first | done | fail "chg"))).past HG.out (fun x hx => .inr (by have := HGl.out x hx; omega))⟩
                  case measure => simp [intOf]; omega
              · go_simp
                refine made (K := K) intB_spec 4 (by rfl) (by kernel_rfl) ?_
                intro u10 ku10 zu10 sB
                have cu10 : Chg [a] wr u10 := (show Chg [a] wr _ by ((repeat (first | with_reducible assumption | with_reducible exact Chg.refl _ _ | refine Chg.alloc ?_ _ | refine Chg.drew ?_)); first | done | fail "chg")).trans (ku10.mono (by simp))
                have du10 : Dr u10 a (N + 2002 + 4 * (1000 - k) + 2) := (show Dr _ a (N + 2002 + 4 * (1000 - k) + 2) by ((repeat (first | with_reducible assumption | refine Dr.alloc ?_ _ | refine Dr.drew ?_)); first | done | fail "drk")).chg ku10 (by simp)
                have nB : u2.heap.size ≠ a := by omega
                have yu10 : a < u10.heap.size := by have := cu10.size; omega
                refine hK.out _ _ (HK.out _ (show Chg [a] wr _ by ((repeat (first | with_reducible assumption | with_reducible exact Chg.refl _ _ | refine Chg.alloc ?_ _ | refine Chg.drew ?_)); first | done | fail "chg"))) (fun hHeld => ?_)
                clear hK K
                (try simp only [Act.put, List.setIfInBounds_toArray, List.set_cons_zero, List.set_cons_succ])
                refine oneE (i := 13) rfl (by kernel_rfl) (by kernel_rfl) (fun K hK => ?_)
                go_simp
                refine made (K := K) strB_spec 4 (by rfl) (by kernel_rfl) ?_
                intro u11 ku11 zu11 sA
                have cu11 : Chg [a] wr u11 := (show Chg [a] wr _ by ((repeat (first | with_reducible assumption | with_reducible exact Chg.refl _ _ | refine Chg.alloc ?_ _ | refine Chg.drew ?_)); first | done | fail "chg")).trans (ku11.mono (by simp))
                have du11 : Dr u11 a (N + 2002 + 4 * (1000 - k) + 2) := (show Dr _ a (N + 2002 + 4 * (1000 - k) + 2) by ((repeat (first | with_reducible assumption | refine Dr.alloc ?_ _ | refine Dr.drew ?_)); first | done | fail "drk")).chg ku11 (by simp)
                have nA : u10.heap.size ≠ a := by omega
                replace sB := sB.chg ku11 (by simp)
                have yu11 : a < u11.heap.size := by have := cu11.size; omega
                refine hK.out _ _ (HK.out _ (show Chg [a] wr _ by ((repeat (first | with_reducible assumption | with_reducible exact Chg.refl _ _ | refine Chg.alloc ?_ _ | refine Chg.drew ?_)); first | done | fail "chg"))) (fun hHeld => ?_)
                clear hK K
                (try simp only [Act.put, List.setIfInBounds_toArray, List.set_cons_zero, List.set_cons_succ])
                refine oneE (i := 14) rfl (by kernel_rfl) (by kernel_rfl) (fun K hK => ?_)
                go_simp
                go_at_call 90
                refine Calls.mono (of_dr a (N + 2002 + 4 * (1000 - k) + 2) _ 4 _ _ (by ((repeat (first | with_reducible assumption | refine Dr.alloc ?_ _ | refine Dr.drew ?_)); first | done | fail "drk")) (by omega) sA (by decide) nA) ?_
                rintro en u12 ⟨x, rfl, hx, du12, ku12⟩
                have cu12 : Chg [a] wr u12 := (show Chg [a] wr _ by ((repeat (first | with_reducible assumption | with_reducible exact Chg.refl _ _ | refine Chg.alloc ?_ _ | refine Chg.drew ?_)); first | done | fail "chg")).trans ku12
                replace sB := sB.chg ku12 (by simpa using nB)
                have yu12 : a < u12.heap.size := by have := cu12.size; omega
                go_wp2_with fail
                refine hK.out _ _ (HK.out _ (show Chg [a] wr _ by ((repeat (first | with_reducible assumption | with_reducible exact Chg.refl _ _ | refine Chg.alloc ?_ _ | refine Chg.drew ?_)); first | done | fail "chg"))) (fun hHeld => ?_)
                clear hK K
                (try simp only [Act.put, List.setIfInBounds_toArray, List.set_cons_zero, List.set_cons_succ])
                refine oneE (i := 17) rfl (by kernel_rfl) (by kernel_rfl) (fun K hK => ?_)
                go_simp
                go_at_call 51
                refine Calls.mono (num_dr a (N + 2002 + 4 * (1000 - k) + 3) _ 4 _ _ (by ((repeat (first | with_reducible assumption | refine Dr.alloc ?_ _ | refine Dr.drew ?_)); first | done | fail "drk")) (by omega) sB (by decide) nB) ?_
                rintro en u13 ⟨z, rfl, hz0, hz1, du13, ku13⟩
                have cu13 : Chg [a] wr u13 := (show Chg [a] wr _ by ((repeat (first | with_reducible assumption | with_reducible exact Chg.refl _ _ | refine Chg.alloc ?_ _ | refine Chg.drew ?_)); first | done | fail "chg")).trans ku13
                have yu13 : a < u13.heap.size := by have := cu13.size; omega
                go_wp2_with fail
                refine hK.out _ _ (HK.out _ (show Chg [a] wr _ by ((repeat (first | with_reducible assumption | with_reducible exact Chg.refl _ _ | refine Chg.alloc ?_ _ | refine Chg.drew ?_)); first | done | fail "chg"))) (fun hHeld => ?_)
                clear hK K
                (try simp only [Act.put, List.setIfInBounds_toArray, List.set_cons_zero, List.set_cons_succ])
                (refine takeE (i := 18) (v := ?_) [] rfl (by kernel_rfl) (by kernel_rfl) (fun _ _ _ h => h) (Or.inl ⟨by kernel_rfl, ?_⟩) (by assumption) ?_; rotate_left; (focus (intro w hSw; (try dsimp only at hSw); go_simp; first | done | with_reducible rfl | fail "takeE")); (try simp only [Act.put, List.setIfInBounds_toArray, List.set_cons_zero, List.set_cons_succ]))
                refine oneE (i := 19) rfl (by kernel_rfl) (by kernel_rfl) (fun K hK => ?_)
                go_simp
                refine hK.out _ _ (HK.out _ (show Chg [a] wr _ by ((repeat (first | with_reducible assumption | with_reducible exact Chg.refl _ _ | refine Chg.alloc ?_ _ | refine Chg.drew ?_)); first | done | fail "chg"))) (fun hHeld => ?_)
                clear hK K
                (try simp only [Act.put, List.setIfInBounds_toArray, List.set_cons_zero, List.set_cons_succ])
                refine oneE (i := 20) rfl (by kernel_rfl) (by kernel_rfl) (fun K hK => ?_)
                have HT := GT.out _ (show Chg [a] wr _ from cu13)
                refine wp_app (.tmp 34) (.tmp 52) 69 (by rfl) _ _ (by rfl) (by rfl) _ (appE HT ⟨p, r, x, z⟩ (by omega)) ?_
                rintro v' w' ⟨hT, ⟨e0, e1, e2, e3⟩, ⟨pv, cv, rfl⟩, G, hG, hGl⟩
                have HT2 := Lib.hid hT
                have HG := Lib.hid hG
                have HGl := Lib.hid hGl
                clear hT hG hGl HT
                refine hK.out _ _ ⟨e0, e1⟩ (fun hHeld => ?_)
                clear hK K
                (try simp only [Act.put, List.setIfInBounds_toArray, List.set_cons_zero, List.set_cons_succ])
                (refine takeE (i := 21) (v := ?_) [] rfl (by kernel_rfl) (by kernel_rfl) (fun _ _ _ h => h) (Or.inl ⟨by kernel_rfl, ?_⟩) (by assumption) ?_; rotate_left; (focus (intro w hSw; (try dsimp only at hSw); go_simp; first | done | with_reducible rfl | fail "takeE")); (try simp only [Act.put, List.setIfInBounds_toArray, List.set_cons_zero, List.set_cons_succ]))
                refine lastE rfl (by kernel_rfl) (by kernel_rfl) (fun K hK => ?_)
                go_simp
                refine hK.out _ _ ?_
                clear hK K
                refine doneE (by kernel_rfl) ?_ _
                go_wp2_with fail
                go_roundw
                case rel =>
                  have HD := (show Dr _ a (N + 2002 + 4 * (1000 - k) + 4) by ((repeat (first | with_reducible assumption | refine Dr.alloc ?_ _ | refine Dr.drew ?_)); first | done | fail "drk"))
                  exact ⟨q - 1, k - 1, _, _, _, by go_num, by omega, by omega, HT2.out, rel2_more hoe hp0 hp1 hr0 hr1 hx hz0 hz1, by simp; omega, (HD.chg HG.out (fun x hx => by have := HGl.out x hx; omega)).mono (by omega), (HC.out.trans (show Chg [a] wr _ by ((repeat (first | with_reducible assumption | with_reducible exact Chg.refl _ _ | refine Chg.alloc ?_ _ | refine Chg.drew ?_)); first | done | fail "chg"))).past HG.out (fun x hx => .inr (by have := HGl.out x hx; omega))⟩
                case measure => simp [intOf]; omega
            · go_simp
              refine made (K := K) strB_spec 4 (by rfl) (by kernel_rfl) ?_
              intro u14 ku14 zu14 sA
              have cu14 : Chg [a] wr u14 := (show Chg [a] wr _ by ((repeat (first | with_reducible assumption | with_reducible exact Chg.refl _ _ | refine Chg.alloc ?_ _ | refine Chg.drew ?_)); first | done | fail "chg")).trans (ku14.mono (by simp))
              have du14 : Dr u14 a (N + 2002 + 4 * (1000 - k) + 1) := (show Dr _ a (N + 2002 + 4 * (1000 - k) + 1) by ((repeat (first | with_reducible assumption | refine Dr.alloc ?_ _ | refine Dr.drew ?_)); first | done | fail "drk")).chg ku14 (by simp)
              have nA : u1.heap.size ≠ a := by omega
              have yu14 : a < u14.heap.size := by have := cu14.size; omega
              refine hK.out _ _ (HK.out _ (show Chg [a] wr _ by ((repeat (first | with_reducible assumption | with_reducible exact Chg.refl _ _ | refine Chg.alloc ?_ _ | refine Chg.drew ?_)); first | done | fail "chg"))) (fun hHeld => ?_)
              clear hK K
              (try simp only [Act.put, List.setIfInBounds_toArray, List.set_cons_zero, List.set_cons_succ])
              refine upE (rs := [11, 16]) (by kernel_rfl) (by simp) (AllE'.cons (i := 11) rfl (by kernel_rfl) (fun K hK => ?_) (AllE'.cons (i := 16) rfl (by kernel_rfl) (fun K hK => ?_) AllE'.nil))
              · go_simp
                go_at_call 87
                refine Calls.mono (pick_sm _ a (N + 2002 + 4 * (1000 - k) + 1) _ (by ((repeat (first | with_reducible assumption | refine Dr.alloc ?_ _ | refine Dr.drew ?_)); first | done | fail "drk")) (by omega) (by omega)) ?_
                rintro en u15 ⟨r, rfl, hr0, hr1, du15, ku15⟩
                have cu15 : Chg [a] wr u15 := (show Chg [a] wr _ by ((repeat (first | with_reducible assumption | with_reducible exact Chg.refl _ _ | refine Chg.alloc ?_ _ | refine Chg.drew ?_)); first | done | fail "chg")).trans ku15
                replace sA := sA.chg ku15 (by simpa using nA)
                have yu15 : a < u15.heap.size := by have := cu15.size; omega
                go_wp2_with fail
                refine hK.out _ _ (HK.out _ (show Chg [a] wr _ by ((repeat (first | with_reducible assumption | with_reducible exact Chg.refl _ _ | refine Chg.alloc ?_ _ | refine Chg.drew ?_)); first | done | fail "chg"))) (fun hHeld => ?_)
                clear hK K
                (try simp only [Act.put, List.setIfInBounds_toArray, List.set_cons_zero, List.set_cons_succ])
                refine upE (rs := [14, 16]) (by kernel_rfl) (by simp) (AllE'.cons (i := 14) rfl (by kernel_rfl) (fun K hK => ?_) (AllE'.cons (i := 16) rfl (by kernel_rfl) (fun K hK => ?_) AllE'.nil))
                · go_simp
                  go_at_call 90
                  refine Calls.mono (of_dr a (N + 2002 + 4 * (1000 - k) + 2) _ 4 _ _ (by ((repeat (first | with_reducible assumption | refine Dr.alloc ?_ _ | refine Dr.drew ?_)); first | done | fail "drk")) (by omega) sA (by decide) nA) ?_
                  rintro en u16 ⟨x, rfl, hx, du16, ku16⟩
                  have cu16 : Chg [a] wr u16 := (show Chg [a] wr _ by ((repeat (first | with_reducible assumption | with_reducible exact Chg.refl _ _ | refine Chg.alloc ?_ _ | refine Chg.drew ?_)); first | done | fail "chg")).trans ku16
                  have yu16 : a < u16.heap.size := by have := cu16.size; omega
                  go_wp2_with fail
                  refine hK.out _ _ (HK.out _ (show Chg [a] wr _ by ((repeat (first | with_reducible assumption | with_reducible exact Chg.refl _ _ | refine Chg.alloc ?_ _ | refine Chg.drew ?_)); first | done | fail "chg"))) (fun hHeld => ?_)
                  clear hK K
                  (try simp only [Act.put, List.setIfInBounds_toArray, List.set_cons_zero, List.set_cons_succ])
                  refine oneE (i := 16) rfl (by kernel_rfl) (by kernel_rfl) (fun K hK => ?_)
                  go_simp
                  refine made (K := K) intB_spec 4 (by rfl) (by kernel_rfl) ?_
                  intro u17 ku17 zu17 sB
                  have cu17 : Chg [a] wr u17 := (show Chg [a] wr _ by ((repeat (first | with_reducible assumption | with_reducible exact Chg.refl _ _ | refine Chg.alloc ?_ _ | refine Chg.drew ?_)); first | done | fail "chg")).trans (ku17.mono (by simp))
                  have du17 : Dr u17 a (N + 2002 + 4 * (1000 - k) + 3) := (show Dr _ a (N + 2002 + 4 * (1000 - k) + 3) by ((repeat (first | with_reducible assumption | refine Dr.alloc ?_ _ | refine Dr.drew ?_)); first | done | fail "drk")).chg ku17 (by simp)
                  have nB : u16.heap.size ≠ a := by omega
                  have yu17 : a < u17.heap.size := by have := cu17.size; omega
                  refine hK.out _ _ (HK.out _ (show Chg [a] wr _ by ((repeat (first | with_reducible assumption | with_reducible exact Chg.refl _ _ | refine Chg.alloc ?_ _ | refine Chg.drew ?_)); first | done | fail "chg"))) (fun hHeld => ?_)
                  clear hK K
                  (try simp only [Act.put, List.setIfInBounds_toArray, List.set_cons_zero, List.set_cons_succ])
                  refine oneE (i := 17) rfl (by kernel_rfl) (by kernel_rfl) (fun K hK => ?_)
                  go_simp
                  go_at_call 51
                  refine Calls.mono (num_dr a (N + 2002 + 4 * (1000 - k) + 3) _ 4 _ _ (by ((repeat (first | with_reducible assumption | refine Dr.alloc ?_ _ | refine Dr.drew ?_)); first | done | fail "drk")) (by omega) sB (by decide) nB) ?_
                  rintro en u18 ⟨z, rfl, hz0, hz1, du18, ku18⟩
                  have cu18 : Chg [a] wr u18 := (show Chg [a] wr _ by ((repeat (first | with_reducible assumption | with_reducible exact Chg.refl _ _ | refine Chg.alloc ?_ _ | refine Chg.drew ?_)); first | done | fail "chg")).trans ku18
                  have yu18 : a < u18.heap.size := by have := cu18.size; omega
                  go_wp2_with fail
                  refine hK.out _ _ (HK.out _ (show Chg [a] wr _ by ((repeat (first | with_reducible assumption | with_reducible exact Chg.refl _ _ | refine Chg.alloc ?_ _ | refine Chg.drew ?_)); first | done | fail "chg"))) (fun hHeld => ?_)
                  clear hK K
                  (try simp only [Act.put, List.setIfInBounds_toArray, List.set_cons_zero, List.set_cons_succ])
                  (refine takeE (i := 18) (v := ?_) [] rfl (by kernel_rfl) (by kernel_rfl) (fun _ _ _ h => h) (Or.inl ⟨by kernel_rfl, ?_⟩) (by assumption) ?_; rotate_left; (focus (intro w hSw; (try dsimp only at hSw); go_simp; first | done | with_reducible rfl | fail "takeE")); (try simp only [Act.put, List.setIfInBounds_toArray, List.set_cons_zero, List.set_cons_succ]))
                  refine oneE (i := 19) rfl (by kernel_rfl) (by kernel_rfl) (fun K hK => ?_)
                  go_simp
                  refine hK.out _ _ (HK.out _ (show Chg [a] wr _ by ((repeat (first | with_reducible assumption | with_reducible exact Chg.refl _ _ | refine Chg.alloc ?_ _ | refine Chg.drew ?_)); first | done | fail "chg"))) (fun hHeld => ?_)
                  clear hK K
                  (try simp only [Act.put, List.setIfInBounds_toArray, List.set_cons_zero, List.set_cons_succ])
                  refine oneE (i := 20) rfl (by kernel_rfl) (by kernel_rfl) (fun K hK => ?_)
                  have HT := GT.out _ (show Chg [a] wr _ from cu18)
                  refine wp_app (.tmp 34) (.tmp 52) 69 (by rfl) _ _ (by rfl) (by rfl) _ (appE HT ⟨p, r, x, z⟩ (by omega)) ?_
                  rintro v' w' ⟨hT, ⟨e0, e1, e2, e3⟩, ⟨pv, cv, rfl⟩, G, hG, hGl⟩
                  have HT2 := Lib.hid hT
                  have HG := Lib.hid hG
                  have HGl := Lib.hid hGl
                  clear hT hG hGl HT
                  refine hK.out _ _ ⟨e0, e1⟩ (fun hHeld => ?_)
                  clear hK K
                  (try simp only [Act.put, List.setIfInBounds_toArray, List.set_cons_zero, List.set_cons_succ])
                  (refine takeE (i := 21) (v := ?_) [] rfl (by kernel_rfl) (by kernel_rfl) (fun _ _ _ h => h) (Or.inl ⟨by kernel_rfl, ?_⟩) (by assumption) ?_; rotate_left; (focus (intro w hSw; (try dsimp only at hSw); go_simp; first | done | with_reducible rfl | fail "takeE")); (try simp only [Act.put, List.setIfInBounds_toArray, List.set_cons_zero, List.set_cons_succ]))
                  refine lastE rfl (by kernel_rfl) (by kernel_rfl) (fun K hK => ?_)
                  go_simp
                  refine hK.out _ _ ?_
                  clear hK K
                  refine doneE (by kernel_rfl) ?_ _
                  go_wp2_with fail
                  go_roundw
                  case rel =>
                    have HD := (show Dr _ a (N + 2002 + 4 * (1000 - k) + 4) by ((repeat (first | with_reducible assumption | refine Dr.alloc ?_ _ | refine Dr.drew ?_)); first | done | fail "drk"))
                    exact ⟨q - 1, k - 1, _, _, _, by go_num, by omega, by omega, HT2.out, rel2_more hoe hp0 hp1 hr0 hr1 hx hz0 hz1, by simp; omega, (HD.chg HG.out (fun x hx => by have := HGl.out x hx; omega)).mono (by omega), (HC.out.trans (show Chg [a] wr _ by ((repeat (first | with_reducible assumption | with_reducible exact Chg.refl _ _ | refine Chg.alloc ?_ _ | refine Chg.drew ?_)); first | done | fail "chg"))).past HG.out (fun x hx => .inr (by have := HGl.out x hx; omega))⟩
                  case measure => simp [intOf]; omega
                · go_simp
                  refine made (K := K) intB_spec 4 (by rfl) (by kernel_rfl) ?_
                  intro u19 ku19 zu19 sB
                  have cu19 : Chg [a] wr u19 := (show Chg [a] wr _ by ((repeat (first | with_reducible assumption | with_reducible exact Chg.refl _ _ | refine Chg.alloc ?_ _ | refine Chg.drew ?_)); first | done | fail "chg")).trans (ku19.mono (by simp))
                  have du19 : Dr u19 a (N + 2002 + 4 * (1000 - k) + 2) := (show Dr _ a (N + 2002 + 4 * (1000 - k) + 2) by ((repeat (first | with_reducible assumption | refine Dr.alloc ?_ _ | refine Dr.drew ?_)); first | done | fail "drk")).chg ku19 (by simp)
                  have nB : u15.heap.size ≠ a := by omega
                  replace sA := sA.chg ku19 (by simp)
                  have yu19 : a < u19.heap.size := by have := cu19.size; omega
                  refine hK.out _ _ (HK.out _ (show Chg [a] wr _ by ((repeat (first | with_reducible assumption | with_reducible exact Chg.refl _ _ | refine Chg.alloc ?_ _ | refine Chg.drew ?_)); first | done | fail "chg"))) (fun hHeld => ?_)
                  clear hK K
                  (try simp only [Act.put, List.setIfInBounds_toArray, List.set_cons_zero, List.set_cons_succ])
                  refine oneE (i := 14) rfl (by kernel_rfl) (by kernel_rfl) (fun K hK => ?_)
                  go_simp
                  go_at_call 90
                  refine Calls.mono (of_dr a (N + 2002 + 4 * (1000 - k) + 2) _ 4 _ _ (by ((repeat (first | with_reducible assumption | refine Dr.alloc ?_ _ | refine Dr.drew ?_)); first | done | fail "drk")) (by omega) sA (by decide) nA) ?_
                  rintro en u20 ⟨x, rfl, hx, du20, ku20⟩
                  have cu20 : Chg [a] wr u20 := (show Chg [a] wr _ by ((repeat (first | with_reducible assumption | with_reducible exact Chg.refl _ _ | refine Chg.alloc ?_ _ | refine Chg.drew ?_)); first | done | fail "chg")).trans ku20
                  replace sB := sB.chg ku20 (by simpa using nB)
                  have yu20 : a < u20.heap.size := by have := cu20.size; omega
                  go_wp2_with fail
                  refine hK.out _ _ (HK.out _ (show Chg [a] wr _ by ((repeat (first | with_reducible assumption | with_reducible exact Chg.refl _ _ | refine Chg.alloc ?_ _ | refine Chg.drew ?_)); first | done | fail "chg"))) (fun hHeld => ?_)
                  clear hK K
                  (try simp only [Act.put, List.setIfInBounds_toArray, List.set_cons_zero, List.set_cons_succ])
                  refine oneE (i := 17) rfl (by kernel_rfl) (by kernel_rfl) (fun K hK => ?_)
                  go_simp
                  go_at_call 51
                  refine Calls.mono (num_dr a (N + 2002 + 4 * (1000 - k) + 3) _ 4 _ _ (by ((repeat (first | with_reducible assumption | refine Dr.alloc ?_ _ | refine Dr.drew ?_)); first | done | fail "drk")) (by omega) sB (by decide) nB) ?_
                  rintro en u21 ⟨z, rfl, hz0, hz1, du21, ku21⟩
                  have cu21 : Chg [a] wr u21 := (show Chg [a] wr _ by ((repeat (first | with_reducible assumption | with_reducible exact Chg.refl _ _ | refine Chg.alloc ?_ _ | refine Chg.drew ?_)); first | done | fail "chg")).trans ku21
                  have yu21 : a < u21.heap.size := by have := cu21.size; omega
                  go_wp2_with fail
                  refine hK.out _ _ (HK.out _ (show Chg [a] wr _ by ((repeat (first | with_reducible assumption | with_reducible exact Chg.refl _ _ | refine Chg.alloc ?_ _ | refine Chg.drew ?_)); first | done | fail "chg"))) (fun hHeld => ?_)
                  clear hK K
                  (try simp only [Act.put, List.setIfInBounds_toArray, List.set_cons_zero, List.set_cons_succ])
                  (refine takeE (i := 18) (v := ?_) [] rfl (by kernel_rfl) (by kernel_rfl) (fun _ _ _ h => h) (Or.inl ⟨by kernel_rfl, ?_⟩) (by assumption) ?_; rotate_left; (focus (intro w hSw; (try dsimp only at hSw); go_simp; first | done | with_reducible rfl | fail "takeE")); (try simp only [Act.put, List.setIfInBounds_toArray, List.set_cons_zero, List.set_cons_succ]))
                  refine oneE (i := 19) rfl (by kernel_rfl) (by kernel_rfl) (fun K hK => ?_)
                  go_simp
                  refine hK.out _ _ (HK.out _ (show Chg [a] wr _ by ((repeat (first | with_reducible assumption | with_reducible exact Chg.refl _ _ | refine Chg.alloc ?_ _ | refine Chg.drew ?_)); first | done | fail "chg"))) (fun hHeld => ?_)
                  clear hK K
                  (try simp only [Act.put, List.setIfInBounds_toArray, List.set_cons_zero, List.set_cons_succ])
                  refine oneE (i := 20) rfl (by kernel_rfl) (by kernel_rfl) (fun K hK => ?_)
                  have HT := GT.out _ (show Chg [a] wr _ from cu21)
                  refine wp_app (.tmp 34) (.tmp 52) 69 (by rfl) _ _ (by rfl) (by rfl) _ (appE HT ⟨p, r, x, z⟩ (by omega)) ?_
                  rintro v' w' ⟨hT, ⟨e0, e1, e2, e3⟩, ⟨pv, cv, rfl⟩, G, hG, hGl⟩
                  have HT2 := Lib.hid hT
                  have HG := Lib.hid hG
                  have HGl := Lib.hid hGl
                  clear hT hG hGl HT
                  refine hK.out _ _ ⟨e0, e1⟩ (fun hHeld => ?_)
                  clear hK K
                  (try simp only [Act.put, List.setIfInBounds_toArray, List.set_cons_zero, List.set_cons_succ])
                  (refine takeE (i := 21) (v := ?_) [] rfl (by kernel_rfl) (by kernel_rfl) (fun _ _ _ h => h) (Or.inl ⟨by kernel_rfl, ?_⟩) (by assumption) ?_; rotate_left; (focus (intro w hSw; (try dsimp only at hSw); go_simp; first | done | with_reducible rfl | fail "takeE")); (try simp only [Act.put, List.setIfInBounds_toArray, List.set_cons_zero, List.set_cons_succ]))
                  refine lastE rfl (by kernel_rfl) (by kernel_rfl) (fun K hK => ?_)
                  go_simp
                  refine hK.out _ _ ?_
                  clear hK K
                  refine doneE (by kernel_rfl) ?_ _
                  go_wp2_with fail
                  go_roundw
                  case rel =>
                    have HD := (show Dr _ a (N + 2002 + 4 * (1000 - k) + 4) by ((repeat (first | with_reducible assumption | refine Dr.alloc ?_ _ | refine Dr.drew ?_)); first | done | fail "drk"))
                    exact ⟨q - 1, k - 1, _, _, _, by go_num, by omega, by omega, HT2.out, rel2_more hoe hp0 hp1 hr0 hr1 hx hz0 hz1, by simp; omega, (HD.chg HG.out (fun x hx => by have := HGl.out x hx; omega)).mono (by omega), (HC.out.trans (show Chg [a] wr _ by ((repeat (first | with_reducible assumption | with_reducible exact Chg.refl _ _ | refine Chg.alloc ?_ _ | refine Chg.drew ?_)); first | done | fail "chg"))).past HG.out (fun x hx => .inr (by have := HGl.out x hx; omega))⟩
                  case measure => simp [intOf]; omega
              · go_simp
                refine made (K := K) intB_spec 4 (by rfl) (by kernel_rfl) ?_
                intro u22 ku22 zu22 sB
                have cu22 : Chg [a] wr u22 := (show Chg [a] wr _ by ((repeat (first | with_reducible assumption | with_reducible exact Chg.refl _ _ | refine Chg.alloc ?_ _ | refine Chg.drew ?_)); first | done | fail "chg")).trans (ku22.mono (by simp))
                have du22 : Dr u22 a (N + 2002 + 4 * (1000 - k) + 1) := (show Dr _ a (N + 2002 + 4 * (1000 - k) + 1) by ((repeat (first | with_reducible assumption | refine Dr.alloc ?_ _ | refine Dr.drew ?_)); first | done | fail "drk")).chg ku22 (by simp)
                have nB : u14.heap.size ≠ a := by omega
                replace sA := sA.chg ku22 (by simp)
                have yu22 : a < u22.heap.size := by have := cu22.size; omega
                refine hK.out _ _ (HK.out _ (show Chg [a] wr _ by ((repeat (first | with_reducible assumption | with_reducible exact Chg.refl _ _ | refine Chg.alloc ?_ _ | refine Chg.drew ?_)); first | done | fail "chg"))) (fun hHeld => ?_)
                clear hK K
                (try simp only [Act.put, List.setIfInBounds_toArray, List.set_cons_zero, List.set_cons_succ])
                refine oneE (i := 11) rfl (by kernel_rfl) (by kernel_rfl) (fun K hK => ?_)
                go_simp
                go_at_call 87
                refine Calls.mono (pick_sm _ a (N + 2002 + 4 * (1000 - k) + 1) _ (by ((repeat (first | with_reducible assumption | refine Dr.alloc ?_ _ | refine Dr.drew ?_)); first | done | fail "drk")) (by omega) (by omega)) ?_
                rintro en u23 ⟨r, rfl, hr0, hr1, du23, ku23⟩
                have cu23 : Chg [a] wr u23 := (show Chg [a] wr _ by ((repeat (first | with_reducible assumption | with_reducible exact Chg.refl _ _ | refine Chg.alloc ?_ _ | refine Chg.drew ?_)); first | done | fail "chg")).trans ku23
                replace sA := sA.chg ku23 (by simpa using nA)
                replace sB := sB.chg ku23 (by simpa using nB)
                have yu23 : a < u23.heap.size := by have := cu23.size; omega
                go_wp2_with fail
                refine hK.out _ _ (HK.out _ (show Chg [a] wr _ by ((repeat (first | with_reducible assumption | with_reducible exact Chg.refl _ _ | refine Chg.alloc ?_ _ | refine Chg.drew ?_)); first | done | fail "chg"))) (fun hHeld => ?_)
                clear hK K
                (try simp only [Act.put, List.setIfInBounds_toArray, List.set_cons_zero, List.set_cons_succ])
                refine oneE (i := 14) rfl (by kernel_rfl) (by kernel_rfl) (fun K hK => ?_)
                go_simp
                go_at_call 90
                refine Calls.mono (of_dr a (N + 2002 + 4 * (1000 - k) + 2) _ 4 _ _ (by ((repeat (first | with_reducible assumption | refine Dr.alloc ?_ _ | refine Dr.drew ?_)); first | done | fail "drk")) (by omega) sA (by decide) nA) ?_
                rintro en u24 ⟨x, rfl, hx, du24, ku24⟩
                have cu24 : Chg [a] wr u24 := (show Chg [a] wr _ by ((repeat (first | with_reducible assumption | with_reducible exact Chg.refl _ _ | refine Chg.alloc ?_ _ | refine Chg.drew ?_)); first | done | fail "chg")).trans ku24
                replace sB := sB.chg ku24 (by simpa using nB)
                have yu24 : a < u24.heap.size := by have := cu24.size; omega
                go_wp2_with fail
                refine hK.out _ _ (HK.out _ (show Chg [a] wr _ by ((repeat (first | with_reducible assumption | with_reducible exact Chg.refl _ _ | refine Chg.alloc ?_ _ | refine Chg.drew ?_)); first | done | fail "chg"))) (fun hHeld => ?_)
                clear hK K
                (try simp only [Act.put, List.setIfInBounds_toArray, List.set_cons_zero, List.set_cons_succ])
                refine oneE (i := 17) rfl (by kernel_rfl) (by kernel_rfl) (fun K hK => ?_)
                go_simp
                go_at_call 51
                refine Calls.mono (num_dr a (N + 2002 + 4 * (1000 - k) + 3) _ 4 _ _ (by ((repeat (first | with_reducible assumption | refine Dr.alloc ?_ _ | refine Dr.drew ?_)); first | done | fail "drk")) (by omega) sB (by decide) nB) ?_
                rintro en u25 ⟨z, rfl, hz0, hz1, du25, ku25⟩
                have cu25 : Chg [a] wr u25 := (show Chg [a] wr _ by ((repeat (first | with_reducible assumption | with_reducible exact Chg.refl _ _ | refine Chg.alloc ?_ _ | refine Chg.drew ?_)); first | done | fail "chg")).trans ku25
                have yu25 : a < u25.heap.size := by have := cu25.size; omega
                go_wp2_with fail
                refine hK.out _ _ (HK.out _ (show Chg [a] wr _ by ((repeat (first | with_reducible assumption | with_reducible exact Chg.refl _ _ | refine Chg.alloc ?_ _ | refine Chg.drew ?_)); first | done | fail "chg"))) (fun hHeld => ?_)
                clear hK K
                (try simp only [Act.put, List.setIfInBounds_toArray, List.set_cons_zero, List.set_cons_succ])
                (refine takeE (i := 18) (v := ?_) [] rfl (by kernel_rfl) (by kernel_rfl) (fun _ _ _ h => h) (Or.inl ⟨by kernel_rfl, ?_⟩) (by assumption) ?_; rotate_left; (focus (intro w hSw; (try dsimp only at hSw); go_simp; first | done | with_reducible rfl | fail "takeE")); (try simp only [Act.put, List.setIfInBounds_toArray, List.set_cons_zero, List.set_cons_succ]))
                refine oneE (i := 19) rfl (by kernel_rfl) (by kernel_rfl) (fun K hK => ?_)
                go_simp
                refine hK.out _ _ (HK.out _ (show Chg [a] wr _ by ((repeat (first | with_reducible assumption | with_reducible exact Chg.refl _ _ | refine Chg.alloc ?_ _ | refine Chg.drew ?_)); first | done | fail "chg"))) (fun hHeld => ?_)
                clear hK K
                (try simp only [Act.put, List.setIfInBounds_toArray, List.set_cons_zero, List.set_cons_succ])
                refine oneE (i := 20) rfl (by kernel_rfl) (by kernel_rfl) (fun K hK => ?_)
                have HT := GT.out _ (show Chg [a] wr _ from cu25)
                refine wp_app (.tmp 34) (.tmp 52) 69 (by rfl) _ _ (by rfl) (by rfl) _ (appE HT ⟨p, r, x, z⟩ (by omega)) ?_
                rintro v' w' ⟨hT, ⟨e0, e1, e2, e3⟩, ⟨pv, cv, rfl⟩, G, hG, hGl⟩
                have HT2 := Lib.hid hT
                have HG := Lib.hid hG
                have HGl := Lib.hid hGl
                clear hT hG hGl HT
                refine hK.out _ _ ⟨e0, e1⟩ (fun hHeld => ?_)
                clear hK K
                (try simp only [Act.put, List.setIfInBounds_toArray, List.set_cons_zero, List.set_cons_succ])
                (refine takeE (i := 21) (v := ?_) [] rfl (by kernel_rfl) (by kernel_rfl) (fun _ _ _ h => h) (Or.inl ⟨by kernel_rfl, ?_⟩) (by assumption) ?_; rotate_left; (focus (intro w hSw; (try dsimp only at hSw); go_simp; first | done | with_reducible rfl | fail "takeE")); (try simp only [Act.put, List.setIfInBounds_toArray, List.set_cons_zero, List.set_cons_succ]))
                refine lastE rfl (by kernel_rfl) (by kernel_rfl) (fun K hK => ?_)
                go_simp
                refine hK.out _ _ ?_
                clear hK K
                refine doneE (by kernel_rfl) ?_ _
                go_wp2_with fail
                go_roundw
                case rel =>
                  have HD := (show Dr _ a (N + 2002 + 4 * (1000 - k) + 4) by ((repeat (first | with_reducible assumption | refine Dr.alloc ?_ _ | refine Dr.drew ?_)); first | done | fail "drk"))
                  exact ⟨q - 1, k - 1, _, _, _, by go_num, by omega, by omega, HT2.out, rel2_more hoe hp0 hp1 hr0 hr1 hx hz0 hz1, by simp; omega, (HD.chg HG.out (fun x hx => by have := HGl.out x hx; omega)).mono (by omega), (HC.out.trans (show Chg [a] wr _ by ((repeat (first | with_reducible assumption | with_reducible exact Chg.refl _ _ | refine Chg.alloc ?_ _ | refine Chg.drew ?_)); first | done | fail "chg"))).past HG.out (fun x hx => .inr (by have := HGl.out x hx; omega))⟩
                case measure => simp [intOf]; omega
            · go_simp
              refine made (K := K) intB_spec 4 (by rfl) (by kernel_rfl) ?_
              intro u26 ku26 zu26 sB
              have cu26 : Chg [a] wr u26 := (show Chg [a] wr _ by ((repeat (first | with_reducible assumption | with_reducible exact Chg.refl _ _ | refine Chg.alloc ?_ _ | refine Chg.drew ?_)); first | done | fail "chg")).trans (ku26.mono (by simp))
              have du26 : Dr u26 a (N + 2002 + 4 * (1000 - k) + 1) := (show Dr _ a (N + 2002 + 4 * (1000 - k) + 1) by ((repeat (first | with_reducible assumption | refine Dr.alloc ?_ _ | refine Dr.drew ?_)); first | done | fail "drk")).chg ku26 (by simp)
              have nB : u1.heap.size ≠ a := by omega
              have yu26 : a < u26.heap.size := by have := cu26.size; omega
              refine hK.out _ _ (HK.out _ (show Chg [a] wr _ by ((repeat (first | with_reducible assumption | with_reducible exact Chg.refl _ _ | refine Chg.alloc ?_ _ | refine Chg.drew ?_)); first | done | fail "chg"))) (fun hHeld => ?_)
              clear hK K
              (try simp only [Act.put, List.setIfInBounds_toArray, List.set_cons_zero, List.set_cons_succ])
              refine upE (rs := [11, 13]) (by kernel_rfl) (by simp) (AllE'.cons (i := 11) rfl (by kernel_rfl) (fun K hK => ?_) (AllE'.cons (i := 13) rfl (by kernel_rfl) (fun K hK => ?_) AllE'.nil))
              · go_simp
                go_at_call 87
                refine Calls.mono (pick_sm _ a (N + 2002 + 4 * (1000 - k) + 1) _ (by ((repeat (first | with_reducible assumption | refine Dr.alloc ?_ _ | refine Dr.drew ?_)); first | done | fail "drk")) (by omega) (by omega)) ?_
                rintro en u27 ⟨r, rfl, hr0, hr1, du27, ku27⟩
                have cu27 : Chg [a] wr u27 := (show Chg [a] wr _ by ((repeat (first | with_reducible assumption | with_reducible exact Chg.refl _ _ | refine Chg.alloc ?_ _ | refine Chg.drew ?_)); first | done | fail "chg")).trans ku27
                replace sB := sB.chg ku27 (by simpa using nB)
                have yu27 : a < u27.heap.size := by have := cu27.size; omega
                go_wp2_with fail
                refine hK.out _ _ (HK.out _ (show Chg [a] wr _ by ((repeat (first | with_reducible assumption | with_reducible exact Chg.refl _ _ | refine Chg.alloc ?_ _ | refine Chg.drew ?_)); first | done | fail "chg"))) (fun hHeld => ?_)
                clear hK K
                (try simp only [Act.put, List.setIfInBounds_toArray, List.set_cons_zero, List.set_cons_succ])
                refine oneE (i := 13) rfl (by kernel_rfl) (by kernel_rfl) (fun K hK => ?_)
                go_simp
                refine made (K := K) strB_spec 4 (by rfl) (by kernel_rfl) ?_
                intro u28 ku28 zu28 sA
                have cu28 : Chg [a] wr u28 := (show Chg [a] wr _ by ((repeat (first | with_reducible assumption | with_reducible exact Chg.refl _ _ | refine Chg.alloc ?_ _ | refine Chg.drew ?_)); first | done | fail "chg")).trans (ku28.mono (by simp))
                have du28 : Dr u28 a (N + 2002 + 4 * (1000 - k) + 2) := (show Dr _ a (N + 2002 + 4 * (1000 - k) + 2) by ((repeat (first | with_reducible assumption | refine Dr.alloc ?_ _ | refine Dr.drew ?_)); first | done | fail "drk")).chg ku28 (by simp)
                have nA : u27.heap.size ≠ a := by omega
                replace sB := sB.chg ku28 (by simp)
                have yu28 : a < u28.heap.size := by have := cu28.size; omega
                refine hK.out _ _ (HK.out _ (show Chg [a] wr _ by ((repeat (first | with_reducible assumption | with_reducible exact Chg.refl _ _ | refine Chg.alloc ?_ _ | refine Chg.drew ?_)); first | done | fail "chg"))) (fun hHeld => ?_)
                clear hK K
                (try simp only [Act.put, List.setIfInBounds_toArray, List.set_cons_zero, List.set_cons_succ])
                refine oneE (i := 14) rfl (by kernel_rfl) (by kernel_rfl) (fun K hK => ?_)
                go_simp
                go_at_call 90
                refine Calls.mono (of_dr a (N + 2002 + 4 * (1000 - k) + 2) _ 4 _ _ (by ((repeat (first | with_reducible assumption | refine Dr.alloc ?_ _ | refine Dr.drew ?_)); first | done | fail "drk")) (by omega) sA (by decide) nA) ?_
                rintro en u29 ⟨x, rfl, hx, du29, ku29⟩
                have cu29 : Chg [a] wr u29 := (show Chg [a] wr _ by ((repeat (first | with_reducible assumption | with_reducible exact Chg.refl _ _ | refine Chg.alloc ?_ _ | refine Chg.drew ?_)); first | done | fail "chg")).trans ku29
                replace sB := sB.chg ku29 (by simpa using nB)
                have yu29 : a < u29.heap.size := by have := cu29.size; omega
                go_wp2_with fail
                refine hK.out _ _ (HK.out _ (show Chg [a] wr _ by ((repeat (first | with_reducible assumption | with_reducible exact Chg.refl _ _ | refine Chg.alloc ?_ _ | refine Chg.drew ?_)); first | done | fail "chg"))) (fun hHeld => ?_)
                clear hK K
                (try simp only [Act.put, List.setIfInBounds_toArray, List.set_cons_zero, List.set_cons_succ])
                refine oneE (i := 17) rfl (by kernel_rfl) (by kernel_rfl) (fun K hK => ?_)
                go_simp
                go_at_call 51
                refine Calls.mono (num_dr a (N + 2002 + 4 * (1000 - k) + 3) _ 4 _ _ (by ((repeat (first | with_reducible assumption | refine Dr.alloc ?_ _ | refine Dr.drew ?_)); first | done | fail "drk")) (by omega) sB (by decide) nB) ?_
                rintro en u30 ⟨z, rfl, hz0, hz1, du30, ku30⟩
                have cu30 : Chg [a] wr u30 := (show Chg [a] wr _ by ((repeat (first | with_reducible assumption | with_reducible exact Chg.refl _ _ | refine Chg.alloc ?_ _ | refine Chg.drew ?_)); first | done | fail "chg")).trans ku30
                have yu30 : a < u30.heap.size := by have := cu30.size; omega
                go_wp2_with fail
                refine hK.out _ _ (HK.out _ (show Chg [a] wr _ by ((repeat (first | with_reducible assumption | with_reducible exact Chg.refl _ _ | refine Chg.alloc ?_ _ | refine Chg.drew ?_)); first | done | fail "chg"))) (fun hHeld => ?_)
                clear hK K
                (try simp only [Act.put, List.setIfInBounds_toArray, List.set_cons_zero, List.set_cons_succ])
                (refine takeE (i := 18) (v := ?_) [] rfl (by kernel_rfl) (by kernel_rfl) (fun _ _ _ h => h) (Or.inl ⟨by kernel_rfl, ?_⟩) (by assumption) ?_; rotate_left; (focus (intro w hSw; (try dsimp only at hSw); go_simp; first | done | with_reducible rfl | fail "takeE")); (try simp only [Act.put, List.setIfInBounds_toArray, List.set_cons_zero, List.set_cons_succ]))
                refine oneE (i := 19) rfl (by kernel_rfl) (by kernel_rfl) (fun K hK => ?_)
                go_simp
                refine hK.out _ _ (HK.out _ (show Chg [a] wr _ by ((repeat (first | with_reducible assumption | with_reducible exact Chg.refl _ _ | refine Chg.alloc ?_ _ | refine Chg.drew ?_)); first | done | fail "chg"))) (fun hHeld => ?_)
                clear hK K
                (try simp only [Act.put, List.setIfInBounds_toArray, List.set_cons_zero, List.set_cons_succ])
                refine oneE (i := 20) rfl (by kernel_rfl) (by kernel_rfl) (fun K hK => ?_)
                have HT := GT.out _ (show Chg [a] wr _ from cu30)
                refine wp_app (.tmp 34) (.tmp 52) 69 (by rfl) _ _ (by rfl) (by rfl) _ (appE HT ⟨p, r, x, z⟩ (by omega)) ?_
                rintro v' w' ⟨hT, ⟨e0, e1, e2, e3⟩, ⟨pv, cv, rfl⟩, G, hG, hGl⟩
                have HT2 := Lib.hid hT
                have HG := Lib.hid hG
                have HGl := Lib.hid hGl
                clear hT hG hGl HT
                refine hK.out _ _ ⟨e0, e1⟩ (fun hHeld => ?_)
                clear hK K
                (try simp only [Act.put, List.setIfInBounds_toArray, List.set_cons_zero, List.set_cons_succ])
                (refine takeE (i := 21) (v := ?_) [] rfl (by kernel_rfl) (by kernel_rfl) (fun _ _ _ h => h) (Or.inl ⟨by kernel_rfl, ?_⟩) (by assumption) ?_; rotate_left; (focus (intro w hSw; (try dsimp only at hSw); go_simp; first | done | with_reducible rfl | fail "takeE")); (try simp only [Act.put, List.setIfInBounds_toArray, List.set_cons_zero, List.set_cons_succ]))
                refine lastE rfl (by kernel_rfl) (by kernel_rfl) (fun K hK => ?_)
                go_simp
                refine hK.out _ _ ?_
                clear hK K
                refine doneE (by kernel_rfl) ?_ _
                go_wp2_with fail
                go_roundw
                case rel =>
                  have HD := (show Dr _ a (N + 2002 + 4 * (1000 - k) + 4) by ((repeat (first | with_reducible assumption | refine Dr.alloc ?_ _ | refine Dr.drew ?_)); first | done | fail "drk"))
                  exact ⟨q - 1, k - 1, _, _, _, by go_num, by omega, by omega, HT2.out, rel2_more hoe hp0 hp1 hr0 hr1 hx hz0 hz1, by simp; omega, (HD.chg HG.out (fun x hx => by have := HGl.out x hx; omega)).mono (by omega), (HC.out.trans (show Chg [a] wr _ by ((repeat (first | with_reducible assumption | with_reducible exact Chg.refl _ _ | refine Chg.alloc ?_ _ | refine Chg.drew ?_)); first | done | fail "chg"))).past HG.out (fun x hx => .inr (by have := HGl.out x hx; omega))⟩
                case measure => simp [intOf]; omega
              · go_simp
                refine made (K := K) strB_spec 4 (by rfl) (by kernel_rfl) ?_
                intro u31 ku31 zu31 sA
                have cu31 : Chg [a] wr u31 := (show Chg [a] wr _ by ((repeat (first | with_reducible assumption | with_reducible exact Chg.refl _ _ | refine Chg.alloc ?_ _ | refine Chg.drew ?_)); first | done | fail "chg")).trans (ku31.mono (by simp))
                have du31 : Dr u31 a (N + 2002 + 4 * (1000 - k) + 1) := (show Dr _ a (N + 2002 + 4 * (1000 - k) + 1) by ((repeat (first | with_reducible assumption | refine Dr.alloc ?_ _ | refine Dr.drew ?_)); first | done | fail "drk")).chg ku31 (by simp)
                have nA : u26.heap.size ≠ a := by omega
                replace sB := sB.chg ku31 (by simp)
                have yu31 : a < u31.heap.size := by have := cu31.size; omega
                refine hK.out _ _ (HK.out _ (show Chg [a] wr _ by ((repeat (first | with_reducible assumption | with_reducible exact Chg.refl _ _ | refine Chg.alloc ?_ _ | refine Chg.drew ?_)); first | done | fail "chg"))) (fun hHeld => ?_)
                clear hK K
                (try simp only [Act.put, List.setIfInBounds_toArray, List.set_cons_zero, List.set_cons_succ])
                refine oneE (i := 11) rfl (by kernel_rfl) (by kernel_rfl) (fun K hK => ?_)
                go_simp
                go_at_call 87
                refine Calls.mono (pick_sm _ a (N + 2002 + 4 * (1000 - k) + 1) _ (by ((repeat (first | with_reducible assumption | refine Dr.alloc ?_ _ | refine Dr.drew ?_)); first | done | fail "drk")) (by omega) (by omega)) ?_
                rintro en u32 ⟨r, rfl, hr0, hr1, du32, ku32⟩
                have cu32 : Chg [a] wr u32 := (show Chg [a] wr _ by ((repeat (first | with_reducible assumption | with_reducible exact Chg.refl _ _ | refine Chg.alloc ?_ _ | refine Chg.drew ?_)); first | done | fail "chg")).trans ku32
                replace sB := sB.chg ku32 (by simpa using nB)
                replace sA := sA.chg ku32 (by simpa using nA)
                have yu32 : a < u32.heap.size := by have := cu32.size; omega
                go_wp2_with fail
                refine hK.out _ _ (HK.out _ (show Chg [a] wr _ by ((repeat (first | with_reducible assumption | with_reducible exact Chg.refl _ _ | refine Chg.alloc ?_ _ | refine Chg.drew ?_)); first | done | fail "chg"))) (fun hHeld => ?_)
                clear hK K
                (try simp only [Act.put, List.setIfInBounds_toArray, List.set_cons_zero, List.set_cons_succ])
                refine oneE (i := 14) rfl (by kernel_rfl) (by kernel_rfl) (fun K hK => ?_)
                go_simp
                go_at_call 90
                refine Calls.mono (of_dr a (N + 2002 + 4 * (1000 - k) + 2) _ 4 _ _ (by ((repeat (first | with_reducible assumption | refine Dr.alloc ?_ _ | refine Dr.drew ?_)); first | done | fail "drk")) (by omega) sA (by decide) nA) ?_
                rintro en u33 ⟨x, rfl, hx, du33, ku33⟩
                have cu33 : Chg [a] wr u33 := (show Chg [a] wr _ by ((repeat (first | with_reducible assumption | with_reducible exact Chg.refl _ _ | refine Chg.alloc ?_ _ | refine Chg.drew ?_)); first | done | fail "chg")).trans ku33
                replace sB := sB.chg ku33 (by simpa using nB)
                have yu33 : a < u33.heap.size := by have := cu33.size; omega
                go_wp2_with fail
                refine hK.out _ _ (HK.out _ (show Chg [a] wr _ by ((repeat (first | with_reducible assumption | with_reducible exact Chg.refl _ _ | refine Chg.alloc ?_ _ | refine Chg.drew ?_)); first | done | fail "chg"))) (fun hHeld => ?_)
                clear hK K
                (try simp only [Act.put, List.setIfInBounds_toArray, List.set_cons_zero, List.set_cons_succ])
                refine oneE (i := 17) rfl (by kernel_rfl) (by kernel_rfl) (fun K hK => ?_)
                go_simp
                go_at_call 51
                refine Calls.mono (num_dr a (N + 2002 + 4 * (1000 - k) + 3) _ 4 _ _ (by ((repeat (first | with_reducible assumption | refine Dr.alloc ?_ _ | refine Dr.drew ?_)); first | done | fail "drk")) (by omega) sB (by decide) nB) ?_
                rintro en u34 ⟨z, rfl, hz0, hz1, du34, ku34⟩
                have cu34 : Chg [a] wr u34 := (show Chg [a] wr _ by ((repeat (first | with_reducible assumption | with_reducible exact Chg.refl _ _ | refine Chg.alloc ?_ _ | refine Chg.drew ?_)); first | done | fail "chg")).trans ku34
                have yu34 : a < u34.heap.size := by have := cu34.size; omega
                go_wp2_with fail
                refine hK.out _ _ (HK.out _ (show Chg [a] wr _ by ((repeat (first | with_reducible assumption | with_reducible exact Chg.refl _ _ | refine Chg.alloc ?_ _ | refine Chg.drew ?_)); first | done | fail "chg"))) (fun hHeld => ?_)
                clear hK K
                (try simp only [Act.put, List.setIfInBounds_toArray, List.set_cons_zero, List.set_cons_succ])
                (refine takeE (i := 18) (v := ?_) [] rfl (by kernel_rfl) (by kernel_rfl) (fun _ _ _ h => h) (Or.inl ⟨by kernel_rfl, ?_⟩) (by assumption) ?_; rotate_left; (focus (intro w hSw; (try dsimp only at hSw); go_simp; first | done | with_reducible rfl | fail "takeE")); (try simp only [Act.put, List.setIfInBounds_toArray, List.set_cons_zero, List.set_cons_succ]))
                refine oneE (i := 19) rfl (by kernel_rfl) (by kernel_rfl) (fun K hK => ?_)
                go_simp
                refine hK.out _ _ (HK.out _ (show Chg [a] wr _ by ((repeat (first | with_reducible assumption | with_reducible exact Chg.refl _ _ | refine Chg.alloc ?_ _ | refine Chg.drew ?_)); first | done | fail "chg"))) (fun hHeld => ?_)
                clear hK K
                (try simp only [Act.put, List.setIfInBounds_toArray, List.set_cons_zero, List.set_cons_succ])
                refine oneE (i := 20) rfl (by kernel_rfl) (by kernel_rfl) (fun K hK => ?_)
                have HT := GT.out _ (show Chg [a] wr _ from cu34)
                refine wp_app (.tmp 34) (.tmp 52) 69 (by rfl) _ _ (by rfl) (by rfl) _ (appE HT ⟨p, r, x, z⟩ (by omega)) ?_
                rintro v' w' ⟨hT, ⟨e0, e1, e2, e3⟩, ⟨pv, cv, rfl⟩, G, hG, hGl⟩
                have HT2 := Lib.hid hT
                have HG := Lib.hid hG
                have HGl := Lib.hid hGl
                clear hT hG hGl HT
                refine hK.out _ _ ⟨e0, e1⟩ (fun hHeld => ?_)
                clear hK K
                (try simp only [Act.put, List.setIfInBounds_toArray, List.set_cons_zero, List.set_cons_succ])
                (refine takeE (i := 21) (v := ?_) [] rfl (by kernel_rfl) (by kernel_rfl) (fun _ _ _ h => h) (Or.inl ⟨by kernel_rfl, ?_⟩) (by assumption) ?_; rotate_left; (focus (intro w hSw; (try dsimp only at hSw); go_simp; first | done | with_reducible rfl | fail "takeE")); (try simp only [Act.put, List.setIfInBounds_toArray, List.set_cons_zero, List.set_cons_succ]))
                refine lastE rfl (by kernel_rfl) (by kernel_rfl) (fun K hK => ?_)
                go_simp
                refine hK.out _ _ ?_
                clear hK K
                refine doneE (by kernel_rfl) ?_ _
                go_wp2_with fail
                go_roundw
                case rel =>
                  have HD := (show Dr _ a (N + 2002 + 4 * (1000 - k) + 4) by ((repeat (first | with_reducible assumption | refine Dr.alloc ?_ _ | refine Dr.drew ?_)); first | done | fail "drk"))
                  exact ⟨q - 1, k - 1, _, _, _, by go_num, by omega, by omega, HT2.out, rel2_more hoe hp0 hp1 hr0 hr1 hx hz0 hz1, by simp; omega, (HD.chg HG.out (fun x hx => by have := HGl.out x hx; omega)).mono (by omega), (HC.out.trans (show Chg [a] wr _ by ((repeat (first | with_reducible assumption | with_reducible exact Chg.refl _ _ | refine Chg.alloc ?_ _ | refine Chg.drew ?_)); first | done | fail "chg"))).past HG.out (fun x hx => .inr (by have := HGl.out x hx; omega))⟩
                case measure => simp [intOf]; omega
          · go_simp
            refine made (K := K) strB_spec 4 (by rfl) (by kernel_rfl) ?_
            intro u35 ku35 zu35 sA
            have cu35 : Chg [a] wr u35 := (show Chg [a] wr _ by ((repeat (first | with_reducible assumption | with_reducible exact Chg.refl _ _ | refine Chg.alloc ?_ _ | refine Chg.drew ?_)); first | done | fail "chg")).trans (ku35.mono (by simp))
            have du35 : Dr u35 a (N + 2002 + 4 * (1000 - k)) := (show Dr _ a (N + 2002 + 4 * (1000 - k)) by ((repeat (first | with_reducible assumption | refine Dr.alloc ?_ _ | refine Dr.drew ?_)); first | done | fail "drk")).chg ku35 (by simp)
            have nA : W0.heap.size ≠ a := by omega
            have yu35 : a < u35.heap.size := by have := cu35.size; omega
            refine hK.out _ _ (HK.out _ (show Chg [a] wr _ by ((repeat (first | with_reducible assumption | with_reducible exact Chg.refl _ _ | refine Chg.alloc ?_ _ | refine Chg.drew ?_)); first | done | fail "chg"))) (fun hHeld => ?_)
            clear hK K
            (try simp only [Act.put, List.setIfInBounds_toArray, List.set_cons_zero, List.set_cons_succ])
            refine upE (rs := [6, 16]) (by kernel_rfl) (by simp) (AllE'.cons (i := 6) rfl (by kernel_rfl) (fun K hK => ?_) (AllE'.cons (i := 16) rfl (by kernel_rfl) (fun K hK => ?_) AllE'.nil))
            · go_simp
              go_at_call 87
              refine Calls.mono (pick_sm _ a (N + 2002 + 4 * (1000 - k)) _ (by ((repeat (first | with_reducible assumption | refine Dr.alloc ?_ _ | refine Dr.drew ?_)); first | done | fail "drk")) (by omega) (by omega)) ?_
              rintro en u36 ⟨p, rfl, hp0, hp1, du36, ku36⟩
              have cu36 : Chg [a] wr u36 := (show Chg [a] wr _ by ((repeat (first | with_reducible assumption | with_reducible exact Chg.refl _ _ | refine Chg.alloc ?_ _ | refine Chg.drew ?_)); first | done | fail "chg")).trans ku36
              replace sA := sA.chg ku36 (by simpa using nA)
              have yu36 : a < u36.heap.size := by have := cu36.size; omega
              go_wp2_with fail
              refine hK.out _ _ (HK.out _ (show Chg [a] wr _ by ((repeat (first | with_reducible assumption | with_reducible exact Chg.refl _ _ | refine Chg.alloc ?_ _ | refine Chg.drew ?_)); first | done | fail "chg"))) (fun hHeld => ?_)
              clear hK K
              (try simp only [Act.put, List.setIfInBounds_toArray, List.set_cons_zero, List.set_cons_succ])
              refine upE (rs := [11, 16]) (by kernel_rfl) (by simp) (AllE'.cons (i := 11) rfl (by kernel_rfl) (fun K hK => ?_) (AllE'.cons (i := 16) rfl (by kernel_rfl) (fun K hK => ?_) AllE'.nil))
              · go_simp
                go_at_call 87
                refine Calls.mono (pick_sm _ a (N + 2002 + 4 * (1000 - k) + 1) _ (by ((repeat (first | with_reducible assumption | refine Dr.alloc ?_ _ | refine Dr.drew ?_)); first | done | fail "drk")) (by omega) (by omega)) ?_
                rintro en u37 ⟨r, rfl, hr0, hr1, du37, ku37⟩
                have cu37 : Chg [a] wr u37 := (show Chg [a] wr _ by ((repeat (first | with_reducible assumption | with_reducible exact Chg.refl _ _ | refine Chg.alloc ?_ _ | refine Chg.drew ?_)); first | done | fail "chg")).trans ku37
                replace sA := sA.chg ku37 (by simpa using nA)
                have yu37 : a < u37.heap.size := by have := cu37.size; omega
                go_wp2_with fail
                refine hK.out _ _ (HK.out _ (show Chg [a] wr _ by ((repeat (first | with_reducible assumption | with_reducible exact Chg.refl _ _ | refine Chg.alloc ?_ _ | refine Chg.drew ?_)); first | done | fail "chg"))) (fun hHeld => ?_)
                clear hK K
                (try simp only [Act.put, List.setIfInBounds_toArray, List.set_cons_zero, List.set_cons_succ])
                refine upE (rs := [14, 16]) (by kernel_rfl) (by simp) (AllE'.cons (i := 14) rfl (by kernel_rfl) (fun K hK => ?_) (AllE'.cons (i := 16) rfl (by kernel_rfl) (fun K hK => ?_) AllE'.nil))
                · go_simp
                  go_at_call 90
                  refine Calls.mono (of_dr a (N + 2002 + 4 * (1000 - k) + 2) _ 4 _ _ (by ((repeat (first | with_reducible assumption | refine Dr.alloc ?_ _ | refine Dr.drew ?_)); first | done | fail "drk")) (by omega) sA (by decide) nA) ?_
                  rintro en u38 ⟨x, rfl, hx, du38, ku38⟩
                  have cu38 : Chg [a] wr u38 := (show Chg [a] wr _ by ((repeat (first | with_reducible assumption | with_reducible exact Chg.refl _ _ | refine Chg.alloc ?_ _ | refine Chg.drew ?_)); first | done | fail "chg")).trans ku38
                  have yu38 : a < u38.heap.size := by have := cu38.size; omega
                  go_wp2_with fail
                  refine hK.out _ _ (HK.out _ (show Chg [a] wr _ by ((repeat (first | with_reducible assumption | with_reducible exact Chg.refl _ _ | refine Chg.alloc ?_ _ | refine Chg.drew ?_)); first | done | fail "chg"))) (fun hHeld => ?_)
                  clear hK K
                  (try simp only [Act.put, List.setIfInBounds_toArray, List.set_cons_zero, List.set_cons_succ])
                  refine oneE (i := 16) rfl (by kernel_rfl) (by kernel_rfl) (fun K hK => ?_)
                  go_simp
                  refine made (K := K) intB_spec 4 (by rfl) (by kernel_rfl) ?_
                  intro u39 ku39 zu39 sB
                  have cu39 : Chg [a] wr u39 := (show Chg [a] wr _ by ((repeat (first | with_reducible assumption | with_reducible exact Chg.refl _ _ | refine Chg.alloc ?_ _ | refine Chg.drew ?_)); first | done | fail "chg")).trans (ku39.mono (by simp))
                  have du39 : Dr u39 a (N + 2002 + 4 * (1000 - k) + 3) := (show Dr _ a (N + 2002 + 4 * (1000 - k) + 3) by ((repeat (first | with_reducible assumption | refine Dr.alloc ?_ _ | refine Dr.drew ?_)); first | done | fail "drk")).chg ku39 (by simp)
                  have nB : u38.heap.size ≠ a := by omega
                  have yu39 : a < u39.heap.size := by have := cu39.size; omega
                  refine hK.out _ _ (HK.out _ (show Chg [a] wr _ by ((repeat (first | with_reducible assumption | with_reducible exact Chg.refl _ _ | refine Chg.alloc ?_ _ | refine Chg.drew ?_)); first | done | fail "chg"))) (fun hHeld => ?_)
                  clear hK K
                  (try simp only [Act.put, List.setIfInBounds_toArray, List.set_cons_zero, List.set_cons_succ])
                  refine oneE (i := 17) rfl (by kernel_rfl) (by kernel_rfl) (fun K hK => ?_)
                  go_simp
                  go_at_call 51
                  refine Calls.mono (num_dr a (N + 2002 + 4 * (1000 - k) + 3) _ 4 _ _ (by ((repeat (first | with_reducible assumption | refine Dr.alloc ?_ _ | refine Dr.drew ?_)); first | done | fail "drk")) (by omega) sB (by decide) nB) ?_
                  rintro en u40 ⟨z, rfl, hz0, hz1, du40, ku40⟩
                  have cu40 : Chg [a] wr u40 := (show Chg [a] wr _ by ((repeat (first | with_reducible assumption | with_reducible exact Chg.refl _ _ | refine Chg.alloc ?_ _ | refine Chg.drew ?_)); first | done | fail "chg")).trans ku40
                  have yu40 : a < u40.heap.size := by have := cu40.size; omega
                  go_wp2_with fail
                  refine hK.out _ _ (HK.out _ (show Chg [a] wr _ by ((repeat (first | with_reducible assumption | with_reducible exact Chg.refl _ _ | refine Chg.alloc ?_ _ | refine Chg.drew ?_)); first | done | fail "chg"))) (fun hHeld => ?_)
                  clear hK K
                  (try simp only [Act.put, List.setIfInBounds_toArray, List.set_cons_zero, List.set_cons_succ])
                  (refine takeE (i := 18) (v := ?_) [] rfl (by kernel_rfl) (by kernel_rfl) (fun _ _ _ h => h) (Or.inl ⟨by kernel_rfl, ?_⟩) (by assumption) ?_; rotate_left; (focus (intro w hSw; (try dsimp only at hSw); go_simp; first | done | with_reducible rfl | fail "takeE")); (try simp only [Act.put, List.setIfInBounds_toArray, List.set_cons_zero, List.set_cons_succ]))
                  refine oneE (i := 19) rfl (by kernel_rfl) (by kernel_rfl) (fun K hK => ?_)
                  go_simp
                  refine hK.out _ _ (HK.out _ (show Chg [a] wr _ by ((repeat (first | with_reducible assumption | with_reducible exact Chg.refl _ _ | refine Chg.alloc ?_ _ | refine Chg.drew ?_)); first | done | fail "chg"))) (fun hHeld => ?_)
                  clear hK K
                  (try simp only [Act.put, List.setIfInBounds_toArray, List.set_cons_zero, List.set_cons_succ])
                  refine oneE (i := 20) rfl (by kernel_rfl) (by kernel_rfl) (fun K hK => ?_)
                  have HT := GT.out _ (show Chg [a] wr _ from cu40)
                  refine wp_app (.tmp 34) (.tmp 52) 69 (by rfl) _ _ (by rfl) (by rfl) _ (appE HT ⟨p, r, x, z⟩ (by omega)) ?_
                  rintro v' w' ⟨hT, ⟨e0, e1, e2, e3⟩, ⟨pv, cv, rfl⟩, G, hG, hGl⟩
                  have HT2 := Lib.hid hT
                  have HG := Lib.hid hG
                  have HGl := Lib.hid hGl
                  clear hT hG hGl HT
                  refine hK.out _ _ ⟨e0, e1⟩ (fun hHeld => ?_)
                  clear hK K
                  (try simp only [Act.put, List.setIfInBounds_toArray, List.set_cons_zero, List.set_cons_succ])
                  (refine takeE (i := 21) (v := ?_) [] rfl (by kernel_rfl) (by kernel_rfl) (fun _ _ _ h => h) (Or.inl ⟨by kernel_rfl, ?_⟩) (by assumption) ?_; rotate_left; (focus (intro w hSw; (try dsimp only at hSw); go_simp; first | done | with_reducible rfl | fail "takeE")); (try simp only [Act.put, List.setIfInBounds_toArray, List.set_cons_zero, List.set_cons_succ]))
                  refine lastE rfl (by kernel_rfl) (by kernel_rfl) (fun K hK => ?_)
                  go_simp
                  refine hK.out _ _ ?_
                  clear hK K
                  refine doneE (by kernel_rfl) ?_ _
                  go_wp2_with fail
                  go_roundw
                  case rel =>
                    have HD := (show Dr _ a (N + 2002 + 4 * (1000 - k) + 4) by ((repeat (first | with_reducible assumption | refine Dr.alloc ?_ _ | refine Dr.drew ?_)); first | done | fail "drk"))
                    exact ⟨q - 1, k - 1, _, _, _, by go_num, by omega, by omega, HT2.out, rel2_more hoe hp0 hp1 hr0 hr1 hx hz0 hz1, by simp; omega, (HD.chg HG.out (fun x hx => by have := HGl.out x hx; omega)).mono (by omega), (HC.out.trans (show Chg [a] wr _ by ((repeat (first | with_reducible assumption | with_reducible exact Chg.refl _ _ | refine Chg.alloc ?_ _ | refine Chg.drew ?_)); first | done | fail "chg"))).past HG.out (fun x hx => .inr (by have := HGl.out x hx; omega))⟩
                  case measure => simp [intOf]; omega
                · go_simp
                  refine made (K := K) intB_spec 4 (by rfl) (by kernel_rfl) ?_
                  intro u41 ku41 zu41 sB
                  have cu41 : Chg [a] wr u41 := (show Chg [a] wr _ by ((repeat (first | with_reducible assumption | with_reducible exact Chg.refl _ _ | refine Chg.alloc ?_ _ | refine Chg.drew ?_)); first | done | fail "chg")).trans (ku41.mono (by simp))
                  have du41 : Dr u41 a (N + 2002 + 4 * (1000 - k) + 2) := (show Dr _ a (N + 2002 + 4 * (1000 - k) + 2) by ((repeat (first | with_reducible assumption | refine Dr.alloc ?_ _ | refine Dr.drew ?_)); first | done | fail "drk")).chg ku41 (by simp)
                  have nB : u37.heap.size ≠ a := by omega
                  replace sA := sA.chg ku41 (by simp)
                  have yu41 : a < u41.heap.size := by have := cu41.size; omega
                  refine hK.out _ _ (HK.out _ (show Chg [a] wr _ by ((repeat (first | with_reducible assumption | with_reducible exact Chg.refl _ _ | refine Chg.alloc ?_ _ | refine Chg.drew ?_)); first | done | fail "chg"))) (fun hHeld => ?_)
                  clear hK K
                  (try simp only [Act.put, List.setIfInBounds_toArray, List.set_cons_zero, List.set_cons_succ])
                  refine oneE (i := 14) rfl (by kernel_rfl) (by kernel_rfl) (fun K hK => ?_)
                  go_simp
                  go_at_call 90
                  refine Calls.mono (of_dr a (N + 2002 + 4 * (1000 - k) + 2) _ 4 _ _ (by ((repeat (first | with_reducible assumption | refine Dr.alloc ?_ _ | refine Dr.drew ?_)); first | done | fail "drk")) (by omega) sA (by decide) nA) ?_
                  rintro en u42 ⟨x, rfl, hx, du42, ku42⟩
                  have cu42 : Chg [a] wr u42 := (show Chg [a] wr _ by ((repeat (first | with_reducible assumption | with_reducible exact Chg.refl _ _ | refine Chg.alloc ?_ _ | refine Chg.drew ?_)); first | done | fail "chg")).trans ku42
                  replace sB := sB.chg ku42 (by simpa using nB)
                  have yu42 : a < u42.heap.size := by have := cu42.size; omega
                  go_wp2_with fail
                  refine hK.out _ _ (HK.out _ (show Chg [a] wr _ by ((repeat (first | with_reducible assumption | with_reducible exact Chg.refl _ _ | refine Chg.alloc ?_ _ | refine Chg.drew ?_)); first | done | fail "chg"))) (fun hHeld => ?_)
                  clear hK K
                  (try simp only [Act.put, List.setIfInBounds_toArray, List.set_cons_zero, List.set_cons_succ])
                  refine oneE (i := 17) rfl (by kernel_rfl) (by kernel_rfl) (fun K hK => ?_)
                  go_simp
                  go_at_call 51
                  refine Calls.mono (num_dr a (N + 2002 + 4 * (1000 - k) + 3) _ 4 _ _ (by ((repeat (first | with_reducible assumption | refine Dr.alloc ?_ _ | refine Dr.drew ?_)); first | done | fail "drk")) (by omega) sB (by decide) nB) ?_
                  rintro en u43 ⟨z, rfl, hz0, hz1, du43, ku43⟩
                  have cu43 : Chg [a] wr u43 := (show Chg [a] wr _ by ((repeat (first | with_reducible assumption | with_reducible exact Chg.refl _ _ | refine Chg.alloc ?_ _ | refine Chg.drew ?_)); first | done | fail "chg")).trans ku43
                  have yu43 : a < u43.heap.size := by have := cu43.size; omega
                  go_wp2_with fail
                  refine hK.out _ _ (HK.out _ (show Chg [a] wr _ by ((repeat (first | with_reducible assumption | with_reducible exact Chg.refl _ _ | refine Chg.alloc ?_ _ | refine Chg.drew ?_)); first | done | fail "chg"))) (fun hHeld => ?_)
                  clear hK K
                  (try simp only [Act.put, List.setIfInBounds_toArray, List.set_cons_zero, List.set_cons_succ])
                  (refine takeE (i := 18) (v := ?_) [] rfl (by kernel_rfl) (by kernel_rfl) (fun _ _ _ h => h) (Or.inl ⟨by kernel_rfl, ?_⟩) (by assumption) ?_; rotate_left; (focus (intro w hSw; (try dsimp only at hSw); go_simp; first | done | with_reducible rfl | fail "takeE")); (try simp only [Act.put, List.setIfInBounds_toArray, List.set_cons_zero, List.set_cons_succ]))
                  refine oneE (i := 19) rfl (by kernel_rfl) (by kernel_rfl) (fun K hK => ?_)
                  go_simp
                  refine hK.out _ _ (HK.out _ (show Chg [a] wr _ by ((repeat (first | with_reducible assumption | with_reducible exact Chg.refl _ _ | refine Chg.alloc ?_ _ | refine Chg.drew ?_)); first | done | fail "chg"))) (fun hHeld => ?_)
                  clear hK K
                  (try simp only [Act.put, List.setIfInBounds_toArray, List.set_cons_zero, List.set_cons_succ])
                  refine oneE (i := 20) rfl (by kernel_rfl) (by kernel_rfl) (fun K hK => ?_)
                  have HT := GT.out _ (show Chg [a] wr _ from cu43)
                  refine wp_app (.tmp 34) (.tmp 52) 69 (by rfl) _ _ (by rfl) (by rfl) _ (appE HT ⟨p, r, x, z⟩ (by omega)) ?_
                  rintro v' w' ⟨hT, ⟨e0, e1, e2, e3⟩, ⟨pv, cv, rfl⟩, G, hG, hGl⟩
                  have HT2 := Lib.hid hT
                  have HG := Lib.hid hG
                  have HGl := Lib.hid hGl
                  clear hT hG hGl HT
                  refine hK.out _ _ ⟨e0, e1⟩ (fun hHeld => ?_)
                  clear hK K
                  (try simp only [Act.put, List.setIfInBounds_toArray, List.set_cons_zero, List.set_cons_succ])
                  (refine takeE (i := 21) (v := ?_) [] rfl (by kernel_rfl) (by kernel_rfl) (fun _ _ _ h => h) (Or.inl ⟨by kernel_rfl, ?_⟩) (by assumption) ?_; rotate_left; (focus (intro w hSw; (try dsimp only at hSw); go_simp; first | done | with_reducible rfl | fail "takeE")); (try simp only [Act.put, List.setIfInBounds_toArray, List.set_cons_zero, List.set_cons_succ]))
                  refine lastE rfl (by kernel_rfl) (by kernel_rfl) (fun K hK => ?_)
                  go_simp
                  refine hK.out _ _ ?_
                  clear hK K
                  refine doneE (by kernel_rfl) ?_ _
                  go_wp2_with fail
                  go_roundw
                  case rel =>
                    have HD := (show Dr _ a (N + 2002 + 4 * (1000 - k) + 4) by ((repeat (first | with_reducible assumption | refine Dr.alloc ?_ _ | refine Dr.drew ?_)); first | done | fail "drk"))
                    exact ⟨q - 1, k - 1, _, _, _, by go_num, by omega, by omega, HT2.out, rel2_more hoe hp0 hp1 hr0 hr1 hx hz0 hz1, by simp; omega, (HD.chg HG.out (fun x hx => by have := HGl.out x hx; omega)).mono (by omega), (HC.out.trans (show Chg [a] wr _ by ((repeat (first | with_reducible assumption | with_reducible exact Chg.refl _ _ | refine Chg.alloc ?_ _ | refine Chg.drew ?_)); first | done | fail "chg"))).past HG.out (fun x hx => .inr (by have := HGl.out x hx; omega))⟩
                  case measure => simp [intOf]; omega
              · go_simp
                refine made (K := K) intB_spec 4 (by rfl) (by kernel_rfl) ?_
                intro u44 ku44 zu44 sB
                have cu44 : Chg [a] wr u44 := (show Chg [a] wr _ by ((repeat (first | with_reducible assumption | with_reducible exact Chg.refl _ _ | refine Chg.alloc ?_ _ | refine Chg.drew ?_)); first | done | fail "chg")).trans (ku44.mono (by simp))
                have du44 : Dr u44 a (N + 2002 + 4 * (1000 - k) + 1) := (show Dr _ a (N + 2002 + 4 * (1000 - k) + 1) by ((repeat (first | with_reducible assumption | refine Dr.alloc ?_ _ | refine Dr.drew ?_)); first | done | fail "drk")).chg ku44 (by simp)
                have nB : u36.heap.size ≠ a := by omega
                replace sA := sA.chg ku44 (by simp)
                have yu44 : a < u44.heap.size := by have := cu44.size; omega
                refine hK.out _ _ (HK.out _ (show Chg [a] wr _ by ((repeat (first | with_reducible assumption | with_reducible exact Chg.refl _ _ | refine Chg.alloc ?_ _ | refine Chg.drew ?_)); first | done | fail "chg"))) (fun hHeld => ?_)
                clear hK K
                (try simp only [Act.put, List.setIfInBounds_toArray, List.set_cons_zero, List.set_cons_succ])
                refine oneE (i := 11) rfl (by kernel_rfl) (by kernel_rfl) (fun K hK => ?_)
                go_simp
                go_at_call 87
                refine Calls.mono (pick_sm _ a (N + 2002 + 4 * (1000 - k) + 1) _ (by ((repeat (first | with_reducible assumption | refine Dr.alloc ?_ _ | refine Dr.drew ?_)); first | done | fail "drk")) (by omega) (by omega)) ?_
                rintro en u45 ⟨r, rfl, hr0, hr1, du45, ku45⟩
                have cu45 : Chg [a] wr u45 := (show Chg [a] wr _ by ((repeat (first | with_reducible assumption | with_reducible exact Chg.refl _ _ | refine Chg.alloc ?_ _ | refine Chg.drew ?_)); first | done | fail "chg")).trans ku45
                replace sA := sA.chg ku45 (by simpa using nA)
                replace sB := sB.chg ku45 (by simpa using nB)
                have yu45 : a < u45.heap.size := by have := cu45.size; omega
                go_wp2_with fail
                refine hK.out _ _ (HK.out _ (show Chg [a] wr _ by ((repeat (first | with_reducible assumption | with_reducible exact Chg.refl _ _ | refine Chg.alloc ?_ _ | refine Chg.drew ?_)); first | done | fail "chg"))) (fun hHeld => ?_)
                clear hK K
                (try simp only [Act.put, List.setIfInBounds_toArray, List.set_cons_zero, List.set_cons_succ])
                refine oneE (i := 14) rfl (by kernel_rfl) (by kernel_rfl) (fun K hK => ?_)
                go_simp
                go_at_call 90
                refine Calls.mono (of_dr a (N + 2002 + 4 * (1000 - k) + 2) _ 4 _ _ (by ((repeat (first | with_reducible assumption | refine Dr.alloc ?_ _ | refine Dr.drew ?_)); first | done | fail "drk")) (by omega) sA (by decide) nA) ?_
                rintro en u46 ⟨x, rfl, hx, du46, ku46⟩
                have cu46 : Chg [a] wr u46 := (show Chg [a] wr _ by ((repeat (first | with_reducible assumption | with_reducible exact Chg.refl _ _ | refine Chg.alloc ?_ _ | refine Chg.drew ?_)); first | done | fail "chg")).trans ku46
                replace sB := sB.chg ku46 (by simpa using nB)
                have yu46 : a < u46.heap.size := by have := cu46.size; omega
                go_wp2_with fail
                refine hK.out _ _ (HK.out _ (show Chg [a] wr _ by ((repeat (first | with_reducible assumption | with_reducible exact Chg.refl _ _ | refine Chg.alloc ?_ _ | refine Chg.drew ?_)); first | done | fail "chg"))) (fun hHeld => ?_)
                clear hK K
                (try simp only [Act.put, List.setIfInBounds_toArray, List.set_cons_zero, List.set_cons_succ])
                refine oneE (i := 17) rfl (by kernel_rfl) (by kernel_rfl) (fun K hK => ?_)
                go_simp
                go_at_call 51
                refine Calls.mono (num_dr a (N + 2002 + 4 * (1000 - k) + 3) _ 4 _ _ (by ((repeat (first | with_reducible assumption | refine Dr.alloc ?_ _ | refine Dr.drew ?_)); first | done | fail "drk")) (by omega) sB (by decide) nB) ?_
                rintro en u47 ⟨z, rfl, hz0, hz1, du47, ku47⟩
                have cu47 : Chg [a] wr u47 := (show Chg [a] wr _ by ((repeat (first | with_reducible assumption | with_reducible exact Chg.refl _ _ | refine Chg.alloc ?_ _ | refine Chg.drew ?_)); first | done | fail "chg")).trans ku47
                have yu47 : a < u47.heap.size := by have := cu47.size; omega
                go_wp2_with fail
                refine hK.out _ _ (HK.out _ (show Chg [a] wr _ by ((repeat (first | with_reducible assumption | with_reducible exact Chg.refl _ _ | refine Chg.alloc ?_ _ | refine Chg.drew ?_)); first | done | fail "chg"))) (fun hHeld => ?_)
                clear hK K
                (try simp only [Act.put, List.setIfInBounds_toArray, List.set_cons_zero, List.set_cons_succ])
                (refine takeE (i := 18) (v := ?_) [] rfl (by kernel_rfl) (by kernel_rfl) (fun _ _ _ h => h) (Or.inl ⟨by kernel_rfl, ?_⟩) (by assumption) ?_; rotate_left; (focus (intro w hSw; (try dsimp only at hSw); go_simp; first | done | with_reducible rfl | fail "takeE")); (try simp only [Act.put, List.setIfInBounds_toArray, List.set_cons_zero, List.set_cons_succ]))
                refine oneE (i := 19) rfl (by kernel_rfl) (by kernel_rfl) (fun K hK => ?_)
                go_simp
                refine hK.out _ _ (HK.out _ (show Chg [a] wr _ by ((repeat (first | with_reducible assumption | with_reducible exact Chg.refl _ _ | refine Chg.alloc ?_ _ | refine Chg.drew ?_)); first | done | fail "chg"))) (fun hHeld => ?_)
                clear hK K
                (try simp only [Act.put, List.setIfInBounds_toArray, List.set_cons_zero, List.set_cons_succ])
                refine oneE (i := 20) rfl (by kernel_rfl) (by kernel_rfl) (fun K hK => ?_)
                have HT := GT.out _ (show Chg [a] wr _ from cu47)
                refine wp_app (.tmp 34) (.tmp 52) 69 (by rfl) _ _ (by rfl) (by rfl) _ (appE HT ⟨p, r, x, z⟩ (by omega)) ?_
                rintro v' w' ⟨hT, ⟨e0, e1, e2, e3⟩, ⟨pv, cv, rfl⟩, G, hG, hGl⟩
                have HT2 := Lib.hid hT
                have HG := Lib.hid hG
                have HGl := Lib.hid hGl
                clear hT hG hGl HT
                refine hK.out _ _ ⟨e0, e1⟩ (fun hHeld => ?_)
                clear hK K
                (try simp only [Act.put, List.setIfInBounds_toArray, List.set_cons_zero, List.set_cons_succ])
                (refine takeE (i := 21) (v := ?_) [] rfl (by kernel_rfl) (by kernel_rfl) (fun _ _ _ h => h) (Or.inl ⟨by kernel_rfl, ?_⟩) (by assumption) ?_; rotate_left; (focus (intro w hSw; (try dsimp only at hSw); go_simp; first | done | with_reducible rfl | fail "takeE")); (try simp only [Act.put, List.setIfInBounds_toArray, List.set_cons_zero, List.set_cons_succ]))
                refine lastE rfl (by kernel_rfl) (by kernel_rfl) (fun K hK => ?_)
                go_simp
                refine hK.out _ _ ?_
                clear hK K
                refine doneE (by kernel_rfl) ?_ _
                go_wp2_with fail
                go_roundw
                case rel =>
                  have HD := (show Dr _ a (N + 2002 + 4 * (1000 - k) + 4) by ((repeat (first | with_reducible assumption | refine Dr.alloc ?_ _ | refine Dr.drew ?_)); first | done | fail "drk"))
                  exact ⟨q - 1, k - 1, _, _, _, by go_num, by omega, by omega, HT2.out, rel2_more hoe hp0 hp1 hr0 hr1 hx hz0 hz1, by simp; omega, (HD.chg HG.out (fun x hx => by have := HGl.out x hx; omega)).mono (by omega), (HC.out.trans (show Chg [a] wr _ by ((repeat (first | with_reducible assumption | with_reducible exact Chg.refl _ _ | refine Chg.alloc ?_ _ | refine Chg.drew ?_)); first | done | fail "chg"))).past HG.out (fun x hx => .inr (by have := HGl.out x hx; omega))⟩
                case measure => simp [intOf]; omega
            · go_simp
              refine made (K := K) intB_spec 4 (by rfl) (by kernel_rfl) ?_
              intro u48 ku48 zu48 sB
              have cu48 : Chg [a] wr u48 := (show Chg [a] wr _ by ((repeat (first | with_reducible assumption | with_reducible exact Chg.refl _ _ | refine Chg.alloc ?_ _ | refine Chg.drew ?_)); first | done | fail "chg")).trans (ku48.mono (by simp))
              have du48 : Dr u48 a (N + 2002 + 4 * (1000 - k)) := (show Dr _ a (N + 2002 + 4 * (1000 - k)) by ((repeat (first | with_reducible assumption | refine Dr.alloc ?_ _ | refine Dr.drew ?_)); first | done | fail "drk")).chg ku48 (by simp)
              have nB : u35.heap.size ≠ a := by omega
              replace sA := sA.chg ku48 (by simp)
              have yu48 : a < u48.heap.size := by have := cu48.size; omega
              refine hK.out _ _ (HK.out _ (show Chg [a] wr _ by ((repeat (first | with_reducible assumption | with_reducible exact Chg.refl _ _ | refine Chg.alloc ?_ _ | refine Chg.drew ?_)); first | done | fail "chg"))) (fun hHeld => ?_)
              clear hK K
              (try simp only [Act.put, List.setIfInBounds_toArray, List.set_cons_zero, List.set_cons_succ])
              refine oneE (i := 6) rfl (by kernel_rfl) (by kernel_rfl) (fun K hK => ?_)
              go_simp
              go_at_call 87
              refine Calls.mono (pick_sm _ a (N + 2002 + 4 * (1000 - k)) _ (by ((repeat (first | with_reducible assumption | refine Dr.alloc ?_ _ | refine Dr.drew ?_)); first | done | fail "drk")) (by omega) (by omega)) ?_
              rintro en u49 ⟨p, rfl, hp0, hp1, du49, ku49⟩
              have cu49 : Chg [a] wr u49 := (show Chg [a] wr _ by ((repeat (first | with_reducible assumption | with_reducible exact Chg.refl _ _ | refine Chg.alloc ?_ _ | refine Chg.drew ?_)); first | done | fail "chg")).trans ku49
              replace sA := sA.chg ku49 (by simpa using nA)
              replace sB := sB.chg ku49 (by simpa using nB)
              have yu49 : a < u49.heap.size := by have := cu49.size; omega
              go_wp2_with fail
              refine hK.out _ _ (HK.out _ (show Chg [a] wr _ by ((repeat (first | with_reducible assumption | with_reducible exact Chg.refl _ _ | refine Chg.alloc ?_ _ | refine Chg.drew ?_)); first | done | fail "chg"))) (fun hHeld => ?_)
              clear hK K
              (try simp only [Act.put, List.setIfInBounds_toArray, List.set_cons_zero, List.set_cons_succ])
              refine oneE (i := 11) rfl (by kernel_rfl) (by kernel_rfl) (fun K hK => ?_)
              go_simp
              go_at_call 87
              refine Calls.mono (pick_sm _ a (N + 2002 + 4 * (1000 - k) + 1) _ (by ((repeat (first | with_reducible assumption | refine Dr.alloc ?_ _ | refine Dr.drew ?_)); first | done | fail "drk")) (by omega) (by omega)) ?_
              rintro en u50 ⟨r, rfl, hr0, hr1, du50, ku50⟩
              have cu50 : Chg [a] wr u50 := (show Chg [a] wr _ by ((repeat (first | with_reducible assumption | with_reducible exact Chg.refl _ _ | refine Chg.alloc ?_ _ | refine Chg.drew ?_)); first | done | fail "chg")).trans ku50
              replace sA := sA.chg ku50 (by simpa using nA)
              replace sB := sB.chg ku50 (by simpa using nB)
              have yu50 : a < u50.heap.size := by have := cu50.size; omega
              go_wp2_with fail
              refine hK.out _ _ (HK.out _ (show Chg [a] wr _ by ((repeat (first | with_reducible assumption | with_reducible exact Chg.refl _ _ | refine Chg.alloc ?_ _ | refine Chg.drew ?_)); first | done | fail "chg"))) (fun hHeld => ?_)
              clear hK K
              (try simp only [Act.put, List.setIfInBounds_toArray, List.set_cons_zero, List.set_cons_succ])
              refine oneE (i := 14) rfl (by kernel_rfl) (by kernel_rfl) (fun K hK => ?_)
              go_simp
              go_at_call 90
              refine Calls.mono (of_dr a (N + 2002 + 4 * (1000 - k) + 2) _ 4 _ _ (by ((repeat (first | with_reducible assumption | refine Dr.alloc ?_ _ | refine Dr.drew ?_)); first | done | fail "drk")) (by omega) sA (by decide) nA) ?_
              rintro en u51 ⟨x, rfl, hx, du51, ku51⟩
              have cu51 : Chg [a] wr u51 := (show Chg [a] wr _ by ((repeat (first | with_reducible assumption | with_reducible exact Chg.refl _ _ | refine Chg.alloc ?_ _ | refine Chg.drew ?_)); first | done | fail "chg")).trans ku51
              replace sB := sB.chg ku51 (by simpa using nB)
              have yu51 : a < u51.heap.size := by have := cu51.size; omega
              go_wp2_with fail
              refine hK.out _ _ (HK.out _ (show Chg [a] wr _ by ((repeat (first | with_reducible assumption | with_reducible exact Chg.refl _ _ | refine Chg.alloc ?_ _ | refine Chg.drew ?_)); first | done | fail "chg"))) (fun hHeld => ?_)
              clear hK K
              (try simp only [Act.put, List.setIfInBounds_toArray, List.set_cons_zero, List.set_cons_succ])
              refine oneE (i := 17) rfl (by kernel_rfl) (by kernel_rfl) (fun K hK => ?_)
              go_simp
              go_at_call 51
              refine Calls.mono (num_dr a (N + 2002 + 4 * (1000 - k) + 3) _ 4 _ _ (by ((repeat (first | with_reducible assumption | refine Dr.alloc ?_ _ | refine Dr.drew ?_)); first | done | fail "drk")) (by omega) sB (by decide) nB) ?_
              rintro en u52 ⟨z, rfl, hz0, hz1, du52, ku52⟩
              have cu52 : Chg [a] wr u52 := (show Chg [a] wr _ by ((repeat (first | with_reducible assumption | with_reducible exact Chg.refl _ _ | refine Chg.alloc ?_ _ | refine Chg.drew ?_)); first | done | fail "chg")).trans ku52
              have yu52 : a < u52.heap.size := by have := cu52.size; omega
              go_wp2_with fail
              refine hK.out _ _ (HK.out _ (show Chg [a] wr _ by ((repeat (first | with_reducible assumption | with_reducible exact Chg.refl _ _ | refine Chg.alloc ?_ _ | refine Chg.drew ?_)); first | done | fail "chg"))) (fun hHeld => ?_)
              clear hK K
              (try simp only [Act.put, List.setIfInBounds_toArray, List.set_cons_zero, List.set_cons_succ])
              (refine takeE (i := 18) (v := ?_) [] rfl (by kernel_rfl) (by kernel_rfl) (fun _ _ _ h => h) (Or.inl ⟨by kernel_rfl, ?_⟩) (by assumption) ?_; rotate_left; (focus (intro w hSw; (try dsimp only at hSw); go_simp; first | done | with_reducible rfl | fail "takeE")); (try simp only [Act.put, List.setIfInBounds_toArray, List.set_cons_zero, List.set_cons_succ]))
              refine oneE (i := 19) rfl (by kernel_rfl) (by kernel_rfl) (fun K hK => ?_)
              go_simp
              refine hK.out _ _ (HK.out _ (show Chg [a] wr _ by ((repeat (first | with_reducible assumption | with_reducible exact Chg.refl _ _ | refine Chg.alloc ?_ _ | refine Chg.drew ?_)); first | done | fail "chg"))) (fun hHeld => ?_)
              clear hK K
              (try simp only [Act.put, List.setIfInBounds_toArray, List.set_cons_zero, List.set_cons_succ])
              refine oneE (i := 20) rfl (by kernel_rfl) (by kernel_rfl) (fun K hK => ?_)
              have HT := GT.out _ (show Chg [a] wr _ from cu52)
              refine wp_app (.tmp 34) (.tmp 52) 69 (by rfl) _ _ (by rfl) (by rfl) _ (appE HT ⟨p, r, x, z⟩ (by omega)) ?_
              rintro v' w' ⟨hT, ⟨e0, e1, e2, e3⟩, ⟨pv, cv, rfl⟩, G, hG, hGl⟩
              have HT2 := Lib.hid hT
              have HG := Lib.hid hG
              have HGl := Lib.hid hGl
              clear hT hG hGl HT
              refine hK.out _ _ ⟨e0, e1⟩ (fun hHeld => ?_)
              clear hK K
              (try simp only [Act.put, List.setIfInBounds_toArray, List.set_cons_zero, List.set_cons_succ])
              (refine takeE (i := 21) (v := ?_) [] rfl (by kernel_rfl) (by kernel_rfl) (fun _ _ _ h => h) (Or.inl ⟨by kernel_rfl, ?_⟩) (by assumption) ?_; rotate_left; (focus (intro w hSw; (try dsimp only at hSw); go_simp; first | done | with_reducible rfl | fail "takeE")); (try simp only [Act.put, List.setIfInBounds_toArray, List.set_cons_zero, List.set_cons_succ]))
              refine lastE rfl (by kernel_rfl) (by kernel_rfl) (fun K hK => ?_)
              go_simp
              refine hK.out _ _ ?_
              clear hK K
              refine doneE (by kernel_rfl) ?_ _
              go_wp2_with fail
              go_roundw
              case rel =>
                have HD := (show Dr _ a (N + 2002 + 4 * (1000 - k) + 4) by ((repeat (first | with_reducible assumption | refine Dr.alloc ?_ _ | refine Dr.drew ?_)); first | done | fail "drk"))
                exact ⟨q - 1, k - 1, _, _, _, by go_num, by omega, by omega, HT2.out, rel2_more hoe hp0 hp1 hr0 hr1 hx hz0 hz1, by simp; omega, (HD.chg HG.out (fun x hx => by have := HGl.out x hx; omega)).mono (by omega), (HC.out.trans (show Chg [a] wr _ by ((repeat (first | with_reducible assumption | with_reducible exact Chg.refl _ _ | refine Chg.alloc ?_ _ | refine Chg.drew ?_)); first | done | fail "chg"))).past HG.out (fun x hx => .inr (by have := HGl.out x hx; omega))⟩
              case measure => simp [intOf]; omega
          · go_simp
            refine made (K := K) intB_spec 4 (by rfl) (by kernel_rfl) ?_
            intro u53 ku53 zu53 sB
            have cu53 : Chg [a] wr u53 := (show Chg [a] wr _ by ((repeat (first | with_reducible assumption | with_reducible exact Chg.refl _ _ | refine Chg.alloc ?_ _ | refine Chg.drew ?_)); first | done | fail "chg")).trans (ku53.mono (by simp))
            have du53 : Dr u53 a (N + 2002 + 4 * (1000 - k)) := (show Dr _ a (N + 2002 + 4 * (1000 - k)) by ((repeat (first | with_reducible assumption | refine Dr.alloc ?_ _ | refine Dr.drew ?_)); first | done | fail "drk")).chg ku53 (by simp)
            have nB : W0.heap.size ≠ a := by omega
            have yu53 : a < u53.heap.size := by have := cu53.size; omega
            refine hK.out _ _ (HK.out _ (show Chg [a] wr _ by ((repeat (first | with_reducible assumption | with_reducible exact Chg.refl _ _ | refine Chg.alloc ?_ _ | refine Chg.drew ?_)); first | done | fail "chg"))) (fun hHeld => ?_)
            clear hK K
            (try simp only [Act.put, List.setIfInBounds_toArray, List.set_cons_zero, List.set_cons_succ])
            refine upE (rs := [6, 13]) (by kernel_rfl) (by simp) (AllE'.cons (i := 6) rfl (by kernel_rfl) (fun K hK => ?_) (AllE'.cons (i := 13) rfl (by kernel_rfl) (fun K hK => ?_) AllE'.nil))
            · go_simp
              go_at_call 87
              refine Calls.mono (pick_sm _ a (N + 2002 + 4 * (1000 - k)) _ (by ((repeat (first | with_reducible assumption | refine Dr.alloc ?_ _ | refine Dr.drew ?_)); first | done | fail "drk")) (by omega) (by omega)) ?_
              rintro en u54 ⟨p, rfl, hp0, hp1, du54, ku54⟩
              have cu54 : Chg [a] wr u54 := (show Chg [a] wr _ by ((repeat (first | with_reducible assumption | with_reducible exact Chg.refl _ _ | refine Chg.alloc ?_ _ | refine Chg.drew ?_)); first | done | fail "chg")).trans ku54
              replace sB := sB.chg ku54 (by simpa using nB)
              have yu54 : a < u54.heap.size := by have := cu54.size; omega
              go_wp2_with fail
              refine hK.out _ _ (HK.out _ (show Chg [a] wr _ by ((repeat (first | with_reducible assumption | with_reducible exact Chg.refl _ _ | refine Chg.alloc ?_ _ | refine Chg.drew ?_)); first | done | fail "chg"))) (fun hHeld => ?_)
              clear hK K
              (try simp only [Act.put, List.setIfInBounds_toArray, List.set_cons_zero, List.set_cons_succ])
              refine upE (rs := [11, 13]) (by kernel_rfl) (by simp) (AllE'.cons (i := 11) rfl (by kernel_rfl) (fun K hK => ?_) (AllE'.cons (i := 13) rfl (by kernel_rfl) (fun K hK => ?_) AllE'.nil))
              · go_simp
                go_at_call 87
                refine Calls.mono (pick_sm _ a (N + 2002 + 4 * (1000 - k) + 1) _ (by ((repeat (first | with_reducible assumption | refine Dr.alloc ?_ _ | refine Dr.drew ?_)); first | done | fail "drk")) (by omega) (by omega)) ?_
                rintro en u55 ⟨r, rfl, hr0, hr1, du55, ku55⟩
                have cu55 : Chg [a] wr u55 := (show Chg [a] wr _ by ((repeat (first | with_reducible assumption | with_reducible exact Chg.refl _ _ | refine Chg.alloc ?_ _ | refine Chg.drew ?_)); first | done | fail "chg")).trans ku55
                replace sB := sB.chg ku55 (by simpa using nB)
                have yu55 : a < u55.heap.size := by have := cu55.size; omega
                go_wp2_with fail
                refine hK.out _ _ (HK.out _ (show Chg [a] wr _ by ((repeat (first | with_reducible assumption | with_reducible exact Chg.refl _ _ | refine Chg.alloc ?_ _ | refine Chg.drew ?_)); first | done | fail "chg"))) (fun hHeld => ?_)
                clear hK K
                (try simp only [Act.put, List.setIfInBounds_toArray, List.set_cons_zero, List.set_cons_succ])
                refine oneE (i := 13) rfl (by kernel_rfl) (by kernel_rfl) (fun K hK => ?_)
                go_simp
                refine made (K := K) strB_spec 4 (by rfl) (by kernel_rfl) ?_
                intro u56 ku56 zu56 sA
                have cu56 : Chg [a] wr u56 := (show Chg [a] wr _ by ((repeat (first | with_reducible assumption | with_reducible exact Chg.refl _ _ | refine Chg.alloc ?_ _ | refine Chg.drew ?_)); first | done | fail "chg")).trans (ku56.mono (by simp))
                have du56 : Dr u56 a (N + 2002 + 4 * (1000 - k) + 2) := (show Dr _ a (N + 2002 + 4 * (1000 - k) + 2) by ((repeat (first | with_reducible assumption | refine Dr.alloc ?_ _ | refine Dr.drew ?_)); first | done | fail "drk")).chg ku56 (by simp)
                have nA : u55.heap.size ≠ a := by omega
                replace sB := sB.chg ku56 (by simp)
                have yu56 : a < u56.heap.size := by have := cu56.size; omega
                refine hK.out _ _ (HK.out _ (show Chg [a] wr _ by ((repeat (first | with_reducible assumption | with_reducible exact Chg.refl _ _ | refine Chg.alloc ?_ _ | refine Chg.drew ?_)); first | done | fail "chg"))) (fun hHeld => ?_)
                clear hK K
                (try simp only [Act.put, List.setIfInBounds_toArray, List.set_cons_zero, List.set_cons_succ])
                refine oneE (i := 14) rfl (by kernel_rfl) (by kernel_rfl) (fun K hK => ?_)
                go_simp
                go_at_call 90
                refine Calls.mono (of_dr a (N + 2002 + 4 * (1000 - k) + 2) _ 4 _ _ (by ((repeat (first | with_reducible assumption | refine Dr.alloc ?_ _ | refine Dr.drew ?_)); first | done | fail "drk")) (by omega) sA (by decide) nA) ?_
                rintro en u57 ⟨x, rfl, hx, du57, ku57⟩
                have cu57 : Chg [a] wr u57 := (show Chg [a] wr _ by ((repeat (first | with_reducible assumption | with_reducible exact Chg.refl _ _ | refine Chg.alloc ?_ _ | refine Chg.drew ?_)); first | done | fail "chg")).trans ku57
                replace sB := sB.chg ku57 (by simpa using nB)
                have yu57 : a < u57.heap.size := by have := cu57.size; omega
                go_wp2_with fail
                refine hK.out _ _ (HK.out _ (show Chg [a] wr _ by ((repeat (first | with_reducible assumption | with_reducible exact Chg.refl _ _ | refine Chg.alloc ?_ _ | refine Chg.drew ?_)); first | done | fail "chg"))) (fun hHeld => ?_)
                clear hK K
                (try simp only [Act.put, List.setIfInBounds_toArray, List.set_cons_zero, List.set_cons_succ])
                refine oneE (i := 17) rfl (by kernel_rfl) (by kernel_rfl) (fun K hK => ?_)
                go_simp
                go_at_call 51
                refine Calls.mono (num_dr a (N + 2002 + 4 * (1000 - k) + 3) _ 4 _ _ (by ((repeat (first | with_reducible assumption | refine Dr.alloc ?_ _ | refine Dr.drew ?_)); first | done | fail "drk")) (by omega) sB (by decide) nB) ?_
                rintro en u58 ⟨z, rfl, hz0, hz1, du58, ku58⟩
                have cu58 : Chg [a] wr u58 := (show Chg [a] wr _ by ((repeat (first | with_reducible assumption | with_reducible exact Chg.refl _ _ | refine Chg.alloc ?_ _ | refine Chg.drew ?_)); first | done | fail "chg")).trans ku58
                have yu58 : a < u58.heap.size := by have := cu58.size; omega
                go_wp2_with fail
                refine hK.out _ _ (HK.out _ (show Chg [a] wr _ by ((repeat (first | with_reducible assumption | with_reducible exact Chg.refl _ _ | refine Chg.alloc ?_ _ | refine Chg.drew ?_)); first | done | fail "chg"))) (fun hHeld => ?_)
                clear hK K
                (try simp only [Act.put, List.setIfInBounds_toArray, List.set_cons_zero, List.set_cons_succ])
                (refine takeE (i := 18) (v := ?_) [] rfl (by kernel_rfl) (by kernel_rfl) (fun _ _ _ h => h) (Or.inl ⟨by kernel_rfl, ?_⟩) (by assumption) ?_; rotate_left; (focus (intro w hSw; (try dsimp only at hSw); go_simp; first | done | with_reducible rfl | fail "takeE")); (try simp only [Act.put, List.setIfInBounds_toArray, List.set_cons_zero, List.set_cons_succ]))
                refine oneE (i := 19) rfl (by kernel_rfl) (by kernel_rfl) (fun K hK => ?_)
                go_simp
                refine hK.out _ _ (HK.out _ (show Chg [a] wr _ by ((repeat (first | with_reducible assumption | with_reducible exact Chg.refl _ _ | refine Chg.alloc ?_ _ | refine Chg.drew ?_)); first | done | fail "chg"))) (fun hHeld => ?_)
                clear hK K
                (try simp only [Act.put, List.setIfInBounds_toArray, List.set_cons_zero, List.set_cons_succ])
                refine oneE (i := 20) rfl (by kernel_rfl) (by kernel_rfl) (fun K hK => ?_)
                have HT := GT.out _ (show Chg [a] wr _ from cu58)
                refine wp_app (.tmp 34) (.tmp 52) 69 (by rfl) _ _ (by rfl) (by rfl) _ (appE HT ⟨p, r, x, z⟩ (by omega)) ?_
                rintro v' w' ⟨hT, ⟨e0, e1, e2, e3⟩, ⟨pv, cv, rfl⟩, G, hG, hGl⟩
                have HT2 := Lib.hid hT
                have HG := Lib.hid hG
                have HGl := Lib.hid hGl
                clear hT hG hGl HT
                refine hK.out _ _ ⟨e0, e1⟩ (fun hHeld => ?_)
                clear hK K
                (try simp only [Act.put, List.setIfInBounds_toArray, List.set_cons_zero, List.set_cons_succ])
                (refine takeE (i := 21) (v := ?_) [] rfl (by kernel_rfl) (by kernel_rfl) (fun _ _ _ h => h) (Or.inl ⟨by kernel_rfl, ?_⟩) (by assumption) ?_; rotate_left; (focus (intro w hSw; (try dsimp only at hSw); go_simp; first | done | with_reducible rfl | fail "takeE")); (try simp only [Act.put, List.setIfInBounds_toArray, List.set_cons_zero, List.set_cons_succ]))
                refine lastE rfl (by kernel_rfl) (by kernel_rfl) (fun K hK => ?_)
                go_simp
                refine hK.out _ _ ?_
                clear hK K
                refine doneE (by kernel_rfl) ?_ _
                go_wp2_with fail
                go_roundw
                case rel =>
                  have HD := (show Dr _ a (N + 2002 + 4 * (1000 - k) + 4) by ((repeat (first | with_reducible assumption | refine Dr.alloc ?_ _ | refine Dr.drew ?_)); first | done | fail "drk"))
                  exact ⟨q - 1, k - 1, _, _, _, by go_num, by omega, by omega, HT2.out, rel2_more hoe hp0 hp1 hr0 hr1 hx hz0 hz1, by simp; omega, (HD.chg HG.out (fun x hx => by have := HGl.out x hx; omega)).mono (by omega), (HC.out.trans (show Chg [a] wr _ by ((repeat (first | with_reducible assumption | with_reducible exact Chg.refl _ _ | refine Chg.alloc ?_ _ | refine Chg.drew ?_)); first | done | fail "chg"))).past HG.out (fun x hx => .inr (by have := HGl.out x hx; omega))⟩
                case measure => simp [intOf]; omega
              · go_simp
                refine made (K := K) strB_spec 4 (by rfl) (by kernel_rfl) ?_
                intro u59 ku59 zu59 sA
                have cu59 : Chg [a] wr u59 := (show Chg [a] wr _ by ((repeat (first | with_reducible assumption | with_reducible exact Chg.refl _ _ | refine Chg.alloc ?_ _ | refine Chg.drew ?_)); first | done | fail "chg")).trans (ku59.mono (by simp))
                have du59 : Dr u59 a (N + 2002 + 4 * (1000 - k) + 1) := (show Dr _ a (N + 2002 + 4 * (1000 - k) + 1) by ((repeat (first | with_reducible assumption | refine Dr.alloc ?_ _ | refine Dr.drew ?_)); first | done | fail "drk")).chg ku59 (by simp)
                have nA : u54.heap.size ≠ a := by omega
                replace sB := sB.chg ku59 (by simp)
                have yu59 : a < u59.heap.size := by have := cu59.size; omega
                refine hK.out _ _ (HK.out _ (show Chg [a] wr _ by ((repeat (first | with_reducible assumption | with_reducible exact Chg.refl _ _ | refine Chg.alloc ?_ _ | refine Chg.drew ?_)); first | done | fail "chg"))) (fun hHeld => ?_)
                clear hK K
                (try simp only [Act.put, List.setIfInBounds_toArray, List.set_cons_zero, List.set_cons_succ])
                refine oneE (i := 11) rfl (by kernel_rfl) (by kernel_rfl) (fun K hK => ?_)
                go_simp
                go_at_call 87
                refine Calls.mono (pick_sm _ a (N + 2002 + 4 * (1000 - k) + 1) _ (by ((repeat (first | with_reducible assumption | refine Dr.alloc ?_ _ | refine Dr.drew ?_)); first | done | fail "drk")) (by omega) (by omega)) ?_
                rintro en u60 ⟨r, rfl, hr0, hr1, du60, ku60⟩
                have cu60 : Chg [a] wr u60 := (show Chg [a] wr _ by ((repeat (first | with_reducible assumption | with_reducible exact Chg.refl _ _ | refine Chg.alloc ?_ _ | refine Chg.drew ?_)); first | done | fail "chg")).trans ku60
                replace sB := sB.chg ku60 (by simpa using nB)
                replace sA := sA.chg ku60 (by simpa using nA)
                have yu60 : a < u60.heap.size := by have := cu60.size; omega
                go_wp2_with fail
                refine hK.out _ _ (HK.out _ (show Chg [a] wr _ by ((repeat (first | with_reducible assumption | with_reducible exact Chg.refl _ _ | refine Chg.alloc ?_ _ | refine Chg.drew ?_)); first | done | fail "chg"))) (fun hHeld => ?_)
                clear hK K
                (try simp only [Act.put, List.setIfInBounds_toArray, List.set_cons_zero, List.set_cons_succ])
                refine oneE (i := 14) rfl (by kernel_rfl) (by kernel_rfl) (fun K hK => ?_)
                go_simp
                go_at_call 90
                refine Calls.mono (of_dr a (N + 2002 + 4 * (1000 - k) + 2) _ 4 _ _ (by ((repeat (first | with_reducible assumption | refine Dr.alloc ?_ _ | refine Dr.drew ?_)); first | done | fail "drk")) (by omega) sA (by decide) nA) ?_
                rintro en u61 ⟨x, rfl, hx, du61, ku61⟩
                have cu61 : Chg [a] wr u61 := (show Chg [a] wr _ by ((repeat (first | with_reducible assumption | with_reducible exact Chg.refl _ _ | refine Chg.alloc ?_ _ | refine Chg.drew ?_)); first | done | fail "chg")).trans ku61
                replace sB := sB.chg ku61 (by simpa using nB)
                have yu61 : a < u61.heap.size := by have := cu61.size; omega
                go_wp2_with fail
                refine hK.out _ _ (HK.out _ (show Chg [a] wr _ by ((repeat (first | with_reducible assumption | with_reducible exact Chg.refl _ _ | refine Chg.alloc ?_ _ | refine Chg.drew ?_)); first | done | fail "chg"))) (fun hHeld => ?_)
                clear hK K
                (try simp only [Act.put, List.setIfInBounds_toArray, List.set_cons_zero, List.set_cons_succ])
                refine oneE (i := 17) rfl (by kernel_rfl) (by kernel_rfl) (fun K hK => ?_)
                go_simp
                go_at_call 51
                refine Calls.mono (num_dr a (N + 2002 + 4 * (1000 - k) + 3) _ 4 _ _ (by ((repeat (first | with_reducible assumption | refine Dr.alloc ?_ _ | refine Dr.drew ?_)); first | done | fail "drk")) (by omega) sB (by decide) nB) ?_
                rintro en u62 ⟨z, rfl, hz0, hz1, du62, ku62⟩
                have cu62 : Chg [a] wr u62 := (show Chg [a] wr _ by ((repeat (first | with_reducible assumption | with_reducible exact Chg.refl _ _ | refine Chg.alloc ?_ _ | refine Chg.drew ?_)); first | done | fail "chg")).trans ku62
                have yu62 : a < u62.heap.size := by have := cu62.size; omega
                go_wp2_with fail
                refine hK.out _ _ (HK.out _ (show Chg [a] wr _ by ((repeat (first | with_reducible assumption | with_reducible exact Chg.refl _ _ | refine Chg.alloc ?_ _ | refine Chg.drew ?_)); first | done | fail "chg"))) (fun hHeld => ?_)
                clear hK K
                (try simp only [Act.put, List.setIfInBounds_toArray, List.set_cons_zero, List.set_cons_succ])
                (refine takeE (i := 18) (v := ?_) [] rfl (by kernel_rfl) (by kernel_rfl) (fun _ _ _ h => h) (Or.inl ⟨by kernel_rfl, ?_⟩) (by assumption) ?_; rotate_left; (focus (intro w hSw; (try dsimp only at hSw); go_simp; first | done | with_reducible rfl | fail "takeE")); (try simp only [Act.put, List.setIfInBounds_toArray, List.set_cons_zero, List.set_cons_succ]))
                refine oneE (i := 19) rfl (by kernel_rfl) (by kernel_rfl) (fun K hK => ?_)
                go_simp
                refine hK.out _ _ (HK.out _ (show Chg [a] wr _ by ((repeat (first | with_reducible assumption | with_reducible exact Chg.refl _ _ | refine Chg.alloc ?_ _ | refine Chg.drew ?_)); first | done | fail "chg"))) (fun hHeld => ?_)
                clear hK K
                (try simp only [Act.put, List.setIfInBounds_toArray, List.set_cons_zero, List.set_cons_succ])
                refine oneE (i := 20) rfl (by kernel_rfl) (by kernel_rfl) (fun K hK => ?_)
                have HT := GT.out _ (show Chg [a] wr _ from cu62)
                refine wp_app (.tmp 34) (.tmp 52) 69 (by rfl) _ _ (by rfl) (by rfl) _ (appE HT ⟨p, r, x, z⟩ (by omega)) ?_
                rintro v' w' ⟨hT, ⟨e0, e1, e2, e3⟩, ⟨pv, cv, rfl⟩, G, hG, hGl⟩
                have HT2 := Lib.hid hT
                have HG := Lib.hid hG
                have HGl := Lib.hid hGl
                clear hT hG hGl HT
                refine hK.out _ _ ⟨e0, e1⟩ (fun hHeld => ?_)
                clear hK K
                (try simp only [Act.put, List.setIfInBounds_toArray, List.set_cons_zero, List.set_cons_succ])
                (refine takeE (i := 21) (v := ?_) [] rfl (by kernel_rfl) (by kernel_rfl) (fun _ _ _ h => h) (Or.inl ⟨by kernel_rfl, ?_⟩) (by assumption) ?_; rotate_left; (focus (intro w hSw; (try dsimp only at hSw); go_simp; first | done | with_reducible rfl | fail "takeE")); (try simp only [Act.put, List.setIfInBounds_toArray, List.set_cons_zero, List.set_cons_succ]))
                refine lastE rfl (by kernel_rfl) (by kernel_rfl) (fun K hK => ?_)
                go_simp
                refine hK.out _ _ ?_
                clear hK K
                refine doneE (by kernel_rfl) ?_ _
                go_wp2_with fail
                go_roundw
                case rel =>
                  have HD := (show Dr _ a (N + 2002 + 4 * (1000 - k) + 4) by ((repeat (first | with_reducible assumption | refine Dr.alloc ?_ _ | refine Dr.drew ?_)); first | done | fail "drk"))
                  exact ⟨q - 1, k - 1, _, _, _, by go_num, by omega, by omega, HT2.out, rel2_more hoe hp0 hp1 hr0 hr1 hx hz0 hz1, by simp; omega, (HD.chg HG.out (fun x hx => by have := HGl.out x hx; omega)).mono (by omega), (HC.out.trans (show Chg [a] wr _ by ((repeat (first | with_reducible assumption | with_reducible exact Chg.refl _ _ | refine Chg.alloc ?_ _ | refine Chg.drew ?_)); first | done | fail "chg"))).past HG.out (fun x hx => .inr (by have := HGl.out x hx; omega))⟩
                case measure => simp [intOf]; omega
            · go_simp
              refine made (K := K) strB_spec 4 (by rfl) (by kernel_rfl) ?_
              intro u63 ku63 zu63 sA
              have cu63 : Chg [a] wr u63 := (show Chg [a] wr _ by ((repeat (first | with_reducible assumption | with_reducible exact Chg.refl _ _ | refine Chg.alloc ?_ _ | refine Chg.drew ?_)); first | done | fail "chg")).trans (ku63.mono (by simp))
              have du63 : Dr u63 a (N + 2002 + 4 * (1000 - k)) := (show Dr _ a (N + 2002 + 4 * (1000 - k)) by ((repeat (first | with_reducible assumption | refine Dr.alloc ?_ _ | refine Dr.drew ?_)); first | done | fail "drk")).chg ku63 (by simp)
              have nA : u53.heap.size ≠ a := by omega
              replace sB := sB.chg ku63 (by simp)
              have yu63 : a < u63.heap.size := by have := cu63.size; omega
              refine hK.out _ _ (HK.out _ (show Chg [a] wr _ by ((repeat (first | with_reducible assumption | with_reducible exact Chg.refl _ _ | refine Chg.alloc ?_ _ | refine Chg.drew ?_)); first | done | fail "chg"))) (fun hHeld => ?_)
              clear hK K
              (try simp only [Act.put, List.setIfInBounds_toArray, List.set_cons_zero, List.set_cons_succ])
              refine oneE (i := 6) rfl (by kernel_rfl) (by kernel_rfl) (fun K hK => ?_)
              go_simp
              go_at_call 87
              refine Calls.mono (pick_sm _ a (N + 2002 + 4 * (1000 - k)) _ (by ((repeat (first | with_reducible assumption | refine Dr.alloc ?_ _ | refine Dr.drew ?_)); first | done | fail "drk")) (by omega) (by omega)) ?_
              rintro en u64 ⟨p, rfl, hp0, hp1, du64, ku64⟩
              have cu64 : Chg [a] wr u64 := (show Chg [a] wr _ by ((repeat (first | with_reducible assumption | with_reducible exact Chg.refl _ _ | refine Chg.alloc ?_ _ | refine Chg.drew ?_)); first | done | fail "chg")).trans ku64
              replace sB := sB.chg ku64 (by simpa using nB)
              replace sA := sA.chg ku64 (by simpa using nA)
              have yu64 : a < u64.heap.size := by have := cu64.size; omega
              go_wp2_with fail
              refine hK.out _ _ (HK.out _ (show Chg [a] wr _ by ((repeat (first | with_reducible assumption | with_reducible exact Chg.refl _ _ | refine Chg.alloc ?_ _ | refine Chg.drew ?_)); first | done | fail "chg"))) (fun hHeld => ?_)
              clear hK K
              (try simp only [Act.put, List.setIfInBounds_toArray, List.set_cons_zero, List.set_cons_succ])
              refine oneE (i := 11) rfl (by kernel_rfl) (by kernel_rfl) (fun K hK => ?_)
              go_simp
              go_at_call 87
              refine Calls.mono (pick_sm _ a (N + 2002 + 4 * (1000 - k) + 1) _ (by ((repeat (first | with_reducible assumption | refine Dr.alloc ?_ _ | refine Dr.drew ?_)); first | done | fail "drk")) (by omega) (by omega)) ?_
              rintro en u65 ⟨r, rfl, hr0, hr1, du65, ku65⟩
              have cu65 : Chg [a] wr u65 := (show Chg [a] wr _ by ((repeat (first | with_reducible assumption | with_reducible exact Chg.refl _ _ | refine Chg.alloc ?_ _ | refine Chg.drew ?_)); first | done | fail "chg")).trans ku65
              replace sB := sB.chg ku65 (by simpa using nB)
              replace sA := sA.chg ku65 (by simpa using nA)
              have yu65 : a < u65.heap.size := by have := cu65.size; omega
              go_wp2_with fail
              refine hK.out _ _ (HK.out _ (show Chg [a] wr _ by ((repeat (first | with_reducible assumption | with_reducible exact Chg.refl _ _ | refine Chg.alloc ?_ _ | refine Chg.drew ?_)); first | done | fail "chg"))) (fun hHeld => ?_)
              clear hK K
              (try simp only [Act.put, List.setIfInBounds_toArray, List.set_cons_zero, List.set_cons_succ])
              refine oneE (i := 14) rfl (by kernel_rfl) (by kernel_rfl) (fun K hK => ?_)
              go_simp
              go_at_call 90
              refine Calls.mono (of_dr a (N + 2002 + 4 * (1000 - k) + 2) _ 4 _ _ (by ((repeat (first | with_reducible assumption | refine Dr.alloc ?_ _ | refine Dr.drew ?_)); first | done | fail "drk")) (by omega) sA (by decide) nA) ?_
              rintro en u66 ⟨x, rfl, hx, du66, ku66⟩
              have cu66 : Chg [a] wr u66 := (show Chg [a] wr _ by ((repeat (first | with_reducible assumption | with_reducible exact Chg.refl _ _ | refine Chg.alloc ?_ _ | refine Chg.drew ?_)); first | done | fail "chg")).trans ku66
              replace sB := sB.chg ku66 (by simpa using nB)
              have yu66 : a < u66.heap.size := by have := cu66.size; omega
              go_wp2_with fail
              refine hK.out _ _ (HK.out _ (show Chg [a] wr _ by ((repeat (first | with_reducible assumption | with_reducible exact Chg.refl _ _ | refine Chg.alloc ?_ _ | refine Chg.drew ?_)); first | done | fail "chg"))) (fun hHeld => ?_)
              clear hK K
              (try simp only [Act.put, List.setIfInBounds_toArray, List.set_cons_zero, List.set_cons_succ])
              refine oneE (i := 17) rfl (by kernel_rfl) (by kernel_rfl) (fun K hK => ?_)
              go_simp
              go_at_call 51
              refine Calls.mono (num_dr a (N + 2002 + 4 * (1000 - k) + 3) _ 4 _ _ (by ((repeat (first | with_reducible assumption | refine Dr.alloc ?_ _ | refine Dr.drew ?_)); first | done | fail "drk")) (by omega) sB (by decide) nB) ?_
              rintro en u67 ⟨z, rfl, hz0, hz1, du67, ku67⟩
              have cu67 : Chg [a] wr u67 := (show Chg [a] wr _ by ((repeat (first | with_reducible assumption | with_reducible exact Chg.refl _ _ | refine Chg.alloc ?_ _ | refine Chg.drew ?_)); first | done | fail "chg")).trans ku67
              have yu67 : a < u67.heap.size := by have := cu67.size; omega
              go_wp2_with fail
              refine hK.out _ _ (HK.out _ (show Chg [a] wr _ by ((repeat (first | with_reducible assumption | with_reducible exact Chg.refl _ _ | refine Chg.alloc ?_ _ | refine Chg.drew ?_)); first | done | fail "chg"))) (fun hHeld => ?_)
              clear hK K
              (try simp only [Act.put, List.setIfInBounds_toArray, List.set_cons_zero, List.set_cons_succ])
              (refine takeE (i := 18) (v := ?_) [] rfl (by kernel_rfl) (by kernel_rfl) (fun _ _ _ h => h) (Or.inl ⟨by kernel_rfl, ?_⟩) (by assumption) ?_; rotate_left; (focus (intro w hSw; (try dsimp only at hSw); go_simp; first | done | with_reducible rfl | fail "takeE")); (try simp only [Act.put, List.setIfInBounds_toArray, List.set_cons_zero, List.set_cons_succ]))
              refine oneE (i := 19) rfl (by kernel_rfl) (by kernel_rfl) (fun K hK => ?_)
              go_simp
              refine hK.out _ _ (HK.out _ (show Chg [a] wr _ by ((repeat (first | with_reducible assumption | with_reducible exact Chg.refl _ _ | refine Chg.alloc ?_ _ | refine Chg.drew ?_)); first | done | fail "chg"))) (fun hHeld => ?_)
              clear hK K
              (try simp only [Act.put, List.setIfInBounds_toArray, List.set_cons_zero, List.set_cons_succ])
              refine oneE (i := 20) rfl (by kernel_rfl) (by kernel_rfl) (fun K hK => ?_)
              have HT := GT.out _ (show Chg [a] wr _ from cu67)
              refine wp_app (.tmp 34) (.tmp 52) 69 (by rfl) _ _ (by rfl) (by rfl) _ (appE HT ⟨p, r, x, z⟩ (by omega)) ?_
              rintro v' w' ⟨hT, ⟨e0, e1, e2, e3⟩, ⟨pv, cv, rfl⟩, G, hG, hGl⟩
              have HT2 := Lib.hid hT
              have HG := Lib.hid hG
              have HGl := Lib.hid hGl
              clear hT hG hGl HT
              refine hK.out _ _ ⟨e0, e1⟩ (fun hHeld => ?_)
              clear hK K
              (try simp only [Act.put, List.setIfInBounds_toArray, List.set_cons_zero, List.set_cons_succ])
              (refine takeE (i := 21) (v := ?_) [] rfl (by kernel_rfl) (by kernel_rfl) (fun _ _ _ h => h) (Or.inl ⟨by kernel_rfl, ?_⟩) (by assumption) ?_; rotate_left; (focus (intro w hSw; (try dsimp only at hSw); go_simp; first | done | with_reducible rfl | fail "takeE")); (try simp only [Act.put, List.setIfInBounds_toArray, List.set_cons_zero, List.set_cons_succ]))
              refine lastE rfl (by kernel_rfl) (by kernel_rfl) (fun K hK => ?_)
              go_simp
              refine hK.out _ _ ?_
              clear hK K
              refine doneE (by kernel_rfl) ?_ _
              go_wp2_with fail
              go_roundw
              case rel =>
                have HD := (show Dr _ a (N + 2002 + 4 * (1000 - k) + 4) by ((repeat (first | with_reducible assumption | refine Dr.alloc ?_ _ | refine Dr.drew ?_)); first | done | fail "drk"))
                exact ⟨q - 1, k - 1, _, _, _, by go_num, by omega, by omega, HT2.out, rel2_more hoe hp0 hp1 hr0 hr1 hx hz0 hz1, by simp; omega, (HD.chg HG.out (fun x hx => by have := HGl.out x hx; omega)).mono (by omega), (HC.out.trans (show Chg [a] wr _ by ((repeat (first | with_reducible assumption | with_reducible exact Chg.refl _ _ | refine Chg.alloc ?_ _ | refine Chg.drew ?_)); first | done | fail "chg"))).past HG.out (fun x hx => .inr (by have := HGl.out x hx; omega))⟩
              case measure => simp [intOf]; omega
        · have q0 : decide (0 < q) = false := decide_eq_false hpos
          obtain ⟨⟨y0, y1⟩, y2, y3⟩ := HRES.out
          have z0 := HC.out.cellOf (by simp; omega) y0
          have z1 := HC.out.cellOf (by simp; omega) y1
          have z2 := HC.out.frozenOf (by simp; omega) (by omega) y2
          have z3 := HC.out.frozenOf (by simp; omega) (by omega) y3
          clear y0 y1 y2 y3
          have HE := Lib.hid (Two.has (g := ⟨ns, es⟩) HT.out)
          go_wp2_with fail
          refine bodyPost_ret (v := .agg #[.slice p1 ns.length c1, .slice p2 es.length c2]) (by simp [results, Try.results108, go_sem, z0, z1]) rfl ?_
          obtain ⟨F, hF, hFl⟩ := HE.out
          have hs : Chg [w.heap.size] wr ((wr.setCell ⟨w.heap.size, 0, none⟩ (.slice p1 ns.length c1)).setCell ⟨w.heap.size, 1, none⟩ (.slice p2 es.length c2)) := ((Chg.refl _ _).setCell (p := ⟨w.heap.size, 0, none⟩) (by simp) _).setCell (p := ⟨w.heap.size, 1, none⟩) (by simp) _
          have e1 := hF.chg hs (fun x hx => by have := (hFl x hx).1; simp; omega)
          have e2 : ∀ x ∈ F, w.heap.size ≤ x := fun x hx => by have := (hFl x hx).1; omega
          have e3 : (⟨ns, es⟩ : Gr).Ok := ⟨hok, hoe⟩
          have e4 : (⟨ns, es⟩ : Gr).ns.length ≤ 1000 ∧ (⟨ns, es⟩ : Gr).es.length ≤ 1000 := ⟨hln, by simp only; omega⟩
          have e5 := (hd.chg hs (by simp; omega)).mono (show _ ≤ N + 7000 by omega)
          have e6 : Chg [a] w _ := ((HW1.out.mono (by simp)).trans HC.out).past hs (by simp)
          first
            | exact ⟨⟨ns, es⟩, _, F, rfl, e1, e2, e3, e4, e5, e6⟩
            | exact ⟨⟨ns, es⟩, F, _, rfl, e1, e2, e3, e4, e5, e6⟩
            | exact ⟨⟨ns, es⟩, _, rfl, F, e1, e2, e3, e4, e5, e6⟩
            | fail "end"
end Go.Proofs.Ytfdkmngkpihpbaa
