/- The walk of FnExactChooseMatches. -/
import Derived.Test.YtggpnnoldjpmcaaM3q2p1
import Derived.Test.YtggpnnoldjpmcaaM3q0p1
namespace Go.Proofs.Ytggpnnoldjpmcaa
open Go.RowKit

theorem sumMt_filter (p : Mt → Bool) (xs : List Mt) : sumMt (xs.filter p) ≤ sumMt xs := by
  induction xs with
  | nil => simp
  | cons x xs ih =>
    rw [List.filter_cons]
    split
    · simp only [sumMt, List.map_cons, List.sum_cons] at ih ⊢; omega
    · simp only [sumMt, List.map_cons, List.sum_cons] at ih ⊢; omega
theorem chooseMatches_small (xs : List Mt) (n : Int) : (chooseR n xs).length + sumMt (chooseR n xs) ≤ xs.length + sumMt xs := by
  exact chooseR_small n xs

set_option maxRecDepth 100000 in
set_option maxHeartbeats 4000000 in
theorem lawExactChooseMatches (xs : List Mt) (n : Int) (v : Value) (w : World) (hv : kMt.Rd w.heap.size w v xs) (hok : ∀ x ∈ xs, x.Ok) :
    Calls Try.prog 6 #[v, .int .i64 n] w fun en w' => en = .returned (.bool true) ∧ Below w.heap.size w w' := by
  have HV := Lib.hid (fun (E : World) (hE : Below w.heap.size w E) => hv.to hE (Nat.le_refl _))
  have HOK := Lib.hid hok
  have HSM := Lib.hid (chooseMatches_small xs n)
  obtain ⟨R, eR⟩ : ∃ R, R = chooseR n xs := ⟨_, rfl⟩
  obtain ⟨b, eb⟩ : ∃ b, b = okC n xs := ⟨_, rfl⟩
  rw [← eR] at HSM
  clear hok
  go_enter Try.func6, Try.ntmps6
  go_wp2_with fail
  refine (szMatchS_any xs v 1048576 w.heap.size w hv (Nat.le_refl _) (by omega) (by omega) HOK.out).mono ?_
  rintro en w0 ⟨r, rfl, hr, r0⟩
  clear hv
  rcases hr with hr | ⟨hr0, hr⟩
  · have hneg : r < 0 := by omega
    clear hr
    go_wp2_with fail
    go_ret
    exact ⟨rfl, r0⟩
  have hn : xs.length + sumMt xs ≤ 1048576 := by omega
  have hnR : 1 + 4 * (sumMt R : Int) ≤ 80000000 := by have := HSM.out; omega
  have hnX : 1 + 4 * (sumMt xs : Int) ≤ 80000000 := by omega
  have CS := Lib.hid (fun (u : Value) (E : World) (h : kMt.Rd E.heap.size E u xs) => (by rw [eR, eb]; exact specChooseMatches_any xs u n E.heap.size E h (Nat.le_refl _) hn : Calls Try.prog 27 #[u, .int .i64 n] E (MbPost R b E)))
  have CI := Lib.hid (fun (u : Value) (E : World) (h : kMt.Rd E.heap.size E u xs) => (by rw [eR, eb]; exact chooseMatches_any xs u n E.heap.size E h (Nat.le_refl _) hn HOK.out : Calls Try.prog 29 #[u, .int .i64 n] E (MbPost R b E)))
  have CT := Lib.hid (fun (E : World) (hE : Below w.heap.size w E) => toMatchS_any xs v w.heap.size E (HV.out E hE) hE.size hn)
  have hrr : ¬ r < 0 := by omega
  clear hr eR eb
  cases b
  all_goals
    go_wp2_with fail
    refine (CT.out _ r0).mono ?_
    rintro en w1 ⟨v1, F1, rfl, o1, g1, b1⟩
    have r1 := r0.trans (b1.mono r0.size)
    have HR1 := Lib.hid o1.rd
    clear o1 g1 b1
    go_wp2_with fail
    refine (CS.out _ _ HR1.out).mono ?_
    rintro en w2 ⟨vs, FS, rfl, os, gs, b2⟩
    have r2 := r1.trans (b2.mono r1.size)
    have HS2 := Lib.hid os
    have LS := Lib.hid os.lt
    clear os gs b2
    go_wp2_with fail
    refine (CT.out _ r2).mono ?_
    rintro en w3 ⟨vx, FX, rfl, ox, gx, b3⟩
    have r3 := r2.trans (b3.mono r2.size)
    have s23 : w2.heap.size ≤ w3.heap.size := b3.size
    have HS3 := Lib.hid (HS2.out.below b3)
    have HX3 := Lib.hid ox
    have GX := Lib.hid gx
    have LX := Lib.hid ox.lt
    clear ox gx b3
    go_wp2_with fail
    refine (CI.out _ _ HX3.out.rd).mono ?_
    rintro en w4 ⟨vg, FG, rfl, og, gg, b4⟩
    have r4 := r3.trans (b4.mono r3.size)
    have HS4 := Lib.hid (HS3.out.below b4)
    have HX4 := Lib.hid (HX3.out.below b4)
    have HG4 := Lib.hid og
    have GG := Lib.hid gg
    have LG := Lib.hid og.lt
    clear og gg b4
    go_wp2_with fail
    refine (eqMatchS_any R vg vs _ _ HG4.out.rd HS4.out.rd (Nat.le_refl _)).mono ?_
    rintro en w5 ⟨rfl, b5⟩
    have r5 := r4.trans (b5.mono r4.size)
    have HS5 := Lib.hid (HS4.out.below b5)
    have HX5 := Lib.hid (HX4.out.below b5)
    have HG5 := Lib.hid (HG4.out.below b5)
    clear b5
    go_wp2_with fail
    refine (CT.out _ r5).mono ?_
    rintro en w6 ⟨v6, F6, rfl, o6, g6, b6⟩
    have r6 := r5.trans (b6.mono r5.size)
    have HS6 := Lib.hid (HS5.out.below b6)
    have HX6 := Lib.hid (HX5.out.below b6)
    have HG6 := Lib.hid (HG5.out.below b6)
    have HR6 := Lib.hid o6.rd
    clear o6 g6 b6
    go_wp2_with fail
    refine (eqMatchS_any xs vx v6 _ _ HX6.out.rd HR6.out (Nat.le_refl _)).mono ?_
    rintro en w7 ⟨rfl, b7⟩
    have r7 := r6.trans (b7.mono r6.size)
    have HS7 := Lib.hid (HS6.out.below b7)
    have HX7 := Lib.hid (HX6.out.below b7)
    have HG7 := Lib.hid (HG6.out.below b7)
    have z2 := r2.size
    have z23 : ∀ y ∈ FX, w.heap.size ≤ y := fun y hy => by have := GX.out y hy; omega
    have Z23 := Lib.hid z23
    clear b7 z23
    go_wp2_with fail
    refine (markMatchS_any xs vx FX 1 w7 HX7.out (by omega) hnX).mono ?_
    rintro en w8 ⟨rfl, _, c8⟩
    have r8 := r7.trans (c8.below r7.size Z23.out)
    have HS8 := Lib.hid (HS7.out.chg c8 (fun y hy hy2 => by have := LS.out y hy; have := GX.out y hy2; omega))
    have HG8 := Lib.hid (HG7.out.chg c8 (fun y hy hy2 => by have := GG.out y hy; have := LX.out y hy2; omega))
    have hk0 : ¬ (1 + (mtSum xs : Int) < 0) := by omega
    clear c8
    go_wp2_with fail
    refine (eqMatchS_any R vg vs _ _ HG8.out.rd HS8.out.rd (Nat.le_refl _)).mono ?_
    rintro en w9 ⟨rfl, b9⟩
    have r9 := r8.trans (b9.mono r8.size)
    have HS9 := Lib.hid (HS8.out.below b9)
    have HG9 := Lib.hid (HG8.out.below b9)
    have z3 := r3.size
    have Z34 := Lib.hid (show ∀ y ∈ FG, w.heap.size ≤ y from fun y hy => by have := GG.out y hy; omega)
    clear b9
    go_wp2_with fail
    refine (markMatchS_any R vg FG 1 w9 HG9.out (by omega) hnR).mono ?_
    rintro en w10 ⟨rfl, om, c10⟩
    have r10 := r9.trans (c10.below r9.size Z34.out)
    have HS10 := Lib.hid (HS9.out.chg c10 (fun y hy hy2 => by have := LS.out y hy; have := GG.out y hy2; omega))
    have HM10 := Lib.hid om
    have hm0 : ¬ (1 + (mtSum R : Int) < 0) := by omega
    clear om c10
    go_wp2_with fail
    refine (heldMatchS_any R vg 1 _ _ HM10.out.rd (Nat.le_refl _) (by omega) hnR).mono ?_
    rintro en w11 ⟨rfl, b11⟩
    have r11 := r10.trans (b11.mono r10.size)
    have HS11 := Lib.hid (HS10.out.below b11)
    have HM11 := Lib.hid (HM10.out.below b11)
    clear b11
    go_wp2_with fail
    refine (CT.out _ r11).mono ?_
    rintro en w12 ⟨v12, F12, rfl, o12, g12, b12⟩
    have r12 := r11.trans (b12.mono r11.size)
    have HS12 := Lib.hid (HS11.out.below b12)
    have HM12 := Lib.hid (HM11.out.below b12)
    have HR12 := Lib.hid o12.rd
    clear o12 g12 b12
    go_wp2_with fail
    refine (CI.out _ _ HR12.out).mono ?_
    rintro en w13 ⟨vh, FH, rfl, oh, gh, b13⟩
    have r13 := r12.trans (b13.mono r12.size)
    have HS13 := Lib.hid (HS12.out.below b13)
    have HM13 := Lib.hid (HM12.out.below b13)
    have HH13 := Lib.hid oh
    clear oh gh b13
    go_wp2_with fail
    refine (eqMatchS_any R vh vs _ _ HH13.out.rd HS13.out.rd (Nat.le_refl _)).mono ?_
    rintro en w14 ⟨rfl, b14⟩
    have r14 := r13.trans (b14.mono r13.size)
    have HM14 := Lib.hid (HM13.out.below b14)
    clear b14
    go_wp2_with fail
    refine (heldMatchS_any R vg 1 _ _ HM14.out.rd (Nat.le_refl _) (by omega) hnR).mono ?_
    rintro en w15 ⟨rfl, b15⟩
    have r15 := r14.trans (b15.mono r14.size)
    clear b15
    go_wp2_with fail
    go_ret
    exact ⟨rfl, r15⟩
end Go.Proofs.Ytggpnnoldjpmcaa
