/- The walk of FnExprMorgan. -/
import Derived.Test.YtckkebjpkcfmnaaDoorL2K
import Derived.Test.YtckkebjpkcfmnaaDoorXLaw
import Derived.Test.YtckkebjpkcfmnaaDoorReg
namespace Go.Proofs.YtckkebjpkcfmnaaDoor
open Go.RowKit

set_option maxRecDepth 100000 in
set_option maxHeartbeats 16000000 in
theorem lawExprMorgan (zs : List Int) (zs2 : List Int) (v v2 : Value) (w : World) (hv : Sl 1 byCells w.heap.size w v zs) (hv2 : Sl 1 byCells w.heap.size w v2 zs2) (hz : ∀ z ∈ zs, 0 ≤ z ∧ z ≤ 255) (hz2 : ∀ z ∈ zs2, 0 ≤ z ∧ z ≤ 255) (hvars : Vars w) :
    Calls Tryd.prog 9 #[v, v2] w fun e w' => e = .returned (.bool true) ∧ Below w.heap.size w w' := by
  have HVV := Lib.hid hvars
  clear hvars
  obtain ⟨p, cap, rfl⟩ := hv.form
  have hm := hv.max
  unfold maxLen at hm
  obtain ⟨p2, cap2, rfl⟩ := hv2.form
  have hm2 := hv2.max
  unfold maxLen at hm2
  have HV2 := Lib.hid hv2
  clear hv2
  by_cases hbig : (1048576 : Int) < zs.length
  · go_enter Tryd.func9, Tryd.ntmps9
    go_wp2_with fail
    go_ret
    exact ⟨rfl, Below.refl _ _⟩
  by_cases hbig2 : (1048576 : Int) < zs2.length
  · go_enter Tryd.func9, Tryd.ntmps9
    go_wp2_with fail
    go_ret
    exact ⟨rfl, Below.refl _ _⟩
  go_enter Tryd.func9, Tryd.ntmps9
  go_wp2_with fail
  have rw0 := Below.refl w.heap.size w
  refine Calls.mono (drawNumHolds_any zs _ w.heap.size _ hv (show Below w.heap.size w _ by ((repeat (first | with_reducible assumption | with_reducible exact Below.refl _ _ | refine Below.setCell ?_ (by (first | omega | (simp; omega) | (simp; done) | fail "sml")) _ | refine Below.drew ?_ | refine Below.alloc ?_ (by (first | omega | (simp; omega) | (simp; done) | fail "sml")) _)); first | done | fail "chs")).size hz) ?_
  rintro en u1 ⟨x0, p0', c0', F0, _, rfl, ⟨n, rfl, hn, hn'⟩, hx, hb⟩
  have rwu1 := Below.trans (show Below w.heap.size w _ by ((repeat (first | with_reducible assumption | with_reducible exact Below.refl _ _ | refine Below.setCell ?_ (by (first | omega | (simp; omega) | (simp; done) | fail "sml")) _ | refine Below.drew ?_ | refine Below.alloc ?_ (by (first | omega | (simp; omega) | (simp; done) | fail "sml")) _)); first | done | fail "chs")) (hb.mono (by (first | omega | (simp; omega) | (simp; done) | fail "sml")))
  have zwu1 := rwu1.size
  have hsm0 : x0.Sml := hx.sm
  have hat0 := hx.at
  have hdn0 := hx.2.2
  clear hx
  clear hb 
  go_upto_region 4 with fail
  obtain ⟨W, eW⟩ : ∃ E, E = u1.alloc (.cells #[.int .i64 x0.op, .string x0.a, .slice p0' x0.ks.list.length c0'] 25) := ⟨_, rfl⟩
  have sW : u1.heap.size < W.heap.size := by rw [eW]; simp
  have kW : Below u1.heap.size u1 W := by rw [eW]; ((repeat (first | with_reducible assumption | with_reducible exact Below.refl _ _ | refine Below.setCell ?_ (by (first | omega | (simp; omega) | (simp; done) | fail "sml")) _ | refine Below.drew ?_ | refine Below.alloc ?_ (by (first | omega | (simp; omega) | (simp; done) | fail "sml")) _)); first | done | fail "chs")
  have HCW := Lib.hid (show W.cell? ⟨u1.heap.size, 0, none⟩ = some (.int .i64 x0.op) ∧ W.cell? ⟨u1.heap.size, 1, none⟩ = some (.string x0.a) ∧ W.cell? ⟨u1.heap.size, 2, none⟩ = some (.slice p0' x0.ks.list.length c0') from by rw [eW]; exact ⟨by simp [go_sem], by simp [go_sem], by simp [go_sem]⟩)
  have HAW := Lib.hid (show x0.At W.heap.size W (.agg #[.int .i64 x0.op, .string x0.a, .slice p0' x0.ks.list.length c0']) from by rw [eW]; exact hat0.below ((Below.refl _ _).alloc (Nat.le_refl _) _) (by simp))
  rw [← eW]
  have rwW := Below.trans (show Below w.heap.size w _ by ((repeat (first | with_reducible assumption | with_reducible exact Below.refl _ _ | refine Below.setCell ?_ (by (first | omega | (simp; omega) | (simp; done) | fail "sml")) _ | refine Below.drew ?_ | refine Below.alloc ?_ (by (first | omega | (simp; omega) | (simp; done) | fail "sml")) _)); first | done | fail "chs")) (kW.mono (by (first | omega | (simp; omega) | (simp; done) | fail "sml")))
  have HKW := Lib.hid (fun (E : World) (hE : Below W.heap.size W E) => (⟨keepc hE sW HCW.out.1, keepc hE sW HCW.out.2.1, keepc hE sW HCW.out.2.2⟩ : E.cell? ⟨u1.heap.size, 0, none⟩ = some (.int .i64 x0.op) ∧ E.cell? ⟨u1.heap.size, 1, none⟩ = some (.string x0.a) ∧ E.cell? ⟨u1.heap.size, 2, none⟩ = some (.slice p0' x0.ks.list.length c0')))
  have rW0 := Below.refl W.heap.size W
  obtain ⟨yW0, yW1, yW2⟩ := HKW.out _ rW0
  clear eW kW
  go_wp2_with fail
  refine Calls.mono (drawNumHolds_any zs2 _ w.heap.size _ (HV2.out.below (show Below w.heap.size w _ by ((repeat (first | with_reducible assumption | with_reducible exact Below.refl _ _ | refine Below.setCell ?_ (by (first | omega | (simp; omega) | (simp; done) | fail "sml")) _ | refine Below.drew ?_ | refine Below.alloc ?_ (by (first | omega | (simp; omega) | (simp; done) | fail "sml")) _)); first | done | fail "chs"))) (show Below w.heap.size w _ by ((repeat (first | with_reducible assumption | with_reducible exact Below.refl _ _ | refine Below.setCell ?_ (by (first | omega | (simp; omega) | (simp; done) | fail "sml")) _ | refine Below.drew ?_ | refine Below.alloc ?_ (by (first | omega | (simp; omega) | (simp; done) | fail "sml")) _)); first | done | fail "chs")).size hz2) ?_
  rintro en u2 ⟨x1, p1', c1', F1, _, rfl, ⟨n', rfl, hn2, hn2'⟩, hx, hb⟩
  have rwu2 := Below.trans (show Below w.heap.size w _ by ((repeat (first | with_reducible assumption | with_reducible exact Below.refl _ _ | refine Below.setCell ?_ (by (first | omega | (simp; omega) | (simp; done) | fail "sml")) _ | refine Below.drew ?_ | refine Below.alloc ?_ (by (first | omega | (simp; omega) | (simp; done) | fail "sml")) _)); first | done | fail "chs")) (hb.mono (by (first | omega | (simp; omega) | (simp; done) | fail "sml")))
  have zwu2 := rwu2.size
  have rWu2 := Below.trans (show Below W.heap.size W _ by ((repeat (first | with_reducible assumption | with_reducible exact Below.refl _ _ | refine Below.setCell ?_ (by (first | omega | (simp; omega) | (simp; done) | fail "sml")) _ | refine Below.drew ?_ | refine Below.alloc ?_ (by (first | omega | (simp; omega) | (simp; done) | fail "sml")) _)); first | done | fail "chs")) (hb.mono (by (first | omega | (simp; omega) | (simp; done) | fail "sml")))
  have zWu2 := rWu2.size
  have hsm1 : x1.Sml := hx.sm
  have hat1 := hx.at
  have hdn1 := hx.2.2
  clear hx
  clear hb yW0 yW1 yW2
  obtain ⟨yW0, yW1, yW2⟩ := HKW.out _ rWu2
  go_upto_region 5 with fail
  obtain ⟨D, eD⟩ : ∃ E, E = u2.alloc (.cells #[.int .i64 x1.op, .string x1.a, .slice p1' x1.ks.list.length c1'] 25) := ⟨_, rfl⟩
  have sD : u2.heap.size < D.heap.size := by rw [eD]; simp
  have kD : Below u2.heap.size u2 D := by rw [eD]; ((repeat (first | with_reducible assumption | with_reducible exact Below.refl _ _ | refine Below.setCell ?_ (by (first | omega | (simp; omega) | (simp; done) | fail "sml")) _ | refine Below.drew ?_ | refine Below.alloc ?_ (by (first | omega | (simp; omega) | (simp; done) | fail "sml")) _)); first | done | fail "chs")
  have HCD := Lib.hid (show D.cell? ⟨u2.heap.size, 0, none⟩ = some (.int .i64 x1.op) ∧ D.cell? ⟨u2.heap.size, 1, none⟩ = some (.string x1.a) ∧ D.cell? ⟨u2.heap.size, 2, none⟩ = some (.slice p1' x1.ks.list.length c1') from by rw [eD]; exact ⟨by simp [go_sem], by simp [go_sem], by simp [go_sem]⟩)
  have HAD := Lib.hid (show x1.At D.heap.size D (.agg #[.int .i64 x1.op, .string x1.a, .slice p1' x1.ks.list.length c1']) from by rw [eD]; exact hat1.below ((Below.refl _ _).alloc (Nat.le_refl _) _) (by simp))
  rw [← eD]
  have rwD := Below.trans (show Below w.heap.size w _ by ((repeat (first | with_reducible assumption | with_reducible exact Below.refl _ _ | refine Below.setCell ?_ (by (first | omega | (simp; omega) | (simp; done) | fail "sml")) _ | refine Below.drew ?_ | refine Below.alloc ?_ (by (first | omega | (simp; omega) | (simp; done) | fail "sml")) _)); first | done | fail "chs")) (kD.mono (by (first | omega | (simp; omega) | (simp; done) | fail "sml")))
  have rWD := Below.trans (show Below W.heap.size W _ by ((repeat (first | with_reducible assumption | with_reducible exact Below.refl _ _ | refine Below.setCell ?_ (by (first | omega | (simp; omega) | (simp; done) | fail "sml")) _ | refine Below.drew ?_ | refine Below.alloc ?_ (by (first | omega | (simp; omega) | (simp; done) | fail "sml")) _)); first | done | fail "chs")) (kD.mono (by (first | omega | (simp; omega) | (simp; done) | fail "sml")))
  have HKD := Lib.hid (fun (E : World) (hE : Below D.heap.size D E) => (⟨keepc hE sD HCD.out.1, keepc hE sD HCD.out.2.1, keepc hE sD HCD.out.2.2⟩ : E.cell? ⟨u2.heap.size, 0, none⟩ = some (.int .i64 x1.op) ∧ E.cell? ⟨u2.heap.size, 1, none⟩ = some (.string x1.a) ∧ E.cell? ⟨u2.heap.size, 2, none⟩ = some (.slice p1' x1.ks.list.length c1')))
  have rD0 := Below.refl D.heap.size D
  obtain ⟨yD0, yD1, yD2⟩ := HKD.out _ rD0
  clear eD kD
  clear yW0 yW1 yW2
  obtain ⟨yW0, yW1, yW2⟩ := HKW.out _ rWD
  go_wp2_with fail
  obtain ⟨b, EB⟩ : ∃ b, nholds x0 n = b := ⟨_, rfl⟩
  refine Calls.mono (EB ▸ numHolds_any x0 _ n W.heap.size _ (HAW.out.below (show Below W.heap.size W _ by ((repeat (first | with_reducible assumption | with_reducible exact Below.refl _ _ | refine Below.setCell ?_ (by (first | omega | (simp; omega) | (simp; done) | fail "sml")) _ | refine Below.drew ?_ | refine Below.alloc ?_ (by (first | omega | (simp; omega) | (simp; done) | fail "sml")) _)); first | done | fail "chs")) (Nat.le_refl _)) (show Below W.heap.size W _ by ((repeat (first | with_reducible assumption | with_reducible exact Below.refl _ _ | refine Below.setCell ?_ (by (first | omega | (simp; omega) | (simp; done) | fail "sml")) _ | refine Below.drew ?_ | refine Below.alloc ?_ (by (first | omega | (simp; omega) | (simp; done) | fail "sml")) _)); first | done | fail "chs")).size hsm0.1 hsm0.2 (HVV.out.below (show Below w.heap.size w _ by ((repeat (first | with_reducible assumption | with_reducible exact Below.refl _ _ | refine Below.setCell ?_ (by (first | omega | (simp; omega) | (simp; done) | fail "sml")) _ | refine Below.drew ?_ | refine Below.alloc ?_ (by (first | omega | (simp; omega) | (simp; done) | fail "sml")) _)); first | done | fail "chs")))) ?_
  rintro en u3 ⟨rfl, hb⟩
  have rwu3 := Below.trans (show Below w.heap.size w _ by ((repeat (first | with_reducible assumption | with_reducible exact Below.refl _ _ | refine Below.setCell ?_ (by (first | omega | (simp; omega) | (simp; done) | fail "sml")) _ | refine Below.drew ?_ | refine Below.alloc ?_ (by (first | omega | (simp; omega) | (simp; done) | fail "sml")) _)); first | done | fail "chs")) (hb.mono (by (first | omega | (simp; omega) | (simp; done) | fail "sml")))
  have zwu3 := rwu3.size
  have rWu3 := Below.trans (show Below W.heap.size W _ by ((repeat (first | with_reducible assumption | with_reducible exact Below.refl _ _ | refine Below.setCell ?_ (by (first | omega | (simp; omega) | (simp; done) | fail "sml")) _ | refine Below.drew ?_ | refine Below.alloc ?_ (by (first | omega | (simp; omega) | (simp; done) | fail "sml")) _)); first | done | fail "chs")) (hb.mono (by (first | omega | (simp; omega) | (simp; done) | fail "sml")))
  have zWu3 := rWu3.size
  have rDu3 := Below.trans (show Below D.heap.size D _ by ((repeat (first | with_reducible assumption | with_reducible exact Below.refl _ _ | refine Below.setCell ?_ (by (first | omega | (simp; omega) | (simp; done) | fail "sml")) _ | refine Below.drew ?_ | refine Below.alloc ?_ (by (first | omega | (simp; omega) | (simp; done) | fail "sml")) _)); first | done | fail "chs")) (hb.mono (by (first | omega | (simp; omega) | (simp; done) | fail "sml")))
  have zDu3 := rDu3.size
  clear hb yW0 yW1 yW2 yD0 yD1 yD2
  obtain ⟨yW0, yW1, yW2⟩ := HKW.out _ rWu3
  obtain ⟨yD0, yD1, yD2⟩ := HKD.out _ rDu3
  obtain ⟨ks0, eks, hks⟩ := HAW.out
  cases eks
  obtain ⟨ks1, eks1, hks1⟩ := HAD.out
  cases eks1
  go_upto_region 7 with fail
  obtain ⟨A, eA⟩ : ∃ E, E = ((u3.alloc (.cells #[.int .i64 x0.op, .string x0.a, .slice p0' x0.ks.list.length c0', .int .i64 x1.op, .string x1.a, .slice p1' x1.ks.list.length c1'] 25)).alloc (.cells #[.int .i64 4, .string ⟨#[]⟩, .slice (some ⟨u3.heap.size, 0, none⟩) 2 2] 25)).alloc (.cells #[.int .i64 3, .string ⟨#[]⟩, .slice (some ⟨u3.heap.size + 1, 0, none⟩) 1 1] 25) := ⟨_, rfl⟩
  have sA : u3.heap.size + 1 + 1 < A.heap.size := by rw [eA]; simp
  have kA : Below u3.heap.size u3 A := by rw [eA]; ((repeat (first | with_reducible assumption | with_reducible exact Below.refl _ _ | refine Below.setCell ?_ (by (first | omega | (simp; omega) | (simp; done) | fail "sml")) _ | refine Below.drew ?_ | refine Below.alloc ?_ (by (first | omega | (simp; omega) | (simp; done) | fail "sml")) _)); first | done | fail "chs")
  have HCA := Lib.hid (show A.cell? ⟨u3.heap.size + 1 + 1, 0, none⟩ = some (.int .i64 3) ∧ A.cell? ⟨u3.heap.size + 1 + 1, 1, none⟩ = some (.string ⟨#[]⟩) ∧ A.cell? ⟨u3.heap.size + 1 + 1, 2, none⟩ = some (.slice (some ⟨u3.heap.size + 1, 0, none⟩) 1 1) from by rw [eA]; exact ⟨by simp [go_sem], by simp [go_sem], by simp [go_sem]⟩)
  have HAA := Lib.hid (show (notE (twoE 4 x0 x1)).At A.heap.size A (.agg #[.int .i64 3, .string ⟨#[]⟩, .slice (some ⟨u3.heap.size + 1, 0, none⟩) 1 1]) from by rw [eA]; exact (show (notE (twoE 4 x0 x1)).At (u3.heap.size + 2) ((u3.alloc (.cells #[.int .i64 x0.op, .string x0.a, .slice p0' x0.ks.list.length c0', .int .i64 x1.op, .string x1.a, .slice p1' x1.ks.list.length c1'] 25)).alloc (.cells #[.int .i64 4, .string ⟨#[]⟩, .slice (some ⟨u3.heap.size, 0, none⟩) 2 2] 25)) (.agg #[.int .i64 3, .string ⟨#[]⟩, .slice (some ⟨u3.heap.size + 1, 0, none⟩) 1 1]) from by have h := notE_at (T := 25) (Ex.At.row (twoE_at (o := 4) (T := 25) ((hks.below rWu3 (Nat.le_refl _)).below (Below.refl _ _) (show W.heap.size ≤ u3.heap.size from rWu3.size)) ((hks1.below rDu3 (Nat.le_refl _)).below (Below.refl _ _) (show D.heap.size ≤ u3.heap.size from rDu3.size)) (Nat.le_refl _))) (show u3.heap.size + 1 ≤ (u3.alloc (.cells #[.int .i64 x0.op, .string x0.a, .slice p0' x0.ks.list.length c0', .int .i64 x1.op, .string x1.a, .slice p1' x1.ks.list.length c1'] 25)).heap.size by simp); simp only [World.size_alloc] at h; exact h).below ((Below.refl _ _).alloc (by simp) _) (by simp))
  rw [← eA]
  have rwA := Below.trans (show Below w.heap.size w _ by ((repeat (first | with_reducible assumption | with_reducible exact Below.refl _ _ | refine Below.setCell ?_ (by (first | omega | (simp; omega) | (simp; done) | fail "sml")) _ | refine Below.drew ?_ | refine Below.alloc ?_ (by (first | omega | (simp; omega) | (simp; done) | fail "sml")) _)); first | done | fail "chs")) (kA.mono (by (first | omega | (simp; omega) | (simp; done) | fail "sml")))
  have rWA := Below.trans (show Below W.heap.size W _ by ((repeat (first | with_reducible assumption | with_reducible exact Below.refl _ _ | refine Below.setCell ?_ (by (first | omega | (simp; omega) | (simp; done) | fail "sml")) _ | refine Below.drew ?_ | refine Below.alloc ?_ (by (first | omega | (simp; omega) | (simp; done) | fail "sml")) _)); first | done | fail "chs")) (kA.mono (by (first | omega | (simp; omega) | (simp; done) | fail "sml")))
  have rDA := Below.trans (show Below D.heap.size D _ by ((repeat (first | with_reducible assumption | with_reducible exact Below.refl _ _ | refine Below.setCell ?_ (by (first | omega | (simp; omega) | (simp; done) | fail "sml")) _ | refine Below.drew ?_ | refine Below.alloc ?_ (by (first | omega | (simp; omega) | (simp; done) | fail "sml")) _)); first | done | fail "chs")) (kA.mono (by (first | omega | (simp; omega) | (simp; done) | fail "sml")))
  have HKA := Lib.hid (fun (E : World) (hE : Below A.heap.size A E) => (⟨keepc hE sA HCA.out.1, keepc hE sA HCA.out.2.1, keepc hE sA HCA.out.2.2⟩ : E.cell? ⟨u3.heap.size + 1 + 1, 0, none⟩ = some (.int .i64 3) ∧ E.cell? ⟨u3.heap.size + 1 + 1, 1, none⟩ = some (.string ⟨#[]⟩) ∧ E.cell? ⟨u3.heap.size + 1 + 1, 2, none⟩ = some (.slice (some ⟨u3.heap.size + 1, 0, none⟩) 1 1)))
  have rA0 := Below.refl A.heap.size A
  obtain ⟨yA0, yA1, yA2⟩ := HKA.out _ rA0
  clear eA kA
  clear yW0 yW1 yW2
  obtain ⟨yW0, yW1, yW2⟩ := HKW.out _ rWA
  clear yD0 yD1 yD2
  obtain ⟨yD0, yD1, yD2⟩ := HKD.out _ rDA
  have lt0 : u1.heap.size < A.heap.size := by omega
  have lt1 : u2.heap.size < A.heap.size := by omega
  go_upto_region 8 with fail
  obtain ⟨O, eO⟩ : ∃ E, E = (((A.alloc (.cells #[.int .i64 x0.op, .string x0.a, .slice p0' x0.ks.list.length c0'] 25)).alloc (.cells #[.int .i64 x1.op, .string x1.a, .slice p1' x1.ks.list.length c1'] 25)).alloc (.cells #[.int .i64 3, .string ⟨#[]⟩, .slice (some ⟨A.heap.size, 0, none⟩) 1 1, .int .i64 3, .string ⟨#[]⟩, .slice (some ⟨A.heap.size + 1, 0, none⟩) 1 1] 25)).alloc (.cells #[.int .i64 5, .string ⟨#[]⟩, .slice (some ⟨A.heap.size + 1 + 1, 0, none⟩) 2 2] 25) := ⟨_, rfl⟩
  have sO : A.heap.size + 1 + 1 + 1 < O.heap.size := by rw [eO]; simp
  have kO : Below A.heap.size A O := by rw [eO]; ((repeat (first | with_reducible assumption | with_reducible exact Below.refl _ _ | refine Below.setCell ?_ (by (first | omega | (simp; omega) | (simp; done) | fail "sml")) _ | refine Below.drew ?_ | refine Below.alloc ?_ (by (first | omega | (simp; omega) | (simp; done) | fail "sml")) _)); first | done | fail "chs")
  have HCO := Lib.hid (show O.cell? ⟨A.heap.size + 1 + 1 + 1, 0, none⟩ = some (.int .i64 5) ∧ O.cell? ⟨A.heap.size + 1 + 1 + 1, 1, none⟩ = some (.string ⟨#[]⟩) ∧ O.cell? ⟨A.heap.size + 1 + 1 + 1, 2, none⟩ = some (.slice (some ⟨A.heap.size + 1 + 1, 0, none⟩) 2 2) from by rw [eO]; exact ⟨by simp [go_sem], by simp [go_sem], by simp [go_sem]⟩)
  have HAO := Lib.hid (show (twoE 5 (notE x0) (notE x1)).At O.heap.size O (.agg #[.int .i64 5, .string ⟨#[]⟩, .slice (some ⟨A.heap.size + 1 + 1, 0, none⟩) 2 2]) from by rw [eO]; exact (show (twoE 5 (notE x0) (notE x1)).At (A.heap.size + 3) (((A.alloc (.cells #[.int .i64 x0.op, .string x0.a, .slice p0' x0.ks.list.length c0'] 25)).alloc (.cells #[.int .i64 x1.op, .string x1.a, .slice p1' x1.ks.list.length c1'] 25)).alloc (.cells #[.int .i64 3, .string ⟨#[]⟩, .slice (some ⟨A.heap.size, 0, none⟩) 1 1, .int .i64 3, .string ⟨#[]⟩, .slice (some ⟨A.heap.size + 1, 0, none⟩) 1 1] 25)) (.agg #[.int .i64 5, .string ⟨#[]⟩, .slice (some ⟨A.heap.size + 1 + 1, 0, none⟩) 2 2]) from by have h := twoE_at (o := 5) (T := 25) (show (notE x0).ks.In (A.heap.size + 2) ((A.alloc (.cells #[.int .i64 x0.op, .string x0.a, .slice p0' x0.ks.list.length c0'] 25)).alloc (.cells #[.int .i64 x1.op, .string x1.a, .slice p1' x1.ks.list.length c1'] 25)) (.slice (some ⟨A.heap.size, 0, none⟩) 1 1) from ((notE_at (T := 25) ((hks.below rWA (Nat.le_refl _)).below (Below.refl _ _) (show W.heap.size ≤ A.heap.size from rWA.size)) (Nat.le_refl _)).below ((Below.refl _ _).alloc (by simp) _) (by omega)).row) (show (notE x1).ks.In (A.heap.size + 2) ((A.alloc (.cells #[.int .i64 x0.op, .string x0.a, .slice p0' x0.ks.list.length c0'] 25)).alloc (.cells #[.int .i64 x1.op, .string x1.a, .slice p1' x1.ks.list.length c1'] 25)) (.slice (some ⟨A.heap.size + 1, 0, none⟩) 1 1) from by have h := (notE_at (w := (A.alloc (.cells #[.int .i64 x0.op, .string x0.a, .slice p0' x0.ks.list.length c0'] 25))) (T := 25) ((((hks1.below rDA (Nat.le_refl _)).below (Below.refl _ _) (show D.heap.size ≤ A.heap.size from rDA.size))).below ((Below.refl _ _).alloc (Nat.le_refl _) _) (Nat.le_refl _)) (by simp)).row; simp only [World.size_alloc] at h; exact h) (show A.heap.size + 2 ≤ ((A.alloc (.cells #[.int .i64 x0.op, .string x0.a, .slice p0' x0.ks.list.length c0'] 25)).alloc (.cells #[.int .i64 x1.op, .string x1.a, .slice p1' x1.ks.list.length c1'] 25)).heap.size by simp); simp only [World.size_alloc] at h; exact h).below ((Below.refl _ _).alloc (by simp) _) (by simp))
  rw [← eO]
  have rwO := Below.trans (show Below w.heap.size w _ by ((repeat (first | with_reducible assumption | with_reducible exact Below.refl _ _ | refine Below.setCell ?_ (by (first | omega | (simp; omega) | (simp; done) | fail "sml")) _ | refine Below.drew ?_ | refine Below.alloc ?_ (by (first | omega | (simp; omega) | (simp; done) | fail "sml")) _)); first | done | fail "chs")) (kO.mono (by (first | omega | (simp; omega) | (simp; done) | fail "sml")))
  have rWO := Below.trans (show Below W.heap.size W _ by ((repeat (first | with_reducible assumption | with_reducible exact Below.refl _ _ | refine Below.setCell ?_ (by (first | omega | (simp; omega) | (simp; done) | fail "sml")) _ | refine Below.drew ?_ | refine Below.alloc ?_ (by (first | omega | (simp; omega) | (simp; done) | fail "sml")) _)); first | done | fail "chs")) (kO.mono (by (first | omega | (simp; omega) | (simp; done) | fail "sml")))
  have rDO := Below.trans (show Below D.heap.size D _ by ((repeat (first | with_reducible assumption | with_reducible exact Below.refl _ _ | refine Below.setCell ?_ (by (first | omega | (simp; omega) | (simp; done) | fail "sml")) _ | refine Below.drew ?_ | refine Below.alloc ?_ (by (first | omega | (simp; omega) | (simp; done) | fail "sml")) _)); first | done | fail "chs")) (kO.mono (by (first | omega | (simp; omega) | (simp; done) | fail "sml")))
  have rAO := Below.trans (show Below A.heap.size A _ by ((repeat (first | with_reducible assumption | with_reducible exact Below.refl _ _ | refine Below.setCell ?_ (by (first | omega | (simp; omega) | (simp; done) | fail "sml")) _ | refine Below.drew ?_ | refine Below.alloc ?_ (by (first | omega | (simp; omega) | (simp; done) | fail "sml")) _)); first | done | fail "chs")) (kO.mono (by (first | omega | (simp; omega) | (simp; done) | fail "sml")))
  have HKO := Lib.hid (fun (E : World) (hE : Below O.heap.size O E) => (⟨keepc hE sO HCO.out.1, keepc hE sO HCO.out.2.1, keepc hE sO HCO.out.2.2⟩ : E.cell? ⟨A.heap.size + 1 + 1 + 1, 0, none⟩ = some (.int .i64 5) ∧ E.cell? ⟨A.heap.size + 1 + 1 + 1, 1, none⟩ = some (.string ⟨#[]⟩) ∧ E.cell? ⟨A.heap.size + 1 + 1 + 1, 2, none⟩ = some (.slice (some ⟨A.heap.size + 1 + 1, 0, none⟩) 2 2)))
  have rO0 := Below.refl O.heap.size O
  obtain ⟨yO0, yO1, yO2⟩ := HKO.out _ rO0
  clear eO kO
  clear yW0 yW1 yW2
  obtain ⟨yW0, yW1, yW2⟩ := HKW.out _ rWO
  clear yD0 yD1 yD2
  obtain ⟨yD0, yD1, yD2⟩ := HKD.out _ rDO
  clear yA0 yA1 yA2
  obtain ⟨yA0, yA1, yA2⟩ := HKA.out _ rAO
  cases EA : exV 2 (notE (twoE 4 x0 x1)) with
  | false =>
    go_wp2_with fail
    refine Calls.mono (EB ▸ specNumHolds_any x0 _ n W.heap.size _ (HAW.out.below (show Below W.heap.size W _ by ((repeat (first | with_reducible assumption | with_reducible exact Below.refl _ _ | refine Below.setCell ?_ (by (first | omega | (simp; omega) | (simp; done) | fail "sml")) _ | refine Below.drew ?_ | refine Below.alloc ?_ (by (first | omega | (simp; omega) | (simp; done) | fail "sml")) _)); first | done | fail "chs")) (Nat.le_refl _)) (show Below W.heap.size W _ by ((repeat (first | with_reducible assumption | with_reducible exact Below.refl _ _ | refine Below.setCell ?_ (by (first | omega | (simp; omega) | (simp; done) | fail "sml")) _ | refine Below.drew ?_ | refine Below.alloc ?_ (by (first | omega | (simp; omega) | (simp; done) | fail "sml")) _)); first | done | fail "chs")).size hsm0.1 hsm0.2) ?_
    rintro en u4 ⟨rfl, hb⟩
    have rwu4 := Below.trans (show Below w.heap.size w _ by ((repeat (first | with_reducible assumption | with_reducible exact Below.refl _ _ | refine Below.setCell ?_ (by (first | omega | (simp; omega) | (simp; done) | fail "sml")) _ | refine Below.drew ?_ | refine Below.alloc ?_ (by (first | omega | (simp; omega) | (simp; done) | fail "sml")) _)); first | done | fail "chs")) (hb.mono (by (first | omega | (simp; omega) | (simp; done) | fail "sml")))
    have zwu4 := rwu4.size
    have rWu4 := Below.trans (show Below W.heap.size W _ by ((repeat (first | with_reducible assumption | with_reducible exact Below.refl _ _ | refine Below.setCell ?_ (by (first | omega | (simp; omega) | (simp; done) | fail "sml")) _ | refine Below.drew ?_ | refine Below.alloc ?_ (by (first | omega | (simp; omega) | (simp; done) | fail "sml")) _)); first | done | fail "chs")) (hb.mono (by (first | omega | (simp; omega) | (simp; done) | fail "sml")))
    have zWu4 := rWu4.size
    have rDu4 := Below.trans (show Below D.heap.size D _ by ((repeat (first | with_reducible assumption | with_reducible exact Below.refl _ _ | refine Below.setCell ?_ (by (first | omega | (simp; omega) | (simp; done) | fail "sml")) _ | refine Below.drew ?_ | refine Below.alloc ?_ (by (first | omega | (simp; omega) | (simp; done) | fail "sml")) _)); first | done | fail "chs")) (hb.mono (by (first | omega | (simp; omega) | (simp; done) | fail "sml")))
    have zDu4 := rDu4.size
    have rAu4 := Below.trans (show Below A.heap.size A _ by ((repeat (first | with_reducible assumption | with_reducible exact Below.refl _ _ | refine Below.setCell ?_ (by (first | omega | (simp; omega) | (simp; done) | fail "sml")) _ | refine Below.drew ?_ | refine Below.alloc ?_ (by (first | omega | (simp; omega) | (simp; done) | fail "sml")) _)); first | done | fail "chs")) (hb.mono (by (first | omega | (simp; omega) | (simp; done) | fail "sml")))
    have zAu4 := rAu4.size
    have rOu4 := Below.trans (show Below O.heap.size O _ by ((repeat (first | with_reducible assumption | with_reducible exact Below.refl _ _ | refine Below.setCell ?_ (by (first | omega | (simp; omega) | (simp; done) | fail "sml")) _ | refine Below.drew ?_ | refine Below.alloc ?_ (by (first | omega | (simp; omega) | (simp; done) | fail "sml")) _)); first | done | fail "chs")) (hb.mono (by (first | omega | (simp; omega) | (simp; done) | fail "sml")))
    have zOu4 := rOu4.size
    clear hb yW0 yW1 yW2 yD0 yD1 yD2 yA0 yA1 yA2 yO0 yO1 yO2
    obtain ⟨yW0, yW1, yW2⟩ := HKW.out _ rWu4
    obtain ⟨yD0, yD1, yD2⟩ := HKD.out _ rDu4
    obtain ⟨yA0, yA1, yA2⟩ := HKA.out _ rAu4
    obtain ⟨yO0, yO1, yO2⟩ := HKO.out _ rOu4
    go_wp2_with fail
    refine Calls.mono (EA ▸ exprValid_any (notE (twoE 4 x0 x1)) _ 2 A.heap.size _ (HAA.out.below (show Below A.heap.size A _ by ((repeat (first | with_reducible assumption | with_reducible exact Below.refl _ _ | refine Below.setCell ?_ (by (first | omega | (simp; omega) | (simp; done) | fail "sml")) _ | refine Below.drew ?_ | refine Below.alloc ?_ (by (first | omega | (simp; omega) | (simp; done) | fail "sml")) _)); first | done | fail "chs")) (Nat.le_refl _)) (show Below A.heap.size A _ by ((repeat (first | with_reducible assumption | with_reducible exact Below.refl _ _ | refine Below.setCell ?_ (by (first | omega | (simp; omega) | (simp; done) | fail "sml")) _ | refine Below.drew ?_ | refine Below.alloc ?_ (by (first | omega | (simp; omega) | (simp; done) | fail "sml")) _)); first | done | fail "chs")).size (notE_sml (twoE_sml hsm0 hsm1)).1 (notE_sml (twoE_sml hsm0 hsm1)).2 (HVV.out.below (show Below w.heap.size w _ by ((repeat (first | with_reducible assumption | with_reducible exact Below.refl _ _ | refine Below.setCell ?_ (by (first | omega | (simp; omega) | (simp; done) | fail "sml")) _ | refine Below.drew ?_ | refine Below.alloc ?_ (by (first | omega | (simp; omega) | (simp; done) | fail "sml")) _)); first | done | fail "chs")))) ?_
    rintro en u5 ⟨rfl, hb⟩
    have rwu5 := Below.trans (show Below w.heap.size w _ by ((repeat (first | with_reducible assumption | with_reducible exact Below.refl _ _ | refine Below.setCell ?_ (by (first | omega | (simp; omega) | (simp; done) | fail "sml")) _ | refine Below.drew ?_ | refine Below.alloc ?_ (by (first | omega | (simp; omega) | (simp; done) | fail "sml")) _)); first | done | fail "chs")) (hb.mono (by (first | omega | (simp; omega) | (simp; done) | fail "sml")))
    have zwu5 := rwu5.size
    have rWu5 := Below.trans (show Below W.heap.size W _ by ((repeat (first | with_reducible assumption | with_reducible exact Below.refl _ _ | refine Below.setCell ?_ (by (first | omega | (simp; omega) | (simp; done) | fail "sml")) _ | refine Below.drew ?_ | refine Below.alloc ?_ (by (first | omega | (simp; omega) | (simp; done) | fail "sml")) _)); first | done | fail "chs")) (hb.mono (by (first | omega | (simp; omega) | (simp; done) | fail "sml")))
    have zWu5 := rWu5.size
    have rDu5 := Below.trans (show Below D.heap.size D _ by ((repeat (first | with_reducible assumption | with_reducible exact Below.refl _ _ | refine Below.setCell ?_ (by (first | omega | (simp; omega) | (simp; done) | fail "sml")) _ | refine Below.drew ?_ | refine Below.alloc ?_ (by (first | omega | (simp; omega) | (simp; done) | fail "sml")) _)); first | done | fail "chs")) (hb.mono (by (first | omega | (simp; omega) | (simp; done) | fail "sml")))
    have zDu5 := rDu5.size
    have rAu5 := Below.trans (show Below A.heap.size A _ by ((repeat (first | with_reducible assumption | with_reducible exact Below.refl _ _ | refine Below.setCell ?_ (by (first | omega | (simp; omega) | (simp; done) | fail "sml")) _ | refine Below.drew ?_ | refine Below.alloc ?_ (by (first | omega | (simp; omega) | (simp; done) | fail "sml")) _)); first | done | fail "chs")) (hb.mono (by (first | omega | (simp; omega) | (simp; done) | fail "sml")))
    have zAu5 := rAu5.size
    have rOu5 := Below.trans (show Below O.heap.size O _ by ((repeat (first | with_reducible assumption | with_reducible exact Below.refl _ _ | refine Below.setCell ?_ (by (first | omega | (simp; omega) | (simp; done) | fail "sml")) _ | refine Below.drew ?_ | refine Below.alloc ?_ (by (first | omega | (simp; omega) | (simp; done) | fail "sml")) _)); first | done | fail "chs")) (hb.mono (by (first | omega | (simp; omega) | (simp; done) | fail "sml")))
    have zOu5 := rOu5.size
    clear hb yW0 yW1 yW2 yD0 yD1 yD2 yA0 yA1 yA2 yO0 yO1 yO2
    obtain ⟨yW0, yW1, yW2⟩ := HKW.out _ rWu5
    obtain ⟨yD0, yD1, yD2⟩ := HKD.out _ rDu5
    obtain ⟨yA0, yA1, yA2⟩ := HKA.out _ rAu5
    obtain ⟨yO0, yO1, yO2⟩ := HKO.out _ rOu5
    go_wp2_with fail
    refine Calls.mono (EB ▸ specNumHolds_any x0 _ n W.heap.size _ (HAW.out.below (show Below W.heap.size W _ by ((repeat (first | with_reducible assumption | with_reducible exact Below.refl _ _ | refine Below.setCell ?_ (by (first | omega | (simp; omega) | (simp; done) | fail "sml")) _ | refine Below.drew ?_ | refine Below.alloc ?_ (by (first | omega | (simp; omega) | (simp; done) | fail "sml")) _)); first | done | fail "chs")) (Nat.le_refl _)) (show Below W.heap.size W _ by ((repeat (first | with_reducible assumption | with_reducible exact Below.refl _ _ | refine Below.setCell ?_ (by (first | omega | (simp; omega) | (simp; done) | fail "sml")) _ | refine Below.drew ?_ | refine Below.alloc ?_ (by (first | omega | (simp; omega) | (simp; done) | fail "sml")) _)); first | done | fail "chs")).size hsm0.1 hsm0.2) ?_
    rintro en u6 ⟨rfl, hb⟩
    have rwu6 := Below.trans (show Below w.heap.size w _ by ((repeat (first | with_reducible assumption | with_reducible exact Below.refl _ _ | refine Below.setCell ?_ (by (first | omega | (simp; omega) | (simp; done) | fail "sml")) _ | refine Below.drew ?_ | refine Below.alloc ?_ (by (first | omega | (simp; omega) | (simp; done) | fail "sml")) _)); first | done | fail "chs")) (hb.mono (by (first | omega | (simp; omega) | (simp; done) | fail "sml")))
    have zwu6 := rwu6.size
    have rWu6 := Below.trans (show Below W.heap.size W _ by ((repeat (first | with_reducible assumption | with_reducible exact Below.refl _ _ | refine Below.setCell ?_ (by (first | omega | (simp; omega) | (simp; done) | fail "sml")) _ | refine Below.drew ?_ | refine Below.alloc ?_ (by (first | omega | (simp; omega) | (simp; done) | fail "sml")) _)); first | done | fail "chs")) (hb.mono (by (first | omega | (simp; omega) | (simp; done) | fail "sml")))
    have zWu6 := rWu6.size
    have rDu6 := Below.trans (show Below D.heap.size D _ by ((repeat (first | with_reducible assumption | with_reducible exact Below.refl _ _ | refine Below.setCell ?_ (by (first | omega | (simp; omega) | (simp; done) | fail "sml")) _ | refine Below.drew ?_ | refine Below.alloc ?_ (by (first | omega | (simp; omega) | (simp; done) | fail "sml")) _)); first | done | fail "chs")) (hb.mono (by (first | omega | (simp; omega) | (simp; done) | fail "sml")))
    have zDu6 := rDu6.size
    have rAu6 := Below.trans (show Below A.heap.size A _ by ((repeat (first | with_reducible assumption | with_reducible exact Below.refl _ _ | refine Below.setCell ?_ (by (first | omega | (simp; omega) | (simp; done) | fail "sml")) _ | refine Below.drew ?_ | refine Below.alloc ?_ (by (first | omega | (simp; omega) | (simp; done) | fail "sml")) _)); first | done | fail "chs")) (hb.mono (by (first | omega | (simp; omega) | (simp; done) | fail "sml")))
    have zAu6 := rAu6.size
    have rOu6 := Below.trans (show Below O.heap.size O _ by ((repeat (first | with_reducible assumption | with_reducible exact Below.refl _ _ | refine Below.setCell ?_ (by (first | omega | (simp; omega) | (simp; done) | fail "sml")) _ | refine Below.drew ?_ | refine Below.alloc ?_ (by (first | omega | (simp; omega) | (simp; done) | fail "sml")) _)); first | done | fail "chs")) (hb.mono (by (first | omega | (simp; omega) | (simp; done) | fail "sml")))
    have zOu6 := rOu6.size
    clear hb yW0 yW1 yW2 yD0 yD1 yD2 yA0 yA1 yA2 yO0 yO1 yO2
    obtain ⟨yW0, yW1, yW2⟩ := HKW.out _ rWu6
    obtain ⟨yD0, yD1, yD2⟩ := HKD.out _ rDu6
    obtain ⟨yA0, yA1, yA2⟩ := HKA.out _ rAu6
    obtain ⟨yO0, yO1, yO2⟩ := HKO.out _ rOu6
    go_wp2_with fail
    go_ret
    exact ⟨rfl, by ((repeat (first | with_reducible assumption | with_reducible exact Below.refl _ _ | refine Below.setCell ?_ (by (first | omega | (simp; omega) | (simp; done) | fail "sml")) _ | refine Below.drew ?_ | refine Below.alloc ?_ (by (first | omega | (simp; omega) | (simp; done) | fail "sml")) _)); first | done | fail "chs")⟩
  | true =>
    go_wp2_with fail
    refine Calls.mono (EB ▸ specNumHolds_any x0 _ n W.heap.size _ (HAW.out.below (show Below W.heap.size W _ by ((repeat (first | with_reducible assumption | with_reducible exact Below.refl _ _ | refine Below.setCell ?_ (by (first | omega | (simp; omega) | (simp; done) | fail "sml")) _ | refine Below.drew ?_ | refine Below.alloc ?_ (by (first | omega | (simp; omega) | (simp; done) | fail "sml")) _)); first | done | fail "chs")) (Nat.le_refl _)) (show Below W.heap.size W _ by ((repeat (first | with_reducible assumption | with_reducible exact Below.refl _ _ | refine Below.setCell ?_ (by (first | omega | (simp; omega) | (simp; done) | fail "sml")) _ | refine Below.drew ?_ | refine Below.alloc ?_ (by (first | omega | (simp; omega) | (simp; done) | fail "sml")) _)); first | done | fail "chs")).size hsm0.1 hsm0.2) ?_
    rintro en u4 ⟨rfl, hb⟩
    have rwu4 := Below.trans (show Below w.heap.size w _ by ((repeat (first | with_reducible assumption | with_reducible exact Below.refl _ _ | refine Below.setCell ?_ (by (first | omega | (simp; omega) | (simp; done) | fail "sml")) _ | refine Below.drew ?_ | refine Below.alloc ?_ (by (first | omega | (simp; omega) | (simp; done) | fail "sml")) _)); first | done | fail "chs")) (hb.mono (by (first | omega | (simp; omega) | (simp; done) | fail "sml")))
    have zwu4 := rwu4.size
    have rWu4 := Below.trans (show Below W.heap.size W _ by ((repeat (first | with_reducible assumption | with_reducible exact Below.refl _ _ | refine Below.setCell ?_ (by (first | omega | (simp; omega) | (simp; done) | fail "sml")) _ | refine Below.drew ?_ | refine Below.alloc ?_ (by (first | omega | (simp; omega) | (simp; done) | fail "sml")) _)); first | done | fail "chs")) (hb.mono (by (first | omega | (simp; omega) | (simp; done) | fail "sml")))
    have zWu4 := rWu4.size
    have rDu4 := Below.trans (show Below D.heap.size D _ by ((repeat (first | with_reducible assumption | with_reducible exact Below.refl _ _ | refine Below.setCell ?_ (by (first | omega | (simp; omega) | (simp; done) | fail "sml")) _ | refine Below.drew ?_ | refine Below.alloc ?_ (by (first | omega | (simp; omega) | (simp; done) | fail "sml")) _)); first | done | fail "chs")) (hb.mono (by (first | omega | (simp; omega) | (simp; done) | fail "sml")))
    have zDu4 := rDu4.size
    have rAu4 := Below.trans (show Below A.heap.size A _ by ((repeat (first | with_reducible assumption | with_reducible exact Below.refl _ _ | refine Below.setCell ?_ (by (first | omega | (simp; omega) | (simp; done) | fail "sml")) _ | refine Below.drew ?_ | refine Below.alloc ?_ (by (first | omega | (simp; omega) | (simp; done) | fail "sml")) _)); first | done | fail "chs")) (hb.mono (by (first | omega | (simp; omega) | (simp; done) | fail "sml")))
    have zAu4 := rAu4.size
    have rOu4 := Below.trans (show Below O.heap.size O _ by ((repeat (first | with_reducible assumption | with_reducible exact Below.refl _ _ | refine Below.setCell ?_ (by (first | omega | (simp; omega) | (simp; done) | fail "sml")) _ | refine Below.drew ?_ | refine Below.alloc ?_ (by (first | omega | (simp; omega) | (simp; done) | fail "sml")) _)); first | done | fail "chs")) (hb.mono (by (first | omega | (simp; omega) | (simp; done) | fail "sml")))
    have zOu4 := rOu4.size
    clear hb yW0 yW1 yW2 yD0 yD1 yD2 yA0 yA1 yA2 yO0 yO1 yO2
    obtain ⟨yW0, yW1, yW2⟩ := HKW.out _ rWu4
    obtain ⟨yD0, yD1, yD2⟩ := HKD.out _ rDu4
    obtain ⟨yA0, yA1, yA2⟩ := HKA.out _ rAu4
    obtain ⟨yO0, yO1, yO2⟩ := HKO.out _ rOu4
    go_wp2_with fail
    refine Calls.mono (EA ▸ exprValid_any (notE (twoE 4 x0 x1)) _ 2 A.heap.size _ (HAA.out.below (show Below A.heap.size A _ by ((repeat (first | with_reducible assumption | with_reducible exact Below.refl _ _ | refine Below.setCell ?_ (by (first | omega | (simp; omega) | (simp; done) | fail "sml")) _ | refine Below.drew ?_ | refine Below.alloc ?_ (by (first | omega | (simp; omega) | (simp; done) | fail "sml")) _)); first | done | fail "chs")) (Nat.le_refl _)) (show Below A.heap.size A _ by ((repeat (first | with_reducible assumption | with_reducible exact Below.refl _ _ | refine Below.setCell ?_ (by (first | omega | (simp; omega) | (simp; done) | fail "sml")) _ | refine Below.drew ?_ | refine Below.alloc ?_ (by (first | omega | (simp; omega) | (simp; done) | fail "sml")) _)); first | done | fail "chs")).size (notE_sml (twoE_sml hsm0 hsm1)).1 (notE_sml (twoE_sml hsm0 hsm1)).2 (HVV.out.below (show Below w.heap.size w _ by ((repeat (first | with_reducible assumption | with_reducible exact Below.refl _ _ | refine Below.setCell ?_ (by (first | omega | (simp; omega) | (simp; done) | fail "sml")) _ | refine Below.drew ?_ | refine Below.alloc ?_ (by (first | omega | (simp; omega) | (simp; done) | fail "sml")) _)); first | done | fail "chs")))) ?_
    rintro en u5 ⟨rfl, hb⟩
    have rwu5 := Below.trans (show Below w.heap.size w _ by ((repeat (first | with_reducible assumption | with_reducible exact Below.refl _ _ | refine Below.setCell ?_ (by (first | omega | (simp; omega) | (simp; done) | fail "sml")) _ | refine Below.drew ?_ | refine Below.alloc ?_ (by (first | omega | (simp; omega) | (simp; done) | fail "sml")) _)); first | done | fail "chs")) (hb.mono (by (first | omega | (simp; omega) | (simp; done) | fail "sml")))
    have zwu5 := rwu5.size
    have rWu5 := Below.trans (show Below W.heap.size W _ by ((repeat (first | with_reducible assumption | with_reducible exact Below.refl _ _ | refine Below.setCell ?_ (by (first | omega | (simp; omega) | (simp; done) | fail "sml")) _ | refine Below.drew ?_ | refine Below.alloc ?_ (by (first | omega | (simp; omega) | (simp; done) | fail "sml")) _)); first | done | fail "chs")) (hb.mono (by (first | omega | (simp; omega) | (simp; done) | fail "sml")))
    have zWu5 := rWu5.size
    have rDu5 := Below.trans (show Below D.heap.size D _ by ((repeat (first | with_reducible assumption | with_reducible exact Below.refl _ _ | refine Below.setCell ?_ (by (first | omega | (simp; omega) | (simp; done) | fail "sml")) _ | refine Below.drew ?_ | refine Below.alloc ?_ (by (first | omega | (simp; omega) | (simp; done) | fail "sml")) _)); first | done | fail "chs")) (hb.mono (by (first | omega | (simp; omega) | (simp; done) | fail "sml")))
    have zDu5 := rDu5.size
    have rAu5 := Below.trans (show Below A.heap.size A _ by ((repeat (first | with_reducible assumption | with_reducible exact Below.refl _ _ | refine Below.setCell ?_ (by (first | omega | (simp; omega) | (simp; done) | fail "sml")) _ | refine Below.drew ?_ | refine Below.alloc ?_ (by (first | omega | (simp; omega) | (simp; done) | fail "sml")) _)); first | done | fail "chs")) (hb.mono (by (first | omega | (simp; omega) | (simp; done) | fail "sml")))
    have zAu5 := rAu5.size
    have rOu5 := Below.trans (show Below O.heap.size O _ by ((repeat (first | with_reducible assumption | with_reducible exact Below.refl _ _ | refine Below.setCell ?_ (by (first | omega | (simp; omega) | (simp; done) | fail "sml")) _ | refine Below.drew ?_ | refine Below.alloc ?_ (by (first | omega | (simp; omega) | (simp; done) | fail "sml")) _)); first | done | fail "chs")) (hb.mono (by (first | omega | (simp; omega) | (simp; done) | fail "sml")))
    have zOu5 := rOu5.size
    clear hb yW0 yW1 yW2 yD0 yD1 yD2 yA0 yA1 yA2 yO0 yO1 yO2
    obtain ⟨yW0, yW1, yW2⟩ := HKW.out _ rWu5
    obtain ⟨yD0, yD1, yD2⟩ := HKD.out _ rDu5
    obtain ⟨yA0, yA1, yA2⟩ := HKA.out _ rAu5
    obtain ⟨yO0, yO1, yO2⟩ := HKO.out _ rOu5
    go_wp2_with fail
    cases EO : exV 2 (twoE 5 (notE x0) (notE x1)) with
    | false =>
      refine Calls.mono (EO ▸ exprValid_any (twoE 5 (notE x0) (notE x1)) _ 2 O.heap.size _ (HAO.out.below (show Below O.heap.size O _ by ((repeat (first | with_reducible assumption | with_reducible exact Below.refl _ _ | refine Below.setCell ?_ (by (first | omega | (simp; omega) | (simp; done) | fail "sml")) _ | refine Below.drew ?_ | refine Below.alloc ?_ (by (first | omega | (simp; omega) | (simp; done) | fail "sml")) _)); first | done | fail "chs")) (Nat.le_refl _)) (show Below O.heap.size O _ by ((repeat (first | with_reducible assumption | with_reducible exact Below.refl _ _ | refine Below.setCell ?_ (by (first | omega | (simp; omega) | (simp; done) | fail "sml")) _ | refine Below.drew ?_ | refine Below.alloc ?_ (by (first | omega | (simp; omega) | (simp; done) | fail "sml")) _)); first | done | fail "chs")).size (twoE_sml (notE_sml hsm0) (notE_sml hsm1)).1 (twoE_sml (notE_sml hsm0) (notE_sml hsm1)).2 (HVV.out.below (show Below w.heap.size w _ by ((repeat (first | with_reducible assumption | with_reducible exact Below.refl _ _ | refine Below.setCell ?_ (by (first | omega | (simp; omega) | (simp; done) | fail "sml")) _ | refine Below.drew ?_ | refine Below.alloc ?_ (by (first | omega | (simp; omega) | (simp; done) | fail "sml")) _)); first | done | fail "chs")))) ?_
      rintro en u6 ⟨rfl, hb⟩
      have rwu6 := Below.trans (show Below w.heap.size w _ by ((repeat (first | with_reducible assumption | with_reducible exact Below.refl _ _ | refine Below.setCell ?_ (by (first | omega | (simp; omega) | (simp; done) | fail "sml")) _ | refine Below.drew ?_ | refine Below.alloc ?_ (by (first | omega | (simp; omega) | (simp; done) | fail "sml")) _)); first | done | fail "chs")) (hb.mono (by (first | omega | (simp; omega) | (simp; done) | fail "sml")))
      have zwu6 := rwu6.size
      have rWu6 := Below.trans (show Below W.heap.size W _ by ((repeat (first | with_reducible assumption | with_reducible exact Below.refl _ _ | refine Below.setCell ?_ (by (first | omega | (simp; omega) | (simp; done) | fail "sml")) _ | refine Below.drew ?_ | refine Below.alloc ?_ (by (first | omega | (simp; omega) | (simp; done) | fail "sml")) _)); first | done | fail "chs")) (hb.mono (by (first | omega | (simp; omega) | (simp; done) | fail "sml")))
      have zWu6 := rWu6.size
      have rDu6 := Below.trans (show Below D.heap.size D _ by ((repeat (first | with_reducible assumption | with_reducible exact Below.refl _ _ | refine Below.setCell ?_ (by (first | omega | (simp; omega) | (simp; done) | fail "sml")) _ | refine Below.drew ?_ | refine Below.alloc ?_ (by (first | omega | (simp; omega) | (simp; done) | fail "sml")) _)); first | done | fail "chs")) (hb.mono (by (first | omega | (simp; omega) | (simp; done) | fail "sml")))
      have zDu6 := rDu6.size
      have rAu6 := Below.trans (show Below A.heap.size A _ by ((repeat (first | with_reducible assumption | with_reducible exact Below.refl _ _ | refine Below.setCell ?_ (by (first | omega | (simp; omega) | (simp; done) | fail "sml")) _ | refine Below.drew ?_ | refine Below.alloc ?_ (by (first | omega | (simp; omega) | (simp; done) | fail "sml")) _)); first | done | fail "chs")) (hb.mono (by (first | omega | (simp; omega) | (simp; done) | fail "sml")))
      have zAu6 := rAu6.size
      have rOu6 := Below.trans (show Below O.heap.size O _ by ((repeat (first | with_reducible assumption | with_reducible exact Below.refl _ _ | refine Below.setCell ?_ (by (first | omega | (simp; omega) | (simp; done) | fail "sml")) _ | refine Below.drew ?_ | refine Below.alloc ?_ (by (first | omega | (simp; omega) | (simp; done) | fail "sml")) _)); first | done | fail "chs")) (hb.mono (by (first | omega | (simp; omega) | (simp; done) | fail "sml")))
      have zOu6 := rOu6.size
      clear hb yW0 yW1 yW2 yD0 yD1 yD2 yA0 yA1 yA2 yO0 yO1 yO2
      obtain ⟨yW0, yW1, yW2⟩ := HKW.out _ rWu6
      obtain ⟨yD0, yD1, yD2⟩ := HKD.out _ rDu6
      obtain ⟨yA0, yA1, yA2⟩ := HKA.out _ rAu6
      obtain ⟨yO0, yO1, yO2⟩ := HKO.out _ rOu6
      go_wp2_with fail
      refine Calls.mono (EB ▸ specNumHolds_any x0 _ n W.heap.size _ (HAW.out.below (show Below W.heap.size W _ by ((repeat (first | with_reducible assumption | with_reducible exact Below.refl _ _ | refine Below.setCell ?_ (by (first | omega | (simp; omega) | (simp; done) | fail "sml")) _ | refine Below.drew ?_ | refine Below.alloc ?_ (by (first | omega | (simp; omega) | (simp; done) | fail "sml")) _)); first | done | fail "chs")) (Nat.le_refl _)) (show Below W.heap.size W _ by ((repeat (first | with_reducible assumption | with_reducible exact Below.refl _ _ | refine Below.setCell ?_ (by (first | omega | (simp; omega) | (simp; done) | fail "sml")) _ | refine Below.drew ?_ | refine Below.alloc ?_ (by (first | omega | (simp; omega) | (simp; done) | fail "sml")) _)); first | done | fail "chs")).size hsm0.1 hsm0.2) ?_
      rintro en u7 ⟨rfl, hb⟩
      have rwu7 := Below.trans (show Below w.heap.size w _ by ((repeat (first | with_reducible assumption | with_reducible exact Below.refl _ _ | refine Below.setCell ?_ (by (first | omega | (simp; omega) | (simp; done) | fail "sml")) _ | refine Below.drew ?_ | refine Below.alloc ?_ (by (first | omega | (simp; omega) | (simp; done) | fail "sml")) _)); first | done | fail "chs")) (hb.mono (by (first | omega | (simp; omega) | (simp; done) | fail "sml")))
      have zwu7 := rwu7.size
      have rWu7 := Below.trans (show Below W.heap.size W _ by ((repeat (first | with_reducible assumption | with_reducible exact Below.refl _ _ | refine Below.setCell ?_ (by (first | omega | (simp; omega) | (simp; done) | fail "sml")) _ | refine Below.drew ?_ | refine Below.alloc ?_ (by (first | omega | (simp; omega) | (simp; done) | fail "sml")) _)); first | done | fail "chs")) (hb.mono (by (first | omega | (simp; omega) | (simp; done) | fail "sml")))
      have zWu7 := rWu7.size
      have rDu7 := Below.trans (show Below D.heap.size D _ by ((repeat (first | with_reducible assumption | with_reducible exact Below.refl _ _ | refine Below.setCell ?_ (by (first | omega | (simp; omega) | (simp; done) | fail "sml")) _ | refine Below.drew ?_ | refine Below.alloc ?_ (by (first | omega | (simp; omega) | (simp; done) | fail "sml")) _)); first | done | fail "chs")) (hb.mono (by (first | omega | (simp; omega) | (simp; done) | fail "sml")))
      have zDu7 := rDu7.size
      have rAu7 := Below.trans (show Below A.heap.size A _ by ((repeat (first | with_reducible assumption | with_reducible exact Below.refl _ _ | refine Below.setCell ?_ (by (first | omega | (simp; omega) | (simp; done) | fail "sml")) _ | refine Below.drew ?_ | refine Below.alloc ?_ (by (first | omega | (simp; omega) | (simp; done) | fail "sml")) _)); first | done | fail "chs")) (hb.mono (by (first | omega | (simp; omega) | (simp; done) | fail "sml")))
      have zAu7 := rAu7.size
      have rOu7 := Below.trans (show Below O.heap.size O _ by ((repeat (first | with_reducible assumption | with_reducible exact Below.refl _ _ | refine Below.setCell ?_ (by (first | omega | (simp; omega) | (simp; done) | fail "sml")) _ | refine Below.drew ?_ | refine Below.alloc ?_ (by (first | omega | (simp; omega) | (simp; done) | fail "sml")) _)); first | done | fail "chs")) (hb.mono (by (first | omega | (simp; omega) | (simp; done) | fail "sml")))
      have zOu7 := rOu7.size
      clear hb yW0 yW1 yW2 yD0 yD1 yD2 yA0 yA1 yA2 yO0 yO1 yO2
      obtain ⟨yW0, yW1, yW2⟩ := HKW.out _ rWu7
      obtain ⟨yD0, yD1, yD2⟩ := HKD.out _ rDu7
      obtain ⟨yA0, yA1, yA2⟩ := HKA.out _ rAu7
      obtain ⟨yO0, yO1, yO2⟩ := HKO.out _ rOu7
      go_wp2_with fail
      go_ret
      exact ⟨rfl, by ((repeat (first | with_reducible assumption | with_reducible exact Below.refl _ _ | refine Below.setCell ?_ (by (first | omega | (simp; omega) | (simp; done) | fail "sml")) _ | refine Below.drew ?_ | refine Below.alloc ?_ (by (first | omega | (simp; omega) | (simp; done) | fail "sml")) _)); first | done | fail "chs")⟩
    | true =>
      refine Calls.mono (EO ▸ exprValid_any (twoE 5 (notE x0) (notE x1)) _ 2 O.heap.size _ (HAO.out.below (show Below O.heap.size O _ by ((repeat (first | with_reducible assumption | with_reducible exact Below.refl _ _ | refine Below.setCell ?_ (by (first | omega | (simp; omega) | (simp; done) | fail "sml")) _ | refine Below.drew ?_ | refine Below.alloc ?_ (by (first | omega | (simp; omega) | (simp; done) | fail "sml")) _)); first | done | fail "chs")) (Nat.le_refl _)) (show Below O.heap.size O _ by ((repeat (first | with_reducible assumption | with_reducible exact Below.refl _ _ | refine Below.setCell ?_ (by (first | omega | (simp; omega) | (simp; done) | fail "sml")) _ | refine Below.drew ?_ | refine Below.alloc ?_ (by (first | omega | (simp; omega) | (simp; done) | fail "sml")) _)); first | done | fail "chs")).size (twoE_sml (notE_sml hsm0) (notE_sml hsm1)).1 (twoE_sml (notE_sml hsm0) (notE_sml hsm1)).2 (HVV.out.below (show Below w.heap.size w _ by ((repeat (first | with_reducible assumption | with_reducible exact Below.refl _ _ | refine Below.setCell ?_ (by (first | omega | (simp; omega) | (simp; done) | fail "sml")) _ | refine Below.drew ?_ | refine Below.alloc ?_ (by (first | omega | (simp; omega) | (simp; done) | fail "sml")) _)); first | done | fail "chs")))) ?_
      rintro en u6 ⟨rfl, hb⟩
      have rwu6 := Below.trans (show Below w.heap.size w _ by ((repeat (first | with_reducible assumption | with_reducible exact Below.refl _ _ | refine Below.setCell ?_ (by (first | omega | (simp; omega) | (simp; done) | fail "sml")) _ | refine Below.drew ?_ | refine Below.alloc ?_ (by (first | omega | (simp; omega) | (simp; done) | fail "sml")) _)); first | done | fail "chs")) (hb.mono (by (first | omega | (simp; omega) | (simp; done) | fail "sml")))
      have zwu6 := rwu6.size
      have rWu6 := Below.trans (show Below W.heap.size W _ by ((repeat (first | with_reducible assumption | with_reducible exact Below.refl _ _ | refine Below.setCell ?_ (by (first | omega | (simp; omega) | (simp; done) | fail "sml")) _ | refine Below.drew ?_ | refine Below.alloc ?_ (by (first | omega | (simp; omega) | (simp; done) | fail "sml")) _)); first | done | fail "chs")) (hb.mono (by (first | omega | (simp; omega) | (simp; done) | fail "sml")))
      have zWu6 := rWu6.size
      have rDu6 := Below.trans (show Below D.heap.size D _ by ((repeat (first | with_reducible assumption | with_reducible exact Below.refl _ _ | refine Below.setCell ?_ (by (first | omega | (simp; omega) | (simp; done) | fail "sml")) _ | refine Below.drew ?_ | refine Below.alloc ?_ (by (first | omega | (simp; omega) | (simp; done) | fail "sml")) _)); first | done | fail "chs")) (hb.mono (by (first | omega | (simp; omega) | (simp; done) | fail "sml")))
      have zDu6 := rDu6.size
      have rAu6 := Below.trans (show Below A.heap.size A _ by ((repeat (first | with_reducible assumption | with_reducible exact Below.refl _ _ | refine Below.setCell ?_ (by (first | omega | (simp; omega) | (simp; done) | fail "sml")) _ | refine Below.drew ?_ | refine Below.alloc ?_ (by (first | omega | (simp; omega) | (simp; done) | fail "sml")) _)); first | done | fail "chs")) (hb.mono (by (first | omega | (simp; omega) | (simp; done) | fail "sml")))
      have zAu6 := rAu6.size
      have rOu6 := Below.trans (show Below O.heap.size O _ by ((repeat (first | with_reducible assumption | with_reducible exact Below.refl _ _ | refine Below.setCell ?_ (by (first | omega | (simp; omega) | (simp; done) | fail "sml")) _ | refine Below.drew ?_ | refine Below.alloc ?_ (by (first | omega | (simp; omega) | (simp; done) | fail "sml")) _)); first | done | fail "chs")) (hb.mono (by (first | omega | (simp; omega) | (simp; done) | fail "sml")))
      have zOu6 := rOu6.size
      clear hb yW0 yW1 yW2 yD0 yD1 yD2 yA0 yA1 yA2 yO0 yO1 yO2
      obtain ⟨yW0, yW1, yW2⟩ := HKW.out _ rWu6
      obtain ⟨yD0, yD1, yD2⟩ := HKD.out _ rDu6
      obtain ⟨yA0, yA1, yA2⟩ := HKA.out _ rAu6
      obtain ⟨yO0, yO1, yO2⟩ := HKO.out _ rOu6
      obtain ⟨m, EM⟩ : ∃ m, nholds (notE (twoE 4 x0 x1)) n = m := ⟨_, rfl⟩
      have EM2 : nholds (twoE 5 (notE x0) (notE x1)) n = m := (nholds_morgan EA EO).symm.trans EM
      have HKK := Lib.hid (fun (E : World) (hE : Below u6.heap.size u6 E) => And.intro (HKA.out _ (rAu6.trans (hE.mono zAu6))) (HKO.out _ (rOu6.trans (hE.mono zOu6))))
      have HTA := Lib.hid (fun (E : World) (hE : Below u6.heap.size u6 E) => And.intro (HAA.out.below (rAu6.trans (hE.mono zAu6)) (Nat.le_refl _)) (HAO.out.below (rOu6.trans (hE.mono zOu6)) (Nat.le_refl _)))
      have HVZ := Lib.hid (fun (E : World) (hE : Below u6.heap.size u6 E) => And.intro (HVV.out.below (rwu6.trans (hE.mono zwu6))) hE.size)
      have ru60 := Below.refl u6.heap.size u6
      go_upto_region 10 with fail
      refine wp_region_held_drew (S := fun w' => (w'.cell? ⟨u3.heap.size + 1 + 1, 0, none⟩ = some (.int .i64 3) ∧ w'.cell? ⟨u3.heap.size + 1 + 1, 1, none⟩ = some (.string ⟨#[]⟩) ∧ w'.cell? ⟨u3.heap.size + 1 + 1, 2, none⟩ = some (.slice (some ⟨u3.heap.size + 1, 0, none⟩) 1 1)) ∧ (w'.cell? ⟨A.heap.size + 1 + 1 + 1, 0, none⟩ = some (.int .i64 5) ∧ w'.cell? ⟨A.heap.size + 1 + 1 + 1, 1, none⟩ = some (.string ⟨#[]⟩) ∧ w'.cell? ⟨A.heap.size + 1 + 1 + 1, 2, none⟩ = some (.slice (some ⟨A.heap.size + 1 + 1, 0, none⟩) 2 2))) (by kernel_rfl) ?_ (fun hHeld => ?_)
      · exact HKK.out _ (show Below u6.heap.size u6 _ by ((repeat (first | with_reducible assumption | with_reducible exact Below.refl _ _ | refine Below.setCell ?_ (by (first | omega | (simp; omega) | (simp; done) | fail "sml")) _ | refine Below.drew ?_ | refine Below.alloc ?_ (by (first | omega | (simp; omega) | (simp; done) | fail "sml")) _)); first | done | fail "chs"))
      (refine takeL (i := 0) (v := ?_) rfl (by kernel_rfl) (by kernel_rfl) (by kernel_rfl) (fun _ _ _ h => h) (Or.inl ⟨by kernel_rfl, ?_⟩) (by assumption) ?_; rotate_left; (focus (intro w hSw; (try dsimp only at hSw); go_simp; first | done | with_reducible rfl | fail "take")); (try simp only [Act.put, List.setIfInBounds_toArray, List.set_cons_zero, List.set_cons_succ]))
      (refine takeL (i := 1) (v := ?_) rfl (by kernel_rfl) (by kernel_rfl) (by kernel_rfl) (fun _ _ _ h => h) (Or.inl ⟨by kernel_rfl, ?_⟩) (by assumption) ?_; rotate_left; (focus (intro w hSw; (try dsimp only at hSw); go_simp; first | done | with_reducible rfl | fail "take")); (try simp only [Act.put, List.setIfInBounds_toArray, List.set_cons_zero, List.set_cons_succ]))
      (refine takeL (i := 3) (v := ?_) rfl (by kernel_rfl) (by kernel_rfl) (by kernel_rfl) (fun _ _ _ h => h) (Or.inl ⟨by kernel_rfl, ?_⟩) (by assumption) ?_; rotate_left; (focus (intro w hSw; (try dsimp only at hSw); go_simp; first | done | with_reducible rfl | fail "take")); (try simp only [Act.put, List.setIfInBounds_toArray, List.set_cons_zero, List.set_cons_succ]))
      (refine takeL (i := 4) (v := ?_) rfl (by kernel_rfl) (by kernel_rfl) (by kernel_rfl) (fun _ _ _ h => h) (Or.inl ⟨by kernel_rfl, ?_⟩) (by assumption) ?_; rotate_left; (focus (intro w hSw; (try dsimp only at hSw); go_simp; first | done | with_reducible rfl | fail "take")); (try simp only [Act.put, List.setIfInBounds_toArray, List.set_cons_zero, List.set_cons_succ]))
      (refine callL (i := 2) rfl (by kernel_rfl) (by kernel_rfl) (fun K hK => ?_); go_simp)
      go_at_call 16
      refine Calls.mono (EM ▸ numHolds_any (notE (twoE 4 x0 x1)) _ n A.heap.size _ (HTA.out _ (show Below u6.heap.size u6 _ by ((repeat (first | with_reducible assumption | with_reducible exact Below.refl _ _ | refine Below.setCell ?_ (by (first | omega | (simp; omega) | (simp; done) | fail "sml")) _ | refine Below.drew ?_ | refine Below.alloc ?_ (by (first | omega | (simp; omega) | (simp; done) | fail "sml")) _)); first | done | fail "chs"))).1 (Nat.le_trans zAu6 (HVZ.out _ (show Below u6.heap.size u6 _ by ((repeat (first | with_reducible assumption | with_reducible exact Below.refl _ _ | refine Below.setCell ?_ (by (first | omega | (simp; omega) | (simp; done) | fail "sml")) _ | refine Below.drew ?_ | refine Below.alloc ?_ (by (first | omega | (simp; omega) | (simp; done) | fail "sml")) _)); first | done | fail "chs"))).2) (notE_sml (twoE_sml hsm0 hsm1)).1 (notE_sml (twoE_sml hsm0 hsm1)).2 (HVZ.out _ (show Below u6.heap.size u6 _ by ((repeat (first | with_reducible assumption | with_reducible exact Below.refl _ _ | refine Below.setCell ?_ (by (first | omega | (simp; omega) | (simp; done) | fail "sml")) _ | refine Below.drew ?_ | refine Below.alloc ?_ (by (first | omega | (simp; omega) | (simp; done) | fail "sml")) _)); first | done | fail "chs"))).1) ?_
      rintro en wa ⟨rfl, hb⟩
      have rwa := Below.trans (show Below u6.heap.size u6 _ by ((repeat (first | with_reducible assumption | with_reducible exact Below.refl _ _ | refine Below.setCell ?_ (by (first | omega | (simp; omega) | (simp; done) | fail "sml")) _ | refine Below.drew ?_ | refine Below.alloc ?_ (by (first | omega | (simp; omega) | (simp; done) | fail "sml")) _)); first | done | fail "chs")) (hb.mono (by (first | omega | (simp; omega) | (simp; done) | fail "sml")))
      have zwa := rwa.size
      clear hb
      go_wp2_with fail
      refine hK.out _ _ (HKK.out _ (show Below u6.heap.size u6 _ by ((repeat (first | with_reducible assumption | with_reducible exact Below.refl _ _ | refine Below.setCell ?_ (by (first | omega | (simp; omega) | (simp; done) | fail "sml")) _ | refine Below.drew ?_ | refine Below.alloc ?_ (by (first | omega | (simp; omega) | (simp; done) | fail "sml")) _)); first | done | fail "chs"))) (fun hHeld => ?_)
      clear hK K
      (try simp only [Act.put, List.setIfInBounds_toArray, List.set_cons_zero, List.set_cons_succ])
      (refine callL (i := 5) rfl (by kernel_rfl) (by kernel_rfl) (fun K hK => ?_); go_simp)
      go_at_call 16
      refine Calls.mono (EM2 ▸ numHolds_any (twoE 5 (notE x0) (notE x1)) _ n O.heap.size _ (HTA.out _ (show Below u6.heap.size u6 _ by ((repeat (first | with_reducible assumption | with_reducible exact Below.refl _ _ | refine Below.setCell ?_ (by (first | omega | (simp; omega) | (simp; done) | fail "sml")) _ | refine Below.drew ?_ | refine Below.alloc ?_ (by (first | omega | (simp; omega) | (simp; done) | fail "sml")) _)); first | done | fail "chs"))).2 (Nat.le_trans zOu6 (HVZ.out _ (show Below u6.heap.size u6 _ by ((repeat (first | with_reducible assumption | with_reducible exact Below.refl _ _ | refine Below.setCell ?_ (by (first | omega | (simp; omega) | (simp; done) | fail "sml")) _ | refine Below.drew ?_ | refine Below.alloc ?_ (by (first | omega | (simp; omega) | (simp; done) | fail "sml")) _)); first | done | fail "chs"))).2) (twoE_sml (notE_sml hsm0) (notE_sml hsm1)).1 (twoE_sml (notE_sml hsm0) (notE_sml hsm1)).2 (HVZ.out _ (show Below u6.heap.size u6 _ by ((repeat (first | with_reducible assumption | with_reducible exact Below.refl _ _ | refine Below.setCell ?_ (by (first | omega | (simp; omega) | (simp; done) | fail "sml")) _ | refine Below.drew ?_ | refine Below.alloc ?_ (by (first | omega | (simp; omega) | (simp; done) | fail "sml")) _)); first | done | fail "chs"))).1) ?_
      rintro en wb ⟨rfl, hb⟩
      have rwb := Below.trans (show Below u6.heap.size u6 _ by ((repeat (first | with_reducible assumption | with_reducible exact Below.refl _ _ | refine Below.setCell ?_ (by (first | omega | (simp; omega) | (simp; done) | fail "sml")) _ | refine Below.drew ?_ | refine Below.alloc ?_ (by (first | omega | (simp; omega) | (simp; done) | fail "sml")) _)); first | done | fail "chs")) (hb.mono (by (first | omega | (simp; omega) | (simp; done) | fail "sml")))
      have zwb := rwb.size
      clear hb
      go_wp2_with fail
      refine hK.out _ _ (HKK.out _ (show Below u6.heap.size u6 _ by ((repeat (first | with_reducible assumption | with_reducible exact Below.refl _ _ | refine Below.setCell ?_ (by (first | omega | (simp; omega) | (simp; done) | fail "sml")) _ | refine Below.drew ?_ | refine Below.alloc ?_ (by (first | omega | (simp; omega) | (simp; done) | fail "sml")) _)); first | done | fail "chs"))) (fun hHeld => ?_)
      clear hK K
      (try simp only [Act.put, List.setIfInBounds_toArray, List.set_cons_zero, List.set_cons_succ])
      (refine takeL (i := 6) (v := ?_) rfl (by kernel_rfl) (by kernel_rfl) (by kernel_rfl) (fun _ _ _ h => h) (Or.inl ⟨by kernel_rfl, ?_⟩) (by assumption) ?_; rotate_left; (focus (intro w hSw; (try dsimp only at hSw); go_simp; first | done | with_reducible rfl | fail "take")); (try simp only [Act.put, List.setIfInBounds_toArray, List.set_cons_zero, List.set_cons_succ]))
      (refine takeL (i := 7) (v := ?_) rfl (by kernel_rfl) (by kernel_rfl) (by kernel_rfl) (fun _ _ _ h => h) (Or.inl ⟨by kernel_rfl, ?_⟩) (by assumption) ?_; rotate_left; (focus (intro w hSw; (try dsimp only at hSw); go_simp; first | done | with_reducible rfl | fail "take")); (try simp only [Act.put, List.setIfInBounds_toArray, List.set_cons_zero, List.set_cons_succ]))
      refine wpAnyH_done (by kernel_rfl) ?_ _
      go_wp2_with fail
      go_ret
      exact ⟨rfl, rwu6.trans (rwb.mono zwu6)⟩
end Go.Proofs.YtckkebjpkcfmnaaDoor
